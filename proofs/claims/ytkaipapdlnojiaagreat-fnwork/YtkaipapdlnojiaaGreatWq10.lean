import Derived.Test.YtkaipapdlnojiaaGreatWq09
set_option maxHeartbeats 40000000
set_option maxRecDepth 1000000
namespace Go.Proofs.YtkaipapdlnojiaaGreat
open Go.RowKit
variable {a b:Int}{c g i j k m n o:Nat}{bar:Nat->Bool}{B:Nat->Nat}{A:Nat->Nat->Rat}{v:Value}{W w w':World}
theorem Zh(h:m<=7):Cov.fac m<=5040:=by
 match m,h with
 |0,_=>decide
 |1,_=>decide
 |2,_=>decide
 |3,_=>decide
 |4,_=>decide
 |5,_=>decide
 |6,_=>decide
 |7,_=>decide
def rc(cost:Nat->Int):Nat->Rat:=λj=>((cost j:Int):Rat)
theorem uG{T:Nat->Nat->Rat}(h:Cov.Inv m n A T B)(hA:∀j,j<=n->∀r,r < m->Cov.Whole 1 (A j r))(hm:m<=7)(cost:Nat->Int)(hc:∀j,(cost j).natAbs<=1):
 (∀i,i < m->∀j,j<=n->Sm 41000 (T i j))/\(∀j,j<=n->∀i,i<=m->Sm 41000 (rc cost j - Cov.sm i (λI=>rc cost (B I)*T I j))):=by
 obtain⟨D,U,hD,V⟩:=h.small hA;have hf:=Zh hm;have K:∀j,Cov.Whole 1 (rc cost j):=λj=>⟨cost j,rfl,hc j⟩;refine⟨λi hi j M=>zO U Oo (V i hi j M) Oo,λj M i hi=>?_⟩;have O:Cov.Whole (Cov.fac m) ((D:Int):Rat):=⟨D,rfl,hD⟩
 have e:(rc cost j - Cov.sm i (λI=>rc cost (B I)*T I j))*((D:Int):Rat)=rc cost j*((D:Int):Rat)+-(Cov.sm i (λI=>rc cost (B I)*(T I j*((D:Int):Rat)))):=by
  have e1:Cov.sm i (λI=>rc cost (B I)*(T I j*((D:Int):Rat)))=((D:Int):Rat)*Cov.sm i (λI=>rc cost (B I)*T I j):=by
   rw[<-Cov.sm_mul];exact Cov.sm_congr (λI _=>Rr)
  rw[e1];grind
 have hs:Cov.Whole (i*(1*Cov.fac m)) (Cov.sm i (λI=>rc cost (B I)*(T I j*((D:Int):Rat)))):=Cov.whole_sm i (λI a2=>(K _).mul (V I Oo j M))
 have ht:Cov.Whole (1*Cov.fac m+i*(1*Cov.fac m)) ((rc cost j - Cov.sm i (λI=>rc cost (B I)*T I j))*((D:Int):Rat)):=by
  rw[e];exact((K j).mul O).add hs.neg
 refine zO U Oo ht ?_;have h1:i*(1*Cov.fac m)<=7*5040:=Nat.mul_le_mul Oo Oo;omega
def full(m:Nat)(cost:Nat->Int)(s:Cov.Sx):Nat->Nat->Rat:=λi j=>if i=m then Cov.red m (rc cost) s.T s.B j else s.T i j
theorem best_lt {g:Nat->Bool} {b:Nat->Nat->Bool}:∀{m o:Nat},Cov.best g b m=some o->o < m
  |0,_,h=>by cases h
  |m+1,o,h=>by
   unfold Cov.best at h;cases hb:Cov.best g b m with
   |none=>
    rw[hb]at h;simp only at h;split at h
    ·simp only[Option.some.injEq]at h;omega
    ·cases h
   |some o'=>
    rw[hb]at h;have:=best_lt hb;simp only at h;split at h
    ·simp only[Option.some.injEq]at h;omega
    ·simp only[Option.some.injEq]at h;omega
theorem Zi{g g':Nat->Bool}{b I:Nat->Nat->Bool}:∀{m:Nat},(∀i,i < m->g i=g' i)->(∀i,i < m->∀o,o < m->b i o=I i o)->Cov.best g b m=Cov.best g' I m
 |0,_,_=>rfl
 |m+1,hg,hb=>by
  have K:=Zi (m:=m) (λi hi=>hg i Oo) (λi hi o M=>hb i Oo o Oo);unfold Cov.best;rw[K,hg m Oo];cases hbm:Cov.best g' I m with
  |none=>rfl
  |some o=>
   have M:o < m:=best_lt hbm;simp only;rw[hb m Oo o Oo]
theorem Qs{p q:Nat->Bool}:∀{n:Nat},(∀i,i < n->p i=q i)->Cov.first p n=Cov.first q n
 |0,_=>rfl
 |n+1,h=>by
  unfold Cov.first;rw[Qs (n:=n) (λi hi=>h i Oo),h n Oo]
theorem qAT{cost:Nat->Int}{s:Cov.Sx}:Cov.first (λj=>!bar j&&decide (full m cost s m j < 0)) n=Cov.enterOf m n (rc cost) bar s:=by
 unfold Cov.enterOf;refine Qs (λj _=>?_);unfold full;rw[if_pos rfl]
theorem qAU{cost:Nat->Int}{s:Cov.Sx}:Cov.best (λi=>decide (0 < full m cost s i c)) (Cov.before (full m cost s) s.B n c) m=Cov.leaveOf m n s c:=by
 unfold Cov.leaveOf;have e:∀i,i < m->∀j,full m cost s i j=s.T i j:=λi hi j=>if_neg Oo;refine Zi (λi hi=>by rw[e i hi]) (λi hi o I=>?_);unfold Cov.before;rw[e i hi,e i hi,e o I,e o I]
theorem qAV{cost:Nat->Int}{s:Cov.Sx}(h:Cov.Inv m n A s.T s.B){r:Nat}(hr:r < m)(hp:s.T r c≠0){a b:Nat}(M:a<=m):
 full m cost (Cov.pivS s r c) a b=Cov.pivT (full m cost s) r c a b:=by
 have e:∀i,i < m->∀j,full m cost s i j=s.T i j:=λi hi j=>if_neg Oo;have I:∀j,full m cost s m j=Cov.red m (rc cost) s.T s.B j:=λj=>if_pos rfl;by_cases K:a=m
 ·subst K;rw[show full a cost (Cov.pivS s r c) a b=Cov.red a (rc cost) (Cov.pivT s.T r c) (Cov.pivB s.B r c) b from if_pos rfl,Cov.red_pivot h (rc cost) hr hp b];unfold Cov.pivT;rw[if_neg Oo,I,I,e r hr,e r hr]
 ·rw[show full m cost (Cov.pivS s r c) a b=Cov.pivT s.T r c a b from if_neg K];unfold Cov.pivT;rw[e r hr,e r hr,e a Oo,e a Oo]
theorem SxAt.there{C:Nat->Nat->Rat}(h:SxAt w k m n C B bar):w.there k 0 350:=by
 intro j K;rw[Nat.zero_add];obtain⟨v,M,_⟩:=h.lay.one j K;have I:w.cell? ⟨k,j,none⟩=some v:=M;rw[I];exact⟨rfl,h.free j K⟩
theorem VD(w:World)(k m n:Nat)(A C0:Nat->Nat->Rat)(s:Cov.Sx)(bar:Nat->Bool)(h:SxAt w k m n C0 s.B bar)(hC:∀i,i < m->∀j,j<=n->C0 i j=s.T i j)(hz:∀j,j<=n->Sm 41000 (C0 m j))
 (hG:Cov.Good m n A bar s) (hA:∀j,j<=n->∀r,r < m->Cov.Whole 1 (A j r)) (cost:Nat->Int) (O:∀j,(cost j).natAbs<=1):
 Cl 55 #[.pointer (some ⟨k,0,none⟩),.agg (zG 20 (λj=>.int .i64 (cost j))).toArray] w λe w'=>e=.returned (.tuple #[])/\Kb k w w'/\∃c9 s',Cov.Aim m n (rc cost) bar s c9 s'/\SxAt w' k m n (full m cost s') s'.B c9:=by
 have hm:=h.lay.mle;have hn:=h.lay.nle;obtain⟨K,e5,e6⟩:=Cov.halts (rc cost) hG;have a8:Hid (∀q,Cov.Good m n A bar (Cov.it m n (rc cost) bar s q)):=λq=>hG.it q
 have e7:Hid (∀q,(∀a b,a<=m->b<=n->Sm 41000 (full m cost (Cov.it m n (rc cost) bar s q) a b))):=by
  intro q a b ha hb;obtain⟨g1,g2⟩:=uG (a8.out q).inv hA hm cost O;unfold full;split
  ·exact g2 b hb m (bK _)
  ·exact g1 a Oo b hb
 have a9:∀j i,j<=n->i<=m->Sm 41000 (part cost C0 s.B j i):=by
  intro j i hj hi;obtain⟨_,g2⟩:=uG hG.inv hA hm cost O;have:=g2 j hj i hi
  have e:part cost C0 s.B j i=rc cost j - Cov.sm i (λi'=>rc cost (s.B i')*s.T i' j):=by
   unfold part rc;congr 1;exact Cov.sm_congr (λi' h2=>by rw[hC i' Oo j hj])
  rw[e];exact this
 have d0:∀a b,a<=m->b<=n->Sm 41000 (C0 a b):=by
  intro a b ha hb;by_cases e:a=m
  ·rw[e];exact hz b hb
  ·obtain⟨g1,_⟩:=uG hG.inv hA hm cost O;rw[hC a Oo b hb];exact g1 a Oo b hb
 have PR:=hid (λ(wx:World) (hx:SxAt wx k m n C0 s.B bar)=>Js wx k m n C0 s.B bar hx cost O hG.inv.lt d0 a9)
 have c7:Hid (∀wx,SxAt wx k m n (xp cost C0 s.B m (n+1)) s.B bar->SxAt wx k m n (full m cost s) s.B bar):=by
  intro wx hx;refine hx.congr (λa b ha hb=>?_) (λ_ _=>rfl) (λ_ _=>rfl);unfold full xp;by_cases e:a=m
  ·rw[if_pos e,if_pos ⟨e,Oo⟩];unfold Cov.red part rc;congr 1;exact Cov.sm_congr (λi' h2=>by rw[hC i' Oo b hb])
  ·rw[if_neg e,if_neg Oo,hC a Oo b hb]
 clear a9 d0 O hz hC;have HA:=hid hA;have e0:=hid e5;have c8:=hid e6;have HG:=hid hG;clear hA e5 e6 hG;have e8:=qz w 20 (λj=>.int .i64 (cost j)) 108;have d6:=h.alloc (.cells (zG 20 (λj=>.int .i64 (cost j))).toArray 108);have d7:Kb k w (w.alloc (.cells (zG 20 (λj=>.int .i64 (cost j))).toArray 108)):=Kb.of_below ((bM _ _).alloc (bK _) _);have HR:=hid e8.range
 have HI:Hid ((Tryz.prog.info? 108).map (·.size)=some (zG 20 (λj=>Value.int .i64 (cost j))).length):=by
  show _=_;rw[vL];exact Zj
 clear e8;go_enter Tryz.func55,Tryz.ntmps55
 go_wp2_with (first|(refine wpList_load_mid rfl 108 _ rfl w.heap.size 0 (by rfl) (zG 20 (λj=>.int .i64 (cost j))) _ (by exact HR.out) Tryz.underlying108 (by rfl) (by exact HI.out) ?_))
 refine(PR.out _ d6).mono ?_;rintro e w1 ⟨rfl,e9,f4⟩;have d8:=d7.trans e9;have d9:=c7.out w1 f4;clear d7 e9 f4 d6 HR HI;go_wp2_with fail
 go_loopg [4] K (λg _ wr=>∃q:Nat,q<=K/\g=K - q/\Kb k w wr/\SxAt wr k m n (full m cost (Cov.it m n (rc cost) bar s q)) (Cov.it m n (rc cost) bar s q).B bar)
 case atStart=>exact⟨0,nZ _,Oo,d8,d9⟩
 case round=>
  obtain⟨q,hq,f7,f8,hs⟩:=hrel;clear d8 d9;have h3:=hid f7;clear f7;obtain⟨M,a3⟩:∃M,M=Cov.it m n (rc cost) bar s q:=⟨_,rfl⟩;have h4:Hid (Cov.Good m n A bar M):=by rw[a3];exact a8.out q
  have f9:Hid (∀a b,a<=m->b<=n->Sm 41000 (full m cost M a b)):=by rw[a3];exact e7.out q
  have g4:Hid (∀a b,a<=m->b<=n->Sm 41000 (full m cost (Cov.nxt m n (rc cost) bar M) a b)):=by rw[a3];exact e7.out (q+1)
  have a4:=hid a3;rw[<-a3]at hs;clear a3;go_wp2_with fail
  refine(XZ _ k m n _ _ bar hs).mono ?_;rintro e w2 ⟨rfl,g5⟩;rw[qAT];have b0:=hs.below g5;have a2:=f8.step g5;clear hs f8;cases he:Cov.enterOf m n (rc cost) bar M with
  |none=>
   have I:Hid (Cov.stepOf m n (rc cost) bar M=none):=by
    show _=_;unfold Cov.stepOf;rw[he]
   clear he;rw[show Cov.idx none=-1 from rfl];go_wp2_with fail
   refine(UC _ _ (-1) Dd).mono ?_;rintro e w3 ⟨rfl,b7⟩;have a5:=b0.below b7;have U:=a2.step b7;clear b0 a2
   have a6:q=K:=by
    by_cases e:q < K
    ·exact absurd I.out (by rw[a4.out];exact c8.out q e)
    ·omega
   have b9:Hid (Cov.Aim m n (rc cost) bar s (Cov.narrowed m n (rc cost) bar M) M):=⟨K,e0.out,c8.out,by rw[a4.out,a6],rfl⟩;clear a6;go_wp2_with fail
   refine(kq _ k m n _ _ bar a5).mono ?_;rintro e w4 ⟨rfl,e1,a7⟩;go_wp2_with fail
   go_end0
   refine⟨rfl,U.trans e1,_,M,b9.out,a7.congr (λ_ _ _ _=>rfl) (λ_ _=>rfl) (λj hj=>?_)⟩;unfold Cov.narrowed full;rw[if_pos rfl]
  |some c=>
   have hc:c < n:=(Cov.first_some he).1;rw[show Cov.idx (some c)=(c:Int) from rfl];have HE:=hid he;clear he;go_wp2_with fail
   refine(UD _ k m n _ _ bar b0 c hc f9.out).mono ?_;rintro e w3 ⟨rfl,b7⟩;rw[qAU];have a5:=b0.below b7;have U:=a2.step b7;clear b0 a2;cases hl:Cov.leaveOf m n M c with
   |none=>
    have I:Hid (Cov.stepOf m n (rc cost) bar M=none):=by
     show _=_;unfold Cov.stepOf;rw[HE.out];simp only;rw[hl]
    clear hl;rw[show Cov.idx none=-1 from rfl]
    have a6:q=K:=by
     by_cases e:q < K
     ·exact absurd I.out (by rw[a4.out];exact c8.out q e)
     ·omega
    have b9:Hid (Cov.Aim m n (rc cost) bar s (Cov.narrowed m n (rc cost) bar M) M):=⟨K,e0.out,c8.out,by rw[a4.out,a6],rfl⟩;clear a6;go_wp2_with fail
    refine(kq _ k m n _ _ bar a5).mono ?_;rintro e w4 ⟨rfl,e1,a7⟩;go_wp2_with fail
    go_end0
    refine⟨rfl,U.trans e1,_,M,b9.out,a7.congr (λ_ _ _ _=>rfl) (λ_ _=>rfl) (λj hj=>?_)⟩;unfold Cov.narrowed full;rw[if_pos rfl]
   |some r=>
    have I:Cov.stepOf m n (rc cost) bar M=some (r,c):=by
     unfold Cov.stepOf;rw[HE.out];simp only;rw[hl]
    obtain⟨hr,_,_,_,_,g6,_⟩:=Cov.step_some I;have e3:M.T r c≠0:=Rr;have e4:Cov.nxt m n (rc cost) bar M=Cov.pivS M r c:=Cov.nxt_some I
    have a6:q < K:=by
     by_cases e:q < K
     ·exact e
     ·exfalso;have e2:q=K:=Oo;have:=e0.out;rw[<-e2,<-a4.out,I]at this;cases this
    have g7:Hid (∀a b,a<=m->Cov.pivT (full m cost M) r c a b=full m cost (Cov.pivS M r c) a b):=λa b ha=>(qAV h4.out.inv hr e3 ha).symm
    have g8:Hid (∀a b,a<=m->b<=n->Sm 41000 (Cov.pivT (full m cost M) r c a b)):=λa b ha hb=>by
     rw[g7.out a b ha,<-e4];exact g4.out a b ha hb
    have g9:Hid (full m cost M r c≠0):=by
     show _≠_;unfold full;rw[if_neg Oo];exact e3
    have HN:Hid (Cov.it m n (rc cost) bar s (q+1)=Cov.pivS M r c):=by
     show Cov.nxt m n (rc cost) bar (Cov.it m n (rc cost) bar s q)=_;rw[<-a4.out];exact e4
    clear hl I g6 e4 e3;rw[show Cov.idx (some r)=(r:Int) from rfl];have i1:¬((r:Int) < 0):=Oo;go_wp2_with fail
    refine(VE _ k m n _ _ bar a5 r c hr hc g9.out f9.out g8.out).mono ?_;rintro e w4 ⟨V,rfl,hV,h0⟩;have a7:=a5.below h0;have h1:=U.step h0;have HT:Hid (w4.there k 0 V.size):=by rw[hV.1];exact a7.there
    have HI:Hid ((Tryz.prog.info? 103).map (·.size)=some V.size):=by
     show _=_;rw[hV.1];exact vZ
    have HO:=hid hV.one;have h5:=hV.stored (w:=w4) (b:=k) a7.there;clear a5 U;go_wp2_with (first|(refine wpList_store_mid rfl 103 _ _ rfl k 0 V (by rfl) (by rfl) (by exact HT.out) (by exact HI.out) (by exact HO.out) ?_))
    go_roundg (K - (q+1))
    case measure=>have:=h3.out;omega
    case rel=>
     refine⟨q+1,Oo,rfl,Qw _ _ _ h1,?_⟩;rw[HN.out];exact h5.congr (λa b ha _=>(g7.out a b ha).symm) (λ_ _=>rfl) (λ_ _=>rfl)
theorem kZ(w:World)(u:Nat)(a:Option Addr)(len cap:Nat)(below:Bool)(I:u<=7)(hl:len<=7):
 Cl 90 #[.agg #[.int .i64 u,.slice a len cap,.bool below]] w λe w'=>e=.returned (.int .i64 ((if below then u+len+len else u+len:Nat):Int))/\Bl w w':=by
 cases below
 ·go_enter Tryz.func90,Tryz.ntmps90
  go_wp2;go_ret;exact⟨qv Ss,by go_grown⟩
 ·go_enter Tryz.func90,Tryz.ntmps90
  go_wp2;go_ret;exact⟨qv Oo,by go_grown⟩
def IntsAt(w:World)(v:Value)(l:List Nat):Prop:=∃a cap,v=.slice a l.length cap/\∀j,j < l.length->∃b o,a=some ⟨b,o,none⟩/\w.cell? ⟨b,o+j,none⟩=some (.int .i64 (l.getD j 0:Nat))
def RowsAt(w:World)(v:Value)(L:List (List Nat)):Prop:=∃a cap,v=.slice a L.length cap/\∀i,i < L.length->∃b o x,a=some ⟨b,o,none⟩/\w.cell? ⟨b,o+i,none⟩=some x/\IntsAt w x (L.getD i [])
theorem IntsAt.below{l:List Nat}(h:IntsAt w v l)(hb:Bl w w'):IntsAt w' v l:=by
 obtain⟨a,cap,rfl,h⟩:=h;refine⟨a,cap,rfl,λj K=>?_⟩;obtain⟨b,o,e,I⟩:=h j K;exact⟨b,o,e,(hb.cell (p:=⟨b,o+j,none⟩) (bL w _ I)).trans I⟩
theorem RowsAt.below{L:List (List Nat)}(h:RowsAt w v L)(hb:Bl w w'):RowsAt w' v L:=by
 obtain⟨a,cap,rfl,h⟩:=h;refine⟨a,cap,rfl,λi hi=>?_⟩;obtain⟨b,o,x,e,I,K⟩:=h i hi;exact⟨b,o,x,e,(hb.cell (p:=⟨b,o+i,none⟩) (bL w _ I)).trans I,K.below hb⟩
def xG(u:Nat)(L:List (List Nat))(below:Bool):Nat->Nat->Rat:=
 let m:=L.length
 let n:=if below then u+m+m else u+m
 λi j=>if i < m then (if j=n then 1 else if j < u then (if (L.getD i []).contains j then 1 else 0) else if n - m+i=j then 1 else if below/\j=u+i then -1 else 0) else 0
theorem ArrAt.alloc{N:Nat}{f:Nat->Value}(h:ArrAt w k N f)(I:0 < N)(o:Obj):ArrAt (w.alloc o) k N f:=h.move (Below.heap_alloc _ _ _ (h.lt I))
def f3(x y z:Value):Nat->Value
 |0=>x
 |1=>y
 |_=>z
theorem ArrAt.three{x y z:Value}(h:ArrAt w k 3 (f3 x y z)):w.cell? ⟨k,0,none⟩=some x/\w.cell? ⟨k,1,none⟩=some y/\w.cell? ⟨k,2,none⟩=some z:=⟨h.cell 0 Oo,h.cell 1 Oo,h.cell 2 Oo⟩
theorem run_build_sx (a b : Int) (w : World) : (Instr.build 103 #[(0, .int .i64 a), (1, .int .i64 b)]).run Tryz.prog w = .ok (.agg ((zSx.set! 0 (.int .i64 a)).set! 1 (.int .i64 b))) w := by kernel_rfl
def bSx(a b:Int):Array Value:=(zSx.set! 0 (.int .i64 a)).set! 1 (.int .i64 b)
theorem VF(a b:Int)(w:World):(Instr.build 103 #[(0,.int .i64 a),(1,.int .i64 b)]).run Tryz.prog w=.ok (.agg (bSx a b)) w:=run_build_sx a b w
theorem qEH(h:o < 350):zSx[o]?=some (if o < 330 then .int .i64 0 else .bool false):=by
 unfold zSx;rw[Array.getElem?_append];by_cases e:o < 330
 ·rw[if_pos (by simpa using e),if_pos e,Array.getElem?_replicate,if_pos e]
 ·rw[if_neg (by simpa using e),if_neg e,Array.getElem?_replicate,if_pos (by simp;omega)]
theorem qEI(h:o < 350):(bSx a b)[o]?=some (if o=0 then .int .i64 a else if o=1 then .int .i64 b else if o < 330 then .int .i64 0 else .bool false):=by
 unfold bSx;rw[Array.set!_eq_setIfInBounds,Array.set!_eq_setIfInBounds,Array.getElem?_setIfInBounds,Array.getElem?_setIfInBounds,qEH h];by_cases I:o=0
 ·subst I;simp[j7]
 ·by_cases K:o=1
  ·subst K;simp[j7]
  ·rw[if_neg Oo,if_neg Oo,if_neg I,if_neg K]
theorem qCs(a b:Int):(bSx a b).size=350:=by simp[bSx,j7]
theorem qCt:Tryz.zeroCells103=zSx:=by kernel_rfl
def zQ(a b:Int):List Value:=(bSx a b).toList
theorem UK(a b:Int):zQ a b=(bSx a b).toList:=rfl
theorem qCu(a b:Int):(Tryz.zeroCells103.toList.set 0 (.int .i64 a)).set 1 (.int .i64 b)=zQ a b:=by
 rw[qCt];unfold zQ bSx;simp
theorem yc(a b:Int):(zQ a b).length=350:=by rw[UK];simpa using qCs a b
theorem Ya(h:o < 350):(zQ a b)[o]?=some (if o=0 then .int .i64 a else if o=1 then .int .i64 b else if o < 330 then .int .i64 0 else .bool false):=by
 rw[UK,Array.getElem?_toList];exact qEI h
theorem qBp(a b:Int):∀v∈zQ a b,v.oneCell'=true:=by
 intro v hv;obtain⟨j,I,e⟩:=List.mem_iff_getElem.1 hv;rw[yc]at I;have:=Ya (a:=a) (b:=b) I;rw[bC (by rw[yc];exact I),e]at this;simp only[Option.some.injEq]at this;rw[this];repeat' split
 all_goals rfl
theorem Qy(a b:Int)(W:World)(g:Nat)(I:W.there g 0 350):
 (storeCells ⟨g,0,none⟩ ((Tryz.zeroCells103.toList.set 0 (.int .i64 a)).set 1 (.int .i64 b))).run Tryz.prog W=.ok () (W.setCells g 0 (zQ a b)):=by
 have hl:=yc a b;rw[qCu];exact run_storeCells_cells (P:=Tryz.prog) g 0 (zQ a b) 0 W (λj K=>by have:=(I j Oo).1;simpa using this) (λj K=>by have:=(I j Oo).2;simpa using this) (qBp a b)
theorem UL(m n:Nat)(K:W.there g 0 350):
 (∀o,o < 350->(W.setCells g 0 (zQ m n)).cell? ⟨g,o,none⟩=some (if o=0 then .int .i64 m else if o=1 then .int .i64 n else if o < 330 then .int .i64 0 else .bool false))/\∀o,o < 350->(W.setCells g 0 (zQ m n)).frozen? ⟨g,o,none⟩=false:=by
 refine⟨λo I=>?_,λo I=>?_⟩
 ·have:=World.rangeAt_setCells_same W g 0 (zQ m n) (by rw[yc];exact K) o _ (Ya I);rwa[Nat.zero_add]at this
 ·have:=(World.there_setCells K g 0 (zQ m n) o I).2;rwa[Nat.zero_add]at this
theorem yK(g:Nat):∀(vs:List Value) (o:Nat) (W:World) (k:Nat),k≠g->(W.setCells g o vs).heap[k]?=W.heap[k]?
 |[],_,_,_,_=>rfl
 |v::r,o,W,k,h=>by
  rw[World.setCells,yK g r (o+1) _ k h];exact bE _ _ _ _ h
theorem j9(w:World)(t:TypeId):(w.alloc (.cells Tryz.zeroCells103 t)).there w.heap.size 0 350:=by rw[qCt];exact xo w t
structure Z0(W:World)(g m n i j:Nat):Prop where
 rows:W.cell? ⟨g,0,none⟩=some (.int .i64 m)
 cols:W.cell? ⟨g,1,none⟩=some (.int .i64 n)
 zero:∀a b,a<=m->b<=n->(a < i∨a=i/\b < j)->W.cell? ⟨g,2+a*40+b*2,none⟩=some (.int .i64 0)/\W.cell? ⟨g,2+a*40+b*2+1,none⟩=some (.int .i64 1)
 bas:∀a,a < m->W.cell? ⟨g,322+a,none⟩=some (.int .i64 0)
 bars:∀b,b < n->W.cell? ⟨g,330+b,none⟩=some (.bool false)
 one:∀o,o < 350->∃v,W.cell? ⟨g,o,none⟩=some v/\v.oneCell'=true
 free:∀o,o < 350->W.frozen? ⟨g,o,none⟩=false
theorem Z0.start(M:m<=7)(O:n<=19)(I:∀o,o < 350->W.cell? ⟨g,o,none⟩=some (if o=0 then .int .i64 m else if o=1 then .int .i64 n else if o < 330 then .int .i64 0 else .bool false))(K:∀o,o < 350->W.frozen? ⟨g,o,none⟩=false):Z0 W g m n 0 0 where
 rows:=I 0 Oo
 cols:=I 1 Oo
 zero a b _ _ h:=Oo
 bas a ha:=by rw[I (322+a) Oo,if_neg Oo,if_neg Oo,if_pos Oo]
 bars b hb:=by rw[I (330+b) Oo,if_neg Oo,if_neg Oo,if_neg Oo]
 one o ho:=⟨_,I o ho,by(repeat' split) <;> rfl⟩
 free:=K
theorem Z0.below{W':World}(h:Z0 W g m n i j)(hb:Bl W W'):Z0 W' g m n i j:=by
 have U:g < W.heap.size:=bL W _ h.rows;have K:∀o,W'.cell? ⟨g,o,none⟩=W.cell? ⟨g,o,none⟩:=λo=>hb.cell (p:=⟨g,o,none⟩) U;exact⟨(K _).trans h.rows,(K _).trans h.cols,λa b M I hl=>⟨(K _).trans (h.zero a b M I hl).1,(K _).trans (h.zero a b M I hl).2⟩,λa M=>(K _).trans (h.bas a M),λb I=>(K _).trans (h.bars b I),λo O=>by rw[K];exact h.one o O,λo O=>(hb.frozen (p:=⟨g,o,none⟩) U).trans (h.free o O)⟩
theorem Z0.step(h:Z0 W g m n i j)(hi:i<=m)(hj:j<=n)(hm:m<=7)(hn:n<=19):
 Z0 ((W.setCell ⟨g,2+i*40+j*2,none⟩ (.int .i64 0)).setCell ⟨g,2+i*40+j*2+1,none⟩ (.int .i64 1)) g m n i (j+1):=by
 have ne:∀(X:World) (a b:Nat) (v:Value),a≠b->(X.setCell ⟨g,b,none⟩ v).cell? ⟨g,a,none⟩=X.cell? ⟨g,a,none⟩:=λX a b v a2=>bD _ _ _ _ (by intro K;simp only[Addr.mk.injEq]at K;omega);obtain⟨v0,c0,_⟩:=h.one (2+i*40+j*2) Oo;obtain⟨v1,c1,_⟩:=h.one (2+i*40+j*2+1) Oo;have s0:((W.setCell ⟨g,2+i*40+j*2,none⟩ (.int .i64 0)).setCell ⟨g,2+i*40+j*2+1,none⟩ (.int .i64 1)).cell? ⟨g,2+i*40+j*2,none⟩=some (.int .i64 0):=(ne _ _ _ _ Oo).trans (bI _ _ _ c0);have U:((W.setCell ⟨g,2+i*40+j*2,none⟩ (.int .i64 0)).setCell ⟨g,2+i*40+j*2+1,none⟩ (.int .i64 1)).cell? ⟨g,2+i*40+j*2+1,none⟩=some (.int .i64 1):=bI _ _ _ ((ne _ _ _ _ Oo).trans c1);have I:∀o,o≠2+i*40+j*2->o≠2+i*40+j*2+1->((W.setCell ⟨g,2+i*40+j*2,none⟩ (.int .i64 0)).setCell ⟨g,2+i*40+j*2+1,none⟩ (.int .i64 1)).cell? ⟨g,o,none⟩=W.cell? ⟨g,o,none⟩:=λo h1 h2=>(ne _ _ _ _ h2).trans (ne _ _ _ _ h1);refine⟨(I 0 Oo Oo).trans h.rows,(I 1 Oo Oo).trans h.cols,λa b M hb hl=>?_,λa M=>(I _ Oo Oo).trans (h.bas a M),λb hb=>(I _ Oo Oo).trans (h.bars b hb),λo O=>?_,λo O=>by rw[fS,fS];exact h.free o O⟩
 ·by_cases e:a=i/\b=j
  ·obtain⟨rfl,rfl⟩:=e;exact⟨s0,U⟩
  ·have:=h.zero a b M hb Oo;exact⟨(I _ Oo Oo).trans this.1,(I _ Oo Oo).trans this.2⟩
 ·by_cases V:o=2+i*40+j*2
  ·subst V;exact⟨_,s0,rfl⟩
  ·by_cases K:o=2+i*40+j*2+1
   ·subst K;exact⟨_,U,rfl⟩
   ·rw[I o V K];exact h.one o O
theorem Z0.next(h:Z0 W g m n i (n+1)):Z0 W g m n (i+1) 0:=
 ⟨h.rows,h.cols,λa b I hb hl=>h.zero a b I hb Oo,h.bas,h.bars,h.one,h.free⟩
theorem Z0.done(h:Z0 W g m n (m+1) 0)(K:m<=7)(M:n<=19):SxAt W g m n (λ_ _=>0) (λ_=>0) (λ_=>false):=
 ⟨⟨h.rows,h.cols,λi j hi I=>(h.zero i j hi I Oo).1,λi j hi I=>(h.zero i j hi I Oo).2,h.bas,h.bars,h.one,K,M⟩,h.free⟩
def xN(u:Nat)(L:List (List Nat))(below:Bool)(i q:Nat):Nat->Nat->Rat:=λa b=>if a < i then xG u L below a b else if a=i/\b∈(L.getD i []).take q then 1 else 0
theorem Zu(u:Nat)(L:List (List Nat))(below:Bool)(a b:Nat):xN u L below 0 0 a b=0:=by
 unfold xN;rw[if_neg Oo];simp
theorem Jt(u:Nat)(L:List (List Nat))(below:Bool)(i q:Nat)(hq:q < (L.getD i []).length)(a b:Nat):
 xN u L below i (q+1) a b=if a=i/\b=(L.getD i []).getD q 0 then 1 else xN u L below i q a b:=by
 unfold xN;by_cases K:a < i
 ·rw[if_pos K,if_neg Oo,if_pos K]
 ·rw[if_neg K,if_neg K]
  have U:b∈(L.getD i []).take (q+1)↔b∈(L.getD i []).take q∨b=(L.getD i []).getD q 0:=by
   generalize L.getD i []=l at *;rw[tA,bC hq,gD,bC hq,List.mem_append];simp only[Option.toList_some,List.mem_singleton,Option.getD_some]
  by_cases I:a=i
  ·by_cases M:b=(L.getD i []).getD q 0
   ·rw[if_pos ⟨I,U.2 (Or.inr M)⟩,if_pos ⟨I,M⟩]
   ·rw[if_neg (show ¬(a=i/\b=(L.getD i []).getD q 0) from λh=>M h.2)];by_cases O:b∈(L.getD i []).take q
    ·rw[if_pos ⟨I,U.2 (Or.inl O)⟩,if_pos ⟨I,O⟩]
    ·rw[if_neg (λh=>by rcases U.1 h.2 with V|V;exact O V;exact M V),if_neg (λh=>O h.2)]
  ·rw[if_neg (λh=>I h.1),if_neg (λh=>I h.1),if_neg (λh=>I h.1)]
theorem qAe(u:Nat)(L:List (List Nat))(below:Bool)(n i:Nat)(I:n=if below then u+L.length+L.length else u+L.length)(hi:i < L.length)(K:∀j∈L.getD i [],j < u)(a b:Nat):
 xN u L below (i+1) 0 a b=if a=i/\b=n then 1 else if a=i/\b=n - L.length+i then 1 else if below=true/\a=i/\b=u+i then -1 else xN u L below i (L.getD i []).length a b:=by
 have M:∀(l:List Nat) (x:Nat),l.contains x=decide (x∈l):=λl x=>by
  by_cases hb:x∈l
  ·rw[decide_eq_true hb];exact List.contains_iff_mem.2 hb
  ·rw[decide_eq_false hb];cases M:l.contains x
   ·rfl
   ·exact absurd (List.contains_iff_mem.1 M) hb
 unfold xN xG;simp only[<-I,M,decide_eq_true_eq,List.take_length];generalize hl:L.getD i []=l at *;have U:∀x,x∈l->x < u:=K;by_cases O:a=i
 ·subst O;simp only[hl];cases below
  ·simp only[Bool.false_eq_true,if_false]at I;grind
  ·simp only[if_true]at I;grind
 ·grind
end Go.Proofs.YtkaipapdlnojiaaGreat
