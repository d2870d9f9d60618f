import Derived.Deep.RegionLaw
import Derived.Test.YtcnfapnfmnolbaaGreatRq17
set_option maxHeartbeats 40000000
set_option maxRecDepth 1000000
namespace Go.Proofs.YtcnfapnfmnolbaaGreat
open Go.RowKit
variable {a b:Int}{c g i j k m n o:Nat}{bar:Nat->Bool}{B:Nat->Nat}{A C:Nat->Nat->Rat}{t:TypeId}{v:Value}{W W' w w':World}
theorem Xg(h:m<=7):Cov.fac m<=5040:=by
 match m,h with
 |0,_=>decide
 |1,_=>decide
 |2,_=>decide
 |3,_=>decide
 |4,_=>decide
 |5,_=>decide
 |6,_=>decide
 |7,_=>decide
def rc(cost:Nat->Int):Nat->Rat:=λj=>((cost j:Int):Rat)
theorem uu{T:Nat->Nat->Rat}(h:Cov.Inv m n A T B)(hA:∀j,j<=n->∀r,r<m->Cov.Whole 1 (A j r))(hm:m<=7)(cost:Nat->Int)(hc:∀j,(cost j).natAbs<=1):
 (∀i,i<m->∀j,j<=n->Sm 41000 (T i j))/\(∀j,j<=n->∀i,i<=m->Sm 41000 (rc cost j-Cov.sm i (λI=>rc cost (B I)*T I j))):=by
 obtain⟨D,U,hD,V⟩:=h.small hA;have hf:=Xg hm;have K:∀j,Cov.Whole 1 (rc cost j):=λj=>⟨cost j,rfl,hc j⟩;refine⟨λi hi j M=>zV U Oo (V i hi j M) Oo,λj M i hi=>?_⟩;have O:Cov.Whole (Cov.fac m) ((D:Int):Rat):=⟨D,rfl,hD⟩;have e:(rc cost j-Cov.sm i (λI=>rc cost (B I)*T I j))*((D:Int):Rat)=rc cost j*((D:Int):Rat)+-(Cov.sm i (λI=>rc cost (B I)*(T I j*((D:Int):Rat)))):=by
  have e1:Cov.sm i (λI=>rc cost (B I)*(T I j*((D:Int):Rat)))=((D:Int):Rat)*Cov.sm i (λI=>rc cost (B I)*T I j):=by
   rw[<-Cov.sm_mul];exact Cov.sm_congr (λI _=>Rr)
  rw[e1];grind
 have hs:Cov.Whole (i*(1*Cov.fac m)) (Cov.sm i (λI=>rc cost (B I)*(T I j*((D:Int):Rat)))):=Cov.whole_sm i (λI a3=>(K _).mul (V I Oo j M));have ht:Cov.Whole (1*Cov.fac m+i*(1*Cov.fac m)) ((rc cost j-Cov.sm i (λI=>rc cost (B I)*T I j))*((D:Int):Rat)):=by
  rw[e];exact((K j).mul O).add hs.neg
 refine zV U Oo ht ?_;have h1:i*(1*Cov.fac m)<=7*5040:=Nat.mul_le_mul Oo Oo;omega
def full(m:Nat)(cost:Nat->Int)(s:Cov.Sx):Nat->Nat->Rat:=λi j=>if i=m then Cov.red m (rc cost) s.T s.B j else s.T i j
theorem best_lt {g:Nat->Bool} {b:Nat->Nat->Bool}:∀{m o:Nat},Cov.best g b m=some o->o<m
  |0,_,h=>by cases h
  |m+1,o,h=>by
   unfold Cov.best at h;cases hb:Cov.best g b m with
   |none=>
    rw[hb]at h;simp only at h;split at h;simp only[Option.some.injEq]at h;omega;cases h
   |some o'=>
    rw[hb]at h;have:=best_lt hb;simp only at h;split at h;simp only[Option.some.injEq]at h;omega;simp only[Option.some.injEq]at h;omega
theorem Xh{g g':Nat->Bool}{b I:Nat->Nat->Bool}:∀{m:Nat},(∀i,i<m->g i=g' i)->(∀i,i<m->∀o,o<m->b i o=I i o)->Cov.best g b m=Cov.best g' I m
 |0,_,_=>rfl
 |m+1,hg,hb=>by
  have K:=Xh (m:=m) (λi hi=>hg i Oo) (λi hi o ho=>hb i Oo o Oo);unfold Cov.best;rw[K,hg m Oo];cases hbm:Cov.best g' I m with
  |none=>rfl
  |some o=>
   have ho:o<m:=best_lt hbm;simp only;rw[hb m Oo o Oo]
theorem Zk{p q:Nat->Bool}:∀{n:Nat},(∀i,i<n->p i=q i)->Cov.first p n=Cov.first q n
 |0,_=>rfl
 |n+1,h=>by
  unfold Cov.first;rw[Zk (n:=n) (λi hi=>h i Oo),h n Oo]
theorem qBa{cost:Nat->Int}{s:Cov.Sx}:Cov.first (λj=>!bar j&&decide (full m cost s m j<0)) n=Cov.enterOf m n (rc cost) bar s:=by
 unfold Cov.enterOf;refine Zk (λj _=>?_);unfold full;rw[if_pos rfl]
theorem qBb{cost:Nat->Int}{s:Cov.Sx}:Cov.best (λi=>decide (0<full m cost s i c)) (Cov.before (full m cost s) s.B n c) m=Cov.leaveOf m n s c:=by
 unfold Cov.leaveOf;have e:∀i,i<m->∀j,full m cost s i j=s.T i j:=λi hi j=>if_neg Oo;refine Xh (λi hi=>by rw[e i hi]) (λi hi o ho=>?_);unfold Cov.before;rw[e i hi,e i hi,e o ho,e o ho]
theorem qBc{cost:Nat->Int}{s:Cov.Sx}(h:Cov.Inv m n A s.T s.B){r:Nat}(I:r<m)(O:s.T r c≠0){a b:Nat}(U:a<=m):
 full m cost (Cov.pivS s r c) a b=Cov.pivT (full m cost s) r c a b:=by
 have e:∀i,i<m->∀j,full m cost s i j=s.T i j:=λi hi j=>if_neg Oo;have K:∀j,full m cost s m j=Cov.red m (rc cost) s.T s.B j:=λj=>if_pos rfl;by_cases M:a=m;subst M;rw[show full a cost (Cov.pivS s r c) a b=Cov.red a (rc cost) (Cov.pivT s.T r c) (Cov.pivB s.B r c) b from if_pos rfl,Cov.red_pivot h (rc cost) I O b];unfold Cov.pivT;rw[if_neg Oo,K,K,e r I,e r I];rw[show full m cost (Cov.pivS s r c) a b=Cov.pivT s.T r c a b from if_neg M];unfold Cov.pivT;rw[e r I,e r I,e a Oo,e a Oo]
theorem SxAt.there(h:SxAt w k m n C B bar):w.there k 0 350:=by
 intro j K;rw[Nat.zero_add];obtain⟨v,M,_⟩:=h.lay.one j K;have I:w.cell? (az k j)=some v:=M;rw[I];exact⟨rfl,h.free j K⟩
theorem UB(w:World)(k m n:Nat)(A C0:Nat->Nat->Rat)(s:Cov.Sx)(bar:Nat->Bool)(h:SxAt w k m n C0 s.B bar)(hC:∀i,i<m->∀j,j<=n->C0 i j=s.T i j)(hz:∀j,j<=n->Sm 41000 (C0 m j))
 (hG:Cov.Good m n A bar s) (hA:∀j,j<=n->∀r,r<m->Cov.Whole 1 (A j r)) (cost:Nat->Int) (O:∀j,(cost j).natAbs<=1):
 Cl 146 #[.pointer (some (az k 0)),.agg (zI 20 (λj=>ai (cost j))).toArray] w λe w'=>e=.returned (.tuple #[])/\Kb k w w'/\∃c8 s',Cov.Aim m n (rc cost) bar s c8 s'/\SxAt w' k m n (full m cost s') s'.B c8:=by
 have hm:=h.lay.mle;have hn:=h.lay.nle;obtain⟨K,d8,d9⟩:=Cov.halts (rc cost) hG;have a9:Hh (∀q,Cov.Good m n A bar (Cov.it m n (rc cost) bar s q)):=λq=>hG.it q;have e0:Hh (∀q,(∀a b,a<=m->b<=n->Sm 41000 (full m cost (Cov.it m n (rc cost) bar s q) a b))):=by
  intro q a b ha hb;obtain⟨g1,g2⟩:=uu (a9.o q).inv hA hm cost O;unfold full;split;exact g2 b hb m (nR _);exact g1 a Oo b hb
 have b0:∀j i,j<=n->i<=m->Sm 41000 (part cost C0 s.B j i):=by
  intro j i hj hi;obtain⟨_,g2⟩:=uu hG.inv hA hm cost O;have:=g2 j hj i hi;have e:part cost C0 s.B j i=rc cost j-Cov.sm i (λi'=>rc cost (s.B i')*s.T i' j):=by
   unfold part rc;congr 1;exact Cov.sm_congr (λi' g7=>by rw[hC i' Oo j hj])
  rw[e];exact this
 have c9:∀a b,a<=m->b<=n->Sm 41000 (C0 a b):=by
  intro a b ha hb;by_cases e:a=m;rw[e];exact hz b hb;obtain⟨g1,_⟩:=uu hG.inv hA hm cost O;rw[hC a Oo b hb];exact g1 a Oo b hb
 have PR:=ay (λ(wx:World) (hx:SxAt wx k m n C0 s.B bar)=>qAN wx k m n C0 s.B bar hx cost O hG.inv.lt c9 b0);have b9:Hh (∀wx,SxAt wx k m n (yL cost C0 s.B m (n+1)) s.B bar->SxAt wx k m n (full m cost s) s.B bar):=by
  intro wx hx;refine hx.congr (λa b ha hb=>?_) (λ_ _=>rfl) (λ_ _=>rfl);unfold full yL;by_cases e:a=m;rw[if_pos e,if_pos ⟨e,Oo⟩];unfold Cov.red part rc;congr 1;exact Cov.sm_congr (λi' g7=>by rw[hC i' Oo b hb]);rw[if_neg e,if_neg Oo,hC a Oo b hb]
 clear b0 c9 O hz hC;have HA:=ay hA;have d4:=ay d8;have c7:=ay d9;have HG:=ay hG;clear hA d8 d9 hG;have e1:=zG w 20 (λj=>ai (cost j)) 197;have d0:=h.alloc (.cells (zI 20 (λj=>ai (cost j))).toArray 197);have d1:Kb k w (w.alloc (.cells (zI 20 (λj=>ai (cost j))).toArray 197)):=Kb.of_below (aK);have HR:=ay e1.range;have HI:Hh ((Tryz.prog.info? 197).map (·.size)=some (zI 20 (λj=>ai (cost j))).length):=by
  show _=_;rw[uM];exact Xi
 clear e1;go_enter Tryz.func146,Tryz.ntmps146;go_wp2_with (first|(refine wpList_load_mid rfl 197 _ rfl w.1.size 0 Fl (zI 20 (λj=>ai (cost j))) _ (by exact HR.o) Tryz.underlying197 Fl (by exact HI.o) ?_));refine(PR.o _ d0).mono ?_;rintro e w1 ⟨rfl,e3,e4⟩;have d2:=d1.trans e3;have d3:=b9.o w1 e4;clear d1 e3 e4 d0 HR HI;go_wp2_with fail;go_loopg [4] K (λg _ wr=>∃q:Nat,q<=K/\g=K-q/\Kb k w wr/\SxAt wr k m n (full m cost (Cov.it m n (rc cost) bar s q)) (Cov.it m n (rc cost) bar s q).B bar)
 case atStart=>exact⟨0,nZ _,Oo,d2,d3⟩
 case round=>
  obtain⟨q,hq,e5,e6,hs⟩:=hrel;clear d2 d3;have g8:=ay e5;clear e5;obtain⟨M,a4⟩:=Ex (Cov.it m n (rc cost) bar s q);have g9:Hh (Cov.Good m n A bar M):=by rw[a4];exact a9.o q
  have e7:Hh (∀a b,a<=m->b<=n->Sm 41000 (full m cost M a b)):=by rw[a4];exact e0.o q
  have e8:Hh (∀a b,a<=m->b<=n->Sm 41000 (full m cost (Cov.nxt m n (rc cost) bar M) a b)):=by rw[a4];exact e0.o (q+1)
  have a5:=ay a4;rw[<-a4]at hs;clear a4;go_wp2_with fail;refine(Yl _ k m n _ _ bar hs).mono ?_;rintro e w2 ⟨rfl,e9⟩;rw[qBa];have b1:=hs.below e9;have a3:=e6.step e9;clear hs e6;cases he:Cov.enterOf m n (rc cost) bar M with
  |none=>
   have I:Hh (Cov.stepOf m n (rc cost) bar M=none):=by
    show _=_;unfold Cov.stepOf;rw[he]
   clear he;rw[show Cov.idx none=-1 from rfl];go_wp2_with fail;refine(U1 _ _ (-1) Dd).mono ?_;rintro e w3 ⟨rfl,b7⟩;have a6:=b1.below b7;have U:=a3.step b7;clear b1 a3;have a7:q=K:=by
    by_cases e:q<K;exact absurd I.o (by rw[a5.o];exact c7.o q e);omega
   have b8:Hh (Cov.Aim m n (rc cost) bar s (Cov.narrowed m n (rc cost) bar M) M):=⟨K,d4.o,c7.o,by rw[a5.o,a7],rfl⟩;clear a7;go_wp2_with fail;refine(Qc _ k m n _ _ bar a6).mono ?_;rintro e w4 ⟨rfl,d5,a8⟩;go_wp2_with fail;go_end0
   refine⟨rfl,U.trans d5,_,M,b8.o,a8.congr (λ_ _ _ _=>rfl) (λ_ _=>rfl) (λj hj=>?_)⟩;unfold Cov.narrowed full;rw[if_pos rfl]
  |some c=>
   have hc:c<n:=(Cov.first_some he).1;rw[show Cov.idx (some c)=(c:Int) from rfl];have HE:=ay he;clear he;go_wp2_with fail;refine(U2 _ k m n _ _ bar b1 c hc e7.o).mono ?_;rintro e w3 ⟨rfl,b7⟩;rw[qBb];have a6:=b1.below b7;have U:=a3.step b7;clear b1 a3;cases hl:Cov.leaveOf m n M c with
   |none=>
    have I:Hh (Cov.stepOf m n (rc cost) bar M=none):=by
     show _=_;unfold Cov.stepOf;rw[HE.o];simp only;rw[hl]
    clear hl;rw[show Cov.idx none=-1 from rfl];have a7:q=K:=by
     by_cases e:q<K;exact absurd I.o (by rw[a5.o];exact c7.o q e);omega
    have b8:Hh (Cov.Aim m n (rc cost) bar s (Cov.narrowed m n (rc cost) bar M) M):=⟨K,d4.o,c7.o,by rw[a5.o,a7],rfl⟩;clear a7;go_wp2_with fail;refine(Qc _ k m n _ _ bar a6).mono ?_;rintro e w4 ⟨rfl,d5,a8⟩;go_wp2_with fail;go_end0
    refine⟨rfl,U.trans d5,_,M,b8.o,a8.congr (λ_ _ _ _=>rfl) (λ_ _=>rfl) (λj hj=>?_)⟩;unfold Cov.narrowed full;rw[if_pos rfl]
   |some r=>
    have I:Cov.stepOf m n (rc cost) bar M=some (r,c):=by
     unfold Cov.stepOf;rw[HE.o];simp only;rw[hl]
    obtain⟨hr,_,_,_,_,f7,_⟩:=Cov.step_some I;have d6:M.T r c≠0:=Rr;have d7:Cov.nxt m n (rc cost) bar M=Cov.pivS M r c:=Cov.nxt_some I;have a7:q<K:=by
     by_cases e:q<K;exact e;exfalso;have e2:q=K:=Oo;have:=d4.o;rw[<-e2,<-a5.o,I]at this;cases this
    have f8:Hh (∀a b,a<=m->Cov.pivT (full m cost M) r c a b=full m cost (Cov.pivS M r c) a b):=λa b ha=>(qBc g9.o.inv hr d6 ha).symm;have f9:Hh (∀a b,a<=m->b<=n->Sm 41000 (Cov.pivT (full m cost M) r c a b)):=λa b ha hb=>by
     rw[f8.o a b ha,<-d7];exact e8.o a b ha hb
    have g4:Hh (full m cost M r c≠0):=by
     show _≠_;unfold full;rw[if_neg Oo];exact d6
    have HN:Hh (Cov.it m n (rc cost) bar s (q+1)=Cov.pivS M r c):=by
     show Cov.nxt m n (rc cost) bar (Cov.it m n (rc cost) bar s q)=_;rw[<-a5.o];exact d7
    clear hl I f7 d7 d6;rw[show Cov.idx (some r)=(r:Int) from rfl];have i1:¬((r:Int)<0):=Oo;go_wp2_with fail;refine(UC _ k m n _ _ bar a6 r c hr hc g4.o e7.o f9.o).mono ?_;rintro e w4 ⟨V,rfl,hV,g5⟩;have a8:=a6.below g5;have g6:=U.step g5;have HT:Hh (w4.there k 0 V.size):=by rw[hV.1];exact a8.there
    have HI:Hh ((Tryz.prog.info? 192).map (·.size)=some V.size):=by
     show _=_;rw[hV.1];exact uS
    have HO:=ay hV.one;have h0:=hV.stored (w:=w4) (b:=k) a8.there;clear a6 U;go_wp2_with (first|(refine wpList_store_mid rfl 192 _ _ rfl k 0 V Fl Fl (by exact HT.o) (by exact HI.o) (by exact HO.o) ?_));go_roundg (K-(q+1))
    case measure=>have:=g8.o;omega
    case rel=>
     refine⟨q+1,Oo,rfl,Zo _ _ _ g6,?_⟩;rw[HN.o];exact h0.congr (λa b ha _=>(f8.o a b ha).symm) (λ_ _=>rfl) (λ_ _=>rfl)
theorem QK(w:World)(u:Nat)(a:Option Addr)(len cap:Nat)(below:Bool)(I:u<=7)(hl:len<=7):
 Cl 170 #[.agg #[ai u,.slice a len cap,.bool below]] w λe w'=>e=.returned (ai ((if below then u+len+len else u+len:Nat):Int))/\Bl w w':=by
 cases below
 ·go_enter Tryz.func170,Tryz.ntmps170;go_wp2;go_ret;exact⟨qR Ss,by go_grown⟩
 go_enter Tryz.func170,Tryz.ntmps170;go_wp2;go_ret;exact⟨qR Oo,by go_grown⟩
def IntsAt(w:World)(v:Value)(l:List Nat):Prop:=∃a cap,v=.slice a l.length cap/\∀j,j<l.length->∃b o,a=some (az b o)/\w.cell? (az b (o+j))=some (ai (l.getD j 0:Nat))
def RowsAt(w:World)(v:Value)(L:List (List Nat)):Prop:=∃a cap,v=.slice a L.length cap/\∀i,i<L.length->∃b o x,a=some (az b o)/\w.cell? (az b (o+i))=some x/\IntsAt w x (L.getD i [])
theorem IntsAt.below{l:List Nat}(h:IntsAt w v l)(hb:Bl w w'):IntsAt w' v l:=by
 obtain⟨a,cap,rfl,h⟩:=h;refine⟨a,cap,rfl,λj K=>?_⟩;obtain⟨b,o,e,I⟩:=h j K;exact⟨b,o,e,(hb.cell (p:=(az b (o+j))) (bL w _ I)).trans I⟩
theorem RowsAt.below{L:List (List Nat)}(h:RowsAt w v L)(hb:Bl w w'):RowsAt w' v L:=by
 obtain⟨a,cap,rfl,h⟩:=h;refine⟨a,cap,rfl,λi hi=>?_⟩;obtain⟨b,o,x,e,I,K⟩:=h i hi;exact⟨b,o,x,e,(hb.cell (p:=(az b (o+i))) (bL w _ I)).trans I,K.below hb⟩
def xW(u:Nat)(L:List (List Nat))(below:Bool):Nat->Nat->Rat:=
 let m:=L.length
 let n:=if below then u+m+m else u+m
 λi j=>if i<m then (if j=n then 1 else if j<u then (if (L.getD i []).contains j then 1 else 0) else if n-m+i=j then 1 else if below/\j=u+i then -1 else 0) else 0
theorem U9(a b:Int)(w:World):(Instr.build 192 #[(0,ai a),(1,ai b)]).run Tryz.prog w=.ok (.agg ((zSx.set! 0 (ai a)).set! 1 (ai b))) w:=Kl
theorem ArrAt.alloc{N:Nat}{f:Nat->Value}(h:ArrAt w k N f)(I:0<N)(o:Obj):ArrAt (w.alloc o) k N f:=h.move (Below.heap_alloc _ _ _ (h.lt I))
def f3(x y z:Value):Nat->Value
 |0=>x
 |1=>y
 |_=>z
theorem ArrAt.three{x y z:Value}(h:ArrAt w k 3 (f3 x y z)):w.cell? (az k 0)=some x/\w.cell? (az k 1)=some y/\w.cell? (az k 2)=some z:=⟨h.cell 0 Oo,h.cell 1 Oo,h.cell 2 Oo⟩
def bSx(a b:Int):Array Value:=(zSx.set! 0 (ai a)).set! 1 (ai b)
theorem UD(a b:Int)(w:World):(Instr.build 192 #[(0,ai a),(1,ai b)]).run Tryz.prog w=.ok (.agg (bSx a b)) w:=U9 a b w
theorem qE7(h:o<350):zSx[o]?=some (if o<330 then ai 0 else .bool false):=by
 unfold zSx;rw[Array.getElem?_append];by_cases e:o<330;rw[if_pos (by simpa using e),if_pos e,Array.getElem?_replicate,if_pos e];rw[if_neg (by simpa using e),if_neg e,Array.getElem?_replicate,if_pos Sy]
theorem qE8(h:o<350):(bSx a b)[o]?=some (if o=0 then ai a else if o=1 then ai b else if o<330 then ai 0 else .bool false):=by
 unfold bSx;rw[Array.set!_eq_setIfInBounds,Array.set!_eq_setIfInBounds,Array.getElem?_setIfInBounds,Array.getElem?_setIfInBounds,qE7 h];by_cases I:o=0;subst I;simp[kV];by_cases K:o=1;subst K;simp[kV];rw[if_neg Oo,if_neg Oo,if_neg I,if_neg K]
theorem qDi(a b:Int):(bSx a b).size=350:=by simp[bSx,kV]
theorem qDj:Tryz.zeroCells192=zSx:=Kl
def zb(a b:Int):List Value:=(bSx a b).toList
theorem JA(a b:Int):zb a b=(bSx a b).toList:=rfl
theorem qDk(a b:Int):(Tryz.zeroCells192.toList.set 0 (ai a)).set 1 (ai b)=zb a b:=by
 rw[qDj];unfold zb bSx;simp
theorem vH(a b:Int):(zb a b).length=350:=by rw[JA];simpa using qDi a b
theorem Vh(h:o<350):(zb a b)[o]?=some (if o=0 then ai a else if o=1 then ai b else if o<330 then ai 0 else .bool false):=by
 rw[JA,Array.getElem?_toList];exact qE8 h
theorem qCg(a b:Int):∀v∈zb a b,v.oneCell'=true:=by
 intro v hv;obtain⟨j,I,e⟩:=List.mem_iff_getElem.1 hv;rw[vH]at I;have:=Vh (a:=a) (b:=b) I;rw[gE (by rw[vH];exact I),e]at this;simp only[Option.some.injEq]at this;rw[this];repeat' split
 all_goals rfl
theorem Zq(a b:Int)(W:World)(g:Nat)(I:W.there g 0 350):
 (storeCells (az g 0) ((Tryz.zeroCells192.toList.set 0 (ai a)).set 1 (ai b))).run Tryz.prog W=.ok () (W.setCells g 0 (zb a b)):=by
 have hl:=vH a b;rw[qDk];exact run_storeCells_cells (P:=Tryz.prog) g 0 (zb a b) 0 W (λj K=>by have:=(I j Oo).1;simpa using this) (λj K=>by have:=(I j Oo).2;simpa using this) (qCg a b)
theorem JB(m n:Nat)(I:W.there g 0 350):
 (∀o,o<350->(W.setCells g 0 (zb m n)).cell? (az g o)=some (if o=0 then ai m else if o=1 then ai n else if o<330 then ai 0 else .bool false))/\∀o,o<350->(W.setCells g 0 (zb m n)).frozen? (az g o)=false:=by
 refine⟨λo ho=>?_,λo ho=>?_⟩;have:=World.rangeAt_setCells_same W g 0 (zb m n) (by rw[vH];exact I) o _ (Vh ho);rwa[Nat.zero_add]at this;have:=(World.there_setCells I g 0 (zb m n) o ho).2;rwa[Nat.zero_add]at this
theorem yl(g:Nat):∀(vs:List Value) (o:Nat) (W:World) (k:Nat),k≠g->(W.setCells g o vs).1[k]?=W.1[k]?
 |[],_,_,_,_=>rfl
 |v::r,o,W,k,h=>by
  rw[World.setCells,yl g r (o+1) _ k h];exact bD _ _ _ _ h
theorem kY(w:World)(t:TypeId):(w.alloc (.cells Tryz.zeroCells192 t)).there w.1.size 0 350:=by rw[qDj];exact yK w t
structure Z0(W:World)(g m n i j:Nat):Prop where
 rows:W.cell? (az g 0)=some (ai m)
 cols:W.cell? (az g 1)=some (ai n)
 zero:∀a b,a<=m->b<=n->(a<i∨a=i/\b<j)->W.cell? (az g (2+a*40+b*2))=some (ai 0)/\W.cell? (az g (2+a*40+b*2+1))=some (ai 1)
 bas:∀a,a<m->W.cell? (az g (322+a))=some (ai 0)
 bars:∀b,b<n->W.cell? (az g (330+b))=some (.bool false)
 one:∀o,o<350->∃v,W.cell? (az g o)=some v/\v.oneCell'=true
 free:∀o,o<350->W.frozen? (az g o)=false
theorem Z0.start(M:m<=7)(O:n<=19)(I:∀o,o<350->W.cell? (az g o)=some (if o=0 then ai m else if o=1 then ai n else if o<330 then ai 0 else .bool false))(K:∀o,o<350->W.frozen? (az g o)=false):Z0 W g m n 0 0 where
 rows:=I 0 Oo
 cols:=I 1 Oo
 zero a b _ _ h:=Oo
 bas a ha:=by rw[I (322+a) Oo,if_neg Oo,if_neg Oo,if_pos Oo]
 bars b hb:=by rw[I (330+b) Oo,if_neg Oo,if_neg Oo,if_neg Oo]
 one o ho:=⟨_,I o ho,by(repeat' split) <;> rfl⟩
 free:=K
theorem Z0.below(h:Z0 W g m n i j)(hb:Bl W W'):Z0 W' g m n i j:=by
 have O:g<W.1.size:=bL W _ h.rows;have K:∀o,W'.cell? (az g o)=W.cell? (az g o):=λo=>hb.cell (p:=(az g o)) O;exact⟨(K _).trans h.rows,(K _).trans h.cols,λa b M I hl=>⟨(K _).trans (h.zero a b M I hl).1,(K _).trans (h.zero a b M I hl).2⟩,λa M=>(K _).trans (h.bas a M),λb I=>(K _).trans (h.bars b I),λo ho=>by rw[K];exact h.one o ho,λo ho=>(hb.frozen (p:=(az g o)) O).trans (h.free o ho)⟩
theorem Z0.step(h:Z0 W g m n i j)(hi:i<=m)(hj:j<=n)(hm:m<=7)(hn:n<=19):
 Z0 ((W.setCell (az g (2+i*40+j*2)) (ai 0)).setCell (az g (2+i*40+j*2+1)) (ai 1)) g m n i (j+1):=by
 have ne:∀(X:World) (a b:Nat) (v:Value),a≠b->(X.setCell (az g b) v).cell? (az g a)=X.cell? (az g a):=λX a b v U=>bC _ _ _ _ (by intro I;simp only[Addr.mk.injEq]at I;omega);obtain⟨v0,c0,_⟩:=h.one (2+i*40+j*2) Oo;obtain⟨v1,c1,_⟩:=h.one (2+i*40+j*2+1) Oo;have s0:((W.setCell (az g (2+i*40+j*2)) (ai 0)).setCell (az g (2+i*40+j*2+1)) (ai 1)).cell? (az g (2+i*40+j*2))=some (ai 0):=(ne _ _ _ _ Oo).trans (bG _ _ _ c0);have M:((W.setCell (az g (2+i*40+j*2)) (ai 0)).setCell (az g (2+i*40+j*2+1)) (ai 1)).cell? (az g (2+i*40+j*2+1))=some (ai 1):=bG _ _ _ ((ne _ _ _ _ Oo).trans c1);have oth:∀o,o≠2+i*40+j*2->o≠2+i*40+j*2+1->((W.setCell (az g (2+i*40+j*2)) (ai 0)).setCell (az g (2+i*40+j*2+1)) (ai 1)).cell? (az g o)=W.cell? (az g o):=λo V h2=>(ne _ _ _ _ h2).trans (ne _ _ _ _ V);refine⟨(oth 0 Oo Oo).trans h.rows,(oth 1 Oo Oo).trans h.cols,λa b K hb hl=>?_,λa K=>(oth _ Oo Oo).trans (h.bas a K),λb hb=>(oth _ Oo Oo).trans (h.bars b hb),λo ho=>?_,λo ho=>by rw[fS,fS];exact h.free o ho⟩
 ·by_cases e:a=i/\b=j;obtain⟨rfl,rfl⟩:=e;exact⟨s0,M⟩;have:=h.zero a b K hb Oo;exact⟨(oth _ Oo Oo).trans this.1,(oth _ Oo Oo).trans this.2⟩
 by_cases O:o=2+i*40+j*2;subst O;exact⟨_,s0,rfl⟩;by_cases I:o=2+i*40+j*2+1;subst I;exact⟨_,M,rfl⟩;rw[oth o O I];exact h.one o ho
theorem Z0.next(h:Z0 W g m n i (n+1)):Z0 W g m n (i+1) 0:=
 ⟨h.rows,h.cols,λa b I hb hl=>h.zero a b I hb Oo,h.bas,h.bars,h.one,h.free⟩
theorem Z0.done(h:Z0 W g m n (m+1) 0)(K:m<=7)(M:n<=19):SxAt W g m n (λ_ _=>0) (λ_=>0) (λ_=>false):=
 ⟨⟨h.rows,h.cols,λi j hi I=>(h.zero i j hi I Oo).1,λi j hi I=>(h.zero i j hi I Oo).2,h.bas,h.bars,h.one,K,M⟩,h.free⟩
def xi(u:Nat)(L:List (List Nat))(below:Bool)(i q:Nat):Nat->Nat->Rat:=λa b=>if a<i then xW u L below a b else if a=i/\b∈(L.getD i []).take q then 1 else 0
theorem Xt(u:Nat)(L:List (List Nat))(below:Bool)(a b:Nat):xi u L below 0 0 a b=0:=by
 unfold xi;rw[if_neg Oo];simp
theorem qAO(u:Nat)(L:List (List Nat))(below:Bool)(i q:Nat)(hq:q<(L.getD i []).length)(a b:Nat):
 xi u L below i (q+1) a b=if a=i/\b=(L.getD i []).getD q 0 then 1 else xi u L below i q a b:=by
 unfold xi;by_cases K:a<i;rw[if_pos K,if_neg Oo,if_pos K];rw[if_neg K,if_neg K];have U:b∈(L.getD i []).take (q+1)↔b∈(L.getD i []).take q∨b=(L.getD i []).getD q 0:=by
  generalize L.getD i []=l at *;rw[tA,gE hq,gD,gE hq,List.mem_append];simp only[Option.toList_some,List.mem_singleton,Option.getD_some]
 by_cases I:a=i
 ·by_cases M:b=(L.getD i []).getD q 0;rw[if_pos ⟨I,U.2 (Or.inr M)⟩,if_pos ⟨I,M⟩];rw[if_neg (show ¬(a=i/\b=(L.getD i []).getD q 0) from λh=>M h.2)];by_cases O:b∈(L.getD i []).take q;rw[if_pos ⟨I,U.2 (Or.inl O)⟩,if_pos ⟨I,O⟩];rw[if_neg (λh=>by rcases U.1 h.2 with V|V;exact O V;exact M V),if_neg (λh=>O h.2)]
 rw[if_neg (λh=>I h.1),if_neg (λh=>I h.1),if_neg (λh=>I h.1)]
theorem qBl(u:Nat)(L:List (List Nat))(below:Bool)(n i:Nat)(I:n=if below then u+L.length+L.length else u+L.length)(hi:i<L.length)(K:∀j∈L.getD i [],j<u)(a b:Nat):
 xi u L below (i+1) 0 a b=if a=i/\b=n then 1 else if a=i/\b=n-L.length+i then 1 else if below=true/\a=i/\b=u+i then -1 else xi u L below i (L.getD i []).length a b:=by
 have M:∀(l:List Nat) (x:Nat),l.contains x=decide (x∈l):=λl x=>by
  by_cases hb:x∈l;rw[decide_eq_true hb];exact List.contains_iff_mem.2 hb;rw[decide_eq_false hb];cases M:l.contains x
  rfl;exact absurd (List.contains_iff_mem.1 M) hb
 unfold xi xW;simp only[<-I,M,decide_eq_true_eq,List.take_length];generalize hl:L.getD i []=l at *;have U:∀x,x∈l->x<u:=K;by_cases O:a=i
 ·subst O;simp only[hl];cases below
  simp only[Bool.false_eq_true,if_false]at I;grind;simp only[if_true]at I;grind
 grind
theorem qE9{F:Nat->Value}(m n:Nat)(I:Bl w W)(O:W.there (w.1.size+1) 0 350)(U:ArrAt W w.1.size 3 F)(V:w.1.size+1<W.1.size)(hb:Bl W w'):
 w.1.size+1<w'.1.size/\Bl w ((w'.alloc (.cells Tryz.zeroCells192 t)).setCells w'.1.size 0 (zb m n))/\((w'.alloc (.cells Tryz.zeroCells192 t)).setCells w'.1.size 0 (zb m n)).there (w.1.size+1) 0 350/\ArrAt ((w'.alloc (.cells Tryz.zeroCells192 t)).setCells w'.1.size 0 (zb m n)) w.1.size 3 F/\
 (∀o,o<350->((w'.alloc (.cells Tryz.zeroCells192 t)).setCells w'.1.size 0 (zb m n)).cell? (az w'.1.size o)=some (if o=0 then ai m else if o=1 then ai n else if o<330 then ai 0 else .bool false))/\∀o,o<350->((w'.alloc (.cells Tryz.zeroCells192 t)).setCells w'.1.size 0 (zb m n)).frozen? (az w'.1.size o)=false:=by
 have hs:=hb.size;have K:Bl w' (w'.alloc (.cells Tryz.zeroCells192 t)):=(bJ _ _).alloc (nR _) _;have M:=JB (W:=w'.alloc (.cells Tryz.zeroCells192 t)) (g:=w'.1.size) m n (kY w' t);refine⟨Oo,?_,?_,?_,M.1,M.2⟩;exact yF (by have:=I.size;omega) _ _ _ (bt (bt I hb) K);exact World.there_setCells (qv (qv O hb) K) _ _ _;exact((U.below Oo hb).alloc Oo _).move (yl _ _ _ _ _ Oo)
theorem qFA{F:Nat->Value}(m n:Nat)(I:Bl w W)(O:W.there (w.1.size+1) 0 350)(V:ArrAt W w.1.size 3 F)(U:w.1.size+1<W.1.size)(hb:Below (W.alloc (.cells Tryz.zeroCells192 t)).1.size (W.alloc (.cells Tryz.zeroCells192 t)) w'):
 w.1.size+1<W.1.size/\Bl w (w'.setCells W.1.size 0 (zb m n))/\(w'.setCells W.1.size 0 (zb m n)).there (w.1.size+1) 0 350/\ArrAt (w'.setCells W.1.size 0 (zb m n)) w.1.size 3 F/\
 (∀o,o<350->(w'.setCells W.1.size 0 (zb m n)).cell? (az W.1.size o)=some (if o=0 then ai m else if o=1 then ai n else if o<330 then ai 0 else .bool false))/\∀o,o<350->(w'.setCells W.1.size 0 (zb m n)).frozen? (az W.1.size o)=false:=by
 have K:Bl W (W.alloc (.cells Tryz.zeroCells192 t)):=(bJ _ _).alloc (nR _) _;have M:=JB (W:=w') (g:=W.1.size) m n (qv (kY W t) hb);refine⟨U,?_,?_,?_,M.1,M.2⟩;exact yF (by have:=I.size;omega) _ _ _ (bt (bt I K) hb);exact World.there_setCells (qv (qv O K) hb) _ _ _;exact((V.alloc Oo _).below Oo hb).move (yl _ _ _ _ _ Oo)
structure STt(w W:World)(g:Nat)(F:Nat->Value)(m n:Nat)(C:Nat->Nat->Rat)(B:Nat->Nat):Prop where
 bel:Bl w W
 oth:W.there (w.1.size+1) 0 350
 arg:ArrAt W w.1.size 3 F
 sx:SxAt W g m n C B (λ_=>false)
 gt:w.1.size+1<g
theorem STt.below{F:Nat->Value}(h:STt w W g F m n C B)(hb:Bl W W'):STt w W' g F m n C B:=
 ⟨bt h.bel hb,qv h.oth hb,h.arg.below Oo hb,h.sx.below hb,h.gt⟩
theorem STt.put{F:Nat->Value}(h:STt w W g F m n C B)(hi:i<=m)(I:j<=n)(q:Rat):
 STt w ((W.setCell (az g (2+i*40+j*2)) (ai q.num)).setCell (az g (2+i*40+j*2+1)) (ai q.den)) g F m n (λa b=>if a=i/\b=j then q else C a b) B:=
 have K:=h.gt
 ⟨(h.bel.setCell (by show w.1.size<=g;omega) _).setCell (by show w.1.size<=g;omega) _,xV (xV h.oth _ _ _) _ _ _,(h.arg.move (bD _ _ _ _ (by show w.1.size≠g;omega))).move (bD _ _ _ _ (by show w.1.size≠g;omega)),h.sx.setNum hi I q,K⟩
theorem STt.bas{F:Nat->Value}(h:STt w W g F m n C B)(hi:i<m)(b:Nat):
 STt w (W.setCell (az g (322+i)) (ai (b:Nat))) g F m n C (λa=>if a=i then b else B a):=
 have I:=h.gt
 ⟨h.bel.setCell (by show w.1.size<=g;omega) _,xV h.oth _ _ _,h.arg.move (bD _ _ _ _ (by show w.1.size≠g;omega)),h.sx.setBas hi b,I⟩
theorem STt.congr{F:Nat->Value}{C':Nat->Nat->Rat}{B':Nat->Nat}(h:STt w W g F m n C B)(I:∀i j,i<=m->j<=n->C' i j=C i j)(hB:∀i,i<m->B' i=B i):STt w W g F m n C' B':=
 ⟨h.bel,h.oth,h.arg,h.sx.congr I hB (λ_ _=>rfl),h.gt⟩
theorem STt.cells{F:Nat->Value}(h:STt w W g F m n C B)(hi:i<=m)(I:j<=n):
 W.cell? (az g (2+i*40+j*2))=some (ai (C i j).num)/\W.cell? (az g (2+i*40+j*2+1))=some (ai (C i j).den)/\W.frozen? (az g (2+i*40+j*2))=false/\W.frozen? (az g (2+i*40+j*2+1))=false:=by
 have K:=h.sx.lay.mle;have M:=h.sx.lay.nle;exact⟨h.sx.lay.num i j hi I,h.sx.lay.den i j hi I,h.sx.free _ Oo,h.sx.free _ Oo⟩
theorem Xr{z:Nat}(K:z=n-m+i)(a:Nat):(if a<i+1 then n-m+a else 0)=if a=i then z else if a<i then n-m+a else 0:=by
 by_cases e:a=i;rw[if_pos Oo,if_pos e];omega;rw[if_neg e];by_cases I:a<i;rw[if_pos Oo,if_pos I];rw[if_neg Oo,if_neg I]
theorem wrap_small(n:Nat)(h:n<9223372036854775808):IntKind.i64.wrap (n:Int)=(n:Int):=by
 simp[IntKind.wrap,IntKind.bits,IntKind.signed];omega
end Go.Proofs.YtcnfapnfmnolbaaGreat
