import Derived.Deep.RegionLaw
import Derived.Test.YtjbpgdpciinlcaaGreatBg21
set_option maxHeartbeats 40000000
set_option maxRecDepth 1000000
namespace Go.Proofs.YtjbpgdpciinlcaaGreat
open Go.RowKit
variable {a b:Int}{c g i j k m n o:Nat}{bar:Nat->Bool}{B:Nat->Nat}{A C:Nat->Nat->Rat}{t:TypeId}{v:Value}{W W' w w':World}
theorem ZP(h:m<=7):Cov.fac m<=5040:=by
 match m,h with
 |0,_=>decide
 |1,_=>decide
 |2,_=>decide
 |3,_=>decide
 |4,_=>decide
 |5,_=>decide
 |6,_=>decide
 |7,_=>decide
def rc(cost:Nat->Int):Nat->Rat:=fun j=>((cost j:Int):Rat)
theorem vf{T:Nat->Nat->Rat}(h:Cov.Inv m n A T B)(hA:∀j,j<=n->∀r,r < m->Cov.Whole 1 (A j r))(hm:m<=7)(cost:Nat->Int)(hc:∀j,(cost j).natAbs<=1):
 (∀i,i < m->∀j,j<=n->Sm 41000 (T i j))/\(∀j,j<=n->∀i,i<=m->Sm 41000 (rc cost j - Cov.sm i (fun i'=>rc cost (B i')*T i' j))):=by
 obtain⟨D,h0,hD,hw⟩:=h.small hA;have hf:=ZP hm;have hwc:∀j,Cov.Whole 1 (rc cost j):=fun j=>⟨cost j,rfl,hc j⟩;refine⟨fun i hi j hj=>zJ h0 (by omega) (hw i hi j hj) (by omega),fun j hj i hi=>?_⟩;have hDw:Cov.Whole (Cov.fac m) ((D:Int):Rat):=⟨D,rfl,hD⟩
 have e:(rc cost j - Cov.sm i (fun i'=>rc cost (B i')*T i' j))*((D:Int):Rat)=rc cost j*((D:Int):Rat)+-(Cov.sm i (fun i'=>rc cost (B i')*(T i' j*((D:Int):Rat)))):=by
  have e1:Cov.sm i (fun i'=>rc cost (B i')*(T i' j*((D:Int):Rat)))=((D:Int):Rat)*Cov.sm i (fun i'=>rc cost (B i')*T i' j):=by
   rw[<-Cov.sm_mul];exact Cov.sm_congr (fun i' _=>by grind)
  rw[e1];grind
 have hs:Cov.Whole (i*(1*Cov.fac m)) (Cov.sm i (fun i'=>rc cost (B i')*(T i' j*((D:Int):Rat)))):=Cov.whole_sm i (fun i' hi'=>(hwc _).mul (hw i' (by omega) j hj))
 have ht:Cov.Whole (1*Cov.fac m+i*(1*Cov.fac m)) ((rc cost j - Cov.sm i (fun i'=>rc cost (B i')*T i' j))*((D:Int):Rat)):=by
  rw[e];exact((hwc j).mul hDw).add hs.neg
 refine zJ h0 (by omega) ht ?_;have h1:i*(1*Cov.fac m)<=7*5040:=Nat.mul_le_mul (by omega) (by omega);omega
def full(m:Nat)(cost:Nat->Int)(s:Cov.Sx):Nat->Nat->Rat:=fun i j=>if i=m then Cov.red m (rc cost) s.T s.B j else s.T i j
theorem best_lt {g:Nat->Bool} {b:Nat->Nat->Bool}:∀{m o:Nat},Cov.best g b m=some o->o < m
  |0,_,h=>by cases h
  |m+1,o,h=>by
   unfold Cov.best at h;cases hb:Cov.best g b m with
   |none=>
    rw[hb]at h;simp only at h;split at h
    ·simp only[Option.some.injEq]at h;omega
    ·cases h
   |some o'=>
    rw[hb]at h;have:=best_lt hb;simp only at h;split at h
    ·simp only[Option.some.injEq]at h;omega
    ·simp only[Option.some.injEq]at h;omega
theorem ZQ{g g':Nat->Bool}{b b':Nat->Nat->Bool}:∀{m:Nat},(∀i,i < m->g i=g' i)->(∀i,i < m->∀o,o < m->b i o=b' i o)->Cov.best g b m=Cov.best g' b' m
 |0,_,_=>rfl
 |m+1,hg,hb=>by
  have ih:=ZQ (m:=m) (fun i hi=>hg i (by omega)) (fun i hi o ho=>hb i (by omega) o (by omega));unfold Cov.best;rw[ih,hg m (by omega)];cases hbm:Cov.best g' b' m with
  |none=>rfl
  |some o=>
   have ho:o < m:=best_lt hbm;simp only;rw[hb m (by omega) o (by omega)]
theorem QW{p q:Nat->Bool}:∀{n:Nat},(∀i,i < n->p i=q i)->Cov.first p n=Cov.first q n
 |0,_=>rfl
 |n+1,h=>by
  unfold Cov.first;rw[QW (n:=n) (fun i hi=>h i (by omega)),h n (by omega)]
theorem Ka{cost:Nat->Int}{s:Cov.Sx}:Cov.first (fun j=>!bar j&&decide (full m cost s m j < 0)) n=Cov.enterOf m n (rc cost) bar s:=by
 unfold Cov.enterOf;refine QW (fun j _=>?_);unfold full;rw[if_pos rfl]
theorem Kc{cost:Nat->Int}{s:Cov.Sx}:Cov.best (fun i=>decide (0 < full m cost s i c)) (Cov.before (full m cost s) s.B n c) m=Cov.leaveOf m n s c:=by
 unfold Cov.leaveOf;have e:∀i,i < m->∀j,full m cost s i j=s.T i j:=fun i hi j=>if_neg (by omega);refine ZQ (fun i hi=>by rw[e i hi]) (fun i hi o ho=>?_);unfold Cov.before;rw[e i hi,e i hi,e o ho,e o ho]
theorem Kd{cost:Nat->Int}{s:Cov.Sx}(h:Cov.Inv m n A s.T s.B){r:Nat}(hr:r < m)(hp:s.T r c≠0){a b:Nat}(ha:a<=m):
 full m cost (Cov.pivS s r c) a b=Cov.pivT (full m cost s) r c a b:=by
 have e:∀i,i < m->∀j,full m cost s i j=s.T i j:=fun i hi j=>if_neg (by omega);have em:∀j,full m cost s m j=Cov.red m (rc cost) s.T s.B j:=fun j=>if_pos rfl;by_cases hm:a=m
 ·subst hm;rw[show full a cost (Cov.pivS s r c) a b=Cov.red a (rc cost) (Cov.pivT s.T r c) (Cov.pivB s.B r c) b from if_pos rfl,Cov.red_pivot h (rc cost) hr hp b];unfold Cov.pivT;rw[if_neg (by omega),em,em,e r hr,e r hr]
 ·rw[show full m cost (Cov.pivS s r c) a b=Cov.pivT s.T r c a b from if_neg hm];unfold Cov.pivT;rw[e r hr,e r hr,e a (by omega),e a (by omega)]
theorem SxAt.there(h:SxAt w k m n C B bar):w.there k 0 350:=by
 intro j hj;rw[Nat.zero_add];obtain⟨v,h1,_⟩:=h.lay.one j hj;have h1':w.cell? ⟨k,j,none⟩=some v:=h1;rw[h1'];exact⟨rfl,h.free j hj⟩
theorem YT(w:World)(k m n:Nat)(A C0:Nat->Nat->Rat)(s:Cov.Sx)(bar:Nat->Bool)(h:SxAt w k m n C0 s.B bar)(hC:∀i,i < m->∀j,j<=n->C0 i j=s.T i j)(hz:∀j,j<=n->Sm 41000 (C0 m j))
 (hG:Cov.Good m n A bar s) (hA:∀j,j<=n->∀r,r < m->Cov.Whole 1 (A j r)) (cost:Nat->Int) (hcost:∀j,(cost j).natAbs<=1):
 Cl 118 #[.pointer (some ⟨k,0,none⟩),.agg (qv 20 (fun j=>.int .i64 (cost j))).toArray] w fun e w'=>e=.returned (.tuple #[])/\Kb k w w'/\∃bar' s',Cov.Aim m n (rc cost) bar s bar' s'/\SxAt w' k m n (full m cost s') s'.B bar':=by
 have hm:=h.lay.mle;have hn:=h.lay.nle;obtain⟨K,hK1,hK2⟩:=Cov.halts (rc cost) hG;have hgood:Hid (∀q,Cov.Good m n A bar (Cov.it m n (rc cost) bar s q)):=fun q=>hG.it q
 have hbd:Hid (∀q,(∀a b,a<=m->b<=n->Sm 41000 (full m cost (Cov.it m n (rc cost) bar s q) a b))):=by
  intro q a b ha hb;obtain⟨g1,g2⟩:=vf (hgood.out q).inv hA hm cost hcost;unfold full;split
  ·exact g2 b hb m (nR _)
  ·exact g1 a (by omega) b hb
 have hpart:∀j i,j<=n->i<=m->Sm 41000 (part cost C0 s.B j i):=by
  intro j i hj hi;obtain⟨_,g2⟩:=vf hG.inv hA hm cost hcost;have:=g2 j hj i hi
  have e:part cost C0 s.B j i=rc cost j - Cov.sm i (fun i'=>rc cost (s.B i')*s.T i' j):=by
   unfold part rc;congr 1;exact Cov.sm_congr (fun i' hi'=>by rw[hC i' (by omega) j hj])
  rw[e];exact this
 have hsm0:∀a b,a<=m->b<=n->Sm 41000 (C0 a b):=by
  intro a b ha hb;by_cases e:a=m
  ·rw[e];exact hz b hb
  ·obtain⟨g1,_⟩:=vf hG.inv hA hm cost hcost;rw[hC a (by omega) b hb];exact g1 a (by omega) b hb
 have PR:=hid (fun (wx:World) (hx:SxAt wx k m n C0 s.B bar)=>U6 wx k m n C0 s.B bar hx cost hcost hG.inv.lt hsm0 hpart)
 have hprice:Hid (∀wx,SxAt wx k m n (xo cost C0 s.B m (n+1)) s.B bar->SxAt wx k m n (full m cost s) s.B bar):=by
  intro wx hx;refine hx.congr (fun a b ha hb=>?_) (fun _ _=>rfl) (fun _ _=>rfl);unfold full xo;by_cases e:a=m
  ·rw[if_pos e,if_pos ⟨e,by omega⟩];unfold Cov.red part rc;congr 1;exact Cov.sm_congr (fun i' hi'=>by rw[hC i' (by omega) b hb])
  ·rw[if_neg e,if_neg (by omega),hC a (by omega) b hb]
 clear hpart hsm0 hcost hz hC;have HA:=hid hA;have HK1:=hid hK1;have HK2:=hid hK2;have HG:=hid hG;clear hA hK1 hK2 hG;have har:=qt w 20 (fun j=>.int .i64 (cost j)) 160;have hsx0:=h.alloc (.cells (qv 20 (fun j=>.int .i64 (cost j))).toArray 160);have hkb0:Kb k w (w.alloc (.cells (qv 20 (fun j=>.int .i64 (cost j))).toArray 160)):=Kb.of_below ((bI _ _).alloc (nR _) _);have HR:=hid har.range
 have HI:Hid ((Tryz.prog.info? 160).map (·.size)=some (qv 20 (fun j=>Value.int .i64 (cost j))).length):=by
  show _=_;rw[vC];exact ZS
 clear har;go_enter Tryz.func118,Tryz.ntmps118
 go_wp2_with (first|(refine wpList_load_mid rfl 160 _ rfl w.heap.size 0 (by rfl) (qv 20 (fun j=>.int .i64 (cost j))) _ (by exact HR.out) Tryz.underlying160 (by rfl) (by exact HI.out) ?_))
 refine(PR.out _ hsx0).mono ?_;rintro e w1 ⟨rfl,hk1,hs1⟩;have hkb1:=hkb0.trans hk1;have hs1':=hprice.out w1 hs1;clear hkb0 hk1 hs1 hsx0 HR HI;go_wp2_with fail
 go_loopg [4] K (fun g _ wr=>∃q:Nat,q<=K/\g=K - q/\Kb k w wr/\SxAt wr k m n (full m cost (Cov.it m n (rc cost) bar s q)) (Cov.it m n (rc cost) bar s q).B bar)
 case atStart=>exact⟨0,nZ _,by omega,hkb1,hs1'⟩
 case round=>
  obtain⟨q,hq,hgk,hkb,hs⟩:=hrel;clear hkb1 hs1';have HGK:=hid hgk;clear hgk;obtain⟨sq,hsq⟩:∃sq,sq=Cov.it m n (rc cost) bar s q:=⟨_,rfl⟩;have hgq:Hid (Cov.Good m n A bar sq):=by rw[hsq];exact hgood.out q
  have hbq:Hid (∀a b,a<=m->b<=n->Sm 41000 (full m cost sq a b)):=by rw[hsq];exact hbd.out q
  have hbq1:Hid (∀a b,a<=m->b<=n->Sm 41000 (full m cost (Cov.nxt m n (rc cost) bar sq) a b)):=by rw[hsq];exact hbd.out (q+1)
  have HSQ:=hid hsq;rw[<-hsq]at hs;clear hsq;go_wp2_with fail
  refine(XK _ k m n _ _ bar hs).mono ?_;rintro e w2 ⟨rfl,hb2⟩;rw[Ka];have hs2:=hs.below hb2;have hkb2:=hkb.step hb2;clear hs hkb;cases he:Cov.enterOf m n (rc cost) bar sq with
  |none=>
   have hstep:Hid (Cov.stepOf m n (rc cost) bar sq=none):=by
    show _=_;unfold Cov.stepOf;rw[he]
   clear he;rw[show Cov.idx none=-1 from rfl];go_wp2_with fail
   refine(VM _ _ (-1) (by decide)).mono ?_;rintro e w3 ⟨rfl,hb3⟩;have hs3:=hs2.below hb3;have hkb3:=hkb2.step hb3;clear hs2 hkb2
   have hqK:q=K:=by
    by_cases e:q < K
    ·exact absurd hstep.out (by rw[HSQ.out];exact HK2.out q e)
    ·omega
   have hAim:Hid (Cov.Aim m n (rc cost) bar s (Cov.narrowed m n (rc cost) bar sq) sq):=⟨K,HK1.out,HK2.out,by rw[HSQ.out,hqK],rfl⟩;clear hqK;go_wp2_with fail
   refine(kP _ k m n _ _ bar hs3).mono ?_;rintro e w4 ⟨rfl,hk4,hs4⟩;go_wp2_with fail
   go_end0
   refine⟨rfl,hkb3.trans hk4,_,sq,hAim.out,hs4.congr (fun _ _ _ _=>rfl) (fun _ _=>rfl) (fun j hj=>?_)⟩;unfold Cov.narrowed full;rw[if_pos rfl]
  |some c=>
   have hc:c < n:=(Cov.first_some he).1;rw[show Cov.idx (some c)=(c:Int) from rfl];have HE:=hid he;clear he;go_wp2_with fail
   refine(VN _ k m n _ _ bar hs2 c hc hbq.out).mono ?_;rintro e w3 ⟨rfl,hb3⟩;rw[Kc];have hs3:=hs2.below hb3;have hkb3:=hkb2.step hb3;clear hs2 hkb2;cases hl:Cov.leaveOf m n sq c with
   |none=>
    have hstep:Hid (Cov.stepOf m n (rc cost) bar sq=none):=by
     show _=_;unfold Cov.stepOf;rw[HE.out];simp only;rw[hl]
    clear hl;rw[show Cov.idx none=-1 from rfl]
    have hqK:q=K:=by
     by_cases e:q < K
     ·exact absurd hstep.out (by rw[HSQ.out];exact HK2.out q e)
     ·omega
    have hAim:Hid (Cov.Aim m n (rc cost) bar s (Cov.narrowed m n (rc cost) bar sq) sq):=⟨K,HK1.out,HK2.out,by rw[HSQ.out,hqK],rfl⟩;clear hqK;go_wp2_with fail
    refine(kP _ k m n _ _ bar hs3).mono ?_;rintro e w4 ⟨rfl,hk4,hs4⟩;go_wp2_with fail
    go_end0
    refine⟨rfl,hkb3.trans hk4,_,sq,hAim.out,hs4.congr (fun _ _ _ _=>rfl) (fun _ _=>rfl) (fun j hj=>?_)⟩;unfold Cov.narrowed full;rw[if_pos rfl]
   |some r=>
    have hstep:Cov.stepOf m n (rc cost) bar sq=some (r,c):=by
     unfold Cov.stepOf;rw[HE.out];simp only;rw[hl]
    obtain⟨hr,_,_,_,_,hpos,_⟩:=Cov.step_some hstep;have hne:sq.T r c≠0:=by grind
    have hnx:Cov.nxt m n (rc cost) bar sq=Cov.pivS sq r c:=Cov.nxt_some hstep
    have hqK:q < K:=by
     by_cases e:q < K
     ·exact e
     ·exfalso;have e2:q=K:=by omega
      have:=HK1.out;rw[<-e2,<-HSQ.out,hstep]at this;cases this
    have hpv:Hid (∀a b,a<=m->Cov.pivT (full m cost sq) r c a b=full m cost (Cov.pivS sq r c) a b):=fun a b ha=>(Kd hgq.out.inv hr hne ha).symm
    have hsm':Hid (∀a b,a<=m->b<=n->Sm 41000 (Cov.pivT (full m cost sq) r c a b)):=fun a b ha hb=>by
     rw[hpv.out a b ha,<-hnx];exact hbq1.out a b ha hb
    have hne':Hid (full m cost sq r c≠0):=by
     show _≠_;unfold full;rw[if_neg (by omega)];exact hne
    have HN:Hid (Cov.it m n (rc cost) bar s (q+1)=Cov.pivS sq r c):=by
     show Cov.nxt m n (rc cost) bar (Cov.it m n (rc cost) bar s q)=_;rw[<-HSQ.out];exact hnx
    clear hl hstep hpos hnx hne;rw[show Cov.idx (some r)=(r:Int) from rfl];have i1:¬((r:Int) < 0):=by omega
    go_wp2_with fail
    refine(YU _ k m n _ _ bar hs3 r c hr hc hne'.out hbq.out hsm'.out).mono ?_;rintro e w4 ⟨V,rfl,hV,hb4⟩;have hs4:=hs3.below hb4;have hkb4:=hkb3.step hb4;have HT:Hid (w4.there k 0 V.size):=by rw[hV.1];exact hs4.there
    have HI:Hid ((Tryz.prog.info? 155).map (·.size)=some V.size):=by
     show _=_;rw[hV.1];exact vL
    have HO:=hid hV.one;have hs5:=hV.stored (w:=w4) (b:=k) hs4.there;clear hs3 hkb3;go_wp2_with (first|(refine wpList_store_mid rfl 155 _ _ rfl k 0 V (by rfl) (by rfl) (by exact HT.out) (by exact HI.out) (by exact HO.out) ?_))
    go_roundg (K - (q+1))
    case measure=>have:=HGK.out;omega
    case rel=>
     refine⟨q+1,by omega,rfl,Qa _ _ _ hkb4,?_⟩;rw[HN.out];exact hs5.congr (fun a b ha _=>(hpv.out a b ha).symm) (fun _ _=>rfl) (fun _ _=>rfl)
theorem jw(w:World)(u:Nat)(a:Option Addr)(len cap:Nat)(below:Bool)(hu:u<=7)(hl:len<=7):
 Cl 141 #[.agg #[.int .i64 u,.slice a len cap,.bool below]] w fun e w'=>e=.returned (.int .i64 ((if below then u+len+len else u+len:Nat):Int))/\Bl w w':=by
 cases below
 ·go_enter Tryz.func141,Tryz.ntmps141
  go_wp2;go_ret;exact⟨qO (by simp),by go_grown⟩
 ·go_enter Tryz.func141,Tryz.ntmps141
  go_wp2;go_ret;exact⟨qO (by omega),by go_grown⟩
def IntsAt(w:World)(v:Value)(l:List Nat):Prop:=∃a cap,v=.slice a l.length cap/\∀j,j < l.length->∃b o,a=some ⟨b,o,none⟩/\w.cell? ⟨b,o+j,none⟩=some (.int .i64 (l.getD j 0:Nat))
def RowsAt(w:World)(v:Value)(L:List (List Nat)):Prop:=∃a cap,v=.slice a L.length cap/\∀i,i < L.length->∃b o x,a=some ⟨b,o,none⟩/\w.cell? ⟨b,o+i,none⟩=some x/\IntsAt w x (L.getD i [])
theorem IntsAt.below{l:List Nat}(h:IntsAt w v l)(hb:Bl w w'):IntsAt w' v l:=by
 obtain⟨a,cap,rfl,h⟩:=h;refine⟨a,cap,rfl,fun j hj=>?_⟩;obtain⟨b,o,e,hc⟩:=h j hj;exact⟨b,o,e,(hb.cell (p:=⟨b,o+j,none⟩) (bL w _ hc)).trans hc⟩
theorem RowsAt.below{L:List (List Nat)}(h:RowsAt w v L)(hb:Bl w w'):RowsAt w' v L:=by
 obtain⟨a,cap,rfl,h⟩:=h;refine⟨a,cap,rfl,fun i hi=>?_⟩;obtain⟨b,o,x,e,hc,hx⟩:=h i hi;exact⟨b,o,x,e,(hb.cell (p:=⟨b,o+i,none⟩) (bL w _ hc)).trans hc,hx.below hb⟩
def xE(u:Nat)(L:List (List Nat))(below:Bool):Nat->Nat->Rat:=
 let m:=L.length
 let n:=if below then u+m+m else u+m
 fun i j=>if i < m then (if j=n then 1 else if j < u then (if (L.getD i []).contains j then 1 else 0) else if n - m+i=j then 1 else if below/\j=u+i then -1 else 0) else 0
theorem ArrAt.alloc{N:Nat}{f:Nat->Value}(h:ArrAt w k N f)(hN:0 < N)(o:Obj):ArrAt (w.alloc o) k N f:=h.move (Below.heap_alloc _ _ _ (h.lt hN))
def f3(x y z:Value):Nat->Value
 |0=>x
 |1=>y
 |_=>z
theorem ArrAt.three{x y z:Value}(h:ArrAt w k 3 (f3 x y z)):w.cell? ⟨k,0,none⟩=some x/\w.cell? ⟨k,1,none⟩=some y/\w.cell? ⟨k,2,none⟩=some z:=⟨h.cell 0 (by omega),h.cell 1 (by omega),h.cell 2 (by omega)⟩
def bSx(a b:Int):Array Value:=(zSx.set! 0 (.int .i64 a)).set! 1 (.int .i64 b)
theorem qCz(h:o < 350):zSx[o]?=some (if o < 330 then .int .i64 0 else .bool false):=by
 unfold zSx;rw[Array.getElem?_append];by_cases e:o < 330
 ·rw[if_pos (by simpa using e),if_pos e,Array.getElem?_replicate,if_pos e]
 ·rw[if_neg (by simpa using e),if_neg e,Array.getElem?_replicate,if_pos (by simp;omega)]
theorem qC0(h:o < 350):(bSx a b)[o]?=some (if o=0 then .int .i64 a else if o=1 then .int .i64 b else if o < 330 then .int .i64 0 else .bool false):=by
 unfold bSx;rw[Array.set!_eq_setIfInBounds,Array.set!_eq_setIfInBounds,Array.getElem?_setIfInBounds,Array.getElem?_setIfInBounds,qCz h];by_cases e0:o=0
 ·subst e0;simp[jR]
 ·by_cases e1:o=1
  ·subst e1;simp[jR]
  ·rw[if_neg (by omega),if_neg (by omega),if_neg e0,if_neg e1]
theorem qBm(a b:Int):(bSx a b).size=350:=by simp[bSx,jR]
theorem qBn:Tryz.zeroCells155=zSx:=by kernel_rfl
def zO(a b:Int):List Value:=(bSx a b).toList
theorem VU(a b:Int):zO a b=(bSx a b).toList:=rfl
theorem qBo(a b:Int):(Tryz.zeroCells155.toList.set 0 (.int .i64 a)).set 1 (.int .i64 b)=zO a b:=by
 rw[qBn];unfold zO bSx;simp
theorem yV(a b:Int):(zO a b).length=350:=by rw[VU];simpa using qBm a b
theorem YA(h:o < 350):(zO a b)[o]?=some (if o=0 then .int .i64 a else if o=1 then .int .i64 b else if o < 330 then .int .i64 0 else .bool false):=by
 rw[VU,Array.getElem?_toList];exact qC0 h
theorem qAo(a b:Int):∀v∈zO a b,v.oneCell'=true:=by
 intro v hv;obtain⟨j,hj,e⟩:=List.mem_iff_getElem.1 hv;rw[yV]at hj;have:=YA (a:=a) (b:=b) hj;rw[gE (by rw[yV];exact hj),e]at this;simp only[Option.some.injEq]at this;rw[this];repeat' split
 all_goals rfl
theorem Qc(a b:Int)(W:World)(g:Nat)(ht:W.there g 0 350):
 (storeCells ⟨g,0,none⟩ ((Tryz.zeroCells155.toList.set 0 (.int .i64 a)).set 1 (.int .i64 b))).run Tryz.prog W=.ok () (W.setCells g 0 (zO a b)):=by
 have hl:=yV a b;rw[qBo];exact run_storeCells_cells (P:=Tryz.prog) g 0 (zO a b) 0 W (fun j hj=>by have:=(ht j (by omega)).1;simpa using this) (fun j hj=>by have:=(ht j (by omega)).2;simpa using this) (qAo a b)
theorem VV(m n:Nat)(ht:W.there g 0 350):
 (∀o,o < 350->(W.setCells g 0 (zO m n)).cell? ⟨g,o,none⟩=some (if o=0 then .int .i64 m else if o=1 then .int .i64 n else if o < 330 then .int .i64 0 else .bool false))/\∀o,o < 350->(W.setCells g 0 (zO m n)).frozen? ⟨g,o,none⟩=false:=by
 refine⟨fun o ho=>?_,fun o ho=>?_⟩
 ·have:=World.rangeAt_setCells_same W g 0 (zO m n) (by rw[yV];exact ht) o _ (YA ho);rwa[Nat.zero_add]at this
 ·have:=(World.there_setCells ht g 0 (zO m n) o ho).2;rwa[Nat.zero_add]at this
theorem yG(g:Nat):∀(vs:List Value) (o:Nat) (W:World) (k:Nat),k≠g->(W.setCells g o vs).heap[k]?=W.heap[k]?
 |[],_,_,_,_=>rfl
 |v::r,o,W,k,h=>by
  rw[World.setCells,yG g r (o+1) _ k h];exact bD _ _ _ _ h
theorem jT(w:World)(t:TypeId):(w.alloc (.cells Tryz.zeroCells155 t)).there w.heap.size 0 350:=by rw[qBn];exact xn w t
structure Z0(W:World)(g m n i j:Nat):Prop where
 rows:W.cell? ⟨g,0,none⟩=some (.int .i64 m)
 cols:W.cell? ⟨g,1,none⟩=some (.int .i64 n)
 zero:∀a b,a<=m->b<=n->(a < i∨a=i/\b < j)->W.cell? ⟨g,2+a*40+b*2,none⟩=some (.int .i64 0)/\W.cell? ⟨g,2+a*40+b*2+1,none⟩=some (.int .i64 1)
 bas:∀a,a < m->W.cell? ⟨g,322+a,none⟩=some (.int .i64 0)
 bars:∀b,b < n->W.cell? ⟨g,330+b,none⟩=some (.bool false)
 one:∀o,o < 350->∃v,W.cell? ⟨g,o,none⟩=some v/\v.oneCell'=true
 free:∀o,o < 350->W.frozen? ⟨g,o,none⟩=false
theorem Z0.start(hm:m<=7)(hn:n<=19)(hc:∀o,o < 350->W.cell? ⟨g,o,none⟩=some (if o=0 then .int .i64 m else if o=1 then .int .i64 n else if o < 330 then .int .i64 0 else .bool false))(hf:∀o,o < 350->W.frozen? ⟨g,o,none⟩=false):Z0 W g m n 0 0 where
 rows:=hc 0 (by omega)
 cols:=hc 1 (by omega)
 zero a b _ _ h:=by omega
 bas a ha:=by rw[hc (322+a) (by omega),if_neg (by omega),if_neg (by omega),if_pos (by omega)]
 bars b hb:=by rw[hc (330+b) (by omega),if_neg (by omega),if_neg (by omega),if_neg (by omega)]
 one o ho:=⟨_,hc o ho,by(repeat' split) <;> rfl⟩
 free:=hf
theorem Z0.below(h:Z0 W g m n i j)(hb:Bl W W'):Z0 W' g m n i j:=by
 have hg:g < W.heap.size:=bL W _ h.rows;have hc:∀o,W'.cell? ⟨g,o,none⟩=W.cell? ⟨g,o,none⟩:=fun o=>hb.cell (p:=⟨g,o,none⟩) hg;exact⟨(hc _).trans h.rows,(hc _).trans h.cols,fun a b ha hb' hl=>⟨(hc _).trans (h.zero a b ha hb' hl).1,(hc _).trans (h.zero a b ha hb' hl).2⟩,fun a ha=>(hc _).trans (h.bas a ha),fun b hb'=>(hc _).trans (h.bars b hb'),fun o ho=>by rw[hc];exact h.one o ho,fun o ho=>(hb.frozen (p:=⟨g,o,none⟩) hg).trans (h.free o ho)⟩
theorem Z0.step(h:Z0 W g m n i j)(hi:i<=m)(hj:j<=n)(hm:m<=7)(hn:n<=19):
 Z0 ((W.setCell ⟨g,2+i*40+j*2,none⟩ (.int .i64 0)).setCell ⟨g,2+i*40+j*2+1,none⟩ (.int .i64 1)) g m n i (j+1):=by
 have ne:∀(X:World) (a b:Nat) (v:Value),a≠b->(X.setCell ⟨g,b,none⟩ v).cell? ⟨g,a,none⟩=X.cell? ⟨g,a,none⟩:=fun X a b v hab=>bC _ _ _ _ (by intro e2;simp only[Addr.mk.injEq]at e2;omega);obtain⟨v0,c0,_⟩:=h.one (2+i*40+j*2) (by omega);obtain⟨v1,c1,_⟩:=h.one (2+i*40+j*2+1) (by omega);have s0:((W.setCell ⟨g,2+i*40+j*2,none⟩ (.int .i64 0)).setCell ⟨g,2+i*40+j*2+1,none⟩ (.int .i64 1)).cell? ⟨g,2+i*40+j*2,none⟩=some (.int .i64 0):=(ne _ _ _ _ (by omega)).trans (bF _ _ _ c0);have s1:((W.setCell ⟨g,2+i*40+j*2,none⟩ (.int .i64 0)).setCell ⟨g,2+i*40+j*2+1,none⟩ (.int .i64 1)).cell? ⟨g,2+i*40+j*2+1,none⟩=some (.int .i64 1):=bF _ _ _ ((ne _ _ _ _ (by omega)).trans c1);have oth:∀o,o≠2+i*40+j*2->o≠2+i*40+j*2+1->((W.setCell ⟨g,2+i*40+j*2,none⟩ (.int .i64 0)).setCell ⟨g,2+i*40+j*2+1,none⟩ (.int .i64 1)).cell? ⟨g,o,none⟩=W.cell? ⟨g,o,none⟩:=fun o h1 h2=>(ne _ _ _ _ h2).trans (ne _ _ _ _ h1);refine⟨(oth 0 (by omega) (by omega)).trans h.rows,(oth 1 (by omega) (by omega)).trans h.cols,fun a b ha hb hl=>?_,fun a ha=>(oth _ (by omega) (by omega)).trans (h.bas a ha),fun b hb=>(oth _ (by omega) (by omega)).trans (h.bars b hb),fun o ho=>?_,fun o ho=>by rw[fS,fS];exact h.free o ho⟩
 ·by_cases e:a=i/\b=j
  ·obtain⟨rfl,rfl⟩:=e;exact⟨s0,s1⟩
  ·have:=h.zero a b ha hb (by omega);exact⟨(oth _ (by omega) (by omega)).trans this.1,(oth _ (by omega) (by omega)).trans this.2⟩
 ·by_cases e1:o=2+i*40+j*2
  ·subst e1;exact⟨_,s0,rfl⟩
  ·by_cases e2:o=2+i*40+j*2+1
   ·subst e2;exact⟨_,s1,rfl⟩
   ·rw[oth o e1 e2];exact h.one o ho
theorem Z0.next(h:Z0 W g m n i (n+1)):Z0 W g m n (i+1) 0:=
 ⟨h.rows,h.cols,fun a b ha hb hl=>h.zero a b ha hb (by omega),h.bas,h.bars,h.one,h.free⟩
theorem Z0.done(h:Z0 W g m n (m+1) 0)(hm:m<=7)(hn:n<=19):SxAt W g m n (fun _ _=>0) (fun _=>0) (fun _=>false):=
 ⟨⟨h.rows,h.cols,fun i j hi hj=>(h.zero i j hi hj (by omega)).1,fun i j hi hj=>(h.zero i j hi hj (by omega)).2,h.bas,h.bars,h.one,hm,hn⟩,h.free⟩
def xK(u:Nat)(L:List (List Nat))(below:Bool)(i q:Nat):Nat->Nat->Rat:=fun a b=>if a < i then xE u L below a b else if a=i/\b∈(L.getD i []).take q then 1 else 0
theorem Zd(u:Nat)(L:List (List Nat))(below:Bool)(a b:Nat):xK u L below 0 0 a b=0:=by
 unfold xK;rw[if_neg (by omega)];simp
theorem U7(u:Nat)(L:List (List Nat))(below:Bool)(i q:Nat)(hq:q < (L.getD i []).length)(a b:Nat):
 xK u L below i (q+1) a b=if a=i/\b=(L.getD i []).getD q 0 then 1 else xK u L below i q a b:=by
 unfold xK;by_cases h1:a < i
 ·rw[if_pos h1,if_neg (by omega),if_pos h1]
 ·rw[if_neg h1,if_neg h1]
  have hm:b∈(L.getD i []).take (q+1)↔b∈(L.getD i []).take q∨b=(L.getD i []).getD q 0:=by
   generalize L.getD i []=l at *;rw[tA,gE hq,gD,gE hq,List.mem_append];simp only[Option.toList_some,List.mem_singleton,Option.getD_some]
  by_cases h2:a=i
  ·by_cases h3:b=(L.getD i []).getD q 0
   ·rw[if_pos ⟨h2,hm.2 (Or.inr h3)⟩,if_pos ⟨h2,h3⟩]
   ·rw[if_neg (show ¬(a=i/\b=(L.getD i []).getD q 0) from fun h=>h3 h.2)];by_cases h4:b∈(L.getD i []).take q
    ·rw[if_pos ⟨h2,hm.2 (Or.inl h4)⟩,if_pos ⟨h2,h4⟩]
    ·rw[if_neg (fun h=>by rcases hm.1 h.2 with h5|h5;exact h4 h5;exact h3 h5),if_neg (fun h=>h4 h.2)]
  ·rw[if_neg (fun h=>h2 h.1),if_neg (fun h=>h2 h.1),if_neg (fun h=>h2 h.1)]
theorem Km(u:Nat)(L:List (List Nat))(below:Bool)(n i:Nat)(hn:n=if below then u+L.length+L.length else u+L.length)(hi:i < L.length)(hin:∀j∈L.getD i [],j < u)(a b:Nat):
 xK u L below (i+1) 0 a b=if a=i/\b=n then 1 else if a=i/\b=n - L.length+i then 1 else if below=true/\a=i/\b=u+i then -1 else xK u L below i (L.getD i []).length a b:=by
 have hc:∀(l:List Nat) (x:Nat),l.contains x=decide (x∈l):=fun l x=>by
  by_cases hb:x∈l
  ·rw[decide_eq_true hb];exact List.contains_iff_mem.2 hb
  ·rw[decide_eq_false hb];cases hc:l.contains x
   ·rfl
   ·exact absurd (List.contains_iff_mem.1 hc) hb
 unfold xK xE;simp only[<-hn,hc,decide_eq_true_eq,List.take_length];generalize hl:L.getD i []=l at *;have hm:∀x,x∈l->x < u:=hin;by_cases h2:a=i
 ·subst h2;simp only[hl];cases below
  ·simp only[Bool.false_eq_true,if_false]at hn;grind
  ·simp only[if_true]at hn;grind
 ·grind
theorem qC1{F:Nat->Value}(m n:Nat)(hB1:Bl w W)(hT1:W.there (w.heap.size+1) 0 350)(h3:ArrAt W w.heap.size 3 F)(hz1:w.heap.size+1 < W.heap.size)(hb:Bl W w'):
 w.heap.size+1 < w'.heap.size/\Bl w ((w'.alloc (.cells Tryz.zeroCells155 t)).setCells w'.heap.size 0 (zO m n))/\((w'.alloc (.cells Tryz.zeroCells155 t)).setCells w'.heap.size 0 (zO m n)).there (w.heap.size+1) 0 350/\ArrAt ((w'.alloc (.cells Tryz.zeroCells155 t)).setCells w'.heap.size 0 (zO m n)) w.heap.size 3 F/\
 (∀o,o < 350->((w'.alloc (.cells Tryz.zeroCells155 t)).setCells w'.heap.size 0 (zO m n)).cell? ⟨w'.heap.size,o,none⟩=some (if o=0 then .int .i64 m else if o=1 then .int .i64 n else if o < 330 then .int .i64 0 else .bool false))/\∀o,o < 350->((w'.alloc (.cells Tryz.zeroCells155 t)).setCells w'.heap.size 0 (zO m n)).frozen? ⟨w'.heap.size,o,none⟩=false:=by
 have hs:=hb.size;have hal:Bl w' (w'.alloc (.cells Tryz.zeroCells155 t)):=(bI _ _).alloc (nR _) _;have hsx:=VV (W:=w'.alloc (.cells Tryz.zeroCells155 t)) (g:=w'.heap.size) m n (jT w' t);refine⟨by omega,?_,?_,?_,hsx.1,hsx.2⟩
 ·exact xj (by have:=hB1.size;omega) _ _ _ (bt (bt hB1 hb) hal)
 ·exact World.there_setCells (qg (qg hT1 hb) hal) _ _ _
 ·exact((h3.below (by omega) hb).alloc (by omega) _).move (yG _ _ _ _ _ (by omega))
theorem qC2{F:Nat->Value}(m n:Nat)(hB1:Bl w W)(hT1:W.there (w.heap.size+1) 0 350)(h3:ArrAt W w.heap.size 3 F)(hz1:w.heap.size+1 < W.heap.size)(hb:Below (W.alloc (.cells Tryz.zeroCells155 t)).heap.size (W.alloc (.cells Tryz.zeroCells155 t)) w'):
 w.heap.size+1 < W.heap.size/\Bl w (w'.setCells W.heap.size 0 (zO m n))/\(w'.setCells W.heap.size 0 (zO m n)).there (w.heap.size+1) 0 350/\ArrAt (w'.setCells W.heap.size 0 (zO m n)) w.heap.size 3 F/\
 (∀o,o < 350->(w'.setCells W.heap.size 0 (zO m n)).cell? ⟨W.heap.size,o,none⟩=some (if o=0 then .int .i64 m else if o=1 then .int .i64 n else if o < 330 then .int .i64 0 else .bool false))/\∀o,o < 350->(w'.setCells W.heap.size 0 (zO m n)).frozen? ⟨W.heap.size,o,none⟩=false:=by
 have hal:Bl W (W.alloc (.cells Tryz.zeroCells155 t)):=(bI _ _).alloc (nR _) _;have hsx:=VV (W:=w') (g:=W.heap.size) m n (qg (jT W t) hb);refine⟨hz1,?_,?_,?_,hsx.1,hsx.2⟩
 ·exact xj (by have:=hB1.size;omega) _ _ _ (bt (bt hB1 hal) hb)
 ·exact World.there_setCells (qg (qg hT1 hal) hb) _ _ _
 ·exact((h3.alloc (by omega) _).below (by omega) hb).move (yG _ _ _ _ _ (by omega))
structure STt(w W:World)(g:Nat)(F:Nat->Value)(m n:Nat)(C:Nat->Nat->Rat)(B:Nat->Nat):Prop where
 bel:Bl w W
 out:W.there (w.heap.size+1) 0 350
 arg:ArrAt W w.heap.size 3 F
 sx:SxAt W g m n C B (fun _=>false)
 gt:w.heap.size+1 < g
theorem STt.below{F:Nat->Value}(h:STt w W g F m n C B)(hb:Bl W W'):STt w W' g F m n C B:=
 ⟨bt h.bel hb,qg h.out hb,h.arg.below (by omega) hb,h.sx.below hb,h.gt⟩
theorem STt.put{F:Nat->Value}(h:STt w W g F m n C B)(hi:i<=m)(hj:j<=n)(q:Rat):
 STt w ((W.setCell ⟨g,2+i*40+j*2,none⟩ (.int .i64 q.num)).setCell ⟨g,2+i*40+j*2+1,none⟩ (.int .i64 q.den)) g F m n (fun a b=>if a=i/\b=j then q else C a b) B:=
 have hg:=h.gt
 ⟨(h.bel.setCell (by show w.heap.size<=g;omega) _).setCell (by show w.heap.size<=g;omega) _,xD (xD h.out _ _ _) _ _ _,(h.arg.move (bD _ _ _ _ (by show w.heap.size≠g;omega))).move (bD _ _ _ _ (by show w.heap.size≠g;omega)),h.sx.setNum hi hj q,hg⟩
theorem STt.bas{F:Nat->Value}(h:STt w W g F m n C B)(hi:i < m)(b:Nat):
 STt w (W.setCell ⟨g,322+i,none⟩ (.int .i64 (b:Nat))) g F m n C (fun a=>if a=i then b else B a):=
 have hg:=h.gt
 ⟨h.bel.setCell (by show w.heap.size<=g;omega) _,xD h.out _ _ _,h.arg.move (bD _ _ _ _ (by show w.heap.size≠g;omega)),h.sx.setBas hi b,hg⟩
theorem STt.congr{F:Nat->Value}{C':Nat->Nat->Rat}{B':Nat->Nat}(h:STt w W g F m n C B)(hC:∀i j,i<=m->j<=n->C' i j=C i j)(hB:∀i,i < m->B' i=B i):STt w W g F m n C' B':=
 ⟨h.bel,h.out,h.arg,h.sx.congr hC hB (fun _ _=>rfl),h.gt⟩
theorem STt.cells{F:Nat->Value}(h:STt w W g F m n C B)(hi:i<=m)(hj:j<=n):
 W.cell? ⟨g,2+i*40+j*2,none⟩=some (.int .i64 (C i j).num)/\W.cell? ⟨g,2+i*40+j*2+1,none⟩=some (.int .i64 (C i j).den)/\W.frozen? ⟨g,2+i*40+j*2,none⟩=false/\W.frozen? ⟨g,2+i*40+j*2+1,none⟩=false:=by
 have h1:=h.sx.lay.mle;have h2:=h.sx.lay.nle;exact⟨h.sx.lay.num i j hi hj,h.sx.lay.den i j hi hj,h.sx.free _ (by omega),h.sx.free _ (by omega)⟩
theorem Zb{z:Nat}(hz:z=n - m+i)(a:Nat):(if a < i+1 then n - m+a else 0)=if a=i then z else if a < i then n - m+a else 0:=by
 by_cases e:a=i
 ·rw[if_pos (by omega),if_pos e];omega
 ·rw[if_neg e];by_cases e2:a < i
  ·rw[if_pos (by omega),if_pos e2]
  ·rw[if_neg (by omega),if_neg e2]
theorem wrap_small(n:Nat)(h:n < 9223372036854775808):IntKind.i64.wrap (n:Int)=(n:Int):=by
 simp[IntKind.wrap,IntKind.bits,IntKind.signed];omega
end Go.Proofs.YtjbpgdpciinlcaaGreat
