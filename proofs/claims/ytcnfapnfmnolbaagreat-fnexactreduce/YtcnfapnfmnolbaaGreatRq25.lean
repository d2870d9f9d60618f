import Derived.Test.YtcnfapnfmnolbaaGreatRq11
set_option maxHeartbeats 40000000
set_option maxRecDepth 1000000
namespace Go.Proofs.YtcnfapnfmnolbaaGreat
open Go.RowKit Meet
variable {r:LI}{D:LI->Prop}{rows rs:LL}{B K i j node root:Nat}{o:Obj}{W W0 w w3:World}
theorem qAo(w:World)(tb fb cap gb cb:Nat)(l:LI)(k:Int->Nat)(x:Int)(hv:w.cell? (az tb 0)=some (.slice (some (az fb 0)) l.length cap))(hb:w.cell? (az tb 1)=some (.slice (some (az gb 0)) l.length cb))
 (ho:∀j,j<l.length->w.cell? (az fb j)=some (ai (l.getD j 0))) (hp:∀j,j<l.length->w.cell? (az gb j)=some (.pointer (some (az (k (l.getD j 0)) 0))))
 (h0:0<l.length) (hl:l.length<=1000000) (a7:l.length<=cap) (ha:Asc l):
 Cl 116 #[.pointer (some (az tb 0)),ai x] w λe w'=>e=.returned (.pointer (if x∈l then some (az (k x) 0) else none))/\Bl w w':=by
 obtain⟨V,I⟩:=Ex (w.alloc (.cells #[.pointer (some (az tb 0)),ai 0] 176));have a4:Bl w V:=by rw[I];exact(bJ _ _).alloc (nR _) _
 have hc:∀{a:Addr} {v:Value},w.cell? a=some v->V.cell? a=some v:=λ{a v} h=>(a4.cell (bL w _ h)).trans h;have C1:Cq V w.1.size 0 tb fb cap (.slice (some (az gb 0)) l.length cb) l 0:=⟨by rw[I,bE _ _ _ _ rfl];rfl,by rw[I,bE _ _ _ _ rfl];rfl,by rw[I];unfold World.frozen?;rw[heap_alloc_new];simp,hc hv,hc hb,λj hj=>hc (ho j hj)⟩;have KS:=ay (Z4 V w.1.size 0 tb fb cap _ l 0 x C1 Oo a7 h0 ha);rw[List.drop_zero,Nat.zero_add,Nat.zero_add]at KS;obtain⟨q,hq⟩:=Ex (bsQ l x);have b0:=a4.size;have a8:=(QG (uW ha) x).1;have H2:Hh (∀d,Cq ((V.drewN d).setCell (az w.1.size 1) (ai q)) w.1.size 0 tb fb cap (.slice (some (az gb 0)) l.length cb) l q/\Bl w ((V.drewN d).setCell (az w.1.size 1) (ai q))/\∀j,j<l.length->((V.drewN d).setCell (az w.1.size 1) (ai q)).cell? (az gb j)=some (.pointer (some (az (k (l.getD j 0)) 0)))):=ay λd=>by
  have a9:Bl w ((V.drewN d).setCell (az w.1.size 1) (ai q)):=(below_drewN a4 d).setCell (nR _) _;have a5:∀{a:Addr} {v:Value},w.cell? a=some v->((V.drewN d).setCell (az w.1.size 1) (ai q)).cell? a=some v:=λ{a v} h=>(a9.cell (bL w _ h)).trans h;have hh:((V.drewN d).setCell (az w.1.size 1) (ai q)).1[w.1.size]?=some (.cells #[.pointer (some (az tb 0)),ai q] 176 (0,0)):=by
   rw[bI (V.drewN d) w.1.size 1 #[.pointer (some (az tb 0)),ai 0] 176 _ (by rw[I];exact heap_alloc_new _ _)];rfl
  refine⟨⟨?_,?_,?_,a5 hv,a5 hb,λj hj=>a5 (ho j hj)⟩,a9,λj hj=>a5 (hp j hj)⟩;rw[cell_of_row _ _ _ _ _ _ hh];rfl;rw[cell_of_row _ _ _ _ _ _ hh];rfl;unfold World.frozen?;rw[hh];simp
 clear C1 hc a4 b0 hv hb ho hp;rw[<-hq]at KS a8;have KE:Hh (∀W,Cq W w.1.size 0 tb fb cap (.slice (some (az gb 0)) l.length cb) l q->Cl 138 #[.pointer (some (az w.1.size 0))] W λe w'=>e=.returned (.bool (decide (q=l.length)))/\∃d,w'=W.drewN d):=ay λW hW=>ZG W _ _ _ _ _ _ _ _ hW;by_cases a3:q<l.length
 ·have KV:Hh (∀W,Cq W w.1.size 0 tb fb cap (.slice (some (az gb 0)) l.length cb) l q->Cl 139 #[.pointer (some (az w.1.size 0))] W λe w'=>e=.returned (ai (l.getD q 0))/\∃d,w'=W.drewN d):=ay λW hW=>ZH W _ _ _ _ _ _ _ _ hW a3;have KB:Hh (∀W,Cq W w.1.size 0 tb fb cap (.slice (some (az gb 0)) l.length cb) l q->W.cell? (az gb q)=some (.pointer (some (az (k (l.getD q 0)) 0)))->Cl 140 #[.pointer (some (az w.1.size 0))] W λe w'=>e=.returned (.pointer (some (az (k (l.getD q 0)) 0)))/\∃d,w'=W.drewN d):=ay λW hW hy=>ZI W _ _ _ _ _ _ _ _ _ _ _ hW a3 hy;rw[decide_eq_false Oo]at KE;have HX:Hh ((if x∈l then some ((az (k x) 0):Addr) else none)=if l.getD q 0=x then some (az (k x) 0) else none):=ay (by
   by_cases hx:x∈l;have:=(ZJ ha hx).2;rw[<-hq]at this;rw[if_pos hx,if_pos this];have:=qBS hx (by rw[<-hq];exact a3);rw[<-hq]at this;rw[if_neg hx,if_neg this])
  rw[HX.o];have HP:Hh (∀d,((V.drewN d).setCell (az w.1.size 1) (ai q)).cell? (az gb q)=some (.pointer (some (az (k (l.getD q 0)) 0)))):=ay λd=>(H2.o d).2.2 q a3;clear HX ha hq a8 h0 hl a7 a3;generalize l.getD q 0=y at *;by_cases e:y=x
  ·subst e;rw[if_pos rfl];go_enter Tryz.func116,Tryz.ntmps116;go_upto_region 2 with fail;rw[<-I];clear I;go_wp2_with fail;refine KS.o.mono ?_;rintro e w2 ⟨⟨v,rfl⟩,d,M⟩;obtain⟨K,O,-⟩:=H2.o d;have hP:=HP.o d;rw[<-M]at K O hP;have U:=ay (KE.o w2 K);clear H2 HP M KS KE;go_wp2_with fail;refine U.o.mono ?_;rintro e w3 ⟨rfl,d3,rfl⟩;have a6:=ay (KV.o _ (K.drewN d3));clear U KV;go_wp2_with fail;refine a6.o.mono ?_;rintro e w4 ⟨rfl,d4,rfl⟩;have b1:=ay (KB.o _ (K.drewN (d3+d4)) hP);clear a6 KB;go_wp2_with fail;refine b1.o.mono ?_;rintro e w5 ⟨rfl,d5,rfl⟩;go_wp2_with fail;go_ret;exact⟨rfl,below_drewN O _⟩
  rw[if_neg e];go_enter Tryz.func116,Tryz.ntmps116;go_upto_region 2 with fail;rw[<-I];clear I;go_wp2_with fail;refine KS.o.mono ?_;rintro e w2 ⟨⟨v,rfl⟩,d,M⟩;obtain⟨K,O,-⟩:=H2.o d;rw[<-M]at K O;have U:=ay (KE.o w2 K);clear H2 HP M KS KE;go_wp2_with fail;refine U.o.mono ?_;rintro e w3 ⟨rfl,d3,rfl⟩;have a6:=ay (KV.o _ (K.drewN d3));clear U KV;go_wp2_with fail;refine a6.o.mono ?_;rintro e w4 ⟨rfl,d4,rfl⟩;go_wp2_with fail;go_ret;exact⟨rfl,below_drewN O _⟩
 have hx:x∉l:=λhx=>by have:=(ZJ ha hx).1;omega
 rw[if_neg hx];rw[decide_eq_true Oo]at KE;clear ha hq h0 hl a7 hx;go_enter Tryz.func116,Tryz.ntmps116;go_upto_region 2 with fail;rw[<-I];clear I;go_wp2_with fail;refine KS.o.mono ?_;rintro e w2 ⟨⟨v,rfl⟩,d,M⟩;obtain⟨K,O,-⟩:=H2.o d;rw[<-M]at K O;have U:=ay (KE.o w2 K);clear H2 M KS KE;go_wp2_with fail;refine U.o.mono ?_;rintro e w3 ⟨rfl,d3,rfl⟩;go_wp2_with fail;go_ret;exact⟨rfl,below_drewN O _⟩
theorem qCP{N:LI->LI}{f:LI->Nat}{g0 g1:LI->Value}(hM:TM rows D N)(K:TR w B D N N f g0 g1)(hK:∀p,D p->(N p).length<=1000000){p:LI}(I:D p)(O:0<(N p).length)(x:Int):
 Cl 116 #[.pointer (some (az (f p) 0)),ai x] w λe w'=>e=.returned (.pointer (if x∈N p then some (az (f (p++[x])) 0) else none))/\Bl w w':=by
 obtain⟨ga,ca,U,-⟩:=xN (K.o0 p I) O;obtain⟨gb,cb,eb,-⟩:=xN (K.o1 p I) O;have V:(N p).length<=ca:=by
  rcases (K.o0 p I).2 with ⟨-,h2⟩|⟨g,cap,cur,e,-,-,hn,-⟩;omega;rw[U]at e;simp only[Value.slice.injEq]at e;omega
 refine qAo w (f p) ga ca gb cb (N p) (λy=>f (p++[y])) x (by rw[K.c0 I,U]) (by rw[K.c1 I,eb]) (λj M=>?_) (λj M=>?_) O (hK p I) V (uZ (hM.asc p I));obtain⟨g,c,e,h1⟩:=xN (K.o0 p I) M;rw[U]at e;simp only[Value.slice.injEq,Option.some.injEq,Addr.mk.injEq]at e;rw[e.1.1,h1,bK,gE M,gD,gE M];rfl;obtain⟨g,c,e,h1⟩:=xN (K.o1 p I) M;rw[eb]at e;simp only[Value.slice.injEq,Option.some.injEq,Addr.mk.injEq]at e;rw[e.1.1,h1,bK,gE M,gD,gE M];rfl
def Nd(D:LI->Prop)(f:LI->Nat)(p:LI)(c:Option Addr):Prop:=D p/\c=some (az (f p) 0)∨¬D p/\c=none
theorem qDX(w:World)(B:Nat)(D:LI->Prop)(N:LI->LI)(f:LI->Nat)(g0 g1:LI->Value)(rows:LL)(L:Nat)(vr:Value)(q:LI)(K:TM rows D N)(hT:TR w B D N N f g0 g1)(hK:∀p,D p->(N p).length<=1000000)
 (hl:∀r∈rows,r.length=L) (hn:rows≠[]) (hr:IS w vr q) (hq:q.length=L) (hL:L<=1000):
 Cl 82 #[.pointer (some (az (f []) 0)),vr] w λe w'=>e=.returned (.bool (decide (q∈rows)))/\Bl w w':=by
 obtain⟨ar,cr,rfl,hc⟩:=hr;have HC:Hh (∀W,Bl w W->∀j,j<q.length->∃(b o:Nat),ar=some (az b o)/\W.cell? (az b (o+j))=some (ai (q.getD j 0))):=ay λW hW j U=>by
  rcases hc with h0|⟨b,o,rfl,h⟩;omega;exact⟨b,o,rfl,(hW.cell (bL w _ (h j U))).trans (h j U)⟩
 have KU:Hh (∀W j,Bl w W->j<q.length->D (q.take j)->Cl 116 #[.pointer (some (az (f (q.take j)) 0)),ai (q.getD j 0)] W λe w'=>∃c,e=.returned (.pointer c)/\Nd D f (q.take (j+1)) c/\Bl W w'):=ay λW j hW U M=>by
  refine(qCP K (hT.below hW) hK M (K.more hl hn (by rw[bW];omega) M) (q.getD j 0)).mono ?_;rintro e w' ⟨rfl,hb⟩;refine⟨_,rfl,?_,hb⟩;unfold Nd;rw[qy U,<-K.mem _ M];by_cases hx:q.getD j 0∈N (q.take j);exact Or.inl ⟨hx,by rw[if_pos hx]⟩;exact Or.inr ⟨hx,by rw[if_neg hx]⟩
 have HN:Hh (∀j,¬D (q.take j)->decide (q∈rows)=false):=ay λj U=>decide_eq_false λhm=>U (K.pre ((K.row hl hn hq).2 hm) (List.take_prefix _ _));have HE:Hh (∀c,Nd D f (q.take q.length) c->c.isSome=decide (q∈rows)):=ay λc hc=>by
  rw[tL]at hc;rcases hc with ⟨h1,rfl⟩|⟨h1,rfl⟩;rw[decide_eq_true ((K.row hl hn hq).1 h1)];rfl;rw[decide_eq_false (λhm=>h1 ((K.row hl hn hq).2 hm))];rfl
 have HS:Hh (Nd D f (q.take 0) (some (az (f []) 0))):=ay (Or.inl ⟨K.root,rfl⟩);generalize decide (q∈rows)=ans at *;have a8:q.length<=1000:=Oo;clear K hT hK hl hn hc hq hL;obtain⟨n,a3⟩:=Ex q.length;rw[<-a3]at HC KU HE a8 ⊢;clear a3;generalize f []=fr at *;go_enter Tryz.func82,Tryz.ntmps82;go_wp2_with fail;go_loopw [0,9] (λu t wr=>∃(j:Nat) (c:Option Addr),j<=n/\t=ai j/\u=.pointer c/\Hh (Nd D f (q.take j) c/\Bl w wr)) (λ_ t _=>n-(intOf t).toNat);exact⟨0,_,nZ _,rfl,rfl,ay ⟨HS.o,bJ _ _⟩⟩;clear HS;obtain⟨j,c,U,rfl,rfl,O⟩:=hrel;by_cases a4:j<n
 ·have i1:(j:Int)<(n:Int):=Oo;obtain⟨b,o,ea,e1⟩:=HC.o wr O.o.2 j a4;subst ea;rcases O.o.1 with ⟨M,V⟩|⟨M,V⟩
  ·subst V;have a5:=ay (KU.o wr j O.o.2 a4 M);have HB:=ay O.o.2;clear O KU HC M HN HE;generalize q.getD j 0=x at *;generalize f (q.take j)=fj at *;go_wp2_with fail;refine a5.o.mono ?_;rintro e w2 ⟨c2,rfl,a6,a7⟩;have a9:=ay (And.intro a6 (bt HB.o a7));clear a6 a7 a5;go_wp2_with fail;go_roundw;exact⟨j+1,_,Oo,Gg,rfl,a9⟩;exact Im
  subst V;have I:=HN.o j M;subst I;clear KU HC M HN HE;generalize q.getD j 0=x at *;go_wp2_with fail;go_ret;exact⟨rfl,O.o.2⟩
 obtain rfl:j=n:=Oo;have i1:¬((j:Int)<(j:Int)):=Oo;have I:=HE.o c O.o.1;subst I;have HB:=ay O.o.2;clear O HE HN KU HC;cases c with
 |none=>
  go_wp2_with fail;go_ret;exact⟨rfl,HB.o⟩
 |some a=>
  go_wp2_with fail;go_ret;exact⟨rfl,HB.o⟩
theorem Tryz.infoTrieP:(Tryz.prog.info? 111).map (λi=>(i.zero,i.size,i.bytes))=some (some (.pointer none),1,8):=Kl
theorem Ya{n s:Nat}{e:TypeId}{v:Value}{xs:List Value}(h:w.ownsRow B e s v n xs):∃a cap,v=.slice a n cap:=by
 rcases h.2 with ⟨rfl,I⟩|⟨g,cap,cur,rfl,_⟩;exact⟨none,0,by rw[I]⟩;exact⟨_,cap,rfl⟩
def TS(W0 W:World)(rs:LL)(K root:Nat):Prop:=∃D N f g0 g1,TM rs D N/\TR W W0.1.size D N N f g0 g1/\f []=root/\(∀p,D p->(N p).length<=K)/\Bl W0 W
def LST(W0 W:World)(rs:LL)(r:LI)(i K root node:Nat):Prop:=∃D N f g0 g1,TM (rs++[r.take i]) D N/\TR W W0.1.size D N N f g0 g1/\f []=root/\f (r.take i)=node/\(∀p,D p->(N p).length<=K+1/\(i<=p.length->(N p).length<=K))/\Bl W0 W
theorem LST.start(r:LI)(h:TS W0 W rs K root):LST W0 W rs r 0 K root root:=by
 obtain⟨D,N,f,g0,g1,U,V,I,M,hb⟩:=h;exact⟨D,N,f,g0,g1,U.begin,V,I,I,λp O=>⟨by have:=M p O;omega,λ_=>M p O⟩,hb⟩
theorem LST.done(h:LST W0 W rs r r.length K root node):TS W0 W (rs++[r]) (K+1) root:=by
 obtain⟨D,N,f,g0,g1,I,M,O,-,U,hb⟩:=h;exact⟨D,N,f,g0,g1,I.done,M,O,λp V=>(U p V).1,hb⟩
theorem LST.hit(h:LST W0 W rs r i K root node)(hi:i<r.length)(hs:∀s∈rs,qE s r<0):
 (∃m ga ca gb cb nx,W.cell? (az node 0)=some (.slice (some (az ga 0)) (m+1) ca)/\W.cell? (az node 1)=some (.slice (some (az gb 0)) (m+1) cb)/\W.cell? (az ga m)=some (ai (r.getD i 0))/\W.cell? (az gb m)=some (.pointer (some (az nx 0)))/\m+1<=K/\LST W0 W rs r (i+1) K root nx)
 ∨(∃D N f g0 g1,r.getD i 0∉N (r.take i)/\TM (rs++[r.take i]) D N/\TR W W0.1.size D N N f g0 g1/\f []=root/\f (r.take i)=node/\(∀p,D p->(N p).length<=K+1/\(i<=p.length->(N p).length<=K))/\Bl W0 W):=by
 obtain⟨D,N,f,g0,g1,U,M,hr,I,hk,hb⟩:=h;have O:=U.here;by_cases hx:r.getD i 0∈N (r.take i)
 ·refine Or.inl ?_;obtain⟨h0,h1⟩:=qF9 (U.asc _ O) hx (U.le hi hs);obtain⟨m,hm⟩:∃m,(N (r.take i)).length=m+1:=⟨(N (r.take i)).length-1,Oo⟩;rw[hm,Nat.add_sub_cancel]at h1;have hg:(N (r.take i))[m]?=some (r.getD i 0):=by
   rw[gD,gE Oo,Option.getD_some]at h1;rw[gE Oo,h1]
  obtain⟨ga,ca,ea,V⟩:=xN (M.o0 _ O) (j:=m) Oo;obtain⟨gb,cb,eb,a3⟩:=xN (M.o1 _ O) (j:=m) Oo;rw[bK,hg]at V a3;have a4:=(hk _ O).2 (by rw[bW];omega);refine⟨m,ga,ca,gb,cb,f (r.take i++[r.getD i 0]),?_,?_,V,a3,Oo,D,N,f,g0,g1,U.hit hi hx,M,hr,by rw[qy hi],λp hp=>⟨(hk p hp).1,λhl=>(hk p hp).2 Oo⟩,hb⟩;rw[<-I,M.c0 O,ea,hm];rw[<-I,M.c1 O,eb,hm]
 exact Or.inr ⟨D,N,f,g0,g1,hx,U,M,hr,I,hk,hb⟩
theorem LST.miss{I:World}{N:LI->LI}{f:LI->Nat}{g0 g1:LI->Value}{v':Value}(hi:i<r.length)(hs:∀s∈rs,qE s r<0)(hx:r.getD i 0∉N (r.take i))(hM:TM (rs++[r.take i]) D N)
 (hT:TR I W0.1.size D (λq=>if q=r.take i then N (r.take i)++[r.getD i 0] else N q) N f g0 g1) (hr:f []=root) (hk:∀p,D p->(N p).length<=K+1/\(i<=p.length->(N p).length<=K)) (hb:Bl W0 I)
 (M:w3.ownsRow W0.1.size 111 1 v' ((N (r.take i)).length+1) (((N (r.take i)).map λx=>.pointer (some (az (f (r.take i++[x])) 0)))++[.pointer (some (az I.1.size 0))]))
 (hg:((I.alloc (.cells #[sn,sn] 149)).alloc o).grownBy w3 (g1 (r.take i)).ownBlock) (a3:∀g,v'.ownBlock=some g->(g1 (r.take i)).ownBlock=some g∨I.1.size<=g):
 LST W0 (w3.setCell (az (f (r.take i)) 1) v') rs r (i+1) K root I.1.size:=by
 have O:=hM.here;have U:¬D (r.take i++[r.getD i 0]):=λhd=>hx ((hM.mem _ O _).2 hd);have a4:=hb.size;have a5:=hT.belw O U hx hb.size (N0':=jY N (r.take i) (r.getD i 0)) (λq hq=>by
  unfold jY;by_cases e:q=r.take i;rw[if_pos e,if_pos e];rw[if_neg e,if_neg e,if_neg (λV=>U (by rw[<-V];exact hq))]) (by unfold jY;rw[if_neg (Ze _ _),if_pos rfl]) M hg a3
 refine⟨_,_,_,_,_,hM.miss hi hs hx,a5,?_,?_,λp hp=>?_,?_⟩;show(if _ then _ else _)=_;rw[if_neg Ss];exact hr;show(if _ then _ else _)=_;rw[if_pos (qy hi)]
 ·have a6:(r.take i).length=i:=by rw[bW];omega
  unfold jY;by_cases e:p=r.take i;have:=(hk _ O).2 Oo;rw[if_pos e,lA,lS];refine⟨Oo,λhl=>?_⟩;rw[e,a6]at hl;omega;rw[if_neg e];by_cases V:p=r.take i++[r.getD i 0];rw[if_pos V];exact⟨nZ _,λ_=>nZ _⟩;rw[if_neg V];have hd:=hp.resolve_right V;exact⟨(hk p hd).1,λhl=>(hk p hd).2 Oo⟩
 exact(((hb.alloc a4 _).alloc Sy _).grown hg Sy (λg a7=>((hT.o1 _ O).lt g a7).1)).setCell (hT.low _ O) _
theorem Yb(w:World)(o:Obj)(v:Value)(t:TypeId):∀j u,[v][j]?=some u->((w.alloc o).alloc (.cells #[v] t)).cell? (((az (w.1.size+1) 0):Addr).add j)=some u:=by
 have:=qH (w.alloc o) v t;rw[World.size_alloc]at this;exact this
theorem Vz{b:Nat}{cs:Array Value}{t:TypeId}(h:W.1[b]?=some (.cells cs t (0,0))):W.frozen? (az b j)=false:=by unfold World.frozen?;rw[h];simp
theorem LST.half{N:LI->LI}{f:LI->Nat}{g0 g1:LI->Value}{g3 cp3 V k1:Nat}{a1:Option Addr}(hi:i<r.length)(hs:∀s∈rs,qE s r<0)(hx:r.getD i 0∉N (r.take i))(hM:TM (rs++[r.take i]) D N)
 (hT:TR W W0.1.size D N N f g0 g1) (hr:f []=root) (hk:∀p,D p->(N p).length<=K+1/\(i<=p.length->(N p).length<=K)) (hb:Bl W0 W) (h1:g1 (r.take i)=.slice a1 V k1)
 (a5:w3.ownsRow W0.1.size 3 1 (.slice (some (az g3 0)) ((N (r.take i)).length+1) cp3) ((N (r.take i)).length+1) ((N (r.take i)).map ai++[ai (r.getD i 0)])) (hg:(W.alloc o).grownBy w3 (g0 (r.take i)).ownBlock) (a7:(g0 (r.take i)).ownBlock=some g3∨g3=(W.alloc o).1.size):
 ∃W2 xs,W2=w3.setCell (az (f (r.take i)) 0) (.slice (some (az g3 0)) ((N (r.take i)).length+1) cp3)/\W2.cell? (az (f (r.take i)) 1)=some (.slice a1 V k1)/\W2.ownsRow W0.1.size 111 1 (.slice a1 V k1) (N (r.take i)).length xs/\W0.1.size<=W2.1.size
  /\∀w4 o' g4 M,w4.ownsRow W0.1.size 111 1 (.slice (some (az g4 0)) ((N (r.take i)).length+1) M) ((N (r.take i)).length+1) (xs++[.pointer (some (az W2.1.size 0))])->((W2.alloc (.cells #[sn,sn] 149)).alloc o').grownBy w4 (Value.slice a1 V k1).ownBlock->((Value.slice a1 V k1).ownBlock=some g4∨g4=((W2.alloc (.cells #[sn,sn] 149)).alloc o').1.size)->
   (w4.frozen? (az (f (r.take i)) 1)=false/\w4.cell? (az (f (r.take i)) 1)=some (.slice a1 V k1))/\(w4.setCell (az (f (r.take i)) 1) (.slice (some (az g4 0)) ((N (r.take i)).length+1) M)).cell? (az (f (r.take i)) 1)=some (.slice (some (az g4 0)) ((N (r.take i)).length+1) M)/\(w4.setCell (az (f (r.take i)) 1) (.slice (some (az g4 0)) ((N (r.take i)).length+1) M)).cell? (az g4 ((N (r.take i)).length))=some (.pointer (some (az W2.1.size 0)))
   /\LST W0 (w4.setCell (az (f (r.take i)) 1) (.slice (some (az g4 0)) ((N (r.take i)).length+1) M)) rs r (i+1) K root W2.1.size:=by
 have hh:=hM.here;have O:=hT.vals hh a5 hg (λg I=>by
  simp only[Value.ownBlock,Option.some.injEq]at I;subst I;rcases a7 with h2|h2;exact Or.inl h2;exact Or.inr (by rw[h2];simp))
 have a8:=hb.size;have a6:Bl W0 (w3.setCell (az (f (r.take i)) 0) (.slice (some (az g3 0)) ((N (r.take i)).length+1) cp3)):=((hb.alloc a8 _).grown hg Sy (λg I=>((hT.o0 _ hh).lt g I).1)).setCell (hT.low _ hh) _;refine⟨_,_,rfl,by rw[O.c1 hh,h1],by have:=O.o1 _ hh;rw[h1]at this;exact this,a6.size,λw4 o' g4 M U a4 a3=>?_⟩;rw[<-h1]at a4 a3;have hblk:w4.1[f (r.take i)]?=some (.cells #[x6 g0 (r.take i) (.slice (some (az g3 0)) ((N (r.take i)).length+1) cp3) (r.take i),g1 (r.take i)] 149 (0,0)):=(Uk a4 (O.lt hh) (own_ne (O.o1 _ hh) (O.typ hh) Dd)).trans (O.blk _ hh);refine⟨⟨Vz hblk,by rw[cell_of_row _ _ _ _ _ _ hblk,<-h1];rfl⟩,?_,?_,LST.miss hi hs hx hM O hr hk a6 U a4 (λg I=>by
  simp only[Value.ownBlock,Option.some.injEq]at I;subst I;rcases a3 with h2|h2;exact Or.inl h2;exact Or.inr (by rw[h2];simp;omega))⟩
 have:=bI w4 (f (r.take i)) 1 _ _ (.slice (some (az g4 0)) ((N (r.take i)).length+1) M) hblk;rw[cell_of_row _ _ _ _ _ _ this];rfl;have hm:=qC (w':=w4.setCell (az (f (r.take i)) 1) (.slice (some (az g4 0)) ((N (r.take i)).length+1) M)) U λg I=>bD _ _ _ _ (λe2=>own_ne U ⟨_,hblk⟩ Dd (by rw[I];exact congrArg some e2.symm));obtain⟨g,c,e,h2⟩:=xN hm (j:=(N (r.take i)).length) Oo;simp only[Value.slice.injEq,Option.some.injEq,Addr.mk.injEq]at e;rw[<-e.1.1]at h2;rw[h2,bQ Ss,lM,Nat.sub_self];rfl
theorem qDY(W0 w:World)(rs:LL)(K root:Nat)(vr:Value)(r:LI)(h:TS W0 w rs K root)(hr:IS W0 vr r)(hl:r.length<=1000)(hs:∀s∈rs,qE s r<0)(hK:K<=1000000):
 Cl 114 #[.pointer (some (az root 0)),vr] w λe w'=>(∃v,e=.returned v)/\TS W0 w' (rs++[r]) (K+1) root:=by
 obtain⟨i0,hi,d7,d8,d9⟩:=info_parts Tryz.infoInt;obtain⟨iP,hj,e2,e3,e4⟩:=info_parts Tryz.infoTrieP;obtain⟨ar,cr,rfl,hc⟩:=hr;have HC:Hh (∀W,Bl W0 W->∀j,j<r.length->∃(b o:Nat),ar=some (az b o)/\W.cell? (az b (o+j))=some (ai (r.getD j 0))):=ay λW hW j hj=>by
  rcases hc with h0|⟨b,o,rfl,h⟩;omega;exact⟨b,o,rfl,(hW.cell (bL W0 _ (h j hj))).trans (h j hj)⟩
 have HL:Hh (LST W0 w rs r 0 K root root):=ay (LST.start r h);have HS:=ay hs;have HD:Hh (∀W nd,LST W0 W rs r r.length K root nd->TS W0 W (rs++[r]) (K+1) root):=ay λW nd h=>h.done;have HR:Hh (∀j,j<r.length->∀W nd,LST W0 W rs r j K root nd->Bl W0 W):=ay λj _ W nd ⟨_,_,_,_,_,_,_,_,_,_,hb⟩=>hb;have HH:Hh (∀j,j<r.length->∀W nd,LST W0 W rs r j K root nd->_):=ay λj hj W nd h=>h.hit hj hs;have HM:Hh (r.length=r.length):=ay rfl;obtain⟨n,hn⟩:=Ex r.length;clear hc h hs;rw[<-hn]at HC HD HR HH hl HM ⊢;have d0:=ay hn;clear hn HM;go_enter Tryz.func114,Tryz.ntmps114;go_wp2_with fail;go_loopw [0,9] (λu t wr=>∃(j nd:Nat),j<=n/\t=ai j/\u=.pointer (some (az nd 0))/\Hh (LST W0 wr rs r j K root nd)) (λ_ t _=>n-(intOf t).toNat);exact⟨0,root,nZ _,rfl,rfl,HL⟩;clear HL;obtain⟨j,nd,g5,rfl,rfl,HT⟩:=hrel;by_cases b9:j<n
 ·have i1:(j:Int)<(n:Int):=Oo;obtain⟨b,o,ea,e1⟩:=HC.o wr (HR.o j b9 wr nd HT.o) j b9;subst ea;rcases HH.o j b9 wr nd HT.o with ⟨m,ga,ca,gb,cb,nx,c0,c1,c2,c3,g6,hL⟩|⟨D,N,f,g0,g1,hx,hM,a5,e5,c7,hk,hb⟩
  ·have HL:=ay hL;clear hL HH HR HD HC HS HT d0;generalize r.getD j 0=x at *;go_wp2_with fail;go_roundw;exact⟨j+1,nx,Oo,Gg,rfl,HL⟩;exact Im
  have hh:=hM.here;have e6:j<r.length:=by rw[<-d0.o];exact b9
  have g7:=(hk _ hh).2 (by rw[bW];omega);obtain⟨a0,k0,e0⟩:=Ya (a5.o0 _ hh);obtain⟨a1,k1,e7⟩:=Ya (a5.o1 _ hh);have c8:Hh (∀w3 o,(wr.alloc o).grownBy w3 (Value.slice a0 (N (r.take j)).length k0).ownBlock->w3.frozen? (az nd 0)=false/\w3.cell? (az nd 0)=some (.slice a0 (N (r.take j)).length k0)):=ay λw3 o hg=>by
   rw[<-e0]at hg;have:=a5.kept0 hh hg hh;rw[c7]at this;exact⟨Vz this,by rw[cell_of_row _ _ _ _ _ _ this,<-e0];rfl⟩
  have a8:=ay λw3 o g3 cp3 e8 hg f7=>LST.half (w3:=w3) (o:=o) (g3:=g3) (cp3:=cp3) e6 HS.o hx hM a5 e5 hk hb e7 e8 hg f7;have c9:Hh (wr.ownsRow W0.1.size 3 1 (.slice a0 (N (r.take j)).length k0) (N (r.take j)).length ((N (r.take j)).map ai)):=ay (by have:=a5.o0 _ hh;rw[e0]at this;exact this);have c0:=a5.c0 hh;rw[e0,c7]at c0;rw[e0,c7]at a8;have g8:=hb.size;have d2:(N (r.take j)).length=0∨∃m ga y,(N (r.take j)).length=m+1/\a0=some (az ga 0)/\wr.cell? (az ga m)=some (ai y)/\y≠r.getD j 0:=by
   rcases Nat.eq_zero_or_pos (N (r.take j)).length with h0|h0;exact Or.inl h0;obtain⟨m,hm⟩:∃m,(N (r.take j)).length=m+1:=⟨(N (r.take j)).length-1,Oo⟩;obtain⟨ga,ca,ea,f8⟩:=xN (a5.o0 _ hh) (j:=m) Oo;rw[e0]at ea;simp only[Value.slice.injEq]at ea;refine Or.inr ⟨m,ga,_,hm,ea.1,?_,qEm hx h0⟩;have e9:(N (r.take j)).getD ((N (r.take j)).length-1) 0=(N (r.take j))[m]' Oo:=by
    rw[gD,gE Oo,Option.getD_some];simp only[hm,Nat.add_sub_cancel]
   rw[f8,bK,gE Oo,e9];rfl
  clear HH HR HD HC HT HS hx hM a5 e5 c7 hk hb hh e0 e7 e6 d0;generalize r.getD j 0=x at *;generalize (N (r.take j)).length=l0 at *;rcases d2 with h0|⟨m,ga,y,h0,ea,cy,hy⟩
  ·subst h0;go_upto_region 6 with (first|(at_builtin;(refine wpList_append_lies _ rfl _ _ 24 rfl W0.1.size 3 i0 (ai 0) 1 8 Tryz.underlying24 hi d7 d8 d9 rfl Dd (.slice a0 (0) k0) _ _ rfl (c9.o.alloc _) (az _ 0) 1 1 [ai x] rfl rfl (qH _ _ _) (λu hu=>by simp at hu;subst hu;rfl) Dd Um Oo Sy _ rfl ?_;intro g3 cp3 w3 V I a6 a9;obtain⟨d3,d4⟩:=c8.o w3 _ I))|fail);obtain⟨W2,xs,b0,d1,b1,f9,a3⟩:=a8.o w3 _ g3 cp3 V I a6;have b7:=ay b1;have O:=ay a3;rw[<-b0];clear b0 V I a6 a9 d3 d4 b1 a3 a8 c8 c9 c0;go_upto_region 7 with (first|(at_builtin;(refine wpList_append_lies _ rfl _ _ 141 rfl W0.1.size 111 iP (.pointer none) 1 8 Tryz.underlying141 hj e2 e3 e4 rfl Dd (.slice a1 (0) k1) _ xs rfl ((b7.o.alloc _).alloc _) (az _ 0) 1 1 [.pointer (some (az W2.1.size 0))] rfl rfl (Yb _ _ _ _) (λu hu=>by simp at hu;subst hu;rfl) Dd Um Oo Sy _ rfl ?_;intro g4 a7 w4 U M a4 b8;obtain⟨d5,d6⟩:=(O.o w4 _ g4 a7 U M a4).1))|fail);obtain⟨-,q1,q2,hL⟩:=O.o w4 _ g4 a7 U M a4;have HL:=ay hL;clear hL U M a4 b8 d5 d6 O b7 d1;generalize w4.setCell (az nd 1) (.slice (some (az g4 0)) (0+1) a7)=W5 at *;go_wp2_with fail;go_roundw;exact⟨j+1,W2.1.size,Oo,Gg,rfl,HL⟩;exact Im
  subst h0 ea;have dm:decide ((m:Int)<0)=false:=decide_eq_false Oo;have yx:(y != x)=true:=by simpa using hy
  go_upto_region 6 with (first|(at_builtin;(refine wpList_append_lies _ rfl _ _ 24 rfl W0.1.size 3 i0 (ai 0) 1 8 Tryz.underlying24 hi d7 d8 d9 rfl Dd (.slice (some (az ga 0)) (m+1) k0) _ _ rfl (c9.o.alloc _) (az _ 0) 1 1 [ai x] rfl rfl (qH _ _ _) (λu hu=>by simp at hu;subst hu;rfl) Dd Um Oo Sy _ rfl ?_;intro g3 cp3 w3 V I a6 a9;obtain⟨d3,d4⟩:=c8.o w3 _ I))|fail);obtain⟨W2,xs,b0,d1,b1,f9,a3⟩:=a8.o w3 _ g3 cp3 V I a6;have b7:=ay b1;have O:=ay a3;rw[<-b0];clear b0 V I a6 a9 d3 d4 b1 a3 a8 c8 c9 c0 cy;go_upto_region 7 with (first|(at_builtin;(refine wpList_append_lies _ rfl _ _ 141 rfl W0.1.size 111 iP (.pointer none) 1 8 Tryz.underlying141 hj e2 e3 e4 rfl Dd (.slice a1 (m+1) k1) _ xs rfl ((b7.o.alloc _).alloc _) (az _ 0) 1 1 [.pointer (some (az W2.1.size 0))] rfl rfl (Yb _ _ _ _) (λu hu=>by simp at hu;subst hu;rfl) Dd Um Oo Sy _ rfl ?_;intro g4 a7 w4 U M a4 b8;obtain⟨d5,d6⟩:=(O.o w4 _ g4 a7 U M a4).1))|fail);obtain⟨-,q1,q2,hL⟩:=O.o w4 _ g4 a7 U M a4;have HL:=ay hL;clear hL U M a4 b8 d5 d6 O b7 d1;generalize w4.setCell (az nd 1) (.slice (some (az g4 0)) (m+1+1) a7)=W5 at *;go_wp2_with fail;go_roundw;exact⟨j+1,W2.1.size,Oo,Gg,rfl,HL⟩;exact Im
 obtain rfl:j=n:=Oo;have i1:¬((j:Int)<(j:Int)):=Oo;have HF:=ay (HD.o wr nd HT.o);clear HC HD HR HH HT HS;go_wp2_with fail;go_end0
 exact⟨⟨_,rfl⟩,HF.o⟩
theorem TS.start(w:World):TS w (w.alloc (.cells #[sn,sn] 149)) [] 0 w.1.size:=by
 refine⟨_,_,λ_=>w.1.size,λ_=>sn,λ_=>sn,TM.none,⟨λp _=>heap_alloc_new _ _,λp _=>nR _,λp _=>oN _ _ _ _,λp _=>oN _ _ _ _,λp q I hq _=>I.trans hq.symm,λp q _ _ _ g h=>by simp[Value.ownBlock]at h,λp q _ _ _ g h=>by simp[Value.ownBlock]at h⟩,rfl,λp _=>nR _,aK⟩
theorem TS.bw(h:TS W0 W rs K root):Bl W0 W:=by
 obtain⟨_,_,_,_,_,_,_,_,_,hb⟩:=h;exact hb
theorem qF8(h:SL rows)(I:j<rows.length):∀s∈rows.take j,qE s (rows.getD j [])<0:=λs hs=>by
 obtain⟨i,hi,e⟩:=gO hs;rw[bW]at hi;rw[List.getElem_take]at e;have:=List.pairwise_iff_getElem.1 h i j Oo I Oo;rw[gD,gE I,<-e];exact this
theorem ZK(w:World)(vr:Value)(rows:LL)(hr:ISS w vr rows)(hS:SL rows)(hn:rows.length<=100000)(hl:∀r∈rows,r.length<=1000):
 Cl 79 #[vr] w λe w'=>∃c,e=.returned (.pointer c)/\(rows=[]/\c=none∨rows≠[]/\∃root,c=some (az root 0)/\TS w w' rows rows.length root)/\Bl w w':=by
 obtain⟨ar,cr,rfl,hc⟩:=hr;have M:Hh (∀W,Bl w W->∀j,j<rows.length->∃(b o:Nat) (u:Value),ar=some (az b o)/\W.cell? (az b (o+j))=some u/\IS w u (rows.getD j [])):=ay λW hW j K=>by
  rcases hc with h0|⟨b,o,rfl,h⟩;omega;obtain⟨u,h1,h2⟩:=h j K;exact⟨b,o,u,rfl,(hW.cell (bL w _ h1)).trans h1,h2⟩
 have O:Hh (∀W u j,j<rows.length->TS w W (rows.take j) j w.1.size->IS w u (rows.getD j [])->Cl 114 #[.pointer (some (az w.1.size 0)),u] W λe w'=>(∃v,e=.returned v)/\TS w w' (rows.take (j+1)) (j+1) w.1.size):=ay λW u j K hT hu=>by
  have hm:rows.getD j []∈rows:=by rw[gD,gE K];exact gM _
  have e:rows.take (j+1)=rows.take j++[rows.getD j []]:=by
   rw[tA,gE K,gD,gE K];rfl
  rw[e];exact qDY w W (rows.take j) j w.1.size u _ hT hu (hl _ hm) (qF8 hS K) Oo
 have H0:=ay (TS.start w);have U:Hh (∀W,TS w W (rows.take rows.length) rows.length w.1.size->TS w W rows rows.length w.1.size):=ay λW h=>by rw[tL]at h;exact h
 have HZ:Hh (rows.length=0->rows=[]):=ay λh=>List.length_eq_zero_iff.1 h;have I:Hh (0<rows.length->rows≠[]):=ay λh e=>by rw[e]at h;simp at h
 have V:Hh (rows.take 0=[]):=ay rfl;clear hc hS hl;obtain⟨n,a3⟩:=Ex rows.length;rw[<-a3]at M O U HZ I hn ⊢;clear a3;rcases Nat.eq_zero_or_pos n with h0|h0
 ·subst h0;have hz:=HZ.o rfl;clear M O U HZ I H0;go_enter Tryz.func79,Tryz.ntmps79;go_wp2_with fail;go_ret;exact⟨_,rfl,Or.inl ⟨hz,rfl⟩,bJ _ _⟩
 have i0:((n:Int) == 0)=false:=Sy;have hz:=ay (I.o h0);clear HZ I;go_enter Tryz.func79,Tryz.ntmps79;go_upto_region 4 with fail;generalize w.alloc (.cells #[sn,sn] 149)=W1 at *;go_wp2_with fail;go_loopw [13] (λt wr=>∃(j:Nat),j<=n/\t=ai j/\Hh (TS w wr (rows.take j) j w.1.size)) (λt _=>n-(intOf t).toNat);exact⟨0,nZ _,rfl,ay (by rw[V.o];exact H0.o)⟩;clear H0 V;obtain⟨j,K,rfl,HT⟩:=hrel;by_cases a4:j<n
 ·have i1:(j:Int)<(n:Int):=Oo;obtain⟨b,o,u,ea,e1,hu⟩:=M.o wr HT.o.bw j a4;subst ea;have a5:=ay (O.o wr u j a4 HT.o hu);obtain⟨au,cu,rfl,-⟩:=hu;clear M O U HT;generalize (rows.getD j []).length=lr at *;go_wp2_with fail;refine a5.o.mono ?_;rintro e w2 ⟨⟨v,rfl⟩,a6⟩;have a7:=ay a6;clear a6 a5;go_wp2_with fail;go_roundw;exact⟨j+1,Oo,Gg,a7⟩;exact Im
 obtain rfl:j=n:=Oo;have i1:¬((j:Int)<(j:Int)):=Oo;have HF:=ay (U.o wr HT.o);clear M O U HT;go_wp2_with fail;go_ret;exact⟨_,rfl,Or.inr ⟨hz.o,_,rfl,HF.o⟩,HF.o.bw⟩
end Go.Proofs.YtcnfapnfmnolbaaGreat
