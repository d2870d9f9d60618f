import Derived.Test.YtcnfapnfmnolbaaGreatRq41
import Derived.Test.YtcnfapnfmnolbaaGreatRq42
set_option maxHeartbeats 40000000
set_option maxRecDepth 1000000
namespace Go.Proofs.YtcnfapnfmnolbaaGreat
open Go.RowKit Meet
variable {x:Int}{rl:List TbR}{xs:List Value}{B k n off p r s:Nat}{t:TbR}{e ty:TypeId}{u v0 v1 v2 v3 vb y:Value}{K M W Y w0 wb:World}
structure Bx3(ty:TypeId)(W:World)(p:Nat)(v0 v1 v2:Value):Prop where
 blk:W.1[p]?=some (.cells #[v0,v1,v2] ty (0,0))
section
variable {ty:TypeId} {W W':World} {p:Nat} {v0 v1 v2:Value}
theorem Bx3.lt(h:Bx3 ty W p v0 v1 v2):p<W.1.size:=by
 rcases Nat.lt_or_ge p W.1.size with I|I;exact I;have:=h.blk;rw[Array.getElem?_eq_none I]at this;cases this
theorem Bx3.below(h:Bx3 ty W p v0 v1 v2)(hb:Bl W W'):Bx3 ty W' p v0 v1 v2:=⟨(hb.block p h.lt).trans h.blk⟩
theorem Bx3.c0(h:Bx3 ty W p v0 v1 v2):W.cell? (az p 0)=some v0:=by rw[cell_of_row _ _ _ _ _ _ h.blk];rfl
theorem Bx3.c1(h:Bx3 ty W p v0 v1 v2):W.cell? (az p 1)=some v1:=by rw[cell_of_row _ _ _ _ _ _ h.blk];rfl
theorem Bx3.c2(h:Bx3 ty W p v0 v1 v2):W.cell? (az p 2)=some v2:=by rw[cell_of_row _ _ _ _ _ _ h.blk];rfl
theorem Bx3.free(h:Bx3 ty W p v0 v1 v2)(j:Nat):W.frozen? (az p j)=false:=by unfold World.frozen?;rw[h.blk];simp
theorem Bx3.typ(h:Bx3 ty W p v0 v1 v2):∃cur,W.1[p]?=some (.cells cur ty (0,0)):=⟨_,h.blk⟩
theorem Bx3.made(ty:TypeId)(w:World)(v0 v1 v2:Value):Bx3 ty (w.alloc (.cells #[v0,v1,v2] ty)) w.1.size v0 v1 v2:=⟨heap_alloc_new _ _⟩
end
theorem TWr.setX(h:TWr W B t)(I:∃cur,W.1[p]?=some (.cells cur ty (0,0)))(K:3≠ty)(M:24≠ty):TWr (W.setCell (az p off) y) B t:=
 ⟨qL h.o0 I K,⟨qL h.rq.own I M,h.rq.len,λi hi=>qL (h.rq.each i hi) I K,h.rq.ap⟩,qL h.o2 I K,h.a02,h.a0,h.a2⟩
theorem TBs.setX{v:Value}{tl:List TbR}(h:TBs W B v tl)(I:∃cur,W.1[p]?=some (.cells cur ty (0,0)))(K:3≠ty)(M:24≠ty)(O:61≠ty):TBs (W.setCell (az p off) y) B v tl:=
 ⟨qL h.own I O,λt U=>TWr.setX (h.each t U) I K M,h.ap⟩
theorem qBH{X:World}{x z:Value}{t:TypeId}(K:k=X.1.size)(hb:Below (X.alloc (.cells #[x,y,z] t)).1.size (X.alloc (.cells #[x,y,z] t)) W):∀j u,[x,y,z][j]?=some u->W.cell? (((az k 0):Addr).add j)=some u:=λj u M=>by
 subst K;have I:=xd X x y z t j u M;exact(hb.cell (bL _ _ I)).trans I
structure Bx1(ty:TypeId)(W:World)(p:Nat)(v:Value):Prop where
 blk:W.1[p]?=some (.cells #[v] ty (0,0))
section
variable {ty:TypeId} {W W':World} {p:Nat} {v:Value}
theorem Bx1.lt(h:Bx1 ty W p v):p<W.1.size:=by
 rcases Nat.lt_or_ge p W.1.size with I|I;exact I;have:=h.blk;rw[Array.getElem?_eq_none I]at this;cases this
theorem Bx1.below(h:Bx1 ty W p v)(hb:Bl W W'):Bx1 ty W' p v:=⟨(hb.block p h.lt).trans h.blk⟩
theorem Bx1.made(ty:TypeId)(w:World)(v:Value)(I:k=w.1.size):Bx1 ty (w.alloc (.cells #[v] ty)) k v:=⟨by rw[I];exact heap_alloc_new _ _⟩
theorem Bx1.news(h:Bx1 ty W p v):∀j u,[v][j]?=some u->W.cell? (((az p 0):Addr).add j)=some u:=λj u I=>by
 match j,I with
 |0,I=>
  rw[show((az p 0):Addr).add 0=(az p 0)by unfold Addr.add;simp,cell_of_row _ _ _ _ _ _ h.blk];simpa using I
 |j+1,I=>simp at I
theorem Bx1.gr(h:Bx1 ty W p v)(ho:W.ownsRow B e s u n xs)(I:e≠ty)(K:W.grownBy Y u.ownBlock):Bx1 ty Y p v:=⟨(K.block p h.lt (own_ne ho ⟨_,h.blk⟩ I)).trans h.blk⟩
theorem Bx3.gr(h:Bx3 ty W p v0 v1 v2)(ho:W.ownsRow B e s u n xs)(I:e≠ty)(K:W.grownBy Y u.ownBlock):Bx3 ty Y p v0 v1 v2:=⟨(K.block p h.lt (own_ne ho ⟨_,h.blk⟩ I)).trans h.blk⟩
theorem PX.gr{y:Int}(h:PX ty W p v0 v1 v2 v3 x y)(ho:W.ownsRow B e s u n xs)(I:e≠ty)(K:W.grownBy Y u.ownBlock):PX ty Y p v0 v1 v2 v3 x y:=⟨(K.block p h.lt (own_ne ho ⟨_,h.blk⟩ I)).trans h.blk⟩
end
structure T14(w0 wb:World)(vb:Value)(rl:List TbR)(t:TbR)(p r:Nat)(v0 v1 v2 v3:Value)(x y:Int)(W:World)(v:Value):Prop where
 tb:TBs W w0.1.size v (rl++[t])
 px:PX 38 W p v0 v1 v2 v3 x y
 bx:Bx3 69 W r sn sn sn
 bel:Bl w0 W
 fr:∀k,k<wb.1.size->vb.ownBlock≠some k->W.1[k]?=wb.1[k]?
theorem KG{o:Obj}{O:Value}{y:Int}(hT:TBs M w0.1.size vb rl)(hw:Bl w0 M)(U:Bl wb M)(hp:PX 38 M p v0 v1 v2 v3 x y)(hx:Bx3 69 M r sn sn sn)(hY:Bl M Y)(ht:TWr Y M.1.size t)(V:(Y.alloc o).grownBy K vb.ownBlock)(a3:K.ownsRow w0.1.size 61 3 O (rl.length+1) (rl.flatMap tcs++[t.v0,t.v1,t.v2])):T14 w0 wb vb rl t p r v0 v1 v2 v3 x y K O:=by
 have hO:=(qB hT.own hY).alloc o;have I:=yk hY o;refine⟨hT.row hw.size Y t o K O hY ht V a3,(hp.below I).gr hO Dd V,(hx.below I).gr hO Dd V,(bt hw I).grown V (bM hw.size I.size) λk hk=>(hO.lt k hk).1,λk hk a4=>?_⟩;have h1:=U.size;have h2:=I.size;rw[V.block k Oo (λe=>a4 e.symm),I.block k Oo,U.block k hk]
structure qB9(w0 wb:World)(vb:Value)(rl:List TbR)(tl:List TbV)(ps hs:LI)(W:World)(x0 x1 x2:Value):Prop where
 tb:∃rl',TBs W w0.1.size x0 rl'/\rl'.map tvB=rl.map tvB++[Kg tl]
 pa:W.ownsRow w0.1.size 3 1 x1 (ps.length+1) ((orT rl.length ps++[(rl.length:Int)]).map ai)
 ho:W.ownsRow w0.1.size 3 1 x2 hs.length ((orT rl.length hs).map ai)
 bel:Bl w0 W
 fr:∀k,k<wb.1.size->vb.ownBlock≠some k->W.1[k]?=wb.1[k]?
theorem qFg{tl:List TbV}{ps hs:LI}{V x1 x2:Value}{y:Int}(h:T14 w0 wb vb rl t p r v0 v1 v2 v3 x y K V)(ht:Kg tl=tvB t)(hq:Bl K M)(hP:M.ownsRow K.1.size 3 1 x1 (ps.length+1) ((orT rl.length ps).map ai++[ai (rl.length:Int)]))(hH:M.ownsRow K.1.size 3 1 x2 hs.length ((orT rl.length hs).map ai))(hr:w0.1.size<=r)(a4:wb.1.size<=r/\wb.1.size<=p)(y0 y1 y2:Value):
 qB9 w0 wb vb rl tl ps hs (((M.setCell (az r 0) y0).setCell (az r 1) y1).setCell (az r 2) y2) V x1 x2:=by
 have hX:=(h.bx.below hq).typ;have O:=qX (o:=0) (v:=y0) hX;have U:=qX (o:=1) (v:=y1) O;have hs:=h.bel.size;refine⟨⟨rl++[t],(((h.tb.below hq).setX hX Dd Dd Dd).setX O Dd Dd Dd).setX U Dd Dd Dd,by rw[mA,ht];rfl⟩,?_,?_,(((bt h.bel hq).setCell hr _).setCell hr _).setCell hr _,λk hk a3=>?_⟩;rw[mA];exact qL (qL (qL (qF hP hs) hX Dd) O Dd) U Dd;exact qL (qL (qL (qF hH hs) hX Dd) O Dd) U Dd;have I:k≠r:=Oo;have a5:=h.px.lt;rw[bD _ _ _ _ (by exact I),bD _ _ _ _ (by exact I),bD _ _ _ _ (by exact I),hq.block k Oo];exact h.fr k hk a3
theorem KK(w0 w:World)(vb vt v0 v1 v2 v3:Value)(x y:Int)(rl:List TbR)(tl:List TbV)(nb nw:Nat)(ps hs:LI)(hw:Bl w0 w)(h:ITs w0 vt tl)(hl:tl.length<=7)(f9:∀t∈tl,qU t=true)(h2:∃a c,v0=.slice a nb c)(h3:∃a c,v3=.slice a nw c)(g4:IS w0 v1 ps)(g5:IS w0 v2 hs)(i3:ps.length<=12)(i4:hs.length<=12)(hT:TBs w w0.1.size vb rl)(i5:rl.length<=12):
 Cl 31 #[vb,vt,.agg #[v0,v1,v2,v3,ai x,ai y]] w λe w'=>∃(q0:Option Addr) (m0 z0:Nat) (q1:Option Addr) (m1 z1:Nat) (q2:Option Addr) (m2 z2:Nat),e=.returned (.agg #[.slice q0 m0 z0,.slice q1 m1 z1,.slice q2 m2 z2])/\qB9 w0 w vb rl tl ps hs w' (.slice q0 m0 z0) (.slice q1 m1 z1) (.slice q2 m2 z2):=by
 obtain⟨iT,hj,e4,e5,e6⟩:=info_parts Tryz.infoTb;obtain⟨i0,hi,g6,g7,g8⟩:=info_parts Tryz.infoInt;have i2:Tryz.prog.follows .mixedOrders=true:=Kl;have KT:Hh (∀A W,Bl w A->Bl A W->Cl 55 #[vt] W λe w'=>∃(q0:Option Addr) (m0 z0:Nat) (q1:Option Addr) (m1 z1:Nat) (q2:Option Addr) (m2 z2:Nat) (us:List Value),e=.returned (.agg #[.slice q0 m0 z0,.slice q1 m1 z1,.slice q2 m2 z2])/\TWr w' A.1.size ⟨.slice q0 m0 z0,.slice q1 m1 z1,.slice q2 m2 z2,us,[],yd tl,zF (yd tl).length⟩/\Bl W w'/\Bl A w'):=ay λA W hA hW=>by
  refine(VC W vt tl (h.below (bt hw (bt hA hW))) hl f9).mono ?_;rintro e w' ⟨x0,x1,x2,us,rfl,hT,b1⟩;obtain⟨q0,z0,e0⟩:=qG hT.o0;obtain⟨q1,z1,e1⟩:=qG hT.rq.own;obtain⟨q2,z2,e2⟩:=qG hT.o2;subst e0 e1 e2;exact⟨_,_,_,_,_,_,_,_,_,us,rfl,TW.base hT hW.size,b1,bt hW b1⟩
 have h4:Hh (∀A W,Bl w0 A->Bl A W->Cl 56 #[v1,ai (rl.length:Int)] W λe w'=>∃(q0:Option Addr) (z0:Nat),e=.returned (.slice q0 ps.length z0)/\w'.ownsRow A.1.size 3 1 (.slice q0 ps.length z0) ps.length ((orT rl.length ps).map ai)/\Bl A w'/\Bl W w'):=ay λA W hA hW=>by
  refine(Z3 W v1 ps rl.length (g4.below (bt hA hW)) Oo).mono ?_;rintro e w' ⟨v,rfl,ho,b1⟩;obtain⟨q0,z0,e0⟩:=qG ho;subst e0;exact⟨_,_,rfl,qF ho hW.size,bt hW b1,b1⟩
 have h5:Hh (∀A W,Bl w0 A->Bl A W->Cl 56 #[v2,ai (rl.length:Int)] W λe w'=>∃(q0:Option Addr) (z0:Nat),e=.returned (.slice q0 hs.length z0)/\w'.ownsRow A.1.size 3 1 (.slice q0 hs.length z0) hs.length ((orT rl.length hs).map ai)/\Bl A w'/\Bl W w'):=ay λA W hA hW=>by
  refine(Z3 W v2 hs rl.length (g5.below (bt hA hW)) Oo).mono ?_;rintro e w' ⟨v,rfl,ho,b1⟩;obtain⟨q0,z0,e0⟩:=qG ho;subst e0;exact⟨_,_,rfl,qF ho hW.size,bt hW b1,b1⟩
 have h6:Hh (Kg tl=⟨[],yd tl,zF (yd tl).length⟩):=ay rfl;generalize zF (yd tl).length=ON at *;generalize yd tl=TR at *;obtain⟨a0,k0,rfl⟩:=h2;obtain⟨a1,k1,rfl,-⟩:=g4;obtain⟨a2,k2,rfl,-⟩:=g5;obtain⟨a3,k3,rfl⟩:=h3;obtain⟨ab,kb,rfl⟩:=qG hT.own;obtain⟨W1,d1⟩:=Ex ((w.alloc (.cells #[.slice a0 nb k0,.slice a1 ps.length k1,.slice a2 hs.length k2,.slice a3 nw k3,ai x,ai y] 38)).alloc (.cells #[sn,sn,sn] 69));have d0:Hh (Bl w W1):=ay (by rw[d1];exact yk (yk (bJ _ _) _) _);have d2:Hh (PX 38 W1 w.1.size (.slice a0 nb k0) (.slice a1 ps.length k1) (.slice a2 hs.length k2) (.slice a3 nw k3) x y):=ay (by rw[d1];exact(PX.made _ _ _ _ _ _ _ _).below (yk (bJ _ _) _));have e7:Hh (Bx3 69 W1 (w.1.size+1) sn sn sn):=ay (by
  have h1:=Bx3.made 69 (w.alloc (.cells #[.slice a0 nb k0,.slice a1 ps.length k1,.slice a2 hs.length k2,.slice a3 nw k3,ai x,ai y] 38)) sn sn sn;rw[d1];rw[World.size_alloc]at h1;exact h1)
 have d6:Hh (TBs W1 w0.1.size (.slice ab rl.length kb) rl):=ay (hT.below d0.o);have d7:Hh (Bl w0 W1):=ay (bt hw d0.o);have h7:Hh (∀W,Bl W1 W->W.cell? (az w.1.size 1)=some (.slice a1 ps.length k1)/\W.cell? (az w.1.size 2)=some (.slice a2 hs.length k2)):=ay λW hW=>⟨(d2.o.below hW).six.2.1,(d2.o.below hW).six.2.2.1⟩;have i6:w0.1.size<=W1.1.size:=d7.o.size;have h8:w0.1.size<=w.1.size+1:=by have:=hw.size;omega
 obtain⟨i7,i8,rfl,-⟩:=h;have e8:∀(W:World) (j:Nat) (u:Value),W.cell? (az w.1.size 1)=some (.slice a1 ps.length k1)/\W.cell? (az w.1.size 2)=some (.slice a2 hs.length k2)->(W.setCell (az (w.1.size+1) j) u).cell? (az w.1.size 1)=some (.slice a1 ps.length k1)/\(W.setCell (az (w.1.size+1) j) u).cell? (az w.1.size 2)=some (.slice a2 hs.length k2):=λW j u hW=>by
  rw[bC _ _ _ _ Ss,bC _ _ _ _ Ss];exact hW
 clear hT hw f9;generalize tl.length=nt at *;go_enter Tryz.func31,Tryz.ntmps31;go_upto_region 2 with fail;rw[<-d1];clear d1
 first|go_region_held_law (λW=>W.cell? (az w.1.size 1)=some (.slice a1 ps.length k1)/\W.cell? (az w.1.size 2)=some (.slice a2 hs.length k2))
  (first|(refine h7.o _ ?_;(repeat(first|(with_reducible exact bJ _ _)|(with_reducible exact O)|(with_reducible refine zD ?_)|(with_reducible refine qD ?_ _)));done)|(refine a4 _ ?_;(repeat(first|(with_reducible exact bJ _ _)|(with_reducible exact K)|(with_reducible exact U)|(with_reducible exact M)|(with_reducible refine zD ?_)|(with_reducible refine qD ?_ _)));done)|(refine e8 _ _ _ ?_;(first|(refine e8 _ _ _ ?_;(first|(refine e8 _ _ _ ?_;refine a4 _ ?_;(repeat(first|(with_reducible exact bJ _ _)|(with_reducible exact K)|(with_reducible exact U)|(with_reducible exact M)|(with_reducible refine zD ?_)|(with_reducible refine qD ?_ _)));done)|(refine a4 _ ?_;(repeat(first|(with_reducible exact bJ _ _)|(with_reducible exact K)|(with_reducible exact U)|(with_reducible exact M)|(with_reducible refine zD ?_)|(with_reducible refine qD ?_ _)));done)))|(refine a4 _ ?_;(repeat(first|(with_reducible exact bJ _ _)|(with_reducible exact K)|(with_reducible exact U)|(with_reducible exact M)|(with_reducible refine zD ?_)|(with_reducible refine qD ?_ _)));done)))|fail)
  (first
   |(refine step_append_lies _ Fl _ _ _ Fl w0.1.size 61 iT (.agg #[sn,sn,sn]) 3 72 Tryz.underlying32 hj e4 e5 e6 rfl Dd (.slice ab rl.length kb) rl.length _ Fl (a9.alloc _) (az b7.1.size 0) 1 1 [.slice q0 m0 z0,.slice q1 m1 z1,.slice q2 m2 z2] Fl Fl (xd _ _ _ _ _) (λu hu=>by simp at hu;rcases hu with rfl|rfl|rfl <;> rfl) Dd Um Oo (by have:=O.size;simp;omega) _ rfl ?_;intro g14 e9 a5 V I d3 d4;have a6:=KG (t:=⟨.slice q0 m0 z0,.slice q1 m1 z1,.slice q2 m2 z2,us,[],TR,ON⟩) d6.o d7.o d0.o d2.o e7.o O d5 I V;have a4:∀W,Bl a5 W->W.cell? (az w.1.size 1)=some (.slice a1 ps.length k1)/\W.cell? (az w.1.size 2)=some (.slice a2 hs.length k2):=λW hW=>⟨(a6.px.below hW).six.2.1,(a6.px.below hW).six.2.2.1⟩;(try have b8:=(d8.below (qD (bJ _ _) _)).gr (a9.alloc _) Dd I))
   |(refine step_append_lies _ Fl _ _ _ Fl w0.1.size 61 iT (.agg #[sn,sn,sn]) 3 72 Tryz.underlying32 hj e4 e5 e6 rfl Dd (.slice ab rl.length kb) rl.length _ Fl ((a9.alloc _).alloc _) (az (b7.1.size+1) 0) 1 1 [.slice q0 m0 z0,.slice q1 m1 z1,.slice q2 m2 z2] Fl Fl (qBH (X:=b7.alloc (.cells #[ai (rl.length:Int)] 3)) Ss (bJ _ _)) (λu hu=>by simp at hu;rcases hu with rfl|rfl|rfl <;> rfl) Dd Um Oo (by have:=O.size;simp;omega) _ rfl ?_;intro g14 e9 a5 V I d3 d4;have a6:=KG (t:=⟨.slice q0 m0 z0,.slice q1 m1 z1,.slice q2 m2 z2,us,[],TR,ON⟩) d6.o d7.o d0.o d2.o e7.o (qD O _) (TW.below d5 (qD (bJ _ _) _)) I V;have a4:∀W,Bl a5 W->W.cell? (az w.1.size 1)=some (.slice a1 ps.length k1)/\W.cell? (az w.1.size 2)=some (.slice a2 hs.length k2):=λW hW=>⟨(a6.px.below hW).six.2.1,(a6.px.below hW).six.2.2.1⟩;have b8:=((Bx1.made 3 b7 (ai (rl.length:Int)) rfl).below (qD (bJ _ _) _)).gr ((a9.alloc _).alloc _) Dd I)
   |(refine step_append_lies _ Fl _ _ _ Fl w0.1.size 61 iT (.agg #[sn,sn,sn]) 3 72 Tryz.underlying32 hj e4 e5 e6 rfl Dd (.slice ab rl.length kb) rl.length _ Fl ((a9.alloc _).alloc _) (az b7.1.size 0) 1 1 [.slice q0 m0 z0,.slice q1 m1 z1,.slice q2 m2 z2] Fl Fl (qBH (X:=b7) rfl (qD (bJ _ _) _)) (λu hu=>by simp at hu;rcases hu with rfl|rfl|rfl <;> rfl) Dd Um Oo (by have:=O.size;simp;omega) _ rfl ?_;intro g14 e9 a5 V I d3 d4;have a6:=KG (t:=⟨.slice q0 m0 z0,.slice q1 m1 z1,.slice q2 m2 z2,us,[],TR,ON⟩) d6.o d7.o d0.o d2.o e7.o (qD O _) (TW.below d5 (qD (bJ _ _) _)) I V;have a4:∀W,Bl a5 W->W.cell? (az w.1.size 1)=some (.slice a1 ps.length k1)/\W.cell? (az w.1.size 2)=some (.slice a2 hs.length k2):=λW hW=>⟨(a6.px.below hW).six.2.1,(a6.px.below hW).six.2.2.1⟩;have b8:=(Bx1.made (k:=b7.1.size+1) 3 (b7.alloc (.cells #[.slice q0 m0 z0,.slice q1 m1 z1,.slice q2 m2 z2] 61)) (ai (rl.length:Int)) Ss).gr ((a9.alloc _).alloc _) Dd I)
   |(refine step_append_lies _ Fl _ _ _ Fl a5.1.size 3 i0 (ai 0) 1 8 Tryz.underlying24 hi g6 g7 g8 rfl Dd (.slice q8 ps.length z8) ps.length _ Fl b9 (az _ 0) 1 1 [ai (rl.length:Int)] Fl Fl c7.news (λu hu=>by simp at hu;subst hu;rfl) Dd Um Oo (by have:=M.size;simp;omega) _ rfl ?_;intro g21 g9 h9 a7 a8 f7 f8;have U:=grB (A:=a5) (by(repeat(first|(with_reducible exact bJ _ _)|(with_reducible exact K)|(with_reducible exact U)|(with_reducible exact M)|(with_reducible refine zD ?_)|(with_reducible refine qD ?_ _)))) b9 a8)
   |(refine step_append_lies _ Fl _ _ _ Fl a5.1.size 3 i0 (ai 0) 1 8 Tryz.underlying24 hi g6 g7 g8 rfl Dd (.slice q8 ps.length z8) ps.length _ Fl (b9.alloc _) (az i1.1.size 0) 1 1 [ai (rl.length:Int)] Fl Fl (qH _ _ _) (λu hu=>by simp at hu;subst hu;rfl) Dd Um Oo (by have:=M.size;simp;omega) _ rfl ?_;intro g21 g9 h9 a7 a8 f7 f8;have U:=grB (A:=a5) (by(repeat(first|(with_reducible exact bJ _ _)|(with_reducible exact K)|(with_reducible exact U)|(with_reducible exact M)|(with_reducible refine zD ?_)|(with_reducible refine qD ?_ _)))) (b9.alloc _) a8)
   |(go_simp;go_at_call 55;(with_reducible refine(KT.o W1 _ d0.o (by(repeat(first|(with_reducible exact bJ _ _)|(with_reducible exact O)|(with_reducible refine zD ?_)|(with_reducible refine qD ?_ _))))).mono ?_);rintro e b7 ⟨q0,m0,z0,q1,m1,z1,q2,m2,z2,us,rfl,d5,d9,O⟩;have a9:=qB d6.o.own O;(first|have d8:=(Bx1.made 3 W1 (ai (rl.length:Int)) rfl).below (Ql d9)|have d8:=(Bx1.made 3 W1 (ai (rl.length:Int)) rfl).below d9|skip))
   |(go_simp;go_at_call 56;have _hk:=a7;(with_reducible refine(h5.o a5 _ a6.bel (by(repeat(first|(with_reducible exact bJ _ _)|(with_reducible exact K)|(with_reducible exact U)|(with_reducible exact M)|(with_reducible refine zD ?_)|(with_reducible refine qD ?_ _))))).mono ?_);rintro e i9 ⟨q5,z5,rfl,h0,K,e3⟩;(first|have c8:=qB a7 e3|have c8:=qB a7 (Ql e3));have b0:=a6.bx.below K;have t0:=b0.c0;have t1:=b0.c1;have t2:=b0.c2;have f0:=b0.free 0;have f1:=b0.free 1;have f2:=b0.free 2)
   |(go_simp;go_at_call 56;(with_reducible refine(h4.o a5 _ a6.bel (by(repeat(first|(with_reducible exact bJ _ _)|(with_reducible exact K)|(with_reducible exact U)|(with_reducible exact M)|(with_reducible refine zD ?_)|(with_reducible refine qD ?_ _))))).mono ?_);rintro e i1 ⟨q8,z8,rfl,b9,M,c9⟩;(first|have c7:=b8.below c9|have c7:=b8.below (Ql c9)|have c7:=(Bx1.made 3 a5 (ai (rl.length:Int)) rfl).below c9|have c7:=(Bx1.made 3 a5 (ai (rl.length:Int)) rfl).below (Ql c9)|skip))
   |fail)|fail
 all_goals go_wp2_with fail
 all_goals refine bodyPost_ret (v:=.agg #[.slice (some (az g14 0)) (rl.length+1) e9,.slice (some (az g21 0)) (ps.length+1) g9,.slice q5 hs.length z5]) (by simp[results,Tryz.results31,go_sem,t0,t1,t2]) rfl ?_
 all_goals exact⟨_,_,_,_,_,_,_,_,_,rfl,qFg a6 h6.o K c8 h0 h8 ⟨Oo,nR _⟩ _ _ _⟩
end Go.Proofs.YtcnfapnfmnolbaaGreat
