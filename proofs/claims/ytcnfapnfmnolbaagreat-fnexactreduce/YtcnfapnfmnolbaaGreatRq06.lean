import Derived.Deep.RegionHeld3
import Derived.Test.YtcnfapnfmnolbaaGreatRq05
set_option maxHeartbeats 40000000
set_option maxRecDepth 1000000
namespace Go.Proofs.YtcnfapnfmnolbaaGreat
open Go.RowKit
variable {ls:LL}{l:List (Int×Int)}{B G K M b c g0 g1 g2 j n o s:Nat}{f:Nat->Nat}{u0 u1 v v0 v1 v2 z0 z1 z2:Value}{I W W' w w':World}
def ql(vs:LI)(rows:LL)(ws:LI):Bool:=qV vs&&decide (rows.length<=10000)&&xt rows vs.length&&decide (ws.length=rows.length)
structure OwnT(w:World)(B:Nat)(g0 g1 g2:Nat)(vs:LI)(rows:LL)(ws:LI)(f:Nat->Nat):Prop where
 vr:OwnI w g0 vs
 rw:Half w g1 rows.length rows.length rows f
 wt:OwnI w g2 ws
 lt0:B<=g0
 lt1:g0<g1
 lt2:∀i,i<rows.length->f i<g2
 lt3:g1<g2
theorem Half.move(h:Half w G n j ls f)(hb:w'.1[G]?=w.1[G]?)(I:∀i,i<j->w'.1[f i]?=w.1[f i]?)(hs:w.1.size<=w'.1.size):Half w' G n j ls f:=
 ⟨λi hi=>(bF (w:=w) (a:=(az G i)) hb).trans (h.cell i hi),λi hi=>(World.frozen?_of_block (w:=w) (a:=(az G i)) hb).trans (h.free i hi),λi hi=>(h.own i hi).move (I i hi) hs,h.gt,h.up⟩
theorem Half.below(h:Half w G n j ls f)(I:G<w.1.size)(hb:Bl w w'):Half w' G n j ls f:=
 h.move (hb.block G I) (λi hi=>hb.block _ (h.own i hi).lt) hb.size
theorem Half.iss(h:Half w G n n ls f)(K:n=ls.length):ISS w (.slice (some (az G 0)) ls.length ls.length) ls:=by
 subst K;refine⟨_,_,rfl,Or.inr ⟨G,0,rfl,λj I=>⟨_,by rw[Nat.zero_add];exact h.cell j I,?_⟩⟩⟩;rw[if_pos I];exact(h.own j I).is
theorem OwnI.set{g:Nat}{l:LI}(h:OwnI w g l)(I:g≠c):OwnI (w.setCell (az c o) v) g l:=
 h.move (bD _ _ _ _ I) (by simp[World.setCell])
theorem Half.set(h:Half w G n j ls f)(I:c<G):Half (w.setCell (az c o) v) G n j ls f:=
 h.move (bD _ _ _ _ (by show G≠c;omega)) (λi hi=>bD _ _ _ _ (by have:=h.gt i hi;show f i≠c;omega)) (by simp[World.setCell])
theorem OwnT.set{vs ws:LI}{rows:LL}(h:OwnT w B g0 g1 g2 vs rows ws f)(I:c<g0):OwnT (w.setCell (az c o) v) B g0 g1 g2 vs rows ws f:=
 ⟨h.vr.set Oo,h.rw.set (Nat.lt_trans I h.lt1),h.wt.set (by have:=h.lt1;have:=h.lt3;omega),h.lt0,h.lt1,h.lt2,h.lt3⟩
theorem OwnT.below{vs ws:LI}{rows:LL}(h:OwnT w B g0 g1 g2 vs rows ws f)(hb:Bl w w'):OwnT w' B g0 g1 g2 vs rows ws f:=
 ⟨h.vr.below hb,h.rw.below (Nat.lt_trans h.lt3 h.wt.lt) hb,h.wt.below hb,h.lt0,h.lt1,h.lt2,h.lt3⟩
structure IT(w:World)(v0 v1 v2:Value)(vs:LI)(rows:LL)(ws:LI):Prop where
 vs:IS w v0 vs
 rows:ISS w v1 rows
 ws:IS w v2 ws
theorem IT.below{vs ws:LI}{rows:LL}(h:IT w v0 v1 v2 vs rows ws)(hb:Bl w w'):IT w' v0 v1 v2 vs rows ws:=
 ⟨h.vs.below hb,h.rows.below hb,h.ws.below hb⟩
theorem OwnT.it{vs ws:LI}{rows:LL}(h:OwnT w B g0 g1 g2 vs rows ws f):
 IT w (.slice (some (az g0 0)) vs.length vs.length) (.slice (some (az g1 0)) rows.length rows.length) (.slice (some (az g2 0)) ws.length ws.length) vs rows ws:=
 ⟨h.vr.is,h.rw.iss rfl,h.wt.is⟩
structure TB(w:World)(s:Nat)(v0 v1 v2 z0 z1 z2 o0 o1 o2:Value)(W:World):Prop where
 a0:W.cell? (az s 0)=some v0
 a1:W.cell? (az s 1)=some v1
 a2:W.cell? (az s 2)=some v2
 r0:W.cell? (az (s+1) 0)=some z0
 r1:W.cell? (az (s+1) 1)=some z1
 r2:W.cell? (az (s+1) 2)=some z2
 o0:W.cell? (az (s+1+1) 0)=some o0
 o1:W.cell? (az (s+1+1) 1)=some o1
 o2:W.cell? (az (s+1+1) 2)=some o2
 fr0:W.frozen? (az (s+1) 0)=false
 fr1:W.frozen? (az (s+1) 1)=false
 fr2:W.frozen? (az (s+1) 2)=false
 fo0:W.frozen? (az (s+1+1) 0)=false
 fo1:W.frozen? (az (s+1+1) 1)=false
 fo2:W.frozen? (az (s+1+1) 2)=false
 sz:s+3<=W.1.size
 below:Below s w W
theorem TB.step{o0 o1 o2:Value}(h:TB w s v0 v1 v2 z0 z1 z2 o0 o1 o2 W)(hb:Bl W W'):TB w s v0 v1 v2 z0 z1 z2 o0 o1 o2 W' where
 a0:=(hb.cell (p:=(az s 0)) (by have:=h.sz;show s<_;omega)).trans h.a0
 a1:=(hb.cell (p:=(az s 1)) (by have:=h.sz;show s<_;omega)).trans h.a1
 a2:=(hb.cell (p:=(az s 2)) (by have:=h.sz;show s<_;omega)).trans h.a2
 r0:=(hb.cell (p:=(az (s+1) 0)) (by have:=h.sz;show s+1<_;omega)).trans h.r0
 r1:=(hb.cell (p:=(az (s+1) 1)) (by have:=h.sz;show s+1<_;omega)).trans h.r1
 r2:=(hb.cell (p:=(az (s+1) 2)) (by have:=h.sz;show s+1<_;omega)).trans h.r2
 o0:=(hb.cell (p:=(az (s+1+1) 0)) (by have:=h.sz;show s+1+1<_;omega)).trans h.o0
 o1:=(hb.cell (p:=(az (s+1+1) 1)) (by have:=h.sz;show s+1+1<_;omega)).trans h.o1
 o2:=(hb.cell (p:=(az (s+1+1) 2)) (by have:=h.sz;show s+1+1<_;omega)).trans h.o2
 fr0:=(hb.frozen (p:=(az (s+1) 0)) (by have:=h.sz;show s+1<_;omega)).trans h.fr0
 fr1:=(hb.frozen (p:=(az (s+1) 1)) (by have:=h.sz;show s+1<_;omega)).trans h.fr1
 fr2:=(hb.frozen (p:=(az (s+1) 2)) (by have:=h.sz;show s+1<_;omega)).trans h.fr2
 fo0:=(hb.frozen (p:=(az (s+1+1) 0)) (by have:=h.sz;show s+1+1<_;omega)).trans h.fo0
 fo1:=(hb.frozen (p:=(az (s+1+1) 1)) (by have:=h.sz;show s+1+1<_;omega)).trans h.fo1
 fo2:=(hb.frozen (p:=(az (s+1+1) 2)) (by have:=h.sz;show s+1+1<_;omega)).trans h.fo2
 sz:=bM h.sz hb.size
 below:=h.below.trans (hb.mono (by have:=h.sz;omega))
theorem TB.set0{o0 o1 o2:Value}(h:TB w s v0 v1 v2 z0 z1 z2 o0 o1 o2 W)(u:Value):TB w s v0 v1 v2 z0 z1 z2 u o1 o2 (W.setCell (az (s+1+1) 0) u) where
 a0:=(bC _ _ _ _ Nq).trans h.a0
 a1:=(bC _ _ _ _ Nq).trans h.a1
 a2:=(bC _ _ _ _ Nq).trans h.a2
 r0:=(bC _ _ _ _ Nq).trans h.r0
 r1:=(bC _ _ _ _ Nq).trans h.r1
 r2:=(bC _ _ _ _ Nq).trans h.r2
 o0:=bG _ _ _ h.o0
 o1:=(bC _ _ _ _ Nq).trans h.o1
 o2:=(bC _ _ _ _ Nq).trans h.o2
 fr0:=(fS _ _ _ _).trans h.fr0
 fr1:=(fS _ _ _ _).trans h.fr1
 fr2:=(fS _ _ _ _).trans h.fr2
 fo0:=(fS _ _ _ _).trans h.fo0
 fo1:=(fS _ _ _ _).trans h.fo1
 fo2:=(fS _ _ _ _).trans h.fo2
 sz:=by have:=h.sz;simpa[World.setCell]using this
 below:=h.below.setCell (by show s<=s+1+1;omega) _
theorem TB.set1{o0 o1 o2:Value}(h:TB w s v0 v1 v2 z0 z1 z2 o0 o1 o2 W)(u:Value):TB w s v0 v1 v2 z0 z1 z2 o0 u o2 (W.setCell (az (s+1+1) 1) u) where
 a0:=(bC _ _ _ _ Nq).trans h.a0
 a1:=(bC _ _ _ _ Nq).trans h.a1
 a2:=(bC _ _ _ _ Nq).trans h.a2
 r0:=(bC _ _ _ _ Nq).trans h.r0
 r1:=(bC _ _ _ _ Nq).trans h.r1
 r2:=(bC _ _ _ _ Nq).trans h.r2
 o0:=(bC _ _ _ _ Nq).trans h.o0
 o1:=bG _ _ _ h.o1
 o2:=(bC _ _ _ _ Nq).trans h.o2
 fr0:=(fS _ _ _ _).trans h.fr0
 fr1:=(fS _ _ _ _).trans h.fr1
 fr2:=(fS _ _ _ _).trans h.fr2
 fo0:=(fS _ _ _ _).trans h.fo0
 fo1:=(fS _ _ _ _).trans h.fo1
 fo2:=(fS _ _ _ _).trans h.fo2
 sz:=by have:=h.sz;simpa[World.setCell]using this
 below:=h.below.setCell (by show s<=s+1+1;omega) _
theorem TB.start(w:World)(t t' I:TypeId)(v0 v1 v2 z0 z1 z2 o0 o1 o2:Value):TB w w.1.size v0 v1 v2 z0 z1 z2 o0 o1 o2 (((w.alloc (.cells #[v0,v1,v2] t)).alloc (.cells #[z0,z1,z2] t')).alloc (.cells #[o0,o1,o2] I)) where
 a0:=Sg
 a1:=Sg
 a2:=Sg
 r0:=Sg
 r1:=Sg
 r2:=Sg
 o0:=Sg
 o1:=Sg
 o2:=Sg
 fr0:=Sg
 fr1:=Sg
 fr2:=Sg
 fo0:=Sg
 fo1:=Sg
 fo2:=Sg
 sz:=Ss
 below:=((aK).alloc Ss _).alloc Sy _
theorem Uh(w:World)(v0 v1 v2:Value)(vs:LI)(rows:LL)(ws:LI)(h:IT w v0 v1 v2 vs rows ws)(hv:vs.length<=1099511627776)(hr:qT rows)(hw:ws.length<=1099511627776):
 Cl 24 #[.agg #[v0,v1,v2]] w λe w'=>∃g0 g1 g2 f,e=.returned (.agg #[.slice (some (az g0 0)) vs.length vs.length,.slice (some (az g1 0)) rows.length rows.length,.slice (some (az g2 0)) ws.length ws.length])/\OwnT w' w.1.size g0 g1 g2 vs rows ws f/\Bl w w':=by
 have H0:=ay h.vs;have H1:=ay h.rows;have H2:=ay h.ws;have HR:=ay hr;obtain⟨a0,k0,rfl,-⟩:=h.vs;obtain⟨a1,k1,rfl,-⟩:=h.rows;obtain⟨a2,k2,rfl,-⟩:=h.ws;clear h hr;have a7:=ay (TB.start w 47 61 61 (.slice a0 vs.length k0) (.slice a1 rows.length k1) (.slice a2 ws.length k2) sn sn sn sn sn sn);go_enter Tryz.func24,Tryz.ntmps24;go_wp2_with fail;refine(yM _ _ vs (H0.o.below a7.o.below) hv).mono ?_;rintro e w2 ⟨rfl,a8,a9⟩;have K:=ay (a7.o.step a9);have y1:=K.o.a1;have y2:=K.o.o0;have y3:=K.o.fo0;have a3:Hh (OwnI w2 (w.1.size+1+1+1) vs):=ay (by simpa using a8);clear a8 a9;go_wp2_with fail;have b0:=ay (K.o.set0 (.slice (some (az (w.1.size+1+1+1) 0)) vs.length vs.length));refine(QM _ _ rows (H1.o.below b0.o.below) HR.o).mono ?_;rintro e w3 ⟨rfl,⟨f,b1⟩,V,a4⟩;have M:=ay (b0.o.step a4);have x1:=M.o.a2;have x2:=M.o.o1;have x3:=M.o.fo1;have b7:Hh (OwnI w3 (w.1.size+1+1+1) vs):=ay ((a3.o.set Oo).below a4);have c7:w.1.size+1+1+1<(w2.setCell (az (w.1.size+1+1) 0) (.slice (some (az (w.1.size+1+1+1) 0)) vs.length vs.length)).1.size:=by
  have:=a3.o.lt;simpa[World.setCell]using this
 generalize (w2.setCell (az (w.1.size+1+1) 0) (.slice (some (az (w.1.size+1+1+1) 0)) vs.length vs.length)).1.size=g1 at *;have a5:=ay b1;have a6:=ay V;clear b1 a4 y1 y2 y3 a3 V;go_wp2_with fail;have b8:=ay (M.o.set1 (.slice (some (az g1 0)) rows.length rows.length));refine(yM _ _ ws (H2.o.below b8.o.below) hw).mono ?_;rintro e w4 ⟨rfl,b9,O⟩;have I:=ay (b8.o.step O);have z1:=I.o.o0;have z2:=I.o.o1;have z3:=I.o.o2;have z4:=I.o.fo2;have z5:=I.o.r0;have z6:=I.o.r1;have z7:=I.o.r2;have z8:=I.o.fr0;have z9:=I.o.fr1;have c8:=I.o.fr2;have U:(w3.setCell (az (w.1.size+1+1) 1) (.slice (some (az g1 0)) rows.length rows.length)).1.size=w3.1.size:=by simp[World.setCell]
 have HF:Hh (OwnT w4 w.1.size (w.1.size+1+1+1) g1 (w3.setCell (az (w.1.size+1+1) 1) (.slice (some (az g1 0)) rows.length rows.length)).1.size vs rows ws f):=ay
  ⟨(b7.o.set Oo).below O,(a5.o.set Oo).below (by rw[U];exact a6.o) O,b9,Oo,c7,λi hi=>by rw[U];exact(a5.o.own i hi).lt,by rw[U];exact a6.o⟩
 generalize (w3.setCell (az (w.1.size+1+1) 1) (.slice (some (az g1 0)) rows.length rows.length)).1.size=g2 at *;clear b9 O U x1 x2 x3 b7 a5 a6;go_wp2;refine bodyPost_ret (v:=.agg #[.slice (some (az (w.1.size+1+1+1) 0)) vs.length vs.length,.slice (some (az g1 0)) rows.length rows.length,.slice (some (az g2 0)) ws.length ws.length]) (by simp[results,Tryz.results24,go_sem,z5,z6,z7]) rfl
  ⟨_,_,_,f,rfl,((((HF.o.set Oo).set Oo).set Oo).set Oo),(((I.o.below.setCell (by show w.1.size<=w.1.size+1+1;omega) _).setCell (by show w.1.size<=w.1.size+1;omega) _).setCell (by show w.1.size<=w.1.size+1;omega) _).setCell (by show w.1.size<=w.1.size+1;omega) _⟩
def szT(vs:LI)(rows:LL)(ws:LI)(left:Int):Int:=if left<vs.length+tot rows rows.length+ws.length then -1 else left-(vs.length+tot rows rows.length+ws.length)
theorem Ui(w:World)(v0 v1 v2:Value)(vs:LI)(rows:LL)(ws:LI)(left:Int)(h:IT w v0 v1 v2 vs rows ws)(hv:vs.length<=9223372036854775807)(hr:Fits rows)(hw:ws.length<=9223372036854775807)(h1:0<=left)(h2:left<=1048576):
 Cl 15 #[.agg #[v0,v1,v2],ai left] w λe w'=>e=.returned (ai (szT vs rows ws left))/\Bl w w':=by
 have H1:=ay h.rows;have HR:=ay hr;obtain⟨a0,V,rfl,-⟩:=h.vs;obtain⟨a1,k1,rfl,-⟩:=h.rows;obtain⟨a2,k2,rfl,-⟩:=h.ws;obtain⟨res,I⟩:=Ex (szT vs rows ws left);rw[<-I];unfold szT at I;have HB:Hh (Bl w (w.alloc (.cells #[.slice a0 vs.length V,.slice a1 rows.length k1,.slice a2 ws.length k2] 47))):=ay (aK);have O:=ay (yN (w.alloc (.cells #[.slice a0 vs.length V,.slice a1 rows.length k1,.slice a2 ws.length k2] 47)) a0 vs.length V left h1 h2 hv);clear h hr;by_cases c0:left<vs.length
 ·rw[if_pos c0]at O;rw[if_pos Oo]at I;have M:=ay I;clear I;go_enter Tryz.func15,Tryz.ntmps15;go_wp2_with (first|(go_at_call 17;refine O.o.mono ?_;rintro e w' ⟨rfl,K⟩;subst w'));go_ret;exact⟨qR M.o.symm,HB.o⟩
 rw[if_neg c0]at O;have U:=ay (QL (w.alloc (.cells #[.slice a0 vs.length V,.slice a1 rows.length k1,.slice a2 ws.length k2] 47)) _ rows (left-vs.length) (H1.o.below HB.o) HR.o Oo Oo);have n0:¬(left-(vs.length:Int)<0):=Oo;unfold JP at U;by_cases c1:left-vs.length<tot rows rows.length
 ·rw[if_pos c1]at U;rw[if_pos Oo]at I;have M:=ay I;clear I;go_enter Tryz.func15,Tryz.ntmps15;go_wp2_with (first|(go_at_call 17;refine O.o.mono ?_;rintro e w' ⟨rfl,K⟩;subst w')|(go_at_call 16;refine U.o.mono ?_;rintro e w' ⟨rfl,K⟩;subst w'));go_ret;exact⟨qR M.o.symm,HB.o⟩
 rw[if_neg c1]at U;have n1:¬(left-(vs.length:Int)-(tot rows rows.length:Int)<0):=Oo;have K2:=ay (yN (w.alloc (.cells #[.slice a0 vs.length V,.slice a1 rows.length k1,.slice a2 ws.length k2] 47)) a2 ws.length k2 (left-vs.length-tot rows rows.length) Oo Oo hw);by_cases c2:left-vs.length-tot rows rows.length<ws.length
 ·rw[if_pos c2]at K2;rw[if_pos Oo]at I;have M:=ay I;clear I;go_enter Tryz.func15,Tryz.ntmps15;go_wp2_with fail;refine O.o.mono ?_;rintro e w' ⟨rfl,K⟩;subst w';go_wp2_with fail;refine U.o.mono ?_;rintro e w' ⟨rfl,K⟩;subst w';go_wp2_with fail;refine K2.o.mono ?_;rintro e w' ⟨rfl,K⟩;subst w';go_wp2;go_ret;exact⟨qR M.o.symm,HB.o⟩
 rw[if_neg c2]at K2;rw[if_neg Oo]at I;have M:=ay (show res=left-vs.length-tot rows rows.length-ws.length by omega);have n2:¬(left-(vs.length:Int)-(tot rows rows.length:Int)-(ws.length:Int)<0):=Oo;clear I;go_enter Tryz.func15,Tryz.ntmps15;go_wp2_with fail;refine O.o.mono ?_;rintro e w' ⟨rfl,K⟩;subst w';go_wp2_with fail;refine U.o.mono ?_;rintro e w' ⟨rfl,K⟩;subst w';go_wp2_with fail;refine K2.o.mono ?_;rintro e w' ⟨rfl,K⟩;subst w';go_wp2;go_ret;exact⟨qR M.o.symm,HB.o⟩
theorem IR.below(h:IR w v l)(hb:Bl w w'):IR w' v l:=by
 obtain⟨a,cap,rfl,h⟩:=h;refine⟨a,cap,rfl,?_⟩;rcases h with h|⟨b,o,rfl,h⟩;exact Or.inl h;exact Or.inr ⟨b,o,rfl,λj I=>⟨(hb.cell (p:=(az b (o+j*2))) (bL w _ (h j I).1)).trans (h j I).1,(hb.cell (p:=(az b (o+j*2+1))) (bL w _ (h j I).2)).trans (h j I).2⟩⟩
theorem XT(O:I.cell? (az b o)=some v0)(U:I.cell? (az b (o+1))=some v1)(V:I.cell? (az K M)=some u0)(k1:I.cell? (az K (M+1))=some u1)(hb:Bl I W):
 W.cell? (az b o)=some v0/\W.cell? (az b (o+1))=some v1/\W.cell? (az K M)=some u0/\W.cell? (az K (M+1))=some u1/\Bl I W:=
 ⟨(hb.cell (p:=(az b o)) (bL I _ O)).trans O,(hb.cell (p:=(az b (o+1))) (bL I _ U)).trans U,(hb.cell (p:=(az K M)) (bL I _ V)).trans V,(hb.cell (p:=(az K (M+1))) (bL I _ k1)).trans k1,hb⟩
theorem qAh(w:World)(v u:Value)(l:List (Int×Int))(h:IR w v l)(h':IR w u l)(hl:l.length<=1099511627776):
 Cl 36 #[v,u] w λe w'=>e=.returned (.bool true)/\Bl w w':=by
 obtain⟨a,cap,rfl,hc⟩:=h;obtain⟨a',a4,rfl,K⟩:=h';obtain⟨n,hn⟩:=Ex l.length;rw[<-hn]at hc K hl ⊢;have HC:=ay hc;have a3:=ay K;clear hc K hn;have a5:((n:Int) != (n:Int))=false:=Ss;go_enter Tryz.func36,Tryz.ntmps36;go_wp2;go_loopw [5] (λt wr=>∃j:Nat,j<=n/\t=ai j/\Hh (Bl w wr)) (λt _=>n-(intOf t).toNat);exact⟨0,nZ _,rfl,ay (bJ _ _)⟩;obtain⟨j,hj,rfl,hB⟩:=hrel;by_cases U:j<n
 ·have i1:(j:Int)<(n:Int):=Oo;rcases HC.o with h0|⟨b,o,rfl,hrel⟩;omega;rcases a3.o with h0|⟨M,O,rfl,I⟩;omega;obtain⟨e0,e1⟩:=hrel j U;obtain⟨f0,f1⟩:=I j U;have c0:=(hB.o.cell (p:=(az b (o+j*2))) (bL w _ e0)).trans e0;have c1:=(hB.o.cell (p:=(az b (o+j*2+1))) (bL w _ e1)).trans e1;have d0:=(hB.o.cell (p:=(az M (O+j*2))) (bL w _ f0)).trans f0;have d1:=(hB.o.cell (p:=(az M (O+j*2+1))) (bL w _ f1)).trans f1;clear hrel I e0 e1 f0 f1;generalize (l.getD j (0,0)).1=x at *;generalize (l.getD j (0,0)).2=y at *;have V:Hh (∀W,(W.cell? (az b (o+j*2))=some (ai x)/\W.cell? (az b (o+j*2+1))=some (ai y)/\W.cell? (az M (O+j*2))=some (ai x)/\W.cell? (az M (O+j*2+1))=some (ai y)/\Bl wr W)->Bl wr W):=ay (λW hW=>hW.2.2.2.2);go_wp2_with fail;go_region_held3 (λW=>W.cell? (az b (o+j*2))=some (ai x)/\W.cell? (az b (o+j*2+1))=some (ai y)/\W.cell? (az M (O+j*2))=some (ai x)/\W.cell? (az M (O+j*2+1))=some (ai y)/\Bl wr W)
   (first|exact XT c0 c1 d0 d1 (bJ _ _).drew|exact XT c0 c1 d0 d1 (bt (bJ _ _).drew hb)|(refine XT c0 c1 d0 d1 (bt (V.o _ ?_) hb);assumption))
   (first|(go_at_call 37;refine(YJ _ _ _).mono ?_;rintro e w' ⟨rfl,hb⟩))
  go_wp2;go_roundw;exact⟨j+1,Oo,Gg,ay (bt hB.o (V.o _ (by assumption)))⟩;exact Im
 obtain rfl:j=n:=Oo;have i1:¬((j:Int)<(j:Int)):=Oo;go_wp2;go_ret;exact⟨rfl,hB.o⟩
theorem qFB(l:List (Int×Int))(j:Nat)(h:j<l.length):(rcs l)[j*2]?=some (ai (l.getD j (0,0)).1)/\(rcs l)[j*2+1]?=some (ai (l.getD j (0,0)).2):=by
 unfold rcs;induction l generalizing j with
 |nil=>simp at h
 |cons a l ih=>
  rw[List.flatMap_cons];cases j with
  |zero=>simp
  |succ j=>
   have:=ih j (by simpa using h);rw[bQ Sy,bQ Sy];simp only[List.length_cons,List.length_nil];rw[show(j+1)*2-(0+1+1)=j*2 by omega,show(j+1)*2+1-(0+1+1)=j*2+1 by omega];simpa using this
theorem Qj(h:w.ownsRow B 36 2 v l.length (rcs l)):IR w v l:=by
 rcases h.2 with ⟨rfl,I⟩|⟨g,cap,cur,rfl,K,O,U⟩;exact⟨none,0,by rw[I],Or.inl I⟩;refine⟨_,cap,rfl,Or.inr ⟨g,0,rfl,λj M=>?_⟩⟩;rw[Nat.zero_add,h.cellAt (j*2) Oo,h.cellAt (j*2+1) Oo];exact qFB l j M
theorem ZF(vs:LI)(rows:LL)(ws:LI):
 (qV vs=false/\ql vs rows ws=false)∨(qV vs=true/\10000<rows.length/\ql vs rows ws=false)∨(qV vs=true/\rows.length<=10000/\xt rows vs.length=false/\ql vs rows ws=false)∨
 (qV vs=true/\rows.length<=10000/\xt rows vs.length=true/\ql vs rows ws=decide (ws.length=rows.length)):=by
 unfold ql;cases h1:qV vs
 left;simp;right;by_cases K:10000<rows.length;left;simp;omega;right;have I:decide (rows.length<=10000)=true:=Sy;cases h4:xt rows vs.length
 left;simp;omega;right;simp[I];omega
theorem VS(a b:Nat):decide ((a:Int)=(b:Int))=decide (a=b):=by
 by_cases h:a=b;simp[h];rw[decide_eq_false h,decide_eq_false Oo]
theorem yo(w:World)(v0 v1 v2:Value)(vs:LI)(rows:LL)(ws:LI)(h:IT w v0 v1 v2 vs rows ws)(hv:vs.length<=1099511627776)(V:qT rows):
 Cl 74 #[.agg #[v0,v1,v2]] w λe w'=>e=.returned (.bool (ql vs rows ws))/\Bl w w':=by
 have M:Hh (Bl w (w.alloc (.cells #[v0,v1,v2] 61))):=ay (aK);have K:=ay (zd (w.alloc (.cells #[v0,v1,v2] 61)) v0 vs (h.vs.below M.o) hv);have O:=ay (QT (w.alloc (.cells #[v0,v1,v2] 61)) v1 rows vs.length (h.rows.below M.o) V);have a4:=V.1;obtain⟨a0,k0,rfl,-⟩:=h.vs;obtain⟨a1,k1,rfl,-⟩:=h.rows;obtain⟨a2,k2,rfl,-⟩:=h.ws;have a3:=ZF vs rows ws;clear h V;generalize ql vs rows ws=res at *;rcases a3 with ⟨c0,c1⟩|⟨c0,c1,c2⟩|⟨c0,c1,c2,c3⟩|⟨c0,c1,c2,c3⟩
 ·rw[c0]at K;clear O;subst c1;generalize vs.length=n0 at *;generalize rows.length=U at *;go_enter Tryz.func74,Tryz.ntmps74;go_wp2_with (first|(go_at_call 97;refine K.o.mono ?_;rintro e w' ⟨rfl,I⟩;subst w'));go_ret;exact⟨rfl,M.o⟩
 ·rw[c0]at K;clear O;subst c2;generalize vs.length=n0 at *;generalize rows.length=U at *;have i1:¬((U:Int)<=10000):=Oo;go_enter Tryz.func74,Tryz.ntmps74;go_wp2_with (first|(go_at_call 97;refine K.o.mono ?_;rintro e w' ⟨rfl,I⟩;subst w'));go_ret;exact⟨rfl,M.o⟩
 ·rw[c0]at K;rw[c2]at O;subst c3;generalize vs.length=n0 at *;generalize rows.length=U at *;have i1:(U:Int)<=10000:=Oo;go_enter Tryz.func74,Tryz.ntmps74;go_wp2_with (first|(go_at_call 97;refine K.o.mono ?_;rintro e w' ⟨rfl,I⟩;subst w')|(go_at_call 111;refine O.o.mono ?_;rintro e w' ⟨rfl,I⟩;subst w'));go_ret;exact⟨rfl,M.o⟩
 rw[c0]at K;rw[c2]at O;rw[<-VS]at c3;have HE:=ay c3;clear c3;generalize vs.length=n0 at *;generalize rows.length=U at *;generalize ws.length=n2 at *;have i1:(U:Int)<=10000:=Oo;go_enter Tryz.func74,Tryz.ntmps74;go_wp2_with (first|(go_at_call 97;refine K.o.mono ?_;rintro e w' ⟨rfl,I⟩;subst w')|(go_at_call 111;refine O.o.mono ?_;rintro e w' ⟨rfl,I⟩;subst w'));go_ret;exact⟨qK (by rw[HE.o];rfl),M.o⟩
theorem VT(w:World)(v0 v1 v2:Value)(vs:LI)(rows:LL)(ws:LI)(h:IT w v0 v1 v2 vs rows ws)(hv:vs.length<=1099511627776)(V:qT rows):
 Cl 59 #[.agg #[v0,v1,v2]] w λe w'=>e=.returned (.bool (ql vs rows ws))/\Bl w w':=by
 have M:Hh (Bl w (w.alloc (.cells #[v0,v1,v2] 61))):=ay (aK);have K:=ay (Ug (w.alloc (.cells #[v0,v1,v2] 61)) v0 vs (h.vs.below M.o) hv);have O:=ay (QY (w.alloc (.cells #[v0,v1,v2] 61)) v1 rows vs.length (h.rows.below M.o) V);have a4:=V.1;obtain⟨a0,k0,rfl,-⟩:=h.vs;obtain⟨a1,k1,rfl,-⟩:=h.rows;obtain⟨a2,k2,rfl,-⟩:=h.ws;have a3:=ZF vs rows ws;clear h V;generalize ql vs rows ws=res at *;rcases a3 with ⟨c0,c1⟩|⟨c0,c1,c2⟩|⟨c0,c1,c2,c3⟩|⟨c0,c1,c2,c3⟩
 ·rw[c0]at K;clear O;subst c1;generalize vs.length=n0 at *;generalize rows.length=U at *;go_enter Tryz.func59,Tryz.ntmps59;go_wp2_with (first|(go_at_call 84;refine K.o.mono ?_;rintro e w' ⟨rfl,I⟩;subst w'));go_ret;exact⟨rfl,M.o⟩
 ·rw[c0]at K;clear O;subst c2;generalize vs.length=n0 at *;generalize rows.length=U at *;have i1:¬((U:Int)<=10000):=Oo;go_enter Tryz.func59,Tryz.ntmps59;go_wp2_with (first|(go_at_call 84;refine K.o.mono ?_;rintro e w' ⟨rfl,I⟩;subst w'));go_ret;exact⟨rfl,M.o⟩
 ·rw[c0]at K;rw[c2]at O;subst c3;generalize vs.length=n0 at *;generalize rows.length=U at *;have i1:(U:Int)<=10000:=Oo;go_enter Tryz.func59,Tryz.ntmps59;go_wp2_with (first|(go_at_call 84;refine K.o.mono ?_;rintro e w' ⟨rfl,I⟩;subst w')|(go_at_call 85;refine O.o.mono ?_;rintro e w' ⟨rfl,q',I⟩;subst w'));go_ret;exact⟨rfl,below_drewN M.o _⟩
 rw[c0]at K;rw[c2]at O;rw[<-VS]at c3;have HE:=ay c3;clear c3;generalize vs.length=n0 at *;generalize rows.length=U at *;generalize ws.length=n2 at *;have i1:(U:Int)<=10000:=Oo;go_enter Tryz.func59,Tryz.ntmps59;go_wp2_with (first|(go_at_call 84;refine K.o.mono ?_;rintro e w' ⟨rfl,I⟩;subst w')|(go_at_call 85;refine O.o.mono ?_;rintro e w' ⟨rfl,q',I⟩;subst w'));go_ret;exact⟨qK (by rw[HE.o];rfl),below_drewN M.o _⟩
theorem qAA(w:World)(v0 v1 v2 u0 u1 u2:Value)(vs:LI)(rows:LL)(ws:LI)(h:IT w v0 v1 v2 vs rows ws)(K:IT w u0 u1 u2 vs rows ws)(hv:vs.length<=1099511627776)(U:qT rows)(V:ws.length<=1099511627776):
 Cl 33 #[.agg #[v0,v1,v2],.agg #[u0,u1,u2]] w λe w'=>e=.returned (.bool true)/\Bl w w':=by
 have I:Hh (Bl w ((w.alloc (.cells #[v0,v1,v2] 61)).alloc (.cells #[u0,u1,u2] 61))):=ay ((aK).alloc Ss _);have H:=ay h;have O:=ay K;have HR:=ay U;obtain⟨a0,k0,rfl,-⟩:=h.vs;obtain⟨a1,k1,rfl,-⟩:=h.rows;obtain⟨a2,k2,rfl,-⟩:=h.ws;obtain⟨b0,l0,rfl,-⟩:=K.vs;obtain⟨b1,l1,rfl,-⟩:=K.rows;obtain⟨b2,l2,rfl,-⟩:=K.ws;clear h K U;go_enter Tryz.func33,Tryz.ntmps33;go_wp2_with fail;refine(jN _ _ _ vs (H.o.vs.below I.o) (O.o.vs.below I.o) hv).mono ?_;rintro e w1 ⟨rfl,q1,M⟩;subst w1;go_wp2_with fail;refine(QN _ _ _ rows (H.o.rows.below (below_drewN I.o _)) (O.o.rows.below (below_drewN I.o _)) HR.o).mono ?_;rintro e w1 ⟨rfl,q2,M⟩;subst w1;go_wp2_with fail;refine(jN _ _ _ ws (H.o.ws.below (below_drewN I.o _)) (O.o.ws.below (below_drewN I.o _)) V).mono ?_;rintro e w1 ⟨rfl,q3,M⟩;subst w1;go_wp2;go_ret;exact⟨rfl,by repeat' first|exact I.o|refine below_drewN ?_ _⟩
theorem xL{a:Addr}(hb:Bl w w')(h:w.cell? a=some v):w'.cell? a=some v:=(hb.cell (bL w _ h)).trans h
structure TbV where
 vs:LI
 rows:LL
 ws:LI
def qA:TbV:=⟨[],[],[]⟩
structure TvS(t:TbV):Prop where
 vs:t.vs.length<=1099511627776
 rows:qT t.rows
 ws:t.ws.length<=1099511627776
def TabAt(W:World)(b o:Nat)(t:TbV):Prop:=∃v0 v1 v2,W.cell? (az b o)=some v0/\W.cell? (az b (o+1))=some v1/\W.cell? (az b (o+2))=some v2/\IT W v0 v1 v2 t.vs t.rows t.ws
theorem TabAt.below{t:TbV}(h:TabAt W b o t)(hb:Bl W W'):TabAt W' b o t:=by
 obtain⟨v0,v1,v2,c0,c1,c2,hi⟩:=h;exact⟨v0,v1,v2,xL hb c0,xL hb c1,xL hb c2,hi.below hb⟩
def ITs(W:World)(v:Value)(tl:List TbV):Prop:=∃a cap,v=.slice a tl.length cap/\(tl.length=0∨∃b o,a=some (az b o)/\∀j,j<tl.length->TabAt W b (o+j*3) (tl.getD j qA))
theorem ITs.below{tl:List TbV}(h:ITs W v tl)(hb:Bl W W'):ITs W' v tl:=by
 obtain⟨a,cap,e,h⟩:=h;refine⟨a,cap,e,?_⟩;rcases h with h|⟨b,o,I,h⟩;exact Or.inl h;exact Or.inr ⟨b,o,I,λj K=>(h j K).below hb⟩
theorem qG7{α:Type}(c:α->List Value)(I:∀x,(c x).length=3)(K:List α):∀t,(K.flatMap c)[t]?=(K[t / 3]?).bind λx=>(c x)[t % 3]?:=by
 induction K with
 |nil=>intro t;simp
 |cons x r ih=>
  intro t;rw[List.flatMap_cons];by_cases h:t<3;rw[aL (by rw[I];omega),Nat.div_eq_of_lt h,Nat.mod_eq_of_lt h];rfl;obtain⟨s,rfl⟩:∃s,t=s+3:=⟨t-3,Oo⟩;rw[bQ (by rw[I];omega)];have e:s+3-(c x).length=s:=by rw[I];omega
  rw[e,ih s,Nat.add_mod_right,Nat.add_div_right _ Dd];rfl
theorem XZ{α:Type}(c:α->List Value)(M:∀x,(c x).length=3)(d:α){ty:TypeId}{tl:List α}(h:W.ownsRow B ty 3 v tl.length (tl.flatMap c)):
 ∃a cap,v=.slice a tl.length cap/\(tl.length=0∨∃g,a=some (az g 0)/\(∃cur,W.1[g]?=some (.cells cur ty (0,0)))/\∀j q,j<tl.length->q<3->W.cell? (az g (j*3+q))=(c (tl.getD j d))[q]?):=by
 rcases h.2 with ⟨rfl,I⟩|⟨g,cap,cur,rfl,O,K,I,-,-,U⟩;exact⟨none,0,by rw[I],Or.inl I⟩;refine⟨_,cap,rfl,Or.inr ⟨g,rfl,⟨cur,K⟩,λj q V hq=>?_⟩⟩;rw[cell_of_row _ _ _ _ _ _ K,<-Array.getElem?_toList,<-List.getElem?_take_of_lt (by omega:j*3+q<tl.length*3),U,qG7 c M,show(j*3+q) / 3=j by omega,show(j*3+q) % 3=q by omega,gD,gE V];rfl
theorem K9{u2:Value}
 (O:I.cell? (az b o)=some v0) (U:I.cell? (az b (o+1))=some v1) (V:I.cell? (az b (o+2))=some v2)
 (k0:I.cell? (az K M)=some u0) (k1:I.cell? (az K (M+1))=some u1) (k2:I.cell? (az K (M+2))=some u2) (hb:Bl I W):
 W.cell? (az b o)=some v0/\W.cell? (az b (o+1))=some v1/\W.cell? (az b (o+2))=some v2/\W.cell? (az K M)=some u0/\W.cell? (az K (M+1))=some u1/\W.cell? (az K (M+2))=some u2/\Bl I W:=
 ⟨xL hb O,xL hb U,xL hb V,xL hb k0,xL hb k1,xL hb k2,hb⟩
theorem QS(w:World)(v u:Value)(O:List TbV)(h:ITs w v O)(h':ITs w u O)(b0:O.length<=1048576)(hr:∀j,j<O.length->TvS (O.getD j qA)):
 Cl 10 #[v,u] w λe w'=>e=.returned (.bool true)/\Bl w w':=by
 obtain⟨a,cap,rfl,hc⟩:=h;obtain⟨a',b7,rfl,a7⟩:=h';have HR:=ay hr;obtain⟨n,hn⟩:=Ex O.length;rw[<-hn]at hc a7 b0 HR ⊢;have HC:=ay hc;have b1:=ay a7;clear hc a7 hn hr;have b8:((n:Int) != (n:Int))=false:=Ss;go_enter Tryz.func10,Tryz.ntmps10;go_wp2;go_loopw [5] (λt wr=>∃j:Nat,j<=n/\t=ai j/\Hh (Bl w wr)) (λt _=>n-(intOf t).toNat);exact⟨0,nZ _,rfl,ay (bJ _ _)⟩;obtain⟨j,hj,rfl,hB⟩:=hrel;by_cases a8:j<n
 ·have i1:(j:Int)<(n:Int):=Oo;rcases HC.o with h0|⟨b,o,rfl,hrel⟩;omega;rcases b1.o with h0|⟨U,V,rfl,K⟩;omega;obtain⟨v0,v1,v2,c0,c1,c2,M⟩:=(hrel j a8).below hB.o;obtain⟨u0,u1,u2,d0,d1,d2,I⟩:=(K j a8).below hB.o;have a6:=HR.o j a8;have HW:Hh (∀W,(W.cell? (az b (o+j*3))=some v0/\W.cell? (az b (o+j*3+1))=some v1/\W.cell? (az b (o+j*3+2))=some v2/\W.cell? (az U (V+j*3))=some u0/\W.cell? (az U (V+j*3+1))=some u1/\W.cell? (az U (V+j*3+2))=some u2/\Bl wr W)->
   Cl 33 #[.agg #[v0,v1,v2],.agg #[u0,u1,u2]] W λe w'=>e=.returned (.bool true)/\Bl W w'):=ay (λW hW=>
    qAA W v0 v1 v2 u0 u1 u2 _ _ _ (M.below hW.2.2.2.2.2.2) (I.below hW.2.2.2.2.2.2) a6.vs a6.rows a6.ws)
  have a9:Hh (∀W,(W.cell? (az b (o+j*3))=some v0/\W.cell? (az b (o+j*3+1))=some v1/\W.cell? (az b (o+j*3+2))=some v2/\W.cell? (az U (V+j*3))=some u0/\W.cell? (az U (V+j*3+1))=some u1/\W.cell? (az U (V+j*3+2))=some u2/\Bl wr W)->Bl wr W):=ay (λW hW=>hW.2.2.2.2.2.2);obtain⟨a0,k0,rfl,-⟩:=M.vs;obtain⟨a1,k1,rfl,-⟩:=M.rows;obtain⟨a2,k2,rfl,-⟩:=M.ws;obtain⟨a3,k3,rfl,-⟩:=I.vs;obtain⟨a4,k4,rfl,-⟩:=I.rows;obtain⟨a5,k5,rfl,-⟩:=I.ws;clear M I a6 hrel K;generalize (O.getD j qA).vs.length=n0 at *;generalize (O.getD j qA).rows.length=n1 at *;generalize (O.getD j qA).ws.length=n2 at *;go_wp2_with fail;go_region_held3 (λW=>W.cell? (az b (o+j*3))=some (.slice a0 n0 k0)/\W.cell? (az b (o+j*3+1))=some (.slice a1 n1 k1)/\W.cell? (az b (o+j*3+2))=some (.slice a2 n2 k2)/\W.cell? (az U (V+j*3))=some (.slice a3 n0 k3)/\W.cell? (az U (V+j*3+1))=some (.slice a4 n1 k4)/\W.cell? (az U (V+j*3+2))=some (.slice a5 n2 k5)/\Bl wr W)
   (first|exact K9 c0 c1 c2 d0 d1 d2 (bJ _ _).drew|exact K9 c0 c1 c2 d0 d1 d2 (bt (bJ _ _).drew hb)|(refine K9 c0 c1 c2 d0 d1 d2 (bt (a9.o _ ?_) hb);assumption))
   (first|(go_at_call 33;refine(HW.o _ ?_).mono ?_;assumption;rintro e w' ⟨rfl,hb⟩))
  go_wp2;go_roundw;exact⟨j+1,Oo,Gg,ay (bt hB.o (a9.o _ (by assumption)))⟩;exact Im
 obtain rfl:j=n:=Oo;have i1:¬((j:Int)<(j:Int)):=Oo;go_wp2;go_ret;exact⟨rfl,hB.o⟩
end Go.Proofs.YtcnfapnfmnolbaaGreat
