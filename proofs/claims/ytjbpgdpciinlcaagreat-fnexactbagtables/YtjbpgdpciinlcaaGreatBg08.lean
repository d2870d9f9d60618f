import Derived.Deep.RegionHeld3
import Derived.Test.YtjbpgdpciinlcaaGreatBg07
set_option maxHeartbeats 40000000
set_option maxRecDepth 1000000
namespace Go.Proofs.YtjbpgdpciinlcaaGreat
open Go.RowKit
variable {l:List (Int×Int)}{ls:List (List Int)}{B G c g0 g1 g2 j n o s:Nat}{f:Nat->Nat}{v v0 v1 v2 z0 z1 z2:Value}{W w w':World}
def zE(vs:List Int)(rows:List (List Int))(ws:List Int):Bool:=qP vs&&decide (rows.length<=10000)&&xy rows vs.length&&decide (ws.length=rows.length)
structure OwnT(w:World)(B:Nat)(g0 g1 g2:Nat)(vs:List Int)(rows:List (List Int))(ws:List Int)(f:Nat->Nat):Prop where
 vr:OwnI w g0 vs
 rw:Half w g1 rows.length rows.length rows f
 wt:OwnI w g2 ws
 lt0:B<=g0
 lt1:g0 < g1
 lt2:∀i,i < rows.length->f i < g2
 lt3:g1 < g2
theorem Half.move(h:Half w G n j ls f)(hb:w'.heap[G]?=w.heap[G]?)(hf:∀i,i < j->w'.heap[f i]?=w.heap[f i]?)(hs:w.heap.size<=w'.heap.size):Half w' G n j ls f:=
 ⟨fun i hi=>(bE (w:=w) (a:=⟨G,i,none⟩) hb).trans (h.cell i hi),fun i hi=>(World.frozen?_of_block (w:=w) (a:=⟨G,i,none⟩) hb).trans (h.free i hi),fun i hi=>(h.own i hi).move (hf i hi) hs,h.gt,h.up⟩
theorem Half.below(h:Half w G n j ls f)(hG:G < w.heap.size)(hb:Bl w w'):Half w' G n j ls f:=
 h.move (hb.block G hG) (fun i hi=>hb.block _ (h.own i hi).lt) hb.size
theorem Half.iss(h:Half w G n n ls f)(hn:n=ls.length):ISS w (.slice (some ⟨G,0,none⟩) ls.length ls.length) ls:=by
 subst hn;refine⟨_,_,rfl,Or.inr ⟨G,0,rfl,fun j hj=>⟨_,by rw[Nat.zero_add];exact h.cell j hj,?_⟩⟩⟩;rw[if_pos hj];exact(h.own j hj).is
theorem OwnI.set{g:Nat}{l:List Int}(h:OwnI w g l)(hc:g≠c):OwnI (w.setCell ⟨c,o,none⟩ v) g l:=
 h.move (bD _ _ _ _ hc) (by simp[World.setCell])
theorem Half.set(h:Half w G n j ls f)(hc:c < G):Half (w.setCell ⟨c,o,none⟩ v) G n j ls f:=
 h.move (bD _ _ _ _ (by show G≠c;omega)) (fun i hi=>bD _ _ _ _ (by have:=h.gt i hi;show f i≠c;omega)) (by simp[World.setCell])
theorem OwnT.set{vs ws:List Int}{rows:List (List Int)}(h:OwnT w B g0 g1 g2 vs rows ws f)(hc:c < g0):OwnT (w.setCell ⟨c,o,none⟩ v) B g0 g1 g2 vs rows ws f:=
 ⟨h.vr.set (by omega),h.rw.set (Nat.lt_trans hc h.lt1),h.wt.set (by have:=h.lt1;have:=h.lt3;omega),h.lt0,h.lt1,h.lt2,h.lt3⟩
theorem OwnT.below{vs ws:List Int}{rows:List (List Int)}(h:OwnT w B g0 g1 g2 vs rows ws f)(hb:Bl w w'):OwnT w' B g0 g1 g2 vs rows ws f:=
 ⟨h.vr.below hb,h.rw.below (Nat.lt_trans h.lt3 h.wt.lt) hb,h.wt.below hb,h.lt0,h.lt1,h.lt2,h.lt3⟩
structure IT(w:World)(v0 v1 v2:Value)(vs:List Int)(rows:List (List Int))(ws:List Int):Prop where
 vs:IS w v0 vs
 rows:ISS w v1 rows
 ws:IS w v2 ws
theorem IT.below{vs ws:List Int}{rows:List (List Int)}(h:IT w v0 v1 v2 vs rows ws)(hb:Bl w w'):IT w' v0 v1 v2 vs rows ws:=
 ⟨h.vs.below hb,h.rows.below hb,h.ws.below hb⟩
theorem OwnT.it{vs ws:List Int}{rows:List (List Int)}(h:OwnT w B g0 g1 g2 vs rows ws f):
 IT w (.slice (some ⟨g0,0,none⟩) vs.length vs.length) (.slice (some ⟨g1,0,none⟩) rows.length rows.length) (.slice (some ⟨g2,0,none⟩) ws.length ws.length) vs rows ws:=
 ⟨h.vr.is,h.rw.iss rfl,h.wt.is⟩
structure TB(w:World)(s:Nat)(v0 v1 v2 z0 z1 z2 o0 o1 o2:Value)(W:World):Prop where
 a0:W.cell? ⟨s,0,none⟩=some v0
 a1:W.cell? ⟨s,1,none⟩=some v1
 a2:W.cell? ⟨s,2,none⟩=some v2
 r0:W.cell? ⟨s+1,0,none⟩=some z0
 r1:W.cell? ⟨s+1,1,none⟩=some z1
 r2:W.cell? ⟨s+1,2,none⟩=some z2
 o0:W.cell? ⟨s+1+1,0,none⟩=some o0
 o1:W.cell? ⟨s+1+1,1,none⟩=some o1
 o2:W.cell? ⟨s+1+1,2,none⟩=some o2
 fr0:W.frozen? ⟨s+1,0,none⟩=false
 fr1:W.frozen? ⟨s+1,1,none⟩=false
 fr2:W.frozen? ⟨s+1,2,none⟩=false
 fo0:W.frozen? ⟨s+1+1,0,none⟩=false
 fo1:W.frozen? ⟨s+1+1,1,none⟩=false
 fo2:W.frozen? ⟨s+1+1,2,none⟩=false
 sz:s+3<=W.heap.size
 below:Below s w W
theorem TB.step{W':World}{o0 o1 o2:Value}(h:TB w s v0 v1 v2 z0 z1 z2 o0 o1 o2 W)(hb:Bl W W'):TB w s v0 v1 v2 z0 z1 z2 o0 o1 o2 W' where
 a0:=(hb.cell (p:=⟨s,0,none⟩) (by have:=h.sz;show s < _;omega)).trans h.a0
 a1:=(hb.cell (p:=⟨s,1,none⟩) (by have:=h.sz;show s < _;omega)).trans h.a1
 a2:=(hb.cell (p:=⟨s,2,none⟩) (by have:=h.sz;show s < _;omega)).trans h.a2
 r0:=(hb.cell (p:=⟨s+1,0,none⟩) (by have:=h.sz;show s+1 < _;omega)).trans h.r0
 r1:=(hb.cell (p:=⟨s+1,1,none⟩) (by have:=h.sz;show s+1 < _;omega)).trans h.r1
 r2:=(hb.cell (p:=⟨s+1,2,none⟩) (by have:=h.sz;show s+1 < _;omega)).trans h.r2
 o0:=(hb.cell (p:=⟨s+1+1,0,none⟩) (by have:=h.sz;show s+1+1 < _;omega)).trans h.o0
 o1:=(hb.cell (p:=⟨s+1+1,1,none⟩) (by have:=h.sz;show s+1+1 < _;omega)).trans h.o1
 o2:=(hb.cell (p:=⟨s+1+1,2,none⟩) (by have:=h.sz;show s+1+1 < _;omega)).trans h.o2
 fr0:=(hb.frozen (p:=⟨s+1,0,none⟩) (by have:=h.sz;show s+1 < _;omega)).trans h.fr0
 fr1:=(hb.frozen (p:=⟨s+1,1,none⟩) (by have:=h.sz;show s+1 < _;omega)).trans h.fr1
 fr2:=(hb.frozen (p:=⟨s+1,2,none⟩) (by have:=h.sz;show s+1 < _;omega)).trans h.fr2
 fo0:=(hb.frozen (p:=⟨s+1+1,0,none⟩) (by have:=h.sz;show s+1+1 < _;omega)).trans h.fo0
 fo1:=(hb.frozen (p:=⟨s+1+1,1,none⟩) (by have:=h.sz;show s+1+1 < _;omega)).trans h.fo1
 fo2:=(hb.frozen (p:=⟨s+1+1,2,none⟩) (by have:=h.sz;show s+1+1 < _;omega)).trans h.fo2
 sz:=bK h.sz hb.size
 below:=h.below.trans (hb.mono (by have:=h.sz;omega))
theorem TB.set0{o0 o1 o2:Value}(h:TB w s v0 v1 v2 z0 z1 z2 o0 o1 o2 W)(u:Value):TB w s v0 v1 v2 z0 z1 z2 u o1 o2 (W.setCell ⟨s+1+1,0,none⟩ u) where
 a0:=(bC _ _ _ _ (by intro e;simp only[Addr.mk.injEq]at e;omega)).trans h.a0
 a1:=(bC _ _ _ _ (by intro e;simp only[Addr.mk.injEq]at e;omega)).trans h.a1
 a2:=(bC _ _ _ _ (by intro e;simp only[Addr.mk.injEq]at e;omega)).trans h.a2
 r0:=(bC _ _ _ _ (by intro e;simp only[Addr.mk.injEq]at e;omega)).trans h.r0
 r1:=(bC _ _ _ _ (by intro e;simp only[Addr.mk.injEq]at e;omega)).trans h.r1
 r2:=(bC _ _ _ _ (by intro e;simp only[Addr.mk.injEq]at e;omega)).trans h.r2
 o0:=bF _ _ _ h.o0
 o1:=(bC _ _ _ _ (by intro e;simp only[Addr.mk.injEq]at e;omega)).trans h.o1
 o2:=(bC _ _ _ _ (by intro e;simp only[Addr.mk.injEq]at e;omega)).trans h.o2
 fr0:=(fS _ _ _ _).trans h.fr0
 fr1:=(fS _ _ _ _).trans h.fr1
 fr2:=(fS _ _ _ _).trans h.fr2
 fo0:=(fS _ _ _ _).trans h.fo0
 fo1:=(fS _ _ _ _).trans h.fo1
 fo2:=(fS _ _ _ _).trans h.fo2
 sz:=by have:=h.sz;simpa[World.setCell]using this
 below:=h.below.setCell (by show s<=s+1+1;omega) _
theorem TB.set1{o0 o1 o2:Value}(h:TB w s v0 v1 v2 z0 z1 z2 o0 o1 o2 W)(u:Value):TB w s v0 v1 v2 z0 z1 z2 o0 u o2 (W.setCell ⟨s+1+1,1,none⟩ u) where
 a0:=(bC _ _ _ _ (by intro e;simp only[Addr.mk.injEq]at e;omega)).trans h.a0
 a1:=(bC _ _ _ _ (by intro e;simp only[Addr.mk.injEq]at e;omega)).trans h.a1
 a2:=(bC _ _ _ _ (by intro e;simp only[Addr.mk.injEq]at e;omega)).trans h.a2
 r0:=(bC _ _ _ _ (by intro e;simp only[Addr.mk.injEq]at e;omega)).trans h.r0
 r1:=(bC _ _ _ _ (by intro e;simp only[Addr.mk.injEq]at e;omega)).trans h.r1
 r2:=(bC _ _ _ _ (by intro e;simp only[Addr.mk.injEq]at e;omega)).trans h.r2
 o0:=(bC _ _ _ _ (by intro e;simp only[Addr.mk.injEq]at e;omega)).trans h.o0
 o1:=bF _ _ _ h.o1
 o2:=(bC _ _ _ _ (by intro e;simp only[Addr.mk.injEq]at e;omega)).trans h.o2
 fr0:=(fS _ _ _ _).trans h.fr0
 fr1:=(fS _ _ _ _).trans h.fr1
 fr2:=(fS _ _ _ _).trans h.fr2
 fo0:=(fS _ _ _ _).trans h.fo0
 fo1:=(fS _ _ _ _).trans h.fo1
 fo2:=(fS _ _ _ _).trans h.fo2
 sz:=by have:=h.sz;simpa[World.setCell]using this
 below:=h.below.setCell (by show s<=s+1+1;omega) _
theorem TB.start(w:World)(t t' t'':TypeId)(v0 v1 v2 z0 z1 z2 o0 o1 o2:Value):TB w w.heap.size v0 v1 v2 z0 z1 z2 o0 o1 o2 (((w.alloc (.cells #[v0,v1,v2] t)).alloc (.cells #[z0,z1,z2] t')).alloc (.cells #[o0,o1,o2] t'')) where
 a0:=by simp[go_sem]
 a1:=by simp[go_sem]
 a2:=by simp[go_sem]
 r0:=by simp[go_sem]
 r1:=by simp[go_sem]
 r2:=by simp[go_sem]
 o0:=by simp[go_sem]
 o1:=by simp[go_sem]
 o2:=by simp[go_sem]
 fr0:=by simp[go_sem]
 fr1:=by simp[go_sem]
 fr2:=by simp[go_sem]
 fo0:=by simp[go_sem]
 fo1:=by simp[go_sem]
 fo2:=by simp[go_sem]
 sz:=by simp
 below:=(((bI _ _).alloc (nR _) _).alloc (by simp) _).alloc (by simp;omega) _
theorem Yt(w:World)(v0 v1 v2:Value)(vs:List Int)(rows:List (List Int))(ws:List Int)(h:IT w v0 v1 v2 vs rows ws)(hv:vs.length<=1099511627776)(hr:qQ rows)(hw:ws.length<=1099511627776):
 Cl 24 #[.agg #[v0,v1,v2]] w fun e w'=>∃g0 g1 g2 f,e=.returned (.agg #[.slice (some ⟨g0,0,none⟩) vs.length vs.length,.slice (some ⟨g1,0,none⟩) rows.length rows.length,.slice (some ⟨g2,0,none⟩) ws.length ws.length])/\OwnT w' w.heap.size g0 g1 g2 vs rows ws f/\Bl w w':=by
 have H0:=hid h.vs;have H1:=hid h.rows;have H2:=hid h.ws;have HR:=hid hr;obtain⟨a0,k0,rfl,-⟩:=h.vs;obtain⟨a1,k1,rfl,-⟩:=h.rows;obtain⟨a2,k2,rfl,-⟩:=h.ws;clear h hr;have HT0:=hid (TB.start w 48 53 53 (.slice a0 vs.length k0) (.slice a1 rows.length k1) (.slice a2 ws.length k2) (.slice none 0 0) (.slice none 0 0) (.slice none 0 0) (.slice none 0 0) (.slice none 0 0) (.slice none 0 0));go_enter Tryz.func24,Tryz.ntmps24
 go_wp2_with fail
 refine(xp _ _ vs (H0.out.below HT0.out.below) hv).mono ?_;rintro e w2 ⟨rfl,ho0,hb0⟩;have HT1:=hid (HT0.out.step hb0);have y1:=HT1.out.a1;have y2:=HT1.out.o0;have y3:=HT1.out.fo0;have HO0:Hid (OwnI w2 (w.heap.size+1+1+1) vs):=hid (by simpa using ho0);clear ho0 hb0;go_wp2_with fail
 have HT2:=hid (HT1.out.set0 (.slice (some ⟨w.heap.size+1+1+1,0,none⟩) vs.length vs.length));refine(jy _ _ rows (H1.out.below HT2.out.below) HR.out).mono ?_;rintro e w3 ⟨rfl,⟨f,ho1⟩,hlt1,hb1⟩;have HT3:=hid (HT2.out.step hb1);have x1:=HT3.out.a2;have x2:=HT3.out.o1;have x3:=HT3.out.fo1;have HO1:Hid (OwnI w3 (w.heap.size+1+1+1) vs):=hid ((HO0.out.set (by omega)).below hb1)
 have hg1:w.heap.size+1+1+1 < (w2.setCell ⟨w.heap.size+1+1,0,none⟩ (.slice (some ⟨w.heap.size+1+1+1,0,none⟩) vs.length vs.length)).heap.size:=by
  have:=HO0.out.lt;simpa[World.setCell]using this
 generalize (w2.setCell ⟨w.heap.size+1+1,0,none⟩ (.slice (some ⟨w.heap.size+1+1+1,0,none⟩) vs.length vs.length)).heap.size=g1 at *;have HO2:=hid ho1;have HL1:=hid hlt1;clear ho1 hb1 y1 y2 y3 HO0 hlt1;go_wp2_with fail
 have HT4:=hid (HT3.out.set1 (.slice (some ⟨g1,0,none⟩) rows.length rows.length));refine(xp _ _ ws (H2.out.below HT4.out.below) hw).mono ?_;rintro e w4 ⟨rfl,ho3,hb3⟩;have HT5:=hid (HT4.out.step hb3);have z1:=HT5.out.o0;have z2:=HT5.out.o1;have z3:=HT5.out.o2;have z4:=HT5.out.fo2;have z5:=HT5.out.r0;have z6:=HT5.out.r1;have z7:=HT5.out.r2;have z8:=HT5.out.fr0;have z9:=HT5.out.fr1;have z10:=HT5.out.fr2;have hsz:(w3.setCell ⟨w.heap.size+1+1,1,none⟩ (.slice (some ⟨g1,0,none⟩) rows.length rows.length)).heap.size=w3.heap.size:=by simp[World.setCell]
 have HF:Hid (OwnT w4 w.heap.size (w.heap.size+1+1+1) g1 (w3.setCell ⟨w.heap.size+1+1,1,none⟩ (.slice (some ⟨g1,0,none⟩) rows.length rows.length)).heap.size vs rows ws f):=hid
  ⟨(HO1.out.set (by omega)).below hb3,(HO2.out.set (by omega)).below (by rw[hsz];exact HL1.out) hb3,ho3,by omega,hg1,fun i hi=>by rw[hsz];exact(HO2.out.own i hi).lt,by rw[hsz];exact HL1.out⟩
 generalize (w3.setCell ⟨w.heap.size+1+1,1,none⟩ (.slice (some ⟨g1,0,none⟩) rows.length rows.length)).heap.size=g2 at *;clear ho3 hb3 hsz x1 x2 x3 HO1 HO2 HL1;go_wp2
 refine bodyPost_ret (v:=.agg #[.slice (some ⟨w.heap.size+1+1+1,0,none⟩) vs.length vs.length,.slice (some ⟨g1,0,none⟩) rows.length rows.length,.slice (some ⟨g2,0,none⟩) ws.length ws.length]) (by simp[results,Tryz.results24,go_sem,z5,z6,z7]) rfl
  ⟨_,_,_,f,rfl,((((HF.out.set (by omega)).set (by omega)).set (by omega)).set (by omega)),(((HT5.out.below.setCell (by show w.heap.size<=w.heap.size+1+1;omega) _).setCell (by show w.heap.size<=w.heap.size+1;omega) _).setCell (by show w.heap.size<=w.heap.size+1;omega) _).setCell (by show w.heap.size<=w.heap.size+1;omega) _⟩
def szT(vs:List Int)(rows:List (List Int))(ws:List Int)(left:Int):Int:=if left < vs.length+tot rows rows.length+ws.length then -1 else left - (vs.length+tot rows rows.length+ws.length)
theorem Yu(w:World)(v0 v1 v2:Value)(vs:List Int)(rows:List (List Int))(ws:List Int)(left:Int)(h:IT w v0 v1 v2 vs rows ws)(hv:vs.length<=9223372036854775807)(hr:Fits rows)(hw:ws.length<=9223372036854775807)(h1:0<=left)(h2:left<=1048576):
 Cl 15 #[.agg #[v0,v1,v2],.int .i64 left] w fun e w'=>e=.returned (.int .i64 (szT vs rows ws left))/\Bl w w':=by
 have H1:=hid h.rows;have HR:=hid hr;obtain⟨a0,k0,rfl,-⟩:=h.vs;obtain⟨a1,k1,rfl,-⟩:=h.rows;obtain⟨a2,k2,rfl,-⟩:=h.ws;obtain⟨res,hres⟩:∃r,r=szT vs rows ws left:=⟨_,rfl⟩;rw[<-hres];unfold szT at hres;have HB:Hid (Bl w (w.alloc (.cells #[.slice a0 vs.length k0,.slice a1 rows.length k1,.slice a2 ws.length k2] 48))):=hid ((bI _ _).alloc (nR _) _);have K0:=hid (xq (w.alloc (.cells #[.slice a0 vs.length k0,.slice a1 rows.length k1,.slice a2 ws.length k2] 48)) a0 vs.length k0 left h1 h2 hv);clear h hr;by_cases c0:left < vs.length
 ·rw[if_pos c0]at K0;rw[if_pos (by omega)]at hres;have HE:=hid hres;clear hres;go_enter Tryz.func15,Tryz.ntmps15
  go_wp2_with (first|(go_at_call 17;refine K0.out.mono ?_;rintro e w' ⟨rfl,hw'⟩;subst w'))
  go_ret;exact⟨qO HE.out.symm,HB.out⟩
 rw[if_neg c0]at K0;have K1:=hid (jx (w.alloc (.cells #[.slice a0 vs.length k0,.slice a1 rows.length k1,.slice a2 ws.length k2] 48)) _ rows (left - vs.length) (H1.out.below HB.out) HR.out (by omega) (by omega));have n0:¬(left - (vs.length:Int) < 0):=by omega
 unfold Vi at K1;by_cases c1:left - vs.length < tot rows rows.length
 ·rw[if_pos c1]at K1;rw[if_pos (by omega)]at hres;have HE:=hid hres;clear hres;go_enter Tryz.func15,Tryz.ntmps15
  go_wp2_with (first|(go_at_call 17;refine K0.out.mono ?_;rintro e w' ⟨rfl,hw'⟩;subst w')|(go_at_call 16;refine K1.out.mono ?_;rintro e w' ⟨rfl,hw'⟩;subst w'))
  go_ret;exact⟨qO HE.out.symm,HB.out⟩
 rw[if_neg c1]at K1;have n1:¬(left - (vs.length:Int) - (tot rows rows.length:Int) < 0):=by omega
 have K2:=hid (xq (w.alloc (.cells #[.slice a0 vs.length k0,.slice a1 rows.length k1,.slice a2 ws.length k2] 48)) a2 ws.length k2 (left - vs.length - tot rows rows.length) (by omega) (by omega) hw);by_cases c2:left - vs.length - tot rows rows.length < ws.length
 ·rw[if_pos c2]at K2;rw[if_pos (by omega)]at hres;have HE:=hid hres;clear hres;go_enter Tryz.func15,Tryz.ntmps15
  go_wp2_with fail
  refine K0.out.mono ?_;rintro e w' ⟨rfl,hw'⟩;subst w';go_wp2_with fail
  refine K1.out.mono ?_;rintro e w' ⟨rfl,hw'⟩;subst w';go_wp2_with fail
  refine K2.out.mono ?_;rintro e w' ⟨rfl,hw'⟩;subst w';go_wp2;go_ret;exact⟨qO HE.out.symm,HB.out⟩
 ·rw[if_neg c2]at K2;rw[if_neg (by omega)]at hres;have HE:=hid (show res=left - vs.length - tot rows rows.length - ws.length by omega);have n2:¬(left - (vs.length:Int) - (tot rows rows.length:Int) - (ws.length:Int) < 0):=by omega
  clear hres;go_enter Tryz.func15,Tryz.ntmps15
  go_wp2_with fail
  refine K0.out.mono ?_;rintro e w' ⟨rfl,hw'⟩;subst w';go_wp2_with fail
  refine K1.out.mono ?_;rintro e w' ⟨rfl,hw'⟩;subst w';go_wp2_with fail
  refine K2.out.mono ?_;rintro e w' ⟨rfl,hw'⟩;subst w';go_wp2;go_ret;exact⟨qO HE.out.symm,HB.out⟩
theorem IR.below(h:IR w v l)(hb:Bl w w'):IR w' v l:=by
 obtain⟨a,cap,rfl,h⟩:=h;refine⟨a,cap,rfl,?_⟩;rcases h with h|⟨b,o,rfl,h⟩
 ·exact Or.inl h
 ·exact Or.inr ⟨b,o,rfl,fun j hj=>⟨(hb.cell (p:=⟨b,o+j*2,none⟩) (bL w _ (h j hj).1)).trans (h j hj).1,(hb.cell (p:=⟨b,o+j*2+1,none⟩) (bL w _ (h j hj).2)).trans (h j hj).2⟩⟩
theorem ZC{w5:World}{b b' o':Nat}{u0 u1:Value}(h0:w5.cell? ⟨b,o,none⟩=some v0)(h1:w5.cell? ⟨b,o+1,none⟩=some v1)(k0:w5.cell? ⟨b',o',none⟩=some u0)(k1:w5.cell? ⟨b',o'+1,none⟩=some u1)(hb:Bl w5 W):
 W.cell? ⟨b,o,none⟩=some v0/\W.cell? ⟨b,o+1,none⟩=some v1/\W.cell? ⟨b',o',none⟩=some u0/\W.cell? ⟨b',o'+1,none⟩=some u1/\Bl w5 W:=
 ⟨(hb.cell (p:=⟨b,o,none⟩) (bL w5 _ h0)).trans h0,(hb.cell (p:=⟨b,o+1,none⟩) (bL w5 _ h1)).trans h1,(hb.cell (p:=⟨b',o',none⟩) (bL w5 _ k0)).trans k0,(hb.cell (p:=⟨b',o'+1,none⟩) (bL w5 _ k1)).trans k1,hb⟩
theorem JT(w:World)(v u:Value)(l:List (Int×Int))(h:IR w v l)(h':IR w u l)(hl:l.length<=1099511627776):
 Cl 36 #[v,u] w fun e w'=>e=.returned (.bool true)/\Bl w w':=by
 obtain⟨a,cap,rfl,hc⟩:=h;obtain⟨a',cap',rfl,hc'⟩:=h';obtain⟨n,hn⟩:∃n,n=l.length:=⟨_,rfl⟩;rw[<-hn]at hc hc' hl ⊢;have HC:=hid hc;have HC':=hid hc';clear hc hc' hn;have hne:((n:Int) != (n:Int))=false:=by simp
 go_enter Tryz.func36,Tryz.ntmps36
 go_wp2;go_loopw [5] (fun t wr=>∃j:Nat,j<=n/\t=.int .i64 j/\Hid (Bl w wr)) (fun t _=>n - (intOf t).toNat)
 case atStart=>exact⟨0,nZ _,rfl,hid (bI _ _)⟩
 case round=>
  obtain⟨j,hj,rfl,hB⟩:=hrel;by_cases hjn:j < n
  ·have i1:(j:Int) < (n:Int):=by omega
   rcases HC.out with h0|⟨b,o,rfl,hrel⟩
   ·omega
   ·rcases HC'.out with h0|⟨b',o',rfl,hrel'⟩
    ·omega
    ·obtain⟨e0,e1⟩:=hrel j hjn;obtain⟨f0,f1⟩:=hrel' j hjn;have c0:=(hB.out.cell (p:=⟨b,o+j*2,none⟩) (bL w _ e0)).trans e0;have c1:=(hB.out.cell (p:=⟨b,o+j*2+1,none⟩) (bL w _ e1)).trans e1;have d0:=(hB.out.cell (p:=⟨b',o'+j*2,none⟩) (bL w _ f0)).trans f0;have d1:=(hB.out.cell (p:=⟨b',o'+j*2+1,none⟩) (bL w _ f1)).trans f1;clear hrel hrel' e0 e1 f0 f1;generalize (l.getD j (0,0)).1=x at *;generalize (l.getD j (0,0)).2=y at *;have HBW:Hid (∀W,(W.cell? ⟨b,o+j*2,none⟩=some (.int .i64 x)/\W.cell? ⟨b,o+j*2+1,none⟩=some (.int .i64 y)/\W.cell? ⟨b',o'+j*2,none⟩=some (.int .i64 x)/\W.cell? ⟨b',o'+j*2+1,none⟩=some (.int .i64 y)/\Bl wr W)->Bl wr W):=hid (fun W hW=>hW.2.2.2.2);go_wp2_with fail
     go_region_held3 (fun W=>W.cell? ⟨b,o+j*2,none⟩=some (.int .i64 x)/\W.cell? ⟨b,o+j*2+1,none⟩=some (.int .i64 y)/\W.cell? ⟨b',o'+j*2,none⟩=some (.int .i64 x)/\W.cell? ⟨b',o'+j*2+1,none⟩=some (.int .i64 y)/\Bl wr W)
      (first|exact ZC c0 c1 d0 d1 (bI _ _).drew|exact ZC c0 c1 d0 d1 (bt (bI _ _).drew hb)|(refine ZC c0 c1 d0 d1 (bt (HBW.out _ ?_) hb);assumption))
      (first|(go_at_call 37;refine(Zv _ _ _).mono ?_;rintro e w' ⟨rfl,hb⟩))
     go_wp2;go_roundw
     case rel=>exact⟨j+1,by omega,by go_num,hid (bt hB.out (HBW.out _ (by assumption)))⟩
     case measure=>simp[intOf];omega
  ·obtain rfl:j=n:=by omega
   have i1:¬((j:Int) < (j:Int)):=by omega
   go_wp2;go_ret;exact⟨rfl,hB.out⟩
theorem qC3(l:List (Int×Int))(j:Nat)(h:j < l.length):(rcs l)[j*2]?=some (.int .i64 (l.getD j (0,0)).1)/\(rcs l)[j*2+1]?=some (.int .i64 (l.getD j (0,0)).2):=by
 unfold rcs;induction l generalizing j with
 |nil=>simp at h
 |cons a l ih=>
  rw[List.flatMap_cons];cases j with
  |zero=>simp
  |succ j=>
   have:=ih j (by simpa using h);rw[bN (by simp;omega),bN (by simp;omega)];simp only[List.length_cons,List.length_nil];rw[show(j+1)*2 - (0+1+1)=j*2 by omega,show(j+1)*2+1 - (0+1+1)=j*2+1 by omega];simpa using this
theorem kW(h:w.ownsRow B 37 2 v l.length (rcs l)):IR w v l:=by
 rcases h.2 with ⟨rfl,h2⟩|⟨g,cap,cur,rfl,hb',hc,hr⟩
 ·exact⟨none,0,by rw[h2],Or.inl h2⟩
 ·refine⟨_,cap,rfl,Or.inr ⟨g,0,rfl,fun j hj=>?_⟩⟩;rw[Nat.zero_add,h.cellAt (j*2) (by omega),h.cellAt (j*2+1) (by omega)];exact qC3 l j hj
theorem QD(vs:List Int)(rows:List (List Int))(ws:List Int):
 (qP vs=false/\zE vs rows ws=false)∨(qP vs=true/\10000 < rows.length/\zE vs rows ws=false)∨(qP vs=true/\rows.length<=10000/\xy rows vs.length=false/\zE vs rows ws=false)∨
 (qP vs=true/\rows.length<=10000/\xy rows vs.length=true/\zE vs rows ws=decide (ws.length=rows.length)):=by
 unfold zE;cases h1:qP vs
 ·left;simp
 ·right;by_cases h2:10000 < rows.length
  ·left;simp;omega
  ·right;have h3:decide (rows.length<=10000)=true:=by simp;omega
   cases h4:xy rows vs.length
   ·left;simp;omega
   ·right;simp[h3];omega
theorem Xq(a b:Nat):decide ((a:Int)=(b:Int))=decide (a=b):=by
 by_cases h:a=b
 ·simp[h]
 ·rw[decide_eq_false h,decide_eq_false (by omega)]
theorem kF(w:World)(v0 v1 v2:Value)(vs:List Int)(rows:List (List Int))(ws:List Int)(h:IT w v0 v1 v2 vs rows ws)(hv:vs.length<=1099511627776)(hr:qQ rows):
 Cl 51 #[.agg #[v0,v1,v2]] w fun e w'=>e=.returned (.bool (zE vs rows ws))/\Bl w w':=by
 have HB:Hid (Bl w (w.alloc (.cells #[v0,v1,v2] 53))):=hid ((bI _ _).alloc (nR _) _);have K0:=hid (zP (w.alloc (.cells #[v0,v1,v2] 53)) v0 vs (h.vs.below HB.out) hv);have K1:=hid (kG (w.alloc (.cells #[v0,v1,v2] 53)) v1 rows vs.length (h.rows.below HB.out) hr);have hr1:=hr.1;obtain⟨a0,k0,rfl,-⟩:=h.vs;obtain⟨a1,k1,rfl,-⟩:=h.rows;obtain⟨a2,k2,rfl,-⟩:=h.ws;have hcs:=QD vs rows ws;clear h hr;generalize zE vs rows ws=res at *;rcases hcs with ⟨c0,c1⟩|⟨c0,c1,c2⟩|⟨c0,c1,c2,c3⟩|⟨c0,c1,c2,c3⟩
 ·rw[c0]at K0;clear K1;subst c1;generalize vs.length=n0 at *;generalize rows.length=n1 at *;go_enter Tryz.func51,Tryz.ntmps51
  go_wp2_with (first|(go_at_call 75;refine K0.out.mono ?_;rintro e w' ⟨rfl,hw'⟩;subst w'))
  go_ret;exact⟨rfl,HB.out⟩
 ·rw[c0]at K0;clear K1;subst c2;generalize vs.length=n0 at *;generalize rows.length=n1 at *;have i1:¬((n1:Int)<=10000):=by omega
  go_enter Tryz.func51,Tryz.ntmps51
  go_wp2_with (first|(go_at_call 75;refine K0.out.mono ?_;rintro e w' ⟨rfl,hw'⟩;subst w'))
  go_ret;exact⟨rfl,HB.out⟩
 ·rw[c0]at K0;rw[c2]at K1;subst c3;generalize vs.length=n0 at *;generalize rows.length=n1 at *;have i1:(n1:Int)<=10000:=by omega
  go_enter Tryz.func51,Tryz.ntmps51
  go_wp2_with (first|(go_at_call 75;refine K0.out.mono ?_;rintro e w' ⟨rfl,hw'⟩;subst w')|(go_at_call 76;refine K1.out.mono ?_;rintro e w' ⟨rfl,hw'⟩;subst w'))
  go_ret;exact⟨rfl,HB.out⟩
 ·rw[c0]at K0;rw[c2]at K1;rw[<-Xq]at c3;have HE:=hid c3;clear c3;generalize vs.length=n0 at *;generalize rows.length=n1 at *;generalize ws.length=n2 at *;have i1:(n1:Int)<=10000:=by omega
  go_enter Tryz.func51,Tryz.ntmps51
  go_wp2_with (first|(go_at_call 75;refine K0.out.mono ?_;rintro e w' ⟨rfl,hw'⟩;subst w')|(go_at_call 76;refine K1.out.mono ?_;rintro e w' ⟨rfl,hw'⟩;subst w'))
  go_ret;exact⟨qG (by rw[HE.out];rfl),HB.out⟩
theorem Xr(w:World)(v0 v1 v2:Value)(vs:List Int)(rows:List (List Int))(ws:List Int)(h:IT w v0 v1 v2 vs rows ws)(hv:vs.length<=1099511627776)(hr:qQ rows):
 Cl 43 #[.agg #[v0,v1,v2]] w fun e w'=>e=.returned (.bool (zE vs rows ws))/\Bl w w':=by
 have HB:Hid (Bl w (w.alloc (.cells #[v0,v1,v2] 53))):=hid ((bI _ _).alloc (nR _) _);have K0:=hid (Ys (w.alloc (.cells #[v0,v1,v2] 53)) v0 vs (h.vs.below HB.out) hv);have K1:=hid (kL (w.alloc (.cells #[v0,v1,v2] 53)) v1 rows vs.length (h.rows.below HB.out) hr);have hr1:=hr.1;obtain⟨a0,k0,rfl,-⟩:=h.vs;obtain⟨a1,k1,rfl,-⟩:=h.rows;obtain⟨a2,k2,rfl,-⟩:=h.ws;have hcs:=QD vs rows ws;clear h hr;generalize zE vs rows ws=res at *;rcases hcs with ⟨c0,c1⟩|⟨c0,c1,c2⟩|⟨c0,c1,c2,c3⟩|⟨c0,c1,c2,c3⟩
 ·rw[c0]at K0;clear K1;subst c1;generalize vs.length=n0 at *;generalize rows.length=n1 at *;go_enter Tryz.func43,Tryz.ntmps43
  go_wp2_with (first|(go_at_call 63;refine K0.out.mono ?_;rintro e w' ⟨rfl,hw'⟩;subst w'))
  go_ret;exact⟨rfl,HB.out⟩
 ·rw[c0]at K0;clear K1;subst c2;generalize vs.length=n0 at *;generalize rows.length=n1 at *;have i1:¬((n1:Int)<=10000):=by omega
  go_enter Tryz.func43,Tryz.ntmps43
  go_wp2_with (first|(go_at_call 63;refine K0.out.mono ?_;rintro e w' ⟨rfl,hw'⟩;subst w'))
  go_ret;exact⟨rfl,HB.out⟩
 ·rw[c0]at K0;rw[c2]at K1;subst c3;generalize vs.length=n0 at *;generalize rows.length=n1 at *;have i1:(n1:Int)<=10000:=by omega
  go_enter Tryz.func43,Tryz.ntmps43
  go_wp2_with (first|(go_at_call 63;refine K0.out.mono ?_;rintro e w' ⟨rfl,hw'⟩;subst w')|(go_at_call 64;refine K1.out.mono ?_;rintro e w' ⟨rfl,q',hw'⟩;subst w'))
  go_ret;exact⟨rfl,below_drewN HB.out _⟩
 ·rw[c0]at K0;rw[c2]at K1;rw[<-Xq]at c3;have HE:=hid c3;clear c3;generalize vs.length=n0 at *;generalize rows.length=n1 at *;generalize ws.length=n2 at *;have i1:(n1:Int)<=10000:=by omega
  go_enter Tryz.func43,Tryz.ntmps43
  go_wp2_with (first|(go_at_call 63;refine K0.out.mono ?_;rintro e w' ⟨rfl,hw'⟩;subst w')|(go_at_call 64;refine K1.out.mono ?_;rintro e w' ⟨rfl,q',hw'⟩;subst w'))
  go_ret;exact⟨qG (by rw[HE.out];rfl),below_drewN HB.out _⟩
theorem Un(w:World)(v0 v1 v2 u0 u1 u2:Value)(vs:List Int)(rows:List (List Int))(ws:List Int)(h:IT w v0 v1 v2 vs rows ws)(h':IT w u0 u1 u2 vs rows ws)(hv:vs.length<=1099511627776)(hr:qQ rows)(hw:ws.length<=1099511627776):
 Cl 33 #[.agg #[v0,v1,v2],.agg #[u0,u1,u2]] w fun e w'=>e=.returned (.bool true)/\Bl w w':=by
 have HB:Hid (Bl w ((w.alloc (.cells #[v0,v1,v2] 53)).alloc (.cells #[u0,u1,u2] 53))):=hid (((bI _ _).alloc (nR _) _).alloc (by simp) _);have H:=hid h;have H':=hid h';have HR:=hid hr;obtain⟨a0,k0,rfl,-⟩:=h.vs;obtain⟨a1,k1,rfl,-⟩:=h.rows;obtain⟨a2,k2,rfl,-⟩:=h.ws;obtain⟨b0,l0,rfl,-⟩:=h'.vs;obtain⟨b1,l1,rfl,-⟩:=h'.rows;obtain⟨b2,l2,rfl,-⟩:=h'.ws;clear h h' hr;go_enter Tryz.func33,Tryz.ntmps33
 go_wp2_with fail
 refine(uK _ _ _ vs (H.out.vs.below HB.out) (H'.out.vs.below HB.out) hv).mono ?_;rintro e w1 ⟨rfl,q1,hq1⟩;subst w1;go_wp2_with fail
 refine(jz _ _ _ rows (H.out.rows.below (below_drewN HB.out _)) (H'.out.rows.below (below_drewN HB.out _)) HR.out).mono ?_;rintro e w1 ⟨rfl,q2,hq1⟩;subst w1;go_wp2_with fail
 refine(uK _ _ _ ws (H.out.ws.below (below_drewN HB.out _)) (H'.out.ws.below (below_drewN HB.out _)) hw).mono ?_;rintro e w1 ⟨rfl,q3,hq1⟩;subst w1;go_wp2;go_ret;exact⟨rfl,by repeat' first|exact HB.out|refine below_drewN ?_ _⟩
end Go.Proofs.YtjbpgdpciinlcaaGreat
