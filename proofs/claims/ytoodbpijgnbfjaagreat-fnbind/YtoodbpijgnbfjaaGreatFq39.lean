import Derived.Lib.SliceRun
import Derived.Test.YtoodbpijgnbfjaaGreatFq22
import Derived.Test.YtoodbpijgnbfjaaGreatFq38
namespace Go.Proofs.YtoodbpijgnbfjaaGreat
open Go.RowKit Meet

theorem Tryz.infoTriP : (Tryz.prog.info? 96).map (fun i => (i.zero, i.size, i.bytes)) = some (some (.pointer none), 1, 8) := by kernel_rfl
theorem own_news1 {W : World} {B n g c : Nat} {e : TypeId} {xs : List Value} (h : W.ownsRow B e 1 (.slice (some ⟨g, 0, none⟩) n c) n xs) : ∀ j u, xs[j]? = some u → W.cell? ((⟨g, 0, none⟩ : Addr).add j) = some u := h.cells rfl

set_option maxHeartbeats 1000000 in
set_option maxRecDepth 1000000 in
theorem cloneTr_calls (w : World) (B g cap n : Nat) (xs : List Value) (h : w.ownsRow B 96 1 (.slice (some ⟨g, 0, none⟩) n cap) n xs) (h0 : 0 < n) (hl : n ≤ 100000) (hone : ∀ u ∈ xs, u.oneCell' = true) :
    Calls Tryz.prog 116 #[.slice (some ⟨g, 0, none⟩) n cap] w fun e w' => ∃ g' c', e = .returned (.slice (some ⟨g', 0, none⟩) n c') ∧ w'.ownsRow w.heap.size 96 1 (.slice (some ⟨g', 0, none⟩) n c') n xs ∧ Below w.heap.size w w' := by
  obtain ⟨i0, hi, hz0, hz1, hz2⟩ := info_parts Tryz.infoTriP
  have hq : ∀ w : World, (binOp .eql 91 (.slice (some ⟨g, 0, none⟩) n cap) (.slice none 0 0)).run Tryz.prog w = .ok (.bool false) w := fun w => Lib.run_eql_slice_nil w 91 96 (some ⟨g, 0, none⟩) n cap 0 0 Tryz.underlying91
  have hown : (w.alloc (.cells #[] 96)).ownsRow w.heap.size 96 1 (.slice (some ⟨w.heap.size, 0, none⟩) 0 0) 0 [] := World.ownsRow_made w #[] 0 (Nat.le_refl _) (by decide) rfl
  have hbA : Below w.heap.size w (w.alloc (.cells #[] 96)) := (Below.refl _ _).alloc (Nat.le_refl _) _
  have HNW := hid (own_news1 (own_below h hbA))
  have HL := hid h.1
  clear h
  go_enter Tryz.func116, Tryz.ntmps116
  go_wp2_with (first | (at_builtin; refine wpList_append_lies _ rfl _ _ 91 rfl w.heap.size 96 i0 (.pointer none) 1 8 Tryz.underlying91 hi hz0 hz1 hz2 rfl (by decide) (.slice (some ⟨w.heap.size, 0, none⟩) 0 0) 0 [] rfl hown ⟨g, 0, none⟩ n cap xs rfl HL.out HNW.out hone (by omega) (by unfold maxLen; omega) (by omega) (by simp) _ rfl ?_; intro g3 cp3 w3 hown3 hgrow3 hat3 hlt3) | fail)
  go_ret
  refine ⟨g3, cp3, rfl, ?_, hbA.grown hgrow3 (by simp) (fun k hk => (hown.lt k hk).1)⟩
  simpa using hown3


theorem bl_alloc {A X : World} (h : Below A.heap.size A X) (o : Obj) : Below A.heap.size A (X.alloc o) := h.alloc h.size o
theorem bl_drew {A X : World} (h : Below A.heap.size A X) : Below A.heap.size A X.drew := h.drew
theorem lit_news {X W : World} {v : Value} {t : TypeId} {k : Nat} (hk : k = X.heap.size) (hb : Below (X.alloc (.cells #[v] t)).heap.size (X.alloc (.cells #[v] t)) W) : ∀ j u, [v][j]? = some u → W.cell? ((⟨k, 0, none⟩ : Addr).add j) = some u := fun j u hj => by
  subst hk
  have h1 := new1_cell X v t j u hj
  exact (hb.cell (World.block_lt_of_cell? _ _ h1)).trans h1

theorem own_shapeJ {w : World} {B n s : Nat} {e : TypeId} {v : Value} {xs : List Value} (h : w.ownsRow B e s v n xs) : ∃ a cap, v = .slice a n cap := by
  rcases h.2 with ⟨rfl, rfl⟩ | ⟨g, cap, cur, rfl, -⟩
  · exact ⟨_, _, rfl⟩
  · exact ⟨_, _, rfl⟩
def BrX (W : World) (k : Nat) (x y : Value) : Prop := W.heap[k]? = some (.cells #[x, y] 93 (0, 0))
theorem BrX.new (W : World) (x y : Value) : BrX (W.alloc (.cells #[x, y] 93)) W.heap.size x y := heap_alloc_new _ _
theorem BrX.lt {W : World} {k : Nat} {x y : Value} (h : BrX W k x y) : k < W.heap.size := lt_some h
theorem BrX.below {W W' : World} {k : Nat} {x y : Value} (h : BrX W k x y) (hb : Below W.heap.size W W') : BrX W' k x y := (hb.block k h.lt).trans h
theorem BrX.c0 {W : World} {k : Nat} {x y : Value} (h : BrX W k x y) : W.cell? ⟨k, 0, none⟩ = some x := by rw [cell_of_row _ _ _ _ _ _ h]; rfl
theorem BrX.c1 {W : World} {k : Nat} {x y : Value} (h : BrX W k x y) : W.cell? ⟨k, 1, none⟩ = some y := by rw [cell_of_row _ _ _ _ _ _ h]; rfl
theorem BrX.free {W : World} {k : Nat} {x y : Value} (h : BrX W k x y) (j : Nat) : W.frozen? ⟨k, j, none⟩ = false := by unfold World.frozen?; rw [show W.heap[k]? = _ from h]; simp
theorem BrX.set {W : World} {k : Nat} {x y : Value} (h : BrX W k x y) (u v : Value) : BrX ((W.setCell ⟨k, 0, none⟩ u).setCell ⟨k, 1, none⟩ v) k u v := by
  unfold BrX
  rw [heap_setCell_same _ _ _ _ _ _ (heap_setCell_same _ _ _ _ _ _ h)]
  rfl
theorem BrX.grown {W w3 : World} {k B s n : Nat} {x y u : Value} {e : TypeId} {xs : List Value} {o : Obj} (h : BrX W k x y) (hu : W.ownsRow B e s u n xs) (he : e ≠ 93) (hg : (W.alloc o).grownBy w3 u.ownBlock) : BrX w3 k x y := (kept_of hg h.lt (own_ne hu ⟨_, h⟩ he)).trans h
theorem own_keepB {W : World} {B s n k : Nat} {e : TypeId} {v x y u1 u2 : Value} {xs : List Value} (h : W.ownsRow B e s v n xs) (hx : BrX W k x y) (he : e ≠ 93) : ((W.setCell ⟨k, 0, none⟩ u1).setCell ⟨k, 1, none⟩ u2).ownsRow B e s v n xs :=
  own_move h fun g hg => by
    have hne : g ≠ k := fun e2 => own_ne h ⟨_, hx⟩ he (by rw [← e2]; exact hg.symm)
    rw [Below.heap_setCell _ _ _ _ (by exact hne), Below.heap_setCell _ _ _ _ (by exact hne)]
structure WiE (w : World) (p : List Int) (xv : Int) (nT : Nat) (bs : List Value) (k : Nat) (wc : World) (g c g' c' : Nat) : Prop where
  box : BrX wc k (.slice (some ⟨g, 0, none⟩) (p.length + 1) c) (.slice (some ⟨g', 0, none⟩) nT c')
  op : wc.ownsRow w.heap.size 3 1 (.slice (some ⟨g, 0, none⟩) (p.length + 1) c) (p.length + 1) ((p ++ [xv]).map (Value.int .i64))
  ob : wc.ownsRow w.heap.size 96 1 (.slice (some ⟨g', 0, none⟩) nT c') nT bs
  bel : Below w.heap.size w wc
  low : w.heap.size ≤ k
def updB (bs : List Value) (ts : List Int) (y : Nat → Nat) : Nat → List Value
  | 0 => bs
  | k + 1 => (updB bs ts y k).set (ts.getD k 0).toNat (.pointer (some ⟨y k, 0, none⟩))

end Go.Proofs.YtoodbpijgnbfjaaGreat

namespace Go.Proofs.YtoodbpijgnbfjaaGreat
open Go.RowKit Meet

theorem undrew {X Y : World} (h : Below X.drew.heap.size X.drew Y) : Below X.heap.size X Y := ⟨h.os, h.tape, h.output, h.size, h.block⟩
theorem litD {X Y : World} {v : Value} {t : TypeId} {k : Nat} (hk : k = X.heap.size) (h : Below (X.alloc (.cells #[v] t)).heap.size (X.alloc (.cells #[v] t)) Y) : ∀ W, Below Y.heap.size Y W → ∀ j u, [v][j]? = some u → W.cell? ((⟨k, 0, none⟩ : Addr).add j) = some u := fun _ hW => lit_news hk (bt h hW)
theorem boxD {X Y : World} {k : Nat} (hk : k = X.heap.size) (h : Below (X.alloc (.cells #[.slice none 0 0, .slice none 0 0] 93)).heap.size (X.alloc (.cells #[.slice none 0 0, .slice none 0 0] 93)) Y) : BrX Y k (.slice none 0 0) (.slice none 0 0) := by
  subst hk
  exact (BrX.new X _ _).below h
theorem grB {A X Y : World} {e : TypeId} {s n : Nat} {v : Value} {xs : List Value} (h : Below A.heap.size A X) (ho : X.ownsRow A.heap.size e s v n xs) (hg : X.grownBy Y v.ownBlock) : Below A.heap.size A Y := h.grown hg h.size fun k hk => (ho.lt k hk).1
theorem BrX.gr {X Y : World} {k B s n : Nat} {x y v : Value} {e : TypeId} {xs : List Value} (h : BrX X k x y) (ho : X.ownsRow B e s v n xs) (he : e ≠ 93) (hg : X.grownBy Y v.ownBlock) : BrX Y k x y := (hg.block k h.lt (own_ne ho ⟨_, h⟩ he)).trans h
theorem WiE.late {A X : World} {p : List Int} {xv : Int} {nT : Nat} {bs : List Value} {g c g' c' : Nat} (h1 : X.ownsRow A.heap.size 3 1 (.slice (some ⟨g, 0, none⟩) (p.length + 1) c) (p.length + 1) (p.map (Value.int .i64) ++ [.int .i64 xv])) (h2 : X.ownsRow A.heap.size 96 1 (.slice (some ⟨g', 0, none⟩) nT c') nT bs) (h3 : Below A.heap.size A X) :
    WiE A p xv nT bs X.heap.size (X.alloc (.cells #[.slice (some ⟨g, 0, none⟩) (p.length + 1) c, .slice (some ⟨g', 0, none⟩) nT c'] 93)) g c g' c' :=
  ⟨BrX.new X _ _, by rw [List.map_append]; exact h1.alloc _, h2.alloc _, bl_alloc h3 _, h3.size⟩
theorem WiE.early {A X : World} {p : List Int} {xv : Int} {nT k : Nat} {bs : List Value} {g c g' c' : Nat} {x y : Value} (h1 : X.ownsRow A.heap.size 3 1 (.slice (some ⟨g, 0, none⟩) (p.length + 1) c) (p.length + 1) (p.map (Value.int .i64) ++ [.int .i64 xv])) (h2 : X.ownsRow A.heap.size 96 1 (.slice (some ⟨g', 0, none⟩) nT c') nT bs) (h3 : Below A.heap.size A X) (h4 : BrX X k x y) (h5 : A.heap.size ≤ k) :
    WiE A p xv nT bs k ((X.setCell ⟨k, 0, none⟩ (.slice (some ⟨g, 0, none⟩) (p.length + 1) c)).setCell ⟨k, 1, none⟩ (.slice (some ⟨g', 0, none⟩) nT c')) g c g' c' :=
  ⟨h4.set _ _, by rw [List.map_append]; exact own_keepB h1 h4 (by decide), own_keepB h2 h4 (by decide), (h3.setCell h5 _).setCell h5 _, h5⟩

set_option maxHeartbeats 4000000 in
set_option maxRecDepth 1000000 in
theorem with_calls (w : World) (B1 B2 bb nT cb cu cc : Nat) (vp vt : Value) (p ts : List Int) (bs : List Value) (xv : Int) (y : Nat → Nat)
    (hp : w.ownsRow B1 3 1 vp p.length (p.map (Value.int .i64))) (hpl : p.length ≤ 1000) (hb : w.ownsRow B2 96 1 (.slice (some ⟨bb, 0, none⟩) nT cb) nT bs) (hone : ∀ u ∈ bs, u.oneCell' = true) (hT0 : 0 < nT) (hT : nT ≤ 1000)
    (ht : IS w vt ts) (hn : ts.length ≤ 1000) (hin : ∀ j, j < ts.length → 0 ≤ ts.getD j 0 ∧ ts.getD j 0 < nT)
    (hcu : ∀ W, Below w.heap.size w W → ∀ j, j < ts.length → Calls Tryz.prog 117 #[.pointer (some ⟨cu, j * 2, none⟩)] W fun e w' => e = .returned (.pointer (some ⟨y j, 0, none⟩)) ∧ ∃ d, w' = W.drewN d) :
    Calls Tryz.prog 92 #[.agg #[vp, .slice (some ⟨bb, 0, none⟩) nT cb], .int .i64 xv, vt, .slice (some ⟨cu, 0, none⟩) ts.length cc] w fun e w' => ∃ g c g' c', e = .returned (.agg #[.slice (some ⟨g, 0, none⟩) (p.length + 1) c, .slice (some ⟨g', 0, none⟩) nT c']) ∧
      w'.ownsRow w.heap.size 3 1 (.slice (some ⟨g, 0, none⟩) (p.length + 1) c) (p.length + 1) ((p ++ [xv]).map (Value.int .i64)) ∧ w'.ownsRow w.heap.size 96 1 (.slice (some ⟨g', 0, none⟩) nT c') nT (updB bs ts y ts.length) ∧ Below w.heap.size w w' := by
  obtain ⟨i0, hi, hz0, hz1, hz2⟩ := info_parts Tryz.infoInt
  obtain ⟨ap, cp, rfl⟩ := own_shapeJ hp
  obtain ⟨at', ct, rfl, hc⟩ := ht
  obtain ⟨n, hnn⟩ : ∃ n, n = ts.length := ⟨_, rfl⟩
  rw [← hnn] at hc hn hin hcu ⊢
  clear hnn
  obtain ⟨W1, hW1⟩ : ∃ W1, W1 = (w.alloc (.cells #[.slice ap p.length cp, .slice (some ⟨bb, 0, none⟩) nT cb] 93)).alloc (.cells #[.slice none 0 0, .slice none 0 0] 93) := ⟨_, rfl⟩
  have hB1 : Below w.heap.size w W1 := by rw [hW1]; exact ((Below.refl _ _).alloc (Nat.le_refl _) _).alloc (by simp) _
  have hs1 : W1.heap.size = w.heap.size + 2 := by rw [hW1]; simp
  have hX4 : BrX W1 w.heap.size (.slice ap p.length cp) (.slice (some ⟨bb, 0, none⟩) nT cb) := by rw [hW1]; exact (BrX.new w _ _).below ((Below.refl _ _).alloc (Nat.le_refl _) _)
  have hX8 : BrX W1 (w.heap.size + 1) (.slice none 0 0) (.slice none 0 0) := by
    rw [hW1]
    have := BrX.new (w.alloc (.cells #[.slice ap p.length cp, .slice (some ⟨bb, 0, none⟩) nT cb] 93)) (.slice none 0 0) (.slice none 0 0)
    rw [World.size_alloc] at this
    exact this
  have HX8 := hid hX8
  have HS1 := hid hs1
  have HB1 := hid hB1
  have HSS : Hid (∀ W, Below W1.heap.size W1 W → W.cell? ⟨w.heap.size, 0, none⟩ = some (.slice ap p.length cp) ∧ W.cell? ⟨w.heap.size, 1, none⟩ = some (.slice (some ⟨bb, 0, none⟩) nT cb) ∧ Below W1.heap.size W1 W) := hid fun W hW => ⟨(hX4.below hW).c0, (hX4.below hW).c1, hW⟩
  have K1 : Hid (∀ W, Below W1.heap.size W1 W → Calls Tryz.prog 115 #[.slice ap p.length cp] W fun e w' => ∃ v, e = .returned v ∧ w'.ownsRow W1.heap.size 3 1 v p.length (p.map (Value.int .i64)) ∧ Below W.heap.size W w' ∧ Below W1.heap.size W1 w') := hid fun W hW =>
    (cloneI_calls W _ p (own_is (own_below (own_below hp hB1) hW)) (by omega)).mono fun e w' ⟨v, h1, h2, h3⟩ => ⟨v, h1, own_base h2 hW.size, h3, bt hW h3⟩
  have K2 : Hid (∀ W, Below W1.heap.size W1 W → Calls Tryz.prog 116 #[.slice (some ⟨bb, 0, none⟩) nT cb] W fun e w' => ∃ g' c', e = .returned (.slice (some ⟨g', 0, none⟩) nT c') ∧ w'.ownsRow W1.heap.size 96 1 (.slice (some ⟨g', 0, none⟩) nT c') nT bs ∧ Below W.heap.size W w' ∧ Below W1.heap.size W1 w') := hid fun W hW =>
    (cloneTr_calls W B2 bb cb nT bs (own_below (own_below hb hB1) hW) hT0 (by omega) hone).mono fun e w' ⟨g', c', h1, h2, h3⟩ => ⟨g', c', h1, own_base h2 hW.size, h3, bt hW h3⟩
  have HC : Hid (∀ W, Below w.heap.size w W → ∀ j, j < n → ∃ (b o : Nat), at' = some ⟨b, o, none⟩ ∧ W.cell? ⟨b, o + j, none⟩ = some (.int .i64 (ts.getD j 0))) := hid fun W hW j hj => by
    rcases hc with h0 | ⟨b, o, rfl, h⟩
    · omega
    · exact ⟨b, o, rfl, (hW.cell (World.block_lt_of_cell? w _ (h j hj))).trans (h j hj)⟩
  have HIN := hid hin
  have HCU := hid hcu
  have HBl := hid hb.1
  clear hc hin hcu hp hb hone hX4 hX8 hB1 hs1
  go_enter Tryz.func92, Tryz.ntmps92
  go_upto_region 1 with fail
  rw [← hW1]
  clear hW1
  go_cut [9] from 12 to 21 (fun v wc => ∃ k, v = .pointer (some ⟨k, 0, none⟩) ∧ Hid (∃ g c g' c', WiE W1 p xv nT bs k wc g c g' c'))
  case first =>
    first | go_region_held_law (fun W => W.cell? ⟨w.heap.size, 0, none⟩ = some (.slice ap p.length cp) ∧ W.cell? ⟨w.heap.size, 1, none⟩ = some (.slice (some ⟨bb, 0, none⟩) nT cb) ∧ Below W1.heap.size W1 W)
        (first | (refine HSS.out _ ?_; (repeat (first | (with_reducible exact Below.refl _ _) | (with_reducible exact hq20) | (with_reducible exact hq17) | (with_reducible exact hq14) | (with_reducible refine bl_drew ?_) | (with_reducible refine bl_alloc ?_ _) | (with_reducible refine Below.setCell ?_ (by first | exact Nat.le_refl _ | (dsimp only; omega)) _))); done) | fail)
        (first
          | (refine step_append_lies _ (by rfl) _ _ _ (by rfl) W1.heap.size 3 i0 (.int .i64 0) 1 8 Tryz.underlying33 hi hz0 hz1 hz2 rfl (by decide) v14 p.length _ (by rfl) hO14 ⟨W1.heap.size, 0, none⟩ 1 1 [.int .i64 xv] (by rfl) (by rfl) (hlit _ (Below.refl _ _)) (fun u hu => by simp at hu; subst hu; rfl) (by decide) (by unfold maxLen; omega) (by omega) (by first | exact hz14 | (simp; omega)) _ rfl ?_; intro g17 c17 w17 hown17 hgrow17 hat17 hlt17; have hq17 := grB (by (repeat (first | (with_reducible exact Below.refl _ _) | (with_reducible exact hq17) | (with_reducible exact hq14) | (with_reducible refine bl_drew ?_) | (with_reducible refine bl_alloc ?_ _)))) hO14 hgrow17; try (have hbx17 := hbx.gr hO14 (by decide) hgrow17))
          | (refine step_append_lies _ (by rfl) _ _ _ (by rfl) W1.heap.size 3 i0 (.int .i64 0) 1 8 Tryz.underlying33 hi hz0 hz1 hz2 rfl (by decide) v14 p.length _ (by rfl) hO14 ⟨W1.heap.size + 1, 0, none⟩ 1 1 [.int .i64 xv] (by rfl) (by rfl) (hlit _ (Below.refl _ _)) (fun u hu => by simp at hu; subst hu; rfl) (by decide) (by unfold maxLen; omega) (by omega) (by first | exact hz14 | (simp; omega)) _ rfl ?_; intro g17 c17 w17 hown17 hgrow17 hat17 hlt17; have hq17 := grB (by (repeat (first | (with_reducible exact Below.refl _ _) | (with_reducible exact hq17) | (with_reducible exact hq14) | (with_reducible refine bl_drew ?_) | (with_reducible refine bl_alloc ?_ _)))) hO14 hgrow17; try (have hbx17 := hbx.gr hO14 (by decide) hgrow17))
          | (refine step_append_lies _ (by rfl) _ _ _ (by rfl) W1.heap.size 3 i0 (.int .i64 0) 1 8 Tryz.underlying33 hi hz0 hz1 hz2 rfl (by decide) v14 p.length _ (by rfl) (hO14.alloc _) ⟨w14.heap.size, 0, none⟩ 1 1 [.int .i64 xv] (by rfl) (by rfl) (new1_cell _ _ _) (fun u hu => by simp at hu; subst hu; rfl) (by decide) (by unfold maxLen; omega) (by omega) (by first | exact hz14 | (simp; omega)) _ rfl ?_; intro g17 c17 w17 hown17 hgrow17 hat17 hlt17; have hq17 := grB (by (repeat (first | (with_reducible exact Below.refl _ _) | (with_reducible exact hq17) | (with_reducible exact hq14) | (with_reducible refine bl_drew ?_) | (with_reducible refine bl_alloc ?_ _)))) (hO14.alloc _) hgrow17; try (have hbx17 := (hbx.below (bl_alloc (Below.refl _ _) _)).gr (hO14.alloc _) (by decide) hgrow17))
          | (refine step_append_lies _ (by rfl) _ _ _ (by rfl) W1.heap.size 3 i0 (.int .i64 0) 1 8 Tryz.underlying33 hi hz0 hz1 hz2 rfl (by decide) v14 p.length _ (by rfl) (hO14.alloc _) ⟨W1.heap.size, 0, none⟩ 1 1 [.int .i64 xv] (by rfl) (by rfl) (hlit _ (bl_alloc (Below.refl _ _) _)) (fun u hu => by simp at hu; subst hu; rfl) (by decide) (by unfold maxLen; omega) (by omega) (by first | exact hz14 | (simp; omega)) _ rfl ?_; intro g17 c17 w17 hown17 hgrow17 hat17 hlt17; have hq17 := grB (by (repeat (first | (with_reducible exact Below.refl _ _) | (with_reducible exact hq17) | (with_reducible exact hq14) | (with_reducible refine bl_drew ?_) | (with_reducible refine bl_alloc ?_ _)))) (hO14.alloc _) hgrow17; try (have hbx17 := (BrX.new w14 _ _).gr (hO14.alloc _) (by decide) hgrow17))
          | (refine step_append_lies _ (by rfl) _ _ _ (by rfl) W1.heap.size 3 i0 (.int .i64 0) 1 8 Tryz.underlying33 hi hz0 hz1 hz2 rfl (by decide) v14 p.length _ (by rfl) ((hO14.alloc _).alloc _) ⟨w14.heap.size, 0, none⟩ 1 1 [.int .i64 xv] (by rfl) (by rfl) (lit_news rfl (bl_alloc (Below.refl _ _) _)) (fun u hu => by simp at hu; subst hu; rfl) (by decide) (by unfold maxLen; omega) (by omega) (by first | exact hz14 | (simp; omega)) _ rfl ?_; intro g17 c17 w17 hown17 hgrow17 hat17 hlt17; have hq17 := grB (by (repeat (first | (with_reducible exact Below.refl _ _) | (with_reducible exact hq17) | (with_reducible exact hq14) | (with_reducible refine bl_drew ?_) | (with_reducible refine bl_alloc ?_ _)))) ((hO14.alloc _).alloc _) hgrow17; try (have hbx17 := (boxD (X := w14.alloc (.cells #[.int .i64 xv] 3)) (k := w14.heap.size + 1) (by simp) (Below.refl _ _)).gr ((hO14.alloc _).alloc _) (by decide) hgrow17))
          | (refine step_append_lies _ (by rfl) _ _ _ (by rfl) W1.heap.size 3 i0 (.int .i64 0) 1 8 Tryz.underlying33 hi hz0 hz1 hz2 rfl (by decide) v14 p.length _ (by rfl) ((hO14.alloc _).alloc _) ⟨w14.heap.size + 1, 0, none⟩ 1 1 [.int .i64 xv] (by rfl) (by rfl) (lit_news (X := w14.alloc (.cells #[.slice none 0 0, .slice none 0 0] 93)) (by simp) (Below.refl _ _)) (fun u hu => by simp at hu; subst hu; rfl) (by decide) (by unfold maxLen; omega) (by omega) (by first | exact hz14 | (simp; omega)) _ rfl ?_; intro g17 c17 w17 hown17 hgrow17 hat17 hlt17; have hq17 := grB (by (repeat (first | (with_reducible exact Below.refl _ _) | (with_reducible exact hq17) | (with_reducible exact hq14) | (with_reducible refine bl_drew ?_) | (with_reducible refine bl_alloc ?_ _)))) ((hO14.alloc _).alloc _) hgrow17; try (have hbx17 := ((BrX.new w14 _ _).below (bl_alloc (Below.refl _ _) _)).gr ((hO14.alloc _).alloc _) (by decide) hgrow17))
          | (go_simp; go_at_call 115; (with_reducible refine (K1.out _ (by (repeat (first | (with_reducible exact Below.refl _ _) | (with_reducible exact hq17) | (with_reducible exact hq14) | (with_reducible refine bl_drew ?_) | (with_reducible refine bl_alloc ?_ _))))).mono ?_); rintro e w14 ⟨v14, rfl, hO14, hB14, hq14⟩; have hz14 := hq14.size; have hb14 := undrew hB14; clear hB14; (first
              | (have hlit := litD (v := .int .i64 xv) (t := 3) (X := W1) (k := W1.heap.size) rfl (bt (bl_alloc (Below.refl _ _) _) hb14); have hbx := boxD (X := W1.alloc (.cells #[.int .i64 xv] 3)) (k := W1.heap.size + 1) (by simp) hb14)
              | (have hbx := boxD (X := W1) (k := W1.heap.size) rfl (bt (bl_alloc (Below.refl _ _) _) hb14); have hlit := litD (v := .int .i64 xv) (t := 3) (X := W1.alloc (.cells #[.slice none 0 0, .slice none 0 0] 93)) (k := W1.heap.size + 1) (by simp) hb14)
              | have hlit := litD (v := .int .i64 xv) (t := 3) (X := W1) (k := W1.heap.size) rfl hb14
              | have hbx := boxD (X := W1) (k := W1.heap.size) rfl hb14
              | skip); clear hb14)
          | (go_simp; go_at_call 116; (with_reducible refine (K2.out _ (by (repeat (first | (with_reducible exact Below.refl _ _) | (with_reducible exact hq17) | (with_reducible exact hq14) | (with_reducible refine bl_drew ?_) | (with_reducible refine bl_alloc ?_ _))))).mono ?_); rintro e w20 ⟨g20, c20, rfl, hO20, hB20, hq20⟩; have hz17 := hq17.size; (first | have hown20 := own_below hown17 hB20 | have hown20 := own_below (hown17.alloc _) hB20); (try (first | have hbx20 := hbx17.below hB20 | have hbx20 := (BrX.new w17 _ _).below hB20)); (try (have k0 := hbx20.c0; have k1 := hbx20.c1; have f0 := hbx20.free 0; have f1 := hbx20.free 1)))
          | fail) | fail
    all_goals (go_wp2_with fail; go_meet)
    all_goals first
      | exact ⟨_, rfl, hid ⟨_, _, _, _, WiE.late hown20 hO20 hq20⟩⟩
      | exact ⟨_, rfl, hid ⟨_, _, _, _, WiE.early hown20 hO20 hq20 hbx20 (by first | exact Nat.le_refl _ | omega)⟩⟩
  case rest =>
  obtain ⟨k9, rfl, HT9⟩ := hcut
  obtain ⟨g, c, g', c', hE⟩ := HT9.out
  have HE := hid hE
  clear HT9 hE K1 K2 HSS
  generalize wc = W5 at *
  have hU0 : updB bs ts y 0 = bs := rfl
  have HU0 := hid hU0
  have HU1 : Hid (∀ k, updB bs ts y (k + 1) = (updB bs ts y k).set (ts.getD k 0).toNat (.pointer (some ⟨y k, 0, none⟩))) := hid fun k => rfl
  clear hU0
  have HB5 := hid (bt HB1.out HE.out.bel)
  have HX85 := hid (HX8.out.below HE.out.bel)
  have hlow : W1.heap.size ≤ k9 := HE.out.low
  have HLW := hid (And.intro hlow HS1.out)
  clear hlow HB1 HX8 HS1
  go_wp2_with fail
  go_loopw [24] (fun t wr => ∃ (j : Nat), j ≤ n ∧ t = .int .i64 j ∧ Hid (BrX wr k9 (.slice (some ⟨g, 0, none⟩) (p.length + 1) c) (.slice (some ⟨g', 0, none⟩) nT c') ∧ wr.ownsRow W1.heap.size 3 1 (.slice (some ⟨g, 0, none⟩) (p.length + 1) c) (p.length + 1) ((p ++ [xv]).map (Value.int .i64)) ∧ wr.ownsRow W1.heap.size 96 1 (.slice (some ⟨g', 0, none⟩) nT c') nT (updB bs ts y j) ∧ Below w.heap.size w wr ∧ BrX wr (w.heap.size + 1) (.slice none 0 0) (.slice none 0 0))) (fun t _ => n - (intOf t).toNat)
  case atStart => exact ⟨0, Nat.zero_le _, rfl, hid ⟨HE.out.box, HE.out.op, by rw [HU0.out]; exact HE.out.ob, HB5.out, HX85.out⟩⟩
  case round =>
    clear HE HU0 HB5 HX85
    obtain ⟨j, hjn, rfl, HT⟩ := hrel
    obtain ⟨hX, hOp, hOb, hB, hX8⟩ := HT.out
    have HX := hid hX
    have HOp := hid hOp
    have HOb := hid hOb
    have HB := hid hB
    have HX8 := hid hX8
    clear HT hX hOp hOb hB hX8
    by_cases hlt : j < n
    · have i1 : (j : Int) < (n : Int) := by omega
      obtain ⟨b, o, ea, e1⟩ := HC.out wr HB.out j hlt
      subst ea
      have h3 := HIN.out j hlt
      have HUj := hid (HU1.out j)
      obtain ⟨t, ht⟩ : ∃ t : Nat, t = (ts.getD j 0).toNat := ⟨_, rfl⟩
      have e2 : ts.getD j 0 = (t : Int) := by omega
      rw [← ht] at HUj
      rw [e2] at e1 h3
      have i2 : (t : Int) < (nT : Int) := by omega
      clear ht e2 h3
      have KB := hid (fun W (hW : Below w.heap.size w W) => HCU.out W hW j hlt)
      have HBd : Hid (Below w.heap.size w wr.drew) := hid HB.out.drew
      generalize y j = yj at *
      have k1 := HX.out.c1
      have hgt : k9 ≠ g' := fun e => own_ne HOb.out ⟨_, HX.out⟩ (by decide) (by rw [e]; rfl)
      have HK : Hid (∀ (d : Nat) (v : Value), ((wr.drewN d).setCell ⟨g', t, none⟩ v).cell? ⟨k9, 1, none⟩ = some (.slice (some ⟨g', 0, none⟩) nT c')) := hid fun d v => (World.cell?_of_block (w := wr) (a := ⟨k9, 1, none⟩) (Below.heap_setCell _ _ _ _ hgt)).trans k1
      have ff : ∀ d, (wr.drewN d).frozen? ⟨g', t, none⟩ = false := fun d => HOb.out.frozenAt t
      have fc : ∀ d, (wr.drewN d).cell? ⟨g', t, none⟩ = (updB bs ts y j)[t]? := fun d => HOb.out.cellAt t (by omega)
      obtain ⟨ou, hou⟩ : ∃ ou, (updB bs ts y j)[t]? = some ou := by
        have hl := HOb.out.1
        exact ⟨_, List.getElem?_eq_getElem (by omega)⟩
      rw [hou] at fc
      have HKd : Hid (∀ d : Nat, (wr.drewN d).cell? ⟨k9, 1, none⟩ = some (.slice (some ⟨g', 0, none⟩) nT c')) := hid fun d => k1
      have HK0 : Hid (wr.drew.cell? ⟨k9, 1, none⟩ = some (.slice (some ⟨g', 0, none⟩) nT c')) := hid k1
      have HN : Hid (∀ d : Nat, BrX ((wr.drewN d).setCell ⟨g', t, none⟩ (.pointer (some ⟨yj, 0, none⟩))) k9 (.slice (some ⟨g, 0, none⟩) (p.length + 1) c) (.slice (some ⟨g', 0, none⟩) nT c') ∧ ((wr.drewN d).setCell ⟨g', t, none⟩ (.pointer (some ⟨yj, 0, none⟩))).ownsRow W1.heap.size 3 1 (.slice (some ⟨g, 0, none⟩) (p.length + 1) c) (p.length + 1) ((p ++ [xv]).map (Value.int .i64)) ∧ ((wr.drewN d).setCell ⟨g', t, none⟩ (.pointer (some ⟨yj, 0, none⟩))).ownsRow W1.heap.size 96 1 (.slice (some ⟨g', 0, none⟩) nT c') nT (updB bs ts y (j + 1)) ∧ Below w.heap.size w ((wr.drewN d).setCell ⟨g', t, none⟩ (.pointer (some ⟨yj, 0, none⟩))) ∧ BrX ((wr.drewN d).setCell ⟨g', t, none⟩ (.pointer (some ⟨yj, 0, none⟩))) (w.heap.size + 1) (.slice none 0 0) (.slice none 0 0)) := hid fun d => by
        have hgl := (HOb.out.lt g' rfl)
        have h8 : w.heap.size + 1 ≠ g' := fun e => own_ne HOb.out ⟨_, HX8.out⟩ (by decide) (by rw [e]; rfl)
        refine ⟨(Below.heap_setCell _ _ _ _ hgt).trans HX.out, own_move (HOp.out : (wr.drewN d).ownsRow _ _ _ _ _ _) fun q hq => Below.heap_setCell _ _ _ _ (fun e => ?_), ?_, (below_drewN HB.out d).setCell (by show w.heap.size ≤ g'; have := HLW.out.2; omega) _, (Below.heap_setCell _ _ _ _ h8).trans HX8.out⟩
        · obtain ⟨cur, hc⟩ := own_typ HOb.out (g := g') rfl
          have e' : q = g' := e
          exact own_ne HOp.out ⟨cur, hc⟩ (by decide) (by rw [← e']; exact hq.symm)
        · rw [HUj.out]
          exact ((HOb.out : (wr.drewN d).ownsRow _ _ _ _ _ _).stored t _).1
      clear HC HIN HCU HU1 HX HOp HOb HX8 hgt k1 hou
      generalize wr = wo at *
      go_upto_region 5 with fail
      go_region_held_law (fun W => W.cell? ⟨k9, 1, none⟩ = some (.slice (some ⟨g', 0, none⟩) nT c'))
        (first | (with_reducible exact HK0.out) | (with_reducible exact HKd.out _) | (with_reducible exact HK.out _ _) | fail)
        (first
          | (go_simp; go_at_call 117; (with_reducible refine (KB.out _ HBd.out).mono ?_); rintro e w9 ⟨rfl, d, rfl⟩; have f1 := ff (1 + d); have f2 := fc (1 + d))
          | fail)
      all_goals (go_wp2_with fail; go_roundw)
      all_goals first
        | exact ⟨j + 1, by omega, by go_num, hid (HN.out (1 + d))⟩
        | (simp [intOf]; omega)
    · obtain rfl : j = n := by omega
      have i1 : ¬ ((j : Int) < (j : Int)) := by omega
      have k0 := HX.out.c0
      have k1 := HX.out.c1
      have f0 := HX8.out.free 0
      have f1 := HX8.out.free 1
      have r0 := HX8.out.c0
      have r1 := HX8.out.c1
      have hne : k9 ≠ w.heap.size + 1 := by have := HLW.out; omega
      have HFp := hid (own_keepB (u1 := .slice (some ⟨g, 0, none⟩) (p.length + 1) c) (u2 := .slice (some ⟨g', 0, none⟩) nT c') HOp.out HX8.out (by decide))
      have HFb := hid (own_keepB (u1 := .slice (some ⟨g, 0, none⟩) (p.length + 1) c) (u2 := .slice (some ⟨g', 0, none⟩) nT c') HOb.out HX8.out (by decide))
      have hw1 : w.heap.size ≤ W1.heap.size := by have := HLW.out.2; omega
      clear HC HIN HCU HU1 HX HOp HOb HX8
      go_wp2_with fail
      refine bodyPost_ret (v := .agg #[.slice (some ⟨g, 0, none⟩) (p.length + 1) c, .slice (some ⟨g', 0, none⟩) nT c']) (by simp [results, Tryz.results92, go_sem, r0, r1]) rfl ?_
      exact ⟨g, c, g', c', rfl, by have := own_base HFp.out hw1; simpa using this, own_base HFb.out hw1, (HB.out.setCell (by show _ ≤ w.heap.size + 1; omega) _).setCell (by show _ ≤ w.heap.size + 1; omega) _⟩

end Go.Proofs.YtoodbpijgnbfjaaGreat
