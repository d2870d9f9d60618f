import Derived.Deep.RegionLaw
import Derived.Test.YtliggcbiiaegeacEk03
import Derived.Test.YtliggcbiiaegeacEk04
import Derived.Test.YtliggcbiiaegeacEk21
/-
  impl.CoverOf.
-/
namespace Go.Proofs.Ytliggcbiiaegeac
open Go.RowKit

/-- five cells -/
def f5 (x y z u v : Value) : Nat → Value
  | 0 => x
  | 1 => y
  | 2 => z
  | 3 => u
  | _ => v
theorem ArrAt.five {w : World} {k : Nat} {x y z u v : Value} (h : ArrAt w k 5 (f5 x y z u v)) : w.cell? ⟨k, 0, none⟩ = some x ∧ w.cell? ⟨k, 1, none⟩ = some y ∧ w.cell? ⟨k, 2, none⟩ = some z ∧ w.cell? ⟨k, 3, none⟩ = some u ∧ w.cell? ⟨k, 4, none⟩ = some v := ⟨h.cell 0 (by omega), h.cell 1 (by omega), h.cell 2 (by omega), h.cell 3 (by omega), h.cell 4 (by omega)⟩
theorem ArrAt.frees {w : World} {k : Nat} {f : Nat → Value} (h : ArrAt w k 5 f) : w.frozen? ⟨k, 0, none⟩ = false ∧ w.frozen? ⟨k, 1, none⟩ = false ∧ w.frozen? ⟨k, 2, none⟩ = false ∧ w.frozen? ⟨k, 3, none⟩ = false ∧ w.frozen? ⟨k, 4, none⟩ = false := ⟨h.free 0 (by omega), h.free 1 (by omega), h.free 2 (by omega), h.free 3 (by omega), h.free 4 (by omega)⟩

theorem ArrAt.five_set {w : World} {k : Nat} {x y z u v : Value} (h : ArrAt w k 5 (f5 x y z u v)) (x' y' z' u' v' : Value) :
    ArrAt (((((w.setCell ⟨k, 0, none⟩ x').setCell ⟨k, 1, none⟩ y').setCell ⟨k, 2, none⟩ z').setCell ⟨k, 3, none⟩ u').setCell ⟨k, 4, none⟩ v') k 5 (f5 x' y' z' u' v') := by
  have := ((((h.set (i := 0) (by omega) x').set (i := 1) (by omega) y').set (i := 2) (by omega) z').set (i := 3) (by omega) u').set (i := 4) (by omega) v'
  refine ⟨fun j hj => ?_, this.free⟩
  rw [this.cell j hj]
  match j, hj with
  | 0, _ => rfl
  | 1, _ => rfl
  | 2, _ => rfl
  | 3, _ => rfl
  | 4, _ => rfl

def zCover : Obj := .cells #[.bool false, .int .i64 0, .int .i64 0, .slice none 0 0, .slice none 0 0] 143

theorem coverL_len (bag : List Int) (es : List (List Int)) : (coverL bag es).length = bag.length := by simp [coverL]
theorem packL_len (bag : List Int) (es : List (List Int)) : (packL bag es).length = es.length := by simp [packL]
theorem coverL_get (bag : List Int) (es : List (List Int)) {i : Nat} (h : i < bag.length) : (coverL bag es).getD i [] = plN (fun k => decide (bag.getD i 0 ∈ es.getD k [])) es.length := by
  unfold coverL
  rw [List.getD_eq_getElem?_getD, List.getElem?_map, List.getD_eq_getElem?_getD (l := bag), List.getElem?_eq_getElem h]
  rfl
theorem packL_get (bag : List Int) (es : List (List Int)) {i : Nat} (h : i < es.length) : (packL bag es).getD i [] = plN (fun k => decide (bag.getD k 0 ∈ es.getD i [])) bag.length := by
  unfold packL
  rw [List.getD_eq_getElem?_getD, List.getElem?_map, List.getD_eq_getElem?_getD (l := es), List.getElem?_eq_getElem h]
  rfl
theorem plN_len (p : Nat → Bool) (k : Nat) : (plN p k).length ≤ k := by
  have := List.length_filter_le p (List.range k)
  rw [List.length_range] at this
  exact this
theorem plN_mem {p : Nat → Bool} {k j : Nat} : j ∈ plN p k ↔ j < k ∧ p j = true := by
  unfold plN
  rw [List.mem_filter, List.mem_range]

/-- who stands where -/
def mat (bag : List Int) (es : List (List Int)) (v e : Nat) : Prop := bag.getD v 0 ∈ es.getD e []
theorem inc_cover {bag : List Int} {es : List (List Int)} {r e : Nat} (hr : r < bag.length) (he : e < es.length) : inc (coverL bag es) r e = if bag.getD r 0 ∈ es.getD e [] then 1 else 0 := by
  unfold inc
  rw [coverL_get bag es hr]
  by_cases h : bag.getD r 0 ∈ es.getD e []
  · rw [if_pos h, if_pos (plN_mem.2 ⟨he, decide_eq_true h⟩)]
  · rw [if_neg h, if_neg (fun h2 => h (of_decide_eq_true (plN_mem.1 h2).2))]
theorem inc_pack {bag : List Int} {es : List (List Int)} {r e : Nat} (hr : r < es.length) (he : e < bag.length) : inc (packL bag es) r e = if bag.getD e 0 ∈ es.getD r [] then 1 else 0 := by
  unfold inc
  rw [packL_get bag es hr]
  by_cases h : bag.getD e 0 ∈ es.getD r []
  · rw [if_pos h, if_pos (plN_mem.2 ⟨he, decide_eq_true h⟩)]
  · rw [if_neg h, if_neg (fun h2 => h (of_decide_eq_true (plN_mem.1 h2).2))]

theorem coverB_at {bag : List Int} {es : List (List Int)} (h : coverB bag es = true) {v : Nat} (hv : v < bag.length) : ∃ e, e < es.length ∧ bag.getD v 0 ∈ es.getD e [] := by
  unfold coverB at h
  have := List.all_eq_true.1 h (bag.getD v 0) (mem_getD hv)
  obtain ⟨x, hx, hm⟩ := List.any_eq_true.1 this
  obtain ⟨e, he, rfl⟩ := List.mem_iff_getElem.1 hx
  refine ⟨e, he, ?_⟩
  rw [List.getD_eq_getElem?_getD (l := es), List.getElem?_eq_getElem he]
  exact of_decide_eq_true hm

theorem setB_at {l : List Int} (h : setB l = true) {i : Nat} (hi : i < l.length) : 0 ≤ l.getD i 0 ∧ l.getD i 0 < 6 ∧ (i = 0 ∨ l.getD (i - 1) 0 < l.getD i 0) := by
  have := List.all_eq_true.1 h i (List.mem_range.2 hi)
  unfold okAt at this
  simp only [Bool.and_eq_true, Bool.or_eq_true, decide_eq_true_eq] at this
  exact ⟨this.1.1, this.1.2, this.2⟩

theorem setB_ge {l : List Int} (h : setB l = true) : ∀ i, i < l.length → (i : Int) ≤ l.getD i 0
  | 0, hi => by have := (setB_at h hi).1; simpa using this
  | i + 1, hi => by
    have h1 := setB_ge h i (by omega)
    rcases (setB_at h hi).2.2 with h2 | h2
    · omega
    · rw [show i + 1 - 1 = i by omega] at h2
      omega

theorem setB_len {l : List Int} (h : setB l = true) : l.length ≤ 6 := by
  rcases Nat.lt_or_ge 6 l.length with h1 | h1
  · have h2 := setB_ge h 6 h1
    have h3 := (setB_at h h1).2.1
    omega
  · exact h1

theorem edgesB_len {es : List (List Int)} (h : edgesB es = true) : es.length ≤ 7 := by
  unfold edgesB at h
  simp only [Bool.and_eq_true, decide_eq_true_eq] at h
  exact h.1

set_option maxHeartbeats 1000000 in
set_option maxRecDepth 100000 in
theorem coverOf_no (w : World) (vb ve : Value) (bag : List Int) (es : List (List Int)) (hb : IS w vb bag) (h : ISS w ve es) (hlb : bag.length ≤ 1099511627776) (hl : Short es) (hno : (setB bag && edgesB es && coverB bag es) = false) :
    Calls Try.prog 109 #[vb, ve] w fun e w' => e = .returned (.agg #[.bool false, .int .i64 0, .int .i64 0, .slice none 0 0, .slice none 0 0]) ∧ Below w.heap.size w w' := by
  have HB := hid hb
  have HE := hid h
  have HL := hid hl
  obtain ⟨a, cap, rfl, -⟩ := hb
  obtain ⟨a', cap', rfl, -⟩ := h
  have hA : Below w.heap.size w (w.alloc (.cells #[.bool false, .int .i64 0, .int .i64 0, .slice none 0 0, .slice none 0 0] 143)) := (Below.refl _ _).alloc (Nat.le_refl _) _
  have hs : w.heap.size < (w.alloc (.cells #[.bool false, .int .i64 0, .int .i64 0, .slice none 0 0, .slice none 0 0] 143)).heap.size := by simp
  have hc : ArrAt (w.alloc (.cells #[.bool false, .int .i64 0, .int .i64 0, .slice none 0 0, .slice none 0 0] 143)) w.heap.size 5 (f5 (.bool false) (.int .i64 0) (.int .i64 0) (.slice none 0 0) (.slice none 0 0)) := arrAt_alloc w 5 (f5 (.bool false) (.int .i64 0) (.int .i64 0) (.slice none 0 0) (.slice none 0 0)) 143
  cases h1 : setB bag
  · clear hno
    have K1 : Hid (∀ W, IS W (.slice a bag.length cap) bag → Calls Try.prog 106 #[.slice a bag.length cap] W fun e w' => e = .returned (.bool false) ∧ w' = W) := hid (fun W hW => by have := isVariableSet_calls W _ bag hW hlb; rw [h1] at this; exact this)
    go_enter Try.func109, Try.ntmps109
    go_upto_region 1 with fail
    generalize w.alloc (.cells #[.bool false, .int .i64 0, .int .i64 0, .slice none 0 0, .slice none 0 0] 143) = W at *
    obtain ⟨c0, c1, c2, c3, c4⟩ := hc.five
    obtain ⟨d0, d1, d2, d3, d4⟩ := hc.frees
    go_wp2_with (first | (go_at_call 106; refine (K1.out _ (HB.out.below hA)).mono ?_; rintro e w' ⟨rfl, hw'⟩; subst w'))
    have hz := hc.five_set (.bool false) (.int .i64 0) (.int .i64 0) (.slice none 0 0) (.slice none 0 0)
    obtain ⟨r0, r1, r2, r3, r4⟩ := hz.five
    refine bodyPost_ret (v := .agg #[.bool false, .int .i64 0, .int .i64 0, .slice none 0 0, .slice none 0 0]) (by simp [results, Try.results109, go_sem, r0, r1, r2, r3, r4]) rfl ⟨rfl, ?_⟩
    exact ((((hA.setCell (Nat.le_refl _) _).setCell (Nat.le_refl _) _).setCell (Nat.le_refl _) _).setCell (Nat.le_refl _) _).setCell (Nat.le_refl _) _
  cases h2 : edgesB es
  · clear hno
    have K1 : Hid (∀ W, IS W (.slice a bag.length cap) bag → Calls Try.prog 106 #[.slice a bag.length cap] W fun e w' => e = .returned (.bool true) ∧ w' = W) := hid (fun W hW => by have := isVariableSet_calls W _ bag hW hlb; rw [h1] at this; exact this)
    have K2 : Hid (∀ W, ISS W (.slice a' es.length cap') es → Calls Try.prog 103 #[.slice a' es.length cap'] W fun e w' => e = .returned (.bool false) ∧ w' = W) := hid (fun W hW => by have := areEdges_calls W _ es hW hl; rw [h2] at this; exact this)
    go_enter Try.func109, Try.ntmps109
    go_upto_region 1 with fail
    generalize w.alloc (.cells #[.bool false, .int .i64 0, .int .i64 0, .slice none 0 0, .slice none 0 0] 143) = W at *
    obtain ⟨c0, c1, c2, c3, c4⟩ := hc.five
    obtain ⟨d0, d1, d2, d3, d4⟩ := hc.frees
    go_wp2_with (first | (go_at_call 106; refine (K1.out _ (HB.out.below hA)).mono ?_; rintro e w' ⟨rfl, hw'⟩; subst w') | (go_at_call 103; refine (K2.out _ (HE.out.below hA)).mono ?_; rintro e w' ⟨rfl, hw'⟩; subst w'))
    have hz := hc.five_set (.bool false) (.int .i64 0) (.int .i64 0) (.slice none 0 0) (.slice none 0 0)
    obtain ⟨r0, r1, r2, r3, r4⟩ := hz.five
    refine bodyPost_ret (v := .agg #[.bool false, .int .i64 0, .int .i64 0, .slice none 0 0, .slice none 0 0]) (by simp [results, Try.results109, go_sem, r0, r1, r2, r3, r4]) rfl ⟨rfl, ?_⟩
    exact ((((hA.setCell (Nat.le_refl _) _).setCell (Nat.le_refl _) _).setCell (Nat.le_refl _) _).setCell (Nat.le_refl _) _).setCell (Nat.le_refl _) _
  cases h3 : coverB bag es
  · clear hno
    have K1 : Hid (∀ W, IS W (.slice a bag.length cap) bag → Calls Try.prog 106 #[.slice a bag.length cap] W fun e w' => e = .returned (.bool true) ∧ w' = W) := hid (fun W hW => by have := isVariableSet_calls W _ bag hW hlb; rw [h1] at this; exact this)
    have K2 : Hid (∀ W, ISS W (.slice a' es.length cap') es → Calls Try.prog 103 #[.slice a' es.length cap'] W fun e w' => e = .returned (.bool true) ∧ w' = W) := hid (fun W hW => by have := areEdges_calls W _ es hW hl; rw [h2] at this; exact this)
    have K3 : Hid (∀ W, IS W (.slice a bag.length cap) bag → ISS W (.slice a' es.length cap') es → Calls Try.prog 137 #[.slice a bag.length cap, .slice a' es.length cap'] W fun e w' => e = .returned (.bool false) ∧ Below W.heap.size W w') := hid (fun W hW hW' => by have := inEdges_calls W _ _ bag es hW hW' hlb hl; rw [h3] at this; exact this)
    go_enter Try.func109, Try.ntmps109
    go_upto_region 1 with fail
    generalize w.alloc (.cells #[.bool false, .int .i64 0, .int .i64 0, .slice none 0 0, .slice none 0 0] 143) = W at *
    obtain ⟨c0, c1, c2, c3, c4⟩ := hc.five
    obtain ⟨d0, d1, d2, d3, d4⟩ := hc.frees
    go_wp2_with (first | (go_at_call 106; refine (K1.out _ (HB.out.below hA)).mono ?_; rintro e w' ⟨rfl, hw'⟩; subst w') | (go_at_call 103; refine (K2.out _ (HE.out.below hA)).mono ?_; rintro e w' ⟨rfl, hw'⟩; subst w') | (go_at_call 137; refine (K3.out _ (HB.out.below hA) (HE.out.below hA)).mono ?_; rintro e w9 ⟨rfl, hb9⟩; have hc9 := hc.below (by omega) hb9; obtain ⟨c0', c1', c2', c3', c4'⟩ := hc9.five; obtain ⟨d0', d1', d2', d3', d4'⟩ := hc9.frees))
    have hz := hc9.five_set (.bool false) (.int .i64 0) (.int .i64 0) (.slice none 0 0) (.slice none 0 0)
    obtain ⟨r0, r1, r2, r3, r4⟩ := hz.five
    refine bodyPost_ret (v := .agg #[.bool false, .int .i64 0, .int .i64 0, .slice none 0 0, .slice none 0 0]) (by simp [results, Try.results109, go_sem, r0, r1, r2, r3, r4]) rfl ⟨rfl, ?_⟩
    exact (((((bt hA hb9).setCell (Nat.le_refl _) _).setCell (Nat.le_refl _) _).setCell (Nat.le_refl _) _).setCell (Nat.le_refl _) _).setCell (Nat.le_refl _) _
  rw [h1, h2, h3] at hno
  cases hno

set_option maxHeartbeats 2000000 in
set_option maxRecDepth 100000 in
theorem coverOf_yes (w : World) (vb ve : Value) (bag : List Int) (es : List (List Int)) (hb : IS w vb bag) (h : ISS w ve es) (hlb : bag.length ≤ 1099511627776) (hl : Short es) (h1 : setB bag = true) (h2 : edgesB es = true) (h3 : coverB bag es = true) :
    Calls Try.prog 109 #[vb, ve] w fun e w' => ∃ x y vW vD, e = .returned (.agg #[.bool true, .int .i64 (Cov.sm es.length x).num, .int .i64 (Cov.sm es.length x).den, vW, vD]) ∧ CoverBest bag.length es.length (inc (coverL bag es)) x ∧ PackBest es.length bag.length (inc (packL bag es)) y ∧
      Parts es.length x ∧ Parts bag.length y ∧ w'.ownsRow w.heap.size 49 2 vW (prs es.length x).length (rcs (prs es.length x)) ∧ w'.ownsRow w.heap.size 49 2 vD (prs bag.length y).length (rcs (prs bag.length y)) ∧ (∀ g, vW.ownBlock = some g → vD.ownBlock ≠ some g) ∧ Below w.heap.size w w' := by
  have hb6 := setB_len h1
  have he7 := edgesB_len h2
  have hcl := coverL_len bag es
  have hpl := packL_len bag es
  have SC : Hid (∀ W vr, RowsAt W vr (coverL bag es) → Calls Try.prog 139 #[.agg #[.int .i64 es.length, vr, .bool true]] W fun e w' => ∃ g x, e = .returned (.slice (some ⟨g, 0, none⟩) es.length es.length) ∧ FrAt w' g es.length x ∧ CoverBest bag.length es.length (inc (coverL bag es)) x ∧ Parts es.length x ∧ W.heap.size ≤ g ∧ g < w'.heap.size ∧ Below W.heap.size W w') := hid (fun W vr hr => by
    have := solve_cover W es.length vr (coverL bag es) he7 (by omega) hr (fun i hi => by rw [coverL_get bag es (by omega)]; have := plN_len (fun k => decide (bag.getD i 0 ∈ es.getD k [])) es.length; omega) (fun i hi j hj => by rw [coverL_get bag es (by omega)] at hj; exact (plN_mem.1 hj).1) (fun r hr => by
      obtain ⟨e, he, hm⟩ := coverB_at h3 (v := r) (by omega)
      exact ⟨e, he, by rw [inc_cover (by omega) he, if_pos hm]⟩)
    rw [hcl] at this
    exact this)
  have SP : Hid (∀ W vr, RowsAt W vr (packL bag es) → Calls Try.prog 139 #[.agg #[.int .i64 bag.length, vr, .bool false]] W fun e w' => ∃ g x, e = .returned (.slice (some ⟨g, 0, none⟩) bag.length bag.length) ∧ FrAt w' g bag.length x ∧ PackBest es.length bag.length (inc (packL bag es)) x ∧ Parts bag.length x ∧ W.heap.size ≤ g ∧ g < w'.heap.size ∧ Below W.heap.size W w') := hid (fun W vr hr => by
    have := solve_pack W bag.length vr (packL bag es) hb6 (by omega) hr (fun i hi => by rw [packL_get bag es (by omega)]; have := plN_len (fun k => decide (bag.getD k 0 ∈ es.getD i [])) bag.length; omega) (fun i hi j hj => by rw [packL_get bag es (by omega)] at hj; exact (plN_mem.1 hj).1) (fun e he => by
      obtain ⟨r, hr, hm⟩ := coverB_at h3 (v := e) (by omega)
      exact ⟨r, by omega, by rw [inc_pack hr (by omega), if_pos hm]⟩)
    rw [hpl] at this
    exact this)
  have CP : Hid (∀ W, IS W vb bag → ISS W ve es → Calls Try.prog 140 #[vb, ve] W fun e w' => ∃ vr, e = .returned (.agg #[.int .i64 es.length, vr, .bool true]) ∧ RowsAt w' vr (coverL bag es) ∧ Below W.heap.size W w') := hid (fun W hW hW' => (coverProgram_calls W vb ve bag es hW hW' (by omega) hl).mono (by
    rintro e w' ⟨vr, vs, rfl, hp, hb'⟩
    rw [coverRows_L] at hp
    exact ⟨vr, rfl, pr_rows hp, hb'⟩))
  have PP : Hid (∀ W, IS W vb bag → ISS W ve es → Calls Try.prog 141 #[vb, ve] W fun e w' => ∃ vr, e = .returned (.agg #[.int .i64 bag.length, vr, .bool false]) ∧ RowsAt w' vr (packL bag es) ∧ Below W.heap.size W w') := hid (fun W hW hW' => (packingProgram_calls W vb ve bag es hW hW' (by omega) hl (by omega)).mono (by
    rintro e w' ⟨vr, vs, rfl, hp, hb'⟩
    rw [packRows_L] at hp
    exact ⟨vr, rfl, pr_rows hp, hb'⟩))
  have HB := hid hb
  have HE := hid h
  obtain ⟨a, cap, rfl, -⟩ := hb
  obtain ⟨a', cap', rfl, -⟩ := h
  have hA : Below w.heap.size w (w.alloc (.cells #[.bool false, .int .i64 0, .int .i64 0, .slice none 0 0, .slice none 0 0] 143)) := (Below.refl _ _).alloc (Nat.le_refl _) _
  have hs : w.heap.size < (w.alloc (.cells #[.bool false, .int .i64 0, .int .i64 0, .slice none 0 0, .slice none 0 0] 143)).heap.size := by simp
  have hc : ArrAt (w.alloc (.cells #[.bool false, .int .i64 0, .int .i64 0, .slice none 0 0, .slice none 0 0] 143)) w.heap.size 5 (f5 (.bool false) (.int .i64 0) (.int .i64 0) (.slice none 0 0) (.slice none 0 0)) := arrAt_alloc w 5 (f5 (.bool false) (.int .i64 0) (.int .i64 0) (.slice none 0 0) (.slice none 0 0)) 143
  have K1 : Hid (∀ W, IS W (.slice a bag.length cap) bag → Calls Try.prog 106 #[.slice a bag.length cap] W fun e w' => e = .returned (.bool true) ∧ w' = W) := hid (fun W hW => by have := isVariableSet_calls W _ bag hW hlb; rw [h1] at this; exact this)
  have K2 : Hid (∀ W, ISS W (.slice a' es.length cap') es → Calls Try.prog 103 #[.slice a' es.length cap'] W fun e w' => e = .returned (.bool true) ∧ w' = W) := hid (fun W hW => by have := areEdges_calls W _ es hW hl; rw [h2] at this; exact this)
  have K3 : Hid (∀ W, IS W (.slice a bag.length cap) bag → ISS W (.slice a' es.length cap') es → Calls Try.prog 137 #[.slice a bag.length cap, .slice a' es.length cap'] W fun e w' => e = .returned (.bool true) ∧ Below W.heap.size W w') := hid (fun W hW hW' => by have := inEdges_calls W _ _ bag es hW hW' hlb hl; rw [h3] at this; exact this)
  clear h1 h2 h3 hcl hpl hl
  go_enter Try.func109, Try.ntmps109
  go_upto_region 1 with fail
  generalize w.alloc (.cells #[.bool false, .int .i64 0, .int .i64 0, .slice none 0 0, .slice none 0 0] 143) = W at *
  go_upto_region 3 with (first | (go_at_call 106; refine (K1.out _ (HB.out.below hA)).mono ?_; rintro e w' ⟨rfl, hw'⟩; subst w') | (go_at_call 103; refine (K2.out _ (HE.out.below hA)).mono ?_; rintro e w' ⟨rfl, hw'⟩; subst w') | (go_at_call 137; refine (K3.out _ (HB.out.below hA) (HE.out.below hA)).mono ?_; rintro e w9 ⟨rfl, hb9⟩))
  have hA9 : Below w.heap.size w w9 := bt hA hb9
  have hc9 := hc.below (by omega) hb9
  have hs9 : w.heap.size < w9.heap.size := Nat.lt_of_lt_of_le hs hb9.size
  clear K1 K2 K3 hc hb9 hA hs
  go_upto_region 4 with (first | (go_at_call 140; refine (CP.out _ (HB.out.below hA9) (HE.out.below hA9)).mono ?_; rintro e w1 ⟨vr, rfl, hr1, hb1⟩) | (go_at_call 139; refine (SC.out _ _ hr1).mono ?_; rintro e w2 ⟨g, x, rfl, hF, hX, hP, hg1, hg2, hb2⟩) | (go_at_call 138; refine (rats_best _ _ _ x he7 (frAt_ir hF) hP).mono ?_; rintro e w3 ⟨vW, rfl, hoW, hb3⟩))
  have hA3 : Below w.heap.size w w3 := bt (bt (bt hA9 hb1) hb2) hb3
  have hc3 := ((hc9.below (by omega) hb1).below (by omega) hb2).below (by omega) hb3
  have hsz3 : w.heap.size + 1 ≤ w2.heap.size := Nat.le_trans hs9 (bt hb1 hb2).size
  have hs93 : w9.heap.size ≤ w3.heap.size := (bt (bt hb1 hb2) hb3).size
  have HX := hid hX
  have HP := hid hP
  clear CP SC hr1 hF hX hP hg1 hg2 hb1 hb2 hb3 hA9 hc9
  go_upto_region 5 with (first | (go_at_call 141; refine (PP.out _ (HB.out.below hA3) (HE.out.below hA3)).mono ?_; rintro e w4 ⟨vr, rfl, hr1, hb4⟩) | (go_at_call 139; refine (SP.out _ _ hr1).mono ?_; rintro e w5 ⟨g, y, rfl, hF, hY, hQ, hg1, hg2, hb5⟩) | (go_at_call 138; refine (rats_best _ _ _ y (by omega) (frAt_ir hF) hQ).mono ?_; rintro e w6 ⟨vD, rfl, hoD, hb6'⟩))
  have hbx : Below w3.heap.size w3 w6 := bt (bt hb4 hb5) hb6'
  have hA6 : Below w.heap.size w w6 := bt hA3 hbx
  have hc6 := hc3.below (by omega) hbx
  have hoW6 := own_below hoW hbx
  have hne : ∀ q, vW.ownBlock = some q → vD.ownBlock ≠ some q := fun q h1 h2 => by
    have l1 := (hoW.lt q h1).2
    have l2 := (hoD.lt q h2).1
    have l3 := (bt hb4 hb5).size
    omega
  have hoWb := own_base hoW6 hsz3
  have hoDb := own_base (B' := w.heap.size + 1) hoD (Nat.le_trans (Nat.le_trans hs9 hs93) (bt hb4 hb5).size)
  have HY := hid hY
  have HQ := hid hQ
  have HNE := hid hne
  clear PP SP hr1 hF hY hQ hg1 hg2 hb4 hb5 hb6' hA3 hc3 hoW hoD hbx hoW6 hne
  have KSu : Hid (∀ W, IR W vW (prs es.length x) → Calls Try.prog 142 #[vW] W fun e w' => e = .returned (.agg #[.int .i64 (Cov.sm es.length x).num, .int .i64 (Cov.sm es.length x).den]) ∧ Below W.heap.size W w') := hid (fun W hW => sum_best W vW es.length x he7 hW HP.out)
  have HIR := hid (own_ir hoWb)
  obtain ⟨aW, cW, eW, -⟩ := own_ir hoWb
  obtain ⟨aD, cD, eD, -⟩ := own_ir hoDb
  have HOW := hid hoWb
  have HOD := hid hoDb
  clear hoWb hoDb
  subst eW eD
  go_wp2_with (first | (go_at_call 142; refine (KSu.out _ HIR.out).mono ?_; rintro e w7 ⟨rfl, hb7⟩; have hc7 := hc6.below (by omega) hb7; obtain ⟨c0, c1, c2, c3, c4⟩ := hc7.five; obtain ⟨d0, d1, d2, d3, d4⟩ := hc7.frees))
  have hz := hc7.five_set (.bool true) (.int .i64 (Cov.sm es.length x).num) (.int .i64 (Cov.sm es.length x).den) (.slice aW (prs es.length x).length cW) (.slice aD (prs bag.length y).length cD)
  obtain ⟨r0, r1, r2, r3, r4⟩ := hz.five
  have hA7 : Below w.heap.size w w7 := bt hA6 hb7
  have hlow : ∀ (v : Value) n xs, w7.ownsRow (w.heap.size + 1) 49 2 v n xs → (((((w7.setCell ⟨w.heap.size, 0, none⟩ (.bool true)).setCell ⟨w.heap.size, 1, none⟩ (.int .i64 (Cov.sm es.length x).num)).setCell ⟨w.heap.size, 2, none⟩ (.int .i64 (Cov.sm es.length x).den)).setCell ⟨w.heap.size, 3, none⟩ (.slice aW (prs es.length x).length cW)).setCell ⟨w.heap.size, 4, none⟩ (.slice aD (prs bag.length y).length cD)).ownsRow w.heap.size 49 2 v n xs := fun v n xs hv => own_base (own_move hv (fun g hg => by
    have := (hv.lt g hg).1
    rw [Below.heap_setCell _ _ _ _ (by show g ≠ w.heap.size; omega), Below.heap_setCell _ _ _ _ (by show g ≠ w.heap.size; omega), Below.heap_setCell _ _ _ _ (by show g ≠ w.heap.size; omega), Below.heap_setCell _ _ _ _ (by show g ≠ w.heap.size; omega), Below.heap_setCell _ _ _ _ (by show g ≠ w.heap.size; omega)])) (by omega)
  refine bodyPost_ret (v := .agg #[.bool true, .int .i64 (Cov.sm es.length x).num, .int .i64 (Cov.sm es.length x).den, .slice aW (prs es.length x).length cW, .slice aD (prs bag.length y).length cD]) (by simp [results, Try.results109, go_sem, r0, r1, r2, r3, r4]) rfl ⟨x, y, _, _, rfl, HX.out, HY.out, HP.out, HQ.out, hlow _ _ _ (own_below HOW.out hb7), hlow _ _ _ (own_below HOD.out hb7), HNE.out, ?_⟩
  exact ((((hA7.setCell (Nat.le_refl _) _).setCell (Nat.le_refl _) _).setCell (Nat.le_refl _) _).setCell (Nat.le_refl _) _).setCell (Nat.le_refl _) _

end Go.Proofs.Ytliggcbiiaegeac

/-
  The model's operations over rationals.
-/
namespace Go.Proofs.Ytliggcbiiaegeac
open Go.RowKit

theorem enc_le {p q : Rat} {B C : Nat} (hp : Sm B p) (hq : Sm C q) (h : B * C ≤ 4500000000000000000) :
    (-4500000000000000000 ≤ p.num * (q.den : Int) ∧ p.num * (q.den : Int) ≤ 4500000000000000000) ∧ (-4500000000000000000 ≤ q.num * (p.den : Int) ∧ q.num * (p.den : Int) ≤ 4500000000000000000) ∧ (-4500000000000000000 ≤ (p.den : Int) * (q.den : Int) ∧ (p.den : Int) * (q.den : Int) ≤ 4500000000000000000) := by
  have h1 := prod_bd hp.1 (show ((q.den : Nat) : Int).natAbs ≤ C by rw [den_abs]; exact hq.2) h
  have h2 := prod_bd (a := q.num) (b := (p.den : Int)) (B := C) (C := B) hq.1 (by rw [den_abs]; exact hp.2) (by rw [Nat.mul_comm]; exact h)
  have h3 := prod_bd (a := (p.den : Int)) (b := (q.den : Int)) (B := B) (C := C) (by rw [den_abs]; exact hp.2) (by rw [den_abs]; exact hq.2) h
  exact ⟨h1, h2, h3⟩

theorem splusV (p q : Rat) (w : World) {B C : Nat} (hp : Sm B p) (hq : Sm C q) (h : B * C ≤ 4500000000000000000) :
    Calls Try.prog 155 #[.agg #[.int .i64 (p).num, .int .i64 (p).den], .agg #[.int .i64 (q).num, .int .i64 (q).den]] w fun e w' => e = .returned (.agg #[.int .i64 (p + q).num, .int .i64 (p + q).den]) ∧ Below w.heap.size w w' := by
  obtain ⟨h1, h2, h3⟩ := enc_le hp hq h
  have hne : (p.den : Int) * (q.den : Int) ≠ 0 := Int.mul_ne_zero (by have := p.den_nz; omega) (by have := q.den_nz; omega)
  have := splus_calls p.num p.den q.num q.den w h1.1 h1.2 h2.1 h2.2 h3.1 h3.2 hne
  rw [enc_fr (p.num * q.den + q.num * p.den) (p.den * q.den) hne (p + q) (by
    rw [← Rat.divInt_add_divInt _ _ (by have := p.den_nz; omega) (by have := q.den_nz; omega), Rat.num_divInt_den, Rat.num_divInt_den])] at this
  exact this

theorem sminusV (p q : Rat) (w : World) {B C : Nat} (hp : Sm B p) (hq : Sm C q) (h : B * C ≤ 4500000000000000000) :
    Calls Try.prog 174 #[.agg #[.int .i64 (p).num, .int .i64 (p).den], .agg #[.int .i64 (q).num, .int .i64 (q).den]] w fun e w' => e = .returned (.agg #[.int .i64 (p - q).num, .int .i64 (p - q).den]) ∧ Below w.heap.size w w' := by
  obtain ⟨h1, h2, h3⟩ := enc_le hp hq h
  have hne : (p.den : Int) * (q.den : Int) ≠ 0 := Int.mul_ne_zero (by have := p.den_nz; omega) (by have := q.den_nz; omega)
  have := sminus_calls p.num p.den q.num q.den w h1.1 h1.2 h2.1 h2.2 h3.1 h3.2 hne
  rw [enc_fr (p.num * q.den - q.num * p.den) (p.den * q.den) hne (p - q) (by
    rw [← Rat.divInt_sub_divInt _ _ (by have := p.den_nz; omega) (by have := q.den_nz; omega), Rat.num_divInt_den, Rat.num_divInt_den])] at this
  exact this

theorem stimesV (p q : Rat) (w : World) {B C : Nat} (hp : Sm B p) (hq : Sm C q) (h : B * C ≤ 4500000000000000000) :
    Calls Try.prog 175 #[.agg #[.int .i64 (p).num, .int .i64 (p).den], .agg #[.int .i64 (q).num, .int .i64 (q).den]] w fun e w' => e = .returned (.agg #[.int .i64 (p * q).num, .int .i64 (p * q).den]) ∧ Below w.heap.size w w' := by
  obtain ⟨h1, h2, h3⟩ := enc_le hp hq h
  have hne : (p.den : Int) * (q.den : Int) ≠ 0 := Int.mul_ne_zero (by have := p.den_nz; omega) (by have := q.den_nz; omega)
  have h4 := prod_bd hp.1 hq.1 h
  have := stimes_calls p.num p.den q.num q.den w h4.1 h4.2 h3.1 h3.2 hne
  rw [enc_fr (p.num * q.num) (p.den * q.den) hne (p * q) (by
    rw [← Rat.divInt_mul_divInt, Rat.num_divInt_den, Rat.num_divInt_den])] at this
  exact this

theorem soverV (p q : Rat) (w : World) {B C : Nat} (hp : Sm B p) (hq : Sm C q) (h : B * C ≤ 4500000000000000000) (hq0 : q ≠ 0) :
    Calls Try.prog 173 #[.agg #[.int .i64 (p).num, .int .i64 (p).den], .agg #[.int .i64 (q).num, .int .i64 (q).den]] w fun e w' => e = .returned (.agg #[.int .i64 (p / q).num, .int .i64 (p / q).den]) ∧ Below w.heap.size w w' := by
  obtain ⟨h1, h2, h3⟩ := enc_le hp hq h
  have hn := num_ne hq0
  have hne : (p.den : Int) * q.num ≠ 0 := Int.mul_ne_zero (by have := p.den_nz; omega) hn
  have h5 : -4500000000000000000 ≤ (p.den : Int) * q.num ∧ (p.den : Int) * q.num ≤ 4500000000000000000 := by rw [Int.mul_comm]; exact h2
  have := sover_calls p.num p.den q.num q.den w h1.1 h1.2 h5.1 h5.2 hne
  rw [enc_fr (p.num * q.den) (p.den * q.num) hne (p / q) (by
    rw [← Rat.divInt_mul_divInt, Rat.num_divInt_den, ← Rat.inv_divInt, Rat.num_divInt_den, Rat.div_def])] at this
  exact this

theorem slessV (p q : Rat) (w : World) {B C : Nat} (hp : Sm B p) (hq : Sm C q) (h : B * C ≤ 4500000000000000000) :
    Calls Try.prog 102 #[.agg #[.int .i64 (p).num, .int .i64 (p).den], .agg #[.int .i64 (q).num, .int .i64 (q).den]] w fun e w' => e = .returned (.bool (decide (p < q))) ∧ Below w.heap.size w w' := by
  obtain ⟨h1, h2, h3⟩ := enc_le hp hq h
  have := sless_calls p.num p.den q.num q.den w h1.1 h1.2 h2.1 h2.2
  rw [show decide (p.num * (q.den : Int) < q.num * (p.den : Int)) = decide (p < q) from by
    rw [decide_eq_decide]
    exact Rat.lt_iff p q |>.symm] at this
  exact this

end Go.Proofs.Ytliggcbiiaegeac

/-
  Demands in memory; spec.l1Meets.
-/
namespace Go.Proofs.Ytliggcbiiaegeac
open Go.RowKit

structure Dem where
  pl : List Nat
  up : Bool
  bd : Int

def dem0 : Dem := ⟨[], false, 0⟩
def Dem.dm (d : Dem) : Cov.Dm := ⟨fun i => if i ∈ d.pl then 1 else 0, d.up, ((d.bd : Int) : Rat)⟩

/-- a demand that is fit for n numbers -/
structure DemOk (n : Nat) (d : Dem) : Prop where
  nd : d.pl.Nodup
  lt : ∀ i ∈ d.pl, i < n
  len : d.pl.length ≤ 7
  bd : d.bd = 0 ∨ d.bd = 1

/-- the sum over the first k places -/
def lsum (l : List Nat) (x : Nat → Rat) : Nat → Rat
  | 0 => 0
  | k + 1 => lsum l x k + x (l.getD k 0)

theorem take_mem (l : List Nat) (k : Nat) (h : k < l.length) (i : Nat) : i ∈ l.take (k + 1) ↔ i ∈ l.take k ∨ i = l.getD k 0 := by
  rw [List.take_add_one, List.getElem?_eq_getElem h, List.getD_eq_getElem?_getD, List.getElem?_eq_getElem h, List.mem_append]
  simp only [Option.toList_some, List.mem_singleton, Option.getD_some]

theorem lsum_at {l : List Nat} {n : Nat} (x : Nat → Rat) (hn : l.Nodup) (hl : ∀ i ∈ l, i < n) : ∀ k, k ≤ l.length → lsum l x k = Cov.sm n (fun i => (if i ∈ l.take k then 1 else 0) * x i)
  | 0, _ => by
    symm
    exact Cov.sm_zero (fun i _ => by simp)
  | k + 1, hk => by
    have hkl : k < l.length := by omega
    have hm : l.getD k 0 ∈ l := by
      rw [List.getD_eq_getElem?_getD, List.getElem?_eq_getElem hkl]
      exact List.getElem_mem _
    have hnot : l.getD k 0 ∉ l.take k := by
      intro h
      obtain ⟨j, hj, e⟩ := List.mem_iff_getElem.1 h
      rw [List.length_take] at hj
      rw [List.getElem_take, List.getD_eq_getElem?_getD, List.getElem?_eq_getElem hkl] at e
      simp only [Option.getD_some] at e
      exact (List.pairwise_iff_getElem.1 hn) j k (by omega) hkl (by omega) e
    show lsum l x k + x (l.getD k 0) = _
    rw [lsum_at x hn hl k (by omega)]
    have e1 : x (l.getD k 0) = Cov.sm n (fun i => (if i = l.getD k 0 then 1 else 0) * x i) := by
      rw [Cov.sm_single (hl _ hm) (fun i _ hne => by rw [if_neg hne]; grind), if_pos rfl]; grind
    rw [e1, ← Cov.sm_add]
    refine Cov.sm_congr (fun i _ => ?_)
    by_cases h1 : i ∈ l.take k
    · have h2 : i ≠ l.getD k 0 := fun e => hnot (e ▸ h1)
      rw [if_pos h1, if_neg h2, if_pos ((take_mem l k hkl i).2 (Or.inl h1))]; grind
    · by_cases h2 : i = l.getD k 0
      · rw [if_neg h1, if_pos h2, if_pos ((take_mem l k hkl i).2 (Or.inr h2))]; grind
      · rw [if_neg h1, if_neg h2, if_neg (fun h => by rcases (take_mem l k hkl i).1 h with h3 | h3; exact h1 h3; exact h2 h3)]; grind

theorem lsum_dm {n : Nat} {d : Dem} (x : Nat → Rat) (h : DemOk n d) : lsum d.pl x d.pl.length = d.dm.at n x := by
  rw [lsum_at x h.nd h.lt _ (Nat.le_refl _), List.take_length]
  rfl

theorem lsum_whole {n : Nat} {x : Nat → Rat} {l : List Nat} {D : Int} (hl : ∀ i ∈ l, i < n) (hw : ∀ j, j < n → Cov.Whole 5040 (x j * ((D : Int) : Rat))) : ∀ k, k ≤ l.length → Cov.Whole (k * 5040) (lsum l x k * ((D : Int) : Rat))
  | 0, _ => ⟨0, by show (0 : Rat) * _ = _; grind, by simp⟩
  | k + 1, hk => by
    have hm : l.getD k 0 ∈ l := by
      rw [List.getD_eq_getElem?_getD, List.getElem?_eq_getElem (by omega)]
      exact List.getElem_mem _
    have := (lsum_whole hl hw k (by omega)).add (hw _ (hl _ hm))
    show Cov.Whole ((k + 1) * 5040) ((lsum l x k + x (l.getD k 0)) * _)
    rw [show (lsum l x k + x (l.getD k 0)) * ((D : Int) : Rat) = lsum l x k * ((D : Int) : Rat) + x (l.getD k 0) * ((D : Int) : Rat) by grind, show (k + 1) * 5040 = k * 5040 + 5040 by omega]
    exact this

theorem Parts.lsum {n : Nat} {x : Nat → Rat} (h : Parts n x) {d : Dem} (hd : DemOk n d) {k : Nat} (hk : k ≤ d.pl.length) : Sm 36000 (lsum d.pl x k) := by
  obtain ⟨D, h0, hD, hw⟩ := h
  have hl := hd.len
  refine sm_of_whole h0 (by omega) (lsum_whole hd.lt hw k hk) ?_
  have : k * 5040 ≤ 7 * 5040 := Nat.mul_le_mul (by omega) (Nat.le_refl _)
  omega

/-- whether a demand is met, as the model asks it -/
noncomputable def metB (n : Nat) (d : Dem) (x : Nat → Rat) : Bool := if d.up then !decide (d.dm.b < d.dm.at n x) else !decide (d.dm.at n x < d.dm.b)

theorem metB_iff {n : Nat} {d : Dem} {x : Nat → Rat} : metB n d x = true ↔ d.dm.meets n x := by
  unfold metB Cov.Dm.meets
  cases h : d.up
  · rw [show d.dm.up = false from h]
    simp only [Bool.false_eq_true, if_false, Bool.not_eq_true', decide_eq_false_iff_not]
    exact Rat.not_lt
  · rw [show d.dm.up = true from h]
    simp only [if_true, Bool.not_eq_true', decide_eq_false_iff_not]
    exact Rat.not_lt

/-- a demand's value -/
def dval (u : Value) (d : Dem) : Value := .agg #[u, .bool d.up, .int .i64 d.bd]

end Go.Proofs.Ytliggcbiiaegeac

namespace Go.Proofs.Ytliggcbiiaegeac
open Go.RowKit

theorem two_alloc (w : World) (x y : Int) (t : TypeId) : Two (w.alloc (.cells #[.int .i64 x, .int .i64 y] t)) w.heap.size x y :=
  ⟨by rw [World.cell?_alloc_at _ _ _ _ rfl]; rfl, by rw [World.cell?_alloc_at _ _ _ _ rfl]; rfl, World.frozen?_alloc_at _ _ _ _ rfl, World.frozen?_alloc_at _ _ _ _ rfl⟩

set_option maxHeartbeats 2000000 in
set_option maxRecDepth 100000 in
theorem l1Meets_calls (w : World) (vx u : Value) (n : Nat) (d : Dem) (x : Nat → Rat) (hx : IR w vx (prs n x)) (hu : IntsAt w u d.pl) (hd : DemOk n d) (hp : Parts n x) :
    Calls Try.prog 157 #[vx, .agg #[u, .bool d.up, .int .i64 d.bd]] w fun e w' => e = .returned (.bool (metB n d x)) ∧ Below w.heap.size w w' := by
  obtain ⟨a, cap, rfl, hcx⟩ := hx
  obtain ⟨a2, cap2, rfl, hcu⟩ := hu
  rw [prs_length] at hcx ⊢
  obtain ⟨m, hm⟩ : ∃ m, m = d.pl.length := ⟨_, rfl⟩
  have hm7 : m ≤ 7 := by rw [hm]; exact hd.len
  rw [← hm] at hcu ⊢
  have HCX := hid hcx
  have HCU := hid hcu
  have HD := hid hd
  have HP := hid hp
  have HM := hid hm
  have hbd : -1 ≤ d.bd ∧ d.bd ≤ 1 := by rcases hd.bd with h | h <;> omega
  have HL : Hid (lsum d.pl x m = d.dm.at n x) := hid (by rw [hm]; exact lsum_dm x hd)
  clear hcx hcu hd hp hm
  have hA0 : ArrAt (w.alloc (.cells #[.slice a2 m cap2, .bool d.up, .int .i64 d.bd] 174)) w.heap.size 3 (f3 (.slice a2 m cap2) (.bool d.up) (.int .i64 d.bd)) := arrAt_alloc w 3 (f3 (.slice a2 m cap2) (.bool d.up) (.int .i64 d.bd)) 174
  have hb0 : Below w.heap.size w (w.alloc (.cells #[.slice a2 m cap2, .bool d.up, .int .i64 d.bd] 174)) := (Below.refl _ _).alloc (Nat.le_refl _) _
  have hz0 : (w.alloc (.cells #[.slice a2 m cap2, .bool d.up, .int .i64 d.bd] 174)).heap.size = w.heap.size + 1 := by simp
  go_enter Try.func157, Try.ntmps157
  go_upto_region 2 with fail
  have hA1 := hA0.alloc (by omega) (.cells #[.int .i64 0, .int .i64 1] 49)
  have hb1 := hb0.alloc hb0.size (.cells #[.int .i64 0, .int .i64 1] 49)
  have ht1 := two_alloc (w.alloc (.cells #[.slice a2 m cap2, .bool d.up, .int .i64 d.bd] 174)) 0 1 49
  rw [hz0] at ht1
  generalize (w.alloc (.cells #[.slice a2 m cap2, .bool d.up, .int .i64 d.bd] 174)).alloc (.cells #[.int .i64 0, .int .i64 1] 49) = W at *
  obtain ⟨p0, p1, p2⟩ := hA1.three
  have HX := hid (And.intro hA1 (And.intro hb1 ht1))
  clear hA0 hb0 hz0 hA1 hb1 ht1
  go_wp2
  go_loopw [13] (fun t wr => ∃ k : Nat, k ≤ m ∧ t = .int .i64 k ∧ Hid (ArrAt wr w.heap.size 3 (f3 (.slice a2 m cap2) (.bool d.up) (.int .i64 d.bd)) ∧ Below w.heap.size w wr ∧ Two wr (w.heap.size + 1) (lsum d.pl x k).num (lsum d.pl x k).den)) (fun t _ => m - (intOf t).toNat)
  case atStart => exact ⟨0, Nat.zero_le _, rfl, HX⟩
  case round =>
    clear HX p0 p1 p2
    obtain ⟨k, hk, rfl, hH⟩ := hrel
    by_cases hkm : k < m
    · have i1 : (k : Int) < (m : Int) := by omega
      obtain ⟨b, o, rfl, hy⟩ := HCU.out k hkm
      have hkl : k < d.pl.length := by rw [← HM.out]; exact hkm
      have hmem : d.pl.getD k 0 ∈ d.pl := by
        rw [List.getD_eq_getElem?_getD, List.getElem?_eq_getElem hkl]
        exact List.getElem_mem _
      have hjn := HD.out.lt _ hmem
      have HS1 : Hid (Sm 36000 (lsum d.pl x k)) := hid (HP.out.lsum HD.out (by omega))
      have HSN : Hid (lsum d.pl x (k + 1) = lsum d.pl x k + x (d.pl.getD k 0)) := hid rfl
      obtain ⟨j, hj⟩ : ∃ j, j = d.pl.getD k 0 := ⟨_, rfl⟩
      rw [← hj] at hy hjn HSN
      have HS2 : Hid (Sm 5040 (x j)) := hid (HP.out.sm hjn)
      have cy : wr.cell? ⟨b, o + k, none⟩ = some (.int .i64 (j : Nat)) := (hH.out.2.1.cell (p := ⟨b, o + k, none⟩) (World.block_lt_of_cell? w _ hy)).trans hy
      rcases HCX.out with h0 | ⟨b2, o2, rfl, hcell⟩
      · omega
      · obtain ⟨e1, e2⟩ := hcell j hjn
        rw [prs_get hjn] at e1 e2
        have x1 : wr.cell? ⟨b2, o2 + j * 2, none⟩ = some (.int .i64 (x j).num) := (hH.out.2.1.cell (p := ⟨b2, o2 + j * 2, none⟩) (World.block_lt_of_cell? w _ e1)).trans e1
        have x2 : wr.cell? ⟨b2, o2 + j * 2 + 1, none⟩ = some (.int .i64 (x j).den) := (hH.out.2.1.cell (p := ⟨b2, o2 + j * 2 + 1, none⟩) (World.block_lt_of_cell? w _ e2)).trans e2
        obtain ⟨t1, t2, t3, t4⟩ := hH.out.2.2
        have HX := hH
        have j1 : (j : Int) < (n : Int) := by omega
        clear hH hy e1 e2 hcell hj
        generalize hq : lsum d.pl x k = q at *
        have hgl : w.heap.size + 1 < wr.heap.size := World.block_lt_of_cell? wr _ t1
        go_wp2_with fail
        go_region_law (first | (go_simp; go_at_call 155; refine (splusV q (x j) _ HS1.out HS2.out (by decide)).mono ?_; rintro e w2 ⟨rfl, hb'⟩; have hb := drew_below hb'; have hT := HX.out.2.2.below hgl hb; obtain ⟨s1, s2, s3, s4⟩ := hT))
        all_goals
          have HF : Hid (ArrAt ((w2.setCell ⟨w.heap.size + 1, 0, none⟩ (.int .i64 (q + x j).num)).setCell ⟨w.heap.size + 1, 1, none⟩ (.int .i64 (q + x j).den)) w.heap.size 3 (f3 (.slice (some ⟨b, o, none⟩) m cap2) (.bool d.up) (.int .i64 d.bd)) ∧ Below w.heap.size w ((w2.setCell ⟨w.heap.size + 1, 0, none⟩ (.int .i64 (q + x j).num)).setCell ⟨w.heap.size + 1, 1, none⟩ (.int .i64 (q + x j).den)) ∧ Two ((w2.setCell ⟨w.heap.size + 1, 0, none⟩ (.int .i64 (q + x j).num)).setCell ⟨w.heap.size + 1, 1, none⟩ (.int .i64 (q + x j).den)) (w.heap.size + 1) (lsum d.pl x (k + 1)).num (lsum d.pl x (k + 1)).den) := hid ⟨((HX.out.1.below (by omega) hb).move (Below.heap_setCell _ _ _ _ (by show w.heap.size ≠ w.heap.size + 1; omega))).move (Below.heap_setCell _ _ _ _ (by show w.heap.size ≠ w.heap.size + 1; omega)), ((bt HX.out.2.1 hb).setCell (by show w.heap.size ≤ w.heap.size + 1; omega) _).setCell (by show w.heap.size ≤ w.heap.size + 1; omega) _, by rw [HSN.out]; exact (HX.out.2.2.below hgl hb).set _ _⟩
          clear hb hb' s1 s2 s3 s4
          go_wp2
          go_roundw
          case rel => exact ⟨k + 1, by omega, by go_num, HF⟩
          case measure => simp [intOf]; omega
    · obtain rfl : k = m := by omega
      have i1 : ¬ ((k : Int) < (k : Int)) := by omega
      obtain ⟨p0, p1, p2⟩ := hH.out.1.three
      obtain ⟨t1, t2, -, -⟩ := hH.out.2.2
      rw [HL.out] at t1 t2
      have hS : Sm 36000 (d.dm.at n x) := by rw [← HL.out]; exact HP.out.lsum HD.out (by rw [← HM.out]; exact Nat.le_refl _)
      have HB := hid hH.out.2.1
      have hgl : w.heap.size + 1 < wr.heap.size := World.block_lt_of_cell? wr _ t1
      have hSb : Sm 36000 (((d.bd : Int) : Rat)) := ⟨by show d.bd.natAbs ≤ 36000; omega, by show 1 ≤ 36000; omega⟩
      have hg0 : w.heap.size < wr.heap.size := by omega
      clear hH
      cases hup : d.up
      · rw [hup] at p1
        have HR : Hid (metB n d x = !decide (d.dm.at n x < ((d.bd : Int) : Rat))) := hid (by unfold metB; rw [hup]; rfl)
        have KL : Hid (∀ W, Calls Try.prog 102 #[.agg #[.int .i64 (d.dm.at n x).num, .int .i64 (d.dm.at n x).den], .agg #[.int .i64 d.bd, .int .i64 1]] W fun e w' => e = .returned (.bool (decide (d.dm.at n x < ((d.bd : Int) : Rat)))) ∧ Below W.heap.size W w') := hid (fun W => slessV _ _ W hS hSb (by decide))
        generalize (d.dm.at n x).num = nu at *
        generalize (d.dm.at n x).den = de at *
        go_wp2_with (first | (go_at_call 102; refine (KL.out _).mono ?_; rintro e w2 ⟨rfl, hb'⟩))
        go_ret
        exact ⟨ret_bool HR.out.symm, bt (HB.out.alloc HB.out.size _) hb'⟩
      · rw [hup] at p1
        have HR : Hid (metB n d x = !decide (((d.bd : Int) : Rat) < d.dm.at n x)) := hid (by unfold metB; rw [hup]; rfl)
        have KL : Hid (∀ W, Calls Try.prog 102 #[.agg #[.int .i64 d.bd, .int .i64 1], .agg #[.int .i64 (d.dm.at n x).num, .int .i64 (d.dm.at n x).den]] W fun e w' => e = .returned (.bool (decide (((d.bd : Int) : Rat) < d.dm.at n x))) ∧ Below W.heap.size W w') := hid (fun W => slessV _ _ W hSb hS (by decide))
        generalize (d.dm.at n x).num = nu at *
        generalize (d.dm.at n x).den = de at *
        go_wp2_with (first | (go_at_call 102; refine (KL.out _).mono ?_; rintro e w2 ⟨rfl, hb'⟩))
        go_ret
        exact ⟨ret_bool HR.out.symm, bt (HB.out.alloc HB.out.size _) hb'⟩

end Go.Proofs.Ytliggcbiiaegeac

/-
  spec.l1Before.
-/
namespace Go.Proofs.Ytliggcbiiaegeac
open Go.RowKit

/-- strictly before, number by number from place k on; f places are left -/
noncomputable def numB (x y : Nat → Rat) : Nat → Nat → Bool
  | 0, _ => false
  | f + 1, k => if x k < y k then true else if y k < x k then false else numB x y f (k + 1)

noncomputable def befB (n : Nat) (most : Bool) (x y : Nat → Rat) : Bool := if Cov.sm n x < Cov.sm n y then !most else if Cov.sm n y < Cov.sm n x then most else numB x y n 0

theorem numB_lex {x y : Nat → Rat} : ∀ (f k : Nat), numB x y f k = true ↔ Cov.Lex ((List.range' k f).map x) ((List.range' k f).map y) ∧ ¬ Cov.Lex ((List.range' k f).map y) ((List.range' k f).map x)
  | 0, k => by
    constructor
    · intro h; cases h
    · rintro ⟨_, h⟩
      exact absurd trivial h
  | f + 1, k => by
    have ih := numB_lex (x := x) (y := y) f (k + 1)
    rw [List.range'_succ, List.map_cons, List.map_cons]
    show (if x k < y k then true else if y k < x k then false else numB x y f (k + 1)) = true ↔ (x k < y k ∨ (x k = y k ∧ Cov.Lex _ _)) ∧ ¬ (y k < x k ∨ (y k = x k ∧ Cov.Lex _ _))
    by_cases h1 : x k < y k
    · rw [if_pos h1]
      refine ⟨fun _ => ⟨Or.inl h1, ?_⟩, fun _ => rfl⟩
      rintro (h | ⟨h, _⟩) <;> grind
    · rw [if_neg h1]
      by_cases h2 : y k < x k
      · rw [if_pos h2]
        refine ⟨(fun h => by cases h), ?_⟩
        rintro ⟨h | ⟨h, _⟩, _⟩ <;> grind
      · rw [if_neg h2, ih]
        have e : x k = y k := by grind
        constructor
        · rintro ⟨h3, h4⟩
          refine ⟨Or.inr ⟨e, h3⟩, ?_⟩
          rintro (h | ⟨_, h⟩)
          · exact h2 h
          · exact h4 h
        · rintro ⟨h3, h4⟩
          refine ⟨?_, fun h => h4 (Or.inr ⟨e.symm, h⟩)⟩
          rcases h3 with h | ⟨_, h⟩
          · exact absurd h h1
          · exact h

def sgnOf (most : Bool) : Rat := if most then -1 else 1

theorem befB_lex {n : Nat} {most : Bool} {x y : Nat → Rat} : befB n most x y = true ↔ Cov.Lex (Cov.key (sgnOf most) n x) (Cov.key (sgnOf most) n y) ∧ ¬ Cov.Lex (Cov.key (sgnOf most) n y) (Cov.key (sgnOf most) n x) := by
  unfold Cov.key
  have hn := numB_lex (x := x) (y := y) n 0
  rw [← List.range_eq_range'] at hn
  show befB n most x y = true ↔ (sgnOf most * Cov.sm n x < sgnOf most * Cov.sm n y ∨ (sgnOf most * Cov.sm n x = sgnOf most * Cov.sm n y ∧ Cov.Lex _ _)) ∧ ¬ (sgnOf most * Cov.sm n y < sgnOf most * Cov.sm n x ∨ (sgnOf most * Cov.sm n y = sgnOf most * Cov.sm n x ∧ Cov.Lex _ _))
  unfold befB
  by_cases h1 : Cov.sm n x < Cov.sm n y
  · rw [if_pos h1]
    cases most
    · have : sgnOf false = 1 := rfl
      rw [this]
      refine ⟨fun _ => ⟨Or.inl (by grind), ?_⟩, fun _ => rfl⟩
      rintro (h | ⟨h, _⟩) <;> grind
    · have : sgnOf true = -1 := rfl
      rw [this]
      refine ⟨(fun h => by cases h), ?_⟩
      rintro ⟨h | ⟨h, _⟩, _⟩ <;> grind
  · rw [if_neg h1]
    by_cases h2 : Cov.sm n y < Cov.sm n x
    · rw [if_pos h2]
      cases most
      · have : sgnOf false = 1 := rfl
        rw [this]
        refine ⟨(fun h => by cases h), ?_⟩
        rintro ⟨h | ⟨h, _⟩, _⟩ <;> grind
      · have : sgnOf true = -1 := rfl
        rw [this]
        refine ⟨fun _ => ⟨Or.inl (by grind), ?_⟩, fun _ => rfl⟩
        rintro (h | ⟨h, _⟩) <;> grind
    · rw [if_neg h2, hn]
      have e : Cov.sm n x = Cov.sm n y := by grind
      rw [e]
      constructor
      · rintro ⟨h3, h4⟩
        refine ⟨Or.inr ⟨rfl, h3⟩, ?_⟩
        rintro (h | ⟨_, h⟩)
        · grind
        · exact h4 h
      · rintro ⟨h3, h4⟩
        refine ⟨?_, fun h => h4 (Or.inr ⟨rfl, h⟩)⟩
        rcases h3 with h | ⟨_, h⟩
        · grind
        · exact h

theorem ssum_best (w : World) (v : Value) (u : Nat) (x : Nat → Rat) (hu : u ≤ 7) (h : IR w v (prs u x)) (hp : Parts u x) :
    Calls Try.prog 134 #[v] w fun e w' => e = .returned (.agg #[.int .i64 (Cov.sm u x).num, .int .i64 (Cov.sm u x).den]) ∧ Below w.heap.size w w' := by
  have := l1Sum_calls w v (prs u x) h (by rw [prs_length]; omega) (fun k => ((Cov.sm k x).num, ((Cov.sm k x).den : Int))) rfl (fun k W hk => by
    rw [prs_length] at hk
    rw [prs_get hk]
    exact splusV (Cov.sm k x) (x k) W (hp.sum (by omega) hu) (hp.sm hk) (by decide))
  rw [prs_length] at this
  exact this

end Go.Proofs.Ytliggcbiiaegeac

/-
  Plain mathematics of spec.l1Solve and spec.l1Corner.
-/
namespace Go.Proofs.Ytliggcbiiaegeac
open Go.RowKit

/-- the first rows of the equations -/
def rows0 (n : Nat) (L : List Dem) : Nat → Nat → Rat := fun i j => if j = n then (((L.getD i dem0).bd : Int) : Rat) else if j ∈ (L.getD i dem0).pl then 1 else 0

theorem getD_mem' {α : Type} {l : List α} {i : Nat} {d : α} (h : i < l.length) : l.getD i d ∈ l := by
  rw [List.getD_eq_getElem?_getD, List.getElem?_eq_getElem h]
  exact List.getElem_mem _

theorem rows0_whole {n : Nat} {L : List Dem} (h : ∀ D ∈ L, DemOk n D) {r j : Nat} (hr : r < L.length) : Cov.Whole 1 (rows0 n L r j) := by
  unfold rows0
  split
  · refine ⟨_, rfl, ?_⟩
    rcases (h _ (getD_mem' (d := dem0) hr)).bd with e | e <;> rw [e] <;> decide
  · split
    · exact ⟨1, rfl, by decide⟩
    · exact ⟨0, rfl, by decide⟩

theorem rows0_at {n : Nat} {L : List Dem} (r : Nat) (x : Nat → Rat) : Cov.sm n (fun j => rows0 n L r j * x j) = (L.getD r dem0).dm.at n x :=
  Cov.sm_congr (fun j hj => by unfold rows0; rw [if_neg (by omega)]; rfl)

theorem rows0_bd {n : Nat} {L : List Dem} (r : Nat) : rows0 n L r n = (L.getD r dem0).dm.b := if_pos rfl

section
variable {n c : Nat} {R0 R T : Nat → Nat → Rat} {B s : Nat → Nat} {piv : Nat → Rat}

theorem gj_D (h : Cov.GJ n c R0 R T B s piv) (hw : ∀ j, j ≤ n → ∀ r, r < n → Cov.Whole 1 (R0 r j)) (hn : n ≤ 7) :
    ∃ D : Int, D ≠ 0 ∧ D.natAbs ≤ 5040 ∧ ∀ i, i < n → ∀ j, j ≤ n + n → Cov.Whole 5040 (T i j * D) := by
  obtain ⟨D, h0, hD, hW⟩ := h.inv.small (fun j hj r hr => by
    unfold Cov.solveA
    split
    · exact hw j (by omega) r hr
    · split
      · split
        · exact ⟨1, rfl, by decide⟩
        · exact ⟨0, rfl, by decide⟩
      · exact hw n (Nat.le_refl _) r hr)
  have hf := fac_le hn
  exact ⟨D, h0, by omega, fun i hi j hj => (hW i hi j hj).mono hf⟩

theorem cl_le {n j : Nat} (h : j ≤ n) : Cov.cl n j ≤ n + n := by
  unfold Cov.cl; split <;> omega

theorem gj_T (h : Cov.GJ n c R0 R T B s piv) (hw : ∀ j, j ≤ n → ∀ r, r < n → Cov.Whole 1 (R0 r j)) (hn : n ≤ 7) {i j : Nat} (hi : i < n) (hj : j ≤ n + n) : Sm 5040 (T i j) := by
  obtain ⟨D, h0, hD, hW⟩ := gj_D h hw hn
  exact sm_of_whole h0 hD (hW i hi j hj) (Nat.le_refl _)

theorem gj_piv (h : Cov.GJ n c R0 R T B s piv) (hn : n ≤ 7) {i : Nat} (hi : i < c) : Sm 5040 (piv i) := by
  obtain ⟨D, h0, hD, hW⟩ := h.pivsm i hi
  have hf := fac_le hn
  exact sm_of_whole h0 (by omega) hW hf

theorem gj_row (h : Cov.GJ n c R0 R T B s piv) (hw : ∀ j, j ≤ n → ∀ r, r < n → Cov.Whole 1 (R0 r j)) (hn : n ≤ 7) {p j : Nat} (hc : c ≤ p) (hp : p < n) (hj : j ≤ n) : Sm 5040 (R p j) := by
  rw [h.rowt p hc hp j hj]
  exact gj_T h hw hn (h.lt p hp) (cl_le hj)

theorem gj_all (h : Cov.GJ n c R0 R T B s piv) (hw : ∀ j, j ≤ n → ∀ r, r < n → Cov.Whole 1 (R0 r j)) (hn : n ≤ 7) {i j : Nat} (hi : i < n) (hj : j ≤ n) : Sm 25401600 (R i j) := by
  by_cases hic : i < c
  · rw [h.rowd i hic j hj]
    exact ((gj_piv h hn hic).mul (gj_T h hw hn (h.lt i hi) (cl_le hj))).mono (by decide)
  · exact (gj_row h hw hn (by omega) hi hj).mono (by decide)

theorem gj_f (h : Cov.GJ n c R0 R T B s piv) (hw : ∀ j, j ≤ n → ∀ r, r < n → Cov.Whole 1 (R0 r j)) (hn : n ≤ 7) {p k : Nat} (hcp : c ≤ p) (hp : p < n) (hne : R p c ≠ 0) (hk : k < n) : Sm 25401600 (R k c / R p c) := by
  obtain ⟨D, h0, hD, hW⟩ := gj_D h hw hn
  have hcl : Cov.cl n c = c := if_neg (by omega)
  have e1 : R p c = T (s p) c := by rw [h.rowt p hcp hp c (by omega), hcl]
  have hq : ∀ a, a < n → Sm 5040 (T a c / T (s p) c) := by
    intro a ha
    obtain ⟨z1, e2, b1⟩ := hW a ha c (by omega)
    obtain ⟨z2, e3, b2⟩ := hW (s p) (h.lt p hp) c (by omega)
    have hT : T (s p) c ≠ 0 := by rw [← e1]; exact hne
    have hD' : ((D : Int) : Rat) ≠ 0 := by
      intro e
      exact h0 (by exact_mod_cast e)
    have hz : z2 ≠ 0 := by
      intro e
      rw [e] at e3
      have : T (s p) c * ((D : Int) : Rat) = 0 := e3
      rcases Rat.mul_eq_zero.1 this with e4 | e4
      · exact hT e4
      · exact hD' e4
    refine sm_of_whole (D := z2) hz b2 (Z := 5040) ⟨z1, ?_, b1⟩ (Nat.le_refl _)
    rw [← e2, ← e3]
    grind
  rw [e1]
  by_cases hkc : k < c
  · rw [h.rowd k hkc c (by omega), hcl, show piv k * T (s k) c / T (s p) c = piv k * (T (s k) c / T (s p) c) by grind]
    exact ((gj_piv h hn hkc).mul (hq _ (h.lt k hk))).mono (by decide)
  · rw [h.rowt k (by omega) hk c (by omega), hcl]
    exact (hq _ (h.lt k hk)).mono (by decide)

theorem gj_parts (h : Cov.GJ n c R0 R T B s piv) (hw : ∀ j, j ≤ n → ∀ r, r < n → Cov.Whole 1 (R0 r j)) (hn : n ≤ 7) : Parts n (fun i => T (s i) (n + n)) := by
  obtain ⟨D, h0, hD, hW⟩ := gj_D h hw hn
  exact ⟨D, h0, hD, fun j hj => hW _ (h.lt j hj) _ (Nat.le_refl _)⟩
end

/-- the equations have at most the solution x -/
def Only (n : Nat) (L : List Dem) (x : Nat → Rat) : Prop := ∀ y, (∀ D ∈ L, D.dm.at n y = D.dm.b) → ∀ i, i < n → y i = x i

theorem mem_getD' {α : Type} {L : List α} {D d : α} (h : D ∈ L) : ∃ r, r < L.length ∧ L.getD r d = D := by
  obtain ⟨r, hr, e⟩ := List.mem_iff_getElem.1 h
  exact ⟨r, hr, by rw [List.getD_eq_getElem?_getD, List.getElem?_eq_getElem hr, ← e]; rfl⟩

theorem gj_only {n : Nat} {L : List Dem} {R T : Nat → Nat → Rat} {B s : Nat → Nat} {piv : Nat → Rat} (hL : L.length = n) (h : Cov.GJ n n (rows0 n L) R T B s piv) : Only n L (fun i => T (s i) (n + n)) := by
  intro y hy i hi
  refine (Cov.gj_end h).2 y (fun r hr => ?_) i hi
  rw [rows0_at, rows0_bd]
  exact hy _ (getD_mem' (by omega))

theorem gj_notKern {n c : Nat} {L : List Dem} {R T : Nat → Nat → Rat} {B s : Nat → Nat} {piv : Nat → Rat} (hL : L.length = n) (h : Cov.GJ n c (rows0 n L) R T B s piv) (hc : c < n) (hz : ∀ p, c ≤ p → p < n → R p c = 0) : ¬ Cov.Kern n (L.map Dem.dm) := by
  intro hk
  obtain ⟨d, h1, h2⟩ := Cov.gj_stuck h hc hz
  have := hk d (fun D hD => by
    obtain ⟨E, hE, rfl⟩ := List.mem_map.1 hD
    obtain ⟨r, hr, e⟩ := mem_getD' (d := dem0) hE
    have := h2 r (by omega)
    rw [rows0_at, e] at this
    exact this) c hc
  rw [h1] at this
  exact absurd this (by decide)

theorem gj_kern {n : Nat} {L : List Dem} {R T : Nat → Nat → Rat} {B s : Nat → Nat} {piv : Nat → Rat} (hL : L.length = n) (h : Cov.GJ n n (rows0 n L) R T B s piv) : Cov.Kern n (L.map Dem.dm) := by
  intro d hd i hi
  have hdl : ∀ i, i < n → ∀ j, j < n → T (s i) j = if i = j then 1 else 0 := by
    intro i hi j hj
    have := h.inv.unit (s i) (h.lt i hi) (s j) (h.lt j hj)
    rw [h.done j hj] at this
    rw [this]
    by_cases e : i = j
    · rw [if_pos e, if_pos (by rw [e])]
    · rw [if_neg e, if_neg (fun e2 => e (h.inj i hi j hj e2))]
  have hh : Cov.Hom n (n + n) (Cov.solveA n (rows0 n L)) (fun j => if j < n then d j else 0) := by
    intro r hr
    rw [Cov.sm_app]
    have e1 : Cov.sm n (fun j => (if j < n then d j else 0) * Cov.solveA n (rows0 n L) j r) = Cov.sm n (fun j => rows0 n L r j * d j) := Cov.sm_congr (fun j hj => by
      unfold Cov.solveA; rw [if_pos hj, if_pos hj]; grind)
    have e2 : Cov.sm n (fun i => (if n + i < n then d (n + i) else 0) * Cov.solveA n (rows0 n L) (n + i) r) = 0 := Cov.sm_zero (fun i _ => by rw [if_neg (by omega)]; grind)
    rw [e1, e2, rows0_at, hd _ (List.mem_map.2 ⟨_, getD_mem' (by omega), rfl⟩)]; grind
  have h1 := h.inv.hom_rows hh (s i) (h.lt i hi)
  rw [Cov.sm_app] at h1
  have e1 : Cov.sm n (fun j => T (s i) j * (if j < n then d j else 0)) = d i := by
    rw [Cov.sm_single (k := i) hi]
    · rw [hdl i hi i hi, if_pos rfl, if_pos hi]; grind
    · intro j hj hne
      rw [hdl i hi j hj, if_neg (fun e => hne e.symm)]; grind
  have e2 : Cov.sm n (fun k => T (s i) (n + k) * (if n + k < n then d (n + k) else 0)) = 0 := Cov.sm_zero (fun k _ => by rw [if_neg (by omega)]; grind)
  rw [e1, e2] at h1
  grind

/-! ### the corner -/

structure Star (n : Nat) (most : Bool) (all : List Dem) (x : Nat → Rat) : Prop where
  meets : ∀ D ∈ all, D.dm.meets n x
  least : ∀ y, (∀ D ∈ all, D.dm.meets n y) → Cov.Lex (Cov.key (sgnOf most) n x) (Cov.key (sgnOf most) n y)

def Compl (n : Nat) (all : List Dem) (x : Nat → Rat) (k : Nat) (ch : List Dem) : Prop :=
  ∃ S, S.Sublist (all.drop k) ∧ ch.length + S.length = n ∧ (∀ D ∈ ch ++ S, D.dm.at n x = D.dm.b) ∧ Cov.Kern n ((ch ++ S).map Dem.dm)

def InP (n : Nat) (all : List Dem) (b : Nat → Rat) : Prop := ∀ D ∈ all, D.dm.meets n b
def isStar (n : Nat) (x : Nat → Rat) : Option (Nat → Rat) → Prop
  | none => False
  | some b => ∀ i, i < n → b i = x i

theorem compl_start {n : Nat} {most : Bool} {all : List Dem} {x : Nat → Rat} (h : Star n most all x) : Compl n all x 0 [] := by
  obtain ⟨S, h1, h2, h3, h4⟩ := Cov.corner_exists (v := sgnOf most) (all.map Dem.dm) x (fun D hD => by
    obtain ⟨E, hE, rfl⟩ := List.mem_map.1 hD
    exact h.meets E hE) (fun y hy => h.least y (fun D hD => hy _ (List.mem_map.2 ⟨D, hD, rfl⟩)))
  obtain ⟨S', hs, rfl⟩ := List.sublist_map_iff.1 h1
  refine ⟨S', by rw [List.drop_zero]; exact hs, by simpa using h2, fun D hD => ?_, by simpa using h4⟩
  exact h3 _ (List.mem_map.2 ⟨D, by simpa using hD, rfl⟩)

theorem compl_step {n : Nat} {all : List Dem} {x : Nat → Rat} {k : Nat} {ch : List Dem} (hk : k < all.length) (h : Compl n all x k ch) :
    Compl n all x (k + 1) (ch ++ [all.getD k dem0]) ∨ Compl n all x (k + 1) ch := by
  obtain ⟨S, h1, h2, h3, h4⟩ := h
  rw [List.drop_eq_getElem_cons hk] at h1
  have e : all.getD k dem0 = all[k] := by rw [List.getD_eq_getElem?_getD, List.getElem?_eq_getElem hk]; rfl
  rw [e]
  rcases List.sublist_cons_iff.1 h1 with h5 | ⟨S', rfl, h5⟩
  · exact Or.inr ⟨S, h5, h2, h3, h4⟩
  · refine Or.inl ⟨S', h5, by simp at h2 ⊢; omega, fun D hD => h3 D (by simpa using hD), by simpa using h4⟩

theorem compl_none {n : Nat} {all : List Dem} {x : Nat → Rat} {k : Nat} {ch : List Dem} (h : Compl n all x k ch) (hk : all.length < k + n - ch.length) (hka : k ≤ all.length) : False := by
  obtain ⟨S, h1, h2, -, -⟩ := h
  have := h1.length_le
  rw [List.length_drop] at this
  omega

theorem compl_full {n : Nat} {all : List Dem} {x : Nat → Rat} {k : Nat} {ch : List Dem} (h : Compl n all x k ch) (hc : ch.length = n) : (∀ D ∈ ch, D.dm.at n x = D.dm.b) ∧ Cov.Kern n (ch.map Dem.dm) := by
  obtain ⟨S, h1, h2, h3, h4⟩ := h
  have : S = [] := List.length_eq_zero_iff.1 (by omega)
  subst this
  rw [List.append_nil] at h3 h4
  exact ⟨h3, h4⟩

theorem key_star {n : Nat} {v : Rat} {b x : Nat → Rat} (h : ∀ i, i < n → b i = x i) : Cov.key v n b = Cov.key v n x := Cov.key_congr h

/-- the leaf, where the solution meets all -/
theorem leaf_take {n : Nat} {most : Bool} {all : List Dem} {x y : Nat → Rat} (hs : Star n most all x) (hy : InP n all y) {b : Nat → Rat} (hbef : befB n most y b = true) (hb : isStar n x (some b)) : isStar n x (some y) := by
  have h1 := (befB_lex.1 hbef)
  have e := key_star (v := sgnOf most) hb
  rw [e] at h1
  exact absurd (hs.least y hy) h1.2

theorem leaf_keep {n : Nat} {most : Bool} {all : List Dem} {x y b : Nat → Rat} (hs : Star n most all x) (hb : InP n all b) (hbef : befB n most y b = false) (hy : ∀ i, i < n → y i = x i) : isStar n x (some b) := by
  have e := key_star (v := sgnOf most) hy
  have h1 : ¬ (Cov.Lex (Cov.key (sgnOf most) n y) (Cov.key (sgnOf most) n b) ∧ ¬ Cov.Lex (Cov.key (sgnOf most) n b) (Cov.key (sgnOf most) n y)) := fun h => by
    rw [befB_lex.2 h] at hbef
    cases hbef
  rw [e] at h1
  have h2 := hs.least b hb
  have h3 : Cov.Lex (Cov.key (sgnOf most) n b) (Cov.key (sgnOf most) n x) := Classical.byContradiction fun h => h1 ⟨h2, h⟩
  exact Cov.key_inj (Cov.Lex.antisymm h3 h2)

end Go.Proofs.Ytliggcbiiaegeac
