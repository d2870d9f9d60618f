import Derived.Test.YthokafaooihmbaaFc03
import Derived.Test.YthokafaooihmbaaFc04
import Derived.Test.YthokafaooihmbaaFc18
import Derived.Test.YthokafaooihmbaaFc19
/-
  impl.CoverOf.
-/
namespace Go.Proofs.Ythokafaooihmbaa
open Go.RowKit

/-- five cells -/
def f5 (x y z u v : Value) : Nat → Value
  | 0 => x
  | 1 => y
  | 2 => z
  | 3 => u
  | _ => v
theorem ArrAt.five {w : World} {k : Nat} {x y z u v : Value} (h : ArrAt w k 5 (f5 x y z u v)) : w.cell? ⟨k, 0, none⟩ = some x ∧ w.cell? ⟨k, 1, none⟩ = some y ∧ w.cell? ⟨k, 2, none⟩ = some z ∧ w.cell? ⟨k, 3, none⟩ = some u ∧ w.cell? ⟨k, 4, none⟩ = some v := ⟨h.cell 0 (by omega), h.cell 1 (by omega), h.cell 2 (by omega), h.cell 3 (by omega), h.cell 4 (by omega)⟩
theorem ArrAt.frees {w : World} {k : Nat} {f : Nat → Value} (h : ArrAt w k 5 f) : w.frozen? ⟨k, 0, none⟩ = false ∧ w.frozen? ⟨k, 1, none⟩ = false ∧ w.frozen? ⟨k, 2, none⟩ = false ∧ w.frozen? ⟨k, 3, none⟩ = false ∧ w.frozen? ⟨k, 4, none⟩ = false := ⟨h.free 0 (by omega), h.free 1 (by omega), h.free 2 (by omega), h.free 3 (by omega), h.free 4 (by omega)⟩

theorem ArrAt.five_set {w : World} {k : Nat} {x y z u v : Value} (h : ArrAt w k 5 (f5 x y z u v)) (x' y' z' u' v' : Value) :
    ArrAt (((((w.setCell ⟨k, 0, none⟩ x').setCell ⟨k, 1, none⟩ y').setCell ⟨k, 2, none⟩ z').setCell ⟨k, 3, none⟩ u').setCell ⟨k, 4, none⟩ v') k 5 (f5 x' y' z' u' v') := by
  have := ((((h.set (i := 0) (by omega) x').set (i := 1) (by omega) y').set (i := 2) (by omega) z').set (i := 3) (by omega) u').set (i := 4) (by omega) v'
  refine ⟨fun j hj => ?_, this.free⟩
  rw [this.cell j hj]
  match j, hj with
  | 0, _ => rfl
  | 1, _ => rfl
  | 2, _ => rfl
  | 3, _ => rfl
  | 4, _ => rfl

def zCover : Obj := .cells #[.bool false, .int .i64 0, .int .i64 0, .slice none 0 0, .slice none 0 0] 31

theorem coverL_len (bag : List Int) (es : List (List Int)) : (coverL bag es).length = bag.length := by simp [coverL]
theorem packL_len (bag : List Int) (es : List (List Int)) : (packL bag es).length = es.length := by simp [packL]
theorem coverL_get (bag : List Int) (es : List (List Int)) {i : Nat} (h : i < bag.length) : (coverL bag es).getD i [] = plN (fun k => decide (bag.getD i 0 ∈ es.getD k [])) es.length := by
  unfold coverL
  rw [List.getD_eq_getElem?_getD, List.getElem?_map, List.getD_eq_getElem?_getD (l := bag), List.getElem?_eq_getElem h]
  rfl
theorem packL_get (bag : List Int) (es : List (List Int)) {i : Nat} (h : i < es.length) : (packL bag es).getD i [] = plN (fun k => decide (bag.getD k 0 ∈ es.getD i [])) bag.length := by
  unfold packL
  rw [List.getD_eq_getElem?_getD, List.getElem?_map, List.getD_eq_getElem?_getD (l := es), List.getElem?_eq_getElem h]
  rfl
theorem plN_len (p : Nat → Bool) (k : Nat) : (plN p k).length ≤ k := by
  have := List.length_filter_le p (List.range k)
  rw [List.length_range] at this
  exact this
theorem plN_mem {p : Nat → Bool} {k j : Nat} : j ∈ plN p k ↔ j < k ∧ p j = true := by
  unfold plN
  rw [List.mem_filter, List.mem_range]

/-- who stands where -/
def mat (bag : List Int) (es : List (List Int)) (v e : Nat) : Prop := bag.getD v 0 ∈ es.getD e []
theorem inc_cover {bag : List Int} {es : List (List Int)} {r e : Nat} (hr : r < bag.length) (he : e < es.length) : inc (coverL bag es) r e = if bag.getD r 0 ∈ es.getD e [] then 1 else 0 := by
  unfold inc
  rw [coverL_get bag es hr]
  by_cases h : bag.getD r 0 ∈ es.getD e []
  · rw [if_pos h, if_pos (plN_mem.2 ⟨he, decide_eq_true h⟩)]
  · rw [if_neg h, if_neg (fun h2 => h (of_decide_eq_true (plN_mem.1 h2).2))]
theorem inc_pack {bag : List Int} {es : List (List Int)} {r e : Nat} (hr : r < es.length) (he : e < bag.length) : inc (packL bag es) r e = if bag.getD e 0 ∈ es.getD r [] then 1 else 0 := by
  unfold inc
  rw [packL_get bag es hr]
  by_cases h : bag.getD e 0 ∈ es.getD r []
  · rw [if_pos h, if_pos (plN_mem.2 ⟨he, decide_eq_true h⟩)]
  · rw [if_neg h, if_neg (fun h2 => h (of_decide_eq_true (plN_mem.1 h2).2))]

theorem coverB_at {bag : List Int} {es : List (List Int)} (h : coverB bag es = true) {v : Nat} (hv : v < bag.length) : ∃ e, e < es.length ∧ bag.getD v 0 ∈ es.getD e [] := by
  unfold coverB at h
  have := List.all_eq_true.1 h (bag.getD v 0) (mem_getD hv)
  obtain ⟨x, hx, hm⟩ := List.any_eq_true.1 this
  obtain ⟨e, he, rfl⟩ := List.mem_iff_getElem.1 hx
  refine ⟨e, he, ?_⟩
  rw [List.getD_eq_getElem?_getD (l := es), List.getElem?_eq_getElem he]
  exact of_decide_eq_true hm

theorem setB_at {l : List Int} (h : setB l = true) {i : Nat} (hi : i < l.length) : 0 ≤ l.getD i 0 ∧ l.getD i 0 < 6 ∧ (i = 0 ∨ l.getD (i - 1) 0 < l.getD i 0) := by
  have := List.all_eq_true.1 h i (List.mem_range.2 hi)
  unfold okAt at this
  simp only [Bool.and_eq_true, Bool.or_eq_true, decide_eq_true_eq] at this
  exact ⟨this.1.1, this.1.2, this.2⟩

theorem setB_ge {l : List Int} (h : setB l = true) : ∀ i, i < l.length → (i : Int) ≤ l.getD i 0
  | 0, hi => by have := (setB_at h hi).1; simpa using this
  | i + 1, hi => by
    have h1 := setB_ge h i (by omega)
    rcases (setB_at h hi).2.2 with h2 | h2
    · omega
    · rw [show i + 1 - 1 = i by omega] at h2
      omega

theorem setB_len {l : List Int} (h : setB l = true) : l.length ≤ 6 := by
  rcases Nat.lt_or_ge 6 l.length with h1 | h1
  · have h2 := setB_ge h 6 h1
    have h3 := (setB_at h h1).2.1
    omega
  · exact h1

theorem edgesB_len {es : List (List Int)} (h : edgesB es = true) : es.length ≤ 7 := by
  unfold edgesB at h
  simp only [Bool.and_eq_true, decide_eq_true_eq] at h
  exact h.1

set_option maxHeartbeats 1000000 in
set_option maxRecDepth 100000 in
theorem coverOf_no (w : World) (vb ve : Value) (bag : List Int) (es : List (List Int)) (hb : IS w vb bag) (h : ISS w ve es) (hlb : bag.length ≤ 1099511627776) (hl : Short es) (hno : (setB bag && edgesB es && coverB bag es) = false) :
    Calls Try.prog 6 #[vb, ve] w fun e w' => e = .returned (.agg #[.bool false, .int .i64 0, .int .i64 0, .slice none 0 0, .slice none 0 0]) ∧ Below w.heap.size w w' := by
  have HB := hid hb
  have HE := hid h
  have HL := hid hl
  obtain ⟨a, cap, rfl, -⟩ := hb
  obtain ⟨a', cap', rfl, -⟩ := h
  have hA : Below w.heap.size w (w.alloc (.cells #[.bool false, .int .i64 0, .int .i64 0, .slice none 0 0, .slice none 0 0] 31)) := (Below.refl _ _).alloc (Nat.le_refl _) _
  have hs : w.heap.size < (w.alloc (.cells #[.bool false, .int .i64 0, .int .i64 0, .slice none 0 0, .slice none 0 0] 31)).heap.size := by simp
  have hc : ArrAt (w.alloc (.cells #[.bool false, .int .i64 0, .int .i64 0, .slice none 0 0, .slice none 0 0] 31)) w.heap.size 5 (f5 (.bool false) (.int .i64 0) (.int .i64 0) (.slice none 0 0) (.slice none 0 0)) := arrAt_alloc w 5 (f5 (.bool false) (.int .i64 0) (.int .i64 0) (.slice none 0 0) (.slice none 0 0)) 31
  cases h1 : setB bag
  · clear hno
    have K1 : Hid (∀ W, IS W (.slice a bag.length cap) bag → Calls Try.prog 19 #[.slice a bag.length cap] W fun e w' => e = .returned (.bool false) ∧ w' = W) := hid (fun W hW => by have := isVariableSet_calls W _ bag hW hlb; rw [h1] at this; exact this)
    go_enter Try.func6, Try.ntmps6
    go_upto_region 1 with fail
    generalize w.alloc (.cells #[.bool false, .int .i64 0, .int .i64 0, .slice none 0 0, .slice none 0 0] 31) = W at *
    obtain ⟨c0, c1, c2, c3, c4⟩ := hc.five
    obtain ⟨d0, d1, d2, d3, d4⟩ := hc.frees
    go_wp2_with (first | (go_at_call 19; refine (K1.out _ (HB.out.below hA)).mono ?_; rintro e w' ⟨rfl, hw'⟩; subst w'))
    have hz := hc.five_set (.bool false) (.int .i64 0) (.int .i64 0) (.slice none 0 0) (.slice none 0 0)
    obtain ⟨r0, r1, r2, r3, r4⟩ := hz.five
    refine bodyPost_ret (v := .agg #[.bool false, .int .i64 0, .int .i64 0, .slice none 0 0, .slice none 0 0]) (by simp [results, Try.results6, go_sem, r0, r1, r2, r3, r4]) rfl ⟨rfl, ?_⟩
    exact ((((hA.setCell (Nat.le_refl _) _).setCell (Nat.le_refl _) _).setCell (Nat.le_refl _) _).setCell (Nat.le_refl _) _).setCell (Nat.le_refl _) _
  cases h2 : edgesB es
  · clear hno
    have K1 : Hid (∀ W, IS W (.slice a bag.length cap) bag → Calls Try.prog 19 #[.slice a bag.length cap] W fun e w' => e = .returned (.bool true) ∧ w' = W) := hid (fun W hW => by have := isVariableSet_calls W _ bag hW hlb; rw [h1] at this; exact this)
    have K2 : Hid (∀ W, ISS W (.slice a' es.length cap') es → Calls Try.prog 20 #[.slice a' es.length cap'] W fun e w' => e = .returned (.bool false) ∧ w' = W) := hid (fun W hW => by have := areEdges_calls W _ es hW hl; rw [h2] at this; exact this)
    go_enter Try.func6, Try.ntmps6
    go_upto_region 1 with fail
    generalize w.alloc (.cells #[.bool false, .int .i64 0, .int .i64 0, .slice none 0 0, .slice none 0 0] 31) = W at *
    obtain ⟨c0, c1, c2, c3, c4⟩ := hc.five
    obtain ⟨d0, d1, d2, d3, d4⟩ := hc.frees
    go_wp2_with (first | (go_at_call 19; refine (K1.out _ (HB.out.below hA)).mono ?_; rintro e w' ⟨rfl, hw'⟩; subst w') | (go_at_call 20; refine (K2.out _ (HE.out.below hA)).mono ?_; rintro e w' ⟨rfl, hw'⟩; subst w'))
    have hz := hc.five_set (.bool false) (.int .i64 0) (.int .i64 0) (.slice none 0 0) (.slice none 0 0)
    obtain ⟨r0, r1, r2, r3, r4⟩ := hz.five
    refine bodyPost_ret (v := .agg #[.bool false, .int .i64 0, .int .i64 0, .slice none 0 0, .slice none 0 0]) (by simp [results, Try.results6, go_sem, r0, r1, r2, r3, r4]) rfl ⟨rfl, ?_⟩
    exact ((((hA.setCell (Nat.le_refl _) _).setCell (Nat.le_refl _) _).setCell (Nat.le_refl _) _).setCell (Nat.le_refl _) _).setCell (Nat.le_refl _) _
  cases h3 : coverB bag es
  · clear hno
    have K1 : Hid (∀ W, IS W (.slice a bag.length cap) bag → Calls Try.prog 19 #[.slice a bag.length cap] W fun e w' => e = .returned (.bool true) ∧ w' = W) := hid (fun W hW => by have := isVariableSet_calls W _ bag hW hlb; rw [h1] at this; exact this)
    have K2 : Hid (∀ W, ISS W (.slice a' es.length cap') es → Calls Try.prog 20 #[.slice a' es.length cap'] W fun e w' => e = .returned (.bool true) ∧ w' = W) := hid (fun W hW => by have := areEdges_calls W _ es hW hl; rw [h2] at this; exact this)
    have K3 : Hid (∀ W, IS W (.slice a bag.length cap) bag → ISS W (.slice a' es.length cap') es → Calls Try.prog 21 #[.slice a bag.length cap, .slice a' es.length cap'] W fun e w' => e = .returned (.bool false) ∧ Below W.heap.size W w') := hid (fun W hW hW' => by have := inEdges_calls W _ _ bag es hW hW' hlb hl; rw [h3] at this; exact this)
    go_enter Try.func6, Try.ntmps6
    go_upto_region 1 with fail
    generalize w.alloc (.cells #[.bool false, .int .i64 0, .int .i64 0, .slice none 0 0, .slice none 0 0] 31) = W at *
    obtain ⟨c0, c1, c2, c3, c4⟩ := hc.five
    obtain ⟨d0, d1, d2, d3, d4⟩ := hc.frees
    go_wp2_with (first | (go_at_call 19; refine (K1.out _ (HB.out.below hA)).mono ?_; rintro e w' ⟨rfl, hw'⟩; subst w') | (go_at_call 20; refine (K2.out _ (HE.out.below hA)).mono ?_; rintro e w' ⟨rfl, hw'⟩; subst w') | (go_at_call 21; refine (K3.out _ (HB.out.below hA) (HE.out.below hA)).mono ?_; rintro e w9 ⟨rfl, hb9⟩; have hc9 := hc.below (by omega) hb9; obtain ⟨c0', c1', c2', c3', c4'⟩ := hc9.five; obtain ⟨d0', d1', d2', d3', d4'⟩ := hc9.frees))
    have hz := hc9.five_set (.bool false) (.int .i64 0) (.int .i64 0) (.slice none 0 0) (.slice none 0 0)
    obtain ⟨r0, r1, r2, r3, r4⟩ := hz.five
    refine bodyPost_ret (v := .agg #[.bool false, .int .i64 0, .int .i64 0, .slice none 0 0, .slice none 0 0]) (by simp [results, Try.results6, go_sem, r0, r1, r2, r3, r4]) rfl ⟨rfl, ?_⟩
    exact (((((bt hA hb9).setCell (Nat.le_refl _) _).setCell (Nat.le_refl _) _).setCell (Nat.le_refl _) _).setCell (Nat.le_refl _) _).setCell (Nat.le_refl _) _
  rw [h1, h2, h3] at hno
  cases hno

set_option maxHeartbeats 2000000 in
set_option maxRecDepth 100000 in
theorem coverOf_yes (w : World) (vb ve : Value) (bag : List Int) (es : List (List Int)) (hb : IS w vb bag) (h : ISS w ve es) (hlb : bag.length ≤ 1099511627776) (hl : Short es) (h1 : setB bag = true) (h2 : edgesB es = true) (h3 : coverB bag es = true) :
    Calls Try.prog 6 #[vb, ve] w fun e w' => ∃ x y vW vD, e = .returned (.agg #[.bool true, .int .i64 (Cov.sm es.length x).num, .int .i64 (Cov.sm es.length x).den, vW, vD]) ∧ CoverBest bag.length es.length (inc (coverL bag es)) x ∧ PackBest es.length bag.length (inc (packL bag es)) y ∧
      Parts es.length x ∧ Parts bag.length y ∧ w'.ownsRow w.heap.size 28 2 vW (prs es.length x).length (rcs (prs es.length x)) ∧ w'.ownsRow w.heap.size 28 2 vD (prs bag.length y).length (rcs (prs bag.length y)) ∧ (∀ g, vW.ownBlock = some g → vD.ownBlock ≠ some g) ∧ Below w.heap.size w w' := by
  have hb6 := setB_len h1
  have he7 := edgesB_len h2
  have hcl := coverL_len bag es
  have hpl := packL_len bag es
  have SC : Hid (∀ W vr, RowsAt W vr (coverL bag es) → Calls Try.prog 23 #[.agg #[.int .i64 es.length, vr, .bool true]] W fun e w' => ∃ g x, e = .returned (.slice (some ⟨g, 0, none⟩) es.length es.length) ∧ FrAt w' g es.length x ∧ CoverBest bag.length es.length (inc (coverL bag es)) x ∧ Parts es.length x ∧ W.heap.size ≤ g ∧ g < w'.heap.size ∧ Below W.heap.size W w') := hid (fun W vr hr => by
    have := solve_cover W es.length vr (coverL bag es) he7 (by omega) hr (fun i hi => by rw [coverL_get bag es (by omega)]; have := plN_len (fun k => decide (bag.getD i 0 ∈ es.getD k [])) es.length; omega) (fun i hi j hj => by rw [coverL_get bag es (by omega)] at hj; exact (plN_mem.1 hj).1) (fun r hr => by
      obtain ⟨e, he, hm⟩ := coverB_at h3 (v := r) (by omega)
      exact ⟨e, he, by rw [inc_cover (by omega) he, if_pos hm]⟩)
    rw [hcl] at this
    exact this)
  have SP : Hid (∀ W vr, RowsAt W vr (packL bag es) → Calls Try.prog 23 #[.agg #[.int .i64 bag.length, vr, .bool false]] W fun e w' => ∃ g x, e = .returned (.slice (some ⟨g, 0, none⟩) bag.length bag.length) ∧ FrAt w' g bag.length x ∧ PackBest es.length bag.length (inc (packL bag es)) x ∧ Parts bag.length x ∧ W.heap.size ≤ g ∧ g < w'.heap.size ∧ Below W.heap.size W w') := hid (fun W vr hr => by
    have := solve_pack W bag.length vr (packL bag es) hb6 (by omega) hr (fun i hi => by rw [packL_get bag es (by omega)]; have := plN_len (fun k => decide (bag.getD k 0 ∈ es.getD i [])) bag.length; omega) (fun i hi j hj => by rw [packL_get bag es (by omega)] at hj; exact (plN_mem.1 hj).1) (fun e he => by
      obtain ⟨r, hr, hm⟩ := coverB_at h3 (v := e) (by omega)
      exact ⟨r, by omega, by rw [inc_pack hr (by omega), if_pos hm]⟩)
    rw [hpl] at this
    exact this)
  have CP : Hid (∀ W, IS W vb bag → ISS W ve es → Calls Try.prog 24 #[vb, ve] W fun e w' => ∃ vr, e = .returned (.agg #[.int .i64 es.length, vr, .bool true]) ∧ RowsAt w' vr (coverL bag es) ∧ Below W.heap.size W w') := hid (fun W hW hW' => (coverProgram_calls W vb ve bag es hW hW' (by omega) hl).mono (by
    rintro e w' ⟨vr, vs, rfl, hp, hb'⟩
    rw [coverRows_L] at hp
    exact ⟨vr, rfl, pr_rows hp, hb'⟩))
  have PP : Hid (∀ W, IS W vb bag → ISS W ve es → Calls Try.prog 25 #[vb, ve] W fun e w' => ∃ vr, e = .returned (.agg #[.int .i64 bag.length, vr, .bool false]) ∧ RowsAt w' vr (packL bag es) ∧ Below W.heap.size W w') := hid (fun W hW hW' => (packingProgram_calls W vb ve bag es hW hW' (by omega) hl (by omega)).mono (by
    rintro e w' ⟨vr, vs, rfl, hp, hb'⟩
    rw [packRows_L] at hp
    exact ⟨vr, rfl, pr_rows hp, hb'⟩))
  have HB := hid hb
  have HE := hid h
  obtain ⟨a, cap, rfl, -⟩ := hb
  obtain ⟨a', cap', rfl, -⟩ := h
  have hA : Below w.heap.size w (w.alloc (.cells #[.bool false, .int .i64 0, .int .i64 0, .slice none 0 0, .slice none 0 0] 31)) := (Below.refl _ _).alloc (Nat.le_refl _) _
  have hs : w.heap.size < (w.alloc (.cells #[.bool false, .int .i64 0, .int .i64 0, .slice none 0 0, .slice none 0 0] 31)).heap.size := by simp
  have hc : ArrAt (w.alloc (.cells #[.bool false, .int .i64 0, .int .i64 0, .slice none 0 0, .slice none 0 0] 31)) w.heap.size 5 (f5 (.bool false) (.int .i64 0) (.int .i64 0) (.slice none 0 0) (.slice none 0 0)) := arrAt_alloc w 5 (f5 (.bool false) (.int .i64 0) (.int .i64 0) (.slice none 0 0) (.slice none 0 0)) 31
  have K1 : Hid (∀ W, IS W (.slice a bag.length cap) bag → Calls Try.prog 19 #[.slice a bag.length cap] W fun e w' => e = .returned (.bool true) ∧ w' = W) := hid (fun W hW => by have := isVariableSet_calls W _ bag hW hlb; rw [h1] at this; exact this)
  have K2 : Hid (∀ W, ISS W (.slice a' es.length cap') es → Calls Try.prog 20 #[.slice a' es.length cap'] W fun e w' => e = .returned (.bool true) ∧ w' = W) := hid (fun W hW => by have := areEdges_calls W _ es hW hl; rw [h2] at this; exact this)
  have K3 : Hid (∀ W, IS W (.slice a bag.length cap) bag → ISS W (.slice a' es.length cap') es → Calls Try.prog 21 #[.slice a bag.length cap, .slice a' es.length cap'] W fun e w' => e = .returned (.bool true) ∧ Below W.heap.size W w') := hid (fun W hW hW' => by have := inEdges_calls W _ _ bag es hW hW' hlb hl; rw [h3] at this; exact this)
  clear h1 h2 h3 hcl hpl hl
  go_enter Try.func6, Try.ntmps6
  go_upto_region 1 with fail
  generalize w.alloc (.cells #[.bool false, .int .i64 0, .int .i64 0, .slice none 0 0, .slice none 0 0] 31) = W at *
  go_upto_region 3 with (first | (go_at_call 19; refine (K1.out _ (HB.out.below hA)).mono ?_; rintro e w' ⟨rfl, hw'⟩; subst w') | (go_at_call 20; refine (K2.out _ (HE.out.below hA)).mono ?_; rintro e w' ⟨rfl, hw'⟩; subst w') | (go_at_call 21; refine (K3.out _ (HB.out.below hA) (HE.out.below hA)).mono ?_; rintro e w9 ⟨rfl, hb9⟩))
  have hA9 : Below w.heap.size w w9 := bt hA hb9
  have hc9 := hc.below (by omega) hb9
  have hs9 : w.heap.size < w9.heap.size := Nat.lt_of_lt_of_le hs hb9.size
  clear K1 K2 K3 hc hb9 hA hs
  go_upto_region 4 with (first | (go_at_call 24; refine (CP.out _ (HB.out.below hA9) (HE.out.below hA9)).mono ?_; rintro e w1 ⟨vr, rfl, hr1, hb1⟩) | (go_at_call 23; refine (SC.out _ _ hr1).mono ?_; rintro e w2 ⟨g, x, rfl, hF, hX, hP, hg1, hg2, hb2⟩) | (go_at_call 22; refine (rats_best _ _ _ x he7 (frAt_ir hF) hP).mono ?_; rintro e w3 ⟨vW, rfl, hoW, hb3⟩))
  have hA3 : Below w.heap.size w w3 := bt (bt (bt hA9 hb1) hb2) hb3
  have hc3 := ((hc9.below (by omega) hb1).below (by omega) hb2).below (by omega) hb3
  have hsz3 : w.heap.size + 1 ≤ w2.heap.size := Nat.le_trans hs9 (bt hb1 hb2).size
  have hs93 : w9.heap.size ≤ w3.heap.size := (bt (bt hb1 hb2) hb3).size
  have HX := hid hX
  have HP := hid hP
  clear CP SC hr1 hF hX hP hg1 hg2 hb1 hb2 hb3 hA9 hc9
  go_upto_region 5 with (first | (go_at_call 25; refine (PP.out _ (HB.out.below hA3) (HE.out.below hA3)).mono ?_; rintro e w4 ⟨vr, rfl, hr1, hb4⟩) | (go_at_call 23; refine (SP.out _ _ hr1).mono ?_; rintro e w5 ⟨g, y, rfl, hF, hY, hQ, hg1, hg2, hb5⟩) | (go_at_call 22; refine (rats_best _ _ _ y (by omega) (frAt_ir hF) hQ).mono ?_; rintro e w6 ⟨vD, rfl, hoD, hb6'⟩))
  have hbx : Below w3.heap.size w3 w6 := bt (bt hb4 hb5) hb6'
  have hA6 : Below w.heap.size w w6 := bt hA3 hbx
  have hc6 := hc3.below (by omega) hbx
  have hoW6 := own_below hoW hbx
  have hne : ∀ q, vW.ownBlock = some q → vD.ownBlock ≠ some q := fun q h1 h2 => by
    have l1 := (hoW.lt q h1).2
    have l2 := (hoD.lt q h2).1
    have l3 := (bt hb4 hb5).size
    omega
  have hoWb := own_base hoW6 hsz3
  have hoDb := own_base (B' := w.heap.size + 1) hoD (Nat.le_trans (Nat.le_trans hs9 hs93) (bt hb4 hb5).size)
  have HY := hid hY
  have HQ := hid hQ
  have HNE := hid hne
  clear PP SP hr1 hF hY hQ hg1 hg2 hb4 hb5 hb6' hA3 hc3 hoW hoD hbx hoW6 hne
  have KSu : Hid (∀ W, IR W vW (prs es.length x) → Calls Try.prog 26 #[vW] W fun e w' => e = .returned (.agg #[.int .i64 (Cov.sm es.length x).num, .int .i64 (Cov.sm es.length x).den]) ∧ Below W.heap.size W w') := hid (fun W hW => sum_best W vW es.length x he7 hW HP.out)
  have HIR := hid (own_ir hoWb)
  obtain ⟨aW, cW, eW, -⟩ := own_ir hoWb
  obtain ⟨aD, cD, eD, -⟩ := own_ir hoDb
  have HOW := hid hoWb
  have HOD := hid hoDb
  clear hoWb hoDb
  subst eW eD
  go_wp2_with (first | (go_at_call 26; refine (KSu.out _ HIR.out).mono ?_; rintro e w7 ⟨rfl, hb7⟩; have hc7 := hc6.below (by omega) hb7; obtain ⟨c0, c1, c2, c3, c4⟩ := hc7.five; obtain ⟨d0, d1, d2, d3, d4⟩ := hc7.frees))
  have hz := hc7.five_set (.bool true) (.int .i64 (Cov.sm es.length x).num) (.int .i64 (Cov.sm es.length x).den) (.slice aW (prs es.length x).length cW) (.slice aD (prs bag.length y).length cD)
  obtain ⟨r0, r1, r2, r3, r4⟩ := hz.five
  have hA7 : Below w.heap.size w w7 := bt hA6 hb7
  have hlow : ∀ (v : Value) n xs, w7.ownsRow (w.heap.size + 1) 28 2 v n xs → (((((w7.setCell ⟨w.heap.size, 0, none⟩ (.bool true)).setCell ⟨w.heap.size, 1, none⟩ (.int .i64 (Cov.sm es.length x).num)).setCell ⟨w.heap.size, 2, none⟩ (.int .i64 (Cov.sm es.length x).den)).setCell ⟨w.heap.size, 3, none⟩ (.slice aW (prs es.length x).length cW)).setCell ⟨w.heap.size, 4, none⟩ (.slice aD (prs bag.length y).length cD)).ownsRow w.heap.size 28 2 v n xs := fun v n xs hv => own_base (own_move hv (fun g hg => by
    have := (hv.lt g hg).1
    rw [Below.heap_setCell _ _ _ _ (by show g ≠ w.heap.size; omega), Below.heap_setCell _ _ _ _ (by show g ≠ w.heap.size; omega), Below.heap_setCell _ _ _ _ (by show g ≠ w.heap.size; omega), Below.heap_setCell _ _ _ _ (by show g ≠ w.heap.size; omega), Below.heap_setCell _ _ _ _ (by show g ≠ w.heap.size; omega)])) (by omega)
  refine bodyPost_ret (v := .agg #[.bool true, .int .i64 (Cov.sm es.length x).num, .int .i64 (Cov.sm es.length x).den, .slice aW (prs es.length x).length cW, .slice aD (prs bag.length y).length cD]) (by simp [results, Try.results6, go_sem, r0, r1, r2, r3, r4]) rfl ⟨x, y, _, _, rfl, HX.out, HY.out, HP.out, HQ.out, hlow _ _ _ (own_below HOW.out hb7), hlow _ _ _ (own_below HOD.out hb7), HNE.out, ?_⟩
  exact ((((hA7.setCell (Nat.le_refl _) _).setCell (Nat.le_refl _) _).setCell (Nat.le_refl _) _).setCell (Nat.le_refl _) _).setCell (Nat.le_refl _) _

end Go.Proofs.Ythokafaooihmbaa

/-
  The weights and the dual have one sum.
-/
namespace Go.Proofs.Ythokafaooihmbaa
open Go.RowKit

theorem inc_turn {bag : List Int} {es : List (List Int)} {v e : Nat} (hv : v < bag.length) (he : e < es.length) : inc (coverL bag es) v e = inc (packL bag es) e v := by
  rw [inc_cover hv he, inc_pack he hv]

theorem cover_congr {m u : Nat} {M M' : Nat → Nat → Rat} (h : ∀ r, r < m → ∀ e, e < u → M r e = M' r e) {x : Nat → Rat} (hx : Cov.Cover m u M x) : Cov.Cover m u M' x :=
  ⟨hx.1, fun r hr => by rw [← Cov.sm_congr (fun e he => show M r e * x e = M' r e * x e by rw [h r hr e he])]; exact hx.2 r hr⟩

theorem key_first {v : Rat} {u : Nat} {x y : Nat → Rat} (h : Cov.Lex (Cov.key v u x) (Cov.key v u y)) : v * Cov.sm u x ≤ v * Cov.sm u y := by
  rcases h with h | ⟨h, _⟩
  · exact Rat.le_of_lt h
  · rw [h]; exact Rat.le_refl

theorem sums_equal {bag : List Int} {es : List (List Int)} {x y : Nat → Rat} (hX : CoverBest bag.length es.length (inc (coverL bag es)) x) (hY : PackBest es.length bag.length (inc (packL bag es)) y) (hc : coverB bag es = true) : Cov.sm es.length x = Cov.sm bag.length y := by
  have ht : ∀ v, v < bag.length → ∀ e, e < es.length → inc (coverL bag es) v e = (fun v e => inc (packL bag es) e v) v e := fun v hv e he => inc_turn hv he
  refine Cov.duality (M := inc (packL bag es)) (fun r _ e _ => inc_nonneg _ r e) (fun v hv => ?_) (cover_congr ht hX.1) (fun z hz => ?_) hY.1 (fun z hz => ?_)
  · obtain ⟨e, he, hm⟩ := coverB_at hc hv
    exact ⟨e, he, by rw [inc_pack he hv, if_pos hm]⟩
  · have := key_first (hX.2 z (cover_congr (fun v hv e he => (ht v hv e he).symm) hz))
    grind
  · have := key_first (hY.2 z hz)
    grind

end Go.Proofs.Ythokafaooihmbaa

/-
  Sums over a part of the weights, step by step; and how they stand to 0 and 1.
-/
namespace Go.Proofs.Ythokafaooihmbaa
open Go.RowKit

def msk (n : Nat) (P : Nat → Bool) (x : Nat → Rat) : Rat := Cov.sm n (fun j => if P j = true then x j else 0)

theorem msk_congr {n : Nat} {P P' : Nat → Bool} {x : Nat → Rat} (h : ∀ j, j < n → P' j = P j) : msk n P' x = msk n P x :=
  Cov.sm_congr (fun j hj => by show (if P' j = true then x j else 0) = if P j = true then x j else 0; rw [h j hj])

theorem msk_none {n : Nat} {P : Nat → Bool} {x : Nat → Rat} (h : ∀ j, j < n → P j = false) : msk n P x = 0 :=
  Cov.sm_zero (fun j hj => by show (if P j = true then x j else 0) = 0; rw [h j hj]; rfl)

theorem msk_step {n q : Nat} {P P' : Nat → Bool} {x : Nat → Rat} (hq : q < n) (h0 : P q = false) (h : ∀ j, j < n → P' j = (P j || decide (j = q))) : msk n P' x = msk n P x + x q := by
  unfold msk
  have e : Cov.sm n (fun j => if P' j = true then x j else 0) = Cov.sm n (fun j => (if P j = true then x j else 0) + (if j = q then x q else 0)) := Cov.sm_congr (fun j hj => by
    show (if P' j = true then x j else 0) = (if P j = true then x j else 0) + (if j = q then x q else 0)
    rw [h j hj]
    by_cases e : j = q
    · subst e; rw [h0]; simp; grind
    · simp [e]; grind)
  rw [e, Cov.sm_add, Cov.sm_single (f := fun j => if j = q then x q else 0) (k := q) hq (fun i _ hi => if_neg hi), if_pos rfl]

theorem Parts.msk {u : Nat} {x : Nat → Rat} (h : Parts u x) (hu : u ≤ 7) (P : Nat → Bool) : Sm 36000 (msk u P x) := by
  refine Parts.sum (x := fun j => if P j = true then x j else 0) ?_ (Nat.le_refl u) hu
  obtain ⟨D, h0, hD, hw⟩ := h
  refine ⟨D, h0, hD, fun j hj => ?_⟩
  show Cov.Whole 5040 ((if P j = true then x j else 0) * ((D : Int) : Rat))
  cases P j
  · exact ⟨0, by simp, by simp⟩
  · simpa using hw j hj

theorem cover_ge {bag : List Int} {es : List (List Int)} {x : Nat → Rat} (hX : CoverBest bag.length es.length (inc (coverL bag es)) x) {r : Nat} (hr : r < bag.length) : 1 ≤ msk es.length (fun e => decide (bag.getD r 0 ∈ es.getD e [])) x := by
  have := hX.1.2 r hr
  have e : Cov.sm es.length (fun e => inc (coverL bag es) r e * x e) = msk es.length (fun e => decide (bag.getD r 0 ∈ es.getD e [])) x := Cov.sm_congr (fun e he => by
    show inc (coverL bag es) r e * x e = if decide (bag.getD r 0 ∈ es.getD e []) = true then x e else 0
    rw [inc_cover hr he]
    by_cases h : bag.getD r 0 ∈ es.getD e []
    · rw [if_pos h, if_pos (decide_eq_true h)]; grind
    · rw [if_neg h, if_neg (by simpa using h)]; grind)
  rw [← e]; exact this

theorem pack_le {bag : List Int} {es : List (List Int)} {y : Nat → Rat} (hY : PackBest es.length bag.length (inc (packL bag es)) y) {r : Nat} (hr : r < es.length) : msk bag.length (fun j => decide (bag.getD j 0 ∈ es.getD r [])) y ≤ 1 := by
  have := hY.1.2 r hr
  have e : Cov.sm bag.length (fun e => inc (packL bag es) r e * y e) = msk bag.length (fun j => decide (bag.getD j 0 ∈ es.getD r [])) y := Cov.sm_congr (fun e he => by
    show inc (packL bag es) r e * y e = if decide (bag.getD e 0 ∈ es.getD r []) = true then y e else 0
    rw [inc_pack hr he]
    by_cases h : bag.getD e 0 ∈ es.getD r []
    · rw [if_pos h, if_pos (decide_eq_true h)]; grind
    · rw [if_neg h, if_neg (by simpa using h)]; grind)
  rw [← e]; exact this

theorem okR_one : OkR 1 1 := okR_of (q := 1) ⟨by decide, by decide⟩
theorem okR_zero : OkR 0 1 := okR_of (q := 0) ⟨by decide, by decide⟩

theorem cmp_nonneg (q : Rat) (w : World) (hq : Sm 1000000 q) (h0 : 0 ≤ q) :
    Calls Try.prog 8 #[.agg #[.int .i64 q.num, .int .i64 q.den], .agg #[.int .i64 0, .int .i64 1]] w fun e w' => ∃ s : Int, e = .returned (.int .i64 s) ∧ 0 ≤ s ∧ Below w.heap.size w w' :=
  (iCmp_yes _ _ _ _ w (okR_of hq) okR_zero).mono (by
    rintro e w' ⟨rfl, hb⟩
    refine ⟨_, rfl, ?_, hb⟩
    have h1 : 0 ≤ q.num := Rat.num_nonneg.2 h0
    unfold RatM.sgn
    split <;> (try split) <;> omega)

theorem cmp_ge1 (q : Rat) (w : World) (hq : Sm 1000000 q) (h0 : 1 ≤ q) :
    Calls Try.prog 8 #[.agg #[.int .i64 q.num, .int .i64 q.den], .agg #[.int .i64 1, .int .i64 1]] w fun e w' => ∃ s : Int, e = .returned (.int .i64 s) ∧ (s = 0 ∨ s = 1) ∧ Below w.heap.size w w' :=
  (iCmp_yes _ _ _ _ w (okR_of hq) okR_one).mono (by
    rintro e w' ⟨rfl, hb⟩
    refine ⟨_, rfl, ?_, hb⟩
    have h1 : (q.den : Int) ≤ q.num := by
      have := (Rat.le_iff _ _).1 h0
      simpa using this
    unfold RatM.sgn
    split <;> (try split) <;> omega)

theorem cmp_le1 (q : Rat) (w : World) (hq : Sm 1000000 q) (h0 : q ≤ 1) :
    Calls Try.prog 8 #[.agg #[.int .i64 q.num, .int .i64 q.den], .agg #[.int .i64 1, .int .i64 1]] w fun e w' => ∃ s : Int, e = .returned (.int .i64 s) ∧ (s = 0 ∨ s = -1) ∧ Below w.heap.size w w' :=
  (iCmp_yes _ _ _ _ w (okR_of hq) okR_one).mono (by
    rintro e w' ⟨rfl, hb⟩
    refine ⟨_, rfl, ?_, hb⟩
    have h1 : q.num ≤ (q.den : Int) := by
      have := (Rat.le_iff _ _).1 h0
      simpa using this
    unfold RatM.sgn
    split <;> (try split) <;> omega)

/-- in a set each value stands once -/
theorem setB_mono {l : List Int} (h : setB l = true) : ∀ j, j < l.length → ∀ i, i < j → l.getD i 0 < l.getD j 0
  | 0, _, _, hi => by omega
  | j + 1, hj, i, hi => by
    have h1 : l.getD j 0 < l.getD (j + 1) 0 := by
      rcases (setB_at h hj).2.2 with h2 | h2
      · omega
      · simpa using h2
    rcases Nat.lt_or_ge i j with h2 | h2
    · have := setB_mono h j (by omega) i h2
      omega
    · have : i = j := by omega
      rw [this]; exact h1

theorem mem_take_getD {l : List Int} {x : Int} {p : Nat} : x ∈ l.take p ↔ ∃ i, i < p ∧ i < l.length ∧ l.getD i 0 = x := by
  rw [List.mem_iff_getElem]
  constructor
  · rintro ⟨i, hi, e⟩
    rw [List.length_take] at hi
    refine ⟨i, by omega, by omega, ?_⟩
    rw [List.getElem_take] at e
    rw [List.getD_eq_getElem?_getD, List.getElem?_eq_getElem (by omega)]
    exact e
  · rintro ⟨i, h1, h2, e⟩
    refine ⟨i, by rw [List.length_take]; omega, ?_⟩
    rw [List.getElem_take]
    rw [List.getD_eq_getElem?_getD, List.getElem?_eq_getElem h2] at e
    exact e

theorem take_succ_mem {l : List Int} {x : Int} {p : Nat} (hp : p < l.length) : x ∈ l.take (p + 1) ↔ x ∈ l.take p ∨ l.getD p 0 = x := by
  rw [mem_take_getD, mem_take_getD]
  constructor
  · rintro ⟨i, h1, h2, e⟩
    rcases Nat.lt_or_ge i p with h | h
    · exact Or.inl ⟨i, h, h2, e⟩
    · have : i = p := by omega
      subst this; exact Or.inr e
  · rintro (⟨i, h1, h2, e⟩ | e)
    · exact ⟨i, by omega, h2, e⟩
    · exact ⟨p, by omega, hp, e⟩

theorem set_not_before {l : List Int} (h : setB l = true) {p : Nat} (hp : p < l.length) : l.getD p 0 ∉ l.take p := by
  intro hm
  obtain ⟨i, h1, h2, e⟩ := mem_take_getD.1 hm
  have := setB_mono h p hp i h1
  omega

end Go.Proofs.Ythokafaooihmbaa

/-
  What the law of covers adds up, step by step, in numbers that are names only.
-/
namespace Go.Proofs.Ythokafaooihmbaa
open Go.RowKit

structure Acc (bag : List Int) (es : List (List Int)) (wn wd : Int) (nx dx ny dy sn sd tn td : Nat → Int) (pn pd qn qd : Nat → Nat → Nat → Int) : Prop where
  kc1 : ∀ (i : Nat) (w : World), i < es.length → Calls Try.prog 8 #[.agg #[.int .i64 (nx i), .int .i64 (dx i)], .agg #[.int .i64 0, .int .i64 1]] w fun e w' => ∃ s : Int, e = .returned (.int .i64 s) ∧ 0 ≤ s ∧ Below w.heap.size w w'
  ka1 : ∀ (i : Nat) (w : World), i < es.length → Calls Try.prog 9 #[.agg #[.int .i64 (sn i), .int .i64 (sd i)], .agg #[.int .i64 (nx i), .int .i64 (dx i)]] w fun e w' => e = .returned (.agg #[.int .i64 (sn (i + 1)), .int .i64 (sd (i + 1))]) ∧ Below w.heap.size w w'
  s0 : sn 0 = 0 ∧ sd 0 = 1
  su : sn es.length = wn ∧ sd es.length = wd
  kc2 : ∀ (i : Nat) (w : World), i < bag.length → Calls Try.prog 8 #[.agg #[.int .i64 (ny i), .int .i64 (dy i)], .agg #[.int .i64 0, .int .i64 1]] w fun e w' => ∃ s : Int, e = .returned (.int .i64 s) ∧ 0 ≤ s ∧ Below w.heap.size w w'
  ka2 : ∀ (i : Nat) (w : World), i < bag.length → Calls Try.prog 9 #[.agg #[.int .i64 (tn i), .int .i64 (td i)], .agg #[.int .i64 (ny i), .int .i64 (dy i)]] w fun e w' => e = .returned (.agg #[.int .i64 (tn (i + 1)), .int .i64 (td (i + 1))]) ∧ Below w.heap.size w w'
  t0 : tn 0 = 0 ∧ td 0 = 1
  tu : tn bag.length = wn ∧ td bag.length = wd
  wd1 : 1 ≤ wd
  p0 : ∀ r, pn r 0 0 = 0 ∧ pd r 0 0 = 1
  phit : ∀ (r i p : Nat) (w : World), r < bag.length → i < es.length → p < (es.getD i []).length → (es.getD i []).getD p 0 = bag.getD r 0 → Calls Try.prog 9 #[.agg #[.int .i64 (pn r i p), .int .i64 (pd r i p)], .agg #[.int .i64 (nx i), .int .i64 (dx i)]] w fun e w' => e = .returned (.agg #[.int .i64 (pn r i (p + 1)), .int .i64 (pd r i (p + 1))]) ∧ Below w.heap.size w w'
  pmiss : ∀ (r i p : Nat), p < (es.getD i []).length → (es.getD i []).getD p 0 ≠ bag.getD r 0 → pn r i (p + 1) = pn r i p ∧ pd r i (p + 1) = pd r i p
  pend : ∀ (r i : Nat), pn r i (es.getD i []).length = pn r (i + 1) 0 ∧ pd r i (es.getD i []).length = pd r (i + 1) 0
  pcmp : ∀ (r : Nat) (w : World), r < bag.length → Calls Try.prog 8 #[.agg #[.int .i64 (pn r es.length 0), .int .i64 (pd r es.length 0)], .agg #[.int .i64 1, .int .i64 1]] w fun e w' => ∃ s : Int, e = .returned (.int .i64 s) ∧ (s = 0 ∨ s = 1) ∧ Below w.heap.size w w'
  q0 : ∀ r, qn r 0 0 = 0 ∧ qd r 0 0 = 1
  qhit : ∀ (r p j : Nat) (w : World), r < es.length → p < (es.getD r []).length → j < bag.length → (es.getD r []).getD p 0 = bag.getD j 0 → Calls Try.prog 9 #[.agg #[.int .i64 (qn r p j), .int .i64 (qd r p j)], .agg #[.int .i64 (ny j), .int .i64 (dy j)]] w fun e w' => e = .returned (.agg #[.int .i64 (qn r p (j + 1)), .int .i64 (qd r p (j + 1))]) ∧ Below w.heap.size w w'
  qmiss : ∀ (r p j : Nat), (es.getD r []).getD p 0 ≠ bag.getD j 0 → qn r p (j + 1) = qn r p j ∧ qd r p (j + 1) = qd r p j
  qend : ∀ (r p : Nat), p < (es.getD r []).length → qn r p bag.length = qn r (p + 1) 0 ∧ qd r p bag.length = qd r (p + 1) 0
  qcmp : ∀ (r : Nat) (w : World), r < es.length → Calls Try.prog 8 #[.agg #[.int .i64 (qn r (es.getD r []).length 0), .int .i64 (qd r (es.getD r []).length 0)], .agg #[.int .i64 1, .int .i64 1]] w fun e w' => ∃ s : Int, e = .returned (.int .i64 s) ∧ (s = 0 ∨ s = -1) ∧ Below w.heap.size w w'

/-- the edges added in so far, for the variable r: those below i, and edge i if it stands in its first p places -/
def Pm (bag : List Int) (es : List (List Int)) (r i p : Nat) : Nat → Bool := fun e => (decide (e < i) && decide (bag.getD r 0 ∈ es.getD e [])) || (decide (e = i) && decide (bag.getD r 0 ∈ (es.getD i []).take p))
/-- the variables added in so far, for the edge r: those of its first p places, and the p-th, if it is among the first j -/
def Qm (bag : List Int) (es : List (List Int)) (r p j : Nat) : Nat → Bool := fun v => decide (bag.getD v 0 ∈ (es.getD r []).take p) || (decide ((es.getD r []).getD p 0 = bag.getD v 0) && decide (v < j))

theorem edge_set {es : List (List Int)} (h : edgesB es = true) {i : Nat} (hi : i < es.length) : setB (es.getD i []) = true := by
  unfold edgesB at h
  simp only [Bool.and_eq_true] at h
  refine List.all_eq_true.1 h.2 _ ?_
  refine List.mem_of_getElem? (i := i) ?_
  simp [List.getD_eq_getElem?_getD, hi]

theorem acc_exists {bag : List Int} {es : List (List Int)} {x y : Nat → Rat} (h2 : edgesB es = true) (h1 : setB bag = true) (h3 : coverB bag es = true) (hX : CoverBest bag.length es.length (inc (coverL bag es)) x) (hY : PackBest es.length bag.length (inc (packL bag es)) y) (hPX : Parts es.length x) (hPY : Parts bag.length y) :
    ∃ sn sd tn td pn pd qn qd, Acc bag es (Cov.sm es.length x).num ((Cov.sm es.length x).den : Int) (fun i => (x i).num) (fun i => ((x i).den : Int)) (fun i => (y i).num) (fun i => ((y i).den : Int)) sn sd tn td pn pd qn qd := by
  have hb6 := setB_len h1
  have he7 := edgesB_len h2
  have sx : ∀ i, i < es.length → Sm 1000000 (x i) := fun i hi => (hPX.sm hi).mono (by omega)
  have sy : ∀ i, i < bag.length → Sm 1000000 (y i) := fun i hi => (hPY.sm hi).mono (by omega)
  have ssx : ∀ i, i ≤ es.length → Sm 1000000 (Cov.sm i x) := fun i hi => (hPX.sum hi he7).mono (by omega)
  have ssy : ∀ i, i ≤ bag.length → Sm 1000000 (Cov.sm i y) := fun i hi => (hPY.sum hi (by omega)).mono (by omega)
  have smx : ∀ P, Sm 1000000 (msk es.length P x) := fun P => (hPX.msk he7 P).mono (by omega)
  have smy : ∀ P, Sm 1000000 (msk bag.length P y) := fun P => (hPY.msk (by omega) P).mono (by omega)
  refine ⟨fun i => (Cov.sm i x).num, fun i => ((Cov.sm i x).den : Int), fun i => (Cov.sm i y).num, fun i => ((Cov.sm i y).den : Int),
    fun r i p => (msk es.length (Pm bag es r i p) x).num, fun r i p => ((msk es.length (Pm bag es r i p) x).den : Int),
    fun r p j => (msk bag.length (Qm bag es r p j) y).num, fun r p j => ((msk bag.length (Qm bag es r p j) y).den : Int), ?_⟩
  have num0 : ∀ q : Rat, q = 0 → q.num = 0 ∧ (q.den : Int) = 1 := fun q hq => by rw [hq]; exact ⟨rfl, rfl⟩
  have same : ∀ p q : Rat, p = q → p.num = q.num ∧ (p.den : Int) = (q.den : Int) := fun p q h => by rw [h]; exact ⟨rfl, rfl⟩
  refine ⟨fun i w hi => cmp_nonneg (x i) w (sx i hi) (hX.1.1 i hi), fun i w hi => addR (Cov.sm i x) (x i) w (ssx i (by omega)) (sx i hi) (ssx (i + 1) hi), ⟨rfl, rfl⟩, ⟨rfl, rfl⟩,
    fun i w hi => cmp_nonneg (y i) w (sy i hi) (hY.1.1 i hi), fun i w hi => addR (Cov.sm i y) (y i) w (ssy i (by omega)) (sy i hi) (ssy (i + 1) hi), ⟨rfl, rfl⟩, ?_, ?_, ?_, ?_, ?_, ?_, ?_, ?_, ?_, ?_, ?_, ?_⟩
  · exact same _ _ (sums_equal hX hY h3).symm
  · have := (Cov.sm es.length x).den_pos
    omega
  · intro r
    refine num0 _ (msk_none (fun j _ => ?_))
    simp [Pm]
  · intro r i p w hr hi hp he
    have hs := edge_set h2 hi
    have hnot : bag.getD r 0 ∉ (es.getD i []).take p := by rw [← he]; exact set_not_before hs hp
    have e := msk_step (P := Pm bag es r i p) (P' := Pm bag es r i (p + 1)) (x := x) hi (by simp only [Pm, Nat.lt_irrefl, decide_false, Bool.false_and, decide_true, Bool.true_and, Bool.false_or]; exact decide_eq_false hnot) (fun j _ => by
      by_cases hj : j = i
      · subst hj
        have : bag.getD r 0 ∈ (es.getD j []).take (p + 1) := (take_succ_mem hp).2 (Or.inr he)
        simp only [Pm, Nat.lt_irrefl, decide_false, Bool.false_and, decide_true, Bool.true_and, Bool.false_or, decide_eq_true this, Bool.or_true]
      · simp only [Pm, decide_eq_false hj, Bool.false_and, Bool.or_false])
    have := addR (msk es.length (Pm bag es r i p) x) (x i) w (smx _) (sx i hi) (by rw [← e]; exact smx _)
    rw [← e] at this
    exact this
  · intro r i p hp he
    refine same _ _ (msk_congr (fun j _ => ?_))
    by_cases hj : j = i
    · subst hj
      have : decide (bag.getD r 0 ∈ (es.getD j []).take (p + 1)) = decide (bag.getD r 0 ∈ (es.getD j []).take p) := by
        rw [decide_eq_decide, take_succ_mem hp]
        exact ⟨fun h => h.resolve_right he, Or.inl⟩
      simp only [Pm, this]
    · simp only [Pm, decide_eq_false hj, Bool.false_and]
  · intro r i
    refine same _ _ (msk_congr (fun j _ => ?_))
    simp only [Pm, List.take_length, List.take_zero, List.not_mem_nil, decide_false, Bool.and_false, Bool.or_false]
    by_cases hj : j = i
    · subst hj; simp
    · by_cases hl : j < i
      · have : j < i + 1 := by omega
        simp [hl, this, hj]
      · have : ¬ j < i + 1 := by omega
        simp [hl, this, hj]
  · intro r w hr
    refine cmp_ge1 _ w (smx _) ?_
    have e : msk es.length (Pm bag es r es.length 0) x = msk es.length (fun e => decide (bag.getD r 0 ∈ es.getD e [])) x := msk_congr (fun j hj => by
      have : ¬ j = es.length := by omega
      simp [Pm, hj, this])
    rw [e]; exact cover_ge hX hr
  · intro r
    refine num0 _ (msk_none (fun j _ => ?_))
    simp [Qm]
  · intro r p j w hr hp hj he
    have hs := edge_set h2 hr
    have hnot : bag.getD j 0 ∉ (es.getD r []).take p := by rw [← he]; exact set_not_before hs hp
    have e := msk_step (P := Qm bag es r p j) (P' := Qm bag es r p (j + 1)) (x := y) hj (by simp only [Qm, Nat.lt_irrefl, decide_false, Bool.and_false, Bool.or_false]; exact decide_eq_false hnot) (fun v _ => by
      by_cases hv : v = j
      · subst hv
        simp only [Qm, decide_eq_true he, Nat.lt_succ_self, decide_true, Bool.and_true, Bool.or_true]
      · have : decide (v < j + 1) = decide (v < j) := by rw [decide_eq_decide]; omega
        simp only [Qm, this, decide_eq_false hv, Bool.or_false])
    have := addR (msk bag.length (Qm bag es r p j) y) (y j) w (smy _) (sy j hj) (by rw [← e]; exact smy _)
    rw [← e] at this
    exact this
  · intro r p j he
    refine same _ _ (msk_congr (fun v _ => ?_))
    by_cases hv : v = j
    · subst hv
      simp only [Qm, decide_eq_false he, Bool.false_and]
    · have : decide (v < j + 1) = decide (v < j) := by rw [decide_eq_decide]; omega
      simp only [Qm, this]
  · intro r p hp
    refine same _ _ (msk_congr (fun v hv => ?_))
    have : decide (bag.getD v 0 ∈ (es.getD r []).take (p + 1)) = (decide (bag.getD v 0 ∈ (es.getD r []).take p) || decide ((es.getD r []).getD p 0 = bag.getD v 0)) := by
      rw [← Bool.decide_or, decide_eq_decide, take_succ_mem hp]
    simp only [Qm, this, hv, decide_true, Bool.and_true, Nat.not_lt_zero, decide_false, Bool.and_false, Bool.or_false]
  · intro r w hr
    refine cmp_le1 _ w (smy _) ?_
    have e : msk bag.length (Qm bag es r (es.getD r []).length 0) y = msk bag.length (fun j => decide (bag.getD j 0 ∈ es.getD r [])) y := msk_congr (fun j hj => by
      simp only [Qm, List.take_length, Nat.not_lt_zero, decide_false, Bool.and_false, Bool.or_false])
    rw [e]; exact pack_le hY hr

end Go.Proofs.Ythokafaooihmbaa

/-
  The model's operations over rationals.
-/
namespace Go.Proofs.Ythokafaooihmbaa
open Go.RowKit

theorem enc_le {p q : Rat} {B C : Nat} (hp : Sm B p) (hq : Sm C q) (h : B * C ≤ 4500000000000000000) :
    (-4500000000000000000 ≤ p.num * (q.den : Int) ∧ p.num * (q.den : Int) ≤ 4500000000000000000) ∧ (-4500000000000000000 ≤ q.num * (p.den : Int) ∧ q.num * (p.den : Int) ≤ 4500000000000000000) ∧ (-4500000000000000000 ≤ (p.den : Int) * (q.den : Int) ∧ (p.den : Int) * (q.den : Int) ≤ 4500000000000000000) := by
  have h1 := prod_bd hp.1 (show ((q.den : Nat) : Int).natAbs ≤ C by rw [den_abs]; exact hq.2) h
  have h2 := prod_bd (a := q.num) (b := (p.den : Int)) (B := C) (C := B) hq.1 (by rw [den_abs]; exact hp.2) (by rw [Nat.mul_comm]; exact h)
  have h3 := prod_bd (a := (p.den : Int)) (b := (q.den : Int)) (B := B) (C := C) (by rw [den_abs]; exact hp.2) (by rw [den_abs]; exact hq.2) h
  exact ⟨h1, h2, h3⟩

theorem splusV (p q : Rat) (w : World) {B C : Nat} (hp : Sm B p) (hq : Sm C q) (h : B * C ≤ 4500000000000000000) :
    Calls Try.prog 40 #[.agg #[.int .i64 (p).num, .int .i64 (p).den], .agg #[.int .i64 (q).num, .int .i64 (q).den]] w fun e w' => e = .returned (.agg #[.int .i64 (p + q).num, .int .i64 (p + q).den]) ∧ Below w.heap.size w w' := by
  obtain ⟨h1, h2, h3⟩ := enc_le hp hq h
  have hne : (p.den : Int) * (q.den : Int) ≠ 0 := Int.mul_ne_zero (by have := p.den_nz; omega) (by have := q.den_nz; omega)
  have := splus_calls p.num p.den q.num q.den w h1.1 h1.2 h2.1 h2.2 h3.1 h3.2 hne
  rw [enc_fr (p.num * q.den + q.num * p.den) (p.den * q.den) hne (p + q) (by
    rw [← Rat.divInt_add_divInt _ _ (by have := p.den_nz; omega) (by have := q.den_nz; omega), Rat.num_divInt_den, Rat.num_divInt_den])] at this
  exact this

theorem sminusV (p q : Rat) (w : World) {B C : Nat} (hp : Sm B p) (hq : Sm C q) (h : B * C ≤ 4500000000000000000) :
    Calls Try.prog 49 #[.agg #[.int .i64 (p).num, .int .i64 (p).den], .agg #[.int .i64 (q).num, .int .i64 (q).den]] w fun e w' => e = .returned (.agg #[.int .i64 (p - q).num, .int .i64 (p - q).den]) ∧ Below w.heap.size w w' := by
  obtain ⟨h1, h2, h3⟩ := enc_le hp hq h
  have hne : (p.den : Int) * (q.den : Int) ≠ 0 := Int.mul_ne_zero (by have := p.den_nz; omega) (by have := q.den_nz; omega)
  have := sminus_calls p.num p.den q.num q.den w h1.1 h1.2 h2.1 h2.2 h3.1 h3.2 hne
  rw [enc_fr (p.num * q.den - q.num * p.den) (p.den * q.den) hne (p - q) (by
    rw [← Rat.divInt_sub_divInt _ _ (by have := p.den_nz; omega) (by have := q.den_nz; omega), Rat.num_divInt_den, Rat.num_divInt_den])] at this
  exact this

theorem stimesV (p q : Rat) (w : World) {B C : Nat} (hp : Sm B p) (hq : Sm C q) (h : B * C ≤ 4500000000000000000) :
    Calls Try.prog 50 #[.agg #[.int .i64 (p).num, .int .i64 (p).den], .agg #[.int .i64 (q).num, .int .i64 (q).den]] w fun e w' => e = .returned (.agg #[.int .i64 (p * q).num, .int .i64 (p * q).den]) ∧ Below w.heap.size w w' := by
  obtain ⟨h1, h2, h3⟩ := enc_le hp hq h
  have hne : (p.den : Int) * (q.den : Int) ≠ 0 := Int.mul_ne_zero (by have := p.den_nz; omega) (by have := q.den_nz; omega)
  have h4 := prod_bd hp.1 hq.1 h
  have := stimes_calls p.num p.den q.num q.den w h4.1 h4.2 h3.1 h3.2 hne
  rw [enc_fr (p.num * q.num) (p.den * q.den) hne (p * q) (by
    rw [← Rat.divInt_mul_divInt, Rat.num_divInt_den, Rat.num_divInt_den])] at this
  exact this

theorem soverV (p q : Rat) (w : World) {B C : Nat} (hp : Sm B p) (hq : Sm C q) (h : B * C ≤ 4500000000000000000) (hq0 : q ≠ 0) :
    Calls Try.prog 48 #[.agg #[.int .i64 (p).num, .int .i64 (p).den], .agg #[.int .i64 (q).num, .int .i64 (q).den]] w fun e w' => e = .returned (.agg #[.int .i64 (p / q).num, .int .i64 (p / q).den]) ∧ Below w.heap.size w w' := by
  obtain ⟨h1, h2, h3⟩ := enc_le hp hq h
  have hn := num_ne hq0
  have hne : (p.den : Int) * q.num ≠ 0 := Int.mul_ne_zero (by have := p.den_nz; omega) hn
  have h5 : -4500000000000000000 ≤ (p.den : Int) * q.num ∧ (p.den : Int) * q.num ≤ 4500000000000000000 := by rw [Int.mul_comm]; exact h2
  have := sover_calls p.num p.den q.num q.den w h1.1 h1.2 h5.1 h5.2 hne
  rw [enc_fr (p.num * q.den) (p.den * q.num) hne (p / q) (by
    rw [← Rat.divInt_mul_divInt, Rat.num_divInt_den, ← Rat.inv_divInt, Rat.num_divInt_den, Rat.div_def])] at this
  exact this

theorem slessV (p q : Rat) (w : World) {B C : Nat} (hp : Sm B p) (hq : Sm C q) (h : B * C ≤ 4500000000000000000) :
    Calls Try.prog 51 #[.agg #[.int .i64 (p).num, .int .i64 (p).den], .agg #[.int .i64 (q).num, .int .i64 (q).den]] w fun e w' => e = .returned (.bool (decide (p < q))) ∧ Below w.heap.size w w' := by
  obtain ⟨h1, h2, h3⟩ := enc_le hp hq h
  have := sless_calls p.num p.den q.num q.den w h1.1 h1.2 h2.1 h2.2
  rw [show decide (p.num * (q.den : Int) < q.num * (p.den : Int)) = decide (p < q) from by
    rw [decide_eq_decide]
    exact Rat.lt_iff p q |>.symm] at this
  exact this

end Go.Proofs.Ythokafaooihmbaa

/-
  Demands in memory; spec.l1Meets.
-/
namespace Go.Proofs.Ythokafaooihmbaa
open Go.RowKit

structure Dem where
  pl : List Nat
  up : Bool
  bd : Int

def dem0 : Dem := ⟨[], false, 0⟩
def Dem.dm (d : Dem) : Cov.Dm := ⟨fun i => if i ∈ d.pl then 1 else 0, d.up, ((d.bd : Int) : Rat)⟩

/-- a demand that is fit for n numbers -/
structure DemOk (n : Nat) (d : Dem) : Prop where
  nd : d.pl.Nodup
  lt : ∀ i ∈ d.pl, i < n
  len : d.pl.length ≤ 7
  bd : d.bd = 0 ∨ d.bd = 1

/-- the sum over the first k places -/
def lsum (l : List Nat) (x : Nat → Rat) : Nat → Rat
  | 0 => 0
  | k + 1 => lsum l x k + x (l.getD k 0)

theorem take_mem (l : List Nat) (k : Nat) (h : k < l.length) (i : Nat) : i ∈ l.take (k + 1) ↔ i ∈ l.take k ∨ i = l.getD k 0 := by
  rw [List.take_add_one, List.getElem?_eq_getElem h, List.getD_eq_getElem?_getD, List.getElem?_eq_getElem h, List.mem_append]
  simp only [Option.toList_some, List.mem_singleton, Option.getD_some]

theorem lsum_at {l : List Nat} {n : Nat} (x : Nat → Rat) (hn : l.Nodup) (hl : ∀ i ∈ l, i < n) : ∀ k, k ≤ l.length → lsum l x k = Cov.sm n (fun i => (if i ∈ l.take k then 1 else 0) * x i)
  | 0, _ => by
    symm
    exact Cov.sm_zero (fun i _ => by simp)
  | k + 1, hk => by
    have hkl : k < l.length := by omega
    have hm : l.getD k 0 ∈ l := by
      rw [List.getD_eq_getElem?_getD, List.getElem?_eq_getElem hkl]
      exact List.getElem_mem _
    have hnot : l.getD k 0 ∉ l.take k := by
      intro h
      obtain ⟨j, hj, e⟩ := List.mem_iff_getElem.1 h
      rw [List.length_take] at hj
      rw [List.getElem_take, List.getD_eq_getElem?_getD, List.getElem?_eq_getElem hkl] at e
      simp only [Option.getD_some] at e
      exact (List.pairwise_iff_getElem.1 hn) j k (by omega) hkl (by omega) e
    show lsum l x k + x (l.getD k 0) = _
    rw [lsum_at x hn hl k (by omega)]
    have e1 : x (l.getD k 0) = Cov.sm n (fun i => (if i = l.getD k 0 then 1 else 0) * x i) := by
      rw [Cov.sm_single (hl _ hm) (fun i _ hne => by rw [if_neg hne]; grind), if_pos rfl]; grind
    rw [e1, ← Cov.sm_add]
    refine Cov.sm_congr (fun i _ => ?_)
    by_cases h1 : i ∈ l.take k
    · have h2 : i ≠ l.getD k 0 := fun e => hnot (e ▸ h1)
      rw [if_pos h1, if_neg h2, if_pos ((take_mem l k hkl i).2 (Or.inl h1))]; grind
    · by_cases h2 : i = l.getD k 0
      · rw [if_neg h1, if_pos h2, if_pos ((take_mem l k hkl i).2 (Or.inr h2))]; grind
      · rw [if_neg h1, if_neg h2, if_neg (fun h => by rcases (take_mem l k hkl i).1 h with h3 | h3; exact h1 h3; exact h2 h3)]; grind

theorem lsum_dm {n : Nat} {d : Dem} (x : Nat → Rat) (h : DemOk n d) : lsum d.pl x d.pl.length = d.dm.at n x := by
  rw [lsum_at x h.nd h.lt _ (Nat.le_refl _), List.take_length]
  rfl

theorem lsum_whole {n : Nat} {x : Nat → Rat} {l : List Nat} {D : Int} (hl : ∀ i ∈ l, i < n) (hw : ∀ j, j < n → Cov.Whole 5040 (x j * ((D : Int) : Rat))) : ∀ k, k ≤ l.length → Cov.Whole (k * 5040) (lsum l x k * ((D : Int) : Rat))
  | 0, _ => ⟨0, by show (0 : Rat) * _ = _; grind, by simp⟩
  | k + 1, hk => by
    have hm : l.getD k 0 ∈ l := by
      rw [List.getD_eq_getElem?_getD, List.getElem?_eq_getElem (by omega)]
      exact List.getElem_mem _
    have := (lsum_whole hl hw k (by omega)).add (hw _ (hl _ hm))
    show Cov.Whole ((k + 1) * 5040) ((lsum l x k + x (l.getD k 0)) * _)
    rw [show (lsum l x k + x (l.getD k 0)) * ((D : Int) : Rat) = lsum l x k * ((D : Int) : Rat) + x (l.getD k 0) * ((D : Int) : Rat) by grind, show (k + 1) * 5040 = k * 5040 + 5040 by omega]
    exact this

theorem Parts.lsum {n : Nat} {x : Nat → Rat} (h : Parts n x) {d : Dem} (hd : DemOk n d) {k : Nat} (hk : k ≤ d.pl.length) : Sm 36000 (lsum d.pl x k) := by
  obtain ⟨D, h0, hD, hw⟩ := h
  have hl := hd.len
  refine sm_of_whole h0 (by omega) (lsum_whole hd.lt hw k hk) ?_
  have : k * 5040 ≤ 7 * 5040 := Nat.mul_le_mul (by omega) (Nat.le_refl _)
  omega

/-- whether a demand is met, as the model asks it -/
noncomputable def metB (n : Nat) (d : Dem) (x : Nat → Rat) : Bool := if d.up then !decide (d.dm.b < d.dm.at n x) else !decide (d.dm.at n x < d.dm.b)

theorem metB_iff {n : Nat} {d : Dem} {x : Nat → Rat} : metB n d x = true ↔ d.dm.meets n x := by
  unfold metB Cov.Dm.meets
  cases h : d.up
  · rw [show d.dm.up = false from h]
    simp only [Bool.false_eq_true, if_false, Bool.not_eq_true', decide_eq_false_iff_not]
    exact Rat.not_lt
  · rw [show d.dm.up = true from h]
    simp only [if_true, Bool.not_eq_true', decide_eq_false_iff_not]
    exact Rat.not_lt

/-- a demand's value -/
def dval (u : Value) (d : Dem) : Value := .agg #[u, .bool d.up, .int .i64 d.bd]

end Go.Proofs.Ythokafaooihmbaa
