import Derived.Test.YtnmcgbfhgmmcpaaW04
import Derived.Test.YtnmcgbfhgmmcpaaW25
/-
  impl.CoverOf.
-/
namespace Go.Proofs.Ytnmcgbfhgmmcpaa
open Go.RowKit

/-- five cells -/
def f5 (x y z u v : Value) : Nat → Value
  | 0 => x
  | 1 => y
  | 2 => z
  | 3 => u
  | _ => v
theorem ArrAt.five {w : World} {k : Nat} {x y z u v : Value} (h : ArrAt w k 5 (f5 x y z u v)) : w.cell? ⟨k, 0, none⟩ = some x ∧ w.cell? ⟨k, 1, none⟩ = some y ∧ w.cell? ⟨k, 2, none⟩ = some z ∧ w.cell? ⟨k, 3, none⟩ = some u ∧ w.cell? ⟨k, 4, none⟩ = some v := ⟨h.cell 0 (by omega), h.cell 1 (by omega), h.cell 2 (by omega), h.cell 3 (by omega), h.cell 4 (by omega)⟩
theorem ArrAt.frees {w : World} {k : Nat} {f : Nat → Value} (h : ArrAt w k 5 f) : w.frozen? ⟨k, 0, none⟩ = false ∧ w.frozen? ⟨k, 1, none⟩ = false ∧ w.frozen? ⟨k, 2, none⟩ = false ∧ w.frozen? ⟨k, 3, none⟩ = false ∧ w.frozen? ⟨k, 4, none⟩ = false := ⟨h.free 0 (by omega), h.free 1 (by omega), h.free 2 (by omega), h.free 3 (by omega), h.free 4 (by omega)⟩

theorem ArrAt.five_set {w : World} {k : Nat} {x y z u v : Value} (h : ArrAt w k 5 (f5 x y z u v)) (x' y' z' u' v' : Value) :
    ArrAt (((((w.setCell ⟨k, 0, none⟩ x').setCell ⟨k, 1, none⟩ y').setCell ⟨k, 2, none⟩ z').setCell ⟨k, 3, none⟩ u').setCell ⟨k, 4, none⟩ v') k 5 (f5 x' y' z' u' v') := by
  have := ((((h.set (i := 0) (by omega) x').set (i := 1) (by omega) y').set (i := 2) (by omega) z').set (i := 3) (by omega) u').set (i := 4) (by omega) v'
  refine ⟨fun j hj => ?_, this.free⟩
  rw [this.cell j hj]
  match j, hj with
  | 0, _ => rfl
  | 1, _ => rfl
  | 2, _ => rfl
  | 3, _ => rfl
  | 4, _ => rfl

def zCover : Obj := .cells #[.bool false, .int .i64 0, .int .i64 0, .slice none 0 0, .slice none 0 0] 31

theorem coverL_len (bag : List Int) (es : List (List Int)) : (coverL bag es).length = bag.length := by simp [coverL]
theorem packL_len (bag : List Int) (es : List (List Int)) : (packL bag es).length = es.length := by simp [packL]
theorem coverL_get (bag : List Int) (es : List (List Int)) {i : Nat} (h : i < bag.length) : (coverL bag es).getD i [] = plN (fun k => decide (bag.getD i 0 ∈ es.getD k [])) es.length := by
  unfold coverL
  rw [List.getD_eq_getElem?_getD, List.getElem?_map, List.getD_eq_getElem?_getD (l := bag), List.getElem?_eq_getElem h]
  rfl
theorem packL_get (bag : List Int) (es : List (List Int)) {i : Nat} (h : i < es.length) : (packL bag es).getD i [] = plN (fun k => decide (bag.getD k 0 ∈ es.getD i [])) bag.length := by
  unfold packL
  rw [List.getD_eq_getElem?_getD, List.getElem?_map, List.getD_eq_getElem?_getD (l := es), List.getElem?_eq_getElem h]
  rfl
theorem plN_len (p : Nat → Bool) (k : Nat) : (plN p k).length ≤ k := by
  have := List.length_filter_le p (List.range k)
  rw [List.length_range] at this
  exact this
theorem plN_mem {p : Nat → Bool} {k j : Nat} : j ∈ plN p k ↔ j < k ∧ p j = true := by
  unfold plN
  rw [List.mem_filter, List.mem_range]

/-- who stands where -/
def mat (bag : List Int) (es : List (List Int)) (v e : Nat) : Prop := bag.getD v 0 ∈ es.getD e []
theorem inc_cover {bag : List Int} {es : List (List Int)} {r e : Nat} (hr : r < bag.length) (he : e < es.length) : inc (coverL bag es) r e = if bag.getD r 0 ∈ es.getD e [] then 1 else 0 := by
  unfold inc
  rw [coverL_get bag es hr]
  by_cases h : bag.getD r 0 ∈ es.getD e []
  · rw [if_pos h, if_pos (plN_mem.2 ⟨he, decide_eq_true h⟩)]
  · rw [if_neg h, if_neg (fun h2 => h (of_decide_eq_true (plN_mem.1 h2).2))]
theorem inc_pack {bag : List Int} {es : List (List Int)} {r e : Nat} (hr : r < es.length) (he : e < bag.length) : inc (packL bag es) r e = if bag.getD e 0 ∈ es.getD r [] then 1 else 0 := by
  unfold inc
  rw [packL_get bag es hr]
  by_cases h : bag.getD e 0 ∈ es.getD r []
  · rw [if_pos h, if_pos (plN_mem.2 ⟨he, decide_eq_true h⟩)]
  · rw [if_neg h, if_neg (fun h2 => h (of_decide_eq_true (plN_mem.1 h2).2))]

theorem coverB_at {bag : List Int} {es : List (List Int)} (h : coverB bag es = true) {v : Nat} (hv : v < bag.length) : ∃ e, e < es.length ∧ bag.getD v 0 ∈ es.getD e [] := by
  unfold coverB at h
  have := List.all_eq_true.1 h (bag.getD v 0) (mem_getD hv)
  obtain ⟨x, hx, hm⟩ := List.any_eq_true.1 this
  obtain ⟨e, he, rfl⟩ := List.mem_iff_getElem.1 hx
  refine ⟨e, he, ?_⟩
  rw [List.getD_eq_getElem?_getD (l := es), List.getElem?_eq_getElem he]
  exact of_decide_eq_true hm

theorem setB_at {l : List Int} (h : setB l = true) {i : Nat} (hi : i < l.length) : 0 ≤ l.getD i 0 ∧ l.getD i 0 < 6 ∧ (i = 0 ∨ l.getD (i - 1) 0 < l.getD i 0) := by
  have := List.all_eq_true.1 h i (List.mem_range.2 hi)
  unfold okAt at this
  simp only [Bool.and_eq_true, Bool.or_eq_true, decide_eq_true_eq] at this
  exact ⟨this.1.1, this.1.2, this.2⟩

theorem setB_ge {l : List Int} (h : setB l = true) : ∀ i, i < l.length → (i : Int) ≤ l.getD i 0
  | 0, hi => by have := (setB_at h hi).1; simpa using this
  | i + 1, hi => by
    have h1 := setB_ge h i (by omega)
    rcases (setB_at h hi).2.2 with h2 | h2
    · omega
    · rw [show i + 1 - 1 = i by omega] at h2
      omega

theorem setB_len {l : List Int} (h : setB l = true) : l.length ≤ 6 := by
  rcases Nat.lt_or_ge 6 l.length with h1 | h1
  · have h2 := setB_ge h 6 h1
    have h3 := (setB_at h h1).2.1
    omega
  · exact h1

theorem edgesB_len {es : List (List Int)} (h : edgesB es = true) : es.length ≤ 7 := by
  unfold edgesB at h
  simp only [Bool.and_eq_true, decide_eq_true_eq] at h
  exact h.1

set_option maxHeartbeats 1000000 in
set_option maxRecDepth 100000 in
theorem coverOf_no (w : World) (vb ve : Value) (bag : List Int) (es : List (List Int)) (hb : IS w vb bag) (h : ISS w ve es) (hlb : bag.length ≤ 1099511627776) (hl : Short es) (hno : (setB bag && edgesB es && coverB bag es) = false) :
    Calls Try.prog 9 #[vb, ve] w fun e w' => e = .returned (.agg #[.bool false, .int .i64 0, .int .i64 0, .slice none 0 0, .slice none 0 0]) ∧ Below w.heap.size w w' := by
  have HB := hid hb
  have HE := hid h
  have HL := hid hl
  obtain ⟨a, cap, rfl, -⟩ := hb
  obtain ⟨a', cap', rfl, -⟩ := h
  have hA : Below w.heap.size w (w.alloc (.cells #[.bool false, .int .i64 0, .int .i64 0, .slice none 0 0, .slice none 0 0] 31)) := (Below.refl _ _).alloc (Nat.le_refl _) _
  have hs : w.heap.size < (w.alloc (.cells #[.bool false, .int .i64 0, .int .i64 0, .slice none 0 0, .slice none 0 0] 31)).heap.size := by simp
  have hc : ArrAt (w.alloc (.cells #[.bool false, .int .i64 0, .int .i64 0, .slice none 0 0, .slice none 0 0] 31)) w.heap.size 5 (f5 (.bool false) (.int .i64 0) (.int .i64 0) (.slice none 0 0) (.slice none 0 0)) := arrAt_alloc w 5 (f5 (.bool false) (.int .i64 0) (.int .i64 0) (.slice none 0 0) (.slice none 0 0)) 31
  cases h1 : setB bag
  · clear hno
    have K1 : Hid (∀ W, IS W (.slice a bag.length cap) bag → Calls Try.prog 41 #[.slice a bag.length cap] W fun e w' => e = .returned (.bool false) ∧ w' = W) := hid (fun W hW => by have := isVariableSet_calls W _ bag hW hlb; rw [h1] at this; exact this)
    go_enter Try.func9, Try.ntmps9
    go_upto_region 1 with fail
    generalize w.alloc (.cells #[.bool false, .int .i64 0, .int .i64 0, .slice none 0 0, .slice none 0 0] 31) = W at *
    obtain ⟨c0, c1, c2, c3, c4⟩ := hc.five
    obtain ⟨d0, d1, d2, d3, d4⟩ := hc.frees
    go_wp2_with (first | (go_at_call 41; refine (K1.out _ (HB.out.below hA)).mono ?_; rintro e w' ⟨rfl, hw'⟩; subst w'))
    have hz := hc.five_set (.bool false) (.int .i64 0) (.int .i64 0) (.slice none 0 0) (.slice none 0 0)
    obtain ⟨r0, r1, r2, r3, r4⟩ := hz.five
    refine bodyPost_ret (v := .agg #[.bool false, .int .i64 0, .int .i64 0, .slice none 0 0, .slice none 0 0]) (by simp [results, Try.results9, go_sem, r0, r1, r2, r3, r4]) rfl ⟨rfl, ?_⟩
    exact ((((hA.setCell (Nat.le_refl _) _).setCell (Nat.le_refl _) _).setCell (Nat.le_refl _) _).setCell (Nat.le_refl _) _).setCell (Nat.le_refl _) _
  cases h2 : edgesB es
  · clear hno
    have K1 : Hid (∀ W, IS W (.slice a bag.length cap) bag → Calls Try.prog 41 #[.slice a bag.length cap] W fun e w' => e = .returned (.bool true) ∧ w' = W) := hid (fun W hW => by have := isVariableSet_calls W _ bag hW hlb; rw [h1] at this; exact this)
    have K2 : Hid (∀ W, ISS W (.slice a' es.length cap') es → Calls Try.prog 42 #[.slice a' es.length cap'] W fun e w' => e = .returned (.bool false) ∧ w' = W) := hid (fun W hW => by have := areEdges_calls W _ es hW hl; rw [h2] at this; exact this)
    go_enter Try.func9, Try.ntmps9
    go_upto_region 1 with fail
    generalize w.alloc (.cells #[.bool false, .int .i64 0, .int .i64 0, .slice none 0 0, .slice none 0 0] 31) = W at *
    obtain ⟨c0, c1, c2, c3, c4⟩ := hc.five
    obtain ⟨d0, d1, d2, d3, d4⟩ := hc.frees
    go_wp2_with (first | (go_at_call 41; refine (K1.out _ (HB.out.below hA)).mono ?_; rintro e w' ⟨rfl, hw'⟩; subst w') | (go_at_call 42; refine (K2.out _ (HE.out.below hA)).mono ?_; rintro e w' ⟨rfl, hw'⟩; subst w'))
    have hz := hc.five_set (.bool false) (.int .i64 0) (.int .i64 0) (.slice none 0 0) (.slice none 0 0)
    obtain ⟨r0, r1, r2, r3, r4⟩ := hz.five
    refine bodyPost_ret (v := .agg #[.bool false, .int .i64 0, .int .i64 0, .slice none 0 0, .slice none 0 0]) (by simp [results, Try.results9, go_sem, r0, r1, r2, r3, r4]) rfl ⟨rfl, ?_⟩
    exact ((((hA.setCell (Nat.le_refl _) _).setCell (Nat.le_refl _) _).setCell (Nat.le_refl _) _).setCell (Nat.le_refl _) _).setCell (Nat.le_refl _) _
  cases h3 : coverB bag es
  · clear hno
    have K1 : Hid (∀ W, IS W (.slice a bag.length cap) bag → Calls Try.prog 41 #[.slice a bag.length cap] W fun e w' => e = .returned (.bool true) ∧ w' = W) := hid (fun W hW => by have := isVariableSet_calls W _ bag hW hlb; rw [h1] at this; exact this)
    have K2 : Hid (∀ W, ISS W (.slice a' es.length cap') es → Calls Try.prog 42 #[.slice a' es.length cap'] W fun e w' => e = .returned (.bool true) ∧ w' = W) := hid (fun W hW => by have := areEdges_calls W _ es hW hl; rw [h2] at this; exact this)
    have K3 : Hid (∀ W, IS W (.slice a bag.length cap) bag → ISS W (.slice a' es.length cap') es → Calls Try.prog 43 #[.slice a bag.length cap, .slice a' es.length cap'] W fun e w' => e = .returned (.bool false) ∧ Below W.heap.size W w') := hid (fun W hW hW' => by have := inEdges_calls W _ _ bag es hW hW' hlb hl; rw [h3] at this; exact this)
    go_enter Try.func9, Try.ntmps9
    go_upto_region 1 with fail
    generalize w.alloc (.cells #[.bool false, .int .i64 0, .int .i64 0, .slice none 0 0, .slice none 0 0] 31) = W at *
    obtain ⟨c0, c1, c2, c3, c4⟩ := hc.five
    obtain ⟨d0, d1, d2, d3, d4⟩ := hc.frees
    go_wp2_with (first | (go_at_call 41; refine (K1.out _ (HB.out.below hA)).mono ?_; rintro e w' ⟨rfl, hw'⟩; subst w') | (go_at_call 42; refine (K2.out _ (HE.out.below hA)).mono ?_; rintro e w' ⟨rfl, hw'⟩; subst w') | (go_at_call 43; refine (K3.out _ (HB.out.below hA) (HE.out.below hA)).mono ?_; rintro e w9 ⟨rfl, hb9⟩; have hc9 := hc.below (by omega) hb9; obtain ⟨c0', c1', c2', c3', c4'⟩ := hc9.five; obtain ⟨d0', d1', d2', d3', d4'⟩ := hc9.frees))
    have hz := hc9.five_set (.bool false) (.int .i64 0) (.int .i64 0) (.slice none 0 0) (.slice none 0 0)
    obtain ⟨r0, r1, r2, r3, r4⟩ := hz.five
    refine bodyPost_ret (v := .agg #[.bool false, .int .i64 0, .int .i64 0, .slice none 0 0, .slice none 0 0]) (by simp [results, Try.results9, go_sem, r0, r1, r2, r3, r4]) rfl ⟨rfl, ?_⟩
    exact (((((bt hA hb9).setCell (Nat.le_refl _) _).setCell (Nat.le_refl _) _).setCell (Nat.le_refl _) _).setCell (Nat.le_refl _) _).setCell (Nat.le_refl _) _
  rw [h1, h2, h3] at hno
  cases hno

set_option maxHeartbeats 2000000 in
set_option maxRecDepth 100000 in
theorem coverOf_yes (w : World) (vb ve : Value) (bag : List Int) (es : List (List Int)) (hb : IS w vb bag) (h : ISS w ve es) (hlb : bag.length ≤ 1099511627776) (hl : Short es) (h1 : setB bag = true) (h2 : edgesB es = true) (h3 : coverB bag es = true) :
    Calls Try.prog 9 #[vb, ve] w fun e w' => ∃ x y vW vD, e = .returned (.agg #[.bool true, .int .i64 (Cov.sm es.length x).num, .int .i64 (Cov.sm es.length x).den, vW, vD]) ∧ CoverBest bag.length es.length (inc (coverL bag es)) x ∧ PackBest es.length bag.length (inc (packL bag es)) y ∧
      Parts es.length x ∧ Parts bag.length y ∧ w'.ownsRow w.heap.size 28 2 vW (prs es.length x).length (rcs (prs es.length x)) ∧ w'.ownsRow w.heap.size 28 2 vD (prs bag.length y).length (rcs (prs bag.length y)) ∧ (∀ g, vW.ownBlock = some g → vD.ownBlock ≠ some g) ∧ Below w.heap.size w w' := by
  have hb6 := setB_len h1
  have he7 := edgesB_len h2
  have hcl := coverL_len bag es
  have hpl := packL_len bag es
  have SC : Hid (∀ W vr, RowsAt W vr (coverL bag es) → Calls Try.prog 45 #[.agg #[.int .i64 es.length, vr, .bool true]] W fun e w' => ∃ g x, e = .returned (.slice (some ⟨g, 0, none⟩) es.length es.length) ∧ FrAt w' g es.length x ∧ CoverBest bag.length es.length (inc (coverL bag es)) x ∧ Parts es.length x ∧ W.heap.size ≤ g ∧ g < w'.heap.size ∧ Below W.heap.size W w') := hid (fun W vr hr => by
    have := solve_cover W es.length vr (coverL bag es) he7 (by omega) hr (fun i hi => by rw [coverL_get bag es (by omega)]; have := plN_len (fun k => decide (bag.getD i 0 ∈ es.getD k [])) es.length; omega) (fun i hi j hj => by rw [coverL_get bag es (by omega)] at hj; exact (plN_mem.1 hj).1) (fun r hr => by
      obtain ⟨e, he, hm⟩ := coverB_at h3 (v := r) (by omega)
      exact ⟨e, he, by rw [inc_cover (by omega) he, if_pos hm]⟩)
    rw [hcl] at this
    exact this)
  have SP : Hid (∀ W vr, RowsAt W vr (packL bag es) → Calls Try.prog 45 #[.agg #[.int .i64 bag.length, vr, .bool false]] W fun e w' => ∃ g x, e = .returned (.slice (some ⟨g, 0, none⟩) bag.length bag.length) ∧ FrAt w' g bag.length x ∧ PackBest es.length bag.length (inc (packL bag es)) x ∧ Parts bag.length x ∧ W.heap.size ≤ g ∧ g < w'.heap.size ∧ Below W.heap.size W w') := hid (fun W vr hr => by
    have := solve_pack W bag.length vr (packL bag es) hb6 (by omega) hr (fun i hi => by rw [packL_get bag es (by omega)]; have := plN_len (fun k => decide (bag.getD k 0 ∈ es.getD i [])) bag.length; omega) (fun i hi j hj => by rw [packL_get bag es (by omega)] at hj; exact (plN_mem.1 hj).1) (fun e he => by
      obtain ⟨r, hr, hm⟩ := coverB_at h3 (v := e) (by omega)
      exact ⟨r, by omega, by rw [inc_pack hr (by omega), if_pos hm]⟩)
    rw [hpl] at this
    exact this)
  have CP : Hid (∀ W, IS W vb bag → ISS W ve es → Calls Try.prog 46 #[vb, ve] W fun e w' => ∃ vr, e = .returned (.agg #[.int .i64 es.length, vr, .bool true]) ∧ RowsAt w' vr (coverL bag es) ∧ Below W.heap.size W w') := hid (fun W hW hW' => (coverProgram_calls W vb ve bag es hW hW' (by omega) hl).mono (by
    rintro e w' ⟨vr, vs, rfl, hp, hb'⟩
    rw [coverRows_L] at hp
    exact ⟨vr, rfl, pr_rows hp, hb'⟩))
  have PP : Hid (∀ W, IS W vb bag → ISS W ve es → Calls Try.prog 47 #[vb, ve] W fun e w' => ∃ vr, e = .returned (.agg #[.int .i64 bag.length, vr, .bool false]) ∧ RowsAt w' vr (packL bag es) ∧ Below W.heap.size W w') := hid (fun W hW hW' => (packingProgram_calls W vb ve bag es hW hW' (by omega) hl (by omega)).mono (by
    rintro e w' ⟨vr, vs, rfl, hp, hb'⟩
    rw [packRows_L] at hp
    exact ⟨vr, rfl, pr_rows hp, hb'⟩))
  have HB := hid hb
  have HE := hid h
  obtain ⟨a, cap, rfl, -⟩ := hb
  obtain ⟨a', cap', rfl, -⟩ := h
  have hA : Below w.heap.size w (w.alloc (.cells #[.bool false, .int .i64 0, .int .i64 0, .slice none 0 0, .slice none 0 0] 31)) := (Below.refl _ _).alloc (Nat.le_refl _) _
  have hs : w.heap.size < (w.alloc (.cells #[.bool false, .int .i64 0, .int .i64 0, .slice none 0 0, .slice none 0 0] 31)).heap.size := by simp
  have hc : ArrAt (w.alloc (.cells #[.bool false, .int .i64 0, .int .i64 0, .slice none 0 0, .slice none 0 0] 31)) w.heap.size 5 (f5 (.bool false) (.int .i64 0) (.int .i64 0) (.slice none 0 0) (.slice none 0 0)) := arrAt_alloc w 5 (f5 (.bool false) (.int .i64 0) (.int .i64 0) (.slice none 0 0) (.slice none 0 0)) 31
  have K1 : Hid (∀ W, IS W (.slice a bag.length cap) bag → Calls Try.prog 41 #[.slice a bag.length cap] W fun e w' => e = .returned (.bool true) ∧ w' = W) := hid (fun W hW => by have := isVariableSet_calls W _ bag hW hlb; rw [h1] at this; exact this)
  have K2 : Hid (∀ W, ISS W (.slice a' es.length cap') es → Calls Try.prog 42 #[.slice a' es.length cap'] W fun e w' => e = .returned (.bool true) ∧ w' = W) := hid (fun W hW => by have := areEdges_calls W _ es hW hl; rw [h2] at this; exact this)
  have K3 : Hid (∀ W, IS W (.slice a bag.length cap) bag → ISS W (.slice a' es.length cap') es → Calls Try.prog 43 #[.slice a bag.length cap, .slice a' es.length cap'] W fun e w' => e = .returned (.bool true) ∧ Below W.heap.size W w') := hid (fun W hW hW' => by have := inEdges_calls W _ _ bag es hW hW' hlb hl; rw [h3] at this; exact this)
  clear h1 h2 h3 hcl hpl hl
  go_enter Try.func9, Try.ntmps9
  go_upto_region 1 with fail
  generalize w.alloc (.cells #[.bool false, .int .i64 0, .int .i64 0, .slice none 0 0, .slice none 0 0] 31) = W at *
  go_upto_region 3 with (first | (go_at_call 41; refine (K1.out _ (HB.out.below hA)).mono ?_; rintro e w' ⟨rfl, hw'⟩; subst w') | (go_at_call 42; refine (K2.out _ (HE.out.below hA)).mono ?_; rintro e w' ⟨rfl, hw'⟩; subst w') | (go_at_call 43; refine (K3.out _ (HB.out.below hA) (HE.out.below hA)).mono ?_; rintro e w9 ⟨rfl, hb9⟩))
  have hA9 : Below w.heap.size w w9 := bt hA hb9
  have hc9 := hc.below (by omega) hb9
  have hs9 : w.heap.size < w9.heap.size := Nat.lt_of_lt_of_le hs hb9.size
  clear K1 K2 K3 hc hb9 hA hs
  go_upto_region 4 with (first | (go_at_call 46; refine (CP.out _ (HB.out.below hA9) (HE.out.below hA9)).mono ?_; rintro e w1 ⟨vr, rfl, hr1, hb1⟩) | (go_at_call 45; refine (SC.out _ _ hr1).mono ?_; rintro e w2 ⟨g, x, rfl, hF, hX, hP, hg1, hg2, hb2⟩) | (go_at_call 44; refine (rats_best _ _ _ x he7 (frAt_ir hF) hP).mono ?_; rintro e w3 ⟨vW, rfl, hoW, hb3⟩))
  have hA3 : Below w.heap.size w w3 := bt (bt (bt hA9 hb1) hb2) hb3
  have hc3 := ((hc9.below (by omega) hb1).below (by omega) hb2).below (by omega) hb3
  have hsz3 : w.heap.size + 1 ≤ w2.heap.size := Nat.le_trans hs9 (bt hb1 hb2).size
  have hs93 : w9.heap.size ≤ w3.heap.size := (bt (bt hb1 hb2) hb3).size
  have HX := hid hX
  have HP := hid hP
  clear CP SC hr1 hF hX hP hg1 hg2 hb1 hb2 hb3 hA9 hc9
  go_upto_region 5 with (first | (go_at_call 47; refine (PP.out _ (HB.out.below hA3) (HE.out.below hA3)).mono ?_; rintro e w4 ⟨vr, rfl, hr1, hb4⟩) | (go_at_call 45; refine (SP.out _ _ hr1).mono ?_; rintro e w5 ⟨g, y, rfl, hF, hY, hQ, hg1, hg2, hb5⟩) | (go_at_call 44; refine (rats_best _ _ _ y (by omega) (frAt_ir hF) hQ).mono ?_; rintro e w6 ⟨vD, rfl, hoD, hb6'⟩))
  have hbx : Below w3.heap.size w3 w6 := bt (bt hb4 hb5) hb6'
  have hA6 : Below w.heap.size w w6 := bt hA3 hbx
  have hc6 := hc3.below (by omega) hbx
  have hoW6 := own_below hoW hbx
  have hne : ∀ q, vW.ownBlock = some q → vD.ownBlock ≠ some q := fun q h1 h2 => by
    have l1 := (hoW.lt q h1).2
    have l2 := (hoD.lt q h2).1
    have l3 := (bt hb4 hb5).size
    omega
  have hoWb := own_base hoW6 hsz3
  have hoDb := own_base (B' := w.heap.size + 1) hoD (Nat.le_trans (Nat.le_trans hs9 hs93) (bt hb4 hb5).size)
  have HY := hid hY
  have HQ := hid hQ
  have HNE := hid hne
  clear PP SP hr1 hF hY hQ hg1 hg2 hb4 hb5 hb6' hA3 hc3 hoW hoD hbx hoW6 hne
  have KSu : Hid (∀ W, IR W vW (prs es.length x) → Calls Try.prog 48 #[vW] W fun e w' => e = .returned (.agg #[.int .i64 (Cov.sm es.length x).num, .int .i64 (Cov.sm es.length x).den]) ∧ Below W.heap.size W w') := hid (fun W hW => sum_best W vW es.length x he7 hW HP.out)
  have HIR := hid (own_ir hoWb)
  obtain ⟨aW, cW, eW, -⟩ := own_ir hoWb
  obtain ⟨aD, cD, eD, -⟩ := own_ir hoDb
  have HOW := hid hoWb
  have HOD := hid hoDb
  clear hoWb hoDb
  subst eW eD
  go_wp2_with (first | (go_at_call 48; refine (KSu.out _ HIR.out).mono ?_; rintro e w7 ⟨rfl, hb7⟩; have hc7 := hc6.below (by omega) hb7; obtain ⟨c0, c1, c2, c3, c4⟩ := hc7.five; obtain ⟨d0, d1, d2, d3, d4⟩ := hc7.frees))
  have hz := hc7.five_set (.bool true) (.int .i64 (Cov.sm es.length x).num) (.int .i64 (Cov.sm es.length x).den) (.slice aW (prs es.length x).length cW) (.slice aD (prs bag.length y).length cD)
  obtain ⟨r0, r1, r2, r3, r4⟩ := hz.five
  have hA7 : Below w.heap.size w w7 := bt hA6 hb7
  have hlow : ∀ (v : Value) n xs, w7.ownsRow (w.heap.size + 1) 28 2 v n xs → (((((w7.setCell ⟨w.heap.size, 0, none⟩ (.bool true)).setCell ⟨w.heap.size, 1, none⟩ (.int .i64 (Cov.sm es.length x).num)).setCell ⟨w.heap.size, 2, none⟩ (.int .i64 (Cov.sm es.length x).den)).setCell ⟨w.heap.size, 3, none⟩ (.slice aW (prs es.length x).length cW)).setCell ⟨w.heap.size, 4, none⟩ (.slice aD (prs bag.length y).length cD)).ownsRow w.heap.size 28 2 v n xs := fun v n xs hv => own_base (own_move hv (fun g hg => by
    have := (hv.lt g hg).1
    rw [Below.heap_setCell _ _ _ _ (by show g ≠ w.heap.size; omega), Below.heap_setCell _ _ _ _ (by show g ≠ w.heap.size; omega), Below.heap_setCell _ _ _ _ (by show g ≠ w.heap.size; omega), Below.heap_setCell _ _ _ _ (by show g ≠ w.heap.size; omega), Below.heap_setCell _ _ _ _ (by show g ≠ w.heap.size; omega)])) (by omega)
  refine bodyPost_ret (v := .agg #[.bool true, .int .i64 (Cov.sm es.length x).num, .int .i64 (Cov.sm es.length x).den, .slice aW (prs es.length x).length cW, .slice aD (prs bag.length y).length cD]) (by simp [results, Try.results9, go_sem, r0, r1, r2, r3, r4]) rfl ⟨x, y, _, _, rfl, HX.out, HY.out, HP.out, HQ.out, hlow _ _ _ (own_below HOW.out hb7), hlow _ _ _ (own_below HOD.out hb7), HNE.out, ?_⟩
  exact ((((hA7.setCell (Nat.le_refl _) _).setCell (Nat.le_refl _) _).setCell (Nat.le_refl _) _).setCell (Nat.le_refl _) _).setCell (Nat.le_refl _) _

end Go.Proofs.Ytnmcgbfhgmmcpaa

/-
  The model's operations over rationals.
-/
namespace Go.Proofs.Ytnmcgbfhgmmcpaa
open Go.RowKit

theorem enc_le {p q : Rat} {B C : Nat} (hp : Sm B p) (hq : Sm C q) (h : B * C ≤ 4500000000000000000) :
    (-4500000000000000000 ≤ p.num * (q.den : Int) ∧ p.num * (q.den : Int) ≤ 4500000000000000000) ∧ (-4500000000000000000 ≤ q.num * (p.den : Int) ∧ q.num * (p.den : Int) ≤ 4500000000000000000) ∧ (-4500000000000000000 ≤ (p.den : Int) * (q.den : Int) ∧ (p.den : Int) * (q.den : Int) ≤ 4500000000000000000) := by
  have h1 := prod_bd hp.1 (show ((q.den : Nat) : Int).natAbs ≤ C by rw [den_abs]; exact hq.2) h
  have h2 := prod_bd (a := q.num) (b := (p.den : Int)) (B := C) (C := B) hq.1 (by rw [den_abs]; exact hp.2) (by rw [Nat.mul_comm]; exact h)
  have h3 := prod_bd (a := (p.den : Int)) (b := (q.den : Int)) (B := B) (C := C) (by rw [den_abs]; exact hp.2) (by rw [den_abs]; exact hq.2) h
  exact ⟨h1, h2, h3⟩

theorem splusV (p q : Rat) (w : World) {B C : Nat} (hp : Sm B p) (hq : Sm C q) (h : B * C ≤ 4500000000000000000) :
    Calls Try.prog 86 #[.agg #[.int .i64 (p).num, .int .i64 (p).den], .agg #[.int .i64 (q).num, .int .i64 (q).den]] w fun e w' => e = .returned (.agg #[.int .i64 (p + q).num, .int .i64 (p + q).den]) ∧ Below w.heap.size w w' := by
  obtain ⟨h1, h2, h3⟩ := enc_le hp hq h
  have hne : (p.den : Int) * (q.den : Int) ≠ 0 := Int.mul_ne_zero (by have := p.den_nz; omega) (by have := q.den_nz; omega)
  have := splus_calls p.num p.den q.num q.den w h1.1 h1.2 h2.1 h2.2 h3.1 h3.2 hne
  rw [enc_fr (p.num * q.den + q.num * p.den) (p.den * q.den) hne (p + q) (by
    rw [← Rat.divInt_add_divInt _ _ (by have := p.den_nz; omega) (by have := q.den_nz; omega), Rat.num_divInt_den, Rat.num_divInt_den])] at this
  exact this

theorem sminusV (p q : Rat) (w : World) {B C : Nat} (hp : Sm B p) (hq : Sm C q) (h : B * C ≤ 4500000000000000000) :
    Calls Try.prog 108 #[.agg #[.int .i64 (p).num, .int .i64 (p).den], .agg #[.int .i64 (q).num, .int .i64 (q).den]] w fun e w' => e = .returned (.agg #[.int .i64 (p - q).num, .int .i64 (p - q).den]) ∧ Below w.heap.size w w' := by
  obtain ⟨h1, h2, h3⟩ := enc_le hp hq h
  have hne : (p.den : Int) * (q.den : Int) ≠ 0 := Int.mul_ne_zero (by have := p.den_nz; omega) (by have := q.den_nz; omega)
  have := sminus_calls p.num p.den q.num q.den w h1.1 h1.2 h2.1 h2.2 h3.1 h3.2 hne
  rw [enc_fr (p.num * q.den - q.num * p.den) (p.den * q.den) hne (p - q) (by
    rw [← Rat.divInt_sub_divInt _ _ (by have := p.den_nz; omega) (by have := q.den_nz; omega), Rat.num_divInt_den, Rat.num_divInt_den])] at this
  exact this

theorem stimesV (p q : Rat) (w : World) {B C : Nat} (hp : Sm B p) (hq : Sm C q) (h : B * C ≤ 4500000000000000000) :
    Calls Try.prog 109 #[.agg #[.int .i64 (p).num, .int .i64 (p).den], .agg #[.int .i64 (q).num, .int .i64 (q).den]] w fun e w' => e = .returned (.agg #[.int .i64 (p * q).num, .int .i64 (p * q).den]) ∧ Below w.heap.size w w' := by
  obtain ⟨h1, h2, h3⟩ := enc_le hp hq h
  have hne : (p.den : Int) * (q.den : Int) ≠ 0 := Int.mul_ne_zero (by have := p.den_nz; omega) (by have := q.den_nz; omega)
  have h4 := prod_bd hp.1 hq.1 h
  have := stimes_calls p.num p.den q.num q.den w h4.1 h4.2 h3.1 h3.2 hne
  rw [enc_fr (p.num * q.num) (p.den * q.den) hne (p * q) (by
    rw [← Rat.divInt_mul_divInt, Rat.num_divInt_den, Rat.num_divInt_den])] at this
  exact this

theorem soverV (p q : Rat) (w : World) {B C : Nat} (hp : Sm B p) (hq : Sm C q) (h : B * C ≤ 4500000000000000000) (hq0 : q ≠ 0) :
    Calls Try.prog 107 #[.agg #[.int .i64 (p).num, .int .i64 (p).den], .agg #[.int .i64 (q).num, .int .i64 (q).den]] w fun e w' => e = .returned (.agg #[.int .i64 (p / q).num, .int .i64 (p / q).den]) ∧ Below w.heap.size w w' := by
  obtain ⟨h1, h2, h3⟩ := enc_le hp hq h
  have hn := num_ne hq0
  have hne : (p.den : Int) * q.num ≠ 0 := Int.mul_ne_zero (by have := p.den_nz; omega) hn
  have h5 : -4500000000000000000 ≤ (p.den : Int) * q.num ∧ (p.den : Int) * q.num ≤ 4500000000000000000 := by rw [Int.mul_comm]; exact h2
  have := sover_calls p.num p.den q.num q.den w h1.1 h1.2 h5.1 h5.2 hne
  rw [enc_fr (p.num * q.den) (p.den * q.num) hne (p / q) (by
    rw [← Rat.divInt_mul_divInt, Rat.num_divInt_den, ← Rat.inv_divInt, Rat.num_divInt_den, Rat.div_def])] at this
  exact this

theorem slessV (p q : Rat) (w : World) {B C : Nat} (hp : Sm B p) (hq : Sm C q) (h : B * C ≤ 4500000000000000000) :
    Calls Try.prog 95 #[.agg #[.int .i64 (p).num, .int .i64 (p).den], .agg #[.int .i64 (q).num, .int .i64 (q).den]] w fun e w' => e = .returned (.bool (decide (p < q))) ∧ Below w.heap.size w w' := by
  obtain ⟨h1, h2, h3⟩ := enc_le hp hq h
  have := sless_calls p.num p.den q.num q.den w h1.1 h1.2 h2.1 h2.2
  rw [show decide (p.num * (q.den : Int) < q.num * (p.den : Int)) = decide (p < q) from by
    rw [decide_eq_decide]
    exact Rat.lt_iff p q |>.symm] at this
  exact this

end Go.Proofs.Ytnmcgbfhgmmcpaa

/-
  Demands in memory; spec.l1Meets.
-/
namespace Go.Proofs.Ytnmcgbfhgmmcpaa
open Go.RowKit

structure Dem where
  pl : List Nat
  up : Bool
  bd : Int

def dem0 : Dem := ⟨[], false, 0⟩
def Dem.dm (d : Dem) : Cov.Dm := ⟨fun i => if i ∈ d.pl then 1 else 0, d.up, ((d.bd : Int) : Rat)⟩

/-- a demand that is fit for n numbers -/
structure DemOk (n : Nat) (d : Dem) : Prop where
  nd : d.pl.Nodup
  lt : ∀ i ∈ d.pl, i < n
  len : d.pl.length ≤ 7
  bd : d.bd = 0 ∨ d.bd = 1

/-- the sum over the first k places -/
def lsum (l : List Nat) (x : Nat → Rat) : Nat → Rat
  | 0 => 0
  | k + 1 => lsum l x k + x (l.getD k 0)

theorem take_mem (l : List Nat) (k : Nat) (h : k < l.length) (i : Nat) : i ∈ l.take (k + 1) ↔ i ∈ l.take k ∨ i = l.getD k 0 := by
  rw [List.take_add_one, List.getElem?_eq_getElem h, List.getD_eq_getElem?_getD, List.getElem?_eq_getElem h, List.mem_append]
  simp only [Option.toList_some, List.mem_singleton, Option.getD_some]

theorem lsum_at {l : List Nat} {n : Nat} (x : Nat → Rat) (hn : l.Nodup) (hl : ∀ i ∈ l, i < n) : ∀ k, k ≤ l.length → lsum l x k = Cov.sm n (fun i => (if i ∈ l.take k then 1 else 0) * x i)
  | 0, _ => by
    symm
    exact Cov.sm_zero (fun i _ => by simp)
  | k + 1, hk => by
    have hkl : k < l.length := by omega
    have hm : l.getD k 0 ∈ l := by
      rw [List.getD_eq_getElem?_getD, List.getElem?_eq_getElem hkl]
      exact List.getElem_mem _
    have hnot : l.getD k 0 ∉ l.take k := by
      intro h
      obtain ⟨j, hj, e⟩ := List.mem_iff_getElem.1 h
      rw [List.length_take] at hj
      rw [List.getElem_take, List.getD_eq_getElem?_getD, List.getElem?_eq_getElem hkl] at e
      simp only [Option.getD_some] at e
      exact (List.pairwise_iff_getElem.1 hn) j k (by omega) hkl (by omega) e
    show lsum l x k + x (l.getD k 0) = _
    rw [lsum_at x hn hl k (by omega)]
    have e1 : x (l.getD k 0) = Cov.sm n (fun i => (if i = l.getD k 0 then 1 else 0) * x i) := by
      rw [Cov.sm_single (hl _ hm) (fun i _ hne => by rw [if_neg hne]; grind), if_pos rfl]; grind
    rw [e1, ← Cov.sm_add]
    refine Cov.sm_congr (fun i _ => ?_)
    by_cases h1 : i ∈ l.take k
    · have h2 : i ≠ l.getD k 0 := fun e => hnot (e ▸ h1)
      rw [if_pos h1, if_neg h2, if_pos ((take_mem l k hkl i).2 (Or.inl h1))]; grind
    · by_cases h2 : i = l.getD k 0
      · rw [if_neg h1, if_pos h2, if_pos ((take_mem l k hkl i).2 (Or.inr h2))]; grind
      · rw [if_neg h1, if_neg h2, if_neg (fun h => by rcases (take_mem l k hkl i).1 h with h3 | h3; exact h1 h3; exact h2 h3)]; grind

theorem lsum_dm {n : Nat} {d : Dem} (x : Nat → Rat) (h : DemOk n d) : lsum d.pl x d.pl.length = d.dm.at n x := by
  rw [lsum_at x h.nd h.lt _ (Nat.le_refl _), List.take_length]
  rfl

theorem lsum_whole {n : Nat} {x : Nat → Rat} {l : List Nat} {D : Int} (hl : ∀ i ∈ l, i < n) (hw : ∀ j, j < n → Cov.Whole 5040 (x j * ((D : Int) : Rat))) : ∀ k, k ≤ l.length → Cov.Whole (k * 5040) (lsum l x k * ((D : Int) : Rat))
  | 0, _ => ⟨0, by show (0 : Rat) * _ = _; grind, by simp⟩
  | k + 1, hk => by
    have hm : l.getD k 0 ∈ l := by
      rw [List.getD_eq_getElem?_getD, List.getElem?_eq_getElem (by omega)]
      exact List.getElem_mem _
    have := (lsum_whole hl hw k (by omega)).add (hw _ (hl _ hm))
    show Cov.Whole ((k + 1) * 5040) ((lsum l x k + x (l.getD k 0)) * _)
    rw [show (lsum l x k + x (l.getD k 0)) * ((D : Int) : Rat) = lsum l x k * ((D : Int) : Rat) + x (l.getD k 0) * ((D : Int) : Rat) by grind, show (k + 1) * 5040 = k * 5040 + 5040 by omega]
    exact this

theorem Parts.lsum {n : Nat} {x : Nat → Rat} (h : Parts n x) {d : Dem} (hd : DemOk n d) {k : Nat} (hk : k ≤ d.pl.length) : Sm 36000 (lsum d.pl x k) := by
  obtain ⟨D, h0, hD, hw⟩ := h
  have hl := hd.len
  refine sm_of_whole h0 (by omega) (lsum_whole hd.lt hw k hk) ?_
  have : k * 5040 ≤ 7 * 5040 := Nat.mul_le_mul (by omega) (Nat.le_refl _)
  omega

/-- whether a demand is met, as the model asks it -/
def metB (n : Nat) (d : Dem) (x : Nat → Rat) : Bool := if d.up then !decide (d.dm.b < d.dm.at n x) else !decide (d.dm.at n x < d.dm.b)

theorem metB_iff {n : Nat} {d : Dem} {x : Nat → Rat} : metB n d x = true ↔ d.dm.meets n x := by
  unfold metB Cov.Dm.meets
  cases h : d.up
  · rw [show d.dm.up = false from h]
    simp only [Bool.false_eq_true, if_false, Bool.not_eq_true', decide_eq_false_iff_not]
    exact Rat.not_lt
  · rw [show d.dm.up = true from h]
    simp only [if_true, Bool.not_eq_true', decide_eq_false_iff_not]
    exact Rat.not_lt

/-- a demand's value -/
def dval (u : Value) (d : Dem) : Value := .agg #[u, .bool d.up, .int .i64 d.bd]

end Go.Proofs.Ytnmcgbfhgmmcpaa
