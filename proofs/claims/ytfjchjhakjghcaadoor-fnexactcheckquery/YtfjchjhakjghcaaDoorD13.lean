import Derived.Test.YtfjchjhakjghcaaDoorD10
import Derived.Test.YtfjchjhakjghcaaDoorD12
/-
  Relations: impl.isRelation.
-/
namespace Go.Proofs.YtfjchjhakjghcaaDoor
open Go.RowKit

structure RelV where
  name : ByteArray
  ar : Int
  rows : List (List Int)
  ws : List Int

def relB (r : RelV) : Bool := relName r.name && arityB r.ar && decide (r.rows.length ≤ 2000) && rowsB r.rows r.ar && (r.rows.all fun l => l.all valB) && decide (r.ws.length = r.rows.length) && r.ws.all wtB

structure IRel (w : World) (vr vw : Value) (r : RelV) : Prop where
  rows : ISS w vr r.rows
  ws : IS w vw r.ws

theorem IRel.below {w w' : World} {vr vw : Value} {r : RelV} (h : IRel w vr vw r) (hb : Below w.heap.size w w') : IRel w' vr vw r := ⟨h.rows.below hb, h.ws.below hb⟩

/-- what a copy may be made of -/
structure OkRel (r : RelV) : Prop where
  name : r.name.size ≤ 9223372036854775807
  rows : Short r.rows
  ws : r.ws.length ≤ 1099511627776

set_option maxHeartbeats 4000000 in
set_option maxRecDepth 1000000 in
theorem isRelation_calls (w : World) (vr vw : Value) (r : RelV) (h : IRel w vr vw r) (hr : OkRel r) :
    Calls Tryd.prog 51 #[.agg #[.string r.name, .int .i64 r.ar, vr, vw]] w fun e w' => e = .returned (.bool (relB r)) ∧ Below w.heap.size w w' := by
  have HB : Hid (Below w.heap.size w (w.alloc (.cells #[.string r.name, .int .i64 r.ar, vr, vw] 54))) := hid ((Below.refl _ _).alloc (Nat.le_refl _) _)
  have K1 := hid (isRelationName_calls (w.alloc (.cells #[.string r.name, .int .i64 r.ar, vr, vw] 54)) r.name hr.name)
  have K2 := hid (isArity_calls (w.alloc (.cells #[.string r.name, .int .i64 r.ar, vr, vw] 54)) r.ar)
  have K4 := hid (areSortedRows_calls (w.alloc (.cells #[.string r.name, .int .i64 r.ar, vr, vw] 54)) vr r.rows r.ar (h.rows.below HB.out) hr.rows)
  have K5 := hid (areValues_calls (w.alloc (.cells #[.string r.name, .int .i64 r.ar, vr, vw] 54)) vr r.rows (h.rows.below HB.out) hr.rows)
  have K7 := hid (areWeights_calls (w.alloc (.cells #[.string r.name, .int .i64 r.ar, vr, vw] 54)) vw r.ws (h.ws.below HB.out) hr.ws)
  have hr1 := hr.rows.1
  have hr2 := hr.ws
  obtain ⟨a1, k1, rfl, -⟩ := h.rows
  obtain ⟨a2, k2, rfl, -⟩ := h.ws
  clear h hr
  unfold relB
  generalize relName r.name = b1 at *
  generalize arityB r.ar = b2 at *
  generalize rowsB r.rows r.ar = b4 at *
  generalize (r.rows.all fun l => l.all valB) = b5 at *
  generalize r.ws.all wtB = b7 at *
  generalize r.rows.length = n at *
  generalize r.ws.length = m at *
  generalize r.name = nm at *
  generalize r.ar = ar at *
  cases b1
  case false =>
    clear K2 K4 K5 K7
    go_enter Tryd.func51, Tryd.ntmps51
    go_wp2_with (first | (go_at_call 76; refine K1.out.mono ?_; rintro e w' ⟨rfl, hw'⟩; subst w'))
    go_ret
    exact ⟨ret_bool (by simp), HB.out⟩
  cases b2
  case false =>
    clear K4 K5 K7
    go_enter Tryd.func51, Tryd.ntmps51
    go_wp2_with (first | (go_at_call 76; refine K1.out.mono ?_; rintro e w' ⟨rfl, hw'⟩; subst w') | (go_at_call 77; refine K2.out.mono ?_; rintro e w' ⟨rfl, hw'⟩; subst w'))
    go_ret
    exact ⟨ret_bool (by simp), HB.out⟩
  by_cases h3 : 2000 < n
  · have i3 : ¬ ((n : Int) ≤ 2000) := by omega
    have d3 : ¬ (n ≤ 2000) := by omega
    clear K4 K5 K7
    go_enter Tryd.func51, Tryd.ntmps51
    go_wp2_with (first | (go_at_call 76; refine K1.out.mono ?_; rintro e w' ⟨rfl, hw'⟩; subst w') | (go_at_call 77; refine K2.out.mono ?_; rintro e w' ⟨rfl, hw'⟩; subst w'))
    go_ret
    exact ⟨ret_bool (by simp), HB.out⟩
  have i3 : (n : Int) ≤ 2000 := by omega
  have d3 : n ≤ 2000 := by omega
  cases b4
  case false =>
    clear K5 K7
    go_enter Tryd.func51, Tryd.ntmps51
    go_wp2_with (first | (go_at_call 76; refine K1.out.mono ?_; rintro e w' ⟨rfl, hw'⟩; subst w') | (go_at_call 77; refine K2.out.mono ?_; rintro e w' ⟨rfl, hw'⟩; subst w') | (go_at_call 78; refine K4.out.mono ?_; rintro e w' ⟨rfl, hw'⟩; subst w'))
    go_ret
    exact ⟨ret_bool (by simp), HB.out⟩
  cases b5
  case false =>
    clear K7
    go_enter Tryd.func51, Tryd.ntmps51
    go_wp2_with (first | (go_at_call 76; refine K1.out.mono ?_; rintro e w' ⟨rfl, hw'⟩; subst w') | (go_at_call 77; refine K2.out.mono ?_; rintro e w' ⟨rfl, hw'⟩; subst w') | (go_at_call 78; refine K4.out.mono ?_; rintro e w' ⟨rfl, hw'⟩; subst w') | (go_at_call 79; refine K5.out.mono ?_; rintro e w' ⟨rfl, hw'⟩; subst w'))
    go_ret
    exact ⟨ret_bool (by simp), HB.out⟩
  by_cases h6 : m = n
  · subst h6
    go_enter Tryd.func51, Tryd.ntmps51
    go_wp2_with (first | (go_at_call 76; refine K1.out.mono ?_; rintro e w' ⟨rfl, hw'⟩; subst w') | (go_at_call 77; refine K2.out.mono ?_; rintro e w' ⟨rfl, hw'⟩; subst w') | (go_at_call 78; refine K4.out.mono ?_; rintro e w' ⟨rfl, hw'⟩; subst w') | (go_at_call 79; refine K5.out.mono ?_; rintro e w' ⟨rfl, hw'⟩; subst w') | (go_at_call 80; refine K7.out.mono ?_; rintro e w' ⟨rfl, hw'⟩; subst w'))
    go_ret
    exact ⟨ret_bool (by simp [d3]), HB.out⟩
  · have i6 : ¬ ((m : Int) = (n : Int)) := by omega
    have i7 : ((m : Int) == (n : Int)) = false := by simp; omega
    clear K7
    go_enter Tryd.func51, Tryd.ntmps51
    go_wp2_with (first | (go_at_call 76; refine K1.out.mono ?_; rintro e w' ⟨rfl, hw'⟩; subst w') | (go_at_call 77; refine K2.out.mono ?_; rintro e w' ⟨rfl, hw'⟩; subst w') | (go_at_call 78; refine K4.out.mono ?_; rintro e w' ⟨rfl, hw'⟩; subst w') | (go_at_call 79; refine K5.out.mono ?_; rintro e w' ⟨rfl, hw'⟩; subst w'))
    go_ret
    exact ⟨ret_bool (by simp [h6]), HB.out⟩

end Go.Proofs.YtfjchjhakjghcaaDoor

/-
  laws.FnExactTableOK, walked.
-/
namespace Go.Proofs.YtfjchjhakjghcaaDoor
open Go.RowKit

/-- a box of three cells at block s -/
structure B3 (s : Nat) (v0 v1 v2 : Value) (W : World) : Prop where
  c0 : W.cell? ⟨s, 0, none⟩ = some v0
  c1 : W.cell? ⟨s, 1, none⟩ = some v1
  c2 : W.cell? ⟨s, 2, none⟩ = some v2
  lt : s < W.heap.size

theorem B3.step {s : Nat} {v0 v1 v2 : Value} {W W' : World} (h : B3 s v0 v1 v2 W) (hb : Below W.heap.size W W') : B3 s v0 v1 v2 W' :=
  ⟨(hb.cell (p := ⟨s, 0, none⟩) h.lt).trans h.c0, (hb.cell (p := ⟨s, 1, none⟩) h.lt).trans h.c1, (hb.cell (p := ⟨s, 2, none⟩) h.lt).trans h.c2, Nat.lt_of_lt_of_le h.lt hb.size⟩
theorem B3.start (w : World) (v0 v1 v2 : Value) (t : TypeId) : B3 w.heap.size v0 v1 v2 (w.alloc (.cells #[v0, v1, v2] t)) :=
  ⟨by simp [go_sem], by simp [go_sem], by simp [go_sem], by simp⟩
theorem B3.alloc {s : Nat} {v0 v1 v2 : Value} {W : World} (h : B3 s v0 v1 v2 W) (o : Obj) : B3 s v0 v1 v2 (W.alloc o) := h.step ((Below.refl _ _).alloc (Nat.le_refl _) _)

theorem two_of {w5 W : World} {s X : Nat} {v0 v1 v2 x0 x1 x2 : Value} (h : B3 s v0 v1 v2 w5) (k : B3 X x0 x1 x2 w5) (hb : Below w5.heap.size w5 W) :
    W.cell? ⟨s, 0, none⟩ = some v0 ∧ W.cell? ⟨s, 1, none⟩ = some v1 ∧ W.cell? ⟨s, 2, none⟩ = some v2 ∧ W.cell? ⟨X, 0, none⟩ = some x0 ∧ W.cell? ⟨X, 1, none⟩ = some x1 ∧ W.cell? ⟨X, 2, none⟩ = some x2 ∧ Below w5.heap.size w5 W :=
  ⟨(h.step hb).c0, (h.step hb).c1, (h.step hb).c2, (k.step hb).c0, (k.step hb).c1, (k.step hb).c2, hb⟩

theorem two_bel {w5 W : World} {s X : Nat} {v0 v1 v2 x0 x1 x2 : Value} (h : W.cell? ⟨s, 0, none⟩ = some v0 ∧ W.cell? ⟨s, 1, none⟩ = some v1 ∧ W.cell? ⟨s, 2, none⟩ = some v2 ∧ W.cell? ⟨X, 0, none⟩ = some x0 ∧ W.cell? ⟨X, 1, none⟩ = some x1 ∧ W.cell? ⟨X, 2, none⟩ = some x2 ∧ Below w5.heap.size w5 W) : Below w5.heap.size w5 W := h.2.2.2.2.2.2

end Go.Proofs.YtfjchjhakjghcaaDoor
