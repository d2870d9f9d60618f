import Derived.Test.YtpdloenmplafiaaNames2
/-
  Relations: impl.isRelation.
-/
namespace Go.Proofs.Ytpdloenmplafiaa
open Go.RowKit

structure RelV where
  name : ByteArray
  ar : Int
  rows : List (List Int)
  ws : List Int

def relB (r : RelV) : Bool := relName r.name && arityB r.ar && decide (r.rows.length ≤ 2000) && rowsB r.rows r.ar && (r.rows.all fun l => l.all valB) && decide (r.ws.length = r.rows.length) && r.ws.all wtB

structure IRel (w : World) (vr vw : Value) (r : RelV) : Prop where
  rows : ISS w vr r.rows
  ws : IS w vw r.ws

theorem IRel.below {w w' : World} {vr vw : Value} {r : RelV} (h : IRel w vr vw r) (hb : Below w.heap.size w w') : IRel w' vr vw r := ⟨h.rows.below hb, h.ws.below hb⟩

/-- what a copy may be made of -/
structure OkRel (r : RelV) : Prop where
  name : r.name.size ≤ 9223372036854775807
  rows : Short r.rows
  ws : r.ws.length ≤ 1099511627776

set_option maxHeartbeats 4000000 in
set_option maxRecDepth 1000000 in
theorem isRelation_calls (w : World) (vr vw : Value) (r : RelV) (h : IRel w vr vw r) (hr : OkRel r) :
    Calls Try.prog 66 #[.agg #[.string r.name, .int .i64 r.ar, vr, vw]] w fun e w' => e = .returned (.bool (relB r)) ∧ Below w.heap.size w w' := by
  have HB : Hid (Below w.heap.size w (w.alloc (.cells #[.string r.name, .int .i64 r.ar, vr, vw] 97))) := hid ((Below.refl _ _).alloc (Nat.le_refl _) _)
  have K1 := hid (isRelationName_calls (w.alloc (.cells #[.string r.name, .int .i64 r.ar, vr, vw] 97)) r.name hr.name)
  have K2 := hid (isArity_calls (w.alloc (.cells #[.string r.name, .int .i64 r.ar, vr, vw] 97)) r.ar)
  have K4 := hid (areSortedRows_calls (w.alloc (.cells #[.string r.name, .int .i64 r.ar, vr, vw] 97)) vr r.rows r.ar (h.rows.below HB.out) hr.rows)
  have K5 := hid (areValues_calls (w.alloc (.cells #[.string r.name, .int .i64 r.ar, vr, vw] 97)) vr r.rows (h.rows.below HB.out) hr.rows)
  have K7 := hid (areWeights_calls (w.alloc (.cells #[.string r.name, .int .i64 r.ar, vr, vw] 97)) vw r.ws (h.ws.below HB.out) hr.ws)
  have hr1 := hr.rows.1
  have hr2 := hr.ws
  obtain ⟨a1, k1, rfl, -⟩ := h.rows
  obtain ⟨a2, k2, rfl, -⟩ := h.ws
  clear h hr
  unfold relB
  generalize relName r.name = b1 at *
  generalize arityB r.ar = b2 at *
  generalize rowsB r.rows r.ar = b4 at *
  generalize (r.rows.all fun l => l.all valB) = b5 at *
  generalize r.ws.all wtB = b7 at *
  generalize r.rows.length = n at *
  generalize r.ws.length = m at *
  generalize r.name = nm at *
  generalize r.ar = ar at *
  cases b1
  case false =>
    clear K2 K4 K5 K7
    go_enter Try.func66, Try.ntmps66
    go_wp2_with (first | (go_at_call 112; refine K1.out.mono ?_; rintro e w' ⟨rfl, hw'⟩; subst w'))
    go_ret
    exact ⟨ret_bool (by simp), HB.out⟩
  cases b2
  case false =>
    clear K4 K5 K7
    go_enter Try.func66, Try.ntmps66
    go_wp2_with (first | (go_at_call 112; refine K1.out.mono ?_; rintro e w' ⟨rfl, hw'⟩; subst w') | (go_at_call 113; refine K2.out.mono ?_; rintro e w' ⟨rfl, hw'⟩; subst w'))
    go_ret
    exact ⟨ret_bool (by simp), HB.out⟩
  by_cases h3 : 2000 < n
  · have i3 : ¬ ((n : Int) ≤ 2000) := by omega
    have d3 : ¬ (n ≤ 2000) := by omega
    clear K4 K5 K7
    go_enter Try.func66, Try.ntmps66
    go_wp2_with (first | (go_at_call 112; refine K1.out.mono ?_; rintro e w' ⟨rfl, hw'⟩; subst w') | (go_at_call 113; refine K2.out.mono ?_; rintro e w' ⟨rfl, hw'⟩; subst w'))
    go_ret
    exact ⟨ret_bool (by simp), HB.out⟩
  have i3 : (n : Int) ≤ 2000 := by omega
  have d3 : n ≤ 2000 := by omega
  cases b4
  case false =>
    clear K5 K7
    go_enter Try.func66, Try.ntmps66
    go_wp2_with (first | (go_at_call 112; refine K1.out.mono ?_; rintro e w' ⟨rfl, hw'⟩; subst w') | (go_at_call 113; refine K2.out.mono ?_; rintro e w' ⟨rfl, hw'⟩; subst w') | (go_at_call 114; refine K4.out.mono ?_; rintro e w' ⟨rfl, hw'⟩; subst w'))
    go_ret
    exact ⟨ret_bool (by simp), HB.out⟩
  cases b5
  case false =>
    clear K7
    go_enter Try.func66, Try.ntmps66
    go_wp2_with (first | (go_at_call 112; refine K1.out.mono ?_; rintro e w' ⟨rfl, hw'⟩; subst w') | (go_at_call 113; refine K2.out.mono ?_; rintro e w' ⟨rfl, hw'⟩; subst w') | (go_at_call 114; refine K4.out.mono ?_; rintro e w' ⟨rfl, hw'⟩; subst w') | (go_at_call 115; refine K5.out.mono ?_; rintro e w' ⟨rfl, hw'⟩; subst w'))
    go_ret
    exact ⟨ret_bool (by simp), HB.out⟩
  by_cases h6 : m = n
  · subst h6
    go_enter Try.func66, Try.ntmps66
    go_wp2_with (first | (go_at_call 112; refine K1.out.mono ?_; rintro e w' ⟨rfl, hw'⟩; subst w') | (go_at_call 113; refine K2.out.mono ?_; rintro e w' ⟨rfl, hw'⟩; subst w') | (go_at_call 114; refine K4.out.mono ?_; rintro e w' ⟨rfl, hw'⟩; subst w') | (go_at_call 115; refine K5.out.mono ?_; rintro e w' ⟨rfl, hw'⟩; subst w') | (go_at_call 116; refine K7.out.mono ?_; rintro e w' ⟨rfl, hw'⟩; subst w'))
    go_ret
    exact ⟨ret_bool (by simp [d3]), HB.out⟩
  · have i6 : ¬ ((m : Int) = (n : Int)) := by omega
    have i7 : ((m : Int) == (n : Int)) = false := by simp; omega
    clear K7
    go_enter Try.func66, Try.ntmps66
    go_wp2_with (first | (go_at_call 112; refine K1.out.mono ?_; rintro e w' ⟨rfl, hw'⟩; subst w') | (go_at_call 113; refine K2.out.mono ?_; rintro e w' ⟨rfl, hw'⟩; subst w') | (go_at_call 114; refine K4.out.mono ?_; rintro e w' ⟨rfl, hw'⟩; subst w') | (go_at_call 115; refine K5.out.mono ?_; rintro e w' ⟨rfl, hw'⟩; subst w'))
    go_ret
    exact ⟨ret_bool (by simp [h6]), HB.out⟩

end Go.Proofs.Ytpdloenmplafiaa
