import Derived.Test.YtpdloenmplafiaaVars2
import Derived.Test.YtpdloenmplafiaaNames2
/-
  The good shape of queries: spec.l3ShapeOK.
-/
namespace Go.Proofs.Ytpdloenmplafiaa
open Go.RowKit

def termB (t : TermV) : Bool := if t.1.toList.isEmpty then decide (0 ≤ t.2) && decide (t.2 ≤ 1000000) else nameB t.1 && decide (t.2 = 0)
def atomB (a : AtomV) : Bool := nameB a.1 && decide (1 ≤ a.2.length) && a.2.all termB
def shapeB (q : QV) : Bool := nameB q.name && decide (0 ≤ q.ring) && decide (q.ring ≤ 3) && decide (1 ≤ q.atoms.length) && q.head.all nameB && q.atoms.all atomB

theorem all_get {α : Type} (p : α → Bool) (d : α) (l : List α) (h : ∀ i, i < l.length → p (l.getD i d) = true) : l.all p = true := by
  rw [List.all_eq_true]
  intro x hx
  obtain ⟨j, hj, e⟩ := List.getElem_of_mem hx
  have := h j hj
  rw [List.getD_eq_getElem?_getD, List.getElem?_eq_getElem hj] at this
  simp only [Option.getD_some] at this
  rw [← e]; exact this
theorem all_miss {α : Type} (p : α → Bool) (d : α) (l : List α) {j : Nat} (hj : j < l.length) (h : p (l.getD j d) = false) : l.all p = false := by
  rw [List.all_eq_false]
  refine ⟨l.getD j d, List.mem_of_getElem? (i := j) (by simp [List.getD_eq_getElem?_getD, hj]), by rw [h]; decide⟩

theorem shape_head {q : QV} {j : Nat} (hj : j < q.head.length) (h : nameB (q.head.getD j noTx) = false) : shapeB q = false := by
  unfold shapeB; rw [all_miss nameB noTx q.head hj h]; simp
theorem shape_atom {q : QV} {j : Nat} (hj : j < q.atoms.length) (h : atomB (q.atoms.getD j noAt) = false) : shapeB q = false := by
  unfold shapeB; rw [all_miss atomB noAt q.atoms hj h]; simp
theorem atom_term {a : AtomV} {j : Nat} (hj : j < a.2.length) (h : termB (a.2.getD j noTm) = false) : atomB a = false := by
  unfold atomB; rw [all_miss termB noTm a.2 hj h]; simp

theorem between_calls (w : World) (x lo hi : Int) : Calls Try.prog 63 #[.int .i64 x, .int .i64 lo, .int .i64 hi] w fun e w' => e = .returned (.bool (decide (lo ≤ x) && decide (x ≤ hi))) ∧ w' = w := by
  by_cases h1 : lo ≤ x
  · by_cases h2 : x ≤ hi
    · rw [decide_eq_true h1, decide_eq_true h2]
      go_enter Try.func63, Try.ntmps63
      go_wp2
      go_ret
      exact ⟨rfl, rfl⟩
    · rw [decide_eq_true h1, decide_eq_false h2]
      go_enter Try.func63, Try.ntmps63
      go_wp2
      go_ret
      exact ⟨rfl, rfl⟩
  · rw [decide_eq_false h1]
    go_enter Try.func63, Try.ntmps63
    go_wp2
    go_ret
    exact ⟨rfl, rfl⟩

end Go.Proofs.Ytpdloenmplafiaa
