import Derived.Test.YtoikfjhgeceimacDoorTable
/-
  impl.TableOK, spec.TableOK, laws.eqTable.
-/
namespace Go.Proofs.YtoikfjhgeceimacDoor
open Go.RowKit

theorem tableB_cases (vs : List Int) (rows : List (List Int)) (ws : List Int) :
    (setB vs = false ∧ tableB vs rows ws = false) ∨ (setB vs = true ∧ 10000 < rows.length ∧ tableB vs rows ws = false) ∨ (setB vs = true ∧ rows.length ≤ 10000 ∧ rowsB rows vs.length = false ∧ tableB vs rows ws = false) ∨
    (setB vs = true ∧ rows.length ≤ 10000 ∧ rowsB rows vs.length = true ∧ tableB vs rows ws = decide (ws.length = rows.length)) := by
  unfold tableB
  cases h1 : setB vs
  · left; simp
  · right
    by_cases h2 : 10000 < rows.length
    · left; simp; omega
    · right
      have h3 : decide (rows.length ≤ 10000) = true := by simp; omega
      cases h4 : rowsB rows vs.length
      · left; simp; omega
      · right; simp [h3]; omega

theorem dec_len (a b : Nat) : decide ((a : Int) = (b : Int)) = decide (a = b) := by
  by_cases h : a = b
  · simp [h]
  · rw [decide_eq_false h, decide_eq_false (by omega)]

end Go.Proofs.YtoikfjhgeceimacDoor
