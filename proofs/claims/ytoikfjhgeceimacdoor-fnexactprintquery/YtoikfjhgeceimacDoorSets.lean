import Derived.Test.YtoikfjhgeceimacDoorInts2
import Derived.Test.YtoikfjhgeceimacDoorRatWalks5
/-
  Sets of variables: impl.isVariableSet and spec.l1SetOK answer alike; membership.
-/
namespace Go.Proofs.YtoikfjhgeceimacDoor
open Go.RowKit

theorem ret_bool {a b : Bool} (h : a = b) : Ending.returned (.bool a) = .returned (.bool b) := by rw [h]

def okAt (l : List Int) (j : Nat) : Bool := decide (0 ≤ l.getD j 0) && decide (l.getD j 0 < 6) && (decide (j = 0) || decide (l.getD (j - 1) 0 < l.getD j 0))
def setB (l : List Int) : Bool := (List.range l.length).all (okAt l)

theorem setB_true {l : List Int} (h : ∀ i, i < l.length → okAt l i = true) : setB l = true := by
  unfold setB
  rw [List.all_eq_true]
  intro i hi
  exact h i (by simpa using hi)

theorem setB_false {l : List Int} {j : Nat} (hj : j < l.length) (h : okAt l j = false) : setB l = false := by
  unfold setB
  rw [List.all_eq_false]
  exact ⟨j, by simpa using hj, by rw [h]; decide⟩

/-- what is asked at place j, case by case -/
theorem okAt_cases (l : List Int) (j : Nat) :
    (l.getD j 0 < 0 ∧ okAt l j = false) ∨ (0 ≤ l.getD j 0 ∧ 6 ≤ l.getD j 0 ∧ okAt l j = false) ∨ (0 ≤ l.getD j 0 ∧ l.getD j 0 < 6 ∧ j = 0 ∧ okAt l j = true) ∨
    (0 ≤ l.getD j 0 ∧ l.getD j 0 < 6 ∧ 0 < j ∧ l.getD j 0 ≤ l.getD (j - 1) 0 ∧ okAt l j = false) ∨ (0 ≤ l.getD j 0 ∧ l.getD j 0 < 6 ∧ 0 < j ∧ l.getD (j - 1) 0 < l.getD j 0 ∧ okAt l j = true) := by
  unfold okAt
  generalize l.getD j 0 = x
  generalize l.getD (j - 1) 0 = y
  by_cases h1 : x < 0
  · left; refine ⟨h1, ?_⟩; simp; omega
  · by_cases h2 : 6 ≤ x
    · right; left; refine ⟨by omega, h2, ?_⟩; simp; omega
    · by_cases h3 : j = 0
      · right; right; left; refine ⟨by omega, by omega, h3, ?_⟩; simp [h3]; omega
      · by_cases h4 : y < x
        · right; right; right; right; refine ⟨by omega, by omega, by omega, h4, ?_⟩; simp; omega
        · right; right; right; left; refine ⟨by omega, by omega, by omega, by omega, ?_⟩; simp; omega

end Go.Proofs.YtoikfjhgeceimacDoor
