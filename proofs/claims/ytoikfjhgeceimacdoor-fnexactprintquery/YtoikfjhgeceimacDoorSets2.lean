import Derived.Test.YtoikfjhgeceimacDoorSets
/-
  Membership: spec.l1Has, slices.Index, slices.Contains.
-/
namespace Go.Proofs.YtoikfjhgeceimacDoor
open Go.RowKit

theorem mem_getD {l : List Int} {j : Nat} (h : j < l.length) : l.getD j 0 ∈ l := by
  rw [List.getD_eq_getElem?_getD, List.getElem?_eq_getElem h]
  exact List.getElem_mem h

theorem getD_mem {l : List Int} {x : Int} (h : x ∈ l) : ∃ j, j < l.length ∧ l.getD j 0 = x := by
  obtain ⟨j, hj, e⟩ := List.getElem_of_mem h
  exact ⟨j, hj, by rw [List.getD_eq_getElem?_getD, List.getElem?_eq_getElem hj]; exact e⟩

end Go.Proofs.YtoikfjhgeceimacDoor
