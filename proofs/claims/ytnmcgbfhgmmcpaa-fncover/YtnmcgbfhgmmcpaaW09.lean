import Derived.Below
import Derived.Carry
import Derived.Deep.Slices
import Derived.Lib.SmallJoins
import Derived.OpenShut
import Derived.ProofKit
import Derived.Test.YtnmcgbfhgmmcpaaRows
import Derived.Test.YtnmcgbfhgmmcpaaW08
/-
  What a law is handed: slices of ints, slices of slices, read off the row's own reading.
-/
namespace Go.Proofs.Ytnmcgbfhgmmcpaa
open Go.ChangeShapes Go.WideShapes Go.ChangeAt Go.RowKit Go.Joins Go.Deep

theorem Try.ownK : ownKnob Try.prog.godebug = none := by kernel_rfl
theorem Try.laidO : laidOutB Try.prog = true := by kernel_rfl
theorem Try.cellsI : Try.prog.cellsOf 3 = 1 := by kernel_rfl
theorem Try.cellsIS : Try.prog.cellsOf 23 = 1 := by kernel_rfl

theorem getD_map_range {α : Type} (f : Nat → α) (n j : Nat) (d : α) (h : j < n) : ((List.range n).map f).getD j d = f j := by
  rw [List.getD_eq_getElem?_getD, List.getElem?_map, List.getElem?_range h]; rfl

variable {H : Type} {enc : TypeId × Value → H} {W : World}

theorem IS_of_trod {fuel : Nat} {v : Value} {x : DataW H × List MemPlace} (h : DataW.trod enc Try.prog W 0 (fun _ => true) true fuel 23 [v] = some x) :
    ∃ l, IS W v l ∧ l.length ≤ 9223372036854775807 := by
  rcases open_slice1 Try.underlying23 Try.cellsI h with ⟨hcs, _⟩ | ⟨a, len, cap, m, n, V, D, Pl, hcs, _, hl, hm, hmm, _, hV⟩
  · simp only [List.cons.injEq, and_true] at hcs
    subst hcs
    exact ⟨[], ⟨_, _, rfl, Or.inl rfl⟩, by simp⟩
  · simp only [List.cons.injEq, and_true] at hcs
    subst hcs
    rw [if_pos rfl] at hmm
    have hz : ∀ i, i < len → ∃ z, V i = .int .i64 z := fun i hi => by
      obtain ⟨_, h2⟩ := hV i (by omega)
      obtain ⟨z, e0, _, _⟩ := DataW.trod_int Try.underlying3 h2
      exact ⟨z, by simpa using e0⟩
    have e : ∀ i, i < len → V i = .int .i64 (intOf (V i)) := fun i hi => by
      obtain ⟨z, hz⟩ := hz i hi
      rw [hz]; rfl
    refine ⟨(List.range len).map fun i => intOf (V i), ⟨some a, cap, by simp, ?_⟩, by simp; unfold maxLen at hm; omega⟩
    by_cases h0 : len = 0
    · left; simp [h0]
    · right
      obtain ⟨b, o, spot⟩ := a
      have hs : spot = none := World.cell?_spot (hV 0 (by omega)).1
      subst hs
      refine ⟨b, o, rfl, fun j hj => ?_⟩
      simp only [List.length_map, List.length_range] at hj
      rw [getD_map_range _ _ _ _ hj, ← e j hj, ← add_plain]
      exact (hV j (by omega)).1

theorem ISS_of_trod {fuel : Nat} {v : Value} {x : DataW H × List MemPlace} (h : DataW.trod enc Try.prog W 0 (fun _ => true) true fuel 24 [v] = some x) :
    ∃ ls, ISS W v ls ∧ Fits ls := by
  rcases open_slice1 Try.underlying24 Try.cellsIS h with ⟨hcs, _⟩ | ⟨a, len, cap, m, n, V, D, Pl, hcs, _, hl, hm, hmm, _, hV⟩
  · simp only [List.cons.injEq, and_true] at hcs
    subst hcs
    exact ⟨[], ⟨_, _, rfl, Or.inl rfl⟩, by simp, fun j => by simp⟩
  · simp only [List.cons.injEq, and_true] at hcs
    subst hcs
    rw [if_pos rfl] at hmm
    have hz : ∀ i, i < len → ∃ l, IS W (V i) l ∧ l.length ≤ 9223372036854775807 := fun i hi => by
      obtain ⟨_, h2⟩ := hV i (by omega)
      exact IS_of_trod h2
    obtain ⟨L, hL⟩ := choose_lt (α := List Int) hz
    refine ⟨(List.range len).map L, ⟨some a, cap, by simp, ?_⟩, by simp; unfold maxLen at hm; omega, fun j => ?_⟩
    · by_cases h0 : len = 0
      · left; simp [h0]
      · right
        obtain ⟨b, o, spot⟩ := a
        have hs : spot = none := World.cell?_spot (hV 0 (by omega)).1
        subst hs
        refine ⟨b, o, rfl, fun j hj => ?_⟩
        simp only [List.length_map, List.length_range] at hj
        refine ⟨V j, ?_, ?_⟩
        · rw [← add_plain]; exact (hV j (by omega)).1
        · rw [getD_map_range _ _ _ _ hj]; exact (hL j hj).1
    · by_cases hj : j < len
      · rw [getD_map_range _ _ _ _ hj]; exact (hL j hj).2
      · rw [List.getD_eq_getElem?_getD, List.getElem?_eq_none (by simpa using hj)]; simp

end Go.Proofs.Ytnmcgbfhgmmcpaa
