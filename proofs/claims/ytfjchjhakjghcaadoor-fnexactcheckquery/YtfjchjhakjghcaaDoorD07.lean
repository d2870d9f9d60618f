import Derived.Below
import Derived.Carry
import Derived.Deep.Slices
import Derived.Lib.SmallJoins
import Derived.OpenShut
import Derived.ProofKit
import Derived.Test.YtfjchjhakjghcaaDoorRows
import Derived.Test.YtfjchjhakjghcaaDoorD06
/-
  What a law is handed: slices of ints, slices of slices, read off the row's own reading.
-/
namespace Go.Proofs.YtfjchjhakjghcaaDoor
open Go.ChangeShapes Go.WideShapes Go.ChangeAt Go.RowKit Go.Joins Go.Deep

theorem Tryd.ownK : ownKnob Tryd.prog.godebug = none := by kernel_rfl
theorem Tryd.laidO : laidOutB Tryd.prog = true := by kernel_rfl
theorem Tryd.cellsI : Tryd.prog.cellsOf 3 = 1 := by kernel_rfl
theorem Tryd.cellsIS : Tryd.prog.cellsOf 52 = 1 := by kernel_rfl

theorem getD_map_range {α : Type} (f : Nat → α) (n j : Nat) (d : α) (h : j < n) : ((List.range n).map f).getD j d = f j := by
  rw [List.getD_eq_getElem?_getD, List.getElem?_map, List.getElem?_range h]; rfl

variable {H : Type} {enc : TypeId × Value → H} {W : World}

theorem IS_of_trod {fuel : Nat} {v : Value} {x : DataW H × List MemPlace} (h : DataW.trod enc Tryd.prog W 0 (fun _ => true) true fuel 52 [v] = some x) :
    ∃ l, IS W v l ∧ l.length ≤ 9223372036854775807 := by
  rcases open_slice1 Tryd.underlying52 Tryd.cellsI h with ⟨hcs, _⟩ | ⟨a, len, cap, m, n, V, D, Pl, hcs, _, hl, hm, hmm, _, hV⟩
  · simp only [List.cons.injEq, and_true] at hcs
    subst hcs
    exact ⟨[], ⟨_, _, rfl, Or.inl rfl⟩, by simp⟩
  · simp only [List.cons.injEq, and_true] at hcs
    subst hcs
    rw [if_pos rfl] at hmm
    have hz : ∀ i, i < len → ∃ z, V i = .int .i64 z := fun i hi => by
      obtain ⟨_, h2⟩ := hV i (by omega)
      obtain ⟨z, e0, _, _⟩ := DataW.trod_int Tryd.underlying3 h2
      exact ⟨z, by simpa using e0⟩
    have e : ∀ i, i < len → V i = .int .i64 (intOf (V i)) := fun i hi => by
      obtain ⟨z, hz⟩ := hz i hi
      rw [hz]; rfl
    refine ⟨(List.range len).map fun i => intOf (V i), ⟨some a, cap, by simp, ?_⟩, by simp; unfold maxLen at hm; omega⟩
    by_cases h0 : len = 0
    · left; simp [h0]
    · right
      obtain ⟨b, o, spot⟩ := a
      have hs : spot = none := World.cell?_spot (hV 0 (by omega)).1
      subst hs
      refine ⟨b, o, rfl, fun j hj => ?_⟩
      simp only [List.length_map, List.length_range] at hj
      rw [getD_map_range _ _ _ _ hj, ← e j hj, ← add_plain]
      exact (hV j (by omega)).1

theorem ISS_of_trod {fuel : Nat} {v : Value} {x : DataW H × List MemPlace} (h : DataW.trod enc Tryd.prog W 0 (fun _ => true) true fuel 51 [v] = some x) :
    ∃ ls, ISS W v ls ∧ Fits ls := by
  rcases open_slice1 Tryd.underlying51 Tryd.cellsIS h with ⟨hcs, _⟩ | ⟨a, len, cap, m, n, V, D, Pl, hcs, _, hl, hm, hmm, _, hV⟩
  · simp only [List.cons.injEq, and_true] at hcs
    subst hcs
    exact ⟨[], ⟨_, _, rfl, Or.inl rfl⟩, by simp, fun j => by simp⟩
  · simp only [List.cons.injEq, and_true] at hcs
    subst hcs
    rw [if_pos rfl] at hmm
    have hz : ∀ i, i < len → ∃ l, IS W (V i) l ∧ l.length ≤ 9223372036854775807 := fun i hi => by
      obtain ⟨_, h2⟩ := hV i (by omega)
      exact IS_of_trod h2
    obtain ⟨L, hL⟩ := choose_lt (α := List Int) hz
    refine ⟨(List.range len).map L, ⟨some a, cap, by simp, ?_⟩, by simp; unfold maxLen at hm; omega, fun j => ?_⟩
    · by_cases h0 : len = 0
      · left; simp [h0]
      · right
        obtain ⟨b, o, spot⟩ := a
        have hs : spot = none := World.cell?_spot (hV 0 (by omega)).1
        subst hs
        refine ⟨b, o, rfl, fun j hj => ?_⟩
        simp only [List.length_map, List.length_range] at hj
        refine ⟨V j, ?_, ?_⟩
        · rw [← add_plain]; exact (hV j (by omega)).1
        · rw [getD_map_range _ _ _ _ hj]; exact (hL j hj).1
    · by_cases hj : j < len
      · rw [getD_map_range _ _ _ _ hj]; exact (hL j hj).2
      · rw [List.getD_eq_getElem?_getD, List.getElem?_eq_none (by simpa using hj)]; simp

end Go.Proofs.YtfjchjhakjghcaaDoor

/-
  What a law is handed, with the numbers' range.
-/
namespace Go.Proofs.YtfjchjhakjghcaaDoor
open Go.ChangeShapes Go.WideShapes Go.ChangeAt Go.RowKit Go.Joins Go.Deep

/-- numbers of 64 bits -/
def Rng (l : List Int) : Prop := ∀ j, -9223372036854775808 ≤ l.getD j 0 ∧ l.getD j 0 ≤ 9223372036854775807

theorem rng_nil : Rng [] := fun j => by simp

variable {H : Type} {enc : TypeId × Value → H} {W : World}

theorem IS_rng {fuel : Nat} {v : Value} {x : DataW H × List MemPlace} (h : DataW.trod enc Tryd.prog W 0 (fun _ => true) true fuel 52 [v] = some x) :
    ∃ l, IS W v l ∧ l.length ≤ 9223372036854775807 ∧ Rng l := by
  rcases open_slice1 Tryd.underlying52 Tryd.cellsI h with ⟨hcs, _⟩ | ⟨a, len, cap, m, n, V, D, Pl, hcs, _, hl, hm, hmm, _, hV⟩
  · simp only [List.cons.injEq, and_true] at hcs
    subst hcs
    exact ⟨[], ⟨_, _, rfl, Or.inl rfl⟩, by simp, rng_nil⟩
  · simp only [List.cons.injEq, and_true] at hcs
    subst hcs
    rw [if_pos rfl] at hmm
    have hz : ∀ i, i < len → ∃ z, V i = .int .i64 z ∧ (Lit.int .i64 z).wf = true := fun i hi => by
      obtain ⟨_, h2⟩ := hV i (by omega)
      obtain ⟨z, e0, _, hw⟩ := DataW.trod_int Tryd.underlying3 h2
      exact ⟨z, by simpa using e0, hw⟩
    have e : ∀ i, i < len → V i = .int .i64 (intOf (V i)) := fun i hi => by
      obtain ⟨z, hz, _⟩ := hz i hi
      rw [hz]; rfl
    refine ⟨(List.range len).map fun i => intOf (V i), ⟨some a, cap, by simp, ?_⟩, by simp; unfold maxLen at hm; omega, fun j => ?_⟩
    · by_cases h0 : len = 0
      · left; simp [h0]
      · right
        obtain ⟨b, o, spot⟩ := a
        have hs : spot = none := World.cell?_spot (hV 0 (by omega)).1
        subst hs
        refine ⟨b, o, rfl, fun j hj => ?_⟩
        simp only [List.length_map, List.length_range] at hj
        rw [getD_map_range _ _ _ _ hj, ← e j hj, ← add_plain]
        exact (hV j (by omega)).1
    · by_cases hj : j < len
      · rw [getD_map_range _ _ _ _ hj]
        obtain ⟨z, hz, hw⟩ := hz j hj
        rw [hz]
        exact bounds_i64 hw
      · rw [List.getD_eq_getElem?_getD, List.getElem?_eq_none (by simpa using hj)]; simp

theorem ISS_rng {fuel : Nat} {v : Value} {x : DataW H × List MemPlace} (h : DataW.trod enc Tryd.prog W 0 (fun _ => true) true fuel 51 [v] = some x) :
    ∃ ls, ISS W v ls ∧ Fits ls ∧ ∀ k, Rng (ls.getD k []) := by
  rcases open_slice1 Tryd.underlying51 Tryd.cellsIS h with ⟨hcs, _⟩ | ⟨a, len, cap, m, n, V, D, Pl, hcs, _, hl, hm, hmm, _, hV⟩
  · simp only [List.cons.injEq, and_true] at hcs
    subst hcs
    exact ⟨[], ⟨_, _, rfl, Or.inl rfl⟩, ⟨by simp, fun j => by simp⟩, fun k => by simpa using rng_nil⟩
  · simp only [List.cons.injEq, and_true] at hcs
    subst hcs
    rw [if_pos rfl] at hmm
    have hz : ∀ i, i < len → ∃ l, IS W (V i) l ∧ l.length ≤ 9223372036854775807 ∧ Rng l := fun i hi => by
      obtain ⟨_, h2⟩ := hV i (by omega)
      exact IS_rng h2
    obtain ⟨L, hL⟩ := choose_lt (α := List Int) hz
    refine ⟨(List.range len).map L, ⟨some a, cap, by simp, ?_⟩, ⟨by simp; unfold maxLen at hm; omega, fun j => ?_⟩, fun j => ?_⟩
    · by_cases h0 : len = 0
      · left; simp [h0]
      · right
        obtain ⟨b, o, spot⟩ := a
        have hs : spot = none := World.cell?_spot (hV 0 (by omega)).1
        subst hs
        refine ⟨b, o, rfl, fun j hj => ?_⟩
        simp only [List.length_map, List.length_range] at hj
        refine ⟨V j, ?_, ?_⟩
        · rw [← add_plain]; exact (hV j (by omega)).1
        · rw [getD_map_range _ _ _ _ hj]; exact (hL j hj).1
    · by_cases hj : j < len
      · rw [getD_map_range _ _ _ _ hj]; exact (hL j hj).2.1
      · rw [List.getD_eq_getElem?_getD, List.getElem?_eq_none (by simpa using hj)]; simp
    · by_cases hj : j < len
      · rw [getD_map_range _ _ _ _ hj]; exact (hL j hj).2.2
      · rw [List.getD_eq_getElem?_getD, List.getElem?_eq_none (by simpa using hj)]; simpa using rng_nil

end Go.Proofs.YtfjchjhakjghcaaDoor
