import Derived.Test.YtnbbbbfamlmfpaaGreatJn06
import Derived.Test.YtnbbbbfamlmfpaaGreatJn24
/-
  What a law is handed: tables.
-/
namespace Go.Proofs.YtnbbbbfamlmfpaaGreat
open Go.ChangeShapes Go.WideShapes Go.ChangeAt Go.RowKit Go.Joins Go.Deep

variable {H : Type} {enc : TypeId × Value → H} {W : World}

theorem Tryz.cellsTabL : Tryz.prog.cellsOf 40 = 3 := by kernel_rfl
theorem Tryz.cellsISS : Tryz.prog.cellsOf 25 = 1 := by kernel_rfl


theorem list3 {α : Type} {l : List α} (h : l.length = 3) : ∃ a b c, l = [a, b, c] := by
  match l, h with
  | [a, b, c], _ => exact ⟨a, b, c, rfl⟩

set_option maxRecDepth 100000 in
theorem tab_of_trod {fuel : Nat} {cs : List Value} {x : DataW H × List MemPlace} (h : DataW.trod enc Tryz.prog W 0 (fun _ => true) true fuel 40 cs = some x) :
    ∃ v0 v1 v2 t, cs = [v0, v1, v2] ∧ IT W v0 v1 v2 t.vs t.rows t.ws ∧ TvF t := by
  obtain ⟨y0, y1, y2, n, _, hlen, h0, h1, h2⟩ := trod_struct3 Tryz.underlying40 h
  rw [Tryz.cellsTabL] at hlen
  obtain ⟨c0, c1, c2, rfl⟩ := list3 hlen
  simp only [Tryz.cellsISS, Tryz.cellsIS, List.drop_zero, List.drop_succ_cons, List.take_succ_cons, List.take_zero] at h0 h1 h2
  obtain ⟨vs, i0, f0⟩ := IS_of_trod h0
  obtain ⟨rows, i1, f1⟩ := ISS_of_trod h1
  obtain ⟨ws, i2, f2⟩ := IS_of_trod h2
  exact ⟨c0, c1, c2, ⟨vs, rows, ws⟩, rfl, ⟨i0, i1, i2⟩, ⟨f0, f1, f2⟩⟩

theorem tabs_of_trod {fuel : Nat} {v : Value} {x : DataW H × List MemPlace} (h : DataW.trod enc Tryz.prog W 0 (fun _ => true) true fuel 22 [v] = some x) :
    ∃ tl, ITs W v tl ∧ tl.length ≤ 9223372036854775807 ∧ ∀ t ∈ tl, TvF t := by
  rcases open_slice Tryz.underlying22 h with ⟨hcs, _⟩ | ⟨a, len, cap, m, n, D, Pl, hcs, _, hl, hm, hmm, _, hV⟩
  · simp only [List.cons.injEq, and_true] at hcs
    subst hcs
    exact ⟨[], ⟨_, _, rfl, Or.inl rfl⟩, by simp, fun t ht => by cases ht⟩
  · simp only [List.cons.injEq, and_true] at hcs
    subst hcs
    rw [if_pos rfl] at hmm
    have hz : ∀ i, i < len → ∃ t : TbV, (∃ v0 v1 v2, W.cell? (a.add (i * 3)) = some v0 ∧ W.cell? ((a.add (i * 3)).add 1) = some v1 ∧ W.cell? ((a.add (i * 3)).add 2) = some v2 ∧ IT W v0 v1 v2 t.vs t.rows t.ws) ∧ TvF t := fun i hi => by
      obtain ⟨cs', h1, h2⟩ := hV i (by omega)
      rw [Tryz.cellsTabL] at h1
      obtain ⟨_, hlen, hc⟩ := World.cells?_some h1
      obtain ⟨v0, v1, v2, t, rfl, hir, hf⟩ := tab_of_trod h2
      have e0 := hc 0 (by omega)
      have e1 := hc 1 (by omega)
      have e2 := hc 2 (by omega)
      exact ⟨t, ⟨v0, v1, v2, by simpa [Addr.add] using e0, e1, e2, hir⟩, hf⟩
    have _i : Inhabited TbV := ⟨noTv⟩
    obtain ⟨L, hL⟩ := choose_lt (α := TbV) hz
    refine ⟨(List.range len).map L, ⟨some a, cap, by simp, ?_⟩, by simp; unfold maxLen at hm; omega, fun t ht => ?_⟩
    · by_cases h0 : len = 0
      · left; simp [h0]
      · right
        obtain ⟨b, o, spot⟩ := a
        have hs : spot = none := by
          obtain ⟨⟨v0, v1, v2, c0, _⟩, _⟩ := hL 0 (by omega)
          exact World.cell?_spot c0
        subst hs
        refine ⟨b, o, rfl, fun j hj => ?_⟩
        simp only [List.length_map, List.length_range] at hj
        rw [getD_map_range _ _ _ _ hj]
        obtain ⟨⟨v0, v1, v2, c0, c1, c2, hir⟩, _⟩ := hL j hj
        rw [add_plain] at c0
        rw [add_plain, add_plain] at c1 c2
        exact ⟨v0, v1, v2, c0, c1, c2, hir⟩
    · obtain ⟨j, hj, rfl⟩ := List.mem_map.1 ht
      exact (hL j (List.mem_range.1 hj)).2

end Go.Proofs.YtnbbbbfamlmfpaaGreat
