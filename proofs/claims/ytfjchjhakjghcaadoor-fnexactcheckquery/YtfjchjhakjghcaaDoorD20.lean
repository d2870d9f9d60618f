import Derived.Test.YtfjchjhakjghcaaDoorD07
import Derived.Test.YtfjchjhakjghcaaDoorD19
/-
  What a law is handed: data.
-/
namespace Go.Proofs.YtfjchjhakjghcaaDoor
open Go.ChangeShapes Go.WideShapes Go.ChangeAt Go.RowKit Go.Joins Go.Deep

variable {H : Type} {enc : TypeId × Value → H} {W : World}

theorem Tryd.cellsRel : Tryd.prog.cellsOf 93 = 4 := by kernel_rfl
theorem Tryd.cellsData : Tryd.prog.cellsOf 24 = 1 := by kernel_rfl
theorem Tryd.cellsRels : Tryd.prog.cellsOf 22 = 1 := by kernel_rfl
theorem Tryd.cellsISS : Tryd.prog.cellsOf 51 = 1 := by kernel_rfl
theorem Tryd.cellsStr : Tryd.prog.cellsOf 9 = 1 := by kernel_rfl


theorem list4 {α : Type} {l : List α} (h : l.length = 4) : ∃ a b c d, l = [a, b, c, d] := by
  match l, h with
  | [a, b, c, d], _ => exact ⟨a, b, c, d, rfl⟩

set_option maxRecDepth 100000 in
theorem rel_of_trod {fuel : Nat} {cs : List Value} {x : DataW H × List MemPlace} (h : DataW.trod enc Tryd.prog W 0 (fun _ => true) true fuel 93 cs = some x) :
    ∃ vr vw r, cs = [.string r.name, .int .i64 r.ar, vr, vw] ∧ IRel W vr vw r ∧ FitRel r := by
  obtain ⟨y0, y1, y2, y3, n, _, hlen, h0, h1, h2, h3⟩ := trod_struct4 Tryd.underlying93 h
  rw [Tryd.cellsRel] at hlen
  obtain ⟨c0, c1, c2, c3, rfl⟩ := list4 hlen
  simp only [Tryd.cellsStr, Tryd.cellsI, Tryd.cellsISS, Tryd.cellsIS, List.drop_zero, List.drop_succ_cons, List.take_succ_cons, List.take_zero] at h0 h1 h2 h3
  obtain ⟨s, e0, _, hs⟩ := DataW.trod_string Tryd.underlying9 h0
  obtain ⟨z, e1, _, hz⟩ := DataW.trod_int Tryd.underlying3 h1
  obtain ⟨rows, i2, f2, _⟩ := ISS_rng h2
  obtain ⟨ws, i3, f3, _⟩ := IS_rng h3
  simp only [List.cons.injEq, and_true] at e0 e1
  subst e0 e1
  exact ⟨c2, c3, ⟨s, z, rows, ws⟩, rfl, ⟨i2, i3⟩, ⟨hs, f2, f3⟩⟩

theorem fitRel_no : FitRel noRel := ⟨by simp [noRel, ByteArray.size], ⟨by simp [noRel], fun j => by simp [noRel]⟩, by simp [noRel]⟩

theorem rels_of_trod {fuel : Nat} {v : Value} {x : DataW H × List MemPlace} (h : DataW.trod enc Tryd.prog W 0 (fun _ => true) true fuel 22 [v] = some x) :
    ∃ ds, IRelS W v ds ∧ ds.length ≤ 9223372036854775807 ∧ ∀ j, FitRel (ds.getD j noRel) := by
  rcases open_slice Tryd.underlying22 h with ⟨hcs, _⟩ | ⟨a, len, cap, m, n, D, Pl, hcs, _, hl, hm, hmm, _, hV⟩
  · simp only [List.cons.injEq, and_true] at hcs
    subst hcs
    exact ⟨[], ⟨_, _, rfl, Or.inl rfl⟩, by simp, fun j => by simpa using fitRel_no⟩
  · simp only [List.cons.injEq, and_true] at hcs
    subst hcs
    rw [if_pos rfl] at hmm
    have hz : ∀ i, i < len → ∃ r : RelV, (∃ vr vw, W.cell? (a.add (i * 4)) = some (.string r.name) ∧ W.cell? ((a.add (i * 4)).add 1) = some (.int .i64 r.ar) ∧ W.cell? ((a.add (i * 4)).add 2) = some vr ∧ W.cell? ((a.add (i * 4)).add 3) = some vw ∧ IRel W vr vw r) ∧ FitRel r := fun i hi => by
      obtain ⟨cs', h1, h2⟩ := hV i (by omega)
      rw [Tryd.cellsRel] at h1
      obtain ⟨_, hlen, hc⟩ := World.cells?_some h1
      obtain ⟨vr, vw, r, rfl, hir, hf⟩ := rel_of_trod h2
      have e0 := hc 0 (by omega)
      have e1 := hc 1 (by omega)
      have e2 := hc 2 (by omega)
      have e3 := hc 3 (by omega)
      exact ⟨r, ⟨vr, vw, by simpa [Addr.add] using e0, e1, e2, e3, hir⟩, hf⟩
    have inh : Inhabited RelV := ⟨noRel⟩
    obtain ⟨L, hL⟩ := choose_lt (α := RelV) hz
    refine ⟨(List.range len).map L, ⟨some a, cap, by simp, ?_⟩, by simp; unfold maxLen at hm; omega, fun j => ?_⟩
    · by_cases h0 : len = 0
      · left; simp [h0]
      · right
        obtain ⟨b, o, spot⟩ := a
        have hs : spot = none := by
          obtain ⟨⟨vr, vw, c0, _⟩, _⟩ := hL 0 (by omega)
          exact World.cell?_spot c0
        subst hs
        refine ⟨b, o, rfl, fun j hj => ?_⟩
        simp only [List.length_map, List.length_range] at hj
        rw [getD_map_range _ _ _ _ hj]
        obtain ⟨⟨vr, vw, c0, c1, c2, c3, hir⟩, _⟩ := hL j hj
        rw [add_plain] at c0
        rw [add_plain, add_plain] at c1 c2 c3
        exact ⟨vr, vw, c0, c1, c2, c3, hir⟩
    · by_cases hj : j < len
      · rw [getD_map_range _ _ _ _ hj]; exact (hL j hj).2
      · rw [List.getD_eq_getElem?_getD, List.getElem?_eq_none (by simpa using hj)]; simpa using fitRel_no

end Go.Proofs.YtfjchjhakjghcaaDoor
