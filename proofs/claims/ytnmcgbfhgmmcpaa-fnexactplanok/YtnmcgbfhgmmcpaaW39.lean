import Derived.Test.YtnmcgbfhgmmcpaaW09
import Derived.Test.YtnmcgbfhgmmcpaaW38
/-
  What a law is handed: a plan.
-/
namespace Go.Proofs.Ytnmcgbfhgmmcpaa
open Go.ChangeShapes Go.WideShapes Go.ChangeAt Go.RowKit Go.Joins Go.Deep

theorem Try.cellsISS : Try.prog.cellsOf 24 = 1 := by kernel_rfl
theorem Try.cellsR : Try.prog.cellsOf 47 = 2 := by kernel_rfl
theorem Try.cellsRS : Try.prog.cellsOf 46 = 1 := by kernel_rfl
theorem Try.cellsPl : Try.prog.cellsOf 49 = 6 := by kernel_rfl

theorem listP6 {α : Type} {l : List α} (h : l.length = 6) : ∃ a b c d e f, l = [a, b, c, d, e, f] := by
  match l, h with
  | [a, b, c, d, e, f], _ => exact ⟨a, b, c, d, e, f, rfl⟩
theorem listP2 {α : Type} {l : List α} (h : l.length = 2) : ∃ a b, l = [a, b] := by
  match l, h with
  | [a, b], _ => exact ⟨a, b, rfl⟩
theorem arrayP6 {a : Array Value} (h : a.size = 6) : ∃ v0 v1 v2 v3 v4 v5, a = #[v0, v1, v2, v3, v4, v5] := by
  obtain ⟨l⟩ := a
  match l, h with
  | [v0, v1, v2, v3, v4, v5], _ => exact ⟨v0, v1, v2, v3, v4, v5, rfl⟩

section
variable {H : Type} {P : Program} {w : World} {enc : TypeId × Value → H} {base : Nat} {spare : Nat → Bool} {held : Bool}
theorem trod_five {t : TypeId} {f0 f1 f2 f3 f4 : Field} {fuel : Nat} {cs : List Value} {x : DataW H × List MemPlace} (ht : P.underlying t = some (.struct #[f0, f1, f2, f3, f4])) (h : DataW.trod enc P w base spare held fuel t cs = some x) :
    ∃ y0 y1 y2 y3 y4 n, cs.length = P.cellsOf t ∧ DataW.trod enc P w base spare held n f0.type ((cs.drop f0.offset).take (P.cellsOf f0.type)) = some y0 ∧
      DataW.trod enc P w base spare held n f1.type ((cs.drop f1.offset).take (P.cellsOf f1.type)) = some y1 ∧ DataW.trod enc P w base spare held n f2.type ((cs.drop f2.offset).take (P.cellsOf f2.type)) = some y2 ∧
      DataW.trod enc P w base spare held n f3.type ((cs.drop f3.offset).take (P.cellsOf f3.type)) = some y3 ∧ DataW.trod enc P w base spare held n f4.type ((cs.drop f4.offset).take (P.cellsOf f4.type)) = some y4 := by
  obtain ⟨xs, n, _, rfl, hl, hlen, hf⟩ := DataW.trod_struct ht h
  match xs, hlen with
  | [y0, y1, y2, y3, y4], _ => exact ⟨y0, y1, y2, y3, y4, n, hl, by simpa using hf 0 f0 rfl, by simpa using hf 1 f1 rfl, by simpa using hf 2 f2 rfl, by simpa using hf 3 f3 rfl, by simpa using hf 4 f4 rfl⟩
end

variable {H : Type} {enc : TypeId × Value → H} {W : World}

set_option maxRecDepth 100000 in
theorem rat_of_trod {fuel : Nat} {cs : List Value} {x : DataW H × List MemPlace} (h : DataW.trod enc Try.prog W 0 (fun _ => true) true fuel 47 cs = some x) :
    ∃ r : Int × Int, cs = [.int .i64 r.1, .int .i64 r.2] := by
  obtain ⟨y0, y1, n, _, hlen, h0, h1⟩ := trod_struct2 Try.underlying47 h
  rw [Try.cellsR] at hlen
  obtain ⟨c0, c1, rfl⟩ := listP2 hlen
  simp only [Try.cellsI, List.drop_zero, List.drop_succ_cons, List.take_succ_cons, List.take_zero] at h0 h1
  obtain ⟨s, e0, _, hs⟩ := DataW.trod_int Try.underlying3 h0
  obtain ⟨z, e1, _, hz⟩ := DataW.trod_int Try.underlying3 h1
  simp only [List.cons.injEq, and_true] at e0 e1
  subst e0 e1
  exact ⟨(s, z), rfl⟩

theorem rats_of_trod {fuel : Nat} {v : Value} {x : DataW H × List MemPlace} (h : DataW.trod enc Try.prog W 0 (fun _ => true) true fuel 46 [v] = some x) :
    ∃ ds, IR W v ds ∧ ds.length ≤ 9223372036854775807 := by
  rcases open_slice Try.underlying46 h with ⟨hcs, _⟩ | ⟨a, len, cap, m, n, D, Pl, hcs, _, hl, hm, hmm, _, hV⟩
  · simp only [List.cons.injEq, and_true] at hcs
    subst hcs
    exact ⟨[], ⟨_, _, rfl, Or.inl rfl⟩, by simp⟩
  · simp only [List.cons.injEq, and_true] at hcs
    subst hcs
    rw [if_pos rfl] at hmm
    have hz : ∀ i, i < len → ∃ r : Int × Int, (W.cell? (a.add (i * 2)) = some (.int .i64 r.1) ∧ W.cell? ((a.add (i * 2)).add 1) = some (.int .i64 r.2)) ∧ True := fun i hi => by
      obtain ⟨cs', h1, h2⟩ := hV i (by omega)
      rw [Try.cellsR] at h1
      obtain ⟨_, hlen, hc⟩ := World.cells?_some h1
      obtain ⟨r, rfl⟩ := rat_of_trod h2
      have e0 := hc 0 (by omega)
      have e1 := hc 1 (by omega)
      exact ⟨r, ⟨by simpa [Addr.add] using e0, e1⟩, trivial⟩
    obtain ⟨L, hL⟩ := choose_lt (α := Int × Int) hz
    refine ⟨(List.range len).map L, ⟨some a, cap, by simp, ?_⟩, by simp; unfold maxLen at hm; omega⟩
    by_cases h0 : len = 0
    · left; simp [h0]
    · right
      obtain ⟨b, o, spot⟩ := a
      have hs : spot = none := World.cell?_spot (hL 0 (by omega)).1.1
      subst hs
      refine ⟨b, o, rfl, fun j hj => ?_⟩
      simp only [List.length_map, List.length_range] at hj
      rw [getD_map_range _ _ _ _ hj]
      obtain ⟨⟨c0, c1⟩, _⟩ := hL j hj
      rw [add_plain] at c0
      rw [add_plain, add_plain] at c1
      exact ⟨c0, c1⟩

set_option maxRecDepth 100000 in
theorem plan_of_trod {fuel : Nat} {cs : List Value} {x : DataW H × List MemPlace} (h : DataW.trod enc Try.prog W 0 (fun _ => true) true fuel 49 cs = some x) :
    ∃ v0 v1 v2 v3 a b bs ps hs ws, cs = [v0, v1, v2, v3, .int .i64 a, .int .i64 b] ∧ IPl W v0 v1 v2 v3 bs ps hs ws ∧ Fits bs ∧ ps.length ≤ 9223372036854775807 ∧ hs.length ≤ 9223372036854775807 ∧ ws.length ≤ 9223372036854775807 := by
  obtain ⟨y0, y1, y2, y3, y4, n, hlen, h0, h1, h2, h3, h4⟩ := trod_five Try.underlying49 h
  rw [Try.cellsPl] at hlen
  obtain ⟨c0, c1, c2, c3, c4, c5, rfl⟩ := listP6 hlen
  simp only [Try.cellsIS, Try.cellsISS, Try.cellsRS, Try.cellsR, List.drop_zero, List.drop_succ_cons, List.take_succ_cons, List.take_zero] at h0 h1 h2 h3 h4
  obtain ⟨bs, i0, f0⟩ := ISS_of_trod h0
  obtain ⟨ps, i1, f1⟩ := IS_of_trod h1
  obtain ⟨hs, i2, f2⟩ := IS_of_trod h2
  obtain ⟨ws, i3, f3⟩ := rats_of_trod h3
  obtain ⟨r, e⟩ := rat_of_trod h4
  simp only [List.cons.injEq, and_true] at e
  obtain ⟨rfl, rfl⟩ := e
  exact ⟨c0, c1, c2, c3, r.1, r.2, bs, ps, hs, ws, rfl, ⟨i0, i1, i2, i3⟩, f0, f1, f2, f3⟩

end Go.Proofs.Ytnmcgbfhgmmcpaa
