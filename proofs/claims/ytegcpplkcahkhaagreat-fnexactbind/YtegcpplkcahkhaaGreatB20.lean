import Derived.Below
import Derived.Carry
import Derived.Deep.Slices
import Derived.Lib.SmallJoins
import Derived.OpenShut
import Derived.ProofKit
import Derived.Test.YtegcpplkcahkhaaGreatRows
import Derived.Test.YtegcpplkcahkhaaGreatB19
/-
  What a law is handed: a query.
-/
namespace Go.Proofs.YtegcpplkcahkhaaGreat
open Go.ChangeShapes Go.WideShapes Go.ChangeAt Go.RowKit Go.Joins Go.Deep

theorem Tryz.ownKQ : ownKnob Tryz.prog.godebug = none := by kernel_rfl
theorem Tryz.laidQ : laidOutB Tryz.prog = true := by kernel_rfl
theorem Tryz.cellsQI : Tryz.prog.cellsOf 3 = 1 := by kernel_rfl
theorem Tryz.cellsQS : Tryz.prog.cellsOf 9 = 1 := by kernel_rfl
theorem Tryz.cellsQSS : Tryz.prog.cellsOf 25 = 1 := by kernel_rfl
theorem Tryz.cellsQT : Tryz.prog.cellsOf 144 = 2 := by kernel_rfl
theorem Tryz.cellsQTS : Tryz.prog.cellsOf 90 = 1 := by kernel_rfl
theorem Tryz.cellsQA : Tryz.prog.cellsOf 92 = 2 := by kernel_rfl
theorem Tryz.cellsQAS : Tryz.prog.cellsOf 26 = 1 := by kernel_rfl
theorem Tryz.cellsQQ : Tryz.prog.cellsOf 28 = 4 := by kernel_rfl

theorem getD_map_rangeQ {α : Type} (f : Nat → α) (n j : Nat) (d : α) (h : j < n) : ((List.range n).map f).getD j d = f j := by
  rw [List.getD_eq_getElem?_getD, List.getElem?_map, List.getElem?_range h]; rfl


theorem listQ4 {α : Type} {l : List α} (h : l.length = 4) : ∃ a b c d, l = [a, b, c, d] := by
  match l, h with
  | [a, b, c, d], _ => exact ⟨a, b, c, d, rfl⟩
theorem listQ2 {α : Type} {l : List α} (h : l.length = 2) : ∃ a b, l = [a, b] := by
  match l, h with
  | [a, b], _ => exact ⟨a, b, rfl⟩
theorem arrayQ4 {a : Array Value} (h : a.size = 4) : ∃ v0 v1 v2 v3, a = #[v0, v1, v2, v3] := by
  obtain ⟨l⟩ := a
  match l, h with
  | [v0, v1, v2, v3], _ => exact ⟨v0, v1, v2, v3, rfl⟩

variable {H : Type} {enc : TypeId × Value → H} {W : World}

theorem noTx_size : noTx.size ≤ 9223372036854775807 := by simp [noTx, ByteArray.size]

theorem strs_of_trod {fuel : Nat} {v : Value} {x : DataW H × List MemPlace} (h : DataW.trod enc Tryz.prog W 0 (fun _ => true) true fuel 25 [v] = some x) :
    ∃ l, ISt W v l ∧ l.length ≤ 9223372036854775807 ∧ ∀ j, (l.getD j noTx).size ≤ 9223372036854775807 := by
  rcases open_slice1 Tryz.underlying25 Tryz.cellsQS h with ⟨hcs, _⟩ | ⟨a, len, cap, m, n, V, D, Pl, hcs, _, hl, hm, hmm, _, hV⟩
  · simp only [List.cons.injEq, and_true] at hcs
    subst hcs
    exact ⟨[], ⟨_, _, rfl, Or.inl rfl⟩, by simp, fun j => by simpa using noTx_size⟩
  · simp only [List.cons.injEq, and_true] at hcs
    subst hcs
    rw [if_pos rfl] at hmm
    have hz : ∀ i, i < len → ∃ s : ByteArray, W.cell? (a.add i) = some (.string s) ∧ s.size ≤ 9223372036854775807 := fun i hi => by
      obtain ⟨h1, h2⟩ := hV i (by omega)
      obtain ⟨s, e0, _, hs⟩ := DataW.trod_string Tryz.underlying9 h2
      simp only [List.cons.injEq, and_true] at e0
      exact ⟨s, by rw [← e0]; exact h1, hs⟩
    have inh : Inhabited ByteArray := ⟨noTx⟩
    obtain ⟨L, hL⟩ := choose_lt (α := ByteArray) hz
    refine ⟨(List.range len).map L, ⟨some a, cap, by simp, ?_⟩, by simp; unfold maxLen at hm; omega, fun j => ?_⟩
    · by_cases h0 : len = 0
      · left; simp [h0]
      · right
        obtain ⟨b, o, spot⟩ := a
        have hs : spot = none := World.cell?_spot (hL 0 (by omega)).1
        subst hs
        refine ⟨b, o, rfl, fun j hj => ?_⟩
        simp only [List.length_map, List.length_range] at hj
        rw [getD_map_rangeQ _ _ _ _ hj, ← add_plain]
        exact (hL j hj).1
    · by_cases hj : j < len
      · rw [getD_map_rangeQ _ _ _ _ hj]; exact (hL j hj).2
      · rw [List.getD_eq_getElem?_getD, List.getElem?_eq_none (by simpa using hj)]; simpa using noTx_size

set_option maxRecDepth 100000 in
theorem term_of_trod {fuel : Nat} {cs : List Value} {x : DataW H × List MemPlace} (h : DataW.trod enc Tryz.prog W 0 (fun _ => true) true fuel 144 cs = some x) :
    ∃ r : TermV, cs = [.string r.1, .int .i64 r.2] ∧ r.1.size ≤ 9223372036854775807 := by
  obtain ⟨y0, y1, n, _, hlen, h0, h1⟩ := trod_struct2 Tryz.underlying144 h
  rw [Tryz.cellsQT] at hlen
  obtain ⟨c0, c1, rfl⟩ := listQ2 hlen
  simp only [Tryz.cellsQS, Tryz.cellsQI, List.drop_zero, List.drop_succ_cons, List.take_succ_cons, List.take_zero] at h0 h1
  obtain ⟨s, e0, _, hs⟩ := DataW.trod_string Tryz.underlying9 h0
  obtain ⟨z, e1, _, hz⟩ := DataW.trod_int Tryz.underlying3 h1
  simp only [List.cons.injEq, and_true] at e0 e1
  subst e0 e1
  exact ⟨(s, z), rfl, hs⟩

theorem terms_of_trod {fuel : Nat} {v : Value} {x : DataW H × List MemPlace} (h : DataW.trod enc Tryz.prog W 0 (fun _ => true) true fuel 90 [v] = some x) :
    ∃ ds, ITm W v ds ∧ ds.length ≤ 9223372036854775807 ∧ ∀ j, (ds.getD j noTm).1.size ≤ 9223372036854775807 := by
  rcases open_slice Tryz.underlying90 h with ⟨hcs, _⟩ | ⟨a, len, cap, m, n, D, Pl, hcs, _, hl, hm, hmm, _, hV⟩
  · simp only [List.cons.injEq, and_true] at hcs
    subst hcs
    exact ⟨[], ⟨_, _, rfl, Or.inl rfl⟩, by simp, fun j => by simpa [noTm] using noTx_size⟩
  · simp only [List.cons.injEq, and_true] at hcs
    subst hcs
    rw [if_pos rfl] at hmm
    have hz : ∀ i, i < len → ∃ r : TermV, (W.cell? (a.add (i * 2)) = some (.string r.1) ∧ W.cell? ((a.add (i * 2)).add 1) = some (.int .i64 r.2)) ∧ r.1.size ≤ 9223372036854775807 := fun i hi => by
      obtain ⟨cs', h1, h2⟩ := hV i (by omega)
      rw [Tryz.cellsQT] at h1
      obtain ⟨_, hlen, hc⟩ := World.cells?_some h1
      obtain ⟨r, rfl, hf⟩ := term_of_trod h2
      have e0 := hc 0 (by omega)
      have e1 := hc 1 (by omega)
      exact ⟨r, ⟨by simpa [Addr.add] using e0, e1⟩, hf⟩
    have inh : Inhabited TermV := ⟨noTm⟩
    obtain ⟨L, hL⟩ := choose_lt (α := TermV) hz
    refine ⟨(List.range len).map L, ⟨some a, cap, by simp, ?_⟩, by simp; unfold maxLen at hm; omega, fun j => ?_⟩
    · by_cases h0 : len = 0
      · left; simp [h0]
      · right
        obtain ⟨b, o, spot⟩ := a
        have hs : spot = none := World.cell?_spot (hL 0 (by omega)).1.1
        subst hs
        refine ⟨b, o, rfl, fun j hj => ?_⟩
        simp only [List.length_map, List.length_range] at hj
        rw [getD_map_rangeQ _ _ _ _ hj]
        obtain ⟨⟨c0, c1⟩, _⟩ := hL j hj
        rw [add_plain] at c0
        rw [add_plain, add_plain] at c1
        exact ⟨c0, c1⟩
    · by_cases hj : j < len
      · rw [getD_map_rangeQ _ _ _ _ hj]; exact (hL j hj).2
      · rw [List.getD_eq_getElem?_getD, List.getElem?_eq_none (by simpa using hj)]; simpa [noTm] using noTx_size

set_option maxRecDepth 100000 in
theorem atom_of_trod {fuel : Nat} {cs : List Value} {x : DataW H × List MemPlace} (h : DataW.trod enc Tryz.prog W 0 (fun _ => true) true fuel 92 cs = some x) :
    ∃ (u : Value) (r : AtomV), cs = [.string r.1, u] ∧ ITm W u r.2 ∧ FitAt r := by
  obtain ⟨y0, y1, n, _, hlen, h0, h1⟩ := trod_struct2 Tryz.underlying92 h
  rw [Tryz.cellsQA] at hlen
  obtain ⟨c0, c1, rfl⟩ := listQ2 hlen
  simp only [Tryz.cellsQS, Tryz.cellsQTS, List.drop_zero, List.drop_succ_cons, List.take_succ_cons, List.take_zero] at h0 h1
  obtain ⟨s, e0, _, hs⟩ := DataW.trod_string Tryz.underlying9 h0
  obtain ⟨ts, i1, f1, g1⟩ := terms_of_trod h1
  simp only [List.cons.injEq, and_true] at e0
  subst e0
  exact ⟨c1, (s, ts), rfl, i1, ⟨hs, f1, g1⟩⟩

theorem fitAt_none : FitAt noAt := ⟨noTx_size, by simp [noAt], fun j => by simpa [noAt, noTm] using noTx_size⟩

theorem atoms_of_trod {fuel : Nat} {v : Value} {x : DataW H × List MemPlace} (h : DataW.trod enc Tryz.prog W 0 (fun _ => true) true fuel 26 [v] = some x) :
    ∃ ds, IAt W v ds ∧ ds.length ≤ 9223372036854775807 ∧ ∀ j, FitAt (ds.getD j noAt) := by
  rcases open_slice Tryz.underlying26 h with ⟨hcs, _⟩ | ⟨a, len, cap, m, n, D, Pl, hcs, _, hl, hm, hmm, _, hV⟩
  · simp only [List.cons.injEq, and_true] at hcs
    subst hcs
    exact ⟨[], ⟨_, _, rfl, Or.inl rfl⟩, by simp, fun j => by simpa using fitAt_none⟩
  · simp only [List.cons.injEq, and_true] at hcs
    subst hcs
    rw [if_pos rfl] at hmm
    have hz : ∀ i, i < len → ∃ r : AtomV, (∃ u, W.cell? (a.add (i * 2)) = some (.string r.1) ∧ W.cell? ((a.add (i * 2)).add 1) = some u ∧ ITm W u r.2) ∧ FitAt r := fun i hi => by
      obtain ⟨cs', h1, h2⟩ := hV i (by omega)
      rw [Tryz.cellsQA] at h1
      obtain ⟨_, hlen, hc⟩ := World.cells?_some h1
      obtain ⟨u, r, rfl, hi, hf⟩ := atom_of_trod h2
      have e0 := hc 0 (by omega)
      have e1 := hc 1 (by omega)
      exact ⟨r, ⟨u, by simpa [Addr.add] using e0, e1, hi⟩, hf⟩
    have inh : Inhabited AtomV := ⟨noAt⟩
    obtain ⟨L, hL⟩ := choose_lt (α := AtomV) hz
    refine ⟨(List.range len).map L, ⟨some a, cap, by simp, ?_⟩, by simp; unfold maxLen at hm; omega, fun j => ?_⟩
    · by_cases h0 : len = 0
      · left; simp [h0]
      · right
        obtain ⟨b, o, spot⟩ := a
        have hs : spot = none := by
          obtain ⟨⟨u, c0, _⟩, _⟩ := hL 0 (by omega)
          exact World.cell?_spot c0
        subst hs
        refine ⟨b, o, rfl, fun j hj => ?_⟩
        simp only [List.length_map, List.length_range] at hj
        rw [getD_map_rangeQ _ _ _ _ hj]
        obtain ⟨⟨u, c0, c1, hi⟩, _⟩ := hL j hj
        rw [add_plain] at c0
        rw [add_plain, add_plain] at c1
        exact ⟨u, c0, c1, hi⟩
    · by_cases hj : j < len
      · rw [getD_map_rangeQ _ _ _ _ hj]; exact (hL j hj).2
      · rw [List.getD_eq_getElem?_getD, List.getElem?_eq_none (by simpa using hj)]; simpa using fitAt_none

set_option maxRecDepth 100000 in
theorem query_of_trod {fuel : Nat} {cs : List Value} {x : DataW H × List MemPlace} (h : DataW.trod enc Tryz.prog W 0 (fun _ => true) true fuel 28 cs = some x) :
    ∃ vh va q, cs = [.string q.name, vh, .int .i64 q.ring, va] ∧ IQ W vh va q ∧ FitQ q := by
  obtain ⟨y0, y1, y2, y3, n, _, hlen, h0, h1, h2, h3⟩ := trod_struct4 Tryz.underlying28 h
  rw [Tryz.cellsQQ] at hlen
  obtain ⟨c0, c1, c2, c3, rfl⟩ := listQ4 hlen
  simp only [Tryz.cellsQS, Tryz.cellsQI, Tryz.cellsQSS, Tryz.cellsQAS, List.drop_zero, List.drop_succ_cons, List.take_succ_cons, List.take_zero] at h0 h1 h2 h3
  obtain ⟨s, e0, _, hs⟩ := DataW.trod_string Tryz.underlying9 h0
  obtain ⟨hd, i1, f1, g1⟩ := strs_of_trod h1
  obtain ⟨z, e2, _, hz⟩ := DataW.trod_int Tryz.underlying3 h2
  obtain ⟨ats, i3, f3, g3⟩ := atoms_of_trod h3
  simp only [List.cons.injEq, and_true] at e0 e2
  subst e0 e2
  exact ⟨c1, c3, ⟨s, hd, z, ats⟩, rfl, ⟨i1, i3⟩, ⟨hs, f1, g1, f3, g3⟩⟩

end Go.Proofs.YtegcpplkcahkhaaGreat
