import Derived.Below
import Derived.Carry
import Derived.Deep.Slices
import Derived.Lib.SmallJoins
import Derived.OpenShut
import Derived.ProofKit
import Derived.Test.YtegcpplkcahkhaaGreatRows
import Derived.Test.YtegcpplkcahkhaaGreatB04
import Derived.Test.YtegcpplkcahkhaaGreatB15
import Derived.Test.YtegcpplkcahkhaaGreatB20
import Derived.Test.YtegcpplkcahkhaaGreatB54
/-
  What a law is handed: slices of ints, slices of slices, read off the row's own reading.
-/
namespace Go.Proofs.YtegcpplkcahkhaaGreat
open Go.ChangeShapes Go.WideShapes Go.ChangeAt Go.RowKit Go.Joins Go.Deep

theorem Tryz.ownK : ownKnob Tryz.prog.godebug = none := by kernel_rfl
theorem Tryz.laidO : laidOutB Tryz.prog = true := by kernel_rfl
theorem Tryz.cellsI : Tryz.prog.cellsOf 3 = 1 := by kernel_rfl
theorem Tryz.cellsIS : Tryz.prog.cellsOf 57 = 1 := by kernel_rfl

theorem getD_map_range {α : Type} (f : Nat → α) (n j : Nat) (d : α) (h : j < n) : ((List.range n).map f).getD j d = f j := by
  rw [List.getD_eq_getElem?_getD, List.getElem?_map, List.getElem?_range h]; rfl

variable {H : Type} {enc : TypeId × Value → H} {W : World}

theorem IS_of_trod {fuel : Nat} {v : Value} {x : DataW H × List MemPlace} (h : DataW.trod enc Tryz.prog W 0 (fun _ => true) true fuel 57 [v] = some x) :
    ∃ l, IS W v l ∧ l.length ≤ 9223372036854775807 := by
  rcases open_slice1 Tryz.underlying57 Tryz.cellsI h with ⟨hcs, _⟩ | ⟨a, len, cap, m, n, V, D, Pl, hcs, _, hl, hm, hmm, _, hV⟩
  · simp only [List.cons.injEq, and_true] at hcs
    subst hcs
    exact ⟨[], ⟨_, _, rfl, Or.inl rfl⟩, by simp⟩
  · simp only [List.cons.injEq, and_true] at hcs
    subst hcs
    rw [if_pos rfl] at hmm
    have hz : ∀ i, i < len → ∃ z, V i = .int .i64 z := fun i hi => by
      obtain ⟨_, h2⟩ := hV i (by omega)
      obtain ⟨z, e0, _, _⟩ := DataW.trod_int Tryz.underlying3 h2
      exact ⟨z, by simpa using e0⟩
    have e : ∀ i, i < len → V i = .int .i64 (intOf (V i)) := fun i hi => by
      obtain ⟨z, hz⟩ := hz i hi
      rw [hz]; rfl
    refine ⟨(List.range len).map fun i => intOf (V i), ⟨some a, cap, by simp, ?_⟩, by simp; unfold maxLen at hm; omega⟩
    by_cases h0 : len = 0
    · left; simp [h0]
    · right
      obtain ⟨b, o, spot⟩ := a
      have hs : spot = none := World.cell?_spot (hV 0 (by omega)).1
      subst hs
      refine ⟨b, o, rfl, fun j hj => ?_⟩
      simp only [List.length_map, List.length_range] at hj
      rw [getD_map_range _ _ _ _ hj, ← e j hj, ← add_plain]
      exact (hV j (by omega)).1

theorem ISS_of_trod {fuel : Nat} {v : Value} {x : DataW H × List MemPlace} (h : DataW.trod enc Tryz.prog W 0 (fun _ => true) true fuel 58 [v] = some x) :
    ∃ ls, ISS W v ls ∧ Fits ls := by
  rcases open_slice1 Tryz.underlying58 Tryz.cellsIS h with ⟨hcs, _⟩ | ⟨a, len, cap, m, n, V, D, Pl, hcs, _, hl, hm, hmm, _, hV⟩
  · simp only [List.cons.injEq, and_true] at hcs
    subst hcs
    exact ⟨[], ⟨_, _, rfl, Or.inl rfl⟩, by simp, fun j => by simp⟩
  · simp only [List.cons.injEq, and_true] at hcs
    subst hcs
    rw [if_pos rfl] at hmm
    have hz : ∀ i, i < len → ∃ l, IS W (V i) l ∧ l.length ≤ 9223372036854775807 := fun i hi => by
      obtain ⟨_, h2⟩ := hV i (by omega)
      exact IS_of_trod h2
    obtain ⟨L, hL⟩ := choose_lt (α := List Int) hz
    refine ⟨(List.range len).map L, ⟨some a, cap, by simp, ?_⟩, by simp; unfold maxLen at hm; omega, fun j => ?_⟩
    · by_cases h0 : len = 0
      · left; simp [h0]
      · right
        obtain ⟨b, o, spot⟩ := a
        have hs : spot = none := World.cell?_spot (hV 0 (by omega)).1
        subst hs
        refine ⟨b, o, rfl, fun j hj => ?_⟩
        simp only [List.length_map, List.length_range] at hj
        refine ⟨V j, ?_, ?_⟩
        · rw [← add_plain]; exact (hV j (by omega)).1
        · rw [getD_map_range _ _ _ _ hj]; exact (hL j hj).1
    · by_cases hj : j < len
      · rw [getD_map_range _ _ _ _ hj]; exact (hL j hj).2
      · rw [List.getD_eq_getElem?_getD, List.getElem?_eq_none (by simpa using hj)]; simp

end Go.Proofs.YtegcpplkcahkhaaGreat

/-
  What a law is handed, with the numbers' range.
-/
namespace Go.Proofs.YtegcpplkcahkhaaGreat
open Go.ChangeShapes Go.WideShapes Go.ChangeAt Go.RowKit Go.Joins Go.Deep

/-- numbers of 64 bits -/
def Rng (l : List Int) : Prop := ∀ j, -9223372036854775808 ≤ l.getD j 0 ∧ l.getD j 0 ≤ 9223372036854775807

theorem rng_nil : Rng [] := fun j => by simp

variable {H : Type} {enc : TypeId × Value → H} {W : World}

theorem IS_rng {fuel : Nat} {v : Value} {x : DataW H × List MemPlace} (h : DataW.trod enc Tryz.prog W 0 (fun _ => true) true fuel 57 [v] = some x) :
    ∃ l, IS W v l ∧ l.length ≤ 9223372036854775807 ∧ Rng l := by
  rcases open_slice1 Tryz.underlying57 Tryz.cellsI h with ⟨hcs, _⟩ | ⟨a, len, cap, m, n, V, D, Pl, hcs, _, hl, hm, hmm, _, hV⟩
  · simp only [List.cons.injEq, and_true] at hcs
    subst hcs
    exact ⟨[], ⟨_, _, rfl, Or.inl rfl⟩, by simp, rng_nil⟩
  · simp only [List.cons.injEq, and_true] at hcs
    subst hcs
    rw [if_pos rfl] at hmm
    have hz : ∀ i, i < len → ∃ z, V i = .int .i64 z ∧ (Lit.int .i64 z).wf = true := fun i hi => by
      obtain ⟨_, h2⟩ := hV i (by omega)
      obtain ⟨z, e0, _, hw⟩ := DataW.trod_int Tryz.underlying3 h2
      exact ⟨z, by simpa using e0, hw⟩
    have e : ∀ i, i < len → V i = .int .i64 (intOf (V i)) := fun i hi => by
      obtain ⟨z, hz, _⟩ := hz i hi
      rw [hz]; rfl
    refine ⟨(List.range len).map fun i => intOf (V i), ⟨some a, cap, by simp, ?_⟩, by simp; unfold maxLen at hm; omega, fun j => ?_⟩
    · by_cases h0 : len = 0
      · left; simp [h0]
      · right
        obtain ⟨b, o, spot⟩ := a
        have hs : spot = none := World.cell?_spot (hV 0 (by omega)).1
        subst hs
        refine ⟨b, o, rfl, fun j hj => ?_⟩
        simp only [List.length_map, List.length_range] at hj
        rw [getD_map_range _ _ _ _ hj, ← e j hj, ← add_plain]
        exact (hV j (by omega)).1
    · by_cases hj : j < len
      · rw [getD_map_range _ _ _ _ hj]
        obtain ⟨z, hz, hw⟩ := hz j hj
        rw [hz]
        exact bounds_i64 hw
      · rw [List.getD_eq_getElem?_getD, List.getElem?_eq_none (by simpa using hj)]; simp

theorem ISS_rng {fuel : Nat} {v : Value} {x : DataW H × List MemPlace} (h : DataW.trod enc Tryz.prog W 0 (fun _ => true) true fuel 58 [v] = some x) :
    ∃ ls, ISS W v ls ∧ Fits ls ∧ ∀ k, Rng (ls.getD k []) := by
  rcases open_slice1 Tryz.underlying58 Tryz.cellsIS h with ⟨hcs, _⟩ | ⟨a, len, cap, m, n, V, D, Pl, hcs, _, hl, hm, hmm, _, hV⟩
  · simp only [List.cons.injEq, and_true] at hcs
    subst hcs
    exact ⟨[], ⟨_, _, rfl, Or.inl rfl⟩, ⟨by simp, fun j => by simp⟩, fun k => by simpa using rng_nil⟩
  · simp only [List.cons.injEq, and_true] at hcs
    subst hcs
    rw [if_pos rfl] at hmm
    have hz : ∀ i, i < len → ∃ l, IS W (V i) l ∧ l.length ≤ 9223372036854775807 ∧ Rng l := fun i hi => by
      obtain ⟨_, h2⟩ := hV i (by omega)
      exact IS_rng h2
    obtain ⟨L, hL⟩ := choose_lt (α := List Int) hz
    refine ⟨(List.range len).map L, ⟨some a, cap, by simp, ?_⟩, ⟨by simp; unfold maxLen at hm; omega, fun j => ?_⟩, fun j => ?_⟩
    · by_cases h0 : len = 0
      · left; simp [h0]
      · right
        obtain ⟨b, o, spot⟩ := a
        have hs : spot = none := World.cell?_spot (hV 0 (by omega)).1
        subst hs
        refine ⟨b, o, rfl, fun j hj => ?_⟩
        simp only [List.length_map, List.length_range] at hj
        refine ⟨V j, ?_, ?_⟩
        · rw [← add_plain]; exact (hV j (by omega)).1
        · rw [getD_map_range _ _ _ _ hj]; exact (hL j hj).1
    · by_cases hj : j < len
      · rw [getD_map_range _ _ _ _ hj]; exact (hL j hj).2.1
      · rw [List.getD_eq_getElem?_getD, List.getElem?_eq_none (by simpa using hj)]; simp
    · by_cases hj : j < len
      · rw [getD_map_range _ _ _ _ hj]; exact (hL j hj).2.2
      · rw [List.getD_eq_getElem?_getD, List.getElem?_eq_none (by simpa using hj)]; simpa using rng_nil

end Go.Proofs.YtegcpplkcahkhaaGreat

/-
  What a law is handed: data.
-/
namespace Go.Proofs.YtegcpplkcahkhaaGreat
open Go.ChangeShapes Go.WideShapes Go.ChangeAt Go.RowKit Go.Joins Go.Deep

variable {H : Type} {enc : TypeId × Value → H} {W : World}

theorem Tryz.cellsRel : Tryz.prog.cellsOf 88 = 4 := by kernel_rfl
theorem Tryz.cellsData : Tryz.prog.cellsOf 24 = 1 := by kernel_rfl
theorem Tryz.cellsRels : Tryz.prog.cellsOf 22 = 1 := by kernel_rfl
theorem Tryz.cellsISS : Tryz.prog.cellsOf 58 = 1 := by kernel_rfl
theorem Tryz.cellsStr : Tryz.prog.cellsOf 9 = 1 := by kernel_rfl


theorem list4 {α : Type} {l : List α} (h : l.length = 4) : ∃ a b c d, l = [a, b, c, d] := by
  match l, h with
  | [a, b, c, d], _ => exact ⟨a, b, c, d, rfl⟩

set_option maxRecDepth 100000 in
theorem rel_of_trod {fuel : Nat} {cs : List Value} {x : DataW H × List MemPlace} (h : DataW.trod enc Tryz.prog W 0 (fun _ => true) true fuel 88 cs = some x) :
    ∃ vr vw r, cs = [.string r.name, .int .i64 r.ar, vr, vw] ∧ IRel W vr vw r ∧ FitRel r := by
  obtain ⟨y0, y1, y2, y3, n, _, hlen, h0, h1, h2, h3⟩ := trod_struct4 Tryz.underlying88 h
  rw [Tryz.cellsRel] at hlen
  obtain ⟨c0, c1, c2, c3, rfl⟩ := list4 hlen
  simp only [Tryz.cellsStr, Tryz.cellsI, Tryz.cellsISS, Tryz.cellsIS, List.drop_zero, List.drop_succ_cons, List.take_succ_cons, List.take_zero] at h0 h1 h2 h3
  obtain ⟨s, e0, _, hs⟩ := DataW.trod_string Tryz.underlying9 h0
  obtain ⟨z, e1, _, hz⟩ := DataW.trod_int Tryz.underlying3 h1
  obtain ⟨rows, i2, f2, _⟩ := ISS_rng h2
  obtain ⟨ws, i3, f3, _⟩ := IS_rng h3
  simp only [List.cons.injEq, and_true] at e0 e1
  subst e0 e1
  exact ⟨c2, c3, ⟨s, z, rows, ws⟩, rfl, ⟨i2, i3⟩, ⟨hs, f2, f3⟩⟩

theorem fitRel_no : FitRel noRel := ⟨by simp [noRel, ByteArray.size], ⟨by simp [noRel], fun j => by simp [noRel]⟩, by simp [noRel]⟩

theorem rels_of_trod {fuel : Nat} {v : Value} {x : DataW H × List MemPlace} (h : DataW.trod enc Tryz.prog W 0 (fun _ => true) true fuel 22 [v] = some x) :
    ∃ ds, IRelS W v ds ∧ ds.length ≤ 9223372036854775807 ∧ ∀ j, FitRel (ds.getD j noRel) := by
  rcases open_slice Tryz.underlying22 h with ⟨hcs, _⟩ | ⟨a, len, cap, m, n, D, Pl, hcs, _, hl, hm, hmm, _, hV⟩
  · simp only [List.cons.injEq, and_true] at hcs
    subst hcs
    exact ⟨[], ⟨_, _, rfl, Or.inl rfl⟩, by simp, fun j => by simpa using fitRel_no⟩
  · simp only [List.cons.injEq, and_true] at hcs
    subst hcs
    rw [if_pos rfl] at hmm
    have hz : ∀ i, i < len → ∃ r : RelV, (∃ vr vw, W.cell? (a.add (i * 4)) = some (.string r.name) ∧ W.cell? ((a.add (i * 4)).add 1) = some (.int .i64 r.ar) ∧ W.cell? ((a.add (i * 4)).add 2) = some vr ∧ W.cell? ((a.add (i * 4)).add 3) = some vw ∧ IRel W vr vw r) ∧ FitRel r := fun i hi => by
      obtain ⟨cs', h1, h2⟩ := hV i (by omega)
      rw [Tryz.cellsRel] at h1
      obtain ⟨_, hlen, hc⟩ := World.cells?_some h1
      obtain ⟨vr, vw, r, rfl, hir, hf⟩ := rel_of_trod h2
      have e0 := hc 0 (by omega)
      have e1 := hc 1 (by omega)
      have e2 := hc 2 (by omega)
      have e3 := hc 3 (by omega)
      exact ⟨r, ⟨vr, vw, by simpa [Addr.add] using e0, e1, e2, e3, hir⟩, hf⟩
    have inh : Inhabited RelV := ⟨noRel⟩
    obtain ⟨L, hL⟩ := choose_lt (α := RelV) hz
    refine ⟨(List.range len).map L, ⟨some a, cap, by simp, ?_⟩, by simp; unfold maxLen at hm; omega, fun j => ?_⟩
    · by_cases h0 : len = 0
      · left; simp [h0]
      · right
        obtain ⟨b, o, spot⟩ := a
        have hs : spot = none := by
          obtain ⟨⟨vr, vw, c0, _⟩, _⟩ := hL 0 (by omega)
          exact World.cell?_spot c0
        subst hs
        refine ⟨b, o, rfl, fun j hj => ?_⟩
        simp only [List.length_map, List.length_range] at hj
        rw [getD_map_range _ _ _ _ hj]
        obtain ⟨⟨vr, vw, c0, c1, c2, c3, hir⟩, _⟩ := hL j hj
        rw [add_plain] at c0
        rw [add_plain, add_plain] at c1 c2 c3
        exact ⟨vr, vw, c0, c1, c2, c3, hir⟩
    · by_cases hj : j < len
      · rw [getD_map_range _ _ _ _ hj]; exact (hL j hj).2
      · rw [List.getD_eq_getElem?_getD, List.getElem?_eq_none (by simpa using hj)]; simpa using fitRel_no

end Go.Proofs.YtegcpplkcahkhaaGreat

namespace Go.Proofs.YtegcpplkcahkhaaGreat.FBind
open Go.ChangeShapes Go.WideShapes Go.ChangeAt Go.RowKit Go.Joins

theorem arrayD1 {cs : Array Value} (h : cs.size = 1) : ∃ v, cs = #[v] := by
  obtain ⟨l⟩ := cs
  match l, h with
  | [v], _ => exact ⟨v, rfl⟩

set_option maxRecDepth 100000 in
theorem lifted (os : Os) (started : os.Started) (H : Type) (enc : TypeId × Value → H) :
    ReturnsInHanded {} Tryz.checked os 3 .any (Rows.fnExactBindSpec.pre6 enc Tryz.prog Tryz.f3 Rows.fnExactBindRow.domain false) (Rows.fnExactBindSpec.post enc Tryz.prog Tryz.f3 false true false false) := by
  refine returnsInHanded_of_change (C := Tryz.checked) Tryz.ownKQ started (by kernel_rfl) Tryz.func3
    (ChangeSpec.witness6 (enc := enc) (C := Tryz.checked) false ⟨#[], #[.agg #[.slice none 0 0], .agg #[.string ⟨#[]⟩, .slice none 0 0, .int .i64 0, .slice none 0 0]], []⟩ 8 (by kernel_rfl) (by kernel_rfl) (by kernel_rfl) (by kernel_rfl)) ?_
  intro W base args ds gs before hval0 hW _ _
  have hval : ∀ (j : Nat) t v, Tryz.f3.params[j]? = some t → args[j]? = some v → Value.okWide Tryz.prog W .any base t v := hval0
  have hW' := hW
  obtain ⟨p, q, hA0, hV, rfl, _, _⟩ := hW
  have hA : DataW.TrodAll enc Tryz.prog W 0 (fun _ => true) true Tryz.f3.params.toList args.toList ds p := hA0
  rw [Tryz.params3] at hA hval
  obtain ⟨v0, vs0, d0, ds0, p0, q0, hargs, rfl, rfl, h0, r0⟩ := trodAll_cons hA
  obtain ⟨v1, vs1, d1, ds1, p1, q1, rfl, rfl, rfl, h1, r1⟩ := trodAll_cons r0
  obtain ⟨rfl, rfl, rfl⟩ := trodAll_nil r1
  obtain rfl : args = #[v0, v1] := Array.ext' hargs
  obtain ⟨rfl, rfl⟩ := trodVars_none hV
  have k0 := h0
  have k1 := h1
  have lt0 : ∀ x ∈ p0, x.block < W.heap.size := by obtain ⟨m, hm⟩ := k0; exact DataW.trod_lt m _ _ _ hm
  have lt1 : ∀ x ∈ p1, x.block < W.heap.size := by obtain ⟨m, hm⟩ := k1; exact DataW.trod_lt m _ _ _ hm
  obtain ⟨cs, rfl, hsz⟩ := okWide_struct Tryz.underlying24 (hval 0 24 v0 rfl rfl)
  obtain ⟨c0, rfl⟩ := arrayD1 (hsz.trans Tryz.cellsData)
  obtain ⟨rels, i0, f0, g0⟩ : ∃ ds, IRelS W c0 ds ∧ ds.length ≤ 9223372036854775807 ∧ ∀ j, FitRel (ds.getD j noRel) := by
    obtain ⟨fuel, hf⟩ := h0
    obtain ⟨y0, n, _, _, hy⟩ := trod_struct1 Tryz.underlying24 hf
    exact rels_of_trod (by simpa [Value.cells, Tryz.cellsRels] using hy)
  obtain ⟨cs, rfl, hsz⟩ := okWide_struct Tryz.underlying28 (hval 1 28 v1 rfl rfl)
  obtain ⟨e0, e1, e2, e3, rfl⟩ := arrayQ4 (hsz.trans Tryz.cellsQQ)
  obtain ⟨vh, va, qq, hcs, i1, f1⟩ : ∃ vh va q, [e0, e1, e2, e3] = [.string q.name, vh, .int .i64 q.ring, va] ∧ IQ W vh va q ∧ FitQ q := by
    obtain ⟨fuel, hf⟩ := h1
    exact query_of_trod (by simpa [Value.cells] using hf)
  simp only [List.cons.injEq, and_true] at hcs
  obtain ⟨rfl, rfl, rfl, rfl⟩ := hcs
  clear hA0 hval0
  refine (bind_walk W c0 e1 e3 rels qq i0 f0 g0 i1 f1).mono fun e W' ⟨he, bel⟩ => ?_
  subst he
  exact ⟨_, rfl, _, _, _, [], _, [], hW', trodAll_mk1 (shut_bool Tryz.underlying4 _), (trodAll_cons_mk (Below.trod Tryz.laidQ (by kernel_rfl) (of_decide_eq_true (by kernel_rfl)) k0 bel lt0) (trodAll_cons_mk (Below.trod Tryz.laidQ (by kernel_rfl) (of_decide_eq_true (by kernel_rfl)) k1 bel lt1) trodAll_mk0)), rfl, bel.frame _, fun h => by cases h⟩

end Go.Proofs.YtegcpplkcahkhaaGreat.FBind
namespace Go.Proofs.YtegcpplkcahkhaaGreat
theorem fnExactBind_holds : Rows.FnExactBindSaid :=
  OpenClaim.holds_of_wide 3 Tryz.f3 rfl rfl rfl rfl rfl rfl rfl ⟨rfl, rfl, rfl, rfl, rfl⟩ rfl rfl rfl rfl rfl (by kernel_rfl) Tryz.func3 (by kernel_rfl)
    (of_decide_eq_true (by kernel_rfl)) (by unfold Func.isWrapper; first | (rw [if_pos (by decide +kernel)]; kernel_rfl) | (rw [if_neg (by decide +kernel)]; exact ⟨rfl, rfl⟩))
    (fun os started H enc _ => FBind.lifted os started H enc)
#print axioms fnExactBind_holds
end Go.Proofs.YtegcpplkcahkhaaGreat
