import Derived.Lib.SliceRun
import Derived.Test.YtliggcbiiaegeabPj35
/-
  slices.CompactFunc over rows made anew, by slices.Equal.
-/
namespace Go.Proofs.Ytliggcbiiaegeab
open Go.RowKit

def Ap' (u v : Value) : Prop := ∀ g, u.ownBlock = some g → v.ownBlock ≠ some g

/-- k rows stand, j rows have been looked at -/
structure Cst (w wr : World) (B g cap : Nat) (us : List Value) (ls : List (List Int)) (k j : Nat) (uo : List Value) : Prop where
  os : wr.os = w.os
  tape : wr.tape = w.tape
  output : wr.output = w.output
  size : wr.heap.size = w.heap.size
  far : ∀ b, b ≠ g → wr.heap[b]? = w.heap[b]?
  typ : ∃ cur, wr.heap[g]? = some (.cells cur 32 (0, 0)) ∧ cur.size = cap
  len : uo.length = k
  lk : (cpt (ls.take j)).length = k
  kj : k < j
  jn : j ≤ ls.length
  head : ∀ p, p < k → wr.cell? ⟨g, p, none⟩ = some (uo.getD p undef)
  tail : ∀ p, j ≤ p + 1 → p < ls.length → wr.cell? ⟨g, p, none⟩ = some (us.getD p undef)
  each : ∀ p, p < k → w.ownsRow B 3 1 (uo.getD p undef) ((cpt (ls.take j)).getD p []).length (((cpt (ls.take j)).getD p []).map (Value.int .i64))
  ap : ∀ p q, p < q → q < k → Ap' (uo.getD p undef) (uo.getD q undef)
  apt : ∀ p q, p < k → j ≤ q → q < ls.length → Ap' (uo.getD p undef) (us.getD q undef)

section
variable {w wr : World} {B g cap k j : Nat} {us uo : List Value} {ls : List (List Int)}
theorem Cst.drewN (h : Cst w wr B g cap us ls k j uo) (m : Nat) : Cst w (wr.drewN m) B g cap us ls k j uo := ⟨h.os, h.tape, h.output, h.size, h.far, h.typ, h.len, h.lk, h.kj, h.jn, h.head, h.tail, h.each, h.ap, h.apt⟩
theorem Cst.skip (h : Cst w wr B g cap us ls k j uo) (hj : j < ls.length) (e : ls.getD (j - 1) [] = ls.getD j []) : Cst w wr B g cap us ls k (j + 1) uo := by
  have hkj := h.kj
  obtain ⟨i, rfl⟩ : ∃ i, j = i + 1 := ⟨j - 1, by omega⟩
  have hc : cpt (ls.take (i + 1 + 1)) = cpt (ls.take (i + 1)) := cpt_hit hj (by simpa using e)
  exact ⟨h.os, h.tape, h.output, h.size, h.far, h.typ, h.len, by rw [hc]; exact h.lk, by omega, hj, h.head, fun p hp hn => h.tail p (by omega) hn, by rw [hc]; exact h.each, h.ap, fun p q hp hq hn => h.apt p q hp (by omega) hn⟩
theorem getD_app_lt {α : Type} {l : List α} {x d : α} {i : Nat} (h : i < l.length) : (l ++ [x]).getD i d = l.getD i d := by
  rw [List.getD_eq_getElem?_getD, List.getElem?_append_left h, ← List.getD_eq_getElem?_getD]
theorem getD_app_last {α : Type} {l : List α} {x d : α} {i : Nat} (h : i = l.length) : (l ++ [x]).getD i d = x := by
  rw [List.getD_eq_getElem?_getD, List.getElem?_append_right (by omega), show i - l.length = 0 by omega]; rfl
theorem Cst.keep (h : Cst w wr B g cap us ls k j uo) (hR : RQ w B (.slice (some ⟨g, 0, none⟩) ls.length cap) us ls) (hj : j < ls.length) (e : ¬ ls.getD (j - 1) [] = ls.getD j []) : Cst w (wr.setCell ⟨g, k, none⟩ (us.getD j undef)) B g cap us ls (k + 1) (j + 1) (uo ++ [us.getD j undef]) := by
  have hkj := h.kj
  have hl := h.len
  have hlk := h.lk
  obtain ⟨i, rfl⟩ : ∃ i, j = i + 1 := ⟨j - 1, by omega⟩
  have hc : cpt (ls.take (i + 1 + 1)) = cpt (ls.take (i + 1)) ++ [ls.getD (i + 1) []] := cpt_miss hj (by simpa using e)
  have hsame := h.tail k
  refine ⟨h.os, h.tape, h.output, by rw [World.size_setCell]; exact h.size, fun b hb => (Below.heap_setCell _ _ _ _ hb).trans (h.far b hb), ?_, by simp [hl], by rw [hc]; simp [hlk], by omega, hj, fun p hp => ?_, fun p hp hn => ?_, fun p hp => ?_, fun p q hpq hq => ?_, fun p q hp hq hn => ?_⟩
  · obtain ⟨cur, h1, h2⟩ := h.typ
    exact ⟨_, heap_setCell_same _ _ _ _ _ _ h1, by simp [h2]⟩
  · by_cases e1 : p = k
    · subst e1
      rw [getD_app_last hl.symm]
      obtain ⟨cur, h1, h2⟩ := h.typ
      have hex : ∃ u, wr.cell? ⟨g, p, none⟩ = some u := by
        rw [cell_of_row _ _ _ _ _ _ h1]
        have hcp : ls.length ≤ cap := by
          rcases hR.own.2 with ⟨e, -⟩ | ⟨g', cap', cur', e, -, -, hcc, -⟩
          · cases e
          · simp only [Value.slice.injEq] at e
            obtain ⟨-, -, rfl⟩ := e
            exact hcc
        exact ⟨_, Array.getElem?_eq_getElem (by omega)⟩
      obtain ⟨u, hu⟩ := hex
      exact World.cell?_setCell_same _ _ _ hu
    · rw [getD_app_lt (by omega), World.cell?_setCell_other _ _ _ _ (by intro e2; simp only [Addr.mk.injEq] at e2; omega)]
      exact h.head p (by omega)
  · rw [World.cell?_setCell_other _ _ _ _ (by intro e2; simp only [Addr.mk.injEq] at e2; omega)]
    exact h.tail p (by omega) hn
  · rw [hc]
    by_cases e1 : p = k
    · subst e1
      rw [getD_app_last hl.symm, getD_app_last hlk.symm]
      exact hR.each _ hj
    · rw [getD_app_lt (by omega), getD_app_lt (by omega)]
      exact h.each p (by omega)
  · rw [getD_app_lt (by omega)]
    by_cases e1 : q = k
    · subst e1
      rw [getD_app_last hl.symm]
      exact h.apt p _ (by omega) (Nat.le_refl _) hj
    · rw [getD_app_lt (by omega)]
      exact h.ap p q hpq (by omega)
  · by_cases e1 : p = k
    · subst e1
      rw [getD_app_last hl.symm]
      exact fun g' h1 => hR.ap _ q (by omega) hn g' h1
    · rw [getD_app_lt (by omega)]
      exact h.apt p q (by omega) (by omega) hn
/-- at the first two that are alike -/
theorem Cst.start (hR : RQ w B (.slice (some ⟨g, 0, none⟩) ls.length cap) us ls) {K : Nat} (hK : 0 < K) (hKn : K < ls.length) (hne : ∀ i, i + 1 < K → ¬ ls.getD i [] = ls.getD (i + 1) []) (e : ls.getD (K - 1) [] = ls.getD K []) (m : Nat) : Cst w (w.drewN m) B g cap us ls K (K + 1) (us.take K) := by
  obtain ⟨i, rfl⟩ : ∃ i, K = i + 1 := ⟨K - 1, by omega⟩
  have hl := hR.len
  have hc : cpt (ls.take (i + 1 + 1)) = ls.take (i + 1) := (cpt_hit hKn (by simpa using e)).trans (cpt_all i (by omega) fun q hq => hne q (by omega))
  have hcell : ∀ p, p < ls.length → w.cell? ⟨g, p, none⟩ = some (us.getD p undef) := fun p hp => by
    obtain ⟨g', cap', e1, -, h1⟩ := hR.get hp
    simp only [Value.slice.injEq, Option.some.injEq, Addr.mk.injEq, and_true, true_and] at e1
    obtain ⟨rfl, -⟩ := e1
    exact h1
  refine ⟨rfl, rfl, rfl, rfl, fun _ _ => rfl, ?_, by rw [List.length_take]; omega, by rw [hc, List.length_take]; omega, by omega, by omega, fun p hp => by rw [getD_take hp]; exact hcell p (by omega), fun p _ hn => hcell p hn, fun p hp => ?_, fun p q hpq hq => ?_, fun p q hp hq hn => ?_⟩
  · rcases hR.own.2 with ⟨e1, -⟩ | ⟨g', cap', cur, e1, -, h1, -, -, h2, -⟩
    · cases e1
    · simp only [Value.slice.injEq, Option.some.injEq, Addr.mk.injEq, and_true, true_and] at e1
      obtain ⟨rfl, rfl⟩ := e1
      exact ⟨cur, h1, by omega⟩
  · rw [hc, getD_take hp, getD_take hp]; exact hR.each p (by omega)
  · rw [getD_take (by omega), getD_take hq]; exact fun g' h1 => hR.ap p q hpq (by omega) g' h1
  · rw [getD_take hp]; exact fun g' h1 => hR.ap p q (by omega) hn g' h1
end

end Go.Proofs.Ytliggcbiiaegeab
