import Derived.BigQuiet
import Derived.Deep.AppendLies
import Derived.Deep.CutRange
import Derived.Deep.QuietTactic
import Derived.Deep.RegionLaw
import Derived.Test.YtegcpplkcahkhaaGreatB08
import Derived.Test.YtegcpplkcahkhaaGreatB16
import Derived.Test.YtegcpplkcahkhaaGreatB29
import Derived.Test.YtegcpplkcahkhaaGreatB30
/-
  spec.l2Sort.
-/
namespace Go.Proofs.YtegcpplkcahkhaaGreat
open Go.RowKit

/-- a slice's length is no more than its room -/
def CapOK (v : Value) : Prop := ∃ a n c, v = .slice a n c ∧ n ≤ c
/-- ints in a slice with room for them -/
def ISc (w : World) (v : Value) (l : List Int) : Prop := IS w v l ∧ CapOK v
theorem ISc.below {w w' : World} {v : Value} {l : List Int} (h : ISc w v l) (hb : Below w.heap.size w w') : ISc w' v l := ⟨h.1.below hb, h.2⟩
theorem own_cap {w : World} {B n s : Nat} {e : TypeId} {v : Value} {xs : List Value} (h : w.ownsRow B e s v n xs) : CapOK v := by
  rcases h.2 with ⟨rfl, hn⟩ | ⟨g, cap, cur, rfl, -, -, hn, -⟩
  · exact ⟨_, _, _, rfl, Nat.le_refl _⟩
  · exact ⟨_, _, _, rfl, hn⟩
/-- rows in slices with room for them -/
def ISSc (w : World) (v : Value) (ls : List (List Int)) : Prop := ∃ a cap, v = .slice a ls.length cap ∧ (ls.length = 0 ∨ ∃ b o, a = some ⟨b, o, none⟩ ∧ ∀ j, j < ls.length → ∃ u, w.cell? ⟨b, o + j, none⟩ = some u ∧ ISc w u (ls.getD j []))
theorem ISSc.iss {w : World} {v : Value} {ls : List (List Int)} (h : ISSc w v ls) : ISS w v ls := by
  obtain ⟨a, cap, rfl, h1⟩ := h
  refine ⟨a, cap, rfl, ?_⟩
  rcases h1 with h1 | ⟨b, o, rfl, h1⟩
  · exact Or.inl h1
  · exact Or.inr ⟨b, o, rfl, fun j hj => by obtain ⟨u, h2, h3⟩ := h1 j hj; exact ⟨u, h2, h3.1⟩⟩
theorem ISSc.below {w w' : World} {v : Value} {ls : List (List Int)} (h : ISSc w v ls) (hb : Below w.heap.size w w') : ISSc w' v ls := by
  obtain ⟨a, cap, rfl, h1⟩ := h
  refine ⟨a, cap, rfl, ?_⟩
  rcases h1 with h1 | ⟨b, o, rfl, h1⟩
  · exact Or.inl h1
  · exact Or.inr ⟨b, o, rfl, fun j hj => by obtain ⟨u, h2, h3⟩ := h1 j hj; exact ⟨u, (hb.cell (p := ⟨b, o + j, none⟩) (World.block_lt_of_cell? w _ h2)).trans h2, h3.below hb⟩⟩

/-- rows that lie ready in W0, listed in a slice of W -/
structure RS (W0 W : World) (v : Value) (us : List Value) (ls : List (List Int)) : Prop where
  sl : ∃ a cap, v = .slice a ls.length cap ∧ ls.length ≤ cap ∧ (ls.length = 0 ∨ ∃ b o, a = some ⟨b, o, none⟩ ∧ ∀ j, j < ls.length → W.cell? ⟨b, o + j, none⟩ = some (us.getD j undef))
  len : us.length = ls.length
  each : ∀ i, i < ls.length → ISc W0 (us.getD i undef) (ls.getD i [])
theorem RS.below {W0 W W' : World} {v : Value} {us : List Value} {ls : List (List Int)} (h : RS W0 W v us ls) (hb : Below W.heap.size W W') : RS W0 W' v us ls := by
  obtain ⟨⟨a, cap, rfl, hc, h1⟩, h2, h3⟩ := h
  refine ⟨⟨a, cap, rfl, hc, ?_⟩, h2, h3⟩
  rcases h1 with h1 | ⟨b, o, rfl, h1⟩
  · exact Or.inl h1
  · exact Or.inr ⟨b, o, rfl, fun j hj => (hb.cell (p := ⟨b, o + j, none⟩) (World.block_lt_of_cell? W _ (h1 j hj))).trans (h1 j hj)⟩
theorem RS.issc {W0 W : World} {v : Value} {us : List Value} {ls : List (List Int)} (h : RS W0 W v us ls) (hb : Below W0.heap.size W0 W) : ISSc W v ls := by
  obtain ⟨⟨a, cap, rfl, hc, h1⟩, h2, h3⟩ := h
  refine ⟨a, cap, rfl, ?_⟩
  rcases h1 with h1 | ⟨b, o, rfl, h1⟩
  · exact Or.inl h1
  · exact Or.inr ⟨b, o, rfl, fun j hj => ⟨_, h1 j hj, (h3 j hj).below hb⟩⟩
theorem RS.iss {W0 W : World} {v : Value} {us : List Value} {ls : List (List Int)} (h : RS W0 W v us ls) (hb : Below W0.heap.size W0 W) : ISS W v ls := (h.issc hb).iss
theorem getD_take {α : Type} {l : List α} {n i : Nat} {d : α} (h : i < n) : (l.take n).getD i d = l.getD i d := by
  rw [List.getD_eq_getElem?_getD, List.getElem?_take_of_lt h, ← List.getD_eq_getElem?_getD]
theorem getD_drop {α : Type} {l : List α} {n i : Nat} {d : α} : (l.drop n).getD i d = l.getD (n + i) d := by
  rw [List.getD_eq_getElem?_getD, List.getElem?_drop, ← List.getD_eq_getElem?_getD]
theorem RS.take {W0 W : World} {a : Option Addr} {n0 cap : Nat} {us : List Value} {ls : List (List Int)} (h : RS W0 W (.slice a n0 cap) us ls) {n : Nat} (hn : n ≤ ls.length) : RS W0 W (.slice a n cap) (us.take n) (ls.take n) := by
  obtain ⟨⟨a', cap', e, hc, h1⟩, h2, h3⟩ := h
  simp only [Value.slice.injEq] at e
  obtain ⟨rfl, rfl, rfl⟩ := e
  have hl : (ls.take n).length = n := by rw [List.length_take]; omega
  refine ⟨⟨a, cap, by rw [hl], by omega, ?_⟩, by rw [hl, List.length_take]; omega, fun i hi => ?_⟩
  · rcases h1 with h1 | ⟨b, o, rfl, h1⟩
    · exact Or.inl (by omega)
    · exact Or.inr ⟨b, o, rfl, fun j hj => by rw [getD_take (by omega)]; exact h1 j (by omega)⟩
  · rw [getD_take (by omega), getD_take (by omega)]; exact h3 i (by omega)
theorem RS.drop {W0 W : World} {b o n0 cap : Nat} {us : List Value} {ls : List (List Int)} (h : RS W0 W (.slice (some ⟨b, o, none⟩) n0 cap) us ls) {n : Nat} (hn : n ≤ ls.length) : RS W0 W (.slice (some ⟨b, o + n, none⟩) (n0 - n) (cap - n)) (us.drop n) (ls.drop n) := by
  obtain ⟨⟨a', cap', e, hc, h1⟩, h2, h3⟩ := h
  simp only [Value.slice.injEq] at e
  obtain ⟨rfl, rfl, rfl⟩ := e
  have hl : (ls.drop n).length = ls.length - n := List.length_drop ..
  refine ⟨⟨_, _, by rw [hl], by omega, ?_⟩, by rw [hl, List.length_drop]; omega, fun i hi => ?_⟩
  · rcases h1 with h1 | ⟨b', o', e', h1⟩
    · exact Or.inl (by omega)
    · simp only [Option.some.injEq, Addr.mk.injEq, and_true] at e'
      obtain ⟨rfl, rfl⟩ := e'
      exact Or.inr ⟨b, o + n, rfl, fun j hj => by rw [getD_drop, Nat.add_assoc]; exact h1 (n + j) (by omega)⟩
  · rw [getD_drop, getD_drop]; exact h3 (n + i) (by omega)

/-- rows being merged into a slice of the call's own -/
structure MS (W0 W wr : World) (v : Value) (us : List Value) (ls : List (List Int)) : Prop where
  bel : Below W.heap.size W wr
  own : wr.ownsRow W.heap.size 57 1 v ls.length us
  len : us.length = ls.length
  each : ∀ i, i < ls.length → ISc W0 (us.getD i undef) (ls.getD i [])
theorem MS.start (W0 W : World) : MS W0 W (W.alloc (.cells #[] 57)) (.slice (some ⟨W.heap.size, 0, none⟩) 0 0) [] [] :=
  ⟨(Below.refl _ _).alloc (Nat.le_refl _) _, World.ownsRow_made W #[] 0 (Nat.le_refl _) (by decide) rfl, rfl, fun i hi => by simp at hi⟩
theorem MS.drew {W0 W wr : World} {v : Value} {us : List Value} {ls : List (List Int)} (h : MS W0 W wr v us ls) : MS W0 W wr.drew v us ls := ⟨h.bel.drew, h.own, h.len, h.each⟩
theorem MS.push {W0 W wr w3 : World} {v v' u : Value} {us : List Value} {ls : List (List Int)} {l : List Int} {o : Obj} (h : MS W0 W wr v us ls) (hu : ISc W0 u l) (hown : w3.ownsRow W.heap.size 57 1 v' (ls.length + 1) (us ++ [u])) (hg : (wr.alloc o).grownBy w3 v.ownBlock) : MS W0 W w3 v' (us ++ [u]) (ls ++ [l]) := by
  refine ⟨(h.bel.alloc h.bel.size o).grown hg (by have := h.bel.size; simp; omega) (fun k hk => (h.own.lt k hk).1), by rw [List.length_append]; exact hown, by simp [h.len], fun i hi => ?_⟩
  rw [List.length_append, List.length_singleton] at hi
  by_cases e : i < ls.length
  · rw [List.getD_eq_getElem?_getD, List.getElem?_append_left (by rw [h.len]; exact e), List.getD_eq_getElem?_getD (l := ls ++ [l]), List.getElem?_append_left e, ← List.getD_eq_getElem?_getD, ← List.getD_eq_getElem?_getD]
    exact h.each i e
  · have e1 : (us ++ [u]).getD i undef = u := by rw [List.getD_eq_getElem?_getD, List.getElem?_append_right (by rw [h.len]; omega), show i - us.length = 0 by rw [h.len]; omega]; rfl
    have e2 : (ls ++ [l]).getD i [] = l := by rw [List.getD_eq_getElem?_getD, List.getElem?_append_right (by omega), show i - ls.length = 0 by omega]; rfl
    rw [e1, e2]; exact hu
theorem MS.rs {W0 W wr : World} {v : Value} {us : List Value} {ls : List (List Int)} (h : MS W0 W wr v us ls) : RS W0 wr v us ls := by
  refine ⟨?_, h.len, h.each⟩
  rcases h.own.2 with ⟨rfl, hn⟩ | ⟨g, cap, cur, rfl, hb', hc, hn, hcap, -, ht⟩
  · exact ⟨none, 0, by rw [hn], by omega, Or.inl hn⟩
  · refine ⟨_, cap, rfl, ?_, Or.inr ⟨g, 0, rfl, fun j hj => ?_⟩⟩
    · exact hn
    · have hlen := h.len
      rw [Nat.zero_add, cell_of_row _ _ _ _ _ _ hc, List.getD_eq_getElem?_getD, List.getElem?_eq_getElem (by omega), Option.getD_some, ← List.getElem?_eq_getElem (by omega : j < us.length), ← ht, List.getElem?_take_of_lt (by omega), Array.getElem?_toList]

end Go.Proofs.YtegcpplkcahkhaaGreat

/-
  spec.l2Sort, walked.
-/
namespace Go.Proofs.YtegcpplkcahkhaaGreat
open Go.RowKit

theorem drop_cons {l : List (List Int)} {j : Nat} (h : j < l.length) : l.drop j = l.getD j [] :: l.drop (j + 1) := by
  rw [List.getD_eq_getElem?_getD, List.getElem?_eq_getElem h]
  exact List.drop_eq_getElem_cons h
theorem MS.drewN {W0 W wr : World} {v : Value} {us : List Value} {ls : List (List Int)} (h : MS W0 W wr v us ls) (n : Nat) : MS W0 W (wr.drewN n) v us ls := ⟨⟨h.bel.os, h.bel.tape, h.bel.output, h.bel.size, h.bel.block⟩, h.own, h.len, h.each⟩
theorem drop_end {l : List (List Int)} {j : Nat} (h : ¬ j < l.length) : l.drop j = [] := List.drop_eq_nil_of_le (by omega)

/-- the same slice, or a new one -/
def NewOr (W : World) (v v' : Value) : Prop := v' = v ∨ ∀ g, v'.ownBlock = some g → W.heap.size ≤ g

end Go.Proofs.YtegcpplkcahkhaaGreat
