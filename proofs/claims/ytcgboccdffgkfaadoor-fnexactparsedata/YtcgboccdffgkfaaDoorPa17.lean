import Derived.BigQuiet
import Derived.Deep.AppendLies
import Derived.Deep.CutRange
import Derived.Deep.QuietTactic
import Derived.Deep.RegionLaw
import Derived.Test.YtcgboccdffgkfaaDoorPa05
import Derived.Test.YtcgboccdffgkfaaDoorPa06
import Derived.Test.YtcgboccdffgkfaaDoorPa15
import Derived.Test.YtcgboccdffgkfaaDoorPa16
/-
  spec.l2Sort.
-/
namespace Go.Proofs.YtcgboccdffgkfaaDoor
open Go.RowKit

/-- a slice's length is no more than its room -/
def CapOK (v : Value) : Prop := ∃ a n c, v = .slice a n c ∧ n ≤ c
/-- ints in a slice with room for them -/
def ISc (w : World) (v : Value) (l : List Int) : Prop := IS w v l ∧ CapOK v
theorem ISc.below {w w' : World} {v : Value} {l : List Int} (h : ISc w v l) (hb : Below w.heap.size w w') : ISc w' v l := ⟨h.1.below hb, h.2⟩
theorem own_cap {w : World} {B n s : Nat} {e : TypeId} {v : Value} {xs : List Value} (h : w.ownsRow B e s v n xs) : CapOK v := by
  rcases h.2 with ⟨rfl, hn⟩ | ⟨g, cap, cur, rfl, -, -, hn, -⟩
  · exact ⟨_, _, _, rfl, Nat.le_refl _⟩
  · exact ⟨_, _, _, rfl, hn⟩
/-- rows in slices with room for them -/
def ISSc (w : World) (v : Value) (ls : List (List Int)) : Prop := ∃ a cap, v = .slice a ls.length cap ∧ (ls.length = 0 ∨ ∃ b o, a = some ⟨b, o, none⟩ ∧ ∀ j, j < ls.length → ∃ u, w.cell? ⟨b, o + j, none⟩ = some u ∧ ISc w u (ls.getD j []))
theorem ISSc.iss {w : World} {v : Value} {ls : List (List Int)} (h : ISSc w v ls) : ISS w v ls := by
  obtain ⟨a, cap, rfl, h1⟩ := h
  refine ⟨a, cap, rfl, ?_⟩
  rcases h1 with h1 | ⟨b, o, rfl, h1⟩
  · exact Or.inl h1
  · exact Or.inr ⟨b, o, rfl, fun j hj => by obtain ⟨u, h2, h3⟩ := h1 j hj; exact ⟨u, h2, h3.1⟩⟩
theorem ISSc.below {w w' : World} {v : Value} {ls : List (List Int)} (h : ISSc w v ls) (hb : Below w.heap.size w w') : ISSc w' v ls := by
  obtain ⟨a, cap, rfl, h1⟩ := h
  refine ⟨a, cap, rfl, ?_⟩
  rcases h1 with h1 | ⟨b, o, rfl, h1⟩
  · exact Or.inl h1
  · exact Or.inr ⟨b, o, rfl, fun j hj => by obtain ⟨u, h2, h3⟩ := h1 j hj; exact ⟨u, (hb.cell (p := ⟨b, o + j, none⟩) (World.block_lt_of_cell? w _ h2)).trans h2, h3.below hb⟩⟩

/-- rows that lie ready in W0, listed in a slice of W -/
structure RS (W0 W : World) (v : Value) (us : List Value) (ls : List (List Int)) : Prop where
  sl : ∃ a cap, v = .slice a ls.length cap ∧ ls.length ≤ cap ∧ (ls.length = 0 ∨ ∃ b o, a = some ⟨b, o, none⟩ ∧ ∀ j, j < ls.length → W.cell? ⟨b, o + j, none⟩ = some (us.getD j undef))
  len : us.length = ls.length
  each : ∀ i, i < ls.length → ISc W0 (us.getD i undef) (ls.getD i [])
theorem RS.below {W0 W W' : World} {v : Value} {us : List Value} {ls : List (List Int)} (h : RS W0 W v us ls) (hb : Below W.heap.size W W') : RS W0 W' v us ls := by
  obtain ⟨⟨a, cap, rfl, hc, h1⟩, h2, h3⟩ := h
  refine ⟨⟨a, cap, rfl, hc, ?_⟩, h2, h3⟩
  rcases h1 with h1 | ⟨b, o, rfl, h1⟩
  · exact Or.inl h1
  · exact Or.inr ⟨b, o, rfl, fun j hj => (hb.cell (p := ⟨b, o + j, none⟩) (World.block_lt_of_cell? W _ (h1 j hj))).trans (h1 j hj)⟩
theorem RS.issc {W0 W : World} {v : Value} {us : List Value} {ls : List (List Int)} (h : RS W0 W v us ls) (hb : Below W0.heap.size W0 W) : ISSc W v ls := by
  obtain ⟨⟨a, cap, rfl, hc, h1⟩, h2, h3⟩ := h
  refine ⟨a, cap, rfl, ?_⟩
  rcases h1 with h1 | ⟨b, o, rfl, h1⟩
  · exact Or.inl h1
  · exact Or.inr ⟨b, o, rfl, fun j hj => ⟨_, h1 j hj, (h3 j hj).below hb⟩⟩
theorem RS.iss {W0 W : World} {v : Value} {us : List Value} {ls : List (List Int)} (h : RS W0 W v us ls) (hb : Below W0.heap.size W0 W) : ISS W v ls := (h.issc hb).iss
theorem getD_take {α : Type} {l : List α} {n i : Nat} {d : α} (h : i < n) : (l.take n).getD i d = l.getD i d := by
  rw [List.getD_eq_getElem?_getD, List.getElem?_take_of_lt h, ← List.getD_eq_getElem?_getD]
theorem getD_drop {α : Type} {l : List α} {n i : Nat} {d : α} : (l.drop n).getD i d = l.getD (n + i) d := by
  rw [List.getD_eq_getElem?_getD, List.getElem?_drop, ← List.getD_eq_getElem?_getD]
theorem RS.take {W0 W : World} {a : Option Addr} {n0 cap : Nat} {us : List Value} {ls : List (List Int)} (h : RS W0 W (.slice a n0 cap) us ls) {n : Nat} (hn : n ≤ ls.length) : RS W0 W (.slice a n cap) (us.take n) (ls.take n) := by
  obtain ⟨⟨a', cap', e, hc, h1⟩, h2, h3⟩ := h
  simp only [Value.slice.injEq] at e
  obtain ⟨rfl, rfl, rfl⟩ := e
  have hl : (ls.take n).length = n := by rw [List.length_take]; omega
  refine ⟨⟨a, cap, by rw [hl], by omega, ?_⟩, by rw [hl, List.length_take]; omega, fun i hi => ?_⟩
  · rcases h1 with h1 | ⟨b, o, rfl, h1⟩
    · exact Or.inl (by omega)
    · exact Or.inr ⟨b, o, rfl, fun j hj => by rw [getD_take (by omega)]; exact h1 j (by omega)⟩
  · rw [getD_take (by omega), getD_take (by omega)]; exact h3 i (by omega)
theorem RS.drop {W0 W : World} {b o n0 cap : Nat} {us : List Value} {ls : List (List Int)} (h : RS W0 W (.slice (some ⟨b, o, none⟩) n0 cap) us ls) {n : Nat} (hn : n ≤ ls.length) : RS W0 W (.slice (some ⟨b, o + n, none⟩) (n0 - n) (cap - n)) (us.drop n) (ls.drop n) := by
  obtain ⟨⟨a', cap', e, hc, h1⟩, h2, h3⟩ := h
  simp only [Value.slice.injEq] at e
  obtain ⟨rfl, rfl, rfl⟩ := e
  have hl : (ls.drop n).length = ls.length - n := List.length_drop ..
  refine ⟨⟨_, _, by rw [hl], by omega, ?_⟩, by rw [hl, List.length_drop]; omega, fun i hi => ?_⟩
  · rcases h1 with h1 | ⟨b', o', e', h1⟩
    · exact Or.inl (by omega)
    · simp only [Option.some.injEq, Addr.mk.injEq, and_true] at e'
      obtain ⟨rfl, rfl⟩ := e'
      exact Or.inr ⟨b, o + n, rfl, fun j hj => by rw [getD_drop, Nat.add_assoc]; exact h1 (n + j) (by omega)⟩
  · rw [getD_drop, getD_drop]; exact h3 (n + i) (by omega)

/-- rows being merged into a slice of the call's own -/
structure MS (W0 W wr : World) (v : Value) (us : List Value) (ls : List (List Int)) : Prop where
  bel : Below W.heap.size W wr
  own : wr.ownsRow W.heap.size 53 1 v ls.length us
  len : us.length = ls.length
  each : ∀ i, i < ls.length → ISc W0 (us.getD i undef) (ls.getD i [])
theorem MS.start (W0 W : World) : MS W0 W (W.alloc (.cells #[] 53)) (.slice (some ⟨W.heap.size, 0, none⟩) 0 0) [] [] :=
  ⟨(Below.refl _ _).alloc (Nat.le_refl _) _, World.ownsRow_made W #[] 0 (Nat.le_refl _) (by decide) rfl, rfl, fun i hi => by simp at hi⟩
theorem MS.drew {W0 W wr : World} {v : Value} {us : List Value} {ls : List (List Int)} (h : MS W0 W wr v us ls) : MS W0 W wr.drew v us ls := ⟨h.bel.drew, h.own, h.len, h.each⟩
theorem MS.push {W0 W wr w3 : World} {v v' u : Value} {us : List Value} {ls : List (List Int)} {l : List Int} {o : Obj} (h : MS W0 W wr v us ls) (hu : ISc W0 u l) (hown : w3.ownsRow W.heap.size 53 1 v' (ls.length + 1) (us ++ [u])) (hg : (wr.alloc o).grownBy w3 v.ownBlock) : MS W0 W w3 v' (us ++ [u]) (ls ++ [l]) := by
  refine ⟨(h.bel.alloc h.bel.size o).grown hg (by have := h.bel.size; simp; omega) (fun k hk => (h.own.lt k hk).1), by rw [List.length_append]; exact hown, by simp [h.len], fun i hi => ?_⟩
  rw [List.length_append, List.length_singleton] at hi
  by_cases e : i < ls.length
  · rw [List.getD_eq_getElem?_getD, List.getElem?_append_left (by rw [h.len]; exact e), List.getD_eq_getElem?_getD (l := ls ++ [l]), List.getElem?_append_left e, ← List.getD_eq_getElem?_getD, ← List.getD_eq_getElem?_getD]
    exact h.each i e
  · have e1 : (us ++ [u]).getD i undef = u := by rw [List.getD_eq_getElem?_getD, List.getElem?_append_right (by rw [h.len]; omega), show i - us.length = 0 by rw [h.len]; omega]; rfl
    have e2 : (ls ++ [l]).getD i [] = l := by rw [List.getD_eq_getElem?_getD, List.getElem?_append_right (by omega), show i - ls.length = 0 by omega]; rfl
    rw [e1, e2]; exact hu
theorem MS.rs {W0 W wr : World} {v : Value} {us : List Value} {ls : List (List Int)} (h : MS W0 W wr v us ls) : RS W0 wr v us ls := by
  refine ⟨?_, h.len, h.each⟩
  rcases h.own.2 with ⟨rfl, hn⟩ | ⟨g, cap, cur, rfl, hb', hc, hn, hcap, -, ht⟩
  · exact ⟨none, 0, by rw [hn], by omega, Or.inl hn⟩
  · refine ⟨_, cap, rfl, ?_, Or.inr ⟨g, 0, rfl, fun j hj => ?_⟩⟩
    · exact hn
    · have hlen := h.len
      rw [Nat.zero_add, cell_of_row _ _ _ _ _ _ hc, List.getD_eq_getElem?_getD, List.getElem?_eq_getElem (by omega), Option.getD_some, ← List.getElem?_eq_getElem (by omega : j < us.length), ← ht, List.getElem?_take_of_lt (by omega), Array.getElem?_toList]

end Go.Proofs.YtcgboccdffgkfaaDoor

/-
  spec.l2Sort, walked.
-/
namespace Go.Proofs.YtcgboccdffgkfaaDoor
open Go.RowKit

theorem drop_cons {l : List (List Int)} {j : Nat} (h : j < l.length) : l.drop j = l.getD j [] :: l.drop (j + 1) := by
  rw [List.getD_eq_getElem?_getD, List.getElem?_eq_getElem h]
  exact List.drop_eq_getElem_cons h
theorem MS.drewN {W0 W wr : World} {v : Value} {us : List Value} {ls : List (List Int)} (h : MS W0 W wr v us ls) (n : Nat) : MS W0 W (wr.drewN n) v us ls := ⟨⟨h.bel.os, h.bel.tape, h.bel.output, h.bel.size, h.bel.block⟩, h.own, h.len, h.each⟩
theorem drop_end {l : List (List Int)} {j : Nat} (h : ¬ j < l.length) : l.drop j = [] := List.drop_eq_nil_of_le (by omega)

/-- the same slice, or a new one -/
def NewOr (W : World) (v v' : Value) : Prop := v' = v ∨ ∀ g, v'.ownBlock = some g → W.heap.size ≤ g

end Go.Proofs.YtcgboccdffgkfaaDoor

/-
  spec: l2Value, l2Values.
-/
namespace Go.Proofs.YtcgboccdffgkfaaDoor
open Go.RowKit

/-- the value that a row gives to a variable -/
def vlF : List Int → List Int → Int → Int
  | [], _, _ => 0
  | x :: vs, r, v => if x = v then r.getD 0 0 else vlF vs (r.drop 1) v
def prjR (vs vars row : List Int) : List Int := vars.map (vlF vs row)
theorem prjR_len (vs vars row : List Int) : (prjR vs vars row).length = vars.length := by simp [prjR]
theorem vlF_hit {vs row : List Int} {v : Int} {j : Nat} (hj : j < vs.length) (h : vs.getD j 0 = v) : vlF (vs.drop j) (row.drop j) v = row.getD j 0 := by
  rw [drop_getD hj, vlF, if_pos h, getD_drop, Nat.add_zero]
theorem vlF_miss {vs row : List Int} {v : Int} {j : Nat} (hj : j < vs.length) (h : ¬ vs.getD j 0 = v) : vlF (vs.drop j) (row.drop j) v = vlF (vs.drop (j + 1)) (row.drop (j + 1)) v := by
  rw [drop_getD hj, vlF, if_neg h, List.drop_drop]

end Go.Proofs.YtcgboccdffgkfaaDoor

/-
  Rows made anew, listed in a slice of the call's own; impl.valuesAt.
-/
namespace Go.Proofs.YtcgboccdffgkfaaDoor
open Go.RowKit

theorem kept_of {W w3 : World} {v : Value} {o : Obj} {b : Nat} (hg : (W.alloc o).grownBy w3 v.ownBlock) (hb : b < W.heap.size) (hne : some b ≠ v.ownBlock) : w3.heap[b]? = W.heap[b]? :=
  (hg.block b (by simp; omega) hne).trans (Below.heap_alloc _ _ _ hb)

/-- rows, each in a row of its own, no two of them sharing a block -/
structure RQ (W : World) (B : Nat) (v : Value) (us : List Value) (ls : List (List Int)) : Prop where
  own : W.ownsRow B 53 1 v ls.length us
  len : us.length = ls.length
  each : ∀ i, i < ls.length → W.ownsRow B 3 1 (us.getD i undef) (ls.getD i []).length ((ls.getD i []).map (Value.int .i64))
  ap : ∀ i j, i < j → j < ls.length → ∀ g, (us.getD i undef).ownBlock = some g → (us.getD j undef).ownBlock ≠ some g
section
variable {W W' w3 : World} {B B' : Nat} {v v' u : Value} {us : List Value} {ls : List (List Int)} {l : List Int} {o : Obj}
theorem RQ.below (h : RQ W B v us ls) (hb : Below W.heap.size W W') : RQ W' B v us ls := ⟨own_below h.own hb, h.len, fun i hi => own_below (h.each i hi) hb, h.ap⟩
theorem RQ.base (h : RQ W B v us ls) (hB : B' ≤ B) : RQ W B' v us ls := ⟨own_base h.own hB, h.len, fun i hi => own_base (h.each i hi) hB, h.ap⟩
theorem RQ.step (h : RQ W B v us ls) (hu : W.ownsRow B 3 1 u l.length (l.map (Value.int .i64))) (hn : ∀ i, i < ls.length → ∀ g, (us.getD i undef).ownBlock = some g → u.ownBlock ≠ some g)
    (hown : w3.ownsRow B 53 1 v' (ls.length + 1) (us ++ [u])) (hg : (W.alloc o).grownBy w3 v.ownBlock) : RQ w3 B v' (us ++ [u]) (ls ++ [l]) := by
  have hint : ∀ {x : Value} {k : Nat} {xs : List Value}, W.ownsRow B 3 1 x k xs → w3.ownsRow B 3 1 x k xs := fun hx =>
    own_move hx fun g hgx => kept_of hg (hx.lt g hgx).2 (own_ne h.own (own_typ hx hgx) (by decide))
  have hl := h.len
  have e1 : ∀ i, i < ls.length → (us ++ [u]).getD i undef = us.getD i undef := fun i hi => by rw [List.getD_eq_getElem?_getD, List.getElem?_append_left (by omega), ← List.getD_eq_getElem?_getD]
  have e2 : (us ++ [u]).getD ls.length undef = u := by rw [List.getD_eq_getElem?_getD, List.getElem?_append_right (by omega), show ls.length - us.length = 0 by omega]; rfl
  have f1 : ∀ i, i < ls.length → (ls ++ [l]).getD i [] = ls.getD i [] := fun i hi => by rw [List.getD_eq_getElem?_getD, List.getElem?_append_left hi, ← List.getD_eq_getElem?_getD]
  have f2 : (ls ++ [l]).getD ls.length [] = l := by rw [List.getD_eq_getElem?_getD, List.getElem?_append_right (Nat.le_refl _), Nat.sub_self]; rfl
  refine ⟨by rw [List.length_append]; exact hown, by simp [hl], fun i hi => ?_, fun i j hij hj g => ?_⟩
  · rw [List.length_append, List.length_singleton] at hi
    by_cases e : i < ls.length
    · rw [e1 i e, f1 i e]; exact hint (h.each i e)
    · obtain rfl : i = ls.length := by omega
      rw [e2, f2]; exact hint hu
  · rw [List.length_append, List.length_singleton] at hj
    rw [e1 i (by omega)]
    by_cases e : j < ls.length
    · rw [e1 j e]; exact h.ap i j hij e g
    · obtain rfl : j = ls.length := by omega
      rw [e2]; exact hn i (by omega) g
theorem RQ.get (h : RQ W B v us ls) {i : Nat} (hi : i < ls.length) : ∃ g cap, v = .slice (some ⟨g, 0, none⟩) ls.length cap ∧ ls.length ≤ cap ∧ W.cell? ⟨g, i, none⟩ = some (us.getD i undef) := by
  rcases h.own.2 with ⟨-, h2⟩ | ⟨g, cap, cur, rfl, hb', hc, hn, -, -, ht⟩
  · omega
  · refine ⟨g, cap, rfl, hn, ?_⟩
    have hlen := h.len
    rw [cell_of_row _ _ _ _ _ _ hc, List.getD_eq_getElem?_getD, List.getElem?_eq_getElem (by omega), Option.getD_some, ← List.getElem?_eq_getElem (by omega : i < us.length), ← ht, List.getElem?_take_of_lt (by omega), Array.getElem?_toList]
theorem RQ.rs (h : RQ W B v us ls) : RS W W v us ls := by
  refine ⟨?_, h.len, fun i hi => ⟨own_is (h.each i hi), own_cap (h.each i hi)⟩⟩
  rcases h.own.2 with ⟨rfl, hn⟩ | ⟨g, cap, cur, rfl, hb', hc, hn, -⟩
  · exact ⟨none, 0, by rw [hn], by omega, Or.inl hn⟩
  · refine ⟨_, cap, rfl, hn, Or.inr ⟨g, 0, rfl, fun j hj => ?_⟩⟩
    obtain ⟨g', cap', e, -, hc'⟩ := h.get hj
    simp only [Value.slice.injEq, Option.some.injEq, Addr.mk.injEq] at e
    obtain ⟨⟨rfl, -⟩, -⟩ := e
    rw [Nat.zero_add]; exact hc'
end

/-- the values at some places -/
def atP (row places : List Int) : List Int := places.map fun p => row.getD p.toNat 0
theorem atP_len (row places : List Int) : (atP row places).length = places.length := by simp [atP]

end Go.Proofs.YtcgboccdffgkfaaDoor

/-
  slices.Clone of ints.
-/
namespace Go.Proofs.YtcgboccdffgkfaaDoor
open Go.RowKit

set_option maxHeartbeats 1000000 in
set_option maxRecDepth 1000000 in
theorem cloneP_calls (w : World) (v : Value) (l : List Int) (h : IS w v l) (hl : l.length ≤ 100000) :
    Calls Tryd.prog 69 #[v] w fun e w' => ∃ v', e = .returned v' ∧ w'.ownsRow w.heap.size 3 1 v' l.length (l.map (Value.int .i64)) ∧ Below w.heap.size w w' := by
  obtain ⟨i0, hi, hz0, hz1, hz2⟩ := info_parts Tryd.infoInt
  obtain ⟨a, cap, rfl, hc⟩ := h
  cases a with
  | none =>
    have h0 : l.length = 0 := by
      rcases hc with h0 | ⟨b, o, e, -⟩
      · exact h0
      · cases e
    have e0 : l = [] := List.eq_nil_of_length_eq_zero h0
    subst e0
    have hq : ∀ w : World, (binOp .eql 53 (.slice none 0 cap) (.slice none 0 0)).run Tryd.prog w = .ok (.bool true) w := fun w => Lib.run_eql_slice_nil w 53 3 none 0 cap 0 0 Tryd.underlying53
    go_enter Tryd.func69, Tryd.ntmps69
    go_wp2
    go_ret
    exact ⟨_, rfl, World.ownsRow_nil _ _ _ _, Below.refl _ _⟩
  | some ad =>
    have hq : ∀ w : World, (binOp .eql 53 (.slice (some ad) l.length cap) (.slice none 0 0)).run Tryd.prog w = .ok (.bool false) w := fun w => Lib.run_eql_slice_nil w 53 3 (some ad) l.length cap 0 0 Tryd.underlying53
    have hown : (w.alloc (.cells #[] 3)).ownsRow w.heap.size 3 1 (.slice (some ⟨w.heap.size, 0, none⟩) 0 0) 0 [] := World.ownsRow_made w #[] 0 (Nat.le_refl _) (by decide) rfl
    have hbA : Below w.heap.size w (w.alloc (.cells #[] 3)) := (Below.refl _ _).alloc (Nat.le_refl _) _
    by_cases h0 : l.length = 0
    · have e0 : l = [] := List.eq_nil_of_length_eq_zero h0
      subst e0
      have hq0 : ∀ w : World, (binOp .eql 53 (.slice (some ad) 0 cap) (.slice none 0 0)).run Tryd.prog w = .ok (.bool false) w := hq
      clear hq hc h0
      go_enter Tryd.func69, Tryd.ntmps69
      go_wp2_with (first | (at_builtin; refine wpList_append_own _ rfl _ _ 53 rfl w.heap.size 3 i0 (.int .i64 0) 1 8 Tryd.underlying53 hi hz0 hz1 hz2 rfl (by decide) (.slice (some ⟨w.heap.size, 0, none⟩) 0 0) 0 [] rfl hown ad 0 cap [] rfl rfl (fun j u hu => by simp at hu) (fun u hu => by cases hu) (by unfold maxLen; omega) (by omega) (by simp) ?_; intro v3 w3 hown3 hgrow3 _) | fail)
      go_ret
      exact ⟨_, rfl, hown3, hbA.grown hgrow3 (by simp) (fun k hk => (hown.lt k hk).1)⟩
    · obtain ⟨b, o, e, hc'⟩ : ∃ b o, some ad = some (⟨b, o, none⟩ : Addr) ∧ ∀ j, j < l.length → w.cell? ⟨b, o + j, none⟩ = some (.int .i64 (l.getD j 0)) := by
        rcases hc with h1 | h1
        · omega
        · exact h1
      obtain rfl := Option.some.inj e
      clear hc e
      have hnews : ∀ j u, (l.map (Value.int .i64))[j]? = some u → (w.alloc (.cells #[] 3)).cell? ((⟨b, o, none⟩ : Addr).add j) = some u := fun j u hu => by
        have hj : j < l.length := by
          rcases Nat.lt_or_ge j l.length with h | h
          · exact h
          · rw [List.getElem?_eq_none (by simpa using h)] at hu; cases hu
        rw [show ((⟨b, o, none⟩ : Addr).add j) = ⟨b, o + j, none⟩ by unfold Addr.add; split <;> simp_all, hbA.cell (p := ⟨b, o + j, none⟩) (World.block_lt_of_cell? w _ (hc' j hj)), hc' j hj, ← hu, List.getElem?_map, List.getD_eq_getElem?_getD, List.getElem?_eq_getElem hj]
        rfl
      have HNW := hid hnews
      clear hnews hc'
      obtain ⟨n, hn⟩ : ∃ n, n = l.length := ⟨_, rfl⟩
      have HN := hid hn
      rw [← hn] at hq hl h0 ⊢
      clear hn
      go_enter Tryd.func69, Tryd.ntmps69
      go_wp2_with (first | (at_builtin; refine wpList_append_lies _ rfl _ _ 53 rfl w.heap.size 3 i0 (.int .i64 0) 1 8 Tryd.underlying53 hi hz0 hz1 hz2 rfl (by decide) (.slice (some ⟨w.heap.size, 0, none⟩) 0 0) 0 [] rfl hown ⟨b, o, none⟩ n cap (l.map (Value.int .i64)) rfl (by rw [List.length_map, HN.out]; omega) HNW.out (fun u hu => by obtain ⟨x, _, rfl⟩ := List.mem_map.1 hu; rfl) (by omega) (by unfold maxLen; omega) (by omega) (by simp) _ rfl ?_; intro g3 cp3 w3 hown3 hgrow3 hat3 hlt3) | fail)
      go_ret
      refine ⟨_, rfl, ?_, hbA.grown hgrow3 (by simp) (fun k hk => (hown.lt k hk).1)⟩
      simpa using hown3

end Go.Proofs.YtcgboccdffgkfaaDoor
