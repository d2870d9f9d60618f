import Derived.Test.YtcdfoephhjacdaaDoorQ19
/-
  spec: l2Value, l2Values.
-/
namespace Go.Proofs.YtcdfoephhjacdaaDoor
open Go.RowKit

/-- the value that a row gives to a variable -/
def vlF : List Int → List Int → Int → Int
  | [], _, _ => 0
  | x :: vs, r, v => if x = v then r.getD 0 0 else vlF vs (r.drop 1) v
def prjR (vs vars row : List Int) : List Int := vars.map (vlF vs row)
theorem prjR_len (vs vars row : List Int) : (prjR vs vars row).length = vars.length := by simp [prjR]
theorem vlF_hit {vs row : List Int} {v : Int} {j : Nat} (hj : j < vs.length) (h : vs.getD j 0 = v) : vlF (vs.drop j) (row.drop j) v = row.getD j 0 := by
  rw [drop_getD hj, vlF, if_pos h, getD_drop, Nat.add_zero]
theorem vlF_miss {vs row : List Int} {v : Int} {j : Nat} (hj : j < vs.length) (h : ¬ vs.getD j 0 = v) : vlF (vs.drop j) (row.drop j) v = vlF (vs.drop (j + 1)) (row.drop (j + 1)) v := by
  rw [drop_getD hj, vlF, if_neg h, List.drop_drop]

end Go.Proofs.YtcdfoephhjacdaaDoor

/-
  Rows made anew, listed in a slice of the call's own; impl.valuesAt.
-/
namespace Go.Proofs.YtcdfoephhjacdaaDoor
open Go.RowKit

theorem kept_of {W w3 : World} {v : Value} {o : Obj} {b : Nat} (hg : (W.alloc o).grownBy w3 v.ownBlock) (hb : b < W.heap.size) (hne : some b ≠ v.ownBlock) : w3.heap[b]? = W.heap[b]? :=
  (hg.block b (by simp; omega) hne).trans (Below.heap_alloc _ _ _ hb)

/-- rows, each in a row of its own, no two of them sharing a block -/
structure RQ (W : World) (B : Nat) (v : Value) (us : List Value) (ls : List (List Int)) : Prop where
  own : W.ownsRow B 75 1 v ls.length us
  len : us.length = ls.length
  each : ∀ i, i < ls.length → W.ownsRow B 3 1 (us.getD i undef) (ls.getD i []).length ((ls.getD i []).map (Value.int .i64))
  ap : ∀ i j, i < j → j < ls.length → ∀ g, (us.getD i undef).ownBlock = some g → (us.getD j undef).ownBlock ≠ some g
section
variable {W W' w3 : World} {B B' : Nat} {v v' u : Value} {us : List Value} {ls : List (List Int)} {l : List Int} {o : Obj}
theorem RQ.below (h : RQ W B v us ls) (hb : Below W.heap.size W W') : RQ W' B v us ls := ⟨own_below h.own hb, h.len, fun i hi => own_below (h.each i hi) hb, h.ap⟩
theorem RQ.base (h : RQ W B v us ls) (hB : B' ≤ B) : RQ W B' v us ls := ⟨own_base h.own hB, h.len, fun i hi => own_base (h.each i hi) hB, h.ap⟩
theorem RQ.step (h : RQ W B v us ls) (hu : W.ownsRow B 3 1 u l.length (l.map (Value.int .i64))) (hn : ∀ i, i < ls.length → ∀ g, (us.getD i undef).ownBlock = some g → u.ownBlock ≠ some g)
    (hown : w3.ownsRow B 75 1 v' (ls.length + 1) (us ++ [u])) (hg : (W.alloc o).grownBy w3 v.ownBlock) : RQ w3 B v' (us ++ [u]) (ls ++ [l]) := by
  have hint : ∀ {x : Value} {k : Nat} {xs : List Value}, W.ownsRow B 3 1 x k xs → w3.ownsRow B 3 1 x k xs := fun hx =>
    own_move hx fun g hgx => kept_of hg (hx.lt g hgx).2 (own_ne h.own (own_typ hx hgx) (by decide))
  have hl := h.len
  have e1 : ∀ i, i < ls.length → (us ++ [u]).getD i undef = us.getD i undef := fun i hi => by rw [List.getD_eq_getElem?_getD, List.getElem?_append_left (by omega), ← List.getD_eq_getElem?_getD]
  have e2 : (us ++ [u]).getD ls.length undef = u := by rw [List.getD_eq_getElem?_getD, List.getElem?_append_right (by omega), show ls.length - us.length = 0 by omega]; rfl
  have f1 : ∀ i, i < ls.length → (ls ++ [l]).getD i [] = ls.getD i [] := fun i hi => by rw [List.getD_eq_getElem?_getD, List.getElem?_append_left hi, ← List.getD_eq_getElem?_getD]
  have f2 : (ls ++ [l]).getD ls.length [] = l := by rw [List.getD_eq_getElem?_getD, List.getElem?_append_right (Nat.le_refl _), Nat.sub_self]; rfl
  refine ⟨by rw [List.length_append]; exact hown, by simp [hl], fun i hi => ?_, fun i j hij hj g => ?_⟩
  · rw [List.length_append, List.length_singleton] at hi
    by_cases e : i < ls.length
    · rw [e1 i e, f1 i e]; exact hint (h.each i e)
    · obtain rfl : i = ls.length := by omega
      rw [e2, f2]; exact hint hu
  · rw [List.length_append, List.length_singleton] at hj
    rw [e1 i (by omega)]
    by_cases e : j < ls.length
    · rw [e1 j e]; exact h.ap i j hij e g
    · obtain rfl : j = ls.length := by omega
      rw [e2]; exact hn i (by omega) g
theorem RQ.get (h : RQ W B v us ls) {i : Nat} (hi : i < ls.length) : ∃ g cap, v = .slice (some ⟨g, 0, none⟩) ls.length cap ∧ ls.length ≤ cap ∧ W.cell? ⟨g, i, none⟩ = some (us.getD i undef) := by
  rcases h.own.2 with ⟨-, h2⟩ | ⟨g, cap, cur, rfl, hb', hc, hn, -, -, ht⟩
  · omega
  · refine ⟨g, cap, rfl, hn, ?_⟩
    have hlen := h.len
    rw [cell_of_row _ _ _ _ _ _ hc, List.getD_eq_getElem?_getD, List.getElem?_eq_getElem (by omega), Option.getD_some, ← List.getElem?_eq_getElem (by omega : i < us.length), ← ht, List.getElem?_take_of_lt (by omega), Array.getElem?_toList]
theorem RQ.rs (h : RQ W B v us ls) : RS W W v us ls := by
  refine ⟨?_, h.len, fun i hi => ⟨own_is (h.each i hi), own_cap (h.each i hi)⟩⟩
  rcases h.own.2 with ⟨rfl, hn⟩ | ⟨g, cap, cur, rfl, hb', hc, hn, -⟩
  · exact ⟨none, 0, by rw [hn], by omega, Or.inl hn⟩
  · refine ⟨_, cap, rfl, hn, Or.inr ⟨g, 0, rfl, fun j hj => ?_⟩⟩
    obtain ⟨g', cap', e, -, hc'⟩ := h.get hj
    simp only [Value.slice.injEq, Option.some.injEq, Addr.mk.injEq] at e
    obtain ⟨⟨rfl, -⟩, -⟩ := e
    rw [Nat.zero_add]; exact hc'
end

/-- the values at some places -/
def atP (row places : List Int) : List Int := places.map fun p => row.getD p.toNat 0
theorem atP_len (row places : List Int) : (atP row places).length = places.length := by simp [atP]

end Go.Proofs.YtcdfoephhjacdaaDoor
