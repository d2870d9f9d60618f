import Derived.Test.YtliggcbiiaegeabPj23
/-
  impl.Intersect, walked.
-/
namespace Go.Proofs.Ytliggcbiiaegeab
open Go.RowKit Meet

theorem own_grown {w w' : World} {B n s : Nat} {e : TypeId} {v : Value} {xs : List Value} {row : Option Nat} (h : w.ownsRow B e s v n xs) (hg : w.grownBy w' row) (hne : ∀ k, v.ownBlock = some k → some k ≠ row) : w'.ownsRow B e s v n xs := by
  have hlt := h.lt
  obtain ⟨h1, h2⟩ := h
  refine ⟨h1, ?_⟩
  rcases h2 with h2 | ⟨g, cap, cur, rfl, hb, hc, hr⟩
  · exact Or.inl h2
  · exact Or.inr ⟨g, cap, cur, rfl, hb, (hg.block g (hlt g rfl).2 (hne g rfl)).trans hc, hr⟩

theorem own_drewN {w : World} {B n s : Nat} {e : TypeId} {v : Value} {xs : List Value} (h : w.ownsRow B e s v n xs) (d : Nat) : (w.drewN d).ownsRow B e s v n xs := h

theorem Laid.step {W W1 : World} {B k : Nat} {v v' : Value} {f tb : Nat → Nat} {ls : List (List Int)} {o2 : Obj} (h : Laid W B v k f ls tb)
    (hown' : W1.ownsRow B 119 2 v' (k + 1) (ccells tb k ++ [.pointer (some ⟨W.heap.size, 0, none⟩), .int .i64 0]))
    (hgrow : ((W.alloc (.cells #[.slice (some ⟨f k, 0, none⟩) (ls.getD k []).length (ls.getD k []).length, .slice none 0 0] 117)).alloc o2).grownBy W1 v.ownBlock) : ∃ tb', Laid W1 B v' (k + 1) f ls tb' := by
  have hsz : ∀ (X : World) (o : Obj), (X.alloc o).heap.size = X.heap.size + 1 := fun X o => by simp
  refine ⟨fun i => if i = k then W.heap.size else tb i, ?_, fun i hi => ?_⟩
  · rw [ccells_succ, if_pos rfl, ccells_congr (tb' := tb) (fun i hi => if_neg (by omega))]
    exact hown'
  · by_cases e : i = k
    · subst e
      rw [if_pos rfl, hgrow.block W.heap.size (by rw [hsz, hsz]; omega) (fun hb => by have := (h.own.lt _ hb.symm).2; omega)]
      rw [Below.heap_alloc _ _ _ (by rw [hsz]; omega)]
      exact heap_alloc_new _ _
    · rw [if_neg e]
      have h1 := h.trie i (by omega)
      have hlt := lt_of_typ ⟨_, h1⟩
      rw [hgrow.block (tb i) (by rw [hsz, hsz]; omega) (own_ne h.own ⟨_, h1⟩ (by decide)), Below.heap_alloc _ _ _ (by rw [hsz]; omega), Below.heap_alloc _ _ _ (by omega)]
      exact h1

theorem Laid.shape {W : World} {B k : Nat} {v : Value} {f tb : Nat → Nat} {ls : List (List Int)} (h : Laid W B v k f ls tb) (hk : k ≠ 0) : ∃ c cap, B ≤ c ∧ v = .slice (some ⟨c, 0, none⟩) k cap := by
  rcases h.own.2 with ⟨h', h2⟩ | ⟨g', cap', cur, h', hb', hg, _⟩
  · exact absurd h2 hk
  · exact ⟨g', cap', hb', h'⟩

theorem Laid.curs {W : World} {B c n cap : Nat} {f tb : Nat → Nat} {ls : List (List Int)} (h : Laid W B (.slice (some ⟨c, 0, none⟩) n cap) n f ls tb) (hn : n = ls.length) (hB : B ≤ c) (hf : ∀ i, i < n → f i < B)
    (hc : ∀ i, i < n → ∀ j, j < (ls.getD i []).length → W.cell? ⟨f i, j, none⟩ = some (.int .i64 ((ls.getD i []).getD j 0))) : Curs W c tb f ls (fun _ => 0) := by
  subst hn
  have htyp : ∃ cur, W.heap[c]? = some (.cells cur 119 (0, 0)) := by
    rcases h.own.2 with ⟨h', _⟩ | ⟨g', cap', cur, h', _, hg, _⟩
    · simp at h'
    · simp only [Value.slice.injEq, Option.some.injEq, Addr.mk.injEq, and_true, true_and] at h'
      obtain ⟨rfl, rfl⟩ := h'
      exact ⟨cur, hg⟩
  refine ⟨fun i hi => ⟨?_, ?_, ?_, ?_, hc i hi⟩, fun i hi => ⟨?_, ?_⟩, htyp, fun i hi => ⟨_, h.trie i hi⟩⟩
  · rw [h.own.cellAt (i * 2) (by omega)]; exact (ccells_get tb _ i hi).1
  · rw [h.own.cellAt (i * 2 + 1) (by omega)]; exact (ccells_get tb _ i hi).2
  · exact h.own.frozenAt _
  · rw [cell_of_row _ _ _ _ _ _ (h.trie i hi)]; rfl
  · exact fun e => own_ne h.own ⟨_, h.trie i hi⟩ (by decide) (by rw [e]; rfl)
  · have := hf i hi; omega

theorem Curs.grown {W W1 : World} {B c q : Nat} {tb fb : Nat → Nat} {ls : List (List Int)} {p : Nat → Nat} {v : Value} {xs : List Value} {o : Obj} (h : Curs W c tb fb ls p) (hf : ∀ i, i < ls.length → fb i < B) (hB : B ≤ W.heap.size)
    (hown : W.ownsRow B 3 1 v q xs) (hg : (W.alloc o).grownBy W1 v.ownBlock) : Curs W1 c tb fb ls p := by
  have hsz : (W.alloc o).heap.size = W.heap.size + 1 := by simp
  have hk : ∀ b, b < W.heap.size → some b ≠ v.ownBlock → W1.heap[b]? = W.heap[b]? := fun b hb hne => (hg.block b (by omega) hne).trans (Below.heap_alloc _ _ _ hb)
  refine h.move (hk c (lt_of_typ h.typ) (own_ne hown h.typ (by decide))) (fun i hi => hk _ (lt_of_typ (h.ttyp i hi)) (own_ne hown (h.ttyp i hi) (by decide))) (fun i hi => hk _ (by have := hf i hi; omega) (fun e => ?_))
  have := (hown.lt _ e.symm).1
  have := hf i hi
  omega

theorem got_len {ls : List (List Int)} {p : Nat → Nat} {acc : List Int} (h : Got ls p acc) : acc.length ≤ (ls.getD 0 []).length := by
  rw [h.acc]
  refine Nat.le_trans (List.length_filter_le _ _) ?_
  rw [List.length_take]; omega

end Go.Proofs.Ytliggcbiiaegeab
