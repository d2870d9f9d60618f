import Derived.Deep.LoopGhost
import Derived.Test.YtpdloenmplafiaaV11
import Derived.Test.YtpdloenmplafiaaV12
/-
  impl.areAscending.
-/
namespace Go.Proofs.Ytpdloenmplafiaa
open Go.RowKit Meet

end Go.Proofs.Ytpdloenmplafiaa

/-
  impl.Intersect.
-/
namespace Go.Proofs.Ytpdloenmplafiaa
open Go.RowKit Meet

theorem Try.infoCur : (Try.prog.info? 191).map (fun i => (i.zero, i.size, i.bytes)) = some (some (.agg #[.pointer none, .int .i64 0]), 2, 16) := by kernel_rfl

theorem own_og {w w' : World} {B c n s : Nat} {e e' : TypeId} {v : Value} {xs : List Value} (h : w.ownsRow B e s v n xs) (ho : Og c w w') (ht : ∃ cur, w.heap[c]? = some (.cells cur e' (0, 0))) (hne : e ≠ e') : w'.ownsRow B e s v n xs := by
  obtain ⟨h1, h2⟩ := h
  refine ⟨h1, ?_⟩
  rcases h2 with h2 | ⟨g, cap, cur, hv, hg, hc, hr⟩
  · exact Or.inl h2
  · refine Or.inr ⟨g, cap, cur, hv, hg, ?_, hr⟩
    rw [ho.block g (fun e => by
      obtain ⟨cur', hc'⟩ := ht
      rw [e, hc'] at hc
      simp only [Option.some.injEq, Obj.cells.injEq] at hc
      exact hne hc.2.1.symm)]
    exact hc

/-- a row's own block is none whose cells are of another type -/
theorem own_ne {w : World} {B b n s : Nat} {e e' : TypeId} {v : Value} {xs : List Value} (h : w.ownsRow B e s v n xs) (ht : ∃ cur, w.heap[b]? = some (.cells cur e' (0, 0))) (hne : e ≠ e') : some b ≠ v.ownBlock := by
  intro hb
  obtain ⟨h1, h2⟩ := h
  rcases h2 with ⟨rfl, _⟩ | ⟨g, cap, cur, rfl, hg, hc, hr⟩
  · simp [Value.ownBlock] at hb
  · simp only [Value.ownBlock, Option.some.injEq] at hb
    subst hb
    obtain ⟨cur', hc'⟩ := ht
    rw [hc'] at hc
    simp only [Option.some.injEq, Obj.cells.injEq] at hc
    exact hne hc.2.1.symm

theorem Curs.move {w w' : World} {c : Nat} {tb fb : Nat → Nat} {ls : List (List Int)} {p : Nat → Nat} (h : Curs w c tb fb ls p) (h1 : w'.heap[c]? = w.heap[c]?) (h2 : ∀ i, i < ls.length → w'.heap[tb i]? = w.heap[tb i]?) (h3 : ∀ i, i < ls.length → w'.heap[fb i]? = w.heap[fb i]?) : Curs w' c tb fb ls p where
  ne := h.ne
  typ := by rw [h1]; exact h.typ
  ttyp i hi := by rw [h2 i hi]; exact h.ttyp i hi
  cur i hi := ⟨(World.cell?_of_block (w := w) (a := ⟨c, i * 2, none⟩) h1).trans (h.cur i hi).ptr, (World.cell?_of_block (w := w) (a := ⟨c, i * 2 + 1, none⟩) h1).trans (h.cur i hi).pl, (World.frozen?_of_block (w := w) (a := ⟨c, i * 2 + 1, none⟩) h1).trans (h.cur i hi).fz,
    (World.cell?_of_block (w := w) (a := ⟨tb i, 0, none⟩) (h2 i hi)).trans (h.cur i hi).val, fun j hj => (World.cell?_of_block (w := w) (a := ⟨fb i, j, none⟩) (h3 i hi)).trans ((h.cur i hi).own j hj)⟩

theorem lt_of_typ {w : World} {b : Nat} {e : TypeId} (h : ∃ cur, w.heap[b]? = some (.cells cur e (0, 0))) : b < w.heap.size := by
  obtain ⟨cur, h⟩ := h
  rcases Nat.lt_or_ge b w.heap.size with h3 | h3
  · exact h3
  · rw [Array.getElem?_eq_none h3] at h; cases h

theorem Curs.below {w w' : World} {c : Nat} {tb fb : Nat → Nat} {ls : List (List Int)} {p : Nat → Nat} (h : Curs w c tb fb ls p) (hf : ∀ i, i < ls.length → fb i < w.heap.size) (hb : Below w.heap.size w w') : Curs w' c tb fb ls p :=
  h.move (hb.block c (lt_of_typ h.typ)) (fun i hi => hb.block _ (lt_of_typ (h.ttyp i hi))) (fun i hi => hb.block _ (hf i hi))

def ccells (tb : Nat → Nat) (k : Nat) : List Value := (List.range k).flatMap fun i => [.pointer (some ⟨tb i, 0, none⟩), .int .i64 0]
theorem ccells_succ (tb : Nat → Nat) (k : Nat) : ccells tb (k + 1) = ccells tb k ++ [.pointer (some ⟨tb k, 0, none⟩), .int .i64 0] := by
  simp [ccells, List.range_succ]
theorem ccells_congr {tb tb' : Nat → Nat} {k : Nat} (h : ∀ i, i < k → tb i = tb' i) : ccells tb k = ccells tb' k := by
  induction k with
  | zero => rfl
  | succ k ih => rw [ccells_succ, ccells_succ, ih (fun i hi => h i (by omega)), h k (by omega)]
theorem ccells_len (tb : Nat → Nat) (k : Nat) : (ccells tb k).length = k * 2 := by
  induction k with
  | zero => rfl
  | succ k ih => rw [ccells_succ, List.length_append, ih]; simp; omega
theorem ccells_get (tb : Nat → Nat) (k i : Nat) (h : i < k) : (ccells tb k)[i * 2]? = some (.pointer (some ⟨tb i, 0, none⟩)) ∧ (ccells tb k)[i * 2 + 1]? = some (.int .i64 0) := by
  induction k with
  | zero => omega
  | succ k ih =>
    rw [ccells_succ]
    by_cases e : i = k
    · subst e
      rw [List.getElem?_append_right (by rw [ccells_len]; omega), List.getElem?_append_right (by rw [ccells_len]; omega), ccells_len]
      simp
    · rw [List.getElem?_append_left (by rw [ccells_len]; omega), List.getElem?_append_left (by rw [ccells_len]; omega)]
      exact ih (by omega)

/-- the first k cursors have been laid -/
structure Laid (W : World) (B : Nat) (v : Value) (k : Nat) (f : Nat → Nat) (ls : List (List Int)) (tb : Nat → Nat) : Prop where
  own : W.ownsRow B 191 2 v k (ccells tb k)
  trie : ∀ i, i < k → W.heap[tb i]? = some (.cells #[.slice (some ⟨f i, 0, none⟩) (ls.getD i []).length (ls.getD i []).length, .slice none 0 0] 157 (0, 0))

end Go.Proofs.Ytpdloenmplafiaa

/-
  impl.Intersect, walked.
-/
namespace Go.Proofs.Ytpdloenmplafiaa
open Go.RowKit Meet

theorem own_grown {w w' : World} {B n s : Nat} {e : TypeId} {v : Value} {xs : List Value} {row : Option Nat} (h : w.ownsRow B e s v n xs) (hg : w.grownBy w' row) (hne : ∀ k, v.ownBlock = some k → some k ≠ row) : w'.ownsRow B e s v n xs := by
  have hlt := h.lt
  obtain ⟨h1, h2⟩ := h
  refine ⟨h1, ?_⟩
  rcases h2 with h2 | ⟨g, cap, cur, rfl, hb, hc, hr⟩
  · exact Or.inl h2
  · exact Or.inr ⟨g, cap, cur, rfl, hb, (hg.block g (hlt g rfl).2 (hne g rfl)).trans hc, hr⟩

theorem own_drewN {w : World} {B n s : Nat} {e : TypeId} {v : Value} {xs : List Value} (h : w.ownsRow B e s v n xs) (d : Nat) : (w.drewN d).ownsRow B e s v n xs := h

theorem Laid.step {W W1 : World} {B k : Nat} {v v' : Value} {f tb : Nat → Nat} {ls : List (List Int)} {o2 : Obj} (h : Laid W B v k f ls tb)
    (hown' : W1.ownsRow B 191 2 v' (k + 1) (ccells tb k ++ [.pointer (some ⟨W.heap.size, 0, none⟩), .int .i64 0]))
    (hgrow : ((W.alloc (.cells #[.slice (some ⟨f k, 0, none⟩) (ls.getD k []).length (ls.getD k []).length, .slice none 0 0] 157)).alloc o2).grownBy W1 v.ownBlock) : ∃ tb', Laid W1 B v' (k + 1) f ls tb' := by
  have hsz : ∀ (X : World) (o : Obj), (X.alloc o).heap.size = X.heap.size + 1 := fun X o => by simp
  refine ⟨fun i => if i = k then W.heap.size else tb i, ?_, fun i hi => ?_⟩
  · rw [ccells_succ, if_pos rfl, ccells_congr (tb' := tb) (fun i hi => if_neg (by omega))]
    exact hown'
  · by_cases e : i = k
    · subst e
      rw [if_pos rfl, hgrow.block W.heap.size (by rw [hsz, hsz]; omega) (fun hb => by have := (h.own.lt _ hb.symm).2; omega)]
      rw [Below.heap_alloc _ _ _ (by rw [hsz]; omega)]
      exact heap_alloc_new _ _
    · rw [if_neg e]
      have h1 := h.trie i (by omega)
      have hlt := lt_of_typ ⟨_, h1⟩
      rw [hgrow.block (tb i) (by rw [hsz, hsz]; omega) (own_ne h.own ⟨_, h1⟩ (by decide)), Below.heap_alloc _ _ _ (by rw [hsz]; omega), Below.heap_alloc _ _ _ (by omega)]
      exact h1

theorem Laid.shape {W : World} {B k : Nat} {v : Value} {f tb : Nat → Nat} {ls : List (List Int)} (h : Laid W B v k f ls tb) (hk : k ≠ 0) : ∃ c cap, B ≤ c ∧ v = .slice (some ⟨c, 0, none⟩) k cap := by
  rcases h.own.2 with ⟨h', h2⟩ | ⟨g', cap', cur, h', hb', hg, _⟩
  · exact absurd h2 hk
  · exact ⟨g', cap', hb', h'⟩

theorem Laid.curs {W : World} {B c n cap : Nat} {f tb : Nat → Nat} {ls : List (List Int)} (h : Laid W B (.slice (some ⟨c, 0, none⟩) n cap) n f ls tb) (hn : n = ls.length) (hB : B ≤ c) (hf : ∀ i, i < n → f i < B)
    (hc : ∀ i, i < n → ∀ j, j < (ls.getD i []).length → W.cell? ⟨f i, j, none⟩ = some (.int .i64 ((ls.getD i []).getD j 0))) : Curs W c tb f ls (fun _ => 0) := by
  subst hn
  have htyp : ∃ cur, W.heap[c]? = some (.cells cur 191 (0, 0)) := by
    rcases h.own.2 with ⟨h', _⟩ | ⟨g', cap', cur, h', _, hg, _⟩
    · simp at h'
    · simp only [Value.slice.injEq, Option.some.injEq, Addr.mk.injEq, and_true, true_and] at h'
      obtain ⟨rfl, rfl⟩ := h'
      exact ⟨cur, hg⟩
  refine ⟨fun i hi => ⟨?_, ?_, ?_, ?_, hc i hi⟩, fun i hi => ⟨?_, ?_⟩, htyp, fun i hi => ⟨_, h.trie i hi⟩⟩
  · rw [h.own.cellAt (i * 2) (by omega)]; exact (ccells_get tb _ i hi).1
  · rw [h.own.cellAt (i * 2 + 1) (by omega)]; exact (ccells_get tb _ i hi).2
  · exact h.own.frozenAt _
  · rw [cell_of_row _ _ _ _ _ _ (h.trie i hi)]; rfl
  · exact fun e => own_ne h.own ⟨_, h.trie i hi⟩ (by decide) (by rw [e]; rfl)
  · have := hf i hi; omega

theorem Curs.grown {W W1 : World} {B c q : Nat} {tb fb : Nat → Nat} {ls : List (List Int)} {p : Nat → Nat} {v : Value} {xs : List Value} {o : Obj} (h : Curs W c tb fb ls p) (hf : ∀ i, i < ls.length → fb i < B) (hB : B ≤ W.heap.size)
    (hown : W.ownsRow B 3 1 v q xs) (hg : (W.alloc o).grownBy W1 v.ownBlock) : Curs W1 c tb fb ls p := by
  have hsz : (W.alloc o).heap.size = W.heap.size + 1 := by simp
  have hk : ∀ b, b < W.heap.size → some b ≠ v.ownBlock → W1.heap[b]? = W.heap[b]? := fun b hb hne => (hg.block b (by omega) hne).trans (Below.heap_alloc _ _ _ hb)
  refine h.move (hk c (lt_of_typ h.typ) (own_ne hown h.typ (by decide))) (fun i hi => hk _ (lt_of_typ (h.ttyp i hi)) (own_ne hown (h.ttyp i hi) (by decide))) (fun i hi => hk _ (by have := hf i hi; omega) (fun e => ?_))
  have := (hown.lt _ e.symm).1
  have := hf i hi
  omega

theorem got_len {ls : List (List Int)} {p : Nat → Nat} {acc : List Int} (h : Got ls p acc) : acc.length ≤ (ls.getD 0 []).length := by
  rw [h.acc]
  refine Nat.le_trans (List.length_filter_le _ _) ?_
  rw [List.length_take]; omega

end Go.Proofs.Ytpdloenmplafiaa
