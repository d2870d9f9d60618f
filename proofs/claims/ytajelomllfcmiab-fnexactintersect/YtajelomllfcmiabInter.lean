import Derived.Test.YtajelomllfcmiabAscend
import Derived.Test.YtajelomllfcmiabRats
import Derived.Deep.LoopGhost
/-
  impl.Intersect.
-/
namespace Go.Proofs.Ytajelomllfcmiab
open Go.RowKit Meet

theorem Try.infoCur : (Try.prog.info? 119).map (fun i => (i.zero, i.size, i.bytes)) = some (some (.agg #[.pointer none, .int .i64 0]), 2, 16) := by kernel_rfl

theorem own_og {w w' : World} {B c n s : Nat} {e e' : TypeId} {v : Value} {xs : List Value} (h : w.ownsRow B e s v n xs) (ho : Og c w w') (ht : ∃ cur, w.heap[c]? = some (.cells cur e' (0, 0))) (hne : e ≠ e') : w'.ownsRow B e s v n xs := by
  obtain ⟨h1, h2⟩ := h
  refine ⟨h1, ?_⟩
  rcases h2 with h2 | ⟨g, cap, cur, hv, hg, hc, hr⟩
  · exact Or.inl h2
  · refine Or.inr ⟨g, cap, cur, hv, hg, ?_, hr⟩
    rw [ho.block g (fun e => by
      obtain ⟨cur', hc'⟩ := ht
      rw [e, hc'] at hc
      simp only [Option.some.injEq, Obj.cells.injEq] at hc
      exact hne hc.2.1.symm)]
    exact hc

/-- a row's own block is none whose cells are of another type -/
theorem own_ne {w : World} {B b n s : Nat} {e e' : TypeId} {v : Value} {xs : List Value} (h : w.ownsRow B e s v n xs) (ht : ∃ cur, w.heap[b]? = some (.cells cur e' (0, 0))) (hne : e ≠ e') : some b ≠ v.ownBlock := by
  intro hb
  obtain ⟨h1, h2⟩ := h
  rcases h2 with ⟨rfl, _⟩ | ⟨g, cap, cur, rfl, hg, hc, hr⟩
  · simp [Value.ownBlock] at hb
  · simp only [Value.ownBlock, Option.some.injEq] at hb
    subst hb
    obtain ⟨cur', hc'⟩ := ht
    rw [hc'] at hc
    simp only [Option.some.injEq, Obj.cells.injEq] at hc
    exact hne hc.2.1.symm

theorem Curs.move {w w' : World} {c : Nat} {tb fb : Nat → Nat} {ls : List (List Int)} {p : Nat → Nat} (h : Curs w c tb fb ls p) (h1 : w'.heap[c]? = w.heap[c]?) (h2 : ∀ i, i < ls.length → w'.heap[tb i]? = w.heap[tb i]?) (h3 : ∀ i, i < ls.length → w'.heap[fb i]? = w.heap[fb i]?) : Curs w' c tb fb ls p where
  ne := h.ne
  typ := by rw [h1]; exact h.typ
  ttyp i hi := by rw [h2 i hi]; exact h.ttyp i hi
  cur i hi := ⟨(World.cell?_of_block (w := w) (a := ⟨c, i * 2, none⟩) h1).trans (h.cur i hi).ptr, (World.cell?_of_block (w := w) (a := ⟨c, i * 2 + 1, none⟩) h1).trans (h.cur i hi).pl, (World.frozen?_of_block (w := w) (a := ⟨c, i * 2 + 1, none⟩) h1).trans (h.cur i hi).fz,
    (World.cell?_of_block (w := w) (a := ⟨tb i, 0, none⟩) (h2 i hi)).trans (h.cur i hi).val, fun j hj => (World.cell?_of_block (w := w) (a := ⟨fb i, j, none⟩) (h3 i hi)).trans ((h.cur i hi).own j hj)⟩

theorem lt_of_typ {w : World} {b : Nat} {e : TypeId} (h : ∃ cur, w.heap[b]? = some (.cells cur e (0, 0))) : b < w.heap.size := by
  obtain ⟨cur, h⟩ := h
  rcases Nat.lt_or_ge b w.heap.size with h3 | h3
  · exact h3
  · rw [Array.getElem?_eq_none h3] at h; cases h

theorem Curs.below {w w' : World} {c : Nat} {tb fb : Nat → Nat} {ls : List (List Int)} {p : Nat → Nat} (h : Curs w c tb fb ls p) (hf : ∀ i, i < ls.length → fb i < w.heap.size) (hb : Below w.heap.size w w') : Curs w' c tb fb ls p :=
  h.move (hb.block c (lt_of_typ h.typ)) (fun i hi => hb.block _ (lt_of_typ (h.ttyp i hi))) (fun i hi => hb.block _ (hf i hi))

def ccells (tb : Nat → Nat) (k : Nat) : List Value := (List.range k).flatMap fun i => [.pointer (some ⟨tb i, 0, none⟩), .int .i64 0]
theorem ccells_succ (tb : Nat → Nat) (k : Nat) : ccells tb (k + 1) = ccells tb k ++ [.pointer (some ⟨tb k, 0, none⟩), .int .i64 0] := by
  simp [ccells, List.range_succ]
theorem ccells_congr {tb tb' : Nat → Nat} {k : Nat} (h : ∀ i, i < k → tb i = tb' i) : ccells tb k = ccells tb' k := by
  induction k with
  | zero => rfl
  | succ k ih => rw [ccells_succ, ccells_succ, ih (fun i hi => h i (by omega)), h k (by omega)]
theorem ccells_len (tb : Nat → Nat) (k : Nat) : (ccells tb k).length = k * 2 := by
  induction k with
  | zero => rfl
  | succ k ih => rw [ccells_succ, List.length_append, ih]; simp; omega
theorem ccells_get (tb : Nat → Nat) (k i : Nat) (h : i < k) : (ccells tb k)[i * 2]? = some (.pointer (some ⟨tb i, 0, none⟩)) ∧ (ccells tb k)[i * 2 + 1]? = some (.int .i64 0) := by
  induction k with
  | zero => omega
  | succ k ih =>
    rw [ccells_succ]
    by_cases e : i = k
    · subst e
      rw [List.getElem?_append_right (by rw [ccells_len]; omega), List.getElem?_append_right (by rw [ccells_len]; omega), ccells_len]
      simp
    · rw [List.getElem?_append_left (by rw [ccells_len]; omega), List.getElem?_append_left (by rw [ccells_len]; omega)]
      exact ih (by omega)

/-- the first k cursors have been laid -/
structure Laid (W : World) (B : Nat) (v : Value) (k : Nat) (f : Nat → Nat) (ls : List (List Int)) (tb : Nat → Nat) : Prop where
  own : W.ownsRow B 119 2 v k (ccells tb k)
  trie : ∀ i, i < k → W.heap[tb i]? = some (.cells #[.slice (some ⟨f i, 0, none⟩) (ls.getD i []).length (ls.getD i []).length, .slice none 0 0] 117 (0, 0))

end Go.Proofs.Ytajelomllfcmiab
