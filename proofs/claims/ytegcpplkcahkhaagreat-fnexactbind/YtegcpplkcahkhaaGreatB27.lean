import Derived.Deep.LoopGhost
import Derived.Test.YtegcpplkcahkhaaGreatB06
import Derived.Test.YtegcpplkcahkhaaGreatB25
import Derived.Test.YtegcpplkcahkhaaGreatB26
/-
  impl.meet.
-/
namespace Go.Proofs.YtegcpplkcahkhaaGreat
open Go.RowKit Meet

theorem Og.drewN {g : Nat} {w w' : World} (h : Og g w w') (d : Nat) : Og g w (w'.drewN d) := ⟨h.os, h.tape, h.output, h.size, h.block⟩
theorem Og.trans {g : Nat} {w w1 w2 : World} (h : Og g w w1) (k : Og g w1 w2) : Og g w w2 := ⟨k.os.trans h.os, k.tape.trans h.tape, k.output.trans h.output, k.size.trans h.size, fun b hb => (k.block b hb).trans (h.block b hb)⟩

end Go.Proofs.YtegcpplkcahkhaaGreat

/-
  impl.areAscending.
-/
namespace Go.Proofs.YtegcpplkcahkhaaGreat
open Go.RowKit Meet

end Go.Proofs.YtegcpplkcahkhaaGreat

/-
  impl.Intersect.
-/
namespace Go.Proofs.YtegcpplkcahkhaaGreat
open Go.RowKit Meet

theorem own_og {w w' : World} {B c n s : Nat} {e e' : TypeId} {v : Value} {xs : List Value} (h : w.ownsRow B e s v n xs) (ho : Og c w w') (ht : ∃ cur, w.heap[c]? = some (.cells cur e' (0, 0))) (hne : e ≠ e') : w'.ownsRow B e s v n xs := by
  obtain ⟨h1, h2⟩ := h
  refine ⟨h1, ?_⟩
  rcases h2 with h2 | ⟨g, cap, cur, hv, hg, hc, hr⟩
  · exact Or.inl h2
  · refine Or.inr ⟨g, cap, cur, hv, hg, ?_, hr⟩
    rw [ho.block g (fun e => by
      obtain ⟨cur', hc'⟩ := ht
      rw [e, hc'] at hc
      simp only [Option.some.injEq, Obj.cells.injEq] at hc
      exact hne hc.2.1.symm)]
    exact hc

/-- a row's own block is none whose cells are of another type -/
theorem own_ne {w : World} {B b n s : Nat} {e e' : TypeId} {v : Value} {xs : List Value} (h : w.ownsRow B e s v n xs) (ht : ∃ cur, w.heap[b]? = some (.cells cur e' (0, 0))) (hne : e ≠ e') : some b ≠ v.ownBlock := by
  intro hb
  obtain ⟨h1, h2⟩ := h
  rcases h2 with ⟨rfl, _⟩ | ⟨g, cap, cur, rfl, hg, hc, hr⟩
  · simp [Value.ownBlock] at hb
  · simp only [Value.ownBlock, Option.some.injEq] at hb
    subst hb
    obtain ⟨cur', hc'⟩ := ht
    rw [hc'] at hc
    simp only [Option.some.injEq, Obj.cells.injEq] at hc
    exact hne hc.2.1.symm

theorem lt_of_typ {w : World} {b : Nat} {e : TypeId} (h : ∃ cur, w.heap[b]? = some (.cells cur e (0, 0))) : b < w.heap.size := by
  obtain ⟨cur, h⟩ := h
  rcases Nat.lt_or_ge b w.heap.size with h3 | h3
  · exact h3
  · rw [Array.getElem?_eq_none h3] at h; cases h

def ccells (tb : Nat → Nat) (k : Nat) : List Value := (List.range k).flatMap fun i => [.pointer (some ⟨tb i, 0, none⟩), .int .i64 0]
theorem ccells_succ (tb : Nat → Nat) (k : Nat) : ccells tb (k + 1) = ccells tb k ++ [.pointer (some ⟨tb k, 0, none⟩), .int .i64 0] := by
  simp [ccells, List.range_succ]
theorem ccells_congr {tb tb' : Nat → Nat} {k : Nat} (h : ∀ i, i < k → tb i = tb' i) : ccells tb k = ccells tb' k := by
  induction k with
  | zero => rfl
  | succ k ih => rw [ccells_succ, ccells_succ, ih (fun i hi => h i (by omega)), h k (by omega)]
theorem ccells_len (tb : Nat → Nat) (k : Nat) : (ccells tb k).length = k * 2 := by
  induction k with
  | zero => rfl
  | succ k ih => rw [ccells_succ, List.length_append, ih]; simp; omega
theorem ccells_get (tb : Nat → Nat) (k i : Nat) (h : i < k) : (ccells tb k)[i * 2]? = some (.pointer (some ⟨tb i, 0, none⟩)) ∧ (ccells tb k)[i * 2 + 1]? = some (.int .i64 0) := by
  induction k with
  | zero => omega
  | succ k ih =>
    rw [ccells_succ]
    by_cases e : i = k
    · subst e
      rw [List.getElem?_append_right (by rw [ccells_len]; omega), List.getElem?_append_right (by rw [ccells_len]; omega), ccells_len]
      simp
    · rw [List.getElem?_append_left (by rw [ccells_len]; omega), List.getElem?_append_left (by rw [ccells_len]; omega)]
      exact ih (by omega)

end Go.Proofs.YtegcpplkcahkhaaGreat
