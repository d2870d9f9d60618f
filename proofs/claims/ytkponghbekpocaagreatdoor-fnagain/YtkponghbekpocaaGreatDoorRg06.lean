import Derived.Deep.Draws
import Derived.Deep.LoopGhost
import Derived.Lib.Walk
import Derived.Test.YtkponghbekpocaaGreatDoorRg00
import Derived.Test.YtkponghbekpocaaGreatDoorRg02
import Derived.Test.YtkponghbekpocaaGreatDoorRg03
/-
  slices.BinarySearch at []int; the cursors' methods.
-/
namespace Go.Proofs.YtkponghbekpocaaGreatDoor
open Go.RowKit Meet

end Go.Proofs.YtkponghbekpocaaGreatDoor

/-
  impl's cursors: ended, value, next, seek.
-/
namespace Go.Proofs.YtkponghbekpocaaGreatDoor
open Go.RowKit Meet

structure Cur (w : World) (c o tb fb : Nat) (l : List Int) (p : Nat) : Prop where
  ptr : w.cell? ⟨c, o, none⟩ = some (.pointer (some ⟨tb, 0, none⟩))
  pl : w.cell? ⟨c, o + 1, none⟩ = some (.int .i64 p)
  fz : w.frozen? ⟨c, o + 1, none⟩ = false
  val : w.cell? ⟨tb, 0, none⟩ = some (.slice (some ⟨fb, 0, none⟩) l.length l.length)
  own : ∀ j, j < l.length → w.cell? ⟨fb, j, none⟩ = some (.int .i64 (l.getD j 0))

theorem Cur.drewN {w : World} {c o tb fb p : Nat} {l : List Int} (h : Cur w c o tb fb l p) (d : Nat) : Cur (w.drewN d) c o tb fb l p := ⟨h.ptr, h.pl, h.fz, h.val, h.own⟩

end Go.Proofs.YtkponghbekpocaaGreatDoor

/-
  impl.meet.
-/
namespace Go.Proofs.YtkponghbekpocaaGreatDoor
open Go.RowKit Meet

theorem Og.drewN {g : Nat} {w w' : World} (h : Og g w w') (d : Nat) : Og g w (w'.drewN d) := ⟨h.os, h.tape, h.output, h.size, h.block⟩
theorem Og.trans {g : Nat} {w w1 w2 : World} (h : Og g w w1) (k : Og g w1 w2) : Og g w w2 := ⟨k.os.trans h.os, k.tape.trans h.tape, k.output.trans h.output, k.size.trans h.size, fun b hb => (k.block b hb).trans (h.block b hb)⟩

end Go.Proofs.YtkponghbekpocaaGreatDoor

/-
  impl.areAscending.
-/
namespace Go.Proofs.YtkponghbekpocaaGreatDoor
open Go.RowKit Meet

end Go.Proofs.YtkponghbekpocaaGreatDoor

/-
  impl.Intersect.
-/
namespace Go.Proofs.YtkponghbekpocaaGreatDoor
open Go.RowKit Meet

theorem own_og {w w' : World} {B c n s : Nat} {e e' : TypeId} {v : Value} {xs : List Value} (h : w.ownsRow B e s v n xs) (ho : Og c w w') (ht : ∃ cur, w.heap[c]? = some (.cells cur e' (0, 0))) (hne : e ≠ e') : w'.ownsRow B e s v n xs := by
  obtain ⟨h1, h2⟩ := h
  refine ⟨h1, ?_⟩
  rcases h2 with h2 | ⟨g, cap, cur, hv, hg, hc, hr⟩
  · exact Or.inl h2
  · refine Or.inr ⟨g, cap, cur, hv, hg, ?_, hr⟩
    rw [ho.block g (fun e => by
      obtain ⟨cur', hc'⟩ := ht
      rw [e, hc'] at hc
      simp only [Option.some.injEq, Obj.cells.injEq] at hc
      exact hne hc.2.1.symm)]
    exact hc

/-- a row's own block is none whose cells are of another type -/
theorem own_ne {w : World} {B b n s : Nat} {e e' : TypeId} {v : Value} {xs : List Value} (h : w.ownsRow B e s v n xs) (ht : ∃ cur, w.heap[b]? = some (.cells cur e' (0, 0))) (hne : e ≠ e') : some b ≠ v.ownBlock := by
  intro hb
  obtain ⟨h1, h2⟩ := h
  rcases h2 with ⟨rfl, _⟩ | ⟨g, cap, cur, rfl, hg, hc, hr⟩
  · simp [Value.ownBlock] at hb
  · simp only [Value.ownBlock, Option.some.injEq] at hb
    subst hb
    obtain ⟨cur', hc'⟩ := ht
    rw [hc'] at hc
    simp only [Option.some.injEq, Obj.cells.injEq] at hc
    exact hne hc.2.1.symm

theorem lt_of_typ {w : World} {b : Nat} {e : TypeId} (h : ∃ cur, w.heap[b]? = some (.cells cur e (0, 0))) : b < w.heap.size := by
  obtain ⟨cur, h⟩ := h
  rcases Nat.lt_or_ge b w.heap.size with h3 | h3
  · exact h3
  · rw [Array.getElem?_eq_none h3] at h; cases h

def ccells (tb : Nat → Nat) (k : Nat) : List Value := (List.range k).flatMap fun i => [.pointer (some ⟨tb i, 0, none⟩), .int .i64 0]
theorem ccells_succ (tb : Nat → Nat) (k : Nat) : ccells tb (k + 1) = ccells tb k ++ [.pointer (some ⟨tb k, 0, none⟩), .int .i64 0] := by
  simp [ccells, List.range_succ]
theorem ccells_congr {tb tb' : Nat → Nat} {k : Nat} (h : ∀ i, i < k → tb i = tb' i) : ccells tb k = ccells tb' k := by
  induction k with
  | zero => rfl
  | succ k ih => rw [ccells_succ, ccells_succ, ih (fun i hi => h i (by omega)), h k (by omega)]
end Go.Proofs.YtkponghbekpocaaGreatDoor

/-
  impl.Intersect, walked.
-/
namespace Go.Proofs.YtkponghbekpocaaGreatDoor
open Go.RowKit Meet

end Go.Proofs.YtkponghbekpocaaGreatDoor

/-
  impl.Intersect, walked.
-/
namespace Go.Proofs.YtkponghbekpocaaGreatDoor
open Go.RowKit Meet

end Go.Proofs.YtkponghbekpocaaGreatDoor

/-
  spec.Intersect.
-/
namespace Go.Proofs.YtkponghbekpocaaGreatDoor
open Go.RowKit Meet

theorem new1_cell (w : World) (v : Value) (t : TypeId) : ∀ j u, [v][j]? = some u → (w.alloc (.cells #[v] t)).cell? ((⟨w.heap.size, 0, none⟩ : Addr).add j) = some u := by
  intro j u hj
  match j, hj with
  | 0, hj => simp at hj; subst hj; simp [Addr.add]

theorem mem_iff {l : List Int} {x : Int} {q : Nat} (h1 : ∀ j, j < q → l.getD j 0 < x) (h2 : ∀ j, q ≤ j → j < l.length → x ≤ l.getD j 0) (ha : Asc l) : decide (x ∈ l) = (decide (q < l.length) && decide (l.getD q 0 = x)) := by
  by_cases hq : q < l.length
  · rw [decide_eq_true hq, Bool.true_and]
    by_cases e : l.getD q 0 = x
    · rw [decide_eq_true e]
      exact decide_eq_true (e ▸ at_mem hq)
    · rw [decide_eq_false e]
      refine decide_eq_false (fun hm => ?_)
      obtain ⟨j, hj, e2⟩ := mem_at hm
      rcases Nat.lt_or_ge j q with h3 | h3
      · have := h1 j h3; omega
      · have h4 := h2 q (Nat.le_refl _) hq
        rcases Nat.lt_or_ge q j with h5 | h5
        · have := ha q j h5 hj; omega
        · rw [show j = q by omega] at e2; exact e e2
  · rw [decide_eq_false hq, Bool.false_and]
    refine decide_eq_false (fun hm => ?_)
    obtain ⟨j, hj, e2⟩ := mem_at hm
    have := h1 j (by omega)
    omega

end Go.Proofs.YtkponghbekpocaaGreatDoor
