import Derived.Deep.Draws
import Derived.Deep.LoopGhost
import Derived.Lib.Walk
import Derived.Test.YtnmcgbfhgmmcpaaW05
import Derived.Test.YtnmcgbfhgmmcpaaW08
import Derived.Test.YtnmcgbfhgmmcpaaW16
import Derived.Test.YtnmcgbfhgmmcpaaW17
/-
  slices.BinarySearch at []int; the cursors' methods.
-/
namespace Go.Proofs.Ytnmcgbfhgmmcpaa
open Go.RowKit Meet

/-- the elements are ascending, one may be met twice -/
def Up (l : List Int) : Prop := ∀ i j, i ≤ j → j < l.length → l.getD i 0 ≤ l.getD j 0

theorem up_of_asc {l : List Int} (h : Asc l) : Up l := fun i j hij hj => by
  rcases Nat.lt_or_ge i j with h1 | h1
  · exact Int.le_of_lt (h i j h1 hj)
  · rw [show i = j by omega]; exact Int.le_refl _

def bsQ (l : List Int) (x : Int) : Nat := l.countP fun y => decide (y < x)
def bsF (l : List Int) (x : Int) : Bool := decide (bsQ l x < l.length) && decide (l.getD (bsQ l x) 0 = x)

theorem bsQ_eq {l : List Int} {x : Int} {q : Nat} (hq : q ≤ l.length) (h1 : ∀ j, j < q → l.getD j 0 < x) (h2 : ∀ j, q ≤ j → j < l.length → x ≤ l.getD j 0) : bsQ l x = q := by
  unfold bsQ
  conv => lhs; rw [← List.take_append_drop q l]
  rw [List.countP_append]
  have a : (l.take q).countP (fun y => decide (y < x)) = (l.take q).length := List.countP_eq_length.2 fun y hy => by
    obtain ⟨j, hj, e⟩ := List.getElem_of_mem hy
    rw [List.length_take] at hj
    have := h1 j (by omega)
    rw [List.getD_eq_getElem?_getD, List.getElem?_eq_getElem (by omega)] at this
    rw [List.getElem_take] at e
    simp only [Option.getD_some, e] at this
    exact decide_eq_true this
  have b : (l.drop q).countP (fun y => decide (y < x)) = 0 := List.countP_eq_zero.2 fun y hy => by
    obtain ⟨j, hj, e⟩ := List.getElem_of_mem hy
    rw [List.length_drop] at hj
    have := h2 (q + j) (by omega) (by omega)
    rw [List.getD_eq_getElem?_getD, List.getElem?_eq_getElem (by omega)] at this
    rw [List.getElem_drop] at e
    simp only [Option.getD_some, e] at this
    simp; omega
  rw [a, b, List.length_take]; omega

theorem bs_split {l : List Int} (hs : Up l) (x : Int) : ∃ q, q ≤ l.length ∧ (∀ j, j < q → l.getD j 0 < x) ∧ (∀ j, q ≤ j → j < l.length → x ≤ l.getD j 0) := by
  have key : ∀ d k, k + d = l.length → (∀ j, j < k → l.getD j 0 < x) → ∃ q, q ≤ l.length ∧ (∀ j, j < q → l.getD j 0 < x) ∧ (∀ j, q ≤ j → j < l.length → x ≤ l.getD j 0) := by
    intro d
    induction d with
    | zero => intro k hk h; exact ⟨k, by omega, h, fun j h1 h2 => by omega⟩
    | succ d ih =>
      intro k hk h
      by_cases hx : l.getD k 0 < x
      · exact ih (k + 1) (by omega) (fun j hj => by
          rcases Nat.lt_or_ge j k with h1 | h1
          · exact h j h1
          · rw [show j = k by omega]; exact hx)
      · exact ⟨k, by omega, h, fun j h1 h2 => by have := hs k j h1 h2; omega⟩
  exact key l.length 0 (by omega) (fun j hj => by omega)

theorem bsQ_spec {l : List Int} (hs : Up l) (x : Int) : bsQ l x ≤ l.length ∧ (∀ j, j < bsQ l x → l.getD j 0 < x) ∧ (∀ j, bsQ l x ≤ j → j < l.length → x ≤ l.getD j 0) := by
  obtain ⟨q, h1, h2, h3⟩ := bs_split hs x
  rw [bsQ_eq h1 h2 h3]
  exact ⟨h1, h2, h3⟩

theorem tup_ret {q : Nat} {a b : Bool} {k : Nat} (h : k = q) (h' : a = b) : Ending.returned (.tuple #[.int .i64 k, .bool a]) = .returned (.tuple #[.int .i64 q, .bool b]) := by rw [h, h']

end Go.Proofs.Ytnmcgbfhgmmcpaa

/-
  impl's cursors: ended, value, next, seek.
-/
namespace Go.Proofs.Ytnmcgbfhgmmcpaa
open Go.RowKit Meet

structure Cur (w : World) (c o tb fb : Nat) (l : List Int) (p : Nat) : Prop where
  ptr : w.cell? ⟨c, o, none⟩ = some (.pointer (some ⟨tb, 0, none⟩))
  pl : w.cell? ⟨c, o + 1, none⟩ = some (.int .i64 p)
  fz : w.frozen? ⟨c, o + 1, none⟩ = false
  val : w.cell? ⟨tb, 0, none⟩ = some (.slice (some ⟨fb, 0, none⟩) l.length l.length)
  own : ∀ j, j < l.length → w.cell? ⟨fb, j, none⟩ = some (.int .i64 (l.getD j 0))

theorem Cur.drewN {w : World} {c o tb fb p : Nat} {l : List Int} (h : Cur w c o tb fb l p) (d : Nat) : Cur (w.drewN d) c o tb fb l p := ⟨h.ptr, h.pl, h.fz, h.val, h.own⟩

/-- the cells behind place p -/
theorem Cur.is_from {w : World} {c o tb fb p : Nat} {l : List Int} (h : Cur w c o tb fb l p) (hp : p < l.length) (cap : Nat) : IS w (.slice (some ⟨fb, p, none⟩) (l.length - p) cap) (l.drop p) := by
  refine ⟨_, cap, by rw [List.length_drop], Or.inr ⟨fb, p, rfl, fun j hj => ?_⟩⟩
  rw [List.length_drop] at hj
  rw [h.own (p + j) (by omega), List.getD_eq_getElem?_getD, List.getD_eq_getElem?_getD, List.getElem?_drop]

theorem up_drop {l : List Int} (h : Asc l) (p : Nat) : Up (l.drop p) := fun i j hij hj => by
  rw [List.length_drop] at hj
  have := up_of_asc h (p + i) (p + j) (by omega) (by omega)
  simpa only [List.getD_eq_getElem?_getD, List.getElem?_drop] using this

theorem seek_of {l : List Int} (h : Asc l) {p : Nat} (hp : p ≤ l.length) (g : Int) : Seek l p g (p + bsQ (l.drop p) g) := by
  obtain ⟨h1, h2, h3⟩ := bsQ_spec (up_drop h p) g
  rw [List.length_drop] at h1 h3
  refine ⟨by omega, by omega, fun j hj1 hj2 => ?_, fun hq => ?_⟩
  · have := h2 (j - p) (by omega)
    rw [List.getD_eq_getElem?_getD, List.getElem?_drop, show p + (j - p) = j by omega] at this
    rw [List.getD_eq_getElem?_getD]; exact this
  · have := h3 (bsQ (l.drop p) g) (Nat.le_refl _) (by omega)
    rw [List.getD_eq_getElem?_getD, List.getElem?_drop] at this
    rw [List.getD_eq_getElem?_getD]; exact this

end Go.Proofs.Ytnmcgbfhgmmcpaa

/-
  impl.meet.
-/
namespace Go.Proofs.Ytnmcgbfhgmmcpaa
open Go.RowKit Meet

theorem Og.drewN {g : Nat} {w w' : World} (h : Og g w w') (d : Nat) : Og g w (w'.drewN d) := ⟨h.os, h.tape, h.output, h.size, h.block⟩
theorem Og.trans {g : Nat} {w w1 w2 : World} (h : Og g w w1) (k : Og g w1 w2) : Og g w w2 := ⟨k.os.trans h.os, k.tape.trans h.tape, k.output.trans h.output, k.size.trans h.size, fun b hb => (k.block b hb).trans (h.block b hb)⟩

end Go.Proofs.Ytnmcgbfhgmmcpaa

/-
  impl.areAscending.
-/
namespace Go.Proofs.Ytnmcgbfhgmmcpaa
open Go.RowKit Meet

end Go.Proofs.Ytnmcgbfhgmmcpaa

/-
  impl.Intersect.
-/
namespace Go.Proofs.Ytnmcgbfhgmmcpaa
open Go.RowKit Meet

theorem own_og {w w' : World} {B c n s : Nat} {e e' : TypeId} {v : Value} {xs : List Value} (h : w.ownsRow B e s v n xs) (ho : Og c w w') (ht : ∃ cur, w.heap[c]? = some (.cells cur e' (0, 0))) (hne : e ≠ e') : w'.ownsRow B e s v n xs := by
  obtain ⟨h1, h2⟩ := h
  refine ⟨h1, ?_⟩
  rcases h2 with h2 | ⟨g, cap, cur, hv, hg, hc, hr⟩
  · exact Or.inl h2
  · refine Or.inr ⟨g, cap, cur, hv, hg, ?_, hr⟩
    rw [ho.block g (fun e => by
      obtain ⟨cur', hc'⟩ := ht
      rw [e, hc'] at hc
      simp only [Option.some.injEq, Obj.cells.injEq] at hc
      exact hne hc.2.1.symm)]
    exact hc

/-- a row's own block is none whose cells are of another type -/
theorem own_ne {w : World} {B b n s : Nat} {e e' : TypeId} {v : Value} {xs : List Value} (h : w.ownsRow B e s v n xs) (ht : ∃ cur, w.heap[b]? = some (.cells cur e' (0, 0))) (hne : e ≠ e') : some b ≠ v.ownBlock := by
  intro hb
  obtain ⟨h1, h2⟩ := h
  rcases h2 with ⟨rfl, _⟩ | ⟨g, cap, cur, rfl, hg, hc, hr⟩
  · simp [Value.ownBlock] at hb
  · simp only [Value.ownBlock, Option.some.injEq] at hb
    subst hb
    obtain ⟨cur', hc'⟩ := ht
    rw [hc'] at hc
    simp only [Option.some.injEq, Obj.cells.injEq] at hc
    exact hne hc.2.1.symm

theorem lt_of_typ {w : World} {b : Nat} {e : TypeId} (h : ∃ cur, w.heap[b]? = some (.cells cur e (0, 0))) : b < w.heap.size := by
  obtain ⟨cur, h⟩ := h
  rcases Nat.lt_or_ge b w.heap.size with h3 | h3
  · exact h3
  · rw [Array.getElem?_eq_none h3] at h; cases h

def ccells (tb : Nat → Nat) (k : Nat) : List Value := (List.range k).flatMap fun i => [.pointer (some ⟨tb i, 0, none⟩), .int .i64 0]
theorem ccells_succ (tb : Nat → Nat) (k : Nat) : ccells tb (k + 1) = ccells tb k ++ [.pointer (some ⟨tb k, 0, none⟩), .int .i64 0] := by
  simp [ccells, List.range_succ]
theorem ccells_congr {tb tb' : Nat → Nat} {k : Nat} (h : ∀ i, i < k → tb i = tb' i) : ccells tb k = ccells tb' k := by
  induction k with
  | zero => rfl
  | succ k ih => rw [ccells_succ, ccells_succ, ih (fun i hi => h i (by omega)), h k (by omega)]
theorem ccells_len (tb : Nat → Nat) (k : Nat) : (ccells tb k).length = k * 2 := by
  induction k with
  | zero => rfl
  | succ k ih => rw [ccells_succ, List.length_append, ih]; simp; omega
theorem ccells_get (tb : Nat → Nat) (k i : Nat) (h : i < k) : (ccells tb k)[i * 2]? = some (.pointer (some ⟨tb i, 0, none⟩)) ∧ (ccells tb k)[i * 2 + 1]? = some (.int .i64 0) := by
  induction k with
  | zero => omega
  | succ k ih =>
    rw [ccells_succ]
    by_cases e : i = k
    · subst e
      rw [List.getElem?_append_right (by rw [ccells_len]; omega), List.getElem?_append_right (by rw [ccells_len]; omega), ccells_len]
      simp
    · rw [List.getElem?_append_left (by rw [ccells_len]; omega), List.getElem?_append_left (by rw [ccells_len]; omega)]
      exact ih (by omega)

end Go.Proofs.Ytnmcgbfhgmmcpaa

/-
  impl.Intersect, walked.
-/
namespace Go.Proofs.Ytnmcgbfhgmmcpaa
open Go.RowKit Meet

theorem own_grown {w w' : World} {B n s : Nat} {e : TypeId} {v : Value} {xs : List Value} {row : Option Nat} (h : w.ownsRow B e s v n xs) (hg : w.grownBy w' row) (hne : ∀ k, v.ownBlock = some k → some k ≠ row) : w'.ownsRow B e s v n xs := by
  have hlt := h.lt
  obtain ⟨h1, h2⟩ := h
  refine ⟨h1, ?_⟩
  rcases h2 with h2 | ⟨g, cap, cur, rfl, hb, hc, hr⟩
  · exact Or.inl h2
  · exact Or.inr ⟨g, cap, cur, rfl, hb, (hg.block g (hlt g rfl).2 (hne g rfl)).trans hc, hr⟩

theorem own_drewN {w : World} {B n s : Nat} {e : TypeId} {v : Value} {xs : List Value} (h : w.ownsRow B e s v n xs) (d : Nat) : (w.drewN d).ownsRow B e s v n xs := h

theorem got_len {ls : List (List Int)} {p : Nat → Nat} {acc : List Int} (h : Got ls p acc) : acc.length ≤ (ls.getD 0 []).length := by
  rw [h.acc]
  refine Nat.le_trans (List.length_filter_le _ _) ?_
  rw [List.length_take]; omega

end Go.Proofs.Ytnmcgbfhgmmcpaa
