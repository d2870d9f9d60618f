import Derived.Deep.Draws
import Derived.Deep.LoopGhost
import Derived.Lib.Walk
import Derived.Test.YtegcpplkcahkhaaGreatB00
import Derived.Test.YtegcpplkcahkhaaGreatB08
/-
  slices.BinarySearch at []int; the cursors' methods.
-/
namespace Go.Proofs.YtegcpplkcahkhaaGreat
open Go.RowKit Meet

set_option maxHeartbeats 400000 in
theorem cNaN_calls (x : Int) (w : World) : Calls Tryz.prog 130 #[.int .i64 x] w fun e w' => e = .returned (.bool false) ∧ w' = w := by
  go_enter Tryz.func130, Tryz.ntmps130
  go_wp2
  go_ret
  exact ⟨by simp, rfl⟩

set_option maxHeartbeats 400000 in
theorem less_calls (x y : Int) (w : World) : Calls Tryz.prog 117 #[.int .i64 x, .int .i64 y] w fun e w' => e = .returned (.bool (decide (x < y))) ∧ w' = w := by
  go_enter Tryz.func117, Tryz.ntmps117
  go_wp2_with (first | (go_at_call 130; refine (cNaN_calls _ _).mono ?_; rintro e w' ⟨rfl, rfl⟩))
  go_ret
  exact ⟨rfl, rfl⟩

/-- the elements are ascending, one may be met twice -/
def Up (l : List Int) : Prop := ∀ i j, i ≤ j → j < l.length → l.getD i 0 ≤ l.getD j 0

theorem up_of_asc {l : List Int} (h : Asc l) : Up l := fun i j hij hj => by
  rcases Nat.lt_or_ge i j with h1 | h1
  · exact Int.le_of_lt (h i j h1 hj)
  · rw [show i = j by omega]; exact Int.le_refl _

def bsQ (l : List Int) (x : Int) : Nat := l.countP fun y => decide (y < x)
def bsF (l : List Int) (x : Int) : Bool := decide (bsQ l x < l.length) && decide (l.getD (bsQ l x) 0 = x)

theorem bsQ_eq {l : List Int} {x : Int} {q : Nat} (hq : q ≤ l.length) (h1 : ∀ j, j < q → l.getD j 0 < x) (h2 : ∀ j, q ≤ j → j < l.length → x ≤ l.getD j 0) : bsQ l x = q := by
  unfold bsQ
  conv => lhs; rw [← List.take_append_drop q l]
  rw [List.countP_append]
  have a : (l.take q).countP (fun y => decide (y < x)) = (l.take q).length := List.countP_eq_length.2 fun y hy => by
    obtain ⟨j, hj, e⟩ := List.getElem_of_mem hy
    rw [List.length_take] at hj
    have := h1 j (by omega)
    rw [List.getD_eq_getElem?_getD, List.getElem?_eq_getElem (by omega)] at this
    rw [List.getElem_take] at e
    simp only [Option.getD_some, e] at this
    exact decide_eq_true this
  have b : (l.drop q).countP (fun y => decide (y < x)) = 0 := List.countP_eq_zero.2 fun y hy => by
    obtain ⟨j, hj, e⟩ := List.getElem_of_mem hy
    rw [List.length_drop] at hj
    have := h2 (q + j) (by omega) (by omega)
    rw [List.getD_eq_getElem?_getD, List.getElem?_eq_getElem (by omega)] at this
    rw [List.getElem_drop] at e
    simp only [Option.getD_some, e] at this
    simp; omega
  rw [a, b, List.length_take]; omega

theorem bs_split {l : List Int} (hs : Up l) (x : Int) : ∃ q, q ≤ l.length ∧ (∀ j, j < q → l.getD j 0 < x) ∧ (∀ j, q ≤ j → j < l.length → x ≤ l.getD j 0) := by
  have key : ∀ d k, k + d = l.length → (∀ j, j < k → l.getD j 0 < x) → ∃ q, q ≤ l.length ∧ (∀ j, j < q → l.getD j 0 < x) ∧ (∀ j, q ≤ j → j < l.length → x ≤ l.getD j 0) := by
    intro d
    induction d with
    | zero => intro k hk h; exact ⟨k, by omega, h, fun j h1 h2 => by omega⟩
    | succ d ih =>
      intro k hk h
      by_cases hx : l.getD k 0 < x
      · exact ih (k + 1) (by omega) (fun j hj => by
          rcases Nat.lt_or_ge j k with h1 | h1
          · exact h j h1
          · rw [show j = k by omega]; exact hx)
      · exact ⟨k, by omega, h, fun j h1 h2 => by have := hs k j h1 h2; omega⟩
  exact key l.length 0 (by omega) (fun j hj => by omega)

theorem bsQ_spec {l : List Int} (hs : Up l) (x : Int) : bsQ l x ≤ l.length ∧ (∀ j, j < bsQ l x → l.getD j 0 < x) ∧ (∀ j, bsQ l x ≤ j → j < l.length → x ≤ l.getD j 0) := by
  obtain ⟨q, h1, h2, h3⟩ := bs_split hs x
  rw [bsQ_eq h1 h2 h3]
  exact ⟨h1, h2, h3⟩

theorem tup_ret {q : Nat} {a b : Bool} {k : Nat} (h : k = q) (h' : a = b) : Ending.returned (.tuple #[.int .i64 k, .bool a]) = .returned (.tuple #[.int .i64 q, .bool b]) := by rw [h, h']

end Go.Proofs.YtegcpplkcahkhaaGreat

/-
  impl's cursors: ended, value, next, seek.
-/
namespace Go.Proofs.YtegcpplkcahkhaaGreat
open Go.RowKit Meet

structure Cur (w : World) (c o tb fb : Nat) (l : List Int) (p : Nat) : Prop where
  ptr : w.cell? ⟨c, o, none⟩ = some (.pointer (some ⟨tb, 0, none⟩))
  pl : w.cell? ⟨c, o + 1, none⟩ = some (.int .i64 p)
  fz : w.frozen? ⟨c, o + 1, none⟩ = false
  val : w.cell? ⟨tb, 0, none⟩ = some (.slice (some ⟨fb, 0, none⟩) l.length l.length)
  own : ∀ j, j < l.length → w.cell? ⟨fb, j, none⟩ = some (.int .i64 (l.getD j 0))

theorem Cur.drewN {w : World} {c o tb fb p : Nat} {l : List Int} (h : Cur w c o tb fb l p) (d : Nat) : Cur (w.drewN d) c o tb fb l p := ⟨h.ptr, h.pl, h.fz, h.val, h.own⟩

/-- the cells behind place p -/
theorem Cur.is_from {w : World} {c o tb fb p : Nat} {l : List Int} (h : Cur w c o tb fb l p) (hp : p < l.length) (cap : Nat) : IS w (.slice (some ⟨fb, p, none⟩) (l.length - p) cap) (l.drop p) := by
  refine ⟨_, cap, by rw [List.length_drop], Or.inr ⟨fb, p, rfl, fun j hj => ?_⟩⟩
  rw [List.length_drop] at hj
  rw [h.own (p + j) (by omega), List.getD_eq_getElem?_getD, List.getD_eq_getElem?_getD, List.getElem?_drop]

theorem up_drop {l : List Int} (h : Asc l) (p : Nat) : Up (l.drop p) := fun i j hij hj => by
  rw [List.length_drop] at hj
  have := up_of_asc h (p + i) (p + j) (by omega) (by omega)
  simpa only [List.getD_eq_getElem?_getD, List.getElem?_drop] using this

theorem seek_of {l : List Int} (h : Asc l) {p : Nat} (hp : p ≤ l.length) (g : Int) : Seek l p g (p + bsQ (l.drop p) g) := by
  obtain ⟨h1, h2, h3⟩ := bsQ_spec (up_drop h p) g
  rw [List.length_drop] at h1 h3
  refine ⟨by omega, by omega, fun j hj1 hj2 => ?_, fun hq => ?_⟩
  · have := h2 (j - p) (by omega)
    rw [List.getD_eq_getElem?_getD, List.getElem?_drop, show p + (j - p) = j by omega] at this
    rw [List.getD_eq_getElem?_getD]; exact this
  · have := h3 (bsQ (l.drop p) g) (Nat.le_refl _) (by omega)
    rw [List.getD_eq_getElem?_getD, List.getElem?_drop] at this
    rw [List.getD_eq_getElem?_getD]; exact this

end Go.Proofs.YtegcpplkcahkhaaGreat
