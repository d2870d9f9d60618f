import Derived.Test.YtpdloenmplafiaaInts5
/-
  Lists in order: cmp.Compare, slices.Compare, spec.l2Compare.
-/
namespace Go.Proofs.Ytpdloenmplafiaa
open Go.RowKit

def cmpL : List Int → List Int → Int
  | [], [] => 0
  | [], _ :: _ => -1
  | _ :: _, [] => 1
  | x :: a, y :: b => if x < y then -1 else if y < x then 1 else cmpL a b

theorem drop_getD {l : List Int} {j : Nat} (h : j < l.length) : l.drop j = l.getD j 0 :: l.drop (j + 1) := by
  rw [List.getD_eq_getElem?_getD, List.getElem?_eq_getElem h]
  exact List.drop_eq_getElem_cons h

theorem cmpL_drop (a b : List Int) : ∀ j, j ≤ a.length → j ≤ b.length → (∀ i, i < j → a.getD i 0 = b.getD i 0) → cmpL a b = cmpL (a.drop j) (b.drop j) := by
  intro j
  induction j with
  | zero => intros; simp
  | succ j ih =>
    intro h1 h2 h3
    rw [ih (by omega) (by omega) (fun i hi => h3 i (by omega)), drop_getD (show j < a.length by omega), drop_getD (show j < b.length by omega), h3 j (by omega)]
    simp [cmpL]

theorem cmpL_lt {a b : List Int} {j : Nat} (h1 : j < a.length) (h2 : j < b.length) (h3 : ∀ i, i < j → a.getD i 0 = b.getD i 0) (h4 : a.getD j 0 < b.getD j 0) : cmpL a b = -1 := by
  rw [cmpL_drop a b j (by omega) (by omega) h3, drop_getD h1, drop_getD h2]
  simp only [cmpL]
  rw [if_pos h4]

theorem cmpL_gt {a b : List Int} {j : Nat} (h1 : j < a.length) (h2 : j < b.length) (h3 : ∀ i, i < j → a.getD i 0 = b.getD i 0) (h4 : b.getD j 0 < a.getD j 0) : cmpL a b = 1 := by
  rw [cmpL_drop a b j (by omega) (by omega) h3, drop_getD h1, drop_getD h2]
  simp only [cmpL]
  rw [if_neg (by omega), if_pos h4]

theorem cmpL_short {a b : List Int} (h2 : a.length < b.length) (h3 : ∀ i, i < a.length → a.getD i 0 = b.getD i 0) : cmpL a b = -1 := by
  rw [cmpL_drop a b a.length (by omega) (by omega) h3, drop_getD h2, List.drop_length]
  rfl

theorem cmpL_long {a b : List Int} (h2 : b.length < a.length) (h3 : ∀ i, i < b.length → a.getD i 0 = b.getD i 0) : cmpL a b = 1 := by
  rw [cmpL_drop a b b.length (by omega) (by omega) h3, drop_getD h2, List.drop_length]
  rfl

theorem cmpL_same {a b : List Int} (h2 : a.length = b.length) (h3 : ∀ i, i < a.length → a.getD i 0 = b.getD i 0) : cmpL a b = 0 := by
  rw [cmpL_drop a b a.length (by omega) (by omega) h3, List.drop_length, h2, List.drop_length]
  rfl

def cmpI (x y : Int) : Int := if x < y then -1 else if y < x then 1 else 0

set_option maxHeartbeats 400000 in
theorem cmpInt_calls (w : World) (x y : Int) :
    Calls Try.prog 170 #[.int .i64 x, .int .i64 y] w fun e w' => e = .returned (.int .i64 (cmpI x y)) ∧ w' = w := by
  have hx : (x != x) = false := by simp
  have hy : (y != y) = false := by simp
  unfold cmpI
  by_cases h1 : x < y
  · rw [if_pos h1]
    go_enter Try.func170, Try.ntmps170
    go_wp2
    go_ret
    exact ⟨rfl, rfl⟩
  · rw [if_neg h1]
    by_cases h2 : y < x
    · rw [if_pos h2]
      go_enter Try.func170, Try.ntmps170
      go_wp2
      go_ret
      exact ⟨rfl, rfl⟩
    · rw [if_neg h2]
      go_enter Try.func170, Try.ntmps170
      go_wp2
      go_ret
      exact ⟨rfl, rfl⟩

end Go.Proofs.Ytpdloenmplafiaa
