import Derived.Deep.RegionWith
import Derived.Test.YtoikfjhgeceimabSj01
namespace Go.Proofs.Ytoikfjhgeceimab
open Go.RowKit

theorem between_no1 (x lo hi : Int) (w : World) (h1 : x < lo) :
    Calls Try.prog 51 #[.int .i64 x, .int .i64 lo, .int .i64 hi] w fun e w' => e = .returned (.bool false) ∧ w' = w := by
  have hd : decide (lo ≤ x) = false := by simp; omega
  go_enter Try.func51, Try.ntmps51
  go_wp2
  go_ret
  exact ⟨rfl, rfl⟩

theorem between_no2 (x lo hi : Int) (w : World) (h1 : lo ≤ x) (h2 : hi < x) :
    Calls Try.prog 51 #[.int .i64 x, .int .i64 lo, .int .i64 hi] w fun e w' => e = .returned (.bool false) ∧ w' = w := by
  have hd : decide (x ≤ hi) = false := by simp; omega
  go_enter Try.func51, Try.ntmps51
  go_wp2
  go_ret
  exact ⟨rfl, rfl⟩

set_option maxHeartbeats 400000 in
theorem sRatOK_gcd (n d g : Int) (w : World) (h1 : 1 ≤ d) (h2 : d ≤ 1000000) (h3 : -1000000 ≤ n) (h4 : n ≤ 1000000) (HG : Hid ((Int.gcd (n.natAbs : Int) d : Int) = g)) (b : Bool) (hb : (g == 1) = b) :
    Calls Try.prog 56 #[.agg #[.int .i64 n, .int .i64 d]] w fun e w' => e = .returned (.bool b) ∧ Below w.heap.size w w' := by
  go_enter Try.func56, Try.ntmps56
  go_wp2_with fail
  go_quiet ((first | (go_at_call 51; exact Calls.quiet_of_same (between_yes _ _ _ _ (by omega) (by omega))) | (go_at_call 105; exact Calls.quiet_of_same (abs_calls _ _ (by omega) (by omega))) | (go_at_call 104; exact Calls.quiet_of_same (sgcd_at _ _ g _ (by omega) (by omega) (by omega) (by omega) HG.out))))
  go_wp2
  go_ret
  exact ⟨rfl, below_drewN ((Below.refl _ _).alloc (Nat.le_refl _) _) _⟩

theorem sRatOK_yes (n d : Int) (w : World) (h : OkR n d) :
    Calls Try.prog 56 #[.agg #[.int .i64 n, .int .i64 d]] w fun e w' => e = .returned (.bool true) ∧ Below w.heap.size w w' := by
  obtain ⟨h1, h2, h3, h4, h5⟩ := h
  refine sRatOK_gcd n d 1 w h1 h2 h3 h4 (hid ?_) true rfl
  have := RatM.gcd_abs n d
  rw [show ((d.natAbs : Nat) : Int) = d by omega] at this
  rw [this, h5]
  rfl

set_option maxHeartbeats 400000 in
theorem sRatOK_no (n d : Int) (w : World) (h : ¬ OkR n d) :
    Calls Try.prog 56 #[.agg #[.int .i64 n, .int .i64 d]] w fun e w' => e = .returned (.bool false) ∧ Below w.heap.size w w' := by
  rcases notOk_cases h with h1 | ⟨h1, h2⟩ | ⟨h1, h2, h3⟩ | ⟨h1, h2, h3, h4⟩ | ⟨h1, h2, h3, h4, h5⟩
  · go_enter Try.func56, Try.ntmps56
    go_wp2_with fail
    go_quiet ((first | (go_at_call 51; exact Calls.quiet_of_same (between_no1 _ _ _ _ (by omega)))))
    go_wp2
    go_ret
    exact ⟨rfl, below_drewN ((Below.refl _ _).alloc (Nat.le_refl _) _) _⟩
  · go_enter Try.func56, Try.ntmps56
    go_wp2_with fail
    go_quiet ((first | (go_at_call 51; exact Calls.quiet_of_same (between_no2 _ _ _ _ (by omega) (by omega)))))
    go_wp2
    go_ret
    exact ⟨rfl, below_drewN ((Below.refl _ _).alloc (Nat.le_refl _) _) _⟩
  · go_enter Try.func56, Try.ntmps56
    go_wp2_with fail
    go_quiet ((first | (go_at_call_of 51 (Value.int IntKind.i64 d); exact Calls.quiet_of_same (between_yes _ _ _ _ (by omega) (by omega))) | (go_at_call_of 51 (Value.int IntKind.i64 n); exact Calls.quiet_of_same (between_no1 _ _ _ _ (by omega)))))
    go_wp2
    go_ret
    exact ⟨rfl, below_drewN ((Below.refl _ _).alloc (Nat.le_refl _) _) _⟩
  · go_enter Try.func56, Try.ntmps56
    go_wp2_with fail
    go_quiet ((first | (go_at_call_of 51 (Value.int IntKind.i64 d); exact Calls.quiet_of_same (between_yes _ _ _ _ (by omega) (by omega))) | (go_at_call_of 51 (Value.int IntKind.i64 n); exact Calls.quiet_of_same (between_no2 _ _ _ _ (by omega) (by omega)))))
    go_wp2
    go_ret
    exact ⟨rfl, below_drewN ((Below.refl _ _).alloc (Nat.le_refl _) _) _⟩
  · refine sRatOK_gcd n d (Int.gcd n d) w h1 h2 h3 h4 (hid ?_) false (by simpa using fun e => h5 (by omega))
    have := RatM.gcd_abs n d
    rw [show ((d.natAbs : Nat) : Int) = d by omega] at this
    rw [this]

/-- a product of parts is small -/
theorem mul_bd (a b B C : Int) (h1 : -B ≤ a) (h2 : a ≤ B) (h3 : -C ≤ b) (h4 : b ≤ C) : -(B * C) ≤ a * b ∧ a * b ≤ B * C := by
  have e : (a * b).natAbs = a.natAbs * b.natAbs := Int.natAbs_mul a b
  have h5 : a.natAbs * b.natAbs ≤ B.natAbs * C.natAbs := Nat.mul_le_mul (by omega) (by omega)
  have h6 : B * C = ((B.natAbs * C.natAbs : Nat) : Int) := by
    rw [Int.natCast_mul, show (B.natAbs : Int) = B by omega, show (C.natAbs : Int) = C by omega]
  omega

theorem mul_bd6 (a b : Int) (h1 : -1000000 ≤ a) (h2 : a ≤ 1000000) (h3 : -1000000 ≤ b) (h4 : b ≤ 1000000) : -1000000000000 ≤ a * b ∧ a * b ≤ 1000000000000 :=
  mul_bd a b 1000000 1000000 h1 h2 h3 h4

end Go.Proofs.Ytoikfjhgeceimab
