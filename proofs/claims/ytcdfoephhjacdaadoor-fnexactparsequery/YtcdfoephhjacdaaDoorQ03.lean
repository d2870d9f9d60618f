import Derived.Deep.RegionWith
import Derived.Test.YtcdfoephhjacdaaDoorQ01
namespace Go.Proofs.YtcdfoephhjacdaaDoor
open Go.RowKit

theorem between_no1 (x lo hi : Int) (w : World) (h1 : x < lo) :
    Calls Tryd.prog 68 #[.int .i64 x, .int .i64 lo, .int .i64 hi] w fun e w' => e = .returned (.bool false) ∧ w' = w := by
  have hd : decide (lo ≤ x) = false := by simp; omega
  go_enter Tryd.func68, Tryd.ntmps68
  go_wp2
  go_ret
  exact ⟨rfl, rfl⟩

theorem between_no2 (x lo hi : Int) (w : World) (h1 : lo ≤ x) (h2 : hi < x) :
    Calls Tryd.prog 68 #[.int .i64 x, .int .i64 lo, .int .i64 hi] w fun e w' => e = .returned (.bool false) ∧ w' = w := by
  have hd : decide (x ≤ hi) = false := by simp; omega
  go_enter Tryd.func68, Tryd.ntmps68
  go_wp2
  go_ret
  exact ⟨rfl, rfl⟩

/-- a product of parts is small -/
theorem mul_bd (a b B C : Int) (h1 : -B ≤ a) (h2 : a ≤ B) (h3 : -C ≤ b) (h4 : b ≤ C) : -(B * C) ≤ a * b ∧ a * b ≤ B * C := by
  have e : (a * b).natAbs = a.natAbs * b.natAbs := Int.natAbs_mul a b
  have h5 : a.natAbs * b.natAbs ≤ B.natAbs * C.natAbs := Nat.mul_le_mul (by omega) (by omega)
  have h6 : B * C = ((B.natAbs * C.natAbs : Nat) : Int) := by
    rw [Int.natCast_mul, show (B.natAbs : Int) = B by omega, show (C.natAbs : Int) = C by omega]
  omega

theorem mul_bd6 (a b : Int) (h1 : -1000000 ≤ a) (h2 : a ≤ 1000000) (h3 : -1000000 ≤ b) (h4 : b ≤ 1000000) : -1000000000000 ≤ a * b ∧ a * b ≤ 1000000000000 :=
  mul_bd a b 1000000 1000000 h1 h2 h3 h4

end Go.Proofs.YtcdfoephhjacdaaDoor
