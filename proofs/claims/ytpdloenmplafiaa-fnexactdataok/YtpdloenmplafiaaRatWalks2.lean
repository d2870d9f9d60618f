import Derived.Test.YtpdloenmplafiaaRatWalks
namespace Go.Proofs.Ytpdloenmplafiaa
open Go.RowKit

def RatArgs (n d : Int) : Prop := d ≠ 0 ∧ -1000000 ≤ n ∧ n ≤ 1000000 ∧ -1000000 ≤ d ∧ d ≤ 1000000

theorem bad_cases {n d : Int} (h : ¬ RatArgs n d) :
    d = 0 ∨ (d ≠ 0 ∧ n < -1000000) ∨ (d ≠ 0 ∧ -1000000 ≤ n ∧ 1000000 < n) ∨ (d ≠ 0 ∧ -1000000 ≤ n ∧ n ≤ 1000000 ∧ d < -1000000) ∨ (d ≠ 0 ∧ -1000000 ≤ n ∧ n ≤ 1000000 ∧ -1000000 ≤ d ∧ 1000000 < d) := by
  unfold RatArgs at h
  omega

theorem isPart_yes (n : Int) (w : World) (h1 : -1000000 ≤ n) (h2 : n ≤ 1000000) :
    Calls Try.prog 139 #[.int .i64 n] w fun e w' => e = .returned (.bool true) ∧ w' = w := by
  go_enter Try.func139, Try.ntmps139
  go_wp2
  go_ret
  exact ⟨rfl, rfl⟩

set_option maxHeartbeats 400000 in
theorem ratOf_yes (n d : Int) (w : World) (h1 : -1000000 ≤ n) (h2 : n ≤ 1000000) (h3 : -1000000 ≤ d) (h4 : d ≤ 1000000) :
    Calls Try.prog 101 #[.agg #[.int .i64 n, .int .i64 d]] w fun e w' => e = .returned (.agg #[.int .i64 n, .int .i64 d]) ∧ Below w.heap.size w w' := by
  go_enter Try.func101, Try.ntmps101
  go_wp2
  refine bodyPost_ret (v := .agg #[.int .i64 n, .int .i64 d]) (by simp [results, Try.results101, go_sem]) rfl ⟨rfl, ?_⟩
  go_grown

theorem abs_calls (n : Int) (w : World) (h1 : -9000000000000000000 ≤ n) (h2 : n ≤ 9000000000000000000) :
    Calls Try.prog 166 #[.int .i64 n] w fun e w' => e = .returned (.int .i64 n.natAbs) ∧ w' = w := by
  by_cases h : n < 0
  · go_enter Try.func166, Try.ntmps166
    go_wp2
    go_ret
    exact ⟨ret_int (by omega), rfl⟩
  · go_enter Try.func166, Try.ntmps166
    go_wp2
    go_ret
    exact ⟨ret_int (by omega), rfl⟩

theorem sgcd_calls : ∀ (k : Nat) (a b : Int) (w : World), b.natAbs < k → 0 ≤ a → a ≤ 9000000000000000000 → 0 ≤ b → b ≤ 9000000000000000000 →
    Calls Try.prog 165 #[.int .i64 a, .int .i64 b] w fun e w' => e = .returned (.int .i64 (Int.gcd a b)) ∧ w' = w
  | 0, _, _, _, h, _, _, _, _ => absurd h (by omega)
  | k + 1, a, b, w, hk, ha, ha', hb, hb' => by
    by_cases h : b = 0
    · subst h
      have hz := hid (RatM.gcd_zero a)
      go_enter Try.func165, Try.ntmps165
      go_wp2
      go_ret
      exact ⟨ret_int (by rw [hz.out]; omega), rfl⟩
    · have hne : (b == 0) = false := by simpa using h
      have hm : a.tmod b = a % b := Int.tmod_eq_emod_of_nonneg ha
      have hlt := RatM.natAbs_tmod_lt a b h
      have hs := RatM.gcd_step a b
      have hnn : 0 ≤ a.tmod b := Int.tmod_nonneg _ ha
      rw [hm] at hlt hs hnn
      clear hm
      have HS := hid hs
      clear hs
      have IH := hid (sgcd_calls k b (a % b) w (by omega) hb hb' hnn (by omega))
      go_enter Try.func165, Try.ntmps165
      go_wp2_with fail
      refine IH.out.mono ?_
      rintro e w' ⟨rfl, rfl⟩
      go_wp2
      go_ret
      exact ⟨ret_int (by rw [HS.out]), rfl⟩


end Go.Proofs.Ytpdloenmplafiaa
