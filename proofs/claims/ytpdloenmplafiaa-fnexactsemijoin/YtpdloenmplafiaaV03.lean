import Derived.Test.YtpdloenmplafiaaV01
namespace Go.Proofs.Ytpdloenmplafiaa
open Go.RowKit

def OkR (n d : Int) : Prop := 1 ≤ d ∧ d ≤ 1000000 ∧ -1000000 ≤ n ∧ n ≤ 1000000 ∧ Int.gcd n d = 1

theorem notOk_cases {n d : Int} (h : ¬ OkR n d) : d < 1 ∨ (1 ≤ d ∧ 1000000 < d) ∨ (1 ≤ d ∧ d ≤ 1000000 ∧ n < -1000000) ∨ (1 ≤ d ∧ d ≤ 1000000 ∧ -1000000 ≤ n ∧ 1000000 < n) ∨ (1 ≤ d ∧ d ≤ 1000000 ∧ -1000000 ≤ n ∧ n ≤ 1000000 ∧ ¬ Int.gcd n d = 1) := by
  unfold OkR at h
  omega

theorem isPart_no1 (n : Int) (w : World) (h1 : n < -1000000) :
    Calls Try.prog 139 #[.int .i64 n] w fun e w' => e = .returned (.bool false) ∧ w' = w := by
  have hd : decide (-1000000 ≤ n) = false := by simp; omega
  go_enter Try.func139, Try.ntmps139
  go_wp2
  go_ret
  exact ⟨rfl, rfl⟩

theorem isPart_no2 (n : Int) (w : World) (h1 : -1000000 ≤ n) (h2 : 1000000 < n) :
    Calls Try.prog 139 #[.int .i64 n] w fun e w' => e = .returned (.bool false) ∧ w' = w := by
  have hd : decide (n ≤ 1000000) = false := by simp; omega
  go_enter Try.func139, Try.ntmps139
  go_wp2
  go_ret
  exact ⟨rfl, rfl⟩

set_option maxHeartbeats 400000 in
theorem isRat_yes (n d : Int) (w : World) (h : OkR n d) :
    Calls Try.prog 148 #[.agg #[.int .i64 n, .int .i64 d]] w fun e w' => e = .returned (.bool true) ∧ Below w.heap.size w w' := by
  obtain ⟨h1, h2, h3, h4, h5⟩ := h
  have HG : Hid ((Int.gcd n d : Int) = 1) := by rw [h5]; exact rfl
  clear h5
  go_enter Try.func148, Try.ntmps148
  go_wp2_with (first | (go_at_call 139; refine (isPart_yes _ _ (by assumption) (by assumption)).mono ?_; rintro e w' ⟨rfl, rfl⟩) | (go_at_call 168; refine (gcd_at n d 1 _ (by omega) (by omega) (by omega) (by omega) HG.out).mono ?_; rintro e w' ⟨rfl, hb⟩))
  go_ret
  exact ⟨rfl, below_alloc1 hb⟩

set_option maxHeartbeats 400000 in
theorem isRat_no (n d : Int) (w : World) (h : ¬ OkR n d) :
    Calls Try.prog 148 #[.agg #[.int .i64 n, .int .i64 d]] w fun e w' => e = .returned (.bool false) ∧ Below w.heap.size w w' := by
  rcases notOk_cases h with h1 | ⟨h1, h2⟩ | ⟨h1, h2, h3⟩ | ⟨h1, h2, h3, h4⟩ | ⟨h1, h2, h3, h4, h5⟩
  · have hd : decide (1 ≤ d) = false := by simp; omega
    go_enter Try.func148, Try.ntmps148
    go_wp2
    go_ret
    exact ⟨rfl, by go_grown⟩
  · have hd : decide (d ≤ 1000000) = false := by simp; omega
    go_enter Try.func148, Try.ntmps148
    go_wp2
    go_ret
    exact ⟨rfl, by go_grown⟩
  · go_enter Try.func148, Try.ntmps148
    go_wp2_with (first | (go_at_call 139; refine (isPart_no1 _ _ (by assumption)).mono ?_; rintro e w' ⟨rfl, rfl⟩))
    go_ret
    exact ⟨rfl, by go_grown⟩
  · go_enter Try.func148, Try.ntmps148
    go_wp2_with (first | (go_at_call 139; refine (isPart_no2 _ _ (by assumption) (by assumption)).mono ?_; rintro e w' ⟨rfl, rfl⟩))
    go_ret
    exact ⟨rfl, by go_grown⟩
  · obtain ⟨g, hg⟩ : ∃ g : Int, (Int.gcd n d : Int) = g := ⟨_, rfl⟩
    have hne : (g == 1) = false := by simp; omega
    have HG := hid hg
    clear hg h5
    go_enter Try.func148, Try.ntmps148
    go_wp2_with (first | (go_at_call 139; refine (isPart_yes _ _ (by assumption) (by assumption)).mono ?_; rintro e w' ⟨rfl, rfl⟩) | (go_at_call 168; refine (gcd_at n d g _ (by omega) (by omega) (by omega) (by omega) HG.out).mono ?_; rintro e w' ⟨rfl, hb⟩))
    go_ret
    exact ⟨rfl, below_alloc1 hb⟩

end Go.Proofs.Ytpdloenmplafiaa
