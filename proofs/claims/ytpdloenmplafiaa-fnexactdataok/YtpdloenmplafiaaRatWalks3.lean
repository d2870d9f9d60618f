import Derived.Test.YtpdloenmplafiaaRatWalks2
namespace Go.Proofs.Ytpdloenmplafiaa
open Go.RowKit

theorem sgcd_at (a b g : Int) (w : World) (ha : 0 ≤ a) (ha' : a ≤ 9000000000000000000) (hb : 0 ≤ b) (hb' : b ≤ 9000000000000000000) (hg : (Int.gcd a b : Int) = g) :
    Calls Try.prog 165 #[.int .i64 a, .int .i64 b] w fun e w' => e = .returned (.int .i64 g) ∧ w' = w := by
  subst hg
  exact sgcd_calls (b.natAbs + 1) a b w (by omega) ha ha' hb hb'

set_option maxHeartbeats 400000 in
theorem l1Frac_calls (n d : Int) (w : World) (hn : -9000000000000000000 ≤ n) (hn' : n ≤ 9000000000000000000) (hd : -9000000000000000000 ≤ d) (hd' : d ≤ 9000000000000000000) (h0 : d ≠ 0) :
    Calls Try.prog 138 #[.int .i64 n, .int .i64 d] w fun e w' => e = .returned (.agg #[.int .i64 (RatM.frN n d), .int .i64 (RatM.frD n d)]) ∧ Below w.heap.size w w' := by
  have hg0 := RatM.gcd_pos n d h0
  have hg1 := RatM.gcd_le n d h0
  obtain ⟨q1, q2⟩ := tdiv_bd n (Int.gcd n d) hn hn'
  obtain ⟨q3, q4⟩ := tdiv_bd d (Int.gcd n d) hd hd'
  have HG : Hid ((Int.gcd (n.natAbs : Int) (d.natAbs : Int) : Int) = (Int.gcd n d : Int)) := by rw [RatM.gcd_abs]; exact rfl
  by_cases hlt : d < 0
  · have e1 : RatM.frN n d = -(n.tdiv (Int.gcd n d)) := by unfold RatM.frN; rw [if_pos hlt, Int.neg_tdiv]
    have e2 : RatM.frD n d = -(d.tdiv (Int.gcd n d)) := by unfold RatM.frD; rw [if_pos hlt, Int.neg_tdiv]
    rw [e1, e2]
    clear e1 e2
    generalize (Int.gcd n d : Int) = g at *
    have hne : (g == 0) = false := by simp; omega
    have hne' : (-g == 0) = false := by simp; omega
    go_enter Try.func138, Try.ntmps138
    go_wp2_with fail
    refine (abs_calls n _ hn hn').mono ?_
    rintro e w1 ⟨rfl, rfl⟩
    go_wp2_with fail
    refine (abs_calls d _ hd hd').mono ?_
    rintro e w1 ⟨rfl, rfl⟩
    go_wp2_with fail
    refine (sgcd_at _ _ g _ (by omega) (by omega) (by omega) (by omega) HG.out).mono ?_
    rintro e w1 ⟨rfl, rfl⟩
    go_wp2
    go_region
    go_wp2
    refine bodyPost_ret (v := .agg #[.int .i64 _, .int .i64 _]) (by simp [results, Try.results138, go_sem]) rfl ⟨rfl, ?_⟩
    go_grown
  · have e1 : RatM.frN n d = n.tdiv (Int.gcd n d) := by unfold RatM.frN; rw [if_neg hlt]
    have e2 : RatM.frD n d = d.tdiv (Int.gcd n d) := by unfold RatM.frD; rw [if_neg hlt]
    rw [e1, e2]
    clear e1 e2
    generalize (Int.gcd n d : Int) = g at *
    have hne : (g == 0) = false := by simp; omega
    have hne' : (-g == 0) = false := by simp; omega
    go_enter Try.func138, Try.ntmps138
    go_wp2_with fail
    refine (abs_calls n _ hn hn').mono ?_
    rintro e w1 ⟨rfl, rfl⟩
    go_wp2_with fail
    refine (abs_calls d _ hd hd').mono ?_
    rintro e w1 ⟨rfl, rfl⟩
    go_wp2_with fail
    refine (sgcd_at _ _ g _ (by omega) (by omega) (by omega) (by omega) HG.out).mono ?_
    rintro e w1 ⟨rfl, rfl⟩
    go_wp2
    go_region
    go_wp2
    refine bodyPost_ret (v := .agg #[.int .i64 _, .int .i64 _]) (by simp [results, Try.results138, go_sem]) rfl ⟨rfl, ?_⟩
    go_grown

theorem between_yes (x lo hi : Int) (w : World) (h1 : lo ≤ x) (h2 : x ≤ hi) :
    Calls Try.prog 63 #[.int .i64 x, .int .i64 lo, .int .i64 hi] w fun e w' => e = .returned (.bool true) ∧ w' = w := by
  go_enter Try.func63, Try.ntmps63
  go_wp2
  go_ret
  exact ⟨rfl, rfl⟩

theorem eqRat_same (n d : Int) (w : World) :
    Calls Try.prog 57 #[.agg #[.int .i64 n, .int .i64 d], .agg #[.int .i64 n, .int .i64 d]] w fun e w' => e = .returned (.bool true) ∧ Below w.heap.size w w' := by
  have hn : (n != n) = false := by simp
  have hd : (d != d) = false := by simp
  go_enter Try.func57, Try.ntmps57
  go_wp2
  go_ret
  exact ⟨rfl, by go_grown⟩

theorem bt {a b c : World} (h : Below a.heap.size a b) (k : Below b.heap.size b c) : Below a.heap.size a c := h.trans (k.mono h.size)

end Go.Proofs.Ytpdloenmplafiaa
