import Derived.Test.YtliggcbiiaegeabPj03
namespace Go.Proofs.Ytliggcbiiaegeab
open Go.RowKit

theorem sgcd_at (a b g : Int) (w : World) (ha : 0 ≤ a) (ha' : a ≤ 9000000000000000000) (hb : 0 ≤ b) (hb' : b ≤ 9000000000000000000) (hg : (Int.gcd a b : Int) = g) :
    Calls Try.prog 104 #[.int .i64 a, .int .i64 b] w fun e w' => e = .returned (.int .i64 g) ∧ w' = w := by
  subst hg
  exact sgcd_calls (b.natAbs + 1) a b w (by omega) ha ha' hb hb'

set_option maxHeartbeats 400000 in
theorem l1Frac_calls (n d : Int) (w : World) (hn : -9000000000000000000 ≤ n) (hn' : n ≤ 9000000000000000000) (hd : -9000000000000000000 ≤ d) (hd' : d ≤ 9000000000000000000) (h0 : d ≠ 0) :
    Calls Try.prog 52 #[.int .i64 n, .int .i64 d] w fun e w' => e = .returned (.agg #[.int .i64 (RatM.frN n d), .int .i64 (RatM.frD n d)]) ∧ Below w.heap.size w w' := by
  have hg0 := RatM.gcd_pos n d h0
  have hg1 := RatM.gcd_le n d h0
  obtain ⟨q1, q2⟩ := tdiv_bd n (Int.gcd n d) hn hn'
  obtain ⟨q3, q4⟩ := tdiv_bd d (Int.gcd n d) hd hd'
  have HG : Hid ((Int.gcd (n.natAbs : Int) (d.natAbs : Int) : Int) = (Int.gcd n d : Int)) := by rw [RatM.gcd_abs]; exact rfl
  by_cases hlt : d < 0
  · have e1 : RatM.frN n d = -(n.tdiv (Int.gcd n d)) := by unfold RatM.frN; rw [if_pos hlt, Int.neg_tdiv]
    have e2 : RatM.frD n d = -(d.tdiv (Int.gcd n d)) := by unfold RatM.frD; rw [if_pos hlt, Int.neg_tdiv]
    rw [e1, e2]
    clear e1 e2
    generalize (Int.gcd n d : Int) = g at *
    have hne : (g == 0) = false := by simp; omega
    have hne' : (-g == 0) = false := by simp; omega
    go_enter Try.func52, Try.ntmps52
    go_wp2_with fail
    refine (abs_calls n _ hn hn').mono ?_
    rintro e w1 ⟨rfl, rfl⟩
    go_wp2_with fail
    refine (abs_calls d _ hd hd').mono ?_
    rintro e w1 ⟨rfl, rfl⟩
    go_wp2_with fail
    refine (sgcd_at _ _ g _ (by omega) (by omega) (by omega) (by omega) HG.out).mono ?_
    rintro e w1 ⟨rfl, rfl⟩
    go_wp2
    go_region
    go_wp2
    refine bodyPost_ret (v := .agg #[.int .i64 _, .int .i64 _]) (by simp [results, Try.results52, go_sem]) rfl ⟨rfl, ?_⟩
    go_grown
  · have e1 : RatM.frN n d = n.tdiv (Int.gcd n d) := by unfold RatM.frN; rw [if_neg hlt]
    have e2 : RatM.frD n d = d.tdiv (Int.gcd n d) := by unfold RatM.frD; rw [if_neg hlt]
    rw [e1, e2]
    clear e1 e2
    generalize (Int.gcd n d : Int) = g at *
    have hne : (g == 0) = false := by simp; omega
    have hne' : (-g == 0) = false := by simp; omega
    go_enter Try.func52, Try.ntmps52
    go_wp2_with fail
    refine (abs_calls n _ hn hn').mono ?_
    rintro e w1 ⟨rfl, rfl⟩
    go_wp2_with fail
    refine (abs_calls d _ hd hd').mono ?_
    rintro e w1 ⟨rfl, rfl⟩
    go_wp2_with fail
    refine (sgcd_at _ _ g _ (by omega) (by omega) (by omega) (by omega) HG.out).mono ?_
    rintro e w1 ⟨rfl, rfl⟩
    go_wp2
    go_region
    go_wp2
    refine bodyPost_ret (v := .agg #[.int .i64 _, .int .i64 _]) (by simp [results, Try.results52, go_sem]) rfl ⟨rfl, ?_⟩
    go_grown

theorem between_yes (x lo hi : Int) (w : World) (h1 : lo ≤ x) (h2 : x ≤ hi) :
    Calls Try.prog 51 #[.int .i64 x, .int .i64 lo, .int .i64 hi] w fun e w' => e = .returned (.bool true) ∧ w' = w := by
  go_enter Try.func51, Try.ntmps51
  go_wp2
  go_ret
  exact ⟨rfl, rfl⟩

set_option maxHeartbeats 400000 in
theorem sMakeRat_yes (n d : Int) (w : World) (h : RatArgs n d) :
    Calls Try.prog 12 #[.int .i64 n, .int .i64 d] w fun e w' => e = .returned (.agg #[.int .i64 (RatM.frN n d), .int .i64 (RatM.frD n d)]) ∧ Below w.heap.size w w' := by
  obtain ⟨h0, h1, h2, h3, h4⟩ := h
  have hne : (d == 0) = false := by simpa using h0
  go_enter Try.func12, Try.ntmps12
  go_wp2_with (first | (go_at_call 51; refine (between_yes _ _ _ _ (by assumption) (by assumption)).mono ?_; rintro e w' ⟨rfl, rfl⟩))
  refine (l1Frac_calls n d _ (by omega) (by omega) (by omega) (by omega) h0).mono ?_
  rintro e w2 ⟨rfl, hb⟩
  obtain ⟨hc, hf⟩ := bcell hb
  have c0 : w2.cell? ⟨w.heap.size, 0, none⟩ = some (.int .i64 0) := (hc _ 0 (by simp)).trans (by simp [go_sem])
  have c1 : w2.cell? ⟨w.heap.size, 1, none⟩ = some (.int .i64 0) := (hc _ 1 (by simp)).trans (by simp [go_sem])
  go_wp2
  refine bodyPost_ret (v := .agg #[.int .i64 _, .int .i64 _]) (by simp [results, Try.results12, go_sem, c0, c1]) rfl ⟨rfl, ?_⟩
  exact ((below_alloc1 hb).setCell (Nat.le_refl _) _).setCell (Nat.le_refl _) _

theorem eqRat_same (n d : Int) (w : World) :
    Calls Try.prog 14 #[.agg #[.int .i64 n, .int .i64 d], .agg #[.int .i64 n, .int .i64 d]] w fun e w' => e = .returned (.bool true) ∧ Below w.heap.size w w' := by
  have hn : (n != n) = false := by simp
  have hd : (d != d) = false := by simp
  go_enter Try.func14, Try.ntmps14
  go_wp2
  go_ret
  exact ⟨rfl, by go_grown⟩

/-- both answer the same -/
theorem makeRat_both (n d : Int) : ∃ x y : Int, ∀ w, (Calls Try.prog 12 #[.int .i64 n, .int .i64 d] w fun e w' => e = .returned (.agg #[.int .i64 x, .int .i64 y]) ∧ Below w.heap.size w w') ∧ (Calls Try.prog 13 #[.int .i64 n, .int .i64 d] w fun e w' => e = .returned (.agg #[.int .i64 x, .int .i64 y]) ∧ Below w.heap.size w w') := by
  by_cases h : RatArgs n d
  · exact ⟨_, _, fun w => ⟨sMakeRat_yes n d w h, iMakeRat_yes n d w h⟩⟩
  · exact ⟨_, _, fun w => ⟨sMakeRat_no n d w h, iMakeRat_no n d w h⟩⟩

theorem bt {a b c : World} (h : Below a.heap.size a b) (k : Below b.heap.size b c) : Below a.heap.size a c := h.trans (k.mono h.size)

set_option maxHeartbeats 400000 in
theorem makeRat_walk (n d : Int) (w : World) :
    Calls Try.prog 3 #[.int .i64 n, .int .i64 d] w fun e w' => e = .returned (.bool true) ∧ Below w.heap.size w w' := by
  obtain ⟨x, y, hh⟩ := makeRat_both n d
  have H := hid hh
  clear hh
  go_enter Try.func3, Try.ntmps3
  go_wp2_with fail
  refine ((H.out _).1).mono ?_
  rintro e w1 ⟨rfl, hb1⟩
  go_wp2_with fail
  refine ((H.out _).2).mono ?_
  rintro e w2 ⟨rfl, hb2⟩
  obtain ⟨hc, hf⟩ := bcell hb2
  have c0 : w2.cell? ⟨w1.heap.size, 0, none⟩ = some (.int .i64 x) := (hc _ 0 (by simp)).trans (by simp [go_sem])
  have c1 : w2.cell? ⟨w1.heap.size, 1, none⟩ = some (.int .i64 y) := (hc _ 1 (by simp)).trans (by simp [go_sem])
  have hz : w1.heap.size < w2.heap.size := by have := hb2.size; simp at this; omega
  clear hc hf
  go_wp2_with fail
  refine (eqRat_same x y _).mono ?_
  rintro e w3 ⟨rfl, hb3⟩
  go_wp2
  go_ret
  exact ⟨rfl, bt (bt hb1 (below_alloc1 hb2)) (below_alloc1 hb3)⟩

end Go.Proofs.Ytliggcbiiaegeab

namespace Go.Proofs.Ytliggcbiiaegeab
open Go.RowKit

def OkR (n d : Int) : Prop := 1 ≤ d ∧ d ≤ 1000000 ∧ -1000000 ≤ n ∧ n ≤ 1000000 ∧ Int.gcd n d = 1

theorem notOk_cases {n d : Int} (h : ¬ OkR n d) : d < 1 ∨ (1 ≤ d ∧ 1000000 < d) ∨ (1 ≤ d ∧ d ≤ 1000000 ∧ n < -1000000) ∨ (1 ≤ d ∧ d ≤ 1000000 ∧ -1000000 ≤ n ∧ 1000000 < n) ∨ (1 ≤ d ∧ d ≤ 1000000 ∧ -1000000 ≤ n ∧ n ≤ 1000000 ∧ ¬ Int.gcd n d = 1) := by
  unfold OkR at h
  omega

theorem isPart_no1 (n : Int) (w : World) (h1 : n < -1000000) :
    Calls Try.prog 53 #[.int .i64 n] w fun e w' => e = .returned (.bool false) ∧ w' = w := by
  have hd : decide (-1000000 ≤ n) = false := by simp; omega
  go_enter Try.func53, Try.ntmps53
  go_wp2
  go_ret
  exact ⟨rfl, rfl⟩

theorem isPart_no2 (n : Int) (w : World) (h1 : -1000000 ≤ n) (h2 : 1000000 < n) :
    Calls Try.prog 53 #[.int .i64 n] w fun e w' => e = .returned (.bool false) ∧ w' = w := by
  have hd : decide (n ≤ 1000000) = false := by simp; omega
  go_enter Try.func53, Try.ntmps53
  go_wp2
  go_ret
  exact ⟨rfl, rfl⟩

set_option maxHeartbeats 400000 in
theorem isRat_yes (n d : Int) (w : World) (h : OkR n d) :
    Calls Try.prog 58 #[.agg #[.int .i64 n, .int .i64 d]] w fun e w' => e = .returned (.bool true) ∧ Below w.heap.size w w' := by
  obtain ⟨h1, h2, h3, h4, h5⟩ := h
  have HG : Hid ((Int.gcd n d : Int) = 1) := by rw [h5]; exact rfl
  clear h5
  go_enter Try.func58, Try.ntmps58
  go_wp2_with (first | (go_at_call 53; refine (isPart_yes _ _ (by assumption) (by assumption)).mono ?_; rintro e w' ⟨rfl, rfl⟩) | (go_at_call 106; refine (gcd_at n d 1 _ (by omega) (by omega) (by omega) (by omega) HG.out).mono ?_; rintro e w' ⟨rfl, hb⟩))
  go_ret
  exact ⟨rfl, below_alloc1 hb⟩

set_option maxHeartbeats 400000 in
theorem isRat_no (n d : Int) (w : World) (h : ¬ OkR n d) :
    Calls Try.prog 58 #[.agg #[.int .i64 n, .int .i64 d]] w fun e w' => e = .returned (.bool false) ∧ Below w.heap.size w w' := by
  rcases notOk_cases h with h1 | ⟨h1, h2⟩ | ⟨h1, h2, h3⟩ | ⟨h1, h2, h3, h4⟩ | ⟨h1, h2, h3, h4, h5⟩
  · have hd : decide (1 ≤ d) = false := by simp; omega
    go_enter Try.func58, Try.ntmps58
    go_wp2
    go_ret
    exact ⟨rfl, by go_grown⟩
  · have hd : decide (d ≤ 1000000) = false := by simp; omega
    go_enter Try.func58, Try.ntmps58
    go_wp2
    go_ret
    exact ⟨rfl, by go_grown⟩
  · go_enter Try.func58, Try.ntmps58
    go_wp2_with (first | (go_at_call 53; refine (isPart_no1 _ _ (by assumption)).mono ?_; rintro e w' ⟨rfl, rfl⟩))
    go_ret
    exact ⟨rfl, by go_grown⟩
  · go_enter Try.func58, Try.ntmps58
    go_wp2_with (first | (go_at_call 53; refine (isPart_no2 _ _ (by assumption) (by assumption)).mono ?_; rintro e w' ⟨rfl, rfl⟩))
    go_ret
    exact ⟨rfl, by go_grown⟩
  · obtain ⟨g, hg⟩ : ∃ g : Int, (Int.gcd n d : Int) = g := ⟨_, rfl⟩
    have hne : (g == 1) = false := by simp; omega
    have HG := hid hg
    clear hg h5
    go_enter Try.func58, Try.ntmps58
    go_wp2_with (first | (go_at_call 53; refine (isPart_yes _ _ (by assumption) (by assumption)).mono ?_; rintro e w' ⟨rfl, rfl⟩) | (go_at_call 106; refine (gcd_at n d g _ (by omega) (by omega) (by omega) (by omega) HG.out).mono ?_; rintro e w' ⟨rfl, hb⟩))
    go_ret
    exact ⟨rfl, below_alloc1 hb⟩

end Go.Proofs.Ytliggcbiiaegeab
