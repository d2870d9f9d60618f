import Derived.Test.YtliggcbiiaegeabPj01
namespace Go.Proofs.Ytliggcbiiaegeab
open Go.RowKit

def RatArgs (n d : Int) : Prop := d ≠ 0 ∧ -1000000 ≤ n ∧ n ≤ 1000000 ∧ -1000000 ≤ d ∧ d ≤ 1000000

theorem bad_cases {n d : Int} (h : ¬ RatArgs n d) :
    d = 0 ∨ (d ≠ 0 ∧ n < -1000000) ∨ (d ≠ 0 ∧ -1000000 ≤ n ∧ 1000000 < n) ∨ (d ≠ 0 ∧ -1000000 ≤ n ∧ n ≤ 1000000 ∧ d < -1000000) ∨ (d ≠ 0 ∧ -1000000 ≤ n ∧ n ≤ 1000000 ∧ -1000000 ≤ d ∧ 1000000 < d) := by
  unfold RatArgs at h
  omega

set_option maxHeartbeats 400000 in
theorem iMakeRat_no (n d : Int) (w : World) (h : ¬ RatArgs n d) :
    Calls Try.prog 13 #[.int .i64 n, .int .i64 d] w fun e w' => e = .returned (.agg #[.int .i64 0, .int .i64 0]) ∧ Below w.heap.size w w' := by
  rcases bad_cases h with h | ⟨h0, h⟩ | ⟨h0, h1, h2⟩ | ⟨h0, h1, h2, h3⟩ | ⟨h0, h1, h2, h3, h4⟩
  · subst h
    go_enter Try.func13, Try.ntmps13
    go_wp2
    refine bodyPost_ret (v := .agg #[.int .i64 0, .int .i64 0]) (by simp [results, Try.results13, go_sem]) rfl ⟨rfl, ?_⟩
    go_grown
  · have hne : (d == 0) = false := by simpa using h0
    have hd1 : decide (-1000000 ≤ n) = false := by simp; omega
    go_enter Try.func13, Try.ntmps13
    go_wp2
    refine bodyPost_ret (v := .agg #[.int .i64 0, .int .i64 0]) (by simp [results, Try.results13, go_sem]) rfl ⟨rfl, ?_⟩
    go_grown
  · have hne : (d == 0) = false := by simpa using h0
    have hd1 : decide (n ≤ 1000000) = false := by simp; omega
    go_enter Try.func13, Try.ntmps13
    go_wp2
    refine bodyPost_ret (v := .agg #[.int .i64 0, .int .i64 0]) (by simp [results, Try.results13, go_sem]) rfl ⟨rfl, ?_⟩
    go_grown
  · have hne : (d == 0) = false := by simpa using h0
    have hd1 : decide (-1000000 ≤ d) = false := by simp; omega
    go_enter Try.func13, Try.ntmps13
    go_wp2
    refine bodyPost_ret (v := .agg #[.int .i64 0, .int .i64 0]) (by simp [results, Try.results13, go_sem]) rfl ⟨rfl, ?_⟩
    go_grown
  · have hne : (d == 0) = false := by simpa using h0
    have hd1 : decide (d ≤ 1000000) = false := by simp; omega
    go_enter Try.func13, Try.ntmps13
    go_wp2
    refine bodyPost_ret (v := .agg #[.int .i64 0, .int .i64 0]) (by simp [results, Try.results13, go_sem]) rfl ⟨rfl, ?_⟩
    go_grown

set_option maxHeartbeats 400000 in
theorem sMakeRat_no (n d : Int) (w : World) (h : ¬ RatArgs n d) :
    Calls Try.prog 12 #[.int .i64 n, .int .i64 d] w fun e w' => e = .returned (.agg #[.int .i64 0, .int .i64 0]) ∧ Below w.heap.size w w' := by
  rcases bad_cases h with h | ⟨h0, h⟩ | ⟨h0, h1, h2⟩ | ⟨h0, h1, h2, h3⟩ | ⟨h0, h1, h2, h3, h4⟩
  · subst h
    go_enter Try.func12, Try.ntmps12
    go_wp2
    refine bodyPost_ret (v := .agg #[.int .i64 0, .int .i64 0]) (by simp [results, Try.results12, go_sem]) rfl ⟨rfl, ?_⟩
    go_grown
  · have hne : (d == 0) = false := by simpa using h0
    have hd1 : decide (-1000000 ≤ n) = false := by simp; omega
    go_enter Try.func12, Try.ntmps12
    go_wp2
    refine bodyPost_ret (v := .agg #[.int .i64 0, .int .i64 0]) (by simp [results, Try.results12, go_sem]) rfl ⟨rfl, ?_⟩
    go_grown
  · have hne : (d == 0) = false := by simpa using h0
    have hd1 : decide (n ≤ 1000000) = false := by simp; omega
    go_enter Try.func12, Try.ntmps12
    go_wp2
    refine bodyPost_ret (v := .agg #[.int .i64 0, .int .i64 0]) (by simp [results, Try.results12, go_sem]) rfl ⟨rfl, ?_⟩
    go_grown
  · have hne : (d == 0) = false := by simpa using h0
    have hd1 : decide (-1000000 ≤ d) = false := by simp; omega
    go_enter Try.func12, Try.ntmps12
    go_wp2
    refine bodyPost_ret (v := .agg #[.int .i64 0, .int .i64 0]) (by simp [results, Try.results12, go_sem]) rfl ⟨rfl, ?_⟩
    go_grown
  · have hne : (d == 0) = false := by simpa using h0
    have hd1 : decide (d ≤ 1000000) = false := by simp; omega
    go_enter Try.func12, Try.ntmps12
    go_wp2
    refine bodyPost_ret (v := .agg #[.int .i64 0, .int .i64 0]) (by simp [results, Try.results12, go_sem]) rfl ⟨rfl, ?_⟩
    go_grown

theorem isPart_yes (n : Int) (w : World) (h1 : -1000000 ≤ n) (h2 : n ≤ 1000000) :
    Calls Try.prog 53 #[.int .i64 n] w fun e w' => e = .returned (.bool true) ∧ w' = w := by
  go_enter Try.func53, Try.ntmps53
  go_wp2
  go_ret
  exact ⟨rfl, rfl⟩

set_option maxHeartbeats 400000 in
theorem ratOf_yes (n d : Int) (w : World) (h1 : -1000000 ≤ n) (h2 : n ≤ 1000000) (h3 : -1000000 ≤ d) (h4 : d ≤ 1000000) :
    Calls Try.prog 54 #[.agg #[.int .i64 n, .int .i64 d]] w fun e w' => e = .returned (.agg #[.int .i64 n, .int .i64 d]) ∧ Below w.heap.size w w' := by
  go_enter Try.func54, Try.ntmps54
  go_wp2
  refine bodyPost_ret (v := .agg #[.int .i64 n, .int .i64 d]) (by simp [results, Try.results54, go_sem]) rfl ⟨rfl, ?_⟩
  go_grown

set_option maxHeartbeats 400000 in
theorem iMakeRat_yes (n d : Int) (w : World) (h : RatArgs n d) :
    Calls Try.prog 13 #[.int .i64 n, .int .i64 d] w fun e w' => e = .returned (.agg #[.int .i64 (RatM.frN n d), .int .i64 (RatM.frD n d)]) ∧ Below w.heap.size w w' := by
  obtain ⟨h0, h1, h2, h3, h4⟩ := h
  have hne : (d == 0) = false := by simpa using h0
  have b1 := RatM.frN_abs n d
  have b2 := RatM.frD_abs n d
  go_enter Try.func13, Try.ntmps13
  go_wp2_with (first | (go_at_call 53; refine (isPart_yes _ _ (by assumption) (by assumption)).mono ?_; rintro e w' ⟨rfl, rfl⟩))
  refine (fractionOf_calls n d _ (by omega) (by omega) (by omega) (by omega) h0).mono ?_
  rintro e w1 ⟨rfl, hb1⟩
  go_wp2_with fail
  refine (ratOf_yes _ _ _ (by omega) (by omega) (by omega) (by omega)).mono ?_
  rintro e w2 ⟨rfl, hb2⟩
  have hb := hb1.trans (hb2.mono hb1.size)
  obtain ⟨hc, hf⟩ := bcell hb
  have c0 : w2.cell? ⟨w.heap.size, 0, none⟩ = some (.int .i64 0) := (hc _ 0 (by simp)).trans (by simp [go_sem])
  have c1 : w2.cell? ⟨w.heap.size, 1, none⟩ = some (.int .i64 0) := (hc _ 1 (by simp)).trans (by simp [go_sem])
  go_wp2
  refine bodyPost_ret (v := .agg #[.int .i64 _, .int .i64 _]) (by simp [results, Try.results13, go_sem, c0, c1]) rfl ⟨rfl, ?_⟩
  exact ((below_alloc1 hb).setCell (Nat.le_refl _) _).setCell (Nat.le_refl _) _

theorem abs_calls (n : Int) (w : World) (h1 : -9000000000000000000 ≤ n) (h2 : n ≤ 9000000000000000000) :
    Calls Try.prog 105 #[.int .i64 n] w fun e w' => e = .returned (.int .i64 n.natAbs) ∧ w' = w := by
  by_cases h : n < 0
  · go_enter Try.func105, Try.ntmps105
    go_wp2
    go_ret
    exact ⟨ret_int (by omega), rfl⟩
  · go_enter Try.func105, Try.ntmps105
    go_wp2
    go_ret
    exact ⟨ret_int (by omega), rfl⟩

theorem sgcd_calls : ∀ (k : Nat) (a b : Int) (w : World), b.natAbs < k → 0 ≤ a → a ≤ 9000000000000000000 → 0 ≤ b → b ≤ 9000000000000000000 →
    Calls Try.prog 104 #[.int .i64 a, .int .i64 b] w fun e w' => e = .returned (.int .i64 (Int.gcd a b)) ∧ w' = w
  | 0, _, _, _, h, _, _, _, _ => absurd h (by omega)
  | k + 1, a, b, w, hk, ha, ha', hb, hb' => by
    by_cases h : b = 0
    · subst h
      have hz := hid (RatM.gcd_zero a)
      go_enter Try.func104, Try.ntmps104
      go_wp2
      go_ret
      exact ⟨ret_int (by rw [hz.out]; omega), rfl⟩
    · have hne : (b == 0) = false := by simpa using h
      have hm : a.tmod b = a % b := Int.tmod_eq_emod_of_nonneg ha
      have hlt := RatM.natAbs_tmod_lt a b h
      have hs := RatM.gcd_step a b
      have hnn : 0 ≤ a.tmod b := Int.tmod_nonneg _ ha
      rw [hm] at hlt hs hnn
      clear hm
      have HS := hid hs
      clear hs
      have IH := hid (sgcd_calls k b (a % b) w (by omega) hb hb' hnn (by omega))
      go_enter Try.func104, Try.ntmps104
      go_wp2_with fail
      refine IH.out.mono ?_
      rintro e w' ⟨rfl, rfl⟩
      go_wp2
      go_ret
      exact ⟨ret_int (by rw [HS.out]), rfl⟩


end Go.Proofs.Ytliggcbiiaegeab
