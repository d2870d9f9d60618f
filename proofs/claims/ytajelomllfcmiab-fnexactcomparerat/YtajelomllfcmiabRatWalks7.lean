import Derived.Test.YtajelomllfcmiabRatWalks6
namespace Go.Proofs.Ytajelomllfcmiab
open Go.RowKit

set_option maxHeartbeats 400000 in
theorem ratOf_no (n d : Int) (w : World) (h : ¬ (-1000000 ≤ n ∧ n ≤ 1000000 ∧ -1000000 ≤ d ∧ d ≤ 1000000)) :
    Calls Try.prog 54 #[.agg #[.int .i64 n, .int .i64 d]] w fun e w' => e = .returned (.agg #[.int .i64 0, .int .i64 0]) ∧ Below w.heap.size w w' := by
  have hh : n < -1000000 ∨ (-1000000 ≤ n ∧ 1000000 < n) ∨ (-1000000 ≤ n ∧ n ≤ 1000000 ∧ d < -1000000) ∨ (-1000000 ≤ n ∧ n ≤ 1000000 ∧ -1000000 ≤ d ∧ 1000000 < d) := by omega
  clear h
  rcases hh with h1 | ⟨h1, h2⟩ | ⟨h1, h2, h3⟩ | ⟨h1, h2, h3, h4⟩
  · go_enter Try.func54, Try.ntmps54
    go_wp2_with (first | (go_at_call 53; refine (isPart_no1 _ _ (by assumption)).mono ?_; rintro e w' ⟨rfl, rfl⟩))
    refine bodyPost_ret (v := .agg #[.int .i64 0, .int .i64 0]) (by simp [results, Try.results54, go_sem]) rfl ⟨rfl, ?_⟩
    go_grown
  · go_enter Try.func54, Try.ntmps54
    go_wp2_with (first | (go_at_call 53; refine (isPart_no2 _ _ (by assumption) (by assumption)).mono ?_; rintro e w' ⟨rfl, rfl⟩))
    refine bodyPost_ret (v := .agg #[.int .i64 0, .int .i64 0]) (by simp [results, Try.results54, go_sem]) rfl ⟨rfl, ?_⟩
    go_grown
  · go_enter Try.func54, Try.ntmps54
    go_wp2_with fail
    refine (isPart_yes n _ (by assumption) (by assumption)).mono ?_
    rintro e w' ⟨rfl, rfl⟩
    go_wp2_with fail
    refine (isPart_no1 d _ (by assumption)).mono ?_
    rintro e w' ⟨rfl, rfl⟩
    go_wp2
    refine bodyPost_ret (v := .agg #[.int .i64 0, .int .i64 0]) (by simp [results, Try.results54, go_sem]) rfl ⟨rfl, ?_⟩
    go_grown
  · go_enter Try.func54, Try.ntmps54
    go_wp2_with fail
    refine (isPart_yes n _ (by assumption) (by assumption)).mono ?_
    rintro e w' ⟨rfl, rfl⟩
    go_wp2_with fail
    refine (isPart_no2 d _ (by assumption) (by assumption)).mono ?_
    rintro e w' ⟨rfl, rfl⟩
    go_wp2
    refine bodyPost_ret (v := .agg #[.int .i64 0, .int .i64 0]) (by simp [results, Try.results54, go_sem]) rfl ⟨rfl, ?_⟩
    go_grown

set_option maxHeartbeats 400000 in
theorem iAdd_no1 (a b c d : Int) (w : World) (h : ¬ OkR a b) :
    Calls Try.prog 17 #[.agg #[.int .i64 a, .int .i64 b], .agg #[.int .i64 c, .int .i64 d]] w fun e w' => e = .returned (.agg #[.int .i64 0, .int .i64 0]) ∧ Below w.heap.size w w' := by
  have H := hid h
  clear h
  go_enter Try.func17, Try.ntmps17
  go_wp2_with fail
  refine (isRat_no a b _ H.out).mono ?_
  rintro e wE ⟨rfl, hb⟩
  obtain ⟨hc, hf⟩ := bcell hb
  have c0 : wE.cell? ⟨w.heap.size + 1 + 1, 0, none⟩ = some (.int .i64 0) := (hc _ 0 (by simp)).trans (by simp [go_sem])
  have c1 : wE.cell? ⟨w.heap.size + 1 + 1, 1, none⟩ = some (.int .i64 0) := (hc _ 1 (by simp)).trans (by simp [go_sem])
  go_wp2
  refine bodyPost_ret (v := .agg #[.int .i64 0, .int .i64 0]) (by simp [results, Try.results17, go_sem, c0, c1]) rfl ⟨rfl, ?_⟩
  exact ((below_alloc3 hb).setCell (by simp; omega) _).setCell (by simp; omega) _

set_option maxHeartbeats 400000 in
theorem iAdd_no2 (a b c d : Int) (w : World) (h : OkR a b) (h' : ¬ OkR c d) :
    Calls Try.prog 17 #[.agg #[.int .i64 a, .int .i64 b], .agg #[.int .i64 c, .int .i64 d]] w fun e w' => e = .returned (.agg #[.int .i64 0, .int .i64 0]) ∧ Below w.heap.size w w' := by
  have H := hid h
  have H' := hid h'
  clear h h'
  go_enter Try.func17, Try.ntmps17
  go_wp2_with fail
  refine (isRat_yes a b _ H.out).mono ?_
  rintro e w1 ⟨rfl, hb1⟩
  obtain ⟨hc1, hf1⟩ := bcell hb1
  have d0 : w1.cell? ⟨w.heap.size + 1, 0, none⟩ = some (.int .i64 c) := (hc1 _ 0 (by simp)).trans (by simp [go_sem])
  have d1 : w1.cell? ⟨w.heap.size + 1, 1, none⟩ = some (.int .i64 d) := (hc1 _ 1 (by simp)).trans (by simp [go_sem])
  clear hc1 hf1
  go_wp2_with fail
  refine (isRat_no c d _ H'.out).mono ?_
  rintro e wE ⟨rfl, hb2⟩
  have hb := bt hb1 hb2
  obtain ⟨hc, hf⟩ := bcell hb
  have c0 : wE.cell? ⟨w.heap.size + 1 + 1, 0, none⟩ = some (.int .i64 0) := (hc _ 0 (by simp)).trans (by simp [go_sem])
  have c1 : wE.cell? ⟨w.heap.size + 1 + 1, 1, none⟩ = some (.int .i64 0) := (hc _ 1 (by simp)).trans (by simp [go_sem])
  go_wp2
  refine bodyPost_ret (v := .agg #[.int .i64 0, .int .i64 0]) (by simp [results, Try.results17, go_sem, c0, c1]) rfl ⟨rfl, ?_⟩
  exact ((below_alloc3 hb).setCell (by simp; omega) _).setCell (by simp; omega) _

set_option maxHeartbeats 400000 in
theorem sAdd_no1 (a b c d : Int) (w : World) (h : ¬ OkR a b) :
    Calls Try.prog 15 #[.agg #[.int .i64 a, .int .i64 b], .agg #[.int .i64 c, .int .i64 d]] w fun e w' => e = .returned (.agg #[.int .i64 0, .int .i64 0]) ∧ Below w.heap.size w w' := by
  have H := hid h
  clear h
  go_enter Try.func15, Try.ntmps15
  go_wp2_with fail
  refine (sRatOK_no a b _ H.out).mono ?_
  rintro e wE ⟨rfl, hb⟩
  obtain ⟨hc, hf⟩ := bcell hb
  have c0 : wE.cell? ⟨w.heap.size + 1 + 1, 0, none⟩ = some (.int .i64 0) := (hc _ 0 (by simp)).trans (by simp [go_sem])
  have c1 : wE.cell? ⟨w.heap.size + 1 + 1, 1, none⟩ = some (.int .i64 0) := (hc _ 1 (by simp)).trans (by simp [go_sem])
  go_wp2
  refine bodyPost_ret (v := .agg #[.int .i64 0, .int .i64 0]) (by simp [results, Try.results15, go_sem, c0, c1]) rfl ⟨rfl, ?_⟩
  exact ((below_alloc3 hb).setCell (by simp; omega) _).setCell (by simp; omega) _

set_option maxHeartbeats 400000 in
theorem sAdd_no2 (a b c d : Int) (w : World) (h : OkR a b) (h' : ¬ OkR c d) :
    Calls Try.prog 15 #[.agg #[.int .i64 a, .int .i64 b], .agg #[.int .i64 c, .int .i64 d]] w fun e w' => e = .returned (.agg #[.int .i64 0, .int .i64 0]) ∧ Below w.heap.size w w' := by
  have H := hid h
  have H' := hid h'
  clear h h'
  go_enter Try.func15, Try.ntmps15
  go_wp2_with fail
  refine (sRatOK_yes a b _ H.out).mono ?_
  rintro e w1 ⟨rfl, hb1⟩
  obtain ⟨hc1, hf1⟩ := bcell hb1
  have d0 : w1.cell? ⟨w.heap.size + 1, 0, none⟩ = some (.int .i64 c) := (hc1 _ 0 (by simp)).trans (by simp [go_sem])
  have d1 : w1.cell? ⟨w.heap.size + 1, 1, none⟩ = some (.int .i64 d) := (hc1 _ 1 (by simp)).trans (by simp [go_sem])
  clear hc1 hf1
  go_wp2_with fail
  refine (sRatOK_no c d _ H'.out).mono ?_
  rintro e wE ⟨rfl, hb2⟩
  have hb := bt hb1 hb2
  obtain ⟨hc, hf⟩ := bcell hb
  have c0 : wE.cell? ⟨w.heap.size + 1 + 1, 0, none⟩ = some (.int .i64 0) := (hc _ 0 (by simp)).trans (by simp [go_sem])
  have c1 : wE.cell? ⟨w.heap.size + 1 + 1, 1, none⟩ = some (.int .i64 0) := (hc _ 1 (by simp)).trans (by simp [go_sem])
  go_wp2
  refine bodyPost_ret (v := .agg #[.int .i64 0, .int .i64 0]) (by simp [results, Try.results15, go_sem, c0, c1]) rfl ⟨rfl, ?_⟩
  exact ((below_alloc3 hb).setCell (by simp; omega) _).setCell (by simp; omega) _

theorem okR_sum (a b c d : Int) (h : OkR a b) (h' : OkR c d) :
    (-1000000000000 ≤ a * d ∧ a * d ≤ 1000000000000) ∧ (-1000000000000 ≤ c * b ∧ c * b ≤ 1000000000000) ∧ (0 < b * d ∧ b * d ≤ 1000000000000) := by
  obtain ⟨h1, h2, h3, h4, _⟩ := h
  obtain ⟨k1, k2, k3, k4, _⟩ := h'
  exact ⟨mul_bd6 a d h3 h4 (by omega) k2, mul_bd6 c b k3 k4 (by omega) h2, Int.mul_pos (by omega) (by omega), (mul_bd6 b d (by omega) h2 (by omega) k2).2⟩

theorem okR_fr (n d : Int) (h0 : 0 < d) : OkR (RatM.frN n d) (RatM.frD n d) ↔ (-1000000 ≤ RatM.frN n d ∧ RatM.frN n d ≤ 1000000 ∧ -1000000 ≤ RatM.frD n d ∧ RatM.frD n d ≤ 1000000) := by
  have h1 := RatM.frD_pos n d (by omega)
  have h2 := RatM.fr_coprime n d (by omega)
  unfold OkR
  omega

end Go.Proofs.Ytajelomllfcmiab
