import Derived.Test.YtliggcbiiaegeacEk05
namespace Go.Proofs.Ytliggcbiiaegeac
open Go.RowKit

set_option maxHeartbeats 400000 in
theorem toRat_calls (n d : Int) (w : World) :
    Calls Try.prog 64 #[.agg #[.int .i64 n, .int .i64 d]] w fun e w' => e = .returned (.agg #[.int .i64 n, .int .i64 d]) ∧ Below w.heap.size w w' := by
  go_enter Try.func64, Try.ntmps64
  go_wp2
  refine bodyPost_ret (v := .agg #[.int .i64 n, .int .i64 d]) (by simp [results, Try.results64, go_sem]) rfl ⟨rfl, ?_⟩
  go_grown

set_option maxHeartbeats 400000 in
theorem iCmp_no1 (a b c d : Int) (w : World) (h : ¬ OkR a b) :
    Calls Try.prog 143 #[.agg #[.int .i64 a, .int .i64 b], .agg #[.int .i64 c, .int .i64 d]] w fun e w' => e = .returned (.int .i64 (-2)) ∧ Below w.heap.size w w' := by
  have H := hid h
  clear h
  go_enter Try.func143, Try.ntmps143
  go_wp2_with fail
  refine (isRat_no a b _ H.out).mono ?_
  rintro e wE ⟨rfl, hb⟩
  go_wp2
  go_ret
  exact ⟨rfl, below_alloc2 hb⟩

set_option maxHeartbeats 400000 in
theorem iCmp_no2 (a b c d : Int) (w : World) (h : OkR a b) (h' : ¬ OkR c d) :
    Calls Try.prog 143 #[.agg #[.int .i64 a, .int .i64 b], .agg #[.int .i64 c, .int .i64 d]] w fun e w' => e = .returned (.int .i64 (-2)) ∧ Below w.heap.size w w' := by
  have H := hid h
  have H' := hid h'
  clear h h'
  go_enter Try.func143, Try.ntmps143
  go_wp2_with fail
  refine (isRat_yes a b _ H.out).mono ?_
  rintro e w1 ⟨rfl, hb1⟩
  obtain ⟨hc1, hf1⟩ := bcell hb1
  have d0 : w1.cell? ⟨w.heap.size + 1, 0, none⟩ = some (.int .i64 c) := (hc1 _ 0 (by simp)).trans (by simp [go_sem])
  have d1 : w1.cell? ⟨w.heap.size + 1, 1, none⟩ = some (.int .i64 d) := (hc1 _ 1 (by simp)).trans (by simp [go_sem])
  clear hc1 hf1
  go_wp2_with fail
  refine (isRat_no c d _ H'.out).mono ?_
  rintro e wE ⟨rfl, hb2⟩
  go_wp2
  go_ret
  exact ⟨rfl, below_alloc2 (bt hb1 hb2)⟩

set_option maxHeartbeats 400000 in
theorem iCmp_yes (a b c d : Int) (w : World) (h : OkR a b) (h' : OkR c d) :
    Calls Try.prog 143 #[.agg #[.int .i64 a, .int .i64 b], .agg #[.int .i64 c, .int .i64 d]] w fun e w' => e = .returned (.int .i64 (RatM.sgn (a * d - c * b))) ∧ Below w.heap.size w w' := by
  obtain ⟨⟨m1, m1'⟩, ⟨m2, m2'⟩, m3, m3'⟩ := okR_sum a b c d h h'
  have H := hid h
  have H' := hid h'
  clear h h'
  obtain ⟨x, hx⟩ : ∃ x, x = RatM.frN (a * d - c * b) (b * d) := ⟨_, rfl⟩
  obtain ⟨y, hy⟩ : ∃ y, y = RatM.frD (a * d - c * b) (b * d) := ⟨_, rfl⟩
  have PL : Hid (∀ w, Calls Try.prog 166 #[.agg #[.int .i64 a, .int .i64 b], .agg #[.int .i64 c, .int .i64 d]] w fun e w' => e = .returned (.agg #[.int .i64 x, .int .i64 y]) ∧ Below w.heap.size w w') := by
    intro w
    rw [hx, hy]
    exact minus_calls a b c d w (by omega) (by omega) (by omega) (by omega) (by omega) (by omega) (by omega)
  have HR := hid (RatM.sgn_congr x (a * d - c * b) (by rw [hx]; exact RatM.frN_sign (a * d - c * b) (b * d) m3))
  clear hx hy
  go_enter Try.func143, Try.ntmps143
  go_wp2_with fail
  refine (isRat_yes a b _ H.out).mono ?_
  rintro e w1 ⟨rfl, hb1⟩
  obtain ⟨hc1, hf1⟩ := bcell hb1
  have d0 : w1.cell? ⟨w.heap.size + 1, 0, none⟩ = some (.int .i64 c) := (hc1 _ 0 (by simp)).trans (by simp [go_sem])
  have d1 : w1.cell? ⟨w.heap.size + 1, 1, none⟩ = some (.int .i64 d) := (hc1 _ 1 (by simp)).trans (by simp [go_sem])
  clear hc1 hf1
  go_wp2_with fail
  refine (isRat_yes c d _ H'.out).mono ?_
  rintro e w2 ⟨rfl, hb2⟩
  have hb3 := bt hb1 hb2
  obtain ⟨hc2, hf2⟩ := bcell hb3
  have d2 : w2.cell? ⟨w.heap.size + 1, 0, none⟩ = some (.int .i64 c) := (hc2 _ 0 (by simp)).trans (by simp [go_sem])
  have d3 : w2.cell? ⟨w.heap.size + 1, 1, none⟩ = some (.int .i64 d) := (hc2 _ 1 (by simp)).trans (by simp [go_sem])
  have d4 : w2.cell? ⟨w.heap.size, 0, none⟩ = some (.int .i64 a) := (hc2 _ 0 (by simp; omega)).trans (by simp [go_sem])
  have d5 : w2.cell? ⟨w.heap.size, 1, none⟩ = some (.int .i64 b) := (hc2 _ 1 (by simp; omega)).trans (by simp [go_sem])
  clear hc2 hf2
  go_wp2_with fail
  refine (PL.out _).mono ?_
  rintro e w4 ⟨rfl, hb4⟩
  go_wp2_with fail
  refine (sign_calls x y _).mono ?_
  rintro e wE ⟨rfl, hb5⟩
  go_wp2
  go_ret
  exact ⟨ret_int HR.out, below_alloc2 (bt (bt hb3 hb4) hb5)⟩

end Go.Proofs.Ytliggcbiiaegeac
