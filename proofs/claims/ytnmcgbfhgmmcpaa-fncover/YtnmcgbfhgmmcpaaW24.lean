import Derived.Test.YtnmcgbfhgmmcpaaW06
namespace Go.Proofs.Ytnmcgbfhgmmcpaa
open Go.RowKit

set_option maxHeartbeats 400000 in
theorem iAdd_yes (a b c d : Int) (w : World) (h : OkR a b) (h' : OkR c d) (hs : OkR (RatM.frN (a * d + c * b) (b * d)) (RatM.frD (a * d + c * b) (b * d))) :
    Calls Try.prog 12 #[.agg #[.int .i64 a, .int .i64 b], .agg #[.int .i64 c, .int .i64 d]] w fun e w' => e = .returned (.agg #[.int .i64 (RatM.frN (a * d + c * b) (b * d)), .int .i64 (RatM.frD (a * d + c * b) (b * d))]) ∧ Below w.heap.size w w' := by
  obtain ⟨⟨m1, m1'⟩, ⟨m2, m2'⟩, m3, m3'⟩ := okR_sum a b c d h h'
  have H := hid h
  have H' := hid h'
  clear h h'
  rw [okR_fr _ _ m3] at hs
  obtain ⟨x, hx⟩ : ∃ x, x = RatM.frN (a * d + c * b) (b * d) := ⟨_, rfl⟩
  obtain ⟨y, hy⟩ : ∃ y, y = RatM.frD (a * d + c * b) (b * d) := ⟨_, rfl⟩
  rw [← hx, ← hy] at hs
  rw [← hx, ← hy]
  obtain ⟨p1, p2, p3, p4⟩ := hs
  have PL : Hid (∀ w, Calls Try.prog 55 #[.agg #[.int .i64 a, .int .i64 b], .agg #[.int .i64 c, .int .i64 d]] w fun e w' => e = .returned (.agg #[.int .i64 x, .int .i64 y]) ∧ Below w.heap.size w w') := by
    intro w
    rw [hx, hy]
    exact plus_calls a b c d w (by omega) (by omega) (by omega) (by omega) (by omega) (by omega) (by omega)
  clear hx hy
  go_enter Try.func12, Try.ntmps12
  go_wp2_with fail
  refine (isRat_yes a b _ H.out).mono ?_
  rintro e w1 ⟨rfl, hb1⟩
  obtain ⟨hc1, hf1⟩ := bcell hb1
  have d0 : w1.cell? ⟨w.heap.size + 1, 0, none⟩ = some (.int .i64 c) := (hc1 _ 0 (by simp)).trans (by simp [go_sem])
  have d1 : w1.cell? ⟨w.heap.size + 1, 1, none⟩ = some (.int .i64 d) := (hc1 _ 1 (by simp)).trans (by simp [go_sem])
  clear hc1 hf1
  go_wp2_with fail
  refine (isRat_yes c d _ H'.out).mono ?_
  rintro e w2 ⟨rfl, hb2⟩
  have hb3 := bt hb1 hb2
  obtain ⟨hc2, hf2⟩ := bcell hb3
  have d2 : w2.cell? ⟨w.heap.size + 1, 0, none⟩ = some (.int .i64 c) := (hc2 _ 0 (by simp)).trans (by simp [go_sem])
  have d3 : w2.cell? ⟨w.heap.size + 1, 1, none⟩ = some (.int .i64 d) := (hc2 _ 1 (by simp)).trans (by simp [go_sem])
  have d4 : w2.cell? ⟨w.heap.size, 0, none⟩ = some (.int .i64 a) := (hc2 _ 0 (by simp; omega)).trans (by simp [go_sem])
  have d5 : w2.cell? ⟨w.heap.size, 1, none⟩ = some (.int .i64 b) := (hc2 _ 1 (by simp; omega)).trans (by simp [go_sem])
  clear hc2 hf2
  go_wp2_with fail
  refine (PL.out _).mono ?_
  rintro e w4 ⟨rfl, hb4⟩
  go_wp2_with fail
  refine (ratOf_yes x y _ p1 p2 p3 p4).mono ?_
  rintro e wE ⟨rfl, hb5⟩
  have hb := bt (bt hb3 hb4) hb5
  obtain ⟨hc, hf⟩ := bcell hb
  have c0 : wE.cell? ⟨w.heap.size + 1 + 1, 0, none⟩ = some (.int .i64 0) := (hc _ 0 (by simp)).trans (by simp [go_sem])
  have c1 : wE.cell? ⟨w.heap.size + 1 + 1, 1, none⟩ = some (.int .i64 0) := (hc _ 1 (by simp)).trans (by simp [go_sem])
  go_wp2
  refine bodyPost_ret (v := .agg #[.int .i64 _, .int .i64 _]) (by simp [results, Try.results12, go_sem, c0, c1]) rfl ⟨rfl, ?_⟩
  exact ((below_alloc3 hb).setCell (by simp; omega) _).setCell (by simp; omega) _

set_option maxHeartbeats 400000 in
theorem iAdd_big (a b c d : Int) (w : World) (h : OkR a b) (h' : OkR c d) (hs : ¬ OkR (RatM.frN (a * d + c * b) (b * d)) (RatM.frD (a * d + c * b) (b * d))) :
    Calls Try.prog 12 #[.agg #[.int .i64 a, .int .i64 b], .agg #[.int .i64 c, .int .i64 d]] w fun e w' => e = .returned (.agg #[.int .i64 0, .int .i64 0]) ∧ Below w.heap.size w w' := by
  obtain ⟨⟨m1, m1'⟩, ⟨m2, m2'⟩, m3, m3'⟩ := okR_sum a b c d h h'
  have H := hid h
  have H' := hid h'
  clear h h'
  rw [okR_fr _ _ m3] at hs
  obtain ⟨x, hx⟩ : ∃ x, x = RatM.frN (a * d + c * b) (b * d) := ⟨_, rfl⟩
  obtain ⟨y, hy⟩ : ∃ y, y = RatM.frD (a * d + c * b) (b * d) := ⟨_, rfl⟩
  rw [← hx, ← hy] at hs
  have HP := hid hs
  clear hs
  have PL : Hid (∀ w, Calls Try.prog 55 #[.agg #[.int .i64 a, .int .i64 b], .agg #[.int .i64 c, .int .i64 d]] w fun e w' => e = .returned (.agg #[.int .i64 x, .int .i64 y]) ∧ Below w.heap.size w w') := by
    intro w
    rw [hx, hy]
    exact plus_calls a b c d w (by omega) (by omega) (by omega) (by omega) (by omega) (by omega) (by omega)
  clear hx hy
  go_enter Try.func12, Try.ntmps12
  go_wp2_with fail
  refine (isRat_yes a b _ H.out).mono ?_
  rintro e w1 ⟨rfl, hb1⟩
  obtain ⟨hc1, hf1⟩ := bcell hb1
  have d0 : w1.cell? ⟨w.heap.size + 1, 0, none⟩ = some (.int .i64 c) := (hc1 _ 0 (by simp)).trans (by simp [go_sem])
  have d1 : w1.cell? ⟨w.heap.size + 1, 1, none⟩ = some (.int .i64 d) := (hc1 _ 1 (by simp)).trans (by simp [go_sem])
  clear hc1 hf1
  go_wp2_with fail
  refine (isRat_yes c d _ H'.out).mono ?_
  rintro e w2 ⟨rfl, hb2⟩
  have hb3 := bt hb1 hb2
  obtain ⟨hc2, hf2⟩ := bcell hb3
  have d2 : w2.cell? ⟨w.heap.size + 1, 0, none⟩ = some (.int .i64 c) := (hc2 _ 0 (by simp)).trans (by simp [go_sem])
  have d3 : w2.cell? ⟨w.heap.size + 1, 1, none⟩ = some (.int .i64 d) := (hc2 _ 1 (by simp)).trans (by simp [go_sem])
  have d4 : w2.cell? ⟨w.heap.size, 0, none⟩ = some (.int .i64 a) := (hc2 _ 0 (by simp; omega)).trans (by simp [go_sem])
  have d5 : w2.cell? ⟨w.heap.size, 1, none⟩ = some (.int .i64 b) := (hc2 _ 1 (by simp; omega)).trans (by simp [go_sem])
  clear hc2 hf2
  go_wp2_with fail
  refine (PL.out _).mono ?_
  rintro e w4 ⟨rfl, hb4⟩
  go_wp2_with fail
  refine (ratOf_no x y _ HP.out).mono ?_
  rintro e wE ⟨rfl, hb5⟩
  have hb := bt (bt hb3 hb4) hb5
  obtain ⟨hc, hf⟩ := bcell hb
  have c0 : wE.cell? ⟨w.heap.size + 1 + 1, 0, none⟩ = some (.int .i64 0) := (hc _ 0 (by simp)).trans (by simp [go_sem])
  have c1 : wE.cell? ⟨w.heap.size + 1 + 1, 1, none⟩ = some (.int .i64 0) := (hc _ 1 (by simp)).trans (by simp [go_sem])
  go_wp2
  refine bodyPost_ret (v := .agg #[.int .i64 _, .int .i64 _]) (by simp [results, Try.results12, go_sem, c0, c1]) rfl ⟨rfl, ?_⟩
  exact ((below_alloc3 hb).setCell (by simp; omega) _).setCell (by simp; omega) _

end Go.Proofs.Ytnmcgbfhgmmcpaa

namespace Go.Proofs.Ytnmcgbfhgmmcpaa
open Go.RowKit

set_option maxHeartbeats 400000 in
theorem toRat_calls (n d : Int) (w : World) :
    Calls Try.prog 68 #[.agg #[.int .i64 n, .int .i64 d]] w fun e w' => e = .returned (.agg #[.int .i64 n, .int .i64 d]) ∧ Below w.heap.size w w' := by
  go_enter Try.func68, Try.ntmps68
  go_wp2
  refine bodyPost_ret (v := .agg #[.int .i64 n, .int .i64 d]) (by simp [results, Try.results68, go_sem]) rfl ⟨rfl, ?_⟩
  go_grown

set_option maxHeartbeats 400000 in
theorem iCmp_no1 (a b c d : Int) (w : World) (h : ¬ OkR a b) :
    Calls Try.prog 11 #[.agg #[.int .i64 a, .int .i64 b], .agg #[.int .i64 c, .int .i64 d]] w fun e w' => e = .returned (.int .i64 (-2)) ∧ Below w.heap.size w w' := by
  have H := hid h
  clear h
  go_enter Try.func11, Try.ntmps11
  go_wp2_with fail
  refine (isRat_no a b _ H.out).mono ?_
  rintro e wE ⟨rfl, hb⟩
  go_wp2
  go_ret
  exact ⟨rfl, below_alloc2 hb⟩

set_option maxHeartbeats 400000 in
theorem iCmp_no2 (a b c d : Int) (w : World) (h : OkR a b) (h' : ¬ OkR c d) :
    Calls Try.prog 11 #[.agg #[.int .i64 a, .int .i64 b], .agg #[.int .i64 c, .int .i64 d]] w fun e w' => e = .returned (.int .i64 (-2)) ∧ Below w.heap.size w w' := by
  have H := hid h
  have H' := hid h'
  clear h h'
  go_enter Try.func11, Try.ntmps11
  go_wp2_with fail
  refine (isRat_yes a b _ H.out).mono ?_
  rintro e w1 ⟨rfl, hb1⟩
  obtain ⟨hc1, hf1⟩ := bcell hb1
  have d0 : w1.cell? ⟨w.heap.size + 1, 0, none⟩ = some (.int .i64 c) := (hc1 _ 0 (by simp)).trans (by simp [go_sem])
  have d1 : w1.cell? ⟨w.heap.size + 1, 1, none⟩ = some (.int .i64 d) := (hc1 _ 1 (by simp)).trans (by simp [go_sem])
  clear hc1 hf1
  go_wp2_with fail
  refine (isRat_no c d _ H'.out).mono ?_
  rintro e wE ⟨rfl, hb2⟩
  go_wp2
  go_ret
  exact ⟨rfl, below_alloc2 (bt hb1 hb2)⟩

set_option maxHeartbeats 400000 in
theorem iCmp_yes (a b c d : Int) (w : World) (h : OkR a b) (h' : OkR c d) :
    Calls Try.prog 11 #[.agg #[.int .i64 a, .int .i64 b], .agg #[.int .i64 c, .int .i64 d]] w fun e w' => e = .returned (.int .i64 (RatM.sgn (a * d - c * b))) ∧ Below w.heap.size w w' := by
  obtain ⟨⟨m1, m1'⟩, ⟨m2, m2'⟩, m3, m3'⟩ := okR_sum a b c d h h'
  have H := hid h
  have H' := hid h'
  clear h h'
  obtain ⟨x, hx⟩ : ∃ x, x = RatM.frN (a * d - c * b) (b * d) := ⟨_, rfl⟩
  obtain ⟨y, hy⟩ : ∃ y, y = RatM.frD (a * d - c * b) (b * d) := ⟨_, rfl⟩
  have PL : Hid (∀ w, Calls Try.prog 53 #[.agg #[.int .i64 a, .int .i64 b], .agg #[.int .i64 c, .int .i64 d]] w fun e w' => e = .returned (.agg #[.int .i64 x, .int .i64 y]) ∧ Below w.heap.size w w') := by
    intro w
    rw [hx, hy]
    exact minus_calls a b c d w (by omega) (by omega) (by omega) (by omega) (by omega) (by omega) (by omega)
  have HR := hid (RatM.sgn_congr x (a * d - c * b) (by rw [hx]; exact RatM.frN_sign (a * d - c * b) (b * d) m3))
  clear hx hy
  go_enter Try.func11, Try.ntmps11
  go_wp2_with fail
  refine (isRat_yes a b _ H.out).mono ?_
  rintro e w1 ⟨rfl, hb1⟩
  obtain ⟨hc1, hf1⟩ := bcell hb1
  have d0 : w1.cell? ⟨w.heap.size + 1, 0, none⟩ = some (.int .i64 c) := (hc1 _ 0 (by simp)).trans (by simp [go_sem])
  have d1 : w1.cell? ⟨w.heap.size + 1, 1, none⟩ = some (.int .i64 d) := (hc1 _ 1 (by simp)).trans (by simp [go_sem])
  clear hc1 hf1
  go_wp2_with fail
  refine (isRat_yes c d _ H'.out).mono ?_
  rintro e w2 ⟨rfl, hb2⟩
  have hb3 := bt hb1 hb2
  obtain ⟨hc2, hf2⟩ := bcell hb3
  have d2 : w2.cell? ⟨w.heap.size + 1, 0, none⟩ = some (.int .i64 c) := (hc2 _ 0 (by simp)).trans (by simp [go_sem])
  have d3 : w2.cell? ⟨w.heap.size + 1, 1, none⟩ = some (.int .i64 d) := (hc2 _ 1 (by simp)).trans (by simp [go_sem])
  have d4 : w2.cell? ⟨w.heap.size, 0, none⟩ = some (.int .i64 a) := (hc2 _ 0 (by simp; omega)).trans (by simp [go_sem])
  have d5 : w2.cell? ⟨w.heap.size, 1, none⟩ = some (.int .i64 b) := (hc2 _ 1 (by simp; omega)).trans (by simp [go_sem])
  clear hc2 hf2
  go_wp2_with fail
  refine (PL.out _).mono ?_
  rintro e w4 ⟨rfl, hb4⟩
  go_wp2_with fail
  refine (sign_calls x y _).mono ?_
  rintro e wE ⟨rfl, hb5⟩
  go_wp2
  go_ret
  exact ⟨ret_int HR.out, below_alloc2 (bt (bt hb3 hb4) hb5)⟩

end Go.Proofs.Ytnmcgbfhgmmcpaa
