import Derived.Test.YtajelomllfcmiabCv05
namespace Go.Proofs.Ytajelomllfcmiab
open Go.RowKit

set_option maxHeartbeats 400000 in
theorem sAdd_yes (a b c d : Int) (w : World) (h : OkR a b) (h' : OkR c d) (hs : OkR (RatM.frN (a * d + c * b) (b * d)) (RatM.frD (a * d + c * b) (b * d))) :
    Calls Try.prog 15 #[.agg #[.int .i64 a, .int .i64 b], .agg #[.int .i64 c, .int .i64 d]] w fun e w' => e = .returned (.agg #[.int .i64 (RatM.frN (a * d + c * b) (b * d)), .int .i64 (RatM.frD (a * d + c * b) (b * d))]) ∧ Below w.heap.size w w' := by
  obtain ⟨⟨m1, m1'⟩, ⟨m2, m2'⟩, m3, m3'⟩ := okR_sum a b c d h h'
  have H := hid h
  have H' := hid h'
  clear h h'
  obtain ⟨x, hx⟩ : ∃ x, x = RatM.frN (a * d + c * b) (b * d) := ⟨_, rfl⟩
  obtain ⟨y, hy⟩ : ∃ y, y = RatM.frD (a * d + c * b) (b * d) := ⟨_, rfl⟩
  rw [← hx, ← hy] at hs
  rw [← hx, ← hy]
  have HP := hid hs
  clear hs
  have PL : Hid (∀ w, Calls Try.prog 57 #[.agg #[.int .i64 a, .int .i64 b], .agg #[.int .i64 c, .int .i64 d]] w fun e w' => e = .returned (.agg #[.int .i64 x, .int .i64 y]) ∧ Below w.heap.size w w') := by
    intro w
    rw [hx, hy]
    exact splus_calls a b c d w (by omega) (by omega) (by omega) (by omega) (by omega) (by omega) (by omega)
  clear hx hy
  go_enter Try.func15, Try.ntmps15
  go_wp2_with fail
  refine (sRatOK_yes a b _ H.out).mono ?_
  rintro e w1 ⟨rfl, hb1⟩
  obtain ⟨hc1, hf1⟩ := bcell hb1
  have d0 : w1.cell? ⟨w.heap.size + 1, 0, none⟩ = some (.int .i64 c) := (hc1 _ 0 (by simp)).trans (by simp [go_sem])
  have d1 : w1.cell? ⟨w.heap.size + 1, 1, none⟩ = some (.int .i64 d) := (hc1 _ 1 (by simp)).trans (by simp [go_sem])
  clear hc1 hf1
  go_wp2_with fail
  refine (sRatOK_yes c d _ H'.out).mono ?_
  rintro e w2 ⟨rfl, hb2⟩
  have hb3 := bt hb1 hb2
  obtain ⟨hc2, hf2⟩ := bcell hb3
  have d2 : w2.cell? ⟨w.heap.size + 1, 0, none⟩ = some (.int .i64 c) := (hc2 _ 0 (by simp)).trans (by simp [go_sem])
  have d3 : w2.cell? ⟨w.heap.size + 1, 1, none⟩ = some (.int .i64 d) := (hc2 _ 1 (by simp)).trans (by simp [go_sem])
  have d4 : w2.cell? ⟨w.heap.size, 0, none⟩ = some (.int .i64 a) := (hc2 _ 0 (by simp; omega)).trans (by simp [go_sem])
  have d5 : w2.cell? ⟨w.heap.size, 1, none⟩ = some (.int .i64 b) := (hc2 _ 1 (by simp; omega)).trans (by simp [go_sem])
  clear hc2 hf2
  go_wp2_with fail
  refine (PL.out _).mono ?_
  rintro e w4 ⟨rfl, hb4⟩
  go_wp2_with fail
  refine (sRatOK_yes x y _ HP.out).mono ?_
  rintro e wE ⟨rfl, hb5⟩
  have hb := bt (bt hb3 hb4) (below_alloc1 hb5)
  obtain ⟨hc, hf⟩ := bcell hb
  have c0 : wE.cell? ⟨w.heap.size + 1 + 1, 0, none⟩ = some (.int .i64 0) := (hc _ 0 (by simp)).trans (by simp [go_sem])
  have c1 : wE.cell? ⟨w.heap.size + 1 + 1, 1, none⟩ = some (.int .i64 0) := (hc _ 1 (by simp)).trans (by simp [go_sem])
  obtain ⟨hc5, hf5⟩ := bcell hb5
  have c2 : wE.cell? ⟨w4.heap.size, 0, none⟩ = some (.int .i64 x) := (hc5 _ 0 (by simp)).trans (by simp [go_sem])
  have c3 : wE.cell? ⟨w4.heap.size, 1, none⟩ = some (.int .i64 y) := (hc5 _ 1 (by simp)).trans (by simp [go_sem])
  clear hc5 hf5
  go_wp2
  refine bodyPost_ret (v := .agg #[.int .i64 _, .int .i64 _]) (by simp [results, Try.results15, go_sem, c0, c1]) rfl ⟨rfl, ?_⟩
  exact ((below_alloc3 hb).setCell (by simp; omega) _).setCell (by simp; omega) _

set_option maxHeartbeats 400000 in
theorem sAdd_big (a b c d : Int) (w : World) (h : OkR a b) (h' : OkR c d) (hs : ¬ OkR (RatM.frN (a * d + c * b) (b * d)) (RatM.frD (a * d + c * b) (b * d))) :
    Calls Try.prog 15 #[.agg #[.int .i64 a, .int .i64 b], .agg #[.int .i64 c, .int .i64 d]] w fun e w' => e = .returned (.agg #[.int .i64 0, .int .i64 0]) ∧ Below w.heap.size w w' := by
  obtain ⟨⟨m1, m1'⟩, ⟨m2, m2'⟩, m3, m3'⟩ := okR_sum a b c d h h'
  have H := hid h
  have H' := hid h'
  clear h h'
  obtain ⟨x, hx⟩ : ∃ x, x = RatM.frN (a * d + c * b) (b * d) := ⟨_, rfl⟩
  obtain ⟨y, hy⟩ : ∃ y, y = RatM.frD (a * d + c * b) (b * d) := ⟨_, rfl⟩
  rw [← hx, ← hy] at hs
  have HP := hid hs
  clear hs
  have PL : Hid (∀ w, Calls Try.prog 57 #[.agg #[.int .i64 a, .int .i64 b], .agg #[.int .i64 c, .int .i64 d]] w fun e w' => e = .returned (.agg #[.int .i64 x, .int .i64 y]) ∧ Below w.heap.size w w') := by
    intro w
    rw [hx, hy]
    exact splus_calls a b c d w (by omega) (by omega) (by omega) (by omega) (by omega) (by omega) (by omega)
  clear hx hy
  go_enter Try.func15, Try.ntmps15
  go_wp2_with fail
  refine (sRatOK_yes a b _ H.out).mono ?_
  rintro e w1 ⟨rfl, hb1⟩
  obtain ⟨hc1, hf1⟩ := bcell hb1
  have d0 : w1.cell? ⟨w.heap.size + 1, 0, none⟩ = some (.int .i64 c) := (hc1 _ 0 (by simp)).trans (by simp [go_sem])
  have d1 : w1.cell? ⟨w.heap.size + 1, 1, none⟩ = some (.int .i64 d) := (hc1 _ 1 (by simp)).trans (by simp [go_sem])
  clear hc1 hf1
  go_wp2_with fail
  refine (sRatOK_yes c d _ H'.out).mono ?_
  rintro e w2 ⟨rfl, hb2⟩
  have hb3 := bt hb1 hb2
  obtain ⟨hc2, hf2⟩ := bcell hb3
  have d2 : w2.cell? ⟨w.heap.size + 1, 0, none⟩ = some (.int .i64 c) := (hc2 _ 0 (by simp)).trans (by simp [go_sem])
  have d3 : w2.cell? ⟨w.heap.size + 1, 1, none⟩ = some (.int .i64 d) := (hc2 _ 1 (by simp)).trans (by simp [go_sem])
  have d4 : w2.cell? ⟨w.heap.size, 0, none⟩ = some (.int .i64 a) := (hc2 _ 0 (by simp; omega)).trans (by simp [go_sem])
  have d5 : w2.cell? ⟨w.heap.size, 1, none⟩ = some (.int .i64 b) := (hc2 _ 1 (by simp; omega)).trans (by simp [go_sem])
  clear hc2 hf2
  go_wp2_with fail
  refine (PL.out _).mono ?_
  rintro e w4 ⟨rfl, hb4⟩
  go_wp2_with fail
  refine (sRatOK_no x y _ HP.out).mono ?_
  rintro e wE ⟨rfl, hb5⟩
  have hb := bt (bt hb3 hb4) (below_alloc1 hb5)
  obtain ⟨hc, hf⟩ := bcell hb
  have c0 : wE.cell? ⟨w.heap.size + 1 + 1, 0, none⟩ = some (.int .i64 0) := (hc _ 0 (by simp)).trans (by simp [go_sem])
  have c1 : wE.cell? ⟨w.heap.size + 1 + 1, 1, none⟩ = some (.int .i64 0) := (hc _ 1 (by simp)).trans (by simp [go_sem])
  obtain ⟨hc5, hf5⟩ := bcell hb5
  have c2 : wE.cell? ⟨w4.heap.size, 0, none⟩ = some (.int .i64 x) := (hc5 _ 0 (by simp)).trans (by simp [go_sem])
  have c3 : wE.cell? ⟨w4.heap.size, 1, none⟩ = some (.int .i64 y) := (hc5 _ 1 (by simp)).trans (by simp [go_sem])
  clear hc5 hf5
  go_wp2
  refine bodyPost_ret (v := .agg #[.int .i64 _, .int .i64 _]) (by simp [results, Try.results15, go_sem, c0, c1]) rfl ⟨rfl, ?_⟩
  exact ((below_alloc3 hb).setCell (by simp; omega) _).setCell (by simp; omega) _

theorem addRat_both (a b c d : Int) : ∃ x y : Int, ∀ w, (Calls Try.prog 15 #[.agg #[.int .i64 a, .int .i64 b], .agg #[.int .i64 c, .int .i64 d]] w fun e w' => e = .returned (.agg #[.int .i64 x, .int .i64 y]) ∧ Below w.heap.size w w') ∧ (Calls Try.prog 17 #[.agg #[.int .i64 a, .int .i64 b], .agg #[.int .i64 c, .int .i64 d]] w fun e w' => e = .returned (.agg #[.int .i64 x, .int .i64 y]) ∧ Below w.heap.size w w') := by
  by_cases h : OkR a b
  · by_cases h' : OkR c d
    · by_cases hs : OkR (RatM.frN (a * d + c * b) (b * d)) (RatM.frD (a * d + c * b) (b * d))
      · exact ⟨_, _, fun w => ⟨sAdd_yes a b c d w h h' hs, iAdd_yes a b c d w h h' hs⟩⟩
      · exact ⟨_, _, fun w => ⟨sAdd_big a b c d w h h' hs, iAdd_big a b c d w h h' hs⟩⟩
    · exact ⟨_, _, fun w => ⟨sAdd_no2 a b c d w h h', iAdd_no2 a b c d w h h'⟩⟩
  · exact ⟨_, _, fun w => ⟨sAdd_no1 a b c d w h, iAdd_no1 a b c d w h⟩⟩

set_option maxHeartbeats 400000 in
theorem toRat_calls (n d : Int) (w : World) :
    Calls Try.prog 16 #[.agg #[.int .i64 n, .int .i64 d]] w fun e w' => e = .returned (.agg #[.int .i64 n, .int .i64 d]) ∧ Below w.heap.size w w' := by
  go_enter Try.func16, Try.ntmps16
  go_wp2
  refine bodyPost_ret (v := .agg #[.int .i64 n, .int .i64 d]) (by simp [results, Try.results16, go_sem]) rfl ⟨rfl, ?_⟩
  go_grown

set_option maxHeartbeats 400000 in
theorem iCmp_no1 (a b c d : Int) (w : World) (h : ¬ OkR a b) :
    Calls Try.prog 19 #[.agg #[.int .i64 a, .int .i64 b], .agg #[.int .i64 c, .int .i64 d]] w fun e w' => e = .returned (.int .i64 (-2)) ∧ Below w.heap.size w w' := by
  have H := hid h
  clear h
  go_enter Try.func19, Try.ntmps19
  go_wp2_with fail
  refine (isRat_no a b _ H.out).mono ?_
  rintro e wE ⟨rfl, hb⟩
  go_wp2
  go_ret
  exact ⟨rfl, below_alloc2 hb⟩

set_option maxHeartbeats 400000 in
theorem iCmp_no2 (a b c d : Int) (w : World) (h : OkR a b) (h' : ¬ OkR c d) :
    Calls Try.prog 19 #[.agg #[.int .i64 a, .int .i64 b], .agg #[.int .i64 c, .int .i64 d]] w fun e w' => e = .returned (.int .i64 (-2)) ∧ Below w.heap.size w w' := by
  have H := hid h
  have H' := hid h'
  clear h h'
  go_enter Try.func19, Try.ntmps19
  go_wp2_with fail
  refine (isRat_yes a b _ H.out).mono ?_
  rintro e w1 ⟨rfl, hb1⟩
  obtain ⟨hc1, hf1⟩ := bcell hb1
  have d0 : w1.cell? ⟨w.heap.size + 1, 0, none⟩ = some (.int .i64 c) := (hc1 _ 0 (by simp)).trans (by simp [go_sem])
  have d1 : w1.cell? ⟨w.heap.size + 1, 1, none⟩ = some (.int .i64 d) := (hc1 _ 1 (by simp)).trans (by simp [go_sem])
  clear hc1 hf1
  go_wp2_with fail
  refine (isRat_no c d _ H'.out).mono ?_
  rintro e wE ⟨rfl, hb2⟩
  go_wp2
  go_ret
  exact ⟨rfl, below_alloc2 (bt hb1 hb2)⟩

set_option maxHeartbeats 400000 in
theorem sCmp_no1 (a b c d : Int) (w : World) (h : ¬ OkR a b) :
    Calls Try.prog 18 #[.agg #[.int .i64 a, .int .i64 b], .agg #[.int .i64 c, .int .i64 d]] w fun e w' => e = .returned (.int .i64 (-2)) ∧ Below w.heap.size w w' := by
  have H := hid h
  clear h
  go_enter Try.func18, Try.ntmps18
  go_wp2_with fail
  refine (sRatOK_no a b _ H.out).mono ?_
  rintro e wE ⟨rfl, hb⟩
  go_wp2
  go_ret
  exact ⟨rfl, below_alloc2 hb⟩

set_option maxHeartbeats 400000 in
theorem sCmp_no2 (a b c d : Int) (w : World) (h : OkR a b) (h' : ¬ OkR c d) :
    Calls Try.prog 18 #[.agg #[.int .i64 a, .int .i64 b], .agg #[.int .i64 c, .int .i64 d]] w fun e w' => e = .returned (.int .i64 (-2)) ∧ Below w.heap.size w w' := by
  have H := hid h
  have H' := hid h'
  clear h h'
  go_enter Try.func18, Try.ntmps18
  go_wp2_with fail
  refine (sRatOK_yes a b _ H.out).mono ?_
  rintro e w1 ⟨rfl, hb1⟩
  obtain ⟨hc1, hf1⟩ := bcell hb1
  have d0 : w1.cell? ⟨w.heap.size + 1, 0, none⟩ = some (.int .i64 c) := (hc1 _ 0 (by simp)).trans (by simp [go_sem])
  have d1 : w1.cell? ⟨w.heap.size + 1, 1, none⟩ = some (.int .i64 d) := (hc1 _ 1 (by simp)).trans (by simp [go_sem])
  clear hc1 hf1
  go_wp2_with fail
  refine (sRatOK_no c d _ H'.out).mono ?_
  rintro e wE ⟨rfl, hb2⟩
  go_wp2
  go_ret
  exact ⟨rfl, below_alloc2 (bt hb1 hb2)⟩

set_option maxHeartbeats 400000 in
theorem iCmp_yes (a b c d : Int) (w : World) (h : OkR a b) (h' : OkR c d) :
    Calls Try.prog 19 #[.agg #[.int .i64 a, .int .i64 b], .agg #[.int .i64 c, .int .i64 d]] w fun e w' => e = .returned (.int .i64 (RatM.sgn (a * d - c * b))) ∧ Below w.heap.size w w' := by
  obtain ⟨⟨m1, m1'⟩, ⟨m2, m2'⟩, m3, m3'⟩ := okR_sum a b c d h h'
  have H := hid h
  have H' := hid h'
  clear h h'
  obtain ⟨x, hx⟩ : ∃ x, x = RatM.frN (a * d - c * b) (b * d) := ⟨_, rfl⟩
  obtain ⟨y, hy⟩ : ∃ y, y = RatM.frD (a * d - c * b) (b * d) := ⟨_, rfl⟩
  have PL : Hid (∀ w, Calls Try.prog 61 #[.agg #[.int .i64 a, .int .i64 b], .agg #[.int .i64 c, .int .i64 d]] w fun e w' => e = .returned (.agg #[.int .i64 x, .int .i64 y]) ∧ Below w.heap.size w w') := by
    intro w
    rw [hx, hy]
    exact minus_calls a b c d w (by omega) (by omega) (by omega) (by omega) (by omega) (by omega) (by omega)
  have HR := hid (RatM.sgn_congr x (a * d - c * b) (by rw [hx]; exact RatM.frN_sign (a * d - c * b) (b * d) m3))
  clear hx hy
  go_enter Try.func19, Try.ntmps19
  go_wp2_with fail
  refine (isRat_yes a b _ H.out).mono ?_
  rintro e w1 ⟨rfl, hb1⟩
  obtain ⟨hc1, hf1⟩ := bcell hb1
  have d0 : w1.cell? ⟨w.heap.size + 1, 0, none⟩ = some (.int .i64 c) := (hc1 _ 0 (by simp)).trans (by simp [go_sem])
  have d1 : w1.cell? ⟨w.heap.size + 1, 1, none⟩ = some (.int .i64 d) := (hc1 _ 1 (by simp)).trans (by simp [go_sem])
  clear hc1 hf1
  go_wp2_with fail
  refine (isRat_yes c d _ H'.out).mono ?_
  rintro e w2 ⟨rfl, hb2⟩
  have hb3 := bt hb1 hb2
  obtain ⟨hc2, hf2⟩ := bcell hb3
  have d2 : w2.cell? ⟨w.heap.size + 1, 0, none⟩ = some (.int .i64 c) := (hc2 _ 0 (by simp)).trans (by simp [go_sem])
  have d3 : w2.cell? ⟨w.heap.size + 1, 1, none⟩ = some (.int .i64 d) := (hc2 _ 1 (by simp)).trans (by simp [go_sem])
  have d4 : w2.cell? ⟨w.heap.size, 0, none⟩ = some (.int .i64 a) := (hc2 _ 0 (by simp; omega)).trans (by simp [go_sem])
  have d5 : w2.cell? ⟨w.heap.size, 1, none⟩ = some (.int .i64 b) := (hc2 _ 1 (by simp; omega)).trans (by simp [go_sem])
  clear hc2 hf2
  go_wp2_with fail
  refine (PL.out _).mono ?_
  rintro e w4 ⟨rfl, hb4⟩
  go_wp2_with fail
  refine (sign_calls x y _).mono ?_
  rintro e wE ⟨rfl, hb5⟩
  go_wp2
  go_ret
  exact ⟨ret_int HR.out, below_alloc2 (bt (bt hb3 hb4) hb5)⟩

set_option maxHeartbeats 400000 in
theorem sCmp_lt (a b c d : Int) (w : World) (h : OkR a b) (h' : OkR c d) (hlt : a * d < c * b) :
    Calls Try.prog 18 #[.agg #[.int .i64 a, .int .i64 b], .agg #[.int .i64 c, .int .i64 d]] w fun e w' => e = .returned (.int .i64 (RatM.sgn (a * d - c * b))) ∧ Below w.heap.size w w' := by
  obtain ⟨⟨m1, m1'⟩, ⟨m2, m2'⟩, m3, m3'⟩ := okR_sum a b c d h h'
  have H := hid h
  have H' := hid h'
  clear h h'
  rw [RatM.sgn_lt _ (by omega)]
  go_enter Try.func18, Try.ntmps18
  go_wp2_with fail
  refine (sRatOK_yes a b _ H.out).mono ?_
  rintro e w1 ⟨rfl, hb1⟩
  obtain ⟨hc1, hf1⟩ := bcell hb1
  have d0 : w1.cell? ⟨w.heap.size + 1, 0, none⟩ = some (.int .i64 c) := (hc1 _ 0 (by simp)).trans (by simp [go_sem])
  have d1 : w1.cell? ⟨w.heap.size + 1, 1, none⟩ = some (.int .i64 d) := (hc1 _ 1 (by simp)).trans (by simp [go_sem])
  clear hc1 hf1
  go_wp2_with fail
  refine (sRatOK_yes c d _ H'.out).mono ?_
  rintro e w2 ⟨rfl, hb2⟩
  have hb3 := bt hb1 hb2
  obtain ⟨hc2, hf2⟩ := bcell hb3
  have d2 : w2.cell? ⟨w.heap.size + 1, 0, none⟩ = some (.int .i64 c) := (hc2 _ 0 (by simp)).trans (by simp [go_sem])
  have d3 : w2.cell? ⟨w.heap.size + 1, 1, none⟩ = some (.int .i64 d) := (hc2 _ 1 (by simp)).trans (by simp [go_sem])
  have d4 : w2.cell? ⟨w.heap.size, 0, none⟩ = some (.int .i64 a) := (hc2 _ 0 (by simp; omega)).trans (by simp [go_sem])
  have d5 : w2.cell? ⟨w.heap.size, 1, none⟩ = some (.int .i64 b) := (hc2 _ 1 (by simp; omega)).trans (by simp [go_sem])
  clear hc2 hf2
  go_wp2_with fail
  refine (sless_calls a b c d _ (by omega) (by omega) (by omega) (by omega)).mono ?_
  rintro e w4 ⟨rfl, hb4⟩
  go_wp2
  go_ret
  exact ⟨rfl, below_alloc2 (bt hb3 hb4)⟩

set_option maxHeartbeats 400000 in
theorem sCmp_gt (a b c d : Int) (w : World) (h : OkR a b) (h' : OkR c d) (hgt : c * b < a * d) :
    Calls Try.prog 18 #[.agg #[.int .i64 a, .int .i64 b], .agg #[.int .i64 c, .int .i64 d]] w fun e w' => e = .returned (.int .i64 (RatM.sgn (a * d - c * b))) ∧ Below w.heap.size w w' := by
  obtain ⟨⟨m1, m1'⟩, ⟨m2, m2'⟩, m3, m3'⟩ := okR_sum a b c d h h'
  have H := hid h
  have H' := hid h'
  clear h h'
  rw [RatM.sgn_gt _ (by omega)]
  go_enter Try.func18, Try.ntmps18
  go_wp2_with fail
  refine (sRatOK_yes a b _ H.out).mono ?_
  rintro e w1 ⟨rfl, hb1⟩
  obtain ⟨hc1, hf1⟩ := bcell hb1
  have d0 : w1.cell? ⟨w.heap.size + 1, 0, none⟩ = some (.int .i64 c) := (hc1 _ 0 (by simp)).trans (by simp [go_sem])
  have d1 : w1.cell? ⟨w.heap.size + 1, 1, none⟩ = some (.int .i64 d) := (hc1 _ 1 (by simp)).trans (by simp [go_sem])
  clear hc1 hf1
  go_wp2_with fail
  refine (sRatOK_yes c d _ H'.out).mono ?_
  rintro e w2 ⟨rfl, hb2⟩
  have hb3 := bt hb1 hb2
  obtain ⟨hc2, hf2⟩ := bcell hb3
  have d2 : w2.cell? ⟨w.heap.size + 1, 0, none⟩ = some (.int .i64 c) := (hc2 _ 0 (by simp)).trans (by simp [go_sem])
  have d3 : w2.cell? ⟨w.heap.size + 1, 1, none⟩ = some (.int .i64 d) := (hc2 _ 1 (by simp)).trans (by simp [go_sem])
  have d4 : w2.cell? ⟨w.heap.size, 0, none⟩ = some (.int .i64 a) := (hc2 _ 0 (by simp; omega)).trans (by simp [go_sem])
  have d5 : w2.cell? ⟨w.heap.size, 1, none⟩ = some (.int .i64 b) := (hc2 _ 1 (by simp; omega)).trans (by simp [go_sem])
  clear hc2 hf2
  go_wp2_with fail
  refine (sless_calls a b c d _ (by omega) (by omega) (by omega) (by omega)).mono ?_
  rintro e w4 ⟨rfl, hb4⟩
  obtain ⟨hc4, hf4⟩ := bcell (bt hb3 hb4)
  have e2 : w4.cell? ⟨w.heap.size + 1, 0, none⟩ = some (.int .i64 c) := (hc4 _ 0 (by simp)).trans (by simp [go_sem])
  have e3 : w4.cell? ⟨w.heap.size + 1, 1, none⟩ = some (.int .i64 d) := (hc4 _ 1 (by simp)).trans (by simp [go_sem])
  have e4 : w4.cell? ⟨w.heap.size, 0, none⟩ = some (.int .i64 a) := (hc4 _ 0 (by simp; omega)).trans (by simp [go_sem])
  have e5 : w4.cell? ⟨w.heap.size, 1, none⟩ = some (.int .i64 b) := (hc4 _ 1 (by simp; omega)).trans (by simp [go_sem])
  clear hc4 hf4
  have hd1 : decide (a * d < c * b) = false := by simp; omega
  go_wp2_with fail
  refine (sless_calls c d a b _ (by omega) (by omega) (by omega) (by omega)).mono ?_
  rintro e w5 ⟨rfl, hb5⟩
  go_wp2
  go_ret
  exact ⟨rfl, below_alloc2 (bt (bt hb3 hb4) hb5)⟩

set_option maxHeartbeats 400000 in
theorem sCmp_eq (a b c d : Int) (w : World) (h : OkR a b) (h' : OkR c d) (h1 : c * b ≤ a * d) (h2 : a * d ≤ c * b) :
    Calls Try.prog 18 #[.agg #[.int .i64 a, .int .i64 b], .agg #[.int .i64 c, .int .i64 d]] w fun e w' => e = .returned (.int .i64 (RatM.sgn (a * d - c * b))) ∧ Below w.heap.size w w' := by
  obtain ⟨⟨m1, m1'⟩, ⟨m2, m2'⟩, m3, m3'⟩ := okR_sum a b c d h h'
  have H := hid h
  have H' := hid h'
  clear h h'
  rw [RatM.sgn_eq _ (by omega)]
  go_enter Try.func18, Try.ntmps18
  go_wp2_with fail
  refine (sRatOK_yes a b _ H.out).mono ?_
  rintro e w1 ⟨rfl, hb1⟩
  obtain ⟨hc1, hf1⟩ := bcell hb1
  have d0 : w1.cell? ⟨w.heap.size + 1, 0, none⟩ = some (.int .i64 c) := (hc1 _ 0 (by simp)).trans (by simp [go_sem])
  have d1 : w1.cell? ⟨w.heap.size + 1, 1, none⟩ = some (.int .i64 d) := (hc1 _ 1 (by simp)).trans (by simp [go_sem])
  clear hc1 hf1
  go_wp2_with fail
  refine (sRatOK_yes c d _ H'.out).mono ?_
  rintro e w2 ⟨rfl, hb2⟩
  have hb3 := bt hb1 hb2
  obtain ⟨hc2, hf2⟩ := bcell hb3
  have d2 : w2.cell? ⟨w.heap.size + 1, 0, none⟩ = some (.int .i64 c) := (hc2 _ 0 (by simp)).trans (by simp [go_sem])
  have d3 : w2.cell? ⟨w.heap.size + 1, 1, none⟩ = some (.int .i64 d) := (hc2 _ 1 (by simp)).trans (by simp [go_sem])
  have d4 : w2.cell? ⟨w.heap.size, 0, none⟩ = some (.int .i64 a) := (hc2 _ 0 (by simp; omega)).trans (by simp [go_sem])
  have d5 : w2.cell? ⟨w.heap.size, 1, none⟩ = some (.int .i64 b) := (hc2 _ 1 (by simp; omega)).trans (by simp [go_sem])
  clear hc2 hf2
  go_wp2_with fail
  refine (sless_calls a b c d _ (by omega) (by omega) (by omega) (by omega)).mono ?_
  rintro e w4 ⟨rfl, hb4⟩
  obtain ⟨hc4, hf4⟩ := bcell (bt hb3 hb4)
  have e2 : w4.cell? ⟨w.heap.size + 1, 0, none⟩ = some (.int .i64 c) := (hc4 _ 0 (by simp)).trans (by simp [go_sem])
  have e3 : w4.cell? ⟨w.heap.size + 1, 1, none⟩ = some (.int .i64 d) := (hc4 _ 1 (by simp)).trans (by simp [go_sem])
  have e4 : w4.cell? ⟨w.heap.size, 0, none⟩ = some (.int .i64 a) := (hc4 _ 0 (by simp; omega)).trans (by simp [go_sem])
  have e5 : w4.cell? ⟨w.heap.size, 1, none⟩ = some (.int .i64 b) := (hc4 _ 1 (by simp; omega)).trans (by simp [go_sem])
  clear hc4 hf4
  have hd1 : decide (a * d < c * b) = false := by simp; omega
  go_wp2_with fail
  refine (sless_calls c d a b _ (by omega) (by omega) (by omega) (by omega)).mono ?_
  rintro e w5 ⟨rfl, hb5⟩
  have hd2 : decide (c * b < a * d) = false := by simp; omega
  go_wp2
  go_ret
  exact ⟨rfl, below_alloc2 (bt (bt hb3 hb4) hb5)⟩

theorem sCmp_yes (a b c d : Int) (w : World) (h : OkR a b) (h' : OkR c d) :
    Calls Try.prog 18 #[.agg #[.int .i64 a, .int .i64 b], .agg #[.int .i64 c, .int .i64 d]] w fun e w' => e = .returned (.int .i64 (RatM.sgn (a * d - c * b))) ∧ Below w.heap.size w w' := by
  by_cases h1 : a * d < c * b
  · exact sCmp_lt a b c d w h h' h1
  · by_cases h2 : c * b < a * d
    · exact sCmp_gt a b c d w h h' h2
    · exact sCmp_eq a b c d w h h' (by omega) (by omega)

theorem cmpRat_both (a b c d : Int) : ∃ x : Int, ∀ w, (Calls Try.prog 18 #[.agg #[.int .i64 a, .int .i64 b], .agg #[.int .i64 c, .int .i64 d]] w fun e w' => e = .returned (.int .i64 x) ∧ Below w.heap.size w w') ∧ (Calls Try.prog 19 #[.agg #[.int .i64 a, .int .i64 b], .agg #[.int .i64 c, .int .i64 d]] w fun e w' => e = .returned (.int .i64 x) ∧ Below w.heap.size w w') := by
  by_cases h : OkR a b
  · by_cases h' : OkR c d
    · exact ⟨_, fun w => ⟨sCmp_yes a b c d w h h', iCmp_yes a b c d w h h'⟩⟩
    · exact ⟨_, fun w => ⟨sCmp_no2 a b c d w h h', iCmp_no2 a b c d w h h'⟩⟩
  · exact ⟨_, fun w => ⟨sCmp_no1 a b c d w h, iCmp_no1 a b c d w h⟩⟩

end Go.Proofs.Ytajelomllfcmiab
