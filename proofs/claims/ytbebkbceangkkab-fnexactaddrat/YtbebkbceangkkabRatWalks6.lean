import Derived.Test.YtbebkbceangkkabRatWalks5
namespace Go.Proofs.Ytbebkbceangkkab
open Go.RowKit

theorem below_alloc3 {w w' : World} {o p q : Obj} (hb : Below (((w.alloc o).alloc p).alloc q).heap.size (((w.alloc o).alloc p).alloc q) w') : Below w.heap.size w w' :=
  ((((Below.refl _ _).alloc (Nat.le_refl _) _).alloc (by simp) _).alloc (by simp; omega) _).trans (hb.mono (by simp; omega))

theorem below_alloc2 {w w' : World} {o p : Obj} (hb : Below ((w.alloc o).alloc p).heap.size ((w.alloc o).alloc p) w') : Below w.heap.size w w' :=
  (((Below.refl _ _).alloc (Nat.le_refl _) _).alloc (by simp) _).trans (hb.mono (by simp; omega))

set_option maxHeartbeats 400000 in
theorem plus_calls (a b c d : Int) (w : World) (m1 : -1000000000000000000 ≤ a * d) (m1' : a * d ≤ 1000000000000000000) (m2 : -1000000000000000000 ≤ c * b) (m2' : c * b ≤ 1000000000000000000) (m3 : -1000000000000000000 ≤ b * d) (m3' : b * d ≤ 1000000000000000000) (h0 : b * d ≠ 0) :
    Calls Try.prog 43 #[.agg #[.int .i64 a, .int .i64 b], .agg #[.int .i64 c, .int .i64 d]] w fun e w' => e = .returned (.agg #[.int .i64 (RatM.frN (a * d + c * b) (b * d)), .int .i64 (RatM.frD (a * d + c * b) (b * d))]) ∧ Below w.heap.size w w' := by
  go_enter Try.func43, Try.ntmps43
  go_wp2_with fail
  refine (fractionOf_calls _ _ _ (by omega) (by omega) (by omega) (by omega) h0).mono ?_
  rintro e w1 ⟨rfl, hb⟩
  obtain ⟨hc, hf⟩ := bcell hb
  have c0 : w1.cell? ⟨w.heap.size + 1 + 1, 0, none⟩ = some (.int .i64 0) := (hc _ 0 (by simp)).trans (by simp [go_sem])
  have c1 : w1.cell? ⟨w.heap.size + 1 + 1, 1, none⟩ = some (.int .i64 0) := (hc _ 1 (by simp)).trans (by simp [go_sem])
  go_wp2
  refine bodyPost_ret (v := .agg #[.int .i64 _, .int .i64 _]) (by simp [results, Try.results43, go_sem, c0, c1]) rfl ⟨rfl, ?_⟩
  exact ((below_alloc3 hb).setCell (by simp; omega) _).setCell (by simp; omega) _

set_option maxHeartbeats 400000 in
theorem splus_calls (a b c d : Int) (w : World) (m1 : -1000000000000000000 ≤ a * d) (m1' : a * d ≤ 1000000000000000000) (m2 : -1000000000000000000 ≤ c * b) (m2' : c * b ≤ 1000000000000000000) (m3 : -1000000000000000000 ≤ b * d) (m3' : b * d ≤ 1000000000000000000) (h0 : b * d ≠ 0) :
    Calls Try.prog 41 #[.agg #[.int .i64 a, .int .i64 b], .agg #[.int .i64 c, .int .i64 d]] w fun e w' => e = .returned (.agg #[.int .i64 (RatM.frN (a * d + c * b) (b * d)), .int .i64 (RatM.frD (a * d + c * b) (b * d))]) ∧ Below w.heap.size w w' := by
  go_enter Try.func41, Try.ntmps41
  go_wp2_with fail
  refine (l1Frac_calls _ _ _ (by omega) (by omega) (by omega) (by omega) h0).mono ?_
  rintro e w1 ⟨rfl, hb⟩
  obtain ⟨hc, hf⟩ := bcell hb
  have c0 : w1.cell? ⟨w.heap.size + 1 + 1, 0, none⟩ = some (.int .i64 0) := (hc _ 0 (by simp)).trans (by simp [go_sem])
  have c1 : w1.cell? ⟨w.heap.size + 1 + 1, 1, none⟩ = some (.int .i64 0) := (hc _ 1 (by simp)).trans (by simp [go_sem])
  go_wp2
  refine bodyPost_ret (v := .agg #[.int .i64 _, .int .i64 _]) (by simp [results, Try.results41, go_sem, c0, c1]) rfl ⟨rfl, ?_⟩
  exact ((below_alloc3 hb).setCell (by simp; omega) _).setCell (by simp; omega) _

set_option maxHeartbeats 400000 in
theorem minus_calls (a b c d : Int) (w : World) (m1 : -1000000000000000000 ≤ a * d) (m1' : a * d ≤ 1000000000000000000) (m2 : -1000000000000000000 ≤ c * b) (m2' : c * b ≤ 1000000000000000000) (m3 : -1000000000000000000 ≤ b * d) (m3' : b * d ≤ 1000000000000000000) (h0 : b * d ≠ 0) :
    Calls Try.prog 45 #[.agg #[.int .i64 a, .int .i64 b], .agg #[.int .i64 c, .int .i64 d]] w fun e w' => e = .returned (.agg #[.int .i64 (RatM.frN (a * d - c * b) (b * d)), .int .i64 (RatM.frD (a * d - c * b) (b * d))]) ∧ Below w.heap.size w w' := by
  go_enter Try.func45, Try.ntmps45
  go_wp2_with fail
  refine (fractionOf_calls _ _ _ (by omega) (by omega) (by omega) (by omega) h0).mono ?_
  rintro e w1 ⟨rfl, hb⟩
  obtain ⟨hc, hf⟩ := bcell hb
  have c0 : w1.cell? ⟨w.heap.size + 1 + 1, 0, none⟩ = some (.int .i64 0) := (hc _ 0 (by simp)).trans (by simp [go_sem])
  have c1 : w1.cell? ⟨w.heap.size + 1 + 1, 1, none⟩ = some (.int .i64 0) := (hc _ 1 (by simp)).trans (by simp [go_sem])
  go_wp2
  refine bodyPost_ret (v := .agg #[.int .i64 _, .int .i64 _]) (by simp [results, Try.results45, go_sem, c0, c1]) rfl ⟨rfl, ?_⟩
  exact ((below_alloc3 hb).setCell (by simp; omega) _).setCell (by simp; omega) _

set_option maxHeartbeats 400000 in
theorem sminus_calls (a b c d : Int) (w : World) (m1 : -1000000000000000000 ≤ a * d) (m1' : a * d ≤ 1000000000000000000) (m2 : -1000000000000000000 ≤ c * b) (m2' : c * b ≤ 1000000000000000000) (m3 : -1000000000000000000 ≤ b * d) (m3' : b * d ≤ 1000000000000000000) (h0 : b * d ≠ 0) :
    Calls Try.prog 85 #[.agg #[.int .i64 a, .int .i64 b], .agg #[.int .i64 c, .int .i64 d]] w fun e w' => e = .returned (.agg #[.int .i64 (RatM.frN (a * d - c * b) (b * d)), .int .i64 (RatM.frD (a * d - c * b) (b * d))]) ∧ Below w.heap.size w w' := by
  go_enter Try.func85, Try.ntmps85
  go_wp2_with fail
  refine (l1Frac_calls _ _ _ (by omega) (by omega) (by omega) (by omega) h0).mono ?_
  rintro e w1 ⟨rfl, hb⟩
  obtain ⟨hc, hf⟩ := bcell hb
  have c0 : w1.cell? ⟨w.heap.size + 1 + 1, 0, none⟩ = some (.int .i64 0) := (hc _ 0 (by simp)).trans (by simp [go_sem])
  have c1 : w1.cell? ⟨w.heap.size + 1 + 1, 1, none⟩ = some (.int .i64 0) := (hc _ 1 (by simp)).trans (by simp [go_sem])
  go_wp2
  refine bodyPost_ret (v := .agg #[.int .i64 _, .int .i64 _]) (by simp [results, Try.results85, go_sem, c0, c1]) rfl ⟨rfl, ?_⟩
  exact ((below_alloc3 hb).setCell (by simp; omega) _).setCell (by simp; omega) _

set_option maxHeartbeats 400000 in
theorem times_calls (a b c d : Int) (w : World) (m1 : -1000000000000000000 ≤ a * c) (m1' : a * c ≤ 1000000000000000000) (m2 : -1000000000000000000 ≤ b * d) (m2' : b * d ≤ 1000000000000000000) (h0 : b * d ≠ 0) :
    Calls Try.prog 116 #[.agg #[.int .i64 a, .int .i64 b], .agg #[.int .i64 c, .int .i64 d]] w fun e w' => e = .returned (.agg #[.int .i64 (RatM.frN (a * c) (b * d)), .int .i64 (RatM.frD (a * c) (b * d))]) ∧ Below w.heap.size w w' := by
  go_enter Try.func116, Try.ntmps116
  go_wp2_with fail
  refine (fractionOf_calls _ _ _ (by omega) (by omega) (by omega) (by omega) h0).mono ?_
  rintro e w1 ⟨rfl, hb⟩
  obtain ⟨hc, hf⟩ := bcell hb
  have c0 : w1.cell? ⟨w.heap.size + 1 + 1, 0, none⟩ = some (.int .i64 0) := (hc _ 0 (by simp)).trans (by simp [go_sem])
  have c1 : w1.cell? ⟨w.heap.size + 1 + 1, 1, none⟩ = some (.int .i64 0) := (hc _ 1 (by simp)).trans (by simp [go_sem])
  go_wp2
  refine bodyPost_ret (v := .agg #[.int .i64 _, .int .i64 _]) (by simp [results, Try.results116, go_sem, c0, c1]) rfl ⟨rfl, ?_⟩
  exact ((below_alloc3 hb).setCell (by simp; omega) _).setCell (by simp; omega) _

set_option maxHeartbeats 400000 in
theorem stimes_calls (a b c d : Int) (w : World) (m1 : -1000000000000000000 ≤ a * c) (m1' : a * c ≤ 1000000000000000000) (m2 : -1000000000000000000 ≤ b * d) (m2' : b * d ≤ 1000000000000000000) (h0 : b * d ≠ 0) :
    Calls Try.prog 86 #[.agg #[.int .i64 a, .int .i64 b], .agg #[.int .i64 c, .int .i64 d]] w fun e w' => e = .returned (.agg #[.int .i64 (RatM.frN (a * c) (b * d)), .int .i64 (RatM.frD (a * c) (b * d))]) ∧ Below w.heap.size w w' := by
  go_enter Try.func86, Try.ntmps86
  go_wp2_with fail
  refine (l1Frac_calls _ _ _ (by omega) (by omega) (by omega) (by omega) h0).mono ?_
  rintro e w1 ⟨rfl, hb⟩
  obtain ⟨hc, hf⟩ := bcell hb
  have c0 : w1.cell? ⟨w.heap.size + 1 + 1, 0, none⟩ = some (.int .i64 0) := (hc _ 0 (by simp)).trans (by simp [go_sem])
  have c1 : w1.cell? ⟨w.heap.size + 1 + 1, 1, none⟩ = some (.int .i64 0) := (hc _ 1 (by simp)).trans (by simp [go_sem])
  go_wp2
  refine bodyPost_ret (v := .agg #[.int .i64 _, .int .i64 _]) (by simp [results, Try.results86, go_sem, c0, c1]) rfl ⟨rfl, ?_⟩
  exact ((below_alloc3 hb).setCell (by simp; omega) _).setCell (by simp; omega) _

set_option maxHeartbeats 400000 in
theorem over_calls (a b c d : Int) (w : World) (m1 : -1000000000000000000 ≤ a * d) (m1' : a * d ≤ 1000000000000000000) (m2 : -1000000000000000000 ≤ b * c) (m2' : b * c ≤ 1000000000000000000) (h0 : b * c ≠ 0) :
    Calls Try.prog 115 #[.agg #[.int .i64 a, .int .i64 b], .agg #[.int .i64 c, .int .i64 d]] w fun e w' => e = .returned (.agg #[.int .i64 (RatM.frN (a * d) (b * c)), .int .i64 (RatM.frD (a * d) (b * c))]) ∧ Below w.heap.size w w' := by
  go_enter Try.func115, Try.ntmps115
  go_wp2_with fail
  refine (fractionOf_calls _ _ _ (by omega) (by omega) (by omega) (by omega) h0).mono ?_
  rintro e w1 ⟨rfl, hb⟩
  obtain ⟨hc, hf⟩ := bcell hb
  have c0 : w1.cell? ⟨w.heap.size + 1 + 1, 0, none⟩ = some (.int .i64 0) := (hc _ 0 (by simp)).trans (by simp [go_sem])
  have c1 : w1.cell? ⟨w.heap.size + 1 + 1, 1, none⟩ = some (.int .i64 0) := (hc _ 1 (by simp)).trans (by simp [go_sem])
  go_wp2
  refine bodyPost_ret (v := .agg #[.int .i64 _, .int .i64 _]) (by simp [results, Try.results115, go_sem, c0, c1]) rfl ⟨rfl, ?_⟩
  exact ((below_alloc3 hb).setCell (by simp; omega) _).setCell (by simp; omega) _

set_option maxHeartbeats 400000 in
theorem sover_calls (a b c d : Int) (w : World) (m1 : -1000000000000000000 ≤ a * d) (m1' : a * d ≤ 1000000000000000000) (m2 : -1000000000000000000 ≤ b * c) (m2' : b * c ≤ 1000000000000000000) (h0 : b * c ≠ 0) :
    Calls Try.prog 84 #[.agg #[.int .i64 a, .int .i64 b], .agg #[.int .i64 c, .int .i64 d]] w fun e w' => e = .returned (.agg #[.int .i64 (RatM.frN (a * d) (b * c)), .int .i64 (RatM.frD (a * d) (b * c))]) ∧ Below w.heap.size w w' := by
  go_enter Try.func84, Try.ntmps84
  go_wp2_with fail
  refine (l1Frac_calls _ _ _ (by omega) (by omega) (by omega) (by omega) h0).mono ?_
  rintro e w1 ⟨rfl, hb⟩
  obtain ⟨hc, hf⟩ := bcell hb
  have c0 : w1.cell? ⟨w.heap.size + 1 + 1, 0, none⟩ = some (.int .i64 0) := (hc _ 0 (by simp)).trans (by simp [go_sem])
  have c1 : w1.cell? ⟨w.heap.size + 1 + 1, 1, none⟩ = some (.int .i64 0) := (hc _ 1 (by simp)).trans (by simp [go_sem])
  go_wp2
  refine bodyPost_ret (v := .agg #[.int .i64 _, .int .i64 _]) (by simp [results, Try.results84, go_sem, c0, c1]) rfl ⟨rfl, ?_⟩
  exact ((below_alloc3 hb).setCell (by simp; omega) _).setCell (by simp; omega) _

theorem sign_calls (n d : Int) (w : World) :
    Calls Try.prog 46 #[.agg #[.int .i64 n, .int .i64 d]] w fun e w' => e = .returned (.int .i64 (RatM.sgn n)) ∧ Below w.heap.size w w' := by
  go_enter Try.func46, Try.ntmps46
  go_wp2
  all_goals
    go_ret
    exact ⟨ret_int (by unfold RatM.sgn; repeat' split; all_goals omega), by go_grown⟩

set_option maxHeartbeats 400000 in
theorem sless_calls (a b c d : Int) (w : World) (m1 : -1000000000000000000 ≤ a * d) (m1' : a * d ≤ 1000000000000000000) (m2 : -1000000000000000000 ≤ c * b) (m2' : c * b ≤ 1000000000000000000) :
    Calls Try.prog 44 #[.agg #[.int .i64 a, .int .i64 b], .agg #[.int .i64 c, .int .i64 d]] w fun e w' => e = .returned (.bool (decide (a * d < c * b))) ∧ Below w.heap.size w w' := by
  go_enter Try.func44, Try.ntmps44
  go_wp2
  go_ret
  exact ⟨rfl, by go_grown⟩

end Go.Proofs.Ytbebkbceangkkab
