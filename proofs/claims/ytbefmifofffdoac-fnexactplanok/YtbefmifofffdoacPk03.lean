import Derived.Deep.RegionWith
import Derived.Test.YtbefmifofffdoacPk01
namespace Go.Proofs.Ytbefmifofffdoac
open Go.RowKit

theorem between_no1 (x lo hi : Int) (w : World) (h1 : x < lo) :
    Calls Try.prog 59 #[.int .i64 x, .int .i64 lo, .int .i64 hi] w fun e w' => e = .returned (.bool false) ∧ w' = w := by
  have hd : decide (lo ≤ x) = false := by simp; omega
  go_enter Try.func59, Try.ntmps59
  go_wp2
  go_ret
  exact ⟨rfl, rfl⟩

theorem between_no2 (x lo hi : Int) (w : World) (h1 : lo ≤ x) (h2 : hi < x) :
    Calls Try.prog 59 #[.int .i64 x, .int .i64 lo, .int .i64 hi] w fun e w' => e = .returned (.bool false) ∧ w' = w := by
  have hd : decide (x ≤ hi) = false := by simp; omega
  go_enter Try.func59, Try.ntmps59
  go_wp2
  go_ret
  exact ⟨rfl, rfl⟩

/-- a product of parts is small -/
theorem mul_bd (a b B C : Int) (h1 : -B ≤ a) (h2 : a ≤ B) (h3 : -C ≤ b) (h4 : b ≤ C) : -(B * C) ≤ a * b ∧ a * b ≤ B * C := by
  have e : (a * b).natAbs = a.natAbs * b.natAbs := Int.natAbs_mul a b
  have h5 : a.natAbs * b.natAbs ≤ B.natAbs * C.natAbs := Nat.mul_le_mul (by omega) (by omega)
  have h6 : B * C = ((B.natAbs * C.natAbs : Nat) : Int) := by
    rw [Int.natCast_mul, show (B.natAbs : Int) = B by omega, show (C.natAbs : Int) = C by omega]
  omega

theorem mul_bd6 (a b : Int) (h1 : -1000000 ≤ a) (h2 : a ≤ 1000000) (h3 : -1000000 ≤ b) (h4 : b ≤ 1000000) : -1000000000000 ≤ a * b ∧ a * b ≤ 1000000000000 :=
  mul_bd a b 1000000 1000000 h1 h2 h3 h4

end Go.Proofs.Ytbefmifofffdoac

namespace Go.Proofs.Ytbefmifofffdoac
open Go.RowKit

theorem below_alloc3 {w w' : World} {o p q : Obj} (hb : Below (((w.alloc o).alloc p).alloc q).heap.size (((w.alloc o).alloc p).alloc q) w') : Below w.heap.size w w' :=
  ((((Below.refl _ _).alloc (Nat.le_refl _) _).alloc (by simp) _).alloc (by simp; omega) _).trans (hb.mono (by simp; omega))

theorem below_alloc2 {w w' : World} {o p : Obj} (hb : Below ((w.alloc o).alloc p).heap.size ((w.alloc o).alloc p) w') : Below w.heap.size w w' :=
  (((Below.refl _ _).alloc (Nat.le_refl _) _).alloc (by simp) _).trans (hb.mono (by simp; omega))

set_option maxHeartbeats 400000 in
theorem plus_calls (a b c d : Int) (w : World) (m1 : -4500000000000000000 ≤ a * d) (m1' : a * d ≤ 4500000000000000000) (m2 : -4500000000000000000 ≤ c * b) (m2' : c * b ≤ 4500000000000000000) (m3 : -4500000000000000000 ≤ b * d) (m3' : b * d ≤ 4500000000000000000) (h0 : b * d ≠ 0) :
    Calls Try.prog 185 #[.agg #[.int .i64 a, .int .i64 b], .agg #[.int .i64 c, .int .i64 d]] w fun e w' => e = .returned (.agg #[.int .i64 (RatM.frN (a * d + c * b) (b * d)), .int .i64 (RatM.frD (a * d + c * b) (b * d))]) ∧ Below w.heap.size w w' := by
  go_enter Try.func185, Try.ntmps185
  go_wp2_with fail
  refine (fractionOf_calls _ _ _ (by omega) (by omega) (by omega) (by omega) h0).mono ?_
  rintro e w1 ⟨rfl, hb⟩
  obtain ⟨hc, hf⟩ := bcell hb
  have c0 : w1.cell? ⟨w.heap.size + 1 + 1, 0, none⟩ = some (.int .i64 0) := (hc _ 0 (by simp)).trans (by simp [go_sem])
  have c1 : w1.cell? ⟨w.heap.size + 1 + 1, 1, none⟩ = some (.int .i64 0) := (hc _ 1 (by simp)).trans (by simp [go_sem])
  go_wp2
  refine bodyPost_ret (v := .agg #[.int .i64 _, .int .i64 _]) (by simp [results, Try.results185, go_sem, c0, c1]) rfl ⟨rfl, ?_⟩
  exact ((below_alloc3 hb).setCell (by simp; omega) _).setCell (by simp; omega) _

set_option maxHeartbeats 400000 in
theorem splus_calls (a b c d : Int) (w : World) (m1 : -4500000000000000000 ≤ a * d) (m1' : a * d ≤ 4500000000000000000) (m2 : -4500000000000000000 ≤ c * b) (m2' : c * b ≤ 4500000000000000000) (m3 : -4500000000000000000 ≤ b * d) (m3' : b * d ≤ 4500000000000000000) (h0 : b * d ≠ 0) :
    Calls Try.prog 155 #[.agg #[.int .i64 a, .int .i64 b], .agg #[.int .i64 c, .int .i64 d]] w fun e w' => e = .returned (.agg #[.int .i64 (RatM.frN (a * d + c * b) (b * d)), .int .i64 (RatM.frD (a * d + c * b) (b * d))]) ∧ Below w.heap.size w w' := by
  go_enter Try.func155, Try.ntmps155
  go_wp2_with fail
  refine (l1Frac_calls _ _ _ (by omega) (by omega) (by omega) (by omega) h0).mono ?_
  rintro e w1 ⟨rfl, hb⟩
  obtain ⟨hc, hf⟩ := bcell hb
  have c0 : w1.cell? ⟨w.heap.size + 1 + 1, 0, none⟩ = some (.int .i64 0) := (hc _ 0 (by simp)).trans (by simp [go_sem])
  have c1 : w1.cell? ⟨w.heap.size + 1 + 1, 1, none⟩ = some (.int .i64 0) := (hc _ 1 (by simp)).trans (by simp [go_sem])
  go_wp2
  refine bodyPost_ret (v := .agg #[.int .i64 _, .int .i64 _]) (by simp [results, Try.results155, go_sem, c0, c1]) rfl ⟨rfl, ?_⟩
  exact ((below_alloc3 hb).setCell (by simp; omega) _).setCell (by simp; omega) _

set_option maxHeartbeats 400000 in
theorem minus_calls (a b c d : Int) (w : World) (m1 : -4500000000000000000 ≤ a * d) (m1' : a * d ≤ 4500000000000000000) (m2 : -4500000000000000000 ≤ c * b) (m2' : c * b ≤ 4500000000000000000) (m3 : -4500000000000000000 ≤ b * d) (m3' : b * d ≤ 4500000000000000000) (h0 : b * d ≠ 0) :
    Calls Try.prog 166 #[.agg #[.int .i64 a, .int .i64 b], .agg #[.int .i64 c, .int .i64 d]] w fun e w' => e = .returned (.agg #[.int .i64 (RatM.frN (a * d - c * b) (b * d)), .int .i64 (RatM.frD (a * d - c * b) (b * d))]) ∧ Below w.heap.size w w' := by
  go_enter Try.func166, Try.ntmps166
  go_wp2_with fail
  refine (fractionOf_calls _ _ _ (by omega) (by omega) (by omega) (by omega) h0).mono ?_
  rintro e w1 ⟨rfl, hb⟩
  obtain ⟨hc, hf⟩ := bcell hb
  have c0 : w1.cell? ⟨w.heap.size + 1 + 1, 0, none⟩ = some (.int .i64 0) := (hc _ 0 (by simp)).trans (by simp [go_sem])
  have c1 : w1.cell? ⟨w.heap.size + 1 + 1, 1, none⟩ = some (.int .i64 0) := (hc _ 1 (by simp)).trans (by simp [go_sem])
  go_wp2
  refine bodyPost_ret (v := .agg #[.int .i64 _, .int .i64 _]) (by simp [results, Try.results166, go_sem, c0, c1]) rfl ⟨rfl, ?_⟩
  exact ((below_alloc3 hb).setCell (by simp; omega) _).setCell (by simp; omega) _

set_option maxHeartbeats 400000 in
theorem sminus_calls (a b c d : Int) (w : World) (m1 : -4500000000000000000 ≤ a * d) (m1' : a * d ≤ 4500000000000000000) (m2 : -4500000000000000000 ≤ c * b) (m2' : c * b ≤ 4500000000000000000) (m3 : -4500000000000000000 ≤ b * d) (m3' : b * d ≤ 4500000000000000000) (h0 : b * d ≠ 0) :
    Calls Try.prog 174 #[.agg #[.int .i64 a, .int .i64 b], .agg #[.int .i64 c, .int .i64 d]] w fun e w' => e = .returned (.agg #[.int .i64 (RatM.frN (a * d - c * b) (b * d)), .int .i64 (RatM.frD (a * d - c * b) (b * d))]) ∧ Below w.heap.size w w' := by
  go_enter Try.func174, Try.ntmps174
  go_wp2_with fail
  refine (l1Frac_calls _ _ _ (by omega) (by omega) (by omega) (by omega) h0).mono ?_
  rintro e w1 ⟨rfl, hb⟩
  obtain ⟨hc, hf⟩ := bcell hb
  have c0 : w1.cell? ⟨w.heap.size + 1 + 1, 0, none⟩ = some (.int .i64 0) := (hc _ 0 (by simp)).trans (by simp [go_sem])
  have c1 : w1.cell? ⟨w.heap.size + 1 + 1, 1, none⟩ = some (.int .i64 0) := (hc _ 1 (by simp)).trans (by simp [go_sem])
  go_wp2
  refine bodyPost_ret (v := .agg #[.int .i64 _, .int .i64 _]) (by simp [results, Try.results174, go_sem, c0, c1]) rfl ⟨rfl, ?_⟩
  exact ((below_alloc3 hb).setCell (by simp; omega) _).setCell (by simp; omega) _

set_option maxHeartbeats 400000 in
theorem times_calls (a b c d : Int) (w : World) (m1 : -4500000000000000000 ≤ a * c) (m1' : a * c ≤ 4500000000000000000) (m2 : -4500000000000000000 ≤ b * d) (m2' : b * d ≤ 4500000000000000000) (h0 : b * d ≠ 0) :
    Calls Try.prog 207 #[.agg #[.int .i64 a, .int .i64 b], .agg #[.int .i64 c, .int .i64 d]] w fun e w' => e = .returned (.agg #[.int .i64 (RatM.frN (a * c) (b * d)), .int .i64 (RatM.frD (a * c) (b * d))]) ∧ Below w.heap.size w w' := by
  go_enter Try.func207, Try.ntmps207
  go_wp2_with fail
  refine (fractionOf_calls _ _ _ (by omega) (by omega) (by omega) (by omega) h0).mono ?_
  rintro e w1 ⟨rfl, hb⟩
  obtain ⟨hc, hf⟩ := bcell hb
  have c0 : w1.cell? ⟨w.heap.size + 1 + 1, 0, none⟩ = some (.int .i64 0) := (hc _ 0 (by simp)).trans (by simp [go_sem])
  have c1 : w1.cell? ⟨w.heap.size + 1 + 1, 1, none⟩ = some (.int .i64 0) := (hc _ 1 (by simp)).trans (by simp [go_sem])
  go_wp2
  refine bodyPost_ret (v := .agg #[.int .i64 _, .int .i64 _]) (by simp [results, Try.results207, go_sem, c0, c1]) rfl ⟨rfl, ?_⟩
  exact ((below_alloc3 hb).setCell (by simp; omega) _).setCell (by simp; omega) _

set_option maxHeartbeats 400000 in
theorem stimes_calls (a b c d : Int) (w : World) (m1 : -4500000000000000000 ≤ a * c) (m1' : a * c ≤ 4500000000000000000) (m2 : -4500000000000000000 ≤ b * d) (m2' : b * d ≤ 4500000000000000000) (h0 : b * d ≠ 0) :
    Calls Try.prog 175 #[.agg #[.int .i64 a, .int .i64 b], .agg #[.int .i64 c, .int .i64 d]] w fun e w' => e = .returned (.agg #[.int .i64 (RatM.frN (a * c) (b * d)), .int .i64 (RatM.frD (a * c) (b * d))]) ∧ Below w.heap.size w w' := by
  go_enter Try.func175, Try.ntmps175
  go_wp2_with fail
  refine (l1Frac_calls _ _ _ (by omega) (by omega) (by omega) (by omega) h0).mono ?_
  rintro e w1 ⟨rfl, hb⟩
  obtain ⟨hc, hf⟩ := bcell hb
  have c0 : w1.cell? ⟨w.heap.size + 1 + 1, 0, none⟩ = some (.int .i64 0) := (hc _ 0 (by simp)).trans (by simp [go_sem])
  have c1 : w1.cell? ⟨w.heap.size + 1 + 1, 1, none⟩ = some (.int .i64 0) := (hc _ 1 (by simp)).trans (by simp [go_sem])
  go_wp2
  refine bodyPost_ret (v := .agg #[.int .i64 _, .int .i64 _]) (by simp [results, Try.results175, go_sem, c0, c1]) rfl ⟨rfl, ?_⟩
  exact ((below_alloc3 hb).setCell (by simp; omega) _).setCell (by simp; omega) _

set_option maxHeartbeats 400000 in
theorem over_calls (a b c d : Int) (w : World) (m1 : -4500000000000000000 ≤ a * d) (m1' : a * d ≤ 4500000000000000000) (m2 : -4500000000000000000 ≤ b * c) (m2' : b * c ≤ 4500000000000000000) (h0 : b * c ≠ 0) :
    Calls Try.prog 206 #[.agg #[.int .i64 a, .int .i64 b], .agg #[.int .i64 c, .int .i64 d]] w fun e w' => e = .returned (.agg #[.int .i64 (RatM.frN (a * d) (b * c)), .int .i64 (RatM.frD (a * d) (b * c))]) ∧ Below w.heap.size w w' := by
  go_enter Try.func206, Try.ntmps206
  go_wp2_with fail
  refine (fractionOf_calls _ _ _ (by omega) (by omega) (by omega) (by omega) h0).mono ?_
  rintro e w1 ⟨rfl, hb⟩
  obtain ⟨hc, hf⟩ := bcell hb
  have c0 : w1.cell? ⟨w.heap.size + 1 + 1, 0, none⟩ = some (.int .i64 0) := (hc _ 0 (by simp)).trans (by simp [go_sem])
  have c1 : w1.cell? ⟨w.heap.size + 1 + 1, 1, none⟩ = some (.int .i64 0) := (hc _ 1 (by simp)).trans (by simp [go_sem])
  go_wp2
  refine bodyPost_ret (v := .agg #[.int .i64 _, .int .i64 _]) (by simp [results, Try.results206, go_sem, c0, c1]) rfl ⟨rfl, ?_⟩
  exact ((below_alloc3 hb).setCell (by simp; omega) _).setCell (by simp; omega) _

set_option maxHeartbeats 400000 in
theorem sover_calls (a b c d : Int) (w : World) (m1 : -4500000000000000000 ≤ a * d) (m1' : a * d ≤ 4500000000000000000) (m2 : -4500000000000000000 ≤ b * c) (m2' : b * c ≤ 4500000000000000000) (h0 : b * c ≠ 0) :
    Calls Try.prog 173 #[.agg #[.int .i64 a, .int .i64 b], .agg #[.int .i64 c, .int .i64 d]] w fun e w' => e = .returned (.agg #[.int .i64 (RatM.frN (a * d) (b * c)), .int .i64 (RatM.frD (a * d) (b * c))]) ∧ Below w.heap.size w w' := by
  go_enter Try.func173, Try.ntmps173
  go_wp2_with fail
  refine (l1Frac_calls _ _ _ (by omega) (by omega) (by omega) (by omega) h0).mono ?_
  rintro e w1 ⟨rfl, hb⟩
  obtain ⟨hc, hf⟩ := bcell hb
  have c0 : w1.cell? ⟨w.heap.size + 1 + 1, 0, none⟩ = some (.int .i64 0) := (hc _ 0 (by simp)).trans (by simp [go_sem])
  have c1 : w1.cell? ⟨w.heap.size + 1 + 1, 1, none⟩ = some (.int .i64 0) := (hc _ 1 (by simp)).trans (by simp [go_sem])
  go_wp2
  refine bodyPost_ret (v := .agg #[.int .i64 _, .int .i64 _]) (by simp [results, Try.results173, go_sem, c0, c1]) rfl ⟨rfl, ?_⟩
  exact ((below_alloc3 hb).setCell (by simp; omega) _).setCell (by simp; omega) _

theorem sign_calls (n d : Int) (w : World) :
    Calls Try.prog 167 #[.agg #[.int .i64 n, .int .i64 d]] w fun e w' => e = .returned (.int .i64 (RatM.sgn n)) ∧ Below w.heap.size w w' := by
  go_enter Try.func167, Try.ntmps167
  go_wp2
  all_goals
    go_ret
    exact ⟨ret_int (by unfold RatM.sgn; repeat' split; all_goals omega), by go_grown⟩

set_option maxHeartbeats 400000 in
theorem sless_calls (a b c d : Int) (w : World) (m1 : -4500000000000000000 ≤ a * d) (m1' : a * d ≤ 4500000000000000000) (m2 : -4500000000000000000 ≤ c * b) (m2' : c * b ≤ 4500000000000000000) :
    Calls Try.prog 102 #[.agg #[.int .i64 a, .int .i64 b], .agg #[.int .i64 c, .int .i64 d]] w fun e w' => e = .returned (.bool (decide (a * d < c * b))) ∧ Below w.heap.size w w' := by
  go_enter Try.func102, Try.ntmps102
  go_wp2
  go_ret
  exact ⟨rfl, by go_grown⟩

end Go.Proofs.Ytbefmifofffdoac

namespace Go.Proofs.Ytbefmifofffdoac
open Go.RowKit

set_option maxHeartbeats 400000 in
theorem ratOf_no (n d : Int) (w : World) (h : ¬ (-1000000 ≤ n ∧ n ≤ 1000000 ∧ -1000000 ≤ d ∧ d ≤ 1000000)) :
    Calls Try.prog 159 #[.agg #[.int .i64 n, .int .i64 d]] w fun e w' => e = .returned (.agg #[.int .i64 0, .int .i64 0]) ∧ Below w.heap.size w w' := by
  have hh : n < -1000000 ∨ (-1000000 ≤ n ∧ 1000000 < n) ∨ (-1000000 ≤ n ∧ n ≤ 1000000 ∧ d < -1000000) ∨ (-1000000 ≤ n ∧ n ≤ 1000000 ∧ -1000000 ≤ d ∧ 1000000 < d) := by omega
  clear h
  rcases hh with h1 | ⟨h1, h2⟩ | ⟨h1, h2, h3⟩ | ⟨h1, h2, h3, h4⟩
  · go_enter Try.func159, Try.ntmps159
    go_wp2_with (first | (go_at_call 176; refine (isPart_no1 _ _ (by assumption)).mono ?_; rintro e w' ⟨rfl, rfl⟩))
    refine bodyPost_ret (v := .agg #[.int .i64 0, .int .i64 0]) (by simp [results, Try.results159, go_sem]) rfl ⟨rfl, ?_⟩
    go_grown
  · go_enter Try.func159, Try.ntmps159
    go_wp2_with (first | (go_at_call 176; refine (isPart_no2 _ _ (by assumption) (by assumption)).mono ?_; rintro e w' ⟨rfl, rfl⟩))
    refine bodyPost_ret (v := .agg #[.int .i64 0, .int .i64 0]) (by simp [results, Try.results159, go_sem]) rfl ⟨rfl, ?_⟩
    go_grown
  · go_enter Try.func159, Try.ntmps159
    go_wp2_with fail
    refine (isPart_yes n _ (by assumption) (by assumption)).mono ?_
    rintro e w' ⟨rfl, rfl⟩
    go_wp2_with fail
    refine (isPart_no1 d _ (by assumption)).mono ?_
    rintro e w' ⟨rfl, rfl⟩
    go_wp2
    refine bodyPost_ret (v := .agg #[.int .i64 0, .int .i64 0]) (by simp [results, Try.results159, go_sem]) rfl ⟨rfl, ?_⟩
    go_grown
  · go_enter Try.func159, Try.ntmps159
    go_wp2_with fail
    refine (isPart_yes n _ (by assumption) (by assumption)).mono ?_
    rintro e w' ⟨rfl, rfl⟩
    go_wp2_with fail
    refine (isPart_no2 d _ (by assumption) (by assumption)).mono ?_
    rintro e w' ⟨rfl, rfl⟩
    go_wp2
    refine bodyPost_ret (v := .agg #[.int .i64 0, .int .i64 0]) (by simp [results, Try.results159, go_sem]) rfl ⟨rfl, ?_⟩
    go_grown

set_option maxHeartbeats 400000 in
theorem iAdd_no1 (a b c d : Int) (w : World) (h : ¬ OkR a b) :
    Calls Try.prog 164 #[.agg #[.int .i64 a, .int .i64 b], .agg #[.int .i64 c, .int .i64 d]] w fun e w' => e = .returned (.agg #[.int .i64 0, .int .i64 0]) ∧ Below w.heap.size w w' := by
  have H := hid h
  clear h
  go_enter Try.func164, Try.ntmps164
  go_wp2_with fail
  refine (isRat_no a b _ H.out).mono ?_
  rintro e wE ⟨rfl, hb⟩
  obtain ⟨hc, hf⟩ := bcell hb
  have c0 : wE.cell? ⟨w.heap.size + 1 + 1, 0, none⟩ = some (.int .i64 0) := (hc _ 0 (by simp)).trans (by simp [go_sem])
  have c1 : wE.cell? ⟨w.heap.size + 1 + 1, 1, none⟩ = some (.int .i64 0) := (hc _ 1 (by simp)).trans (by simp [go_sem])
  go_wp2
  refine bodyPost_ret (v := .agg #[.int .i64 0, .int .i64 0]) (by simp [results, Try.results164, go_sem, c0, c1]) rfl ⟨rfl, ?_⟩
  exact ((below_alloc3 hb).setCell (by simp; omega) _).setCell (by simp; omega) _

set_option maxHeartbeats 400000 in
theorem iAdd_no2 (a b c d : Int) (w : World) (h : OkR a b) (h' : ¬ OkR c d) :
    Calls Try.prog 164 #[.agg #[.int .i64 a, .int .i64 b], .agg #[.int .i64 c, .int .i64 d]] w fun e w' => e = .returned (.agg #[.int .i64 0, .int .i64 0]) ∧ Below w.heap.size w w' := by
  have H := hid h
  have H' := hid h'
  clear h h'
  go_enter Try.func164, Try.ntmps164
  go_wp2_with fail
  refine (isRat_yes a b _ H.out).mono ?_
  rintro e w1 ⟨rfl, hb1⟩
  obtain ⟨hc1, hf1⟩ := bcell hb1
  have d0 : w1.cell? ⟨w.heap.size + 1, 0, none⟩ = some (.int .i64 c) := (hc1 _ 0 (by simp)).trans (by simp [go_sem])
  have d1 : w1.cell? ⟨w.heap.size + 1, 1, none⟩ = some (.int .i64 d) := (hc1 _ 1 (by simp)).trans (by simp [go_sem])
  clear hc1 hf1
  go_wp2_with fail
  refine (isRat_no c d _ H'.out).mono ?_
  rintro e wE ⟨rfl, hb2⟩
  have hb := bt hb1 hb2
  obtain ⟨hc, hf⟩ := bcell hb
  have c0 : wE.cell? ⟨w.heap.size + 1 + 1, 0, none⟩ = some (.int .i64 0) := (hc _ 0 (by simp)).trans (by simp [go_sem])
  have c1 : wE.cell? ⟨w.heap.size + 1 + 1, 1, none⟩ = some (.int .i64 0) := (hc _ 1 (by simp)).trans (by simp [go_sem])
  go_wp2
  refine bodyPost_ret (v := .agg #[.int .i64 0, .int .i64 0]) (by simp [results, Try.results164, go_sem, c0, c1]) rfl ⟨rfl, ?_⟩
  exact ((below_alloc3 hb).setCell (by simp; omega) _).setCell (by simp; omega) _

theorem okR_sum (a b c d : Int) (h : OkR a b) (h' : OkR c d) :
    (-1000000000000 ≤ a * d ∧ a * d ≤ 1000000000000) ∧ (-1000000000000 ≤ c * b ∧ c * b ≤ 1000000000000) ∧ (0 < b * d ∧ b * d ≤ 1000000000000) := by
  obtain ⟨h1, h2, h3, h4, _⟩ := h
  obtain ⟨k1, k2, k3, k4, _⟩ := h'
  exact ⟨mul_bd6 a d h3 h4 (by omega) k2, mul_bd6 c b k3 k4 (by omega) h2, Int.mul_pos (by omega) (by omega), (mul_bd6 b d (by omega) h2 (by omega) k2).2⟩

theorem okR_fr (n d : Int) (h0 : 0 < d) : OkR (RatM.frN n d) (RatM.frD n d) ↔ (-1000000 ≤ RatM.frN n d ∧ RatM.frN n d ≤ 1000000 ∧ -1000000 ≤ RatM.frD n d ∧ RatM.frD n d ≤ 1000000) := by
  have h1 := RatM.frD_pos n d (by omega)
  have h2 := RatM.fr_coprime n d (by omega)
  unfold OkR
  omega

end Go.Proofs.Ytbefmifofffdoac

namespace Go.Proofs.Ytbefmifofffdoac
open Go.RowKit

set_option maxHeartbeats 400000 in
theorem iAdd_yes (a b c d : Int) (w : World) (h : OkR a b) (h' : OkR c d) (hs : OkR (RatM.frN (a * d + c * b) (b * d)) (RatM.frD (a * d + c * b) (b * d))) :
    Calls Try.prog 164 #[.agg #[.int .i64 a, .int .i64 b], .agg #[.int .i64 c, .int .i64 d]] w fun e w' => e = .returned (.agg #[.int .i64 (RatM.frN (a * d + c * b) (b * d)), .int .i64 (RatM.frD (a * d + c * b) (b * d))]) ∧ Below w.heap.size w w' := by
  obtain ⟨⟨m1, m1'⟩, ⟨m2, m2'⟩, m3, m3'⟩ := okR_sum a b c d h h'
  have H := hid h
  have H' := hid h'
  clear h h'
  rw [okR_fr _ _ m3] at hs
  obtain ⟨x, hx⟩ : ∃ x, x = RatM.frN (a * d + c * b) (b * d) := ⟨_, rfl⟩
  obtain ⟨y, hy⟩ : ∃ y, y = RatM.frD (a * d + c * b) (b * d) := ⟨_, rfl⟩
  rw [← hx, ← hy] at hs
  rw [← hx, ← hy]
  obtain ⟨p1, p2, p3, p4⟩ := hs
  have PL : Hid (∀ w, Calls Try.prog 185 #[.agg #[.int .i64 a, .int .i64 b], .agg #[.int .i64 c, .int .i64 d]] w fun e w' => e = .returned (.agg #[.int .i64 x, .int .i64 y]) ∧ Below w.heap.size w w') := by
    intro w
    rw [hx, hy]
    exact plus_calls a b c d w (by omega) (by omega) (by omega) (by omega) (by omega) (by omega) (by omega)
  clear hx hy
  go_enter Try.func164, Try.ntmps164
  go_wp2_with fail
  refine (isRat_yes a b _ H.out).mono ?_
  rintro e w1 ⟨rfl, hb1⟩
  obtain ⟨hc1, hf1⟩ := bcell hb1
  have d0 : w1.cell? ⟨w.heap.size + 1, 0, none⟩ = some (.int .i64 c) := (hc1 _ 0 (by simp)).trans (by simp [go_sem])
  have d1 : w1.cell? ⟨w.heap.size + 1, 1, none⟩ = some (.int .i64 d) := (hc1 _ 1 (by simp)).trans (by simp [go_sem])
  clear hc1 hf1
  go_wp2_with fail
  refine (isRat_yes c d _ H'.out).mono ?_
  rintro e w2 ⟨rfl, hb2⟩
  have hb3 := bt hb1 hb2
  obtain ⟨hc2, hf2⟩ := bcell hb3
  have d2 : w2.cell? ⟨w.heap.size + 1, 0, none⟩ = some (.int .i64 c) := (hc2 _ 0 (by simp)).trans (by simp [go_sem])
  have d3 : w2.cell? ⟨w.heap.size + 1, 1, none⟩ = some (.int .i64 d) := (hc2 _ 1 (by simp)).trans (by simp [go_sem])
  have d4 : w2.cell? ⟨w.heap.size, 0, none⟩ = some (.int .i64 a) := (hc2 _ 0 (by simp; omega)).trans (by simp [go_sem])
  have d5 : w2.cell? ⟨w.heap.size, 1, none⟩ = some (.int .i64 b) := (hc2 _ 1 (by simp; omega)).trans (by simp [go_sem])
  clear hc2 hf2
  go_wp2_with fail
  refine (PL.out _).mono ?_
  rintro e w4 ⟨rfl, hb4⟩
  go_wp2_with fail
  refine (ratOf_yes x y _ p1 p2 p3 p4).mono ?_
  rintro e wE ⟨rfl, hb5⟩
  have hb := bt (bt hb3 hb4) hb5
  obtain ⟨hc, hf⟩ := bcell hb
  have c0 : wE.cell? ⟨w.heap.size + 1 + 1, 0, none⟩ = some (.int .i64 0) := (hc _ 0 (by simp)).trans (by simp [go_sem])
  have c1 : wE.cell? ⟨w.heap.size + 1 + 1, 1, none⟩ = some (.int .i64 0) := (hc _ 1 (by simp)).trans (by simp [go_sem])
  go_wp2
  refine bodyPost_ret (v := .agg #[.int .i64 _, .int .i64 _]) (by simp [results, Try.results164, go_sem, c0, c1]) rfl ⟨rfl, ?_⟩
  exact ((below_alloc3 hb).setCell (by simp; omega) _).setCell (by simp; omega) _

set_option maxHeartbeats 400000 in
theorem iAdd_big (a b c d : Int) (w : World) (h : OkR a b) (h' : OkR c d) (hs : ¬ OkR (RatM.frN (a * d + c * b) (b * d)) (RatM.frD (a * d + c * b) (b * d))) :
    Calls Try.prog 164 #[.agg #[.int .i64 a, .int .i64 b], .agg #[.int .i64 c, .int .i64 d]] w fun e w' => e = .returned (.agg #[.int .i64 0, .int .i64 0]) ∧ Below w.heap.size w w' := by
  obtain ⟨⟨m1, m1'⟩, ⟨m2, m2'⟩, m3, m3'⟩ := okR_sum a b c d h h'
  have H := hid h
  have H' := hid h'
  clear h h'
  rw [okR_fr _ _ m3] at hs
  obtain ⟨x, hx⟩ : ∃ x, x = RatM.frN (a * d + c * b) (b * d) := ⟨_, rfl⟩
  obtain ⟨y, hy⟩ : ∃ y, y = RatM.frD (a * d + c * b) (b * d) := ⟨_, rfl⟩
  rw [← hx, ← hy] at hs
  have HP := hid hs
  clear hs
  have PL : Hid (∀ w, Calls Try.prog 185 #[.agg #[.int .i64 a, .int .i64 b], .agg #[.int .i64 c, .int .i64 d]] w fun e w' => e = .returned (.agg #[.int .i64 x, .int .i64 y]) ∧ Below w.heap.size w w') := by
    intro w
    rw [hx, hy]
    exact plus_calls a b c d w (by omega) (by omega) (by omega) (by omega) (by omega) (by omega) (by omega)
  clear hx hy
  go_enter Try.func164, Try.ntmps164
  go_wp2_with fail
  refine (isRat_yes a b _ H.out).mono ?_
  rintro e w1 ⟨rfl, hb1⟩
  obtain ⟨hc1, hf1⟩ := bcell hb1
  have d0 : w1.cell? ⟨w.heap.size + 1, 0, none⟩ = some (.int .i64 c) := (hc1 _ 0 (by simp)).trans (by simp [go_sem])
  have d1 : w1.cell? ⟨w.heap.size + 1, 1, none⟩ = some (.int .i64 d) := (hc1 _ 1 (by simp)).trans (by simp [go_sem])
  clear hc1 hf1
  go_wp2_with fail
  refine (isRat_yes c d _ H'.out).mono ?_
  rintro e w2 ⟨rfl, hb2⟩
  have hb3 := bt hb1 hb2
  obtain ⟨hc2, hf2⟩ := bcell hb3
  have d2 : w2.cell? ⟨w.heap.size + 1, 0, none⟩ = some (.int .i64 c) := (hc2 _ 0 (by simp)).trans (by simp [go_sem])
  have d3 : w2.cell? ⟨w.heap.size + 1, 1, none⟩ = some (.int .i64 d) := (hc2 _ 1 (by simp)).trans (by simp [go_sem])
  have d4 : w2.cell? ⟨w.heap.size, 0, none⟩ = some (.int .i64 a) := (hc2 _ 0 (by simp; omega)).trans (by simp [go_sem])
  have d5 : w2.cell? ⟨w.heap.size, 1, none⟩ = some (.int .i64 b) := (hc2 _ 1 (by simp; omega)).trans (by simp [go_sem])
  clear hc2 hf2
  go_wp2_with fail
  refine (PL.out _).mono ?_
  rintro e w4 ⟨rfl, hb4⟩
  go_wp2_with fail
  refine (ratOf_no x y _ HP.out).mono ?_
  rintro e wE ⟨rfl, hb5⟩
  have hb := bt (bt hb3 hb4) hb5
  obtain ⟨hc, hf⟩ := bcell hb
  have c0 : wE.cell? ⟨w.heap.size + 1 + 1, 0, none⟩ = some (.int .i64 0) := (hc _ 0 (by simp)).trans (by simp [go_sem])
  have c1 : wE.cell? ⟨w.heap.size + 1 + 1, 1, none⟩ = some (.int .i64 0) := (hc _ 1 (by simp)).trans (by simp [go_sem])
  go_wp2
  refine bodyPost_ret (v := .agg #[.int .i64 _, .int .i64 _]) (by simp [results, Try.results164, go_sem, c0, c1]) rfl ⟨rfl, ?_⟩
  exact ((below_alloc3 hb).setCell (by simp; omega) _).setCell (by simp; omega) _

end Go.Proofs.Ytbefmifofffdoac

namespace Go.Proofs.Ytbefmifofffdoac
open Go.RowKit

set_option maxHeartbeats 400000 in
theorem toRat_calls (n d : Int) (w : World) :
    Calls Try.prog 64 #[.agg #[.int .i64 n, .int .i64 d]] w fun e w' => e = .returned (.agg #[.int .i64 n, .int .i64 d]) ∧ Below w.heap.size w w' := by
  go_enter Try.func64, Try.ntmps64
  go_wp2
  refine bodyPost_ret (v := .agg #[.int .i64 n, .int .i64 d]) (by simp [results, Try.results64, go_sem]) rfl ⟨rfl, ?_⟩
  go_grown

set_option maxHeartbeats 400000 in
theorem iCmp_no1 (a b c d : Int) (w : World) (h : ¬ OkR a b) :
    Calls Try.prog 143 #[.agg #[.int .i64 a, .int .i64 b], .agg #[.int .i64 c, .int .i64 d]] w fun e w' => e = .returned (.int .i64 (-2)) ∧ Below w.heap.size w w' := by
  have H := hid h
  clear h
  go_enter Try.func143, Try.ntmps143
  go_wp2_with fail
  refine (isRat_no a b _ H.out).mono ?_
  rintro e wE ⟨rfl, hb⟩
  go_wp2
  go_ret
  exact ⟨rfl, below_alloc2 hb⟩

set_option maxHeartbeats 400000 in
theorem iCmp_no2 (a b c d : Int) (w : World) (h : OkR a b) (h' : ¬ OkR c d) :
    Calls Try.prog 143 #[.agg #[.int .i64 a, .int .i64 b], .agg #[.int .i64 c, .int .i64 d]] w fun e w' => e = .returned (.int .i64 (-2)) ∧ Below w.heap.size w w' := by
  have H := hid h
  have H' := hid h'
  clear h h'
  go_enter Try.func143, Try.ntmps143
  go_wp2_with fail
  refine (isRat_yes a b _ H.out).mono ?_
  rintro e w1 ⟨rfl, hb1⟩
  obtain ⟨hc1, hf1⟩ := bcell hb1
  have d0 : w1.cell? ⟨w.heap.size + 1, 0, none⟩ = some (.int .i64 c) := (hc1 _ 0 (by simp)).trans (by simp [go_sem])
  have d1 : w1.cell? ⟨w.heap.size + 1, 1, none⟩ = some (.int .i64 d) := (hc1 _ 1 (by simp)).trans (by simp [go_sem])
  clear hc1 hf1
  go_wp2_with fail
  refine (isRat_no c d _ H'.out).mono ?_
  rintro e wE ⟨rfl, hb2⟩
  go_wp2
  go_ret
  exact ⟨rfl, below_alloc2 (bt hb1 hb2)⟩

set_option maxHeartbeats 400000 in
theorem iCmp_yes (a b c d : Int) (w : World) (h : OkR a b) (h' : OkR c d) :
    Calls Try.prog 143 #[.agg #[.int .i64 a, .int .i64 b], .agg #[.int .i64 c, .int .i64 d]] w fun e w' => e = .returned (.int .i64 (RatM.sgn (a * d - c * b))) ∧ Below w.heap.size w w' := by
  obtain ⟨⟨m1, m1'⟩, ⟨m2, m2'⟩, m3, m3'⟩ := okR_sum a b c d h h'
  have H := hid h
  have H' := hid h'
  clear h h'
  obtain ⟨x, hx⟩ : ∃ x, x = RatM.frN (a * d - c * b) (b * d) := ⟨_, rfl⟩
  obtain ⟨y, hy⟩ : ∃ y, y = RatM.frD (a * d - c * b) (b * d) := ⟨_, rfl⟩
  have PL : Hid (∀ w, Calls Try.prog 166 #[.agg #[.int .i64 a, .int .i64 b], .agg #[.int .i64 c, .int .i64 d]] w fun e w' => e = .returned (.agg #[.int .i64 x, .int .i64 y]) ∧ Below w.heap.size w w') := by
    intro w
    rw [hx, hy]
    exact minus_calls a b c d w (by omega) (by omega) (by omega) (by omega) (by omega) (by omega) (by omega)
  have HR := hid (RatM.sgn_congr x (a * d - c * b) (by rw [hx]; exact RatM.frN_sign (a * d - c * b) (b * d) m3))
  clear hx hy
  go_enter Try.func143, Try.ntmps143
  go_wp2_with fail
  refine (isRat_yes a b _ H.out).mono ?_
  rintro e w1 ⟨rfl, hb1⟩
  obtain ⟨hc1, hf1⟩ := bcell hb1
  have d0 : w1.cell? ⟨w.heap.size + 1, 0, none⟩ = some (.int .i64 c) := (hc1 _ 0 (by simp)).trans (by simp [go_sem])
  have d1 : w1.cell? ⟨w.heap.size + 1, 1, none⟩ = some (.int .i64 d) := (hc1 _ 1 (by simp)).trans (by simp [go_sem])
  clear hc1 hf1
  go_wp2_with fail
  refine (isRat_yes c d _ H'.out).mono ?_
  rintro e w2 ⟨rfl, hb2⟩
  have hb3 := bt hb1 hb2
  obtain ⟨hc2, hf2⟩ := bcell hb3
  have d2 : w2.cell? ⟨w.heap.size + 1, 0, none⟩ = some (.int .i64 c) := (hc2 _ 0 (by simp)).trans (by simp [go_sem])
  have d3 : w2.cell? ⟨w.heap.size + 1, 1, none⟩ = some (.int .i64 d) := (hc2 _ 1 (by simp)).trans (by simp [go_sem])
  have d4 : w2.cell? ⟨w.heap.size, 0, none⟩ = some (.int .i64 a) := (hc2 _ 0 (by simp; omega)).trans (by simp [go_sem])
  have d5 : w2.cell? ⟨w.heap.size, 1, none⟩ = some (.int .i64 b) := (hc2 _ 1 (by simp; omega)).trans (by simp [go_sem])
  clear hc2 hf2
  go_wp2_with fail
  refine (PL.out _).mono ?_
  rintro e w4 ⟨rfl, hb4⟩
  go_wp2_with fail
  refine (sign_calls x y _).mono ?_
  rintro e wE ⟨rfl, hb5⟩
  go_wp2
  go_ret
  exact ⟨ret_int HR.out, below_alloc2 (bt (bt hb3 hb4) hb5)⟩

end Go.Proofs.Ytbefmifofffdoac
