import Derived.BigQuiet
import Derived.Deep.QuietTactic
import Derived.Handy
import Derived.Test.YtnmcgbfhgmmcpaaProg
import Derived.WalkKit
import Derived.WalkLawsBesides
import Derived.WalkSpells
import Derived.Test.YtnmcgbfhgmmcpaaW00
namespace Go.Proofs.Ytnmcgbfhgmmcpaa
open Go.RowKit

theorem hid {p : Prop} (h : p) : Hid p := h
theorem ret_int {k : IntKind} {a b : Int} (h : a = b) : Ending.returned (.int k a) = .returned (.int k b) := by rw [h]

set_option maxHeartbeats 400000 in
theorem gcd_calls (a b : Int) (w : World) (ha : -9000000000000000000 ≤ a) (ha' : a ≤ 9000000000000000000) (hb : -9000000000000000000 ≤ b) (hb' : b ≤ 9000000000000000000) :
    Calls Try.prog 93 #[.int .i64 a, .int .i64 b] w fun e w' => e = .returned (.int .i64 (Int.gcd a b)) ∧ Below w.heap.size w w' := by
  go_enter Try.func93, Try.ntmps93
  go_wp2
  go_loopw [0, 1] (fun x y wr => ∃ x' y' : Int, x = .int .i64 x' ∧ y = .int .i64 y' ∧ -9000000000000000000 ≤ x' ∧ x' ≤ 9000000000000000000 ∧ -9000000000000000000 ≤ y' ∧ y' ≤ 9000000000000000000 ∧ Hid (Int.gcd x' y' = Int.gcd a b) ∧ Below w.heap.size w wr) (fun _ y _ => (intOf y).natAbs)
  case atStart => exact ⟨a, b, rfl, rfl, ha, ha', hb, hb', hid rfl, Below.refl _ _⟩
  case round =>
    obtain ⟨x, y, rfl, rfl, hx, hx', hy, hy', hg, hbel⟩ := hrel
    by_cases h0 : y = 0
    · subst h0
      have hz := RatM.gcd_zero x
      rw [hg.out] at hz
      clear hg
      have HZ := hid hz
      clear hz
      go_wp2
      all_goals
        go_ret
        exact ⟨ret_int (by rw [HZ.out]; omega), hbel⟩
    · have hne : (y == 0) = false := by simpa using h0
      have hlt := RatM.natAbs_tmod_lt x y h0
      have hs := hid ((RatM.gcd_step x y).trans hg.out)
      go_wp2
      go_quiet (fail)
      go_roundw
      case rel => (repeat apply Exists.intro); exact ⟨⟨y, x.tmod y, rfl, rfl, hy, hy', by omega, by omega, hs, below_drewN hbel _⟩, rfl⟩
      case measure => simpa [intOf] using hlt

theorem gcd_at (a b g : Int) (w : World) (ha : -9000000000000000000 ≤ a) (ha' : a ≤ 9000000000000000000) (hb : -9000000000000000000 ≤ b) (hb' : b ≤ 9000000000000000000) (hg : (Int.gcd a b : Int) = g) :
    Calls Try.prog 93 #[.int .i64 a, .int .i64 b] w fun e w' => e = .returned (.int .i64 g) ∧ Below w.heap.size w w' := by
  subst hg
  exact gcd_calls a b w ha ha' hb hb'

theorem bcell {W w1 : World} (hb : Below W.heap.size W w1) : (∀ b o, b < W.heap.size → w1.cell? ⟨b, o, none⟩ = W.cell? ⟨b, o, none⟩) ∧ (∀ b o, b < W.heap.size → w1.frozen? ⟨b, o, none⟩ = W.frozen? ⟨b, o, none⟩) :=
  ⟨fun b o h => hb.cell (p := ⟨b, o, none⟩) h, fun b o h => hb.frozen (p := ⟨b, o, none⟩) h⟩

theorem below_alloc1 {w w' : World} {o : Obj} (hb : Below (w.alloc o).heap.size (w.alloc o) w') : Below w.heap.size w w' :=
  ((Below.refl _ _).alloc (Nat.le_refl _) _).trans (hb.mono (by simp))

theorem tdiv_bd (n g : Int) (hn : -9000000000000000000 ≤ n) (hn' : n ≤ 9000000000000000000) : -9000000000000000000 ≤ n.tdiv g ∧ n.tdiv g ≤ 9000000000000000000 := by
  have := RatM.tdiv_abs_le n g
  omega

set_option maxHeartbeats 400000 in
theorem fractionOf_calls (n d : Int) (w : World) (hn : -9000000000000000000 ≤ n) (hn' : n ≤ 9000000000000000000) (hd : -9000000000000000000 ≤ d) (hd' : d ≤ 9000000000000000000) (h0 : d ≠ 0) :
    Calls Try.prog 51 #[.int .i64 n, .int .i64 d] w fun e w' => e = .returned (.agg #[.int .i64 (RatM.frN n d), .int .i64 (RatM.frD n d)]) ∧ Below w.heap.size w w' := by
  have hg0 := RatM.gcd_pos n d h0
  obtain ⟨q1, q2⟩ := tdiv_bd n (Int.gcd n d) hn hn'
  obtain ⟨q3, q4⟩ := tdiv_bd d (Int.gcd n d) hd hd'
  by_cases hlt : d < 0
  · have e1 : RatM.frN n d = -(n.tdiv (Int.gcd n d)) := by unfold RatM.frN; rw [if_pos hlt, Int.neg_tdiv]
    have e2 : RatM.frD n d = -(d.tdiv (Int.gcd n d)) := by unfold RatM.frD; rw [if_pos hlt, Int.neg_tdiv]
    rw [e1, e2]
    clear e1 e2
    have HG : Hid ((Int.gcd (-n) (-d) : Int) = (Int.gcd n d : Int)) := by rw [RatM.gcd_neg_neg]; exact rfl
    generalize (Int.gcd n d : Int) = g at *
    have hne : (g == 0) = false := by simp; omega
    go_enter Try.func51, Try.ntmps51
    go_wp2_with fail
    refine (gcd_at (-n) (-d) g _ (by omega) (by omega) (by omega) (by omega) HG.out).mono ?_
    rintro e w' ⟨rfl, hb⟩
    obtain ⟨hc, hf⟩ := bcell hb
    have c0 : w'.cell? ⟨w.heap.size, 0, none⟩ = some (.int .i64 0) := (hc _ 0 (by simp)).trans (by simp [go_sem])
    have c1 : w'.cell? ⟨w.heap.size, 1, none⟩ = some (.int .i64 0) := (hc _ 1 (by simp)).trans (by simp [go_sem])
    have hz := hb.size
    simp at hz
    go_wp2_with fail
    go_region
    go_wp2
    refine bodyPost_ret (v := .agg #[.int .i64 _, .int .i64 _]) (by simp [results, Try.results51, go_sem, c0, c1]; exact ⟨rfl, rfl⟩) rfl ?_
    exact ⟨rfl, ((((below_alloc1 hb).setCell (Nat.le_refl _) _).setCell (Nat.le_refl _) _)).drew⟩
  · have e1 : RatM.frN n d = n.tdiv (Int.gcd n d) := by unfold RatM.frN; rw [if_neg hlt]
    have e2 : RatM.frD n d = d.tdiv (Int.gcd n d) := by unfold RatM.frD; rw [if_neg hlt]
    rw [e1, e2]
    clear e1 e2
    obtain ⟨g, hgg⟩ : ∃ g : Int, (Int.gcd n d : Int) = g := ⟨_, rfl⟩
    rw [hgg] at hg0 q1 q2 q3 q4 ⊢
    have HG := hid hgg
    clear hgg
    have hne : (g == 0) = false := by simp; omega
    go_enter Try.func51, Try.ntmps51
    go_wp2_with fail
    refine (gcd_at n d g _ (by omega) (by omega) (by omega) (by omega) HG.out).mono ?_
    rintro e w' ⟨rfl, hb⟩
    obtain ⟨hc, hf⟩ := bcell hb
    have c0 : w'.cell? ⟨w.heap.size, 0, none⟩ = some (.int .i64 0) := (hc _ 0 (by simp)).trans (by simp [go_sem])
    have c1 : w'.cell? ⟨w.heap.size, 1, none⟩ = some (.int .i64 0) := (hc _ 1 (by simp)).trans (by simp [go_sem])
    have hz := hb.size
    simp at hz
    go_wp2_with fail
    go_region
    go_wp2
    refine bodyPost_ret (v := .agg #[.int .i64 _, .int .i64 _]) (by simp [results, Try.results51, go_sem, c0, c1]; exact ⟨rfl, rfl⟩) rfl ?_
    exact ⟨rfl, ((((below_alloc1 hb).setCell (Nat.le_refl _) _).setCell (Nat.le_refl _) _)).drew⟩

end Go.Proofs.Ytnmcgbfhgmmcpaa

namespace Go.Proofs.Ytnmcgbfhgmmcpaa
open Go.RowKit

def RatArgs (n d : Int) : Prop := d ≠ 0 ∧ -1000000 ≤ n ∧ n ≤ 1000000 ∧ -1000000 ≤ d ∧ d ≤ 1000000

theorem bad_cases {n d : Int} (h : ¬ RatArgs n d) :
    d = 0 ∨ (d ≠ 0 ∧ n < -1000000) ∨ (d ≠ 0 ∧ -1000000 ≤ n ∧ 1000000 < n) ∨ (d ≠ 0 ∧ -1000000 ≤ n ∧ n ≤ 1000000 ∧ d < -1000000) ∨ (d ≠ 0 ∧ -1000000 ≤ n ∧ n ≤ 1000000 ∧ -1000000 ≤ d ∧ 1000000 < d) := by
  unfold RatArgs at h
  omega

set_option maxHeartbeats 400000 in
theorem iMakeRat_no (n d : Int) (w : World) (h : ¬ RatArgs n d) :
    Calls Try.prog 10 #[.int .i64 n, .int .i64 d] w fun e w' => e = .returned (.agg #[.int .i64 0, .int .i64 0]) ∧ Below w.heap.size w w' := by
  rcases bad_cases h with h | ⟨h0, h⟩ | ⟨h0, h1, h2⟩ | ⟨h0, h1, h2, h3⟩ | ⟨h0, h1, h2, h3, h4⟩
  · subst h
    go_enter Try.func10, Try.ntmps10
    go_wp2
    refine bodyPost_ret (v := .agg #[.int .i64 0, .int .i64 0]) (by simp [results, Try.results10, go_sem]) rfl ⟨rfl, ?_⟩
    go_grown
  · have hne : (d == 0) = false := by simpa using h0
    have hd1 : decide (-1000000 ≤ n) = false := by simp; omega
    go_enter Try.func10, Try.ntmps10
    go_wp2
    refine bodyPost_ret (v := .agg #[.int .i64 0, .int .i64 0]) (by simp [results, Try.results10, go_sem]) rfl ⟨rfl, ?_⟩
    go_grown
  · have hne : (d == 0) = false := by simpa using h0
    have hd1 : decide (n ≤ 1000000) = false := by simp; omega
    go_enter Try.func10, Try.ntmps10
    go_wp2
    refine bodyPost_ret (v := .agg #[.int .i64 0, .int .i64 0]) (by simp [results, Try.results10, go_sem]) rfl ⟨rfl, ?_⟩
    go_grown
  · have hne : (d == 0) = false := by simpa using h0
    have hd1 : decide (-1000000 ≤ d) = false := by simp; omega
    go_enter Try.func10, Try.ntmps10
    go_wp2
    refine bodyPost_ret (v := .agg #[.int .i64 0, .int .i64 0]) (by simp [results, Try.results10, go_sem]) rfl ⟨rfl, ?_⟩
    go_grown
  · have hne : (d == 0) = false := by simpa using h0
    have hd1 : decide (d ≤ 1000000) = false := by simp; omega
    go_enter Try.func10, Try.ntmps10
    go_wp2
    refine bodyPost_ret (v := .agg #[.int .i64 0, .int .i64 0]) (by simp [results, Try.results10, go_sem]) rfl ⟨rfl, ?_⟩
    go_grown

theorem isPart_yes (n : Int) (w : World) (h1 : -1000000 ≤ n) (h2 : n ≤ 1000000) :
    Calls Try.prog 49 #[.int .i64 n] w fun e w' => e = .returned (.bool true) ∧ w' = w := by
  go_enter Try.func49, Try.ntmps49
  go_wp2
  go_ret
  exact ⟨rfl, rfl⟩

set_option maxHeartbeats 400000 in
theorem ratOf_yes (n d : Int) (w : World) (h1 : -1000000 ≤ n) (h2 : n ≤ 1000000) (h3 : -1000000 ≤ d) (h4 : d ≤ 1000000) :
    Calls Try.prog 50 #[.agg #[.int .i64 n, .int .i64 d]] w fun e w' => e = .returned (.agg #[.int .i64 n, .int .i64 d]) ∧ Below w.heap.size w w' := by
  go_enter Try.func50, Try.ntmps50
  go_wp2
  refine bodyPost_ret (v := .agg #[.int .i64 n, .int .i64 d]) (by simp [results, Try.results50, go_sem]) rfl ⟨rfl, ?_⟩
  go_grown

set_option maxHeartbeats 400000 in
theorem iMakeRat_yes (n d : Int) (w : World) (h : RatArgs n d) :
    Calls Try.prog 10 #[.int .i64 n, .int .i64 d] w fun e w' => e = .returned (.agg #[.int .i64 (RatM.frN n d), .int .i64 (RatM.frD n d)]) ∧ Below w.heap.size w w' := by
  obtain ⟨h0, h1, h2, h3, h4⟩ := h
  have hne : (d == 0) = false := by simpa using h0
  have b1 := RatM.frN_abs n d
  have b2 := RatM.frD_abs n d
  go_enter Try.func10, Try.ntmps10
  go_wp2_with (first | (go_at_call 49; refine (isPart_yes _ _ (by assumption) (by assumption)).mono ?_; rintro e w' ⟨rfl, rfl⟩))
  refine (fractionOf_calls n d _ (by omega) (by omega) (by omega) (by omega) h0).mono ?_
  rintro e w1 ⟨rfl, hb1⟩
  go_wp2_with fail
  refine (ratOf_yes _ _ _ (by omega) (by omega) (by omega) (by omega)).mono ?_
  rintro e w2 ⟨rfl, hb2⟩
  have hb := hb1.trans (hb2.mono hb1.size)
  obtain ⟨hc, hf⟩ := bcell hb
  have c0 : w2.cell? ⟨w.heap.size, 0, none⟩ = some (.int .i64 0) := (hc _ 0 (by simp)).trans (by simp [go_sem])
  have c1 : w2.cell? ⟨w.heap.size, 1, none⟩ = some (.int .i64 0) := (hc _ 1 (by simp)).trans (by simp [go_sem])
  go_wp2
  refine bodyPost_ret (v := .agg #[.int .i64 _, .int .i64 _]) (by simp [results, Try.results10, go_sem, c0, c1]) rfl ⟨rfl, ?_⟩
  exact ((below_alloc1 hb).setCell (Nat.le_refl _) _).setCell (Nat.le_refl _) _

theorem abs_calls (n : Int) (w : World) (h1 : -9000000000000000000 ≤ n) (h2 : n ≤ 9000000000000000000) :
    Calls Try.prog 124 #[.int .i64 n] w fun e w' => e = .returned (.int .i64 n.natAbs) ∧ w' = w := by
  by_cases h : n < 0
  · go_enter Try.func124, Try.ntmps124
    go_wp2
    go_ret
    exact ⟨ret_int (by omega), rfl⟩
  · go_enter Try.func124, Try.ntmps124
    go_wp2
    go_ret
    exact ⟨ret_int (by omega), rfl⟩

theorem sgcd_calls : ∀ (k : Nat) (a b : Int) (w : World), b.natAbs < k → 0 ≤ a → a ≤ 9000000000000000000 → 0 ≤ b → b ≤ 9000000000000000000 →
    Calls Try.prog 123 #[.int .i64 a, .int .i64 b] w fun e w' => e = .returned (.int .i64 (Int.gcd a b)) ∧ w' = w
  | 0, _, _, _, h, _, _, _, _ => absurd h (by omega)
  | k + 1, a, b, w, hk, ha, ha', hb, hb' => by
    by_cases h : b = 0
    · subst h
      have hz := hid (RatM.gcd_zero a)
      go_enter Try.func123, Try.ntmps123
      go_wp2
      go_ret
      exact ⟨ret_int (by rw [hz.out]; omega), rfl⟩
    · have hne : (b == 0) = false := by simpa using h
      have hm : a.tmod b = a % b := Int.tmod_eq_emod_of_nonneg ha
      have hlt := RatM.natAbs_tmod_lt a b h
      have hs := RatM.gcd_step a b
      have hnn : 0 ≤ a.tmod b := Int.tmod_nonneg _ ha
      rw [hm] at hlt hs hnn
      clear hm
      have HS := hid hs
      clear hs
      have IH := hid (sgcd_calls k b (a % b) w (by omega) hb hb' hnn (by omega))
      go_enter Try.func123, Try.ntmps123
      go_wp2_with fail
      refine IH.out.mono ?_
      rintro e w' ⟨rfl, rfl⟩
      go_wp2
      go_ret
      exact ⟨ret_int (by rw [HS.out]), rfl⟩


end Go.Proofs.Ytnmcgbfhgmmcpaa

namespace Go.Proofs.Ytnmcgbfhgmmcpaa
open Go.RowKit

theorem sgcd_at (a b g : Int) (w : World) (ha : 0 ≤ a) (ha' : a ≤ 9000000000000000000) (hb : 0 ≤ b) (hb' : b ≤ 9000000000000000000) (hg : (Int.gcd a b : Int) = g) :
    Calls Try.prog 123 #[.int .i64 a, .int .i64 b] w fun e w' => e = .returned (.int .i64 g) ∧ w' = w := by
  subst hg
  exact sgcd_calls (b.natAbs + 1) a b w (by omega) ha ha' hb hb'

set_option maxHeartbeats 400000 in
theorem l1Frac_calls (n d : Int) (w : World) (hn : -9000000000000000000 ≤ n) (hn' : n ≤ 9000000000000000000) (hd : -9000000000000000000 ≤ d) (hd' : d ≤ 9000000000000000000) (h0 : d ≠ 0) :
    Calls Try.prog 110 #[.int .i64 n, .int .i64 d] w fun e w' => e = .returned (.agg #[.int .i64 (RatM.frN n d), .int .i64 (RatM.frD n d)]) ∧ Below w.heap.size w w' := by
  have hg0 := RatM.gcd_pos n d h0
  have hg1 := RatM.gcd_le n d h0
  obtain ⟨q1, q2⟩ := tdiv_bd n (Int.gcd n d) hn hn'
  obtain ⟨q3, q4⟩ := tdiv_bd d (Int.gcd n d) hd hd'
  have HG : Hid ((Int.gcd (n.natAbs : Int) (d.natAbs : Int) : Int) = (Int.gcd n d : Int)) := by rw [RatM.gcd_abs]; exact rfl
  by_cases hlt : d < 0
  · have e1 : RatM.frN n d = -(n.tdiv (Int.gcd n d)) := by unfold RatM.frN; rw [if_pos hlt, Int.neg_tdiv]
    have e2 : RatM.frD n d = -(d.tdiv (Int.gcd n d)) := by unfold RatM.frD; rw [if_pos hlt, Int.neg_tdiv]
    rw [e1, e2]
    clear e1 e2
    generalize (Int.gcd n d : Int) = g at *
    have hne : (g == 0) = false := by simp; omega
    have hne' : (-g == 0) = false := by simp; omega
    go_enter Try.func110, Try.ntmps110
    go_wp2_with fail
    refine (abs_calls n _ hn hn').mono ?_
    rintro e w1 ⟨rfl, rfl⟩
    go_wp2_with fail
    refine (abs_calls d _ hd hd').mono ?_
    rintro e w1 ⟨rfl, rfl⟩
    go_wp2_with fail
    refine (sgcd_at _ _ g _ (by omega) (by omega) (by omega) (by omega) HG.out).mono ?_
    rintro e w1 ⟨rfl, rfl⟩
    go_wp2
    go_region
    go_wp2
    refine bodyPost_ret (v := .agg #[.int .i64 _, .int .i64 _]) (by simp [results, Try.results110, go_sem]) rfl ⟨rfl, ?_⟩
    go_grown
  · have e1 : RatM.frN n d = n.tdiv (Int.gcd n d) := by unfold RatM.frN; rw [if_neg hlt]
    have e2 : RatM.frD n d = d.tdiv (Int.gcd n d) := by unfold RatM.frD; rw [if_neg hlt]
    rw [e1, e2]
    clear e1 e2
    generalize (Int.gcd n d : Int) = g at *
    have hne : (g == 0) = false := by simp; omega
    have hne' : (-g == 0) = false := by simp; omega
    go_enter Try.func110, Try.ntmps110
    go_wp2_with fail
    refine (abs_calls n _ hn hn').mono ?_
    rintro e w1 ⟨rfl, rfl⟩
    go_wp2_with fail
    refine (abs_calls d _ hd hd').mono ?_
    rintro e w1 ⟨rfl, rfl⟩
    go_wp2_with fail
    refine (sgcd_at _ _ g _ (by omega) (by omega) (by omega) (by omega) HG.out).mono ?_
    rintro e w1 ⟨rfl, rfl⟩
    go_wp2
    go_region
    go_wp2
    refine bodyPost_ret (v := .agg #[.int .i64 _, .int .i64 _]) (by simp [results, Try.results110, go_sem]) rfl ⟨rfl, ?_⟩
    go_grown

theorem between_yes (x lo hi : Int) (w : World) (h1 : lo ≤ x) (h2 : x ≤ hi) :
    Calls Try.prog 63 #[.int .i64 x, .int .i64 lo, .int .i64 hi] w fun e w' => e = .returned (.bool true) ∧ w' = w := by
  go_enter Try.func63, Try.ntmps63
  go_wp2
  go_ret
  exact ⟨rfl, rfl⟩

theorem eqRat_same (n d : Int) (w : World) :
    Calls Try.prog 57 #[.agg #[.int .i64 n, .int .i64 d], .agg #[.int .i64 n, .int .i64 d]] w fun e w' => e = .returned (.bool true) ∧ Below w.heap.size w w' := by
  have hn : (n != n) = false := by simp
  have hd : (d != d) = false := by simp
  go_enter Try.func57, Try.ntmps57
  go_wp2
  go_ret
  exact ⟨rfl, by go_grown⟩

theorem bt {a b c : World} (h : Below a.heap.size a b) (k : Below b.heap.size b c) : Below a.heap.size a c := h.trans (k.mono h.size)

end Go.Proofs.Ytnmcgbfhgmmcpaa

namespace Go.Proofs.Ytnmcgbfhgmmcpaa
open Go.RowKit

def OkR (n d : Int) : Prop := 1 ≤ d ∧ d ≤ 1000000 ∧ -1000000 ≤ n ∧ n ≤ 1000000 ∧ Int.gcd n d = 1

theorem notOk_cases {n d : Int} (h : ¬ OkR n d) : d < 1 ∨ (1 ≤ d ∧ 1000000 < d) ∨ (1 ≤ d ∧ d ≤ 1000000 ∧ n < -1000000) ∨ (1 ≤ d ∧ d ≤ 1000000 ∧ -1000000 ≤ n ∧ 1000000 < n) ∨ (1 ≤ d ∧ d ≤ 1000000 ∧ -1000000 ≤ n ∧ n ≤ 1000000 ∧ ¬ Int.gcd n d = 1) := by
  unfold OkR at h
  omega

theorem isPart_no1 (n : Int) (w : World) (h1 : n < -1000000) :
    Calls Try.prog 49 #[.int .i64 n] w fun e w' => e = .returned (.bool false) ∧ w' = w := by
  have hd : decide (-1000000 ≤ n) = false := by simp; omega
  go_enter Try.func49, Try.ntmps49
  go_wp2
  go_ret
  exact ⟨rfl, rfl⟩

theorem isPart_no2 (n : Int) (w : World) (h1 : -1000000 ≤ n) (h2 : 1000000 < n) :
    Calls Try.prog 49 #[.int .i64 n] w fun e w' => e = .returned (.bool false) ∧ w' = w := by
  have hd : decide (n ≤ 1000000) = false := by simp; omega
  go_enter Try.func49, Try.ntmps49
  go_wp2
  go_ret
  exact ⟨rfl, rfl⟩

set_option maxHeartbeats 400000 in
theorem isRat_yes (n d : Int) (w : World) (h : OkR n d) :
    Calls Try.prog 52 #[.agg #[.int .i64 n, .int .i64 d]] w fun e w' => e = .returned (.bool true) ∧ Below w.heap.size w w' := by
  obtain ⟨h1, h2, h3, h4, h5⟩ := h
  have HG : Hid ((Int.gcd n d : Int) = 1) := by rw [h5]; exact rfl
  clear h5
  go_enter Try.func52, Try.ntmps52
  go_wp2_with (first | (go_at_call 49; refine (isPart_yes _ _ (by assumption) (by assumption)).mono ?_; rintro e w' ⟨rfl, rfl⟩) | (go_at_call 93; refine (gcd_at n d 1 _ (by omega) (by omega) (by omega) (by omega) HG.out).mono ?_; rintro e w' ⟨rfl, hb⟩))
  go_ret
  exact ⟨rfl, below_alloc1 hb⟩

set_option maxHeartbeats 400000 in
theorem isRat_no (n d : Int) (w : World) (h : ¬ OkR n d) :
    Calls Try.prog 52 #[.agg #[.int .i64 n, .int .i64 d]] w fun e w' => e = .returned (.bool false) ∧ Below w.heap.size w w' := by
  rcases notOk_cases h with h1 | ⟨h1, h2⟩ | ⟨h1, h2, h3⟩ | ⟨h1, h2, h3, h4⟩ | ⟨h1, h2, h3, h4, h5⟩
  · have hd : decide (1 ≤ d) = false := by simp; omega
    go_enter Try.func52, Try.ntmps52
    go_wp2
    go_ret
    exact ⟨rfl, by go_grown⟩
  · have hd : decide (d ≤ 1000000) = false := by simp; omega
    go_enter Try.func52, Try.ntmps52
    go_wp2
    go_ret
    exact ⟨rfl, by go_grown⟩
  · go_enter Try.func52, Try.ntmps52
    go_wp2_with (first | (go_at_call 49; refine (isPart_no1 _ _ (by assumption)).mono ?_; rintro e w' ⟨rfl, rfl⟩))
    go_ret
    exact ⟨rfl, by go_grown⟩
  · go_enter Try.func52, Try.ntmps52
    go_wp2_with (first | (go_at_call 49; refine (isPart_no2 _ _ (by assumption) (by assumption)).mono ?_; rintro e w' ⟨rfl, rfl⟩))
    go_ret
    exact ⟨rfl, by go_grown⟩
  · obtain ⟨g, hg⟩ : ∃ g : Int, (Int.gcd n d : Int) = g := ⟨_, rfl⟩
    have hne : (g == 1) = false := by simp; omega
    have HG := hid hg
    clear hg h5
    go_enter Try.func52, Try.ntmps52
    go_wp2_with (first | (go_at_call 49; refine (isPart_yes _ _ (by assumption) (by assumption)).mono ?_; rintro e w' ⟨rfl, rfl⟩) | (go_at_call 93; refine (gcd_at n d g _ (by omega) (by omega) (by omega) (by omega) HG.out).mono ?_; rintro e w' ⟨rfl, hb⟩))
    go_ret
    exact ⟨rfl, below_alloc1 hb⟩

end Go.Proofs.Ytnmcgbfhgmmcpaa
