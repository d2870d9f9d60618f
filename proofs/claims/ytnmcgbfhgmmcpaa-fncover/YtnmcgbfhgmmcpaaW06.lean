import Derived.Deep.RegionWith
import Derived.Test.YtnmcgbfhgmmcpaaW01
import Derived.Test.YtnmcgbfhgmmcpaaW05
namespace Go.Proofs.Ytnmcgbfhgmmcpaa
open Go.RowKit

theorem between_no1 (x lo hi : Int) (w : World) (h1 : x < lo) :
    Calls Try.prog 63 #[.int .i64 x, .int .i64 lo, .int .i64 hi] w fun e w' => e = .returned (.bool false) ∧ w' = w := by
  have hd : decide (lo ≤ x) = false := by simp; omega
  go_enter Try.func63, Try.ntmps63
  go_wp2
  go_ret
  exact ⟨rfl, rfl⟩

theorem between_no2 (x lo hi : Int) (w : World) (h1 : lo ≤ x) (h2 : hi < x) :
    Calls Try.prog 63 #[.int .i64 x, .int .i64 lo, .int .i64 hi] w fun e w' => e = .returned (.bool false) ∧ w' = w := by
  have hd : decide (x ≤ hi) = false := by simp; omega
  go_enter Try.func63, Try.ntmps63
  go_wp2
  go_ret
  exact ⟨rfl, rfl⟩

/-- a product of parts is small -/
theorem mul_bd (a b B C : Int) (h1 : -B ≤ a) (h2 : a ≤ B) (h3 : -C ≤ b) (h4 : b ≤ C) : -(B * C) ≤ a * b ∧ a * b ≤ B * C := by
  have e : (a * b).natAbs = a.natAbs * b.natAbs := Int.natAbs_mul a b
  have h5 : a.natAbs * b.natAbs ≤ B.natAbs * C.natAbs := Nat.mul_le_mul (by omega) (by omega)
  have h6 : B * C = ((B.natAbs * C.natAbs : Nat) : Int) := by
    rw [Int.natCast_mul, show (B.natAbs : Int) = B by omega, show (C.natAbs : Int) = C by omega]
  omega

theorem mul_bd6 (a b : Int) (h1 : -1000000 ≤ a) (h2 : a ≤ 1000000) (h3 : -1000000 ≤ b) (h4 : b ≤ 1000000) : -1000000000000 ≤ a * b ∧ a * b ≤ 1000000000000 :=
  mul_bd a b 1000000 1000000 h1 h2 h3 h4

end Go.Proofs.Ytnmcgbfhgmmcpaa

namespace Go.Proofs.Ytnmcgbfhgmmcpaa
open Go.RowKit

theorem below_alloc3 {w w' : World} {o p q : Obj} (hb : Below (((w.alloc o).alloc p).alloc q).heap.size (((w.alloc o).alloc p).alloc q) w') : Below w.heap.size w w' :=
  ((((Below.refl _ _).alloc (Nat.le_refl _) _).alloc (by simp) _).alloc (by simp; omega) _).trans (hb.mono (by simp; omega))

theorem below_alloc2 {w w' : World} {o p : Obj} (hb : Below ((w.alloc o).alloc p).heap.size ((w.alloc o).alloc p) w') : Below w.heap.size w w' :=
  (((Below.refl _ _).alloc (Nat.le_refl _) _).alloc (by simp) _).trans (hb.mono (by simp; omega))

def PlC (f : Nat) : Prop := ∀ (a b c d : Int) (w : World), -4500000000000000000 ≤ a * d → a * d ≤ 4500000000000000000 → -4500000000000000000 ≤ c * b → c * b ≤ 4500000000000000000 → -4500000000000000000 ≤ b * d → b * d ≤ 4500000000000000000 → b * d ≠ 0 → Calls Try.prog f #[.agg #[.int .i64 a, .int .i64 b], .agg #[.int .i64 c, .int .i64 d]] w fun e w' => e = .returned (.agg #[.int .i64 (RatM.frN (a * d + c * b) (b * d)), .int .i64 (RatM.frD (a * d + c * b) (b * d))]) ∧ Below w.heap.size w w'

set_option maxHeartbeats 800000 in
theorem PlC.both : PlC 55 ∧ PlC 86 := by
  refine ⟨fun a b c d w m1 m1' m2 m2' m3 m3' h0 => ?_, fun a b c d w m1 m1' m2 m2' m3 m3' h0 => ?_⟩
  focus
    go_enter Try.func55, Try.ntmps55
    go_wp2_with fail
    refine (fractionOf_calls _ _ _ (by omega) (by omega) (by omega) (by omega) h0).mono ?_
  rotate_left
  focus
    go_enter Try.func86, Try.ntmps86
    go_wp2_with fail
    refine (l1Frac_calls _ _ _ (by omega) (by omega) (by omega) (by omega) h0).mono ?_
  all_goals
    rintro e w1 ⟨rfl, hb⟩
    obtain ⟨hc, hf⟩ := bcell hb
    have c0 : w1.cell? ⟨w.heap.size + 1 + 1, 0, none⟩ = some (.int .i64 0) := (hc _ 0 (by simp)).trans (by simp [go_sem])
    have c1 : w1.cell? ⟨w.heap.size + 1 + 1, 1, none⟩ = some (.int .i64 0) := (hc _ 1 (by simp)).trans (by simp [go_sem])
    go_wp2
    refine bodyPost_ret (v := .agg #[.int .i64 _, .int .i64 _]) (by simp [results, Try.results55, Try.results86, go_sem, c0, c1]) rfl ⟨rfl, ?_⟩
    exact ((below_alloc3 hb).setCell (by simp; omega) _).setCell (by simp; omega) _

theorem plus_calls : PlC 55 := PlC.both.1

theorem splus_calls : PlC 86 := PlC.both.2

def MiC (f : Nat) : Prop := ∀ (a b c d : Int) (w : World), -4500000000000000000 ≤ a * d → a * d ≤ 4500000000000000000 → -4500000000000000000 ≤ c * b → c * b ≤ 4500000000000000000 → -4500000000000000000 ≤ b * d → b * d ≤ 4500000000000000000 → b * d ≠ 0 → Calls Try.prog f #[.agg #[.int .i64 a, .int .i64 b], .agg #[.int .i64 c, .int .i64 d]] w fun e w' => e = .returned (.agg #[.int .i64 (RatM.frN (a * d - c * b) (b * d)), .int .i64 (RatM.frD (a * d - c * b) (b * d))]) ∧ Below w.heap.size w w'

set_option maxHeartbeats 800000 in
theorem MiC.both : MiC 53 ∧ MiC 108 := by
  refine ⟨fun a b c d w m1 m1' m2 m2' m3 m3' h0 => ?_, fun a b c d w m1 m1' m2 m2' m3 m3' h0 => ?_⟩
  focus
    go_enter Try.func53, Try.ntmps53
    go_wp2_with fail
    refine (fractionOf_calls _ _ _ (by omega) (by omega) (by omega) (by omega) h0).mono ?_
  rotate_left
  focus
    go_enter Try.func108, Try.ntmps108
    go_wp2_with fail
    refine (l1Frac_calls _ _ _ (by omega) (by omega) (by omega) (by omega) h0).mono ?_
  all_goals
    rintro e w1 ⟨rfl, hb⟩
    obtain ⟨hc, hf⟩ := bcell hb
    have c0 : w1.cell? ⟨w.heap.size + 1 + 1, 0, none⟩ = some (.int .i64 0) := (hc _ 0 (by simp)).trans (by simp [go_sem])
    have c1 : w1.cell? ⟨w.heap.size + 1 + 1, 1, none⟩ = some (.int .i64 0) := (hc _ 1 (by simp)).trans (by simp [go_sem])
    go_wp2
    refine bodyPost_ret (v := .agg #[.int .i64 _, .int .i64 _]) (by simp [results, Try.results53, Try.results108, go_sem, c0, c1]) rfl ⟨rfl, ?_⟩
    exact ((below_alloc3 hb).setCell (by simp; omega) _).setCell (by simp; omega) _

theorem minus_calls : MiC 53 := MiC.both.1

theorem sminus_calls : MiC 108 := MiC.both.2

def TiC (f : Nat) : Prop := ∀ (a b c d : Int) (w : World), -4500000000000000000 ≤ a * c → a * c ≤ 4500000000000000000 → -4500000000000000000 ≤ b * d → b * d ≤ 4500000000000000000 → b * d ≠ 0 → Calls Try.prog f #[.agg #[.int .i64 a, .int .i64 b], .agg #[.int .i64 c, .int .i64 d]] w fun e w' => e = .returned (.agg #[.int .i64 (RatM.frN (a * c) (b * d)), .int .i64 (RatM.frD (a * c) (b * d))]) ∧ Below w.heap.size w w'

set_option maxHeartbeats 800000 in
theorem TiC.both : TiC 142 ∧ TiC 109 := by
  refine ⟨fun a b c d w m1 m1' m2 m2' h0 => ?_, fun a b c d w m1 m1' m2 m2' h0 => ?_⟩
  focus
    go_enter Try.func142, Try.ntmps142
    go_wp2_with fail
    refine (fractionOf_calls _ _ _ (by omega) (by omega) (by omega) (by omega) h0).mono ?_
  rotate_left
  focus
    go_enter Try.func109, Try.ntmps109
    go_wp2_with fail
    refine (l1Frac_calls _ _ _ (by omega) (by omega) (by omega) (by omega) h0).mono ?_
  all_goals
    rintro e w1 ⟨rfl, hb⟩
    obtain ⟨hc, hf⟩ := bcell hb
    have c0 : w1.cell? ⟨w.heap.size + 1 + 1, 0, none⟩ = some (.int .i64 0) := (hc _ 0 (by simp)).trans (by simp [go_sem])
    have c1 : w1.cell? ⟨w.heap.size + 1 + 1, 1, none⟩ = some (.int .i64 0) := (hc _ 1 (by simp)).trans (by simp [go_sem])
    go_wp2
    refine bodyPost_ret (v := .agg #[.int .i64 _, .int .i64 _]) (by simp [results, Try.results142, Try.results109, go_sem, c0, c1]) rfl ⟨rfl, ?_⟩
    exact ((below_alloc3 hb).setCell (by simp; omega) _).setCell (by simp; omega) _

theorem times_calls : TiC 142 := TiC.both.1

theorem stimes_calls : TiC 109 := TiC.both.2

set_option maxHeartbeats 400000 in
theorem over_calls (a b c d : Int) (w : World) (m1 : -4500000000000000000 ≤ a * d) (m1' : a * d ≤ 4500000000000000000) (m2 : -4500000000000000000 ≤ b * c) (m2' : b * c ≤ 4500000000000000000) (h0 : b * c ≠ 0) :
    Calls Try.prog 141 #[.agg #[.int .i64 a, .int .i64 b], .agg #[.int .i64 c, .int .i64 d]] w fun e w' => e = .returned (.agg #[.int .i64 (RatM.frN (a * d) (b * c)), .int .i64 (RatM.frD (a * d) (b * c))]) ∧ Below w.heap.size w w' := by
  go_enter Try.func141, Try.ntmps141
  go_wp2_with fail
  refine (fractionOf_calls _ _ _ (by omega) (by omega) (by omega) (by omega) h0).mono ?_
  rintro e w1 ⟨rfl, hb⟩
  obtain ⟨hc, hf⟩ := bcell hb
  have c0 : w1.cell? ⟨w.heap.size + 1 + 1, 0, none⟩ = some (.int .i64 0) := (hc _ 0 (by simp)).trans (by simp [go_sem])
  have c1 : w1.cell? ⟨w.heap.size + 1 + 1, 1, none⟩ = some (.int .i64 0) := (hc _ 1 (by simp)).trans (by simp [go_sem])
  go_wp2
  refine bodyPost_ret (v := .agg #[.int .i64 _, .int .i64 _]) (by simp [results, Try.results141, go_sem, c0, c1]) rfl ⟨rfl, ?_⟩
  exact ((below_alloc3 hb).setCell (by simp; omega) _).setCell (by simp; omega) _

set_option maxHeartbeats 400000 in
theorem sover_calls (a b c d : Int) (w : World) (m1 : -4500000000000000000 ≤ a * d) (m1' : a * d ≤ 4500000000000000000) (m2 : -4500000000000000000 ≤ b * c) (m2' : b * c ≤ 4500000000000000000) (h0 : b * c ≠ 0) :
    Calls Try.prog 107 #[.agg #[.int .i64 a, .int .i64 b], .agg #[.int .i64 c, .int .i64 d]] w fun e w' => e = .returned (.agg #[.int .i64 (RatM.frN (a * d) (b * c)), .int .i64 (RatM.frD (a * d) (b * c))]) ∧ Below w.heap.size w w' := by
  go_enter Try.func107, Try.ntmps107
  go_wp2_with fail
  refine (l1Frac_calls _ _ _ (by omega) (by omega) (by omega) (by omega) h0).mono ?_
  rintro e w1 ⟨rfl, hb⟩
  obtain ⟨hc, hf⟩ := bcell hb
  have c0 : w1.cell? ⟨w.heap.size + 1 + 1, 0, none⟩ = some (.int .i64 0) := (hc _ 0 (by simp)).trans (by simp [go_sem])
  have c1 : w1.cell? ⟨w.heap.size + 1 + 1, 1, none⟩ = some (.int .i64 0) := (hc _ 1 (by simp)).trans (by simp [go_sem])
  go_wp2
  refine bodyPost_ret (v := .agg #[.int .i64 _, .int .i64 _]) (by simp [results, Try.results107, go_sem, c0, c1]) rfl ⟨rfl, ?_⟩
  exact ((below_alloc3 hb).setCell (by simp; omega) _).setCell (by simp; omega) _

theorem sign_calls (n d : Int) (w : World) :
    Calls Try.prog 54 #[.agg #[.int .i64 n, .int .i64 d]] w fun e w' => e = .returned (.int .i64 (RatM.sgn n)) ∧ Below w.heap.size w w' := by
  go_enter Try.func54, Try.ntmps54
  go_wp2
  all_goals
    go_ret
    exact ⟨ret_int (by unfold RatM.sgn; repeat' split; all_goals omega), by go_grown⟩

set_option maxHeartbeats 400000 in
theorem sless_calls (a b c d : Int) (w : World) (m1 : -4500000000000000000 ≤ a * d) (m1' : a * d ≤ 4500000000000000000) (m2 : -4500000000000000000 ≤ c * b) (m2' : c * b ≤ 4500000000000000000) :
    Calls Try.prog 95 #[.agg #[.int .i64 a, .int .i64 b], .agg #[.int .i64 c, .int .i64 d]] w fun e w' => e = .returned (.bool (decide (a * d < c * b))) ∧ Below w.heap.size w w' := by
  go_enter Try.func95, Try.ntmps95
  go_wp2
  go_ret
  exact ⟨rfl, by go_grown⟩

end Go.Proofs.Ytnmcgbfhgmmcpaa

namespace Go.Proofs.Ytnmcgbfhgmmcpaa
open Go.RowKit

/-- a rational as the program holds it -/
def enc (q : Rat) : Value := .agg #[.int .i64 q.num, .int .i64 q.den]

theorem tdiv_natAbs (b : Int) (g : Nat) (h : 0 ≤ b) : b.tdiv (g : Int) = ((b.natAbs / g : Nat) : Int) := by
  have e := Int.ofNat_tdiv b.natAbs g
  rw [show ((b.natAbs : Nat) : Int) = b by omega] at e
  rw [← e]

theorem fr_rat (a b : Int) (h : b ≠ 0) : RatM.frN a b = (Rat.divInt a b).num ∧ RatM.frD a b = ((Rat.divInt a b).den : Int) := by
  have hd : ((Int.gcd a b : Nat) : Int) ∣ a := Int.gcd_dvd_left ..
  have hg := RatM.gcd_pos a b h
  rw [Rat.num_divInt, Rat.den_divInt, if_neg h, Int.gcd_comm b a]
  unfold RatM.frN RatM.frD
  by_cases hb : b < 0
  · rw [if_pos hb, if_pos hb, Int.sign_eq_neg_one_of_neg hb]
    refine ⟨?_, ?_⟩
    · rw [Int.tdiv_eq_ediv_of_dvd ((Int.dvd_neg).2 hd)]
      congr 1
      omega
    · rw [show -b = ((b.natAbs : Nat) : Int) by omega, Int.ofNat_tdiv]
  · rw [if_neg hb, if_neg hb, Int.sign_eq_one_of_pos (by omega)]
    refine ⟨?_, ?_⟩
    · rw [Int.tdiv_eq_ediv_of_dvd hd]
      congr 1
      omega
    · generalize Int.gcd a b = g
      rw [tdiv_natAbs b g (by omega)]

theorem enc_fr (a b : Int) (h : b ≠ 0) (q : Rat) (hq : q = Rat.divInt a b) : (.agg #[.int .i64 (RatM.frN a b), .int .i64 (RatM.frD a b)] : Value) = enc q := by
  obtain ⟨h1, h2⟩ := fr_rat a b h
  unfold enc
  rw [h1, h2, hq]

/-- parts of at most B -/
def Sm (B : Nat) (q : Rat) : Prop := q.num.natAbs ≤ B ∧ q.den ≤ B

theorem Sm.mono {B C : Nat} {q : Rat} (h : Sm B q) (hBC : B ≤ C) : Sm C q := ⟨by have := h.1; omega, by have := h.2; omega⟩

theorem prod_bd {a b : Int} {B C : Nat} (ha : a.natAbs ≤ B) (hb : b.natAbs ≤ C) (hBC : B * C ≤ 4500000000000000000) : -4500000000000000000 ≤ a * b ∧ a * b ≤ 4500000000000000000 := by
  have h1 : (a * b).natAbs ≤ B * C := by rw [Int.natAbs_mul]; exact Nat.mul_le_mul ha hb
  omega

/-- what has a whole multiple has small parts -/
theorem sm_of_whole {q : Rat} {D : Int} {Z B : Nat} (h0 : D ≠ 0) (hD : D.natAbs ≤ B) (hz : Cov.Whole Z (q * D)) (hZ : Z ≤ B) : Sm B q := by
  obtain ⟨z, h1, h2⟩ := hz
  have hden : ((q.den : Nat) : Int) ≠ 0 := by have := q.den_nz; omega
  have e : Rat.divInt q.num q.den = Rat.divInt z D := by
    rw [Rat.num_divInt_den, Rat.divInt_eq_div]
    have : ((D : Int) : Rat) ≠ 0 := by
      intro e
      apply h0
      have := congrArg Rat.num e
      simpa using this
    rw [← h1]
    grind
  rw [Rat.divInt_eq_divInt_iff hden h0] at e
  have hc := q.reduced
  have hd1 : q.den ∣ D.natAbs := by
    have : q.den ∣ q.num.natAbs * D.natAbs := by
      rw [← Int.natAbs_mul, e, Int.natAbs_mul, Int.natAbs_natCast]
      exact Nat.dvd_mul_left _ _
    exact (Nat.Coprime.symm hc).dvd_of_dvd_mul_left this
  have hd2 : q.num.natAbs ∣ z.natAbs := by
    have : q.num.natAbs ∣ z.natAbs * q.den := by
      have e2 := congrArg Int.natAbs e
      rw [Int.natAbs_mul, Int.natAbs_mul, Int.natAbs_natCast] at e2
      rw [← e2]
      exact Nat.dvd_mul_right _ _
    exact hc.dvd_of_dvd_mul_right this
  refine ⟨?_, ?_⟩
  · by_cases hz0 : z = 0
    · rw [hz0, Int.zero_mul] at e
      rcases Int.mul_eq_zero.1 e with e | e
      · rw [e]; simp
      · exact absurd e h0
    · have := Nat.le_of_dvd (by omega) hd2
      omega
  · have := Nat.le_of_dvd (by omega) hd1
    omega

theorem mul_of_div {p m d : Rat} (hne : d ≠ 0) (h : m / d = p) : p * d = m := by grind

theorem mul_den (p : Rat) : p * (((p.den : Nat) : Int) : Rat) = ((p.num : Int) : Rat) := by
  have h := Rat.num_divInt_den p
  rw [Rat.divInt_eq_div] at h
  have hne : (((p.den : Nat) : Int) : Rat) ≠ 0 := by
    intro e
    have := congrArg Rat.num e
    have h0 := p.den_nz
    simp at this
    omega
  exact mul_of_div hne h

theorem Sm.mul {B C : Nat} {p q : Rat} (hp : Sm B p) (hq : Sm C q) : Sm (B * C) (p * q) := by
  refine sm_of_whole (D := ((p.den * q.den : Nat) : Int)) (Z := B * C) ?_ ?_ ⟨p.num * q.num, ?_, ?_⟩ (Nat.le_refl _)
  · have h1 := p.den_nz
    have h2 := q.den_nz
    have := Nat.mul_ne_zero h1 h2
    omega
  · rw [Int.natAbs_natCast]; exact Nat.mul_le_mul hp.2 hq.2
  · have e1 := mul_den p
    have e2 := mul_den q
    have e3 : (((p.den * q.den : Nat) : Int) : Rat) = (((p.den : Nat) : Int) : Rat) * (((q.den : Nat) : Int) : Rat) := by rw [Int.natCast_mul]; simp
    have e4 : ((p.num * q.num : Int) : Rat) = ((p.num : Int) : Rat) * ((q.num : Int) : Rat) := by simp
    rw [e3, e4, ← e1, ← e2]
    grind
  · rw [Int.natAbs_mul]; exact Nat.mul_le_mul hp.1 hq.1

theorem den_abs (q : Rat) : ((q.den : Nat) : Int).natAbs = q.den := Int.natAbs_natCast _

theorem plusR (p q : Rat) (w : World) {B C : Nat} (hp : Sm B p) (hq : Sm C q) (h : B * C ≤ 4500000000000000000) :
    Calls Try.prog 55 #[enc p, enc q] w fun e w' => e = .returned (enc (p + q)) ∧ Below w.heap.size w w' := by
  have h1 := prod_bd hp.1 (show ((q.den : Nat) : Int).natAbs ≤ C by rw [den_abs]; exact hq.2) h
  have h2 := prod_bd (a := q.num) (b := (p.den : Int)) (B := C) (C := B) hq.1 (by rw [den_abs]; exact hp.2) (by rw [Nat.mul_comm]; exact h)
  have h3 := prod_bd (a := (p.den : Int)) (b := (q.den : Int)) (B := B) (C := C) (by rw [den_abs]; exact hp.2) (by rw [den_abs]; exact hq.2) h
  have hne : (p.den : Int) * (q.den : Int) ≠ 0 := Int.mul_ne_zero (by have := p.den_nz; omega) (by have := q.den_nz; omega)
  rw [← enc_fr (p.num * q.den + q.num * p.den) (p.den * q.den) hne (p + q) (by
    rw [← Rat.divInt_add_divInt _ _ (by have := p.den_nz; omega) (by have := q.den_nz; omega), Rat.num_divInt_den, Rat.num_divInt_den])]
  exact plus_calls p.num p.den q.num q.den w h1.1 h1.2 h2.1 h2.2 h3.1 h3.2 hne

theorem minusR (p q : Rat) (w : World) {B C : Nat} (hp : Sm B p) (hq : Sm C q) (h : B * C ≤ 4500000000000000000) :
    Calls Try.prog 53 #[enc p, enc q] w fun e w' => e = .returned (enc (p - q)) ∧ Below w.heap.size w w' := by
  have h1 := prod_bd hp.1 (show ((q.den : Nat) : Int).natAbs ≤ C by rw [den_abs]; exact hq.2) h
  have h2 := prod_bd (a := q.num) (b := (p.den : Int)) (B := C) (C := B) hq.1 (by rw [den_abs]; exact hp.2) (by rw [Nat.mul_comm]; exact h)
  have h3 := prod_bd (a := (p.den : Int)) (b := (q.den : Int)) (B := B) (C := C) (by rw [den_abs]; exact hp.2) (by rw [den_abs]; exact hq.2) h
  have hne : (p.den : Int) * (q.den : Int) ≠ 0 := Int.mul_ne_zero (by have := p.den_nz; omega) (by have := q.den_nz; omega)
  rw [← enc_fr (p.num * q.den - q.num * p.den) (p.den * q.den) hne (p - q) (by
    rw [← Rat.divInt_sub_divInt _ _ (by have := p.den_nz; omega) (by have := q.den_nz; omega), Rat.num_divInt_den, Rat.num_divInt_den])]
  exact minus_calls p.num p.den q.num q.den w h1.1 h1.2 h2.1 h2.2 h3.1 h3.2 hne

theorem timesR (p q : Rat) (w : World) {B C : Nat} (hp : Sm B p) (hq : Sm C q) (h : B * C ≤ 4500000000000000000) :
    Calls Try.prog 142 #[enc p, enc q] w fun e w' => e = .returned (enc (p * q)) ∧ Below w.heap.size w w' := by
  have h1 := prod_bd hp.1 hq.1 h
  have h3 := prod_bd (a := (p.den : Int)) (b := (q.den : Int)) (B := B) (C := C) (by rw [den_abs]; exact hp.2) (by rw [den_abs]; exact hq.2) h
  have hne : (p.den : Int) * (q.den : Int) ≠ 0 := Int.mul_ne_zero (by have := p.den_nz; omega) (by have := q.den_nz; omega)
  rw [← enc_fr (p.num * q.num) (p.den * q.den) hne (p * q) (by
    rw [← Rat.divInt_mul_divInt, Rat.num_divInt_den, Rat.num_divInt_den])]
  exact times_calls p.num p.den q.num q.den w h1.1 h1.2 h3.1 h3.2 hne

theorem num_ne {q : Rat} (h : q ≠ 0) : q.num ≠ 0 := by
  intro e
  exact h (Rat.num_eq_zero.1 e)

theorem overR (p q : Rat) (w : World) {B C : Nat} (hp : Sm B p) (hq : Sm C q) (h : B * C ≤ 4500000000000000000) (hq0 : q ≠ 0) :
    Calls Try.prog 141 #[enc p, enc q] w fun e w' => e = .returned (enc (p / q)) ∧ Below w.heap.size w w' := by
  have h1 := prod_bd hp.1 (show ((q.den : Nat) : Int).natAbs ≤ C by rw [den_abs]; exact hq.2) h
  have h3 := prod_bd (a := (p.den : Int)) (b := q.num) (B := B) (C := C) (by rw [den_abs]; exact hp.2) hq.1 h
  have hne : (p.den : Int) * q.num ≠ 0 := Int.mul_ne_zero (by have := p.den_nz; omega) (num_ne hq0)
  rw [← enc_fr (p.num * q.den) (p.den * q.num) hne (p / q) (by
    rw [← Rat.divInt_mul_divInt, Rat.num_divInt_den, ← Rat.inv_divInt, Rat.num_divInt_den, Rat.div_def])]
  exact over_calls p.num p.den q.num q.den w h1.1 h1.2 h3.1 h3.2 hne

/-- -1, 0, 1 -/
def sgR (q : Rat) : Int := if q < 0 then -1 else if 0 < q then 1 else 0

theorem sgn_num (q : Rat) : RatM.sgn q.num = sgR q := by
  have h1 : q < 0 ↔ q.num < 0 := by
    have := Rat.num_nonneg (q := q)
    constructor
    · intro h
      by_cases e : q.num < 0
      · exact e
      · have := this.1 (by omega); grind
    · intro h
      by_cases e : q < 0
      · exact e
      · have := this.2 (by grind); omega
  have h2 : 0 < q ↔ 0 < q.num := by
    have := Rat.num_nonneg (q := q)
    constructor
    · intro h
      have a := this.2 (by grind)
      by_cases e : q.num = 0
      · rw [Rat.num_eq_zero.1 e] at h; grind
      · omega
    · intro h
      have a := this.1 (by omega)
      by_cases e : q = 0
      · rw [e] at h; simp at h
      · grind
  unfold RatM.sgn sgR
  by_cases e1 : q < 0
  · rw [if_pos e1, if_pos (h1.1 e1)]
  · rw [if_neg e1, if_neg (fun h => e1 (h1.2 h))]
    by_cases e2 : 0 < q
    · rw [if_pos e2, if_pos (h2.1 e2)]
    · rw [if_neg e2, if_neg (fun h => e2 (h2.2 h))]

theorem signR (q : Rat) (w : World) :
    Calls Try.prog 54 #[enc q] w fun e w' => e = .returned (.int .i64 (sgR q)) ∧ Below w.heap.size w w' := by
  rw [← sgn_num]
  exact sign_calls q.num q.den w

theorem sgR_neg {q : Rat} (h : q < 0) : sgR q = -1 := if_pos h
theorem sgR_pos {q : Rat} (h : 0 < q) : sgR q = 1 := by unfold sgR; rw [if_neg (by grind), if_pos h]
theorem sgR_zero {q : Rat} (h : q = 0) : sgR q = 0 := by unfold sgR; rw [if_neg (by grind), if_neg (by grind)]

theorem enc_int (n : Int) : enc (n : Rat) = .agg #[.int .i64 n, .int .i64 1] := by
  unfold enc
  simp

set_option maxHeartbeats 400000 in
theorem wholeR (f : Value) (a b n : Int) (hf : f = .agg #[.int .i64 a, .int .i64 b]) (w : World) :
    Calls Try.prog 143 #[f, .int .i64 n] w fun e w' => e = .returned (enc (n : Rat)) ∧ Below w.heap.size w w' := by
  subst hf
  rw [enc_int]
  go_enter Try.func143, Try.ntmps143
  go_wp2
  refine bodyPost_ret (v := .agg #[.int .i64 n, .int .i64 1]) (by simp [results, Try.results143, go_sem]) rfl ⟨rfl, ?_⟩
  go_grown

theorem plusV (p q : Rat) (w : World) {B C : Nat} (hp : Sm B p) (hq : Sm C q) (h : B * C ≤ 4500000000000000000) :
    Calls Try.prog 55 #[.agg #[.int .i64 (p).num, .int .i64 (p).den], .agg #[.int .i64 (q).num, .int .i64 (q).den]] w fun e w' => e = .returned (.agg #[.int .i64 (p + q).num, .int .i64 (p + q).den]) ∧ Below w.heap.size w w' := plusR p q w hp hq h

theorem minusV (p q : Rat) (w : World) {B C : Nat} (hp : Sm B p) (hq : Sm C q) (h : B * C ≤ 4500000000000000000) :
    Calls Try.prog 53 #[.agg #[.int .i64 (p).num, .int .i64 (p).den], .agg #[.int .i64 (q).num, .int .i64 (q).den]] w fun e w' => e = .returned (.agg #[.int .i64 (p - q).num, .int .i64 (p - q).den]) ∧ Below w.heap.size w w' := minusR p q w hp hq h

theorem timesV (p q : Rat) (w : World) {B C : Nat} (hp : Sm B p) (hq : Sm C q) (h : B * C ≤ 4500000000000000000) :
    Calls Try.prog 142 #[.agg #[.int .i64 (p).num, .int .i64 (p).den], .agg #[.int .i64 (q).num, .int .i64 (q).den]] w fun e w' => e = .returned (.agg #[.int .i64 (p * q).num, .int .i64 (p * q).den]) ∧ Below w.heap.size w w' := timesR p q w hp hq h

theorem overV (p q : Rat) (w : World) {B C : Nat} (hp : Sm B p) (hq : Sm C q) (h : B * C ≤ 4500000000000000000) (hq0 : q ≠ 0) :
    Calls Try.prog 141 #[.agg #[.int .i64 (p).num, .int .i64 (p).den], .agg #[.int .i64 (q).num, .int .i64 (q).den]] w fun e w' => e = .returned (.agg #[.int .i64 (p / q).num, .int .i64 (p / q).den]) ∧ Below w.heap.size w w' := overR p q w hp hq h hq0

theorem signV (q : Rat) (w : World) :
    Calls Try.prog 54 #[.agg #[.int .i64 (q).num, .int .i64 (q).den]] w fun e w' => e = .returned (.int .i64 (sgR q)) ∧ Below w.heap.size w w' := signR q w

theorem wholeV (a b n : Int) (w : World) :
    Calls Try.prog 143 #[.agg #[.int .i64 a, .int .i64 b], .int .i64 n] w fun e w' => e = .returned (.agg #[.int .i64 (n : Rat).num, .int .i64 (n : Rat).den]) ∧ Below w.heap.size w w' := wholeR _ a b n rfl w

end Go.Proofs.Ytnmcgbfhgmmcpaa

namespace Go.Proofs.Ytnmcgbfhgmmcpaa
open Go.RowKit

set_option maxHeartbeats 400000 in
theorem ratOf_no (n d : Int) (w : World) (h : ¬ (-1000000 ≤ n ∧ n ≤ 1000000 ∧ -1000000 ≤ d ∧ d ≤ 1000000)) :
    Calls Try.prog 50 #[.agg #[.int .i64 n, .int .i64 d]] w fun e w' => e = .returned (.agg #[.int .i64 0, .int .i64 0]) ∧ Below w.heap.size w w' := by
  have hh : n < -1000000 ∨ (-1000000 ≤ n ∧ 1000000 < n) ∨ (-1000000 ≤ n ∧ n ≤ 1000000 ∧ d < -1000000) ∨ (-1000000 ≤ n ∧ n ≤ 1000000 ∧ -1000000 ≤ d ∧ 1000000 < d) := by omega
  clear h
  rcases hh with h1 | ⟨h1, h2⟩ | ⟨h1, h2, h3⟩ | ⟨h1, h2, h3, h4⟩
  · go_enter Try.func50, Try.ntmps50
    go_wp2_with (first | (go_at_call 49; refine (isPart_no1 _ _ (by assumption)).mono ?_; rintro e w' ⟨rfl, rfl⟩))
    refine bodyPost_ret (v := .agg #[.int .i64 0, .int .i64 0]) (by simp [results, Try.results50, go_sem]) rfl ⟨rfl, ?_⟩
    go_grown
  · go_enter Try.func50, Try.ntmps50
    go_wp2_with (first | (go_at_call 49; refine (isPart_no2 _ _ (by assumption) (by assumption)).mono ?_; rintro e w' ⟨rfl, rfl⟩))
    refine bodyPost_ret (v := .agg #[.int .i64 0, .int .i64 0]) (by simp [results, Try.results50, go_sem]) rfl ⟨rfl, ?_⟩
    go_grown
  · go_enter Try.func50, Try.ntmps50
    go_wp2_with fail
    refine (isPart_yes n _ (by assumption) (by assumption)).mono ?_
    rintro e w' ⟨rfl, rfl⟩
    go_wp2_with fail
    refine (isPart_no1 d _ (by assumption)).mono ?_
    rintro e w' ⟨rfl, rfl⟩
    go_wp2
    refine bodyPost_ret (v := .agg #[.int .i64 0, .int .i64 0]) (by simp [results, Try.results50, go_sem]) rfl ⟨rfl, ?_⟩
    go_grown
  · go_enter Try.func50, Try.ntmps50
    go_wp2_with fail
    refine (isPart_yes n _ (by assumption) (by assumption)).mono ?_
    rintro e w' ⟨rfl, rfl⟩
    go_wp2_with fail
    refine (isPart_no2 d _ (by assumption) (by assumption)).mono ?_
    rintro e w' ⟨rfl, rfl⟩
    go_wp2
    refine bodyPost_ret (v := .agg #[.int .i64 0, .int .i64 0]) (by simp [results, Try.results50, go_sem]) rfl ⟨rfl, ?_⟩
    go_grown

set_option maxHeartbeats 400000 in
theorem iAdd_no1 (a b c d : Int) (w : World) (h : ¬ OkR a b) :
    Calls Try.prog 12 #[.agg #[.int .i64 a, .int .i64 b], .agg #[.int .i64 c, .int .i64 d]] w fun e w' => e = .returned (.agg #[.int .i64 0, .int .i64 0]) ∧ Below w.heap.size w w' := by
  have H := hid h
  clear h
  go_enter Try.func12, Try.ntmps12
  go_wp2_with fail
  refine (isRat_no a b _ H.out).mono ?_
  rintro e wE ⟨rfl, hb⟩
  obtain ⟨hc, hf⟩ := bcell hb
  have c0 : wE.cell? ⟨w.heap.size + 1 + 1, 0, none⟩ = some (.int .i64 0) := (hc _ 0 (by simp)).trans (by simp [go_sem])
  have c1 : wE.cell? ⟨w.heap.size + 1 + 1, 1, none⟩ = some (.int .i64 0) := (hc _ 1 (by simp)).trans (by simp [go_sem])
  go_wp2
  refine bodyPost_ret (v := .agg #[.int .i64 0, .int .i64 0]) (by simp [results, Try.results12, go_sem, c0, c1]) rfl ⟨rfl, ?_⟩
  exact ((below_alloc3 hb).setCell (by simp; omega) _).setCell (by simp; omega) _

set_option maxHeartbeats 400000 in
theorem iAdd_no2 (a b c d : Int) (w : World) (h : OkR a b) (h' : ¬ OkR c d) :
    Calls Try.prog 12 #[.agg #[.int .i64 a, .int .i64 b], .agg #[.int .i64 c, .int .i64 d]] w fun e w' => e = .returned (.agg #[.int .i64 0, .int .i64 0]) ∧ Below w.heap.size w w' := by
  have H := hid h
  have H' := hid h'
  clear h h'
  go_enter Try.func12, Try.ntmps12
  go_wp2_with fail
  refine (isRat_yes a b _ H.out).mono ?_
  rintro e w1 ⟨rfl, hb1⟩
  obtain ⟨hc1, hf1⟩ := bcell hb1
  have d0 : w1.cell? ⟨w.heap.size + 1, 0, none⟩ = some (.int .i64 c) := (hc1 _ 0 (by simp)).trans (by simp [go_sem])
  have d1 : w1.cell? ⟨w.heap.size + 1, 1, none⟩ = some (.int .i64 d) := (hc1 _ 1 (by simp)).trans (by simp [go_sem])
  clear hc1 hf1
  go_wp2_with fail
  refine (isRat_no c d _ H'.out).mono ?_
  rintro e wE ⟨rfl, hb2⟩
  have hb := bt hb1 hb2
  obtain ⟨hc, hf⟩ := bcell hb
  have c0 : wE.cell? ⟨w.heap.size + 1 + 1, 0, none⟩ = some (.int .i64 0) := (hc _ 0 (by simp)).trans (by simp [go_sem])
  have c1 : wE.cell? ⟨w.heap.size + 1 + 1, 1, none⟩ = some (.int .i64 0) := (hc _ 1 (by simp)).trans (by simp [go_sem])
  go_wp2
  refine bodyPost_ret (v := .agg #[.int .i64 0, .int .i64 0]) (by simp [results, Try.results12, go_sem, c0, c1]) rfl ⟨rfl, ?_⟩
  exact ((below_alloc3 hb).setCell (by simp; omega) _).setCell (by simp; omega) _

theorem okR_sum (a b c d : Int) (h : OkR a b) (h' : OkR c d) :
    (-1000000000000 ≤ a * d ∧ a * d ≤ 1000000000000) ∧ (-1000000000000 ≤ c * b ∧ c * b ≤ 1000000000000) ∧ (0 < b * d ∧ b * d ≤ 1000000000000) := by
  obtain ⟨h1, h2, h3, h4, _⟩ := h
  obtain ⟨k1, k2, k3, k4, _⟩ := h'
  exact ⟨mul_bd6 a d h3 h4 (by omega) k2, mul_bd6 c b k3 k4 (by omega) h2, Int.mul_pos (by omega) (by omega), (mul_bd6 b d (by omega) h2 (by omega) k2).2⟩

theorem okR_fr (n d : Int) (h0 : 0 < d) : OkR (RatM.frN n d) (RatM.frD n d) ↔ (-1000000 ≤ RatM.frN n d ∧ RatM.frN n d ≤ 1000000 ∧ -1000000 ≤ RatM.frD n d ∧ RatM.frD n d ≤ 1000000) := by
  have h1 := RatM.frD_pos n d (by omega)
  have h2 := RatM.fr_coprime n d (by omega)
  unfold OkR
  omega

end Go.Proofs.Ytnmcgbfhgmmcpaa
