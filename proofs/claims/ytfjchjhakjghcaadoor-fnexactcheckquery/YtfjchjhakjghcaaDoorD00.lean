namespace Go.Proofs.YtfjchjhakjghcaaDoor.RatM

theorem gcd_step (a b : Int) : Int.gcd b (a.tmod b) = Int.gcd a b := by
  unfold Int.gcd
  rw [Int.natAbs_tmod, Nat.gcd_comm a.natAbs, Nat.gcd_rec b.natAbs a.natAbs, Nat.gcd_comm]

theorem natAbs_tmod_lt (a b : Int) (h : b ≠ 0) : (a.tmod b).natAbs < b.natAbs := by
  rw [Int.natAbs_tmod]; exact Nat.mod_lt _ (by omega)

theorem gcd_zero (a : Int) : (Int.gcd a 0 : Int) = max a (-a) := by
  simp; omega

theorem gcd_pos (a b : Int) (h : b ≠ 0) : 0 < (Int.gcd a b : Int) := by
  have := Int.gcd_pos_of_ne_zero_right a h; omega

theorem gcd_le (a b : Int) (h : b ≠ 0) : (Int.gcd a b : Int) ≤ b.natAbs := by
  have := Nat.gcd_le_right (n := b.natAbs) a.natAbs (by omega)
  unfold Int.gcd; omega

/-- num/den without common divisors, den above 0 -/
def frN (num den : Int) : Int := if den < 0 then (-num).tdiv (Int.gcd num den) else num.tdiv (Int.gcd num den)
def frD (num den : Int) : Int := if den < 0 then (-den).tdiv (Int.gcd num den) else den.tdiv (Int.gcd num den)

theorem tdiv_abs_le (a g : Int) : (a.tdiv g).natAbs ≤ a.natAbs := by
  rw [Int.natAbs_tdiv]; exact Nat.div_le_self _ _

theorem div_gcd_coprime (a b : Int) (h : b ≠ 0) : Int.gcd (a.tdiv (Int.gcd a b)) (b.tdiv (Int.gcd a b)) = 1 := by
  unfold Int.gcd
  rw [Int.natAbs_tdiv, Int.natAbs_tdiv, Int.natAbs_natCast]
  exact Nat.gcd_div_gcd_div_gcd_of_pos_right (by omega)

theorem fr_coprime (a b : Int) (h : b ≠ 0) : Int.gcd (frN a b) (frD a b) = 1 := by
  unfold frN frD
  split
  · have := div_gcd_coprime (-a) (-b) (by omega)
    simpa using this
  · exact div_gcd_coprime a b h

theorem frN_abs (a b : Int) : (frN a b).natAbs ≤ a.natAbs := by
  unfold frN; split
  · have := tdiv_abs_le (-a) (Int.gcd a b); omega
  · exact tdiv_abs_le a _

theorem frD_abs (a b : Int) : (frD a b).natAbs ≤ b.natAbs := by
  unfold frD; split
  · have := tdiv_abs_le (-b) (Int.gcd a b); omega
  · exact tdiv_abs_le b _

theorem tdiv_pos_of (a g : Int) (hg : 0 < g) (h : g ≤ a) : 0 < a.tdiv g := by
  rw [Int.tdiv_eq_ediv_of_nonneg (by omega)]
  have := Int.ediv_le_ediv hg h
  rw [Int.ediv_self (by omega)] at this
  omega

theorem frD_pos (a b : Int) (h : b ≠ 0) : 0 < frD a b := by
  have h1 := gcd_pos a b h
  have h2 := gcd_le a b h
  unfold frD; split
  · exact tdiv_pos_of _ _ h1 (by omega)
  · exact tdiv_pos_of _ _ h1 (by omega)

/-- the model's form: division by the signed divisor -/
theorem fr_neg (x g : Int) : x.tdiv (-g) = (-x).tdiv g := by
  rw [Int.tdiv_neg, Int.neg_tdiv]

theorem gcd_abs (a b : Int) : Int.gcd (a.natAbs : Int) (b.natAbs : Int) = Int.gcd a b := by
  unfold Int.gcd; simp

theorem gcd_neg_neg (a b : Int) : Int.gcd (-a) (-b) = Int.gcd a b := by simp

/-- the sign of a quotient by a divisor -/
theorem dvd_tdiv (x g : Int) (hd : g ∣ x) : x = g * x.tdiv g := by
  rw [Int.mul_tdiv_cancel' hd]

theorem frN_mul (a b : Int) : (if b < 0 then -a else a) = (Int.gcd a b : Int) * frN a b := by
  have h1 : (Int.gcd a b : Int) ∣ a := Int.gcd_dvd_left ..
  unfold frN
  split
  · rw [Int.mul_tdiv_cancel']; exact (Int.dvd_neg).2 h1
  · rw [Int.mul_tdiv_cancel' h1]

theorem frN_sign (a b : Int) (h : 0 < b) : (frN a b < 0 ↔ a < 0) ∧ (0 < frN a b ↔ 0 < a) := by
  have h1 := gcd_pos a b (by omega)
  have h2 := frN_mul a b
  rw [if_neg (by omega)] at h2
  generalize (Int.gcd a b : Int) = g at *
  generalize frN a b = n at *
  subst h2
  constructor
  · constructor
    · intro h; exact Int.mul_neg_of_pos_of_neg h1 h
    · intro h
      rcases Int.lt_or_le n 0 with hn | hn
      · exact hn
      · have := Int.mul_nonneg (Int.le_of_lt h1) hn; omega
  · constructor
    · intro h; exact Int.mul_pos h1 h
    · intro h
      rcases Int.lt_or_le 0 n with hn | hn
      · exact hn
      · have := Int.mul_nonneg (Int.le_of_lt h1) (show 0 ≤ -n by omega); rw [Int.mul_neg] at this; omega

def sgn (n : Int) : Int := if n < 0 then -1 else if 0 < n then 1 else 0

theorem sgn_congr (x n : Int) (h : (x < 0 ↔ n < 0) ∧ (0 < x ↔ 0 < n)) : sgn x = sgn n := by
  obtain ⟨h1, h2⟩ := h
  unfold sgn
  repeat' split
  all_goals omega

theorem sgn_lt (n : Int) (h : n < 0) : sgn n = -1 := by unfold sgn; rw [if_pos h]
theorem sgn_gt (n : Int) (h : 0 < n) : sgn n = 1 := by unfold sgn; rw [if_neg (by omega), if_pos h]
theorem sgn_eq (n : Int) (h : n = 0) : sgn n = 0 := by unfold sgn; rw [if_neg (by omega), if_neg (by omega)]

end Go.Proofs.YtfjchjhakjghcaaDoor.RatM
