namespace Go.Proofs.Ytnmcgbfhgmmcpaa.RatM

theorem gcd_step (a b : Int) : Int.gcd b (a.tmod b) = Int.gcd a b := by
  unfold Int.gcd
  rw [Int.natAbs_tmod, Nat.gcd_comm a.natAbs, Nat.gcd_rec b.natAbs a.natAbs, Nat.gcd_comm]

theorem natAbs_tmod_lt (a b : Int) (h : b ≠ 0) : (a.tmod b).natAbs < b.natAbs := by
  rw [Int.natAbs_tmod]; exact Nat.mod_lt _ (by omega)

theorem gcd_zero (a : Int) : (Int.gcd a 0 : Int) = max a (-a) := by
  simp; omega

theorem gcd_pos (a b : Int) (h : b ≠ 0) : 0 < (Int.gcd a b : Int) := by
  have := Int.gcd_pos_of_ne_zero_right a h; omega

theorem gcd_le (a b : Int) (h : b ≠ 0) : (Int.gcd a b : Int) ≤ b.natAbs := by
  have := Nat.gcd_le_right (n := b.natAbs) a.natAbs (by omega)
  unfold Int.gcd; omega

/-- num/den without common divisors, den above 0 -/
def frN (num den : Int) : Int := if den < 0 then (-num).tdiv (Int.gcd num den) else num.tdiv (Int.gcd num den)
def frD (num den : Int) : Int := if den < 0 then (-den).tdiv (Int.gcd num den) else den.tdiv (Int.gcd num den)

theorem tdiv_abs_le (a g : Int) : (a.tdiv g).natAbs ≤ a.natAbs := by
  rw [Int.natAbs_tdiv]; exact Nat.div_le_self _ _

theorem div_gcd_coprime (a b : Int) (h : b ≠ 0) : Int.gcd (a.tdiv (Int.gcd a b)) (b.tdiv (Int.gcd a b)) = 1 := by
  unfold Int.gcd
  rw [Int.natAbs_tdiv, Int.natAbs_tdiv, Int.natAbs_natCast]
  exact Nat.gcd_div_gcd_div_gcd_of_pos_right (by omega)

theorem fr_coprime (a b : Int) (h : b ≠ 0) : Int.gcd (frN a b) (frD a b) = 1 := by
  unfold frN frD
  split
  · have := div_gcd_coprime (-a) (-b) (by omega)
    simpa using this
  · exact div_gcd_coprime a b h

theorem frN_abs (a b : Int) : (frN a b).natAbs ≤ a.natAbs := by
  unfold frN; split
  · have := tdiv_abs_le (-a) (Int.gcd a b); omega
  · exact tdiv_abs_le a _

theorem frD_abs (a b : Int) : (frD a b).natAbs ≤ b.natAbs := by
  unfold frD; split
  · have := tdiv_abs_le (-b) (Int.gcd a b); omega
  · exact tdiv_abs_le b _

theorem tdiv_pos_of (a g : Int) (hg : 0 < g) (h : g ≤ a) : 0 < a.tdiv g := by
  rw [Int.tdiv_eq_ediv_of_nonneg (by omega)]
  have := Int.ediv_le_ediv hg h
  rw [Int.ediv_self (by omega)] at this
  omega

theorem frD_pos (a b : Int) (h : b ≠ 0) : 0 < frD a b := by
  have h1 := gcd_pos a b h
  have h2 := gcd_le a b h
  unfold frD; split
  · exact tdiv_pos_of _ _ h1 (by omega)
  · exact tdiv_pos_of _ _ h1 (by omega)

/-- the model's form: division by the signed divisor -/
theorem fr_neg (x g : Int) : x.tdiv (-g) = (-x).tdiv g := by
  rw [Int.tdiv_neg, Int.neg_tdiv]

theorem gcd_abs (a b : Int) : Int.gcd (a.natAbs : Int) (b.natAbs : Int) = Int.gcd a b := by
  unfold Int.gcd; simp

theorem gcd_neg_neg (a b : Int) : Int.gcd (-a) (-b) = Int.gcd a b := by simp

/-- the sign of a quotient by a divisor -/
theorem dvd_tdiv (x g : Int) (hd : g ∣ x) : x = g * x.tdiv g := by
  rw [Int.mul_tdiv_cancel' hd]

theorem frN_mul (a b : Int) : (if b < 0 then -a else a) = (Int.gcd a b : Int) * frN a b := by
  have h1 : (Int.gcd a b : Int) ∣ a := Int.gcd_dvd_left ..
  unfold frN
  split
  · rw [Int.mul_tdiv_cancel']; exact (Int.dvd_neg).2 h1
  · rw [Int.mul_tdiv_cancel' h1]

theorem frN_sign (a b : Int) (h : 0 < b) : (frN a b < 0 ↔ a < 0) ∧ (0 < frN a b ↔ 0 < a) := by
  have h1 := gcd_pos a b (by omega)
  have h2 := frN_mul a b
  rw [if_neg (by omega)] at h2
  generalize (Int.gcd a b : Int) = g at *
  generalize frN a b = n at *
  subst h2
  constructor
  · constructor
    · intro h; exact Int.mul_neg_of_pos_of_neg h1 h
    · intro h
      rcases Int.lt_or_le n 0 with hn | hn
      · exact hn
      · have := Int.mul_nonneg (Int.le_of_lt h1) hn; omega
  · constructor
    · intro h; exact Int.mul_pos h1 h
    · intro h
      rcases Int.lt_or_le 0 n with hn | hn
      · exact hn
      · have := Int.mul_nonneg (Int.le_of_lt h1) (show 0 ≤ -n by omega); rw [Int.mul_neg] at this; omega

def sgn (n : Int) : Int := if n < 0 then -1 else if 0 < n then 1 else 0

theorem sgn_congr (x n : Int) (h : (x < 0 ↔ n < 0) ∧ (0 < x ↔ 0 < n)) : sgn x = sgn n := by
  obtain ⟨h1, h2⟩ := h
  unfold sgn
  repeat' split
  all_goals omega

theorem sgn_lt (n : Int) (h : n < 0) : sgn n = -1 := by unfold sgn; rw [if_pos h]
theorem sgn_gt (n : Int) (h : 0 < n) : sgn n = 1 := by unfold sgn; rw [if_neg (by omega), if_pos h]
theorem sgn_eq (n : Int) (h : n = 0) : sgn n = 0 := by unfold sgn; rw [if_neg (by omega), if_neg (by omega)]

end Go.Proofs.Ytnmcgbfhgmmcpaa.RatM

/-
  Plain mathematics: finite sums of rationals, determinants by expansion along the first row (M j i: column j, row i), Cramer's rule, a bound.
-/
namespace Go.Proofs.Ytnmcgbfhgmmcpaa.Cov

def sm : Nat → (Nat → Rat) → Rat
  | 0, _ => 0
  | n + 1, f => sm n f + f n

theorem sm_congr {n : Nat} {f g : Nat → Rat} (h : ∀ i, i < n → f i = g i) : sm n f = sm n g := by
  induction n with
  | zero => rfl
  | succ n ih =>
    show sm n f + f n = sm n g + g n
    rw [ih (fun i hi => h i (by omega)), h n (by omega)]

theorem sm_zero {n : Nat} {f : Nat → Rat} (h : ∀ i, i < n → f i = 0) : sm n f = 0 := by
  induction n with
  | zero => rfl
  | succ n ih =>
    show sm n f + f n = 0
    rw [ih (fun i hi => h i (by omega)), h n (by omega)]
    grind

theorem sm_add (n : Nat) (f g : Nat → Rat) : sm n (fun i => f i + g i) = sm n f + sm n g := by
  induction n with
  | zero => show (0 : Rat) = 0 + 0; grind
  | succ n ih =>
    show sm n (fun i => f i + g i) + (f n + g n) = (sm n f + f n) + (sm n g + g n)
    rw [ih]; grind

theorem sm_mul (n : Nat) (c : Rat) (f : Nat → Rat) : sm n (fun i => c * f i) = c * sm n f := by
  induction n with
  | zero => show (0 : Rat) = c * 0; grind
  | succ n ih =>
    show sm n (fun i => c * f i) + c * f n = c * (sm n f + f n)
    rw [ih]; grind

theorem sm_single {n k : Nat} {f : Nat → Rat} (hk : k < n) (h : ∀ i, i < n → i ≠ k → f i = 0) : sm n f = f k := by
  induction n with
  | zero => omega
  | succ n ih =>
    show sm n f + f n = f k
    by_cases e : k = n
    · subst e
      rw [sm_zero (fun i hi => h i (by omega) (by omega))]; grind
    · rw [ih (by omega) (fun i hi hne => h i (by omega) hne), h n (by omega) (by omega)]; grind

theorem sm_two {n k l : Nat} {f : Nat → Rat} (hkl : k < l) (hl : l < n) (h : ∀ i, i < n → i ≠ k → i ≠ l → f i = 0) : sm n f = f k + f l := by
  induction n with
  | zero => omega
  | succ n ih =>
    show sm n f + f n = f k + f l
    by_cases e : l = n
    · subst e
      rw [sm_single (k := k) hkl (fun i hi hne => h i (by omega) hne (by omega))]
    · rw [ih (by omega) (fun i hi a b => h i (by omega) a b), h n (by omega) (by omega) (by omega)]; grind

theorem sm_swap (n m : Nat) (f : Nat → Nat → Rat) : sm n (fun i => sm m (fun j => f i j)) = sm m (fun j => sm n (fun i => f i j)) := by
  induction n with
  | zero => exact (sm_zero (fun _ _ => rfl)).symm
  | succ n ih =>
    show sm n (fun i => sm m (fun j => f i j)) + sm m (fun j => f n j) = sm m (fun j => sm n (fun i => f i j) + f n j)
    rw [ih, sm_add]

theorem sm_nonneg {n : Nat} {f : Nat → Rat} (h : ∀ i, i < n → 0 ≤ f i) : 0 ≤ sm n f := by
  induction n with
  | zero => show (0 : Rat) ≤ 0; grind
  | succ n ih =>
    show 0 ≤ sm n f + f n
    have h1 := ih (fun i hi => h i (by omega))
    have h2 := h n (by omega)
    grind

theorem sm_le {n : Nat} {f g : Nat → Rat} (h : ∀ i, i < n → f i ≤ g i) : sm n f ≤ sm n g := by
  induction n with
  | zero => show (0 : Rat) ≤ 0; grind
  | succ n ih =>
    show sm n f + f n ≤ sm n g + g n
    have h1 := ih (fun i hi => h i (by omega))
    have h2 := h n (by omega)
    grind

/-- where a sum of numbers that aren't negative is 0, each is -/
theorem sm_nonneg_zero {n : Nat} {f : Nat → Rat} (h : ∀ i, i < n → 0 ≤ f i) (hz : sm n f ≤ 0) : ∀ i, i < n → f i = 0 := by
  induction n with
  | zero => intro i hi; omega
  | succ n ih =>
    intro i hi
    have h1 := sm_nonneg (fun i hi => h i (by omega) : ∀ i, i < n → 0 ≤ f i)
    have h2 := h n (by omega)
    have hz' : sm n f + f n ≤ 0 := hz
    by_cases e : i = n
    · subst e; grind
    · exact ih (fun i hi => h i (by omega)) (by grind) i (by omega)

/-! ### determinants -/

def skip (j a : Nat) : Nat := if a < j then a else a + 1
def unskip (j k : Nat) : Nat := if k < j then k else k - 1
def sg (j : Nat) : Rat := if j % 2 = 0 then 1 else -1
def minor (j : Nat) (M : Nat → Nat → Rat) : Nat → Nat → Rat := fun a b => M (skip j a) (b + 1)

def det : Nat → (Nat → Nat → Rat) → Rat
  | 0, _ => 1
  | m + 1, M => sm (m + 1) (fun j => sg j * M j 0 * det m (minor j M))

def upd (M : Nat → Nat → Rat) (k : Nat) (v : Nat → Rat) : Nat → Nat → Rat := fun j i => if j = k then v i else M j i

theorem det_congr {m : Nat} : ∀ {M N : Nat → Nat → Rat}, (∀ j, j < m → ∀ i, i < m → M j i = N j i) → det m M = det m N := by
  induction m with
  | zero => intro M N _; rfl
  | succ m ih =>
    intro M N h
    show sm (m + 1) _ = sm (m + 1) _
    refine sm_congr (fun j hj => ?_)
    rw [h j hj 0 (by omega), ih (M := minor j M) (N := minor j N) (fun a ha b hb => ?_)]
    show M (skip j a) (b + 1) = N (skip j a) (b + 1)
    exact h _ (by unfold skip; split <;> omega) _ (by omega)

theorem minor_upd_self (M : Nat → Nat → Rat) (k : Nat) (v : Nat → Rat) : minor k (upd M k v) = minor k M := by
  funext a b
  show (if skip k a = k then v (b + 1) else M (skip k a) (b + 1)) = M (skip k a) (b + 1)
  rw [if_neg]
  unfold skip; split <;> omega

theorem minor_upd_ne (M : Nat → Nat → Rat) (j k : Nat) (v : Nat → Rat) (h : j ≠ k) : minor j (upd M k v) = upd (minor j M) (unskip j k) (fun i => v (i + 1)) := by
  funext a b
  show (if skip j a = k then v (b + 1) else M (skip j a) (b + 1)) = (if a = unskip j k then v (b + 1) else M (skip j a) (b + 1))
  by_cases e : skip j a = k
  · rw [if_pos e, if_pos]
    unfold unskip skip at *; split at e <;> split <;> omega
  · rw [if_neg e, if_neg]
    intro e2; apply e
    unfold unskip skip at *; split at e2 <;> split <;> omega

theorem det_lin {m : Nat} : ∀ (M : Nat → Nat → Rat) (k : Nat) (a b : Rat) (u v : Nat → Rat), k < m →
    det m (upd M k (fun i => a * u i + b * v i)) = a * det m (upd M k u) + b * det m (upd M k v) := by
  induction m with
  | zero => intro M k a b u v h; omega
  | succ m ih =>
    intro M k a b u v hk
    show sm (m + 1) _ = a * sm (m + 1) _ + b * sm (m + 1) _
    rw [← sm_mul, ← sm_mul, ← sm_add]
    refine sm_congr (fun j hj => ?_)
    by_cases e : j = k
    · subst e
      rw [minor_upd_self, minor_upd_self, minor_upd_self]
      have e1 : ∀ w : Nat → Rat, upd M j w j 0 = w 0 := fun w => if_pos rfl
      rw [e1, e1, e1]
      grind
    · rw [minor_upd_ne _ _ _ _ e, minor_upd_ne _ _ _ _ e, minor_upd_ne _ _ _ _ e]
      have e1 : ∀ w : Nat → Rat, upd M k w j 0 = M j 0 := fun w => if_neg e
      rw [e1, e1, e1]
      rw [ih (minor j M) (unskip j k) a b (fun i => u (i + 1)) (fun i => v (i + 1)) (by unfold unskip; split <;> omega)]
      grind

theorem skip_unskip (j k : Nat) (h : j ≠ k) : skip j (unskip j k) = k := by
  by_cases e : k < j
  · rw [show unskip j k = k from if_pos e]; exact if_pos e
  · rw [show unskip j k = k - 1 from if_neg e, show skip j (k - 1) = k - 1 + 1 from if_neg (by omega)]; omega

theorem skip_unskip1 (j k : Nat) (h1 : j ≠ k) (h2 : j ≠ k + 1) : skip j (unskip j k + 1) = k + 1 := by
  by_cases e : k < j
  · rw [show unskip j k = k from if_pos e]; exact if_pos (by omega)
  · rw [show unskip j k = k - 1 from if_neg e, show skip j (k - 1 + 1) = k - 1 + 1 + 1 from if_neg (by omega)]; omega

theorem sg_succ (k : Nat) : sg (k + 1) = - sg k := by
  unfold sg
  by_cases h : k % 2 = 0
  · rw [if_pos h, if_neg (by omega)]
  · rw [if_neg h, if_pos (by omega)]; grind

theorem det_adj {m : Nat} : ∀ (M : Nat → Nat → Rat) (k : Nat), k + 1 < m → (∀ i, M k i = M (k + 1) i) → det m M = 0 := by
  induction m with
  | zero => intro M k h; omega
  | succ m ih =>
    intro M k hk h
    show sm (m + 1) _ = 0
    rw [sm_two (k := k) (l := k + 1) (by omega) (by omega)]
    · have e : minor k M = minor (k + 1) M := by
        funext a b
        show M (skip k a) (b + 1) = M (skip (k + 1) a) (b + 1)
        by_cases h1 : a < k
        · rw [show skip k a = a by unfold skip; rw [if_pos h1], show skip (k + 1) a = a by unfold skip; rw [if_pos (by omega)]]
        · by_cases h2 : a = k
          · subst h2
            rw [show skip a a = a + 1 by unfold skip; rw [if_neg (by omega)], show skip (a + 1) a = a by unfold skip; rw [if_pos (by omega)], h]
          · rw [show skip k a = a + 1 by unfold skip; rw [if_neg h1], show skip (k + 1) a = a + 1 by unfold skip; rw [if_neg (by omega)]]
      rw [e, sg_succ, h 0]
      grind
    · intro j hj h1 h2
      rw [ih (minor j M) (unskip j k) (by unfold unskip; split <;> omega) (fun i => ?_)]
      · grind
      · show M (skip j (unskip j k)) (i + 1) = M (skip j (unskip j k + 1)) (i + 1)
        rw [skip_unskip j k h1, skip_unskip1 j k h1 h2, h]

theorem upd_upd_comm (M : Nat → Nat → Rat) (k l : Nat) (u v : Nat → Rat) (h : k ≠ l) : upd (upd M k u) l v = upd (upd M l v) k u := by
  funext j i
  unfold upd
  by_cases e : j = k
  · subst e; rw [if_neg h, if_pos rfl, if_pos rfl]
  · by_cases e2 : j = l
    · subst e2; rw [if_pos rfl, if_neg e, if_pos rfl]
    · rw [if_neg e2, if_neg e, if_neg e, if_neg e2]

theorem upd_self (M : Nat → Nat → Rat) (k : Nat) : upd M k (M k) = M := by
  funext j i
  unfold upd
  by_cases e : j = k
  · subst e; rw [if_pos rfl]
  · rw [if_neg e]

theorem det_swap {m : Nat} (M : Nat → Nat → Rat) (k : Nat) (u v : Nat → Rat) (h : k + 1 < m) :
    det m (upd (upd M k u) (k + 1) v) = - det m (upd (upd M k v) (k + 1) u) := by
  have key : ∀ a b : Nat → Rat, (∀ i, a i = b i) → det m (upd (upd M k a) (k + 1) b) = 0 := by
    intro a b hab
    refine det_adj _ k h (fun i => ?_)
    unfold upd
    rw [if_neg (by omega), if_pos rfl, if_pos rfl, hab]
  have s : ∀ i, u i + v i = 1 * u i + 1 * v i := fun i => by grind
  have h1 := key (fun i => 1 * u i + 1 * v i) (fun i => 1 * u i + 1 * v i) (fun _ => rfl)
  rw [det_lin _ (k + 1) 1 1 u v h] at h1
  rw [upd_upd_comm _ _ _ _ _ (by omega), upd_upd_comm _ _ _ (fun i => 1 * u i + 1 * v i) v (by omega)] at h1
  rw [det_lin _ k 1 1 u v (by omega), det_lin _ k 1 1 u v (by omega)] at h1
  rw [upd_upd_comm _ (k + 1) k _ _ (by omega), upd_upd_comm _ (k + 1) k _ _ (by omega), upd_upd_comm _ (k + 1) k _ _ (by omega), upd_upd_comm _ (k + 1) k _ _ (by omega)] at h1
  rw [key u u (fun _ => rfl), key v v (fun _ => rfl)] at h1
  grind

theorem det_alt {m : Nat} : ∀ (g : Nat) (M : Nat → Nat → Rat) (p q : Nat), q - p = g → p < q → q < m → (∀ i, M p i = M q i) → det m M = 0 := by
  intro g
  induction g with
  | zero => intro M p q h1 h2; omega
  | succ g ih =>
    intro M p q h1 h2 h3 h
    by_cases e : q = p + 1
    · subst e; exact det_adj M p h3 h
    · obtain ⟨r, rfl⟩ : ∃ r, q = r + 1 := ⟨q - 1, by omega⟩
      have e1 : M = upd (upd M r (M r)) (r + 1) (M (r + 1)) := by rw [upd_self, upd_self]
      rw [e1, det_swap _ _ _ _ h3, ih _ p r (by omega) (by omega) (by omega)]
      · grind
      · intro i
        unfold upd
        rw [if_neg (by omega), if_neg (by omega), if_neg (by omega), if_pos rfl, h]

theorem det_eq_cols {m : Nat} (M : Nat → Nat → Rat) (p q : Nat) (hp : p < m) (hq : q < m) (hne : p ≠ q) (h : ∀ i, M p i = M q i) : det m M = 0 := by
  by_cases e : p < q
  · exact det_alt _ M p q rfl e hq h
  · exact det_alt _ M q p rfl (by omega) hp (fun i => (h i).symm)

theorem det_zero_col {m : Nat} (M : Nat → Nat → Rat) (k : Nat) (hk : k < m) : det m (upd M k (fun _ => 0)) = 0 := by
  have h := det_lin M k 0 0 (fun _ => 0) (fun _ => 0) hk
  have e : (fun (i : Nat) => (0 : Rat) * (fun _ => (0 : Rat)) i + 0 * (fun _ => (0 : Rat)) i) = fun _ => (0 : Rat) := by funext i; grind
  rw [e] at h
  grind

theorem det_sum {m : Nat} (M : Nat → Nat → Rat) (i : Nat) (hi : i < m) (z : Nat → Rat) (V : Nat → Nat → Rat) (n : Nat) :
    det m (upd M i (fun r => sm n (fun k => z k * V k r))) = sm n (fun k => z k * det m (upd M i (V k))) := by
  induction n with
  | zero => exact det_zero_col M i hi
  | succ n ih =>
    show det m (upd M i (fun r => sm n (fun k => z k * V k r) + z n * V n r)) = sm n (fun k => z k * det m (upd M i (V k))) + z n * det m (upd M i (V n))
    rw [← ih]
    have h := det_lin M i 1 (z n) (fun r => sm n (fun k => z k * V k r)) (V n) hi
    have e : (fun r => 1 * sm n (fun k => z k * V k r) + z n * V n r) = (fun r => sm n (fun k => z k * V k r) + z n * V n r) := by funext r; grind
    rw [e] at h
    rw [h]; grind

/-- Cramer -/
theorem cramer {m : Nat} (M : Nat → Nat → Rat) (i : Nat) (hi : i < m) (z v : Nat → Rat) (h : ∀ r, r < m → v r = sm m (fun k => z k * M k r)) :
    det m (upd M i v) = z i * det m M := by
  have e1 : det m (upd M i v) = det m (upd M i (fun r => sm m (fun k => z k * M k r))) := by
    refine det_congr (fun j _ r hr => ?_)
    unfold upd
    split
    · exact h r hr
    · rfl
  rw [e1, det_sum M i hi]
  rw [sm_single (k := i) hi]
  · rw [upd_self]
  · intro k hk hne
    rw [det_eq_cols (upd M i (M k)) i k hi hk (by omega)]
    · grind
    · intro r
      unfold upd
      rw [if_pos rfl, if_neg hne]

/-- independence of the columns, where the determinant isn't 0 -/
theorem det_indep {m : Nat} (M : Nat → Nat → Rat) (hM : det m M ≠ 0) (z : Nat → Rat) (h : ∀ r, r < m → sm m (fun k => z k * M k r) = 0) : ∀ i, i < m → z i = 0 := by
  intro i hi
  have h1 := cramer M i hi z (fun _ => 0) (fun r hr => (h r hr).symm)
  rw [det_zero_col M i hi] at h1
  grind

/-! ### whole numbers, and how great -/

def fac : Nat → Nat
  | 0 => 1
  | n + 1 => (n + 1) * fac n

/-- q is a whole number of at most B -/
def Whole (B : Nat) (q : Rat) : Prop := ∃ z : Int, q = (z : Rat) ∧ z.natAbs ≤ B

theorem Whole.mono {B C : Nat} {q : Rat} (h : Whole B q) (hBC : B ≤ C) : Whole C q := by
  obtain ⟨z, h1, h2⟩ := h
  exact ⟨z, h1, by omega⟩

theorem Whole.add {B C : Nat} {p q : Rat} (h : Whole B p) (k : Whole C q) : Whole (B + C) (p + q) := by
  obtain ⟨x, rfl, hx⟩ := h
  obtain ⟨y, rfl, hy⟩ := k
  exact ⟨x + y, by simp, by omega⟩

theorem Whole.mul {B C : Nat} {p q : Rat} (h : Whole B p) (k : Whole C q) : Whole (B * C) (p * q) := by
  obtain ⟨x, rfl, hx⟩ := h
  obtain ⟨y, rfl, hy⟩ := k
  exact ⟨x * y, by simp, by rw [Int.natAbs_mul]; exact Nat.mul_le_mul hx hy⟩

theorem Whole.neg {B : Nat} {p : Rat} (h : Whole B p) : Whole B (-p) := by
  obtain ⟨x, rfl, hx⟩ := h
  exact ⟨-x, by simp, by omega⟩

theorem whole_sm {B : Nat} {f : Nat → Rat} (n : Nat) (h : ∀ i, i < n → Whole B (f i)) : Whole (n * B) (sm n f) := by
  induction n with
  | zero => exact ⟨0, rfl, by simp⟩
  | succ n ih =>
    have := (ih (fun i hi => h i (by omega))).add (h n (by omega))
    rw [Nat.succ_mul]
    exact this

theorem whole_sg (j : Nat) : Whole 1 (sg j) := by
  unfold sg
  split
  · exact ⟨1, rfl, by decide⟩
  · exact ⟨-1, rfl, by decide⟩

theorem det_whole {m : Nat} : ∀ (M : Nat → Nat → Rat), (∀ j, j < m → ∀ i, i < m → Whole 1 (M j i)) → Whole (fac m) (det m M) := by
  induction m with
  | zero => intro M _; exact ⟨1, rfl, by decide⟩
  | succ m ih =>
    intro M h
    show Whole ((m + 1) * fac m) (sm (m + 1) _)
    refine whole_sm (m + 1) (fun j hj => ?_)
    have h1 := ih (minor j M) (fun a ha b hb => h _ (by unfold skip; split <;> omega) _ (by omega))
    have h2 := ((whole_sg j).mul (h j hj 0 (by omega))).mul h1
    simpa using h2

end Go.Proofs.Ytnmcgbfhgmmcpaa.Cov

/-
  Plain mathematics: a simplex tableau over rationals. A j r: column j of the first table, row r (column n: the constants). T i j: the table, B i: the basis.
-/
namespace Go.Proofs.Ytnmcgbfhgmmcpaa.Cov

structure Inv (m n : Nat) (A : Nat → Nat → Rat) (T : Nat → Nat → Rat) (B : Nat → Nat) : Prop where
  lt : ∀ i, i < m → B i < n
  unit : ∀ i, i < m → ∀ k, k < m → T i (B k) = if i = k then 1 else 0
  col : ∀ j, j ≤ n → ∀ r, r < m → A j r = sm m (fun i => T i j * A (B i) r)
  dne : det m (fun i => A (B i)) ≠ 0

theorem Inv.inj {m n : Nat} {A T : Nat → Nat → Rat} {B : Nat → Nat} (h : Inv m n A T B) {i k : Nat} (hi : i < m) (hk : k < m) (e : B i = B k) : i = k := by
  have h1 := h.unit i hi k hk
  have h2 := h.unit i hi i hi
  rw [if_pos rfl] at h2
  rw [← e, h2] at h1
  by_cases e2 : i = k
  · exact e2
  · rw [if_neg e2] at h1
    grind

def pivT (T : Nat → Nat → Rat) (r c : Nat) : Nat → Nat → Rat := fun i j => if i = r then T r j / T r c else T i j - T i c * (T r j / T r c)
def pivB (B : Nat → Nat) (r c : Nat) : Nat → Nat := fun i => if i = r then c else B i

theorem sm_split {m r : Nat} (hr : r < m) (f : Nat → Rat) : sm m f = f r + sm m (fun i => if i = r then 0 else f i) := by
  have h1 : sm m f = sm m (fun i => (if i = r then f r else 0) + (if i = r then 0 else f i)) := by
    refine sm_congr (fun i _ => ?_)
    by_cases e : i = r
    · subst e; rw [if_pos rfl, if_pos rfl]; grind
    · rw [if_neg e, if_neg e]; grind
  rw [h1, sm_add, sm_single (k := r) hr]
  · rw [if_pos rfl]
  · intro i _ hne; rw [if_neg hne]

theorem Inv.pivot {m n : Nat} {A T : Nat → Nat → Rat} {B : Nat → Nat} (h : Inv m n A T B) {r c : Nat} (hr : r < m) (hc : c < n) (hp : T r c ≠ 0) :
    Inv m n A (pivT T r c) (pivB B r c) := by
  refine ⟨?_, ?_, ?_, ?_⟩
  · intro i hi
    unfold pivB; split
    · exact hc
    · exact h.lt i hi
  · intro i hi k hk
    unfold pivT pivB
    by_cases ek : k = r
    · subst ek
      rw [if_pos rfl]
      by_cases ei : i = k
      · subst ei; rw [if_pos rfl, if_pos rfl]; grind
      · rw [if_neg ei, if_neg ei]; grind
    · rw [if_neg ek]
      have h1 := h.unit r hr k hk
      rw [if_neg (by omega)] at h1
      rw [h1]
      by_cases ei : i = r
      · subst ei; rw [if_pos rfl, if_neg (by omega)]; grind
      · rw [if_neg ei, h.unit i hi k hk]; grind
  · intro j hj s hs
    have h1 := h.col j hj s hs
    have h2 := h.col c (by omega) s hs
    rw [sm_split hr] at h1 h2
    rw [sm_split hr]
    have e1 : sm m (fun i => if i = r then 0 else pivT T r c i j * A (pivB B r c i) s) = sm m (fun i => if i = r then 0 else T i j * A (B i) s) - (T r j / T r c) * sm m (fun i => if i = r then 0 else T i c * A (B i) s) := by
      have e2 : (fun i => if i = r then 0 else pivT T r c i j * A (pivB B r c i) s) = fun i => (if i = r then 0 else T i j * A (B i) s) + (-(T r j / T r c)) * (if i = r then 0 else T i c * A (B i) s) := by
        funext i
        unfold pivT pivB
        by_cases ei : i = r
        · rw [if_pos ei, if_pos ei, if_pos ei]; grind
        · rw [if_neg ei, if_neg ei, if_neg ei, if_neg ei, if_neg ei]; grind
      rw [e2, sm_add, sm_mul]; grind
    rw [e1]
    have e3 : pivT T r c r j = T r j / T r c := if_pos rfl
    have e4 : pivB B r c r = c := if_pos rfl
    rw [e3, e4, h1, h2]
    grind
  · have e1 : det m (fun i => A (pivB B r c i)) = det m (upd (fun i => A (B i)) r (A c)) := by
      refine det_congr (fun j _ i _ => ?_)
      unfold upd pivB
      split <;> rfl
    rw [e1, cramer (fun i => A (B i)) r hr (fun i => T i c) (A c) (fun s hs => h.col c (by omega) s hs)]
    have := h.dne
    grind

/-- a column's entry, by Cramer -/
theorem Inv.entry {m n : Nat} {A T : Nat → Nat → Rat} {B : Nat → Nat} (h : Inv m n A T B) {i j : Nat} (hi : i < m) (hj : j ≤ n) :
    det m (upd (fun i => A (B i)) i (A j)) = T i j * det m (fun i => A (B i)) :=
  cramer (fun i => A (B i)) i hi (fun i => T i j) (A j) (fun s hs => h.col j hj s hs)

/-- all entries have one small whole denominator -/
theorem Inv.small {m n : Nat} {A T : Nat → Nat → Rat} {B : Nat → Nat} (h : Inv m n A T B) (hA : ∀ j, j ≤ n → ∀ r, r < m → Whole 1 (A j r)) :
    ∃ D : Int, D ≠ 0 ∧ D.natAbs ≤ fac m ∧ ∀ i, i < m → ∀ j, j ≤ n → Whole (fac m) (T i j * D) := by
  have hB : ∀ j, j < m → ∀ i, i < m → Whole 1 ((fun i => A (B i)) j i) := fun j hj i hi => hA _ (Nat.le_of_lt (h.lt j hj)) i hi
  obtain ⟨D, hD, hDb⟩ := det_whole (fun i => A (B i)) hB
  refine ⟨D, ?_, hDb, ?_⟩
  · intro e
    apply h.dne
    rw [hD, e]; rfl
  · intro i hi j hj
    rw [← hD, ← h.entry hi hj]
    refine det_whole _ (fun a ha b hb => ?_)
    unfold upd
    split
    · exact hA j hj b hb
    · exact hB a ha b hb

/-! ### solutions and costs -/

def Sol (m n : Nat) (A : Nat → Nat → Rat) (x : Nat → Rat) : Prop := ∀ r, r < m → sm n (fun j => x j * A j r) = A n r
def Hom (m n : Nat) (A : Nat → Nat → Rat) (x : Nat → Rat) : Prop := ∀ r, r < m → sm n (fun j => x j * A j r) = 0

theorem Inv.comb {m n : Nat} {A T : Nat → Nat → Rat} {B : Nat → Nat} (h : Inv m n A T B) (x : Nat → Rat) (r : Nat) (hr : r < m) :
    sm n (fun j => x j * A j r) = sm m (fun i => sm n (fun j => T i j * x j) * A (B i) r) := by
  have e1 : sm n (fun j => x j * A j r) = sm n (fun j => sm m (fun i => T i j * x j * A (B i) r)) := by
    refine sm_congr (fun j hj => ?_)
    rw [h.col j (by omega) r hr, ← sm_mul]
    exact sm_congr (fun i _ => by grind)
  rw [e1, sm_swap]
  refine sm_congr (fun i _ => ?_)
  have e2 : (fun j => T i j * x j * A (B i) r) = fun j => A (B i) r * (T i j * x j) := by funext j; grind
  rw [e2, sm_mul]; grind

theorem Inv.hom_rows {m n : Nat} {A T : Nat → Nat → Rat} {B : Nat → Nat} (h : Inv m n A T B) {x : Nat → Rat} (hx : Hom m n A x) :
    ∀ i, i < m → sm n (fun j => T i j * x j) = 0 :=
  det_indep (fun i => A (B i)) h.dne (fun i => sm n (fun j => T i j * x j)) (fun r hr => by rw [← h.comb x r hr]; exact hx r hr)

theorem Inv.sol_rows {m n : Nat} {A T : Nat → Nat → Rat} {B : Nat → Nat} (h : Inv m n A T B) {x : Nat → Rat} (hx : Sol m n A x) :
    ∀ i, i < m → sm n (fun j => T i j * x j) = T i n := by
  have key := det_indep (fun i => A (B i)) h.dne (fun i => sm n (fun j => T i j * x j) - T i n) (fun r hr => by
    have e1 := h.comb x r hr
    rw [hx r hr, h.col n (Nat.le_refl _) r hr] at e1
    have e2 : (fun k => (sm n (fun j => T k j * x j) - T k n) * A (B k) r) = fun k => sm n (fun j => T k j * x j) * A (B k) r + (-1) * (T k n * A (B k) r) := by funext k; grind
    show sm m (fun k => (sm n (fun j => T k j * x j) - T k n) * A (B k) r) = 0
    rw [e2, sm_add, sm_mul, ← e1]; grind)
  intro i hi
  have := key i hi
  grind

/-- the costs that are left -/
def red (m : Nat) (cost : Nat → Rat) (T : Nat → Nat → Rat) (B : Nat → Nat) : Nat → Rat := fun j => cost j - sm m (fun i => cost (B i) * T i j)

theorem red_sum {m n : Nat} (cost : Nat → Rat) (T : Nat → Nat → Rat) (B : Nat → Nat) (x : Nat → Rat) (t : Nat → Rat) (hx : ∀ i, i < m → sm n (fun j => T i j * x j) = t i) :
    sm n (fun j => red m cost T B j * x j) = sm n (fun j => cost j * x j) - sm m (fun i => cost (B i) * t i) := by
  have e1 : (fun j => red m cost T B j * x j) = fun j => cost j * x j + (-1) * sm m (fun i => cost (B i) * (T i j * x j)) := by
    funext j
    unfold red
    have : sm m (fun i => cost (B i) * (T i j * x j)) = x j * sm m (fun i => cost (B i) * T i j) := by
      rw [← sm_mul]; exact sm_congr (fun i _ => by grind)
    rw [this]; grind
  rw [e1, sm_add, sm_mul, sm_swap]
  have e2 : sm m (fun i => sm n (fun j => cost (B i) * (T i j * x j))) = sm m (fun i => cost (B i) * t i) := by
    refine sm_congr (fun i hi => ?_)
    rw [sm_mul, hx i hi]
  rw [e2]; grind

theorem Inv.cost_hom {m n : Nat} {A T : Nat → Nat → Rat} {B : Nat → Nat} (h : Inv m n A T B) (cost : Nat → Rat) {x : Nat → Rat} (hx : Hom m n A x) :
    sm n (fun j => cost j * x j) = sm n (fun j => red m cost T B j * x j) := by
  have e : sm m (fun i => cost (B i) * (fun _ => (0 : Rat)) i) = 0 := sm_zero (fun i _ => by grind)
  rw [red_sum cost T B x (fun _ => 0) (h.hom_rows hx), e]; grind

theorem Inv.cost_sol {m n : Nat} {A T : Nat → Nat → Rat} {B : Nat → Nat} (h : Inv m n A T B) (cost : Nat → Rat) {x : Nat → Rat} (hx : Sol m n A x) :
    sm n (fun j => cost j * x j) = sm n (fun j => red m cost T B j * x j) + sm m (fun i => cost (B i) * T i n) := by
  rw [red_sum cost T B x (fun i => T i n) (h.sol_rows hx)]; grind

theorem Inv.red_basic {m n : Nat} {A T : Nat → Nat → Rat} {B : Nat → Nat} (h : Inv m n A T B) (cost : Nat → Rat) {k : Nat} (hk : k < m) : red m cost T B (B k) = 0 := by
  unfold red
  rw [sm_single (k := k) hk]
  · rw [h.unit k hk k hk, if_pos rfl]; grind
  · intro i hi hne
    rw [h.unit i hi k hk, if_neg hne]; grind

theorem red_pivot {m n : Nat} {A T : Nat → Nat → Rat} {B : Nat → Nat} (h : Inv m n A T B) (cost : Nat → Rat) {r c : Nat} (hr : r < m) (hp : T r c ≠ 0) (j : Nat) :
    red m cost (pivT T r c) (pivB B r c) j = red m cost T B j - red m cost T B c * (T r j / T r c) := by
  unfold red
  rw [sm_split hr, sm_split hr (fun i => cost (B i) * T i j), sm_split hr (fun i => cost (B i) * T i c)]
  have e1 : sm m (fun i => if i = r then 0 else cost (pivB B r c i) * pivT T r c i j) = sm m (fun i => if i = r then 0 else cost (B i) * T i j) - (T r j / T r c) * sm m (fun i => if i = r then 0 else cost (B i) * T i c) := by
    have e2 : (fun i => if i = r then 0 else cost (pivB B r c i) * pivT T r c i j) = fun i => (if i = r then 0 else cost (B i) * T i j) + (-(T r j / T r c)) * (if i = r then 0 else cost (B i) * T i c) := by
      funext i
      unfold pivT pivB
      by_cases ei : i = r
      · rw [if_pos ei, if_pos ei, if_pos ei]; grind
      · rw [if_neg ei, if_neg ei, if_neg ei, if_neg ei, if_neg ei]; grind
    rw [e2, sm_add, sm_mul]; grind
  rw [e1]
  have e3 : pivT T r c r j = T r j / T r c := if_pos rfl
  have e4 : pivB B r c r = c := if_pos rfl
  rw [e3, e4]
  have := h.dne
  grind

/-! ### the basic solution, and the ray of a column -/

/-- what the basis gives to column j, when row i has the value t i -/
def val (m : Nat) (t : Nat → Rat) (B : Nat → Nat) (j : Nat) : Rat := sm m (fun i => if B i = j then t i else 0)

theorem Inv.val_basic {m n : Nat} {A T : Nat → Nat → Rat} {B : Nat → Nat} (h : Inv m n A T B) (t : Nat → Rat) {k : Nat} (hk : k < m) : val m t B (B k) = t k := by
  unfold val
  rw [sm_single (k := k) hk]
  · rw [if_pos rfl]
  · intro i hi hne
    rw [if_neg (fun e => hne (h.inj hi hk e))]

theorem val_not {m : Nat} {t : Nat → Rat} {B : Nat → Nat} {j : Nat} (hj : ∀ i, i < m → B i ≠ j) : val m t B j = 0 :=
  sm_zero (fun i hi => if_neg (hj i hi))

theorem sm_val {m n : Nat} (t : Nat → Rat) (B : Nat → Nat) (hB : ∀ i, i < m → B i < n) (f : Nat → Rat) :
    sm n (fun j => val m t B j * f j) = sm m (fun i => t i * f (B i)) := by
  have e1 : sm n (fun j => val m t B j * f j) = sm n (fun j => sm m (fun i => if B i = j then t i * f (B i) else 0)) := by
    refine sm_congr (fun j _ => ?_)
    unfold val
    have : f j * sm m (fun i => if B i = j then t i else 0) = sm m (fun i => if B i = j then t i * f (B i) else 0) := by
      rw [← sm_mul]
      refine sm_congr (fun i _ => ?_)
      by_cases e : B i = j
      · rw [if_pos e, if_pos e, e]; grind
      · rw [if_neg e, if_neg e]; grind
    rw [← this]; grind
  rw [e1, sm_swap]
  refine sm_congr (fun i hi => ?_)
  rw [sm_single (k := B i) (hB i hi)]
  · rw [if_pos rfl]
  · intro j _ hne; rw [if_neg (fun e => hne e.symm)]

theorem Inv.sol_basic {m n : Nat} {A T : Nat → Nat → Rat} {B : Nat → Nat} (h : Inv m n A T B) : Sol m n A (val m (fun i => T i n) B) := by
  intro r hr
  rw [sm_val (fun i => T i n) B h.lt (fun j => A j r), h.col n (Nat.le_refl _) r hr]

/-- the direction in which column s grows -/
def ray (m : Nat) (T : Nat → Nat → Rat) (B : Nat → Nat) (s : Nat) (j : Nat) : Rat := (if j = s then 1 else 0) + val m (fun i => - T i s) B j

theorem Inv.hom_ray {m n : Nat} {A T : Nat → Nat → Rat} {B : Nat → Nat} (h : Inv m n A T B) {s : Nat} (hs : s < n) : Hom m n A (ray m T B s) := by
  intro r hr
  have e1 : (fun j => ray m T B s j * A j r) = fun j => (if j = s then A s r else 0) + val m (fun i => - T i s) B j * A j r := by
    funext j
    unfold ray
    by_cases e : j = s
    · subst e; rw [if_pos rfl, if_pos rfl]; grind
    · rw [if_neg e, if_neg e]; grind
  rw [e1, sm_add, sm_val _ B h.lt (fun j => A j r), sm_single (k := s) hs]
  · rw [if_pos rfl, h.col s (by omega) r hr, ← sm_add]
    exact sm_zero (fun i _ => by grind)
  · intro j _ hne; rw [if_neg hne]

theorem Inv.ray_cost {m n : Nat} {A T : Nat → Nat → Rat} {B : Nat → Nat} (h : Inv m n A T B) (cost : Nat → Rat) {s : Nat} (hs : s < n) :
    sm n (fun j => cost j * ray m T B s j) = red m cost T B s := by
  rw [h.cost_hom cost (h.hom_ray hs)]
  have e1 : (fun j => red m cost T B j * ray m T B s j) = fun j => (if j = s then red m cost T B s else 0) + val m (fun i => - T i s) B j * red m cost T B j := by
    funext j
    unfold ray
    by_cases e : j = s
    · subst e; rw [if_pos rfl, if_pos rfl]; grind
    · rw [if_neg e, if_neg e]; grind
  rw [e1, sm_add, sm_val _ B h.lt, sm_single (k := s) hs]
  · rw [if_pos rfl, sm_zero (fun i hi => by rw [h.red_basic cost hi]; grind)]; grind
  · intro j _ hne; rw [if_neg hne]

end Go.Proofs.Ytnmcgbfhgmmcpaa.Cov
