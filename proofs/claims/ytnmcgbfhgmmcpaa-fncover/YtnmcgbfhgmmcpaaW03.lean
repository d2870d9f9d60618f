import Derived.Test.YtnmcgbfhgmmcpaaW00
/-
  Plain mathematics: Bland's rule comes to no basis twice.
-/
namespace Go.Proofs.Ytnmcgbfhgmmcpaa.Cov

structure Run (m n : Nat) (A : Nat → Nat → Rat) (cost : Nat → Rat) (bar : Nat → Bool) (N : Nat) (T : Nat → Nat → Nat → Rat) (B : Nat → Nat → Nat) (r c : Nat → Nat) : Prop where
  inv : ∀ k, k ≤ N → Inv m n A (T k) (B k)
  feas : ∀ k, k ≤ N → ∀ i, i < m → 0 ≤ T k i n
  rlt : ∀ k, k < N → r k < m
  clt : ∀ k, k < N → c k < n
  unbar : ∀ k, k < N → bar (c k) = false
  neg : ∀ k, k < N → red m cost (T k) (B k) (c k) < 0
  least : ∀ k, k < N → ∀ j, j < c k → bar j = false → 0 ≤ red m cost (T k) (B k) j
  pos : ∀ k, k < N → 0 < T k (r k) (c k)
  tie : ∀ k, k < N → ∀ i, i < m → 0 < T k i (c k) → T k i n / T k i (c k) = T k (r k) n / T k (r k) (c k) → B k (r k) ≤ B k i
  nextT : ∀ k, k < N → T (k + 1) = pivT (T k) (r k) (c k)
  nextB : ∀ k, k < N → B (k + 1) = pivB (B k) (r k) (c k)

def InB (m : Nat) (B : Nat → Nat) (j : Nat) : Prop := ∃ i, i < m ∧ B i = j

def obj (m n : Nat) (cost : Nat → Rat) (T : Nat → Nat → Rat) (B : Nat → Nat) : Rat := sm m (fun i => cost (B i) * T i n)

theorem obj_pivot {m n : Nat} {A T : Nat → Nat → Rat} {B : Nat → Nat} (h : Inv m n A T B) (cost : Nat → Rat) {r c : Nat} (hr : r < m) (hp : T r c ≠ 0) :
    obj m n cost (pivT T r c) (pivB B r c) = obj m n cost T B + red m cost T B c * (T r n / T r c) := by
  have h1 := red_pivot h cost hr hp n
  have e : ∀ (T' : Nat → Nat → Rat) (B' : Nat → Nat), red m cost T' B' n = cost n - obj m n cost T' B' := fun _ _ => rfl
  rw [e, e] at h1
  grind

theorem obj_val {m n : Nat} {A T : Nat → Nat → Rat} {B : Nat → Nat} (h : Inv m n A T B) (cost : Nat → Rat) :
    obj m n cost T B = sm n (fun j => val m (fun i => T i n) B j * cost j) := by
  rw [sm_val _ B h.lt]
  exact sm_congr (fun i _ => by grind)

theorem div_nonneg {a b : Rat} (ha : 0 ≤ a) (hb : 0 < b) : 0 ≤ a / b := by
  rw [Rat.div_def]
  exact Rat.mul_nonneg ha (Rat.le_of_lt (Rat.inv_pos.2 hb))

theorem mul_nonpos_of {a b : Rat} (ha : a ≤ 0) (hb : 0 ≤ b) : a * b ≤ 0 := by
  have := Rat.mul_nonneg (show 0 ≤ -a by grind) hb
  grind

theorem mul_nonneg_of_neg {a b : Rat} (ha : a ≤ 0) (hb : b ≤ 0) : 0 ≤ a * b := by
  have := Rat.mul_nonneg (show 0 ≤ -a by grind) (show 0 ≤ -b by grind)
  grind

section
variable {m n : Nat} {A : Nat → Nat → Rat} {cost : Nat → Rat} {bar : Nat → Bool} {N : Nat} {T : Nat → Nat → Nat → Rat} {B : Nat → Nat → Nat} {r c : Nat → Nat}

theorem Run.obj_step (h : Run m n A cost bar N T B r c) {k : Nat} (hk : k < N) :
    obj m n cost (T (k + 1)) (B (k + 1)) = obj m n cost (T k) (B k) + red m cost (T k) (B k) (c k) * (T k (r k) n / T k (r k) (c k)) := by
  rw [h.nextT k hk, h.nextB k hk]
  have := h.pos k hk
  exact obj_pivot (h.inv k (by omega)) cost (h.rlt k hk) (by grind)

theorem Run.ratio_nonneg (h : Run m n A cost bar N T B r c) {k : Nat} (hk : k < N) : 0 ≤ T k (r k) n / T k (r k) (c k) :=
  div_nonneg (h.feas k (by omega) _ (h.rlt k hk)) (h.pos k hk)

theorem Run.obj_le (h : Run m n A cost bar N T B r c) (a : Nat) : ∀ d, a + d ≤ N → obj m n cost (T (a + d)) (B (a + d)) ≤ obj m n cost (T a) (B a)
  | 0, _ => by rw [Nat.add_zero]; grind
  | d + 1, hd => by
    have h1 := Run.obj_le h a d (by omega)
    have h2 := h.obj_step (k := a + d) (by omega)
    have h3 := mul_nonpos_of (Rat.le_of_lt (h.neg (a + d) (by omega))) (h.ratio_nonneg (k := a + d) (by omega))
    rw [show a + (d + 1) = a + d + 1 by omega, h2]
    grind

/-- two tables with the same basis have the same basic solution -/
theorem same_val {T1 T2 : Nat → Nat → Rat} {B1 B2 : Nat → Nat} (h1 : Inv m n A T1 B1) (h2 : Inv m n A T2 B2) (hs : ∀ j, InB m B2 j → InB m B1 j) :
    ∀ j, j < n → val m (fun i => T1 i n) B1 j = val m (fun i => T2 i n) B2 j := by
  have hd : Hom m n A (fun j => val m (fun i => T1 i n) B1 j + (-1) * val m (fun i => T2 i n) B2 j) := by
    intro q hq
    have e : (fun j => (val m (fun i => T1 i n) B1 j + (-1) * val m (fun i => T2 i n) B2 j) * A j q) = fun j => val m (fun i => T1 i n) B1 j * A j q + (-1) * (val m (fun i => T2 i n) B2 j * A j q) := by funext j; grind
    rw [e, sm_add, sm_mul, h1.sol_basic q hq, h2.sol_basic q hq]; grind
  have hr := h1.hom_rows hd
  have hz : ∀ j, ¬ InB m B1 j → val m (fun i => T1 i n) B1 j = 0 ∧ val m (fun i => T2 i n) B2 j = 0 := by
    intro j hj
    exact ⟨val_not (fun i hi e => hj ⟨i, hi, e⟩), val_not (fun i hi e => hj (hs j ⟨i, hi, e⟩))⟩
  intro j hj
  by_cases hb : InB m B1 j
  · obtain ⟨i, hi, rfl⟩ := hb
    have h3 := hr i hi
    rw [sm_single (k := B1 i) (h1.lt i hi)] at h3
    · rw [h1.unit i hi i hi, if_pos rfl] at h3
      grind
    · intro j' hj' hne
      by_cases hb' : InB m B1 j'
      · obtain ⟨i', hi', rfl⟩ := hb'
        rw [h1.unit i hi i' hi', if_neg (fun e => hne (by rw [e]))]; grind
      · obtain ⟨z1, z2⟩ := hz j' hb'
        rw [z1, z2]; grind
  · obtain ⟨z1, z2⟩ := hz j hb
    rw [z1, z2]

theorem Run.leave (h : Run m n A cost bar N T B r c) (j a : Nat) : ∀ d, a + d ≤ N → InB m (B a) j → ¬ InB m (B (a + d)) j → ∃ k, a ≤ k ∧ k < a + d ∧ B k (r k) = j
  | 0, _, h1, h2 => absurd h1 h2
  | d + 1, hd, h1, h2 => by
    by_cases h3 : InB m (B (a + d)) j
    · refine ⟨a + d, by omega, by omega, ?_⟩
      obtain ⟨i, hi, hj⟩ := h3
      by_cases e : i = r (a + d)
      · rw [← e]; exact hj
      · exfalso
        apply h2
        refine ⟨i, hi, ?_⟩
        rw [show a + (d + 1) = a + d + 1 by omega, h.nextB (a + d) (by omega)]
        unfold pivB
        rw [if_neg e]; exact hj
    · obtain ⟨k, h4, h5, h6⟩ := Run.leave h j a d (by omega) h1 h3
      exact ⟨k, h4, by omega, h6⟩

theorem Run.enter (h : Run m n A cost bar N T B r c) (j a : Nat) : ∀ d, a + d ≤ N → ¬ InB m (B a) j → InB m (B (a + d)) j → ∃ k, a ≤ k ∧ k < a + d ∧ c k = j
  | 0, _, h1, h2 => absurd h2 h1
  | d + 1, hd, h1, h2 => by
    by_cases h3 : InB m (B (a + d)) j
    · obtain ⟨k, h4, h5, h6⟩ := Run.enter h j a d (by omega) h1 h3
      exact ⟨k, h4, by omega, h6⟩
    · refine ⟨a + d, by omega, by omega, ?_⟩
      obtain ⟨i, hi, hj⟩ := h2
      rw [show a + (d + 1) = a + d + 1 by omega, h.nextB (a + d) (by omega)] at hj
      unfold pivB at hj
      by_cases e : i = r (a + d)
      · rw [if_pos e] at hj; exact hj
      · rw [if_neg e] at hj
        exact absurd ⟨i, hi, hj⟩ h3

theorem greatest (c : Nat → Nat) (p : Nat) : ∀ d, ∃ l, p ≤ l ∧ l < p + d + 1 ∧ ∀ k, p ≤ k → k < p + d + 1 → c k ≤ c l
  | 0 => ⟨p, by omega, by omega, fun k h1 h2 => by rw [show k = p by omega]; exact Nat.le_refl _⟩
  | d + 1 => by
    obtain ⟨l, h1, h2, h3⟩ := greatest c p d
    by_cases e : c l ≤ c (p + d + 1)
    · refine ⟨p + d + 1, by omega, by omega, fun k h4 h5 => ?_⟩
      by_cases e2 : k = p + d + 1
      · rw [e2]; exact Nat.le_refl _
      · exact Nat.le_trans (h3 k h4 (by omega)) e
    · refine ⟨l, h1, by omega, fun k h4 h5 => ?_⟩
      by_cases e2 : k = p + d + 1
      · rw [e2]; omega
      · exact h3 k h4 (by omega)

theorem Run.no_cycle (h : Run m n A cost bar N T B r c) (p d : Nat) (hq : p + d + 1 ≤ N) (same : ∀ j, InB m (B p) j ↔ InB m (B (p + d + 1)) j) : False := by
  -- every step in between leaves the constants as they are
  have hobj : obj m n cost (T (p + d + 1)) (B (p + d + 1)) = obj m n cost (T p) (B p) := by
    rw [obj_val (h.inv _ hq) cost, obj_val (h.inv p (by omega)) cost]
    refine sm_congr (fun j hj => ?_)
    rw [same_val (h.inv p (by omega)) (h.inv _ hq) (fun j hj => (same j).2 hj) j hj]
  have hzero : ∀ k, p ≤ k → k < p + d + 1 → T k (r k) n = 0 := by
    intro k h1 h2
    have e1 := h.obj_le p (k - p) (by omega)
    have e2 := h.obj_le (k + 1) (p + d + 1 - (k + 1)) (by omega)
    rw [show p + (k - p) = k by omega] at e1
    rw [show k + 1 + (p + d + 1 - (k + 1)) = p + d + 1 by omega] at e2
    have e3 := h.obj_step (k := k) (by omega)
    have e4 := h.ratio_nonneg (k := k) (by omega)
    have e5 := h.neg k (by omega)
    have e6 := h.pos k (by omega)
    have e7 : red m cost (T k) (B k) (c k) * (T k (r k) n / T k (r k) (c k)) = 0 := by
      have := mul_nonpos_of (Rat.le_of_lt e5) e4
      grind
    have e8 : T k (r k) n / T k (r k) (c k) = 0 := by
      rcases Rat.mul_eq_zero.1 e7 with e | e
      · grind
      · exact e
    grind
  have hval : ∀ e, e ≤ d + 1 → ∀ j, val m (fun i => T (p + e) i n) (B (p + e)) j = val m (fun i => T p i n) (B p) j := by
    intro e
    induction e with
    | zero => intro _ j; rfl
    | succ e ih =>
      intro he j
      rw [← ih (by omega) j]
      have hz := hzero (p + e) (by omega) (by omega)
      refine sm_congr (fun i hi => ?_)
      rw [show p + (e + 1) = p + e + 1 by omega, h.nextT (p + e) (by omega), h.nextB (p + e) (by omega)]
      unfold pivT pivB
      dsimp only
      rw [hz]
      by_cases ei : i = r (p + e)
      · rw [if_pos ei, if_pos ei, ei, hz]
        have : (0 : Rat) / T (p + e) (r (p + e)) (c (p + e)) = 0 := by grind
        rw [this]
        split <;> split <;> rfl
      · rw [if_neg ei, if_neg ei]
        split
        · grind
        · rfl
  have hval' : ∀ k, p ≤ k → k ≤ p + d + 1 → ∀ j, val m (fun i => T k i n) (B k) j = val m (fun i => T p i n) (B p) j := by
    intro k h1 h2 j
    have := hval (k - p) (by omega) j
    rwa [show p + (k - p) = k by omega] at this
  -- the greatest that enters
  obtain ⟨l, hl1, hl2, hmax⟩ := greatest c p d
  have hnotin : ∀ k, k < N → ¬ InB m (B k) (c k) := by
    intro k hk ⟨i, hi, e⟩
    have h1 := h.neg k hk
    rw [← e, (h.inv k (by omega)).red_basic cost hi] at h1
    grind
  have hin : InB m (B (l + 1)) (c l) := by
    refine ⟨r l, h.rlt l (by omega), ?_⟩
    rw [h.nextB l (by omega)]
    exact if_pos rfl
  obtain ⟨k, hk1, hk2, hk3⟩ : ∃ k, p ≤ k ∧ k < p + d + 1 ∧ B k (r k) = c l := by
    by_cases hc : InB m (B (p + d + 1)) (c l)
    · have h1 := (same (c l)).2 hc
      have h2 := hnotin l (by omega)
      rw [show l = p + (l - p) by omega] at h2
      have h2' : ¬ InB m (B (p + (l - p))) (c l) := by rw [show p + (l - p) = l by omega]; exact hnotin l (by omega)
      obtain ⟨k, a, b, e⟩ := h.leave (c l) p (l - p) (by omega) h1 h2'
      exact ⟨k, a, by omega, e⟩
    · have h2' : ¬ InB m (B (l + 1 + (p + d + 1 - (l + 1)))) (c l) := by rw [show l + 1 + (p + d + 1 - (l + 1)) = p + d + 1 by omega]; exact hc
      obtain ⟨k, a, b, e⟩ := h.leave (c l) (l + 1) (p + d + 1 - (l + 1)) (by omega) hin h2'
      exact ⟨k, by omega, by omega, e⟩
  have hIk := h.inv k (by omega)
  have hIl := h.inv l (by omega)
  have hst : c k < c l := by
    have h1 := hmax k hk1 hk2
    by_cases e : c k = c l
    · exfalso
      apply hnotin k (by omega)
      exact ⟨r k, h.rlt k (by omega), by rw [hk3, e]⟩
    · omega
  -- the ray of what enters at k, priced at l
  have hsum : sm n (fun j => red m cost (T l) (B l) j * ray m (T k) (B k) (c k) j) < 0 := by
    rw [← hIl.cost_hom cost (hIk.hom_ray (h.clt k (by omega))), hIk.ray_cost cost (h.clt k (by omega))]
    exact h.neg k (by omega)
  have hex : ∃ j, j < n ∧ red m cost (T l) (B l) j * ray m (T k) (B k) (c k) j < 0 := by
    by_cases hall : ∀ j, j < n → 0 ≤ red m cost (T l) (B l) j * ray m (T k) (B k) (c k) j
    · have := sm_nonneg hall
      grind
    · have ⟨j, hj⟩ := Classical.not_forall.1 hall
      have ⟨h1, h2⟩ := Classical.not_imp.1 hj
      exact ⟨j, h1, by grind⟩
  obtain ⟨j, hj, hneg⟩ := hex
  by_cases hb : InB m (B k) j
  · obtain ⟨i, hi, rfl⟩ := hb
    have hne : B k i ≠ c k := fun e => hnotin k (by omega) ⟨i, hi, e⟩
    have hray : ray m (T k) (B k) (c k) (B k i) = - T k i (c k) := by
      unfold ray
      rw [if_neg hne, hIk.val_basic (fun i => - T k i (c k)) hi]; grind
    rw [hray] at hneg
    have hnl : ¬ InB m (B l) (B k i) := by
      intro ⟨i', hi', e⟩
      rw [← e, hIl.red_basic cost hi'] at hneg
      grind
    -- it came in somewhere in between
    obtain ⟨k', hk'1, hk'2, hk'3⟩ : ∃ k', p ≤ k' ∧ k' < p + d + 1 ∧ c k' = B k i := by
      by_cases hp : InB m (B p) (B k i)
      · have h1 := (same _).1 hp
        rw [show p + d + 1 = l + (p + d + 1 - l) by omega] at h1
        obtain ⟨k', a, b, e⟩ := h.enter (B k i) l (p + d + 1 - l) (by omega) hnl h1
        exact ⟨k', by omega, by omega, e⟩
      · have h1 : InB m (B (p + (k - p))) (B k i) := by rw [show p + (k - p) = k by omega]; exact ⟨i, hi, rfl⟩
        obtain ⟨k', a, b, e⟩ := h.enter (B k i) p (k - p) (by omega) hp h1
        exact ⟨k', by omega, by omega, e⟩
    have hle := hmax k' hk'1 hk'2
    rw [hk'3] at hle
    by_cases het : B k i = c l
    · have hir : i = r k := hIk.inj hi (h.rlt k (by omega)) (by rw [hk3, het])
      have h1 := h.pos k (by omega)
      have h2 := h.neg l (by omega)
      rw [het, hir] at hneg
      have := mul_nonneg_of_neg (Rat.le_of_lt h2) (show - T k (r k) (c k) ≤ 0 by grind)
      grind
    · have h1 := h.least l (by omega) (B k i) (by omega) (by rw [← hk'3]; exact h.unbar k' (by omega))
      have h2 : 0 < T k i (c k) := by
        by_cases e : 0 < T k i (c k)
        · exact e
        · have := Rat.mul_nonneg h1 (show 0 ≤ - T k i (c k) by grind)
          grind
      have h3 : T k i n = 0 := by
        have e1 := hval' k hk1 (by omega) (B k i)
        have e2 := hval' l hl1 (by omega) (B k i)
        rw [hIk.val_basic (fun i => T k i n) hi] at e1
        rw [val_not (fun i' hi' e => hnl ⟨i', hi', e⟩)] at e2
        grind
      have h4 := hzero k hk1 hk2
      have h5 := h.tie k (by omega) i hi h2 (by rw [h3, h4]; grind)
      rw [hk3] at h5
      omega
  · by_cases e : j = c k
    · have h1 := h.least l (by omega) (c k) hst (h.unbar k (by omega))
      have hray : ray m (T k) (B k) (c k) j = 1 := by
        unfold ray
        rw [if_pos e, val_not (fun i hi e' => hb ⟨i, hi, e'⟩)]; grind
      rw [hray, e] at hneg
      grind
    · have hray : ray m (T k) (B k) (c k) j = 0 := by
        unfold ray
        rw [if_neg e, val_not (fun i hi e' => hb ⟨i, hi, e'⟩)]; grind
      rw [hray] at hneg
      grind

end

/-! ### two of many are alike -/

theorem pigeon : ∀ (N : Nat) (f : Nat → Nat), (∀ k, k ≤ N → f k < N) → ∃ p q, p < q ∧ q ≤ N ∧ f p = f q
  | 0, f, h => absurd (h 0 (by omega)) (by omega)
  | N + 1, f, h => by
    by_cases hex : ∃ p, p ≤ N ∧ f p = f (N + 1)
    · obtain ⟨p, h1, h2⟩ := hex
      exact ⟨p, N + 1, by omega, by omega, h2⟩
    · have hno : ∀ p, p ≤ N → f p ≠ f (N + 1) := fun p hp e => hex ⟨p, hp, e⟩
      obtain ⟨p, q, h1, h2, h3⟩ := pigeon N (fun k => if f k = N then f (N + 1) else f k) (by
        intro k hk
        have h1 := h k (by omega)
        have h2 := h (N + 1) (by omega)
        have h3 := hno k hk
        show (if f k = N then f (N + 1) else f k) < N
        split <;> omega)
      refine ⟨p, q, h1, by omega, ?_⟩
      have h4 := hno p (by omega)
      have h5 := hno q (by omega)
      split at h3 <;> split at h3 <;> omega

/-- a set of columns below n as a number -/
def mask (s : Nat → Bool) : Nat → Nat
  | 0 => 0
  | n + 1 => mask s n + (if s n then 2 ^ n else 0)

theorem mask_lt (s : Nat → Bool) : ∀ n, mask s n < 2 ^ n
  | 0 => by show 0 < 1; omega
  | n + 1 => by
    have := mask_lt s n
    show mask s n + (if s n then 2 ^ n else 0) < 2 ^ (n + 1)
    rw [Nat.pow_succ]
    split <;> omega

theorem mask_inj (s t : Nat → Bool) : ∀ n, mask s n = mask t n → ∀ j, j < n → s j = t j
  | 0, _, j, hj => absurd hj (by omega)
  | n + 1, h, j, hj => by
    have h1 := mask_lt s n
    have h2 := mask_lt t n
    have h3 : mask s n + (if s n then 2 ^ n else 0) = mask t n + (if t n then 2 ^ n else 0) := h
    have h4 : s n = t n := by
      cases hs : s n <;> cases ht : t n <;> simp [hs, ht] at h3 ⊢ <;> omega
    by_cases e : j = n
    · rw [e]; exact h4
    · rw [h4] at h3
      exact mask_inj s t n (by omega) j (by omega)

/-- no run is longer than there are bases -/
theorem Run.bounded {m n : Nat} {A : Nat → Nat → Rat} {cost : Nat → Rat} {bar : Nat → Bool} {T : Nat → Nat → Nat → Rat} {B : Nat → Nat → Nat} {r c : Nat → Nat} (h : Run m n A cost bar (2 ^ n) T B r c) : False := by
  have dec : ∀ k j, Decidable (InB m (B k) j) := fun k j => Classical.propDecidable _
  obtain ⟨p, q, h1, h2, h3⟩ := pigeon (2 ^ n) (fun k => mask (fun j => @decide (InB m (B k) j) (dec k j)) n) (fun k _ => mask_lt _ n)
  have key := mask_inj _ _ n h3
  refine h.no_cycle p (q - p - 1) (by omega) (fun j => ?_)
  rw [show p + (q - p - 1) + 1 = q by omega]
  have hlt : ∀ k, k ≤ 2 ^ n → InB m (B k) j → j < n := by
    intro k hk ⟨i, hi, e⟩
    rw [← e]; exact (h.inv k hk).lt i hi
  constructor
  · intro hj
    have := key j (hlt p (by omega) hj)
    have e : @decide (InB m (B p) j) (dec p j) = true := by simpa using hj
    rw [e] at this
    simpa using this.symm
  · intro hj
    have := key j (hlt q (by omega) hj)
    have e : @decide (InB m (B q) j) (dec q j) = true := by simpa using hj
    rw [e] at this
    simpa using this

end Go.Proofs.Ytnmcgbfhgmmcpaa.Cov

/-
  Plain mathematics: the simplex machine, aim by aim: it halts, and what it leaves is lexicographically least.
-/
namespace Go.Proofs.Ytnmcgbfhgmmcpaa.Cov

/-- the first below n -/
def first (p : Nat → Bool) : Nat → Option Nat
  | 0 => none
  | n + 1 => match first p n with
    | some j => some j
    | none => if p n then some n else none

theorem first_none {p : Nat → Bool} : ∀ {n : Nat}, first p n = none → ∀ i, i < n → p i = false
  | 0, _, i, hi => absurd hi (by omega)
  | n + 1, h, i, hi => by
    unfold first at h
    cases hf : first p n with
    | some j' => rw [hf] at h; cases h
    | none =>
      rw [hf] at h
      simp only at h
      split at h
      · cases h
      · rename_i hp
        by_cases e : i = n
        · rw [e]; simpa using hp
        · exact first_none hf i (by omega)

theorem first_some {p : Nat → Bool} : ∀ {n j : Nat}, first p n = some j → j < n ∧ p j = true ∧ ∀ i, i < j → p i = false
  | 0, j, h => by cases h
  | n + 1, j, h => by
    unfold first at h
    cases hf : first p n with
    | some j' =>
      rw [hf] at h
      simp only [Option.some.injEq] at h
      subst h
      obtain ⟨h1, h2, h3⟩ := first_some hf
      exact ⟨by omega, h2, h3⟩
    | none =>
      rw [hf] at h
      simp only at h
      split at h
      · rename_i hp
        simp only [Option.some.injEq] at h
        subst h
        exact ⟨by omega, hp, fun i hi => first_none hf i hi⟩
      · cases h

/-- the best below m of those that are good -/
def best (good : Nat → Bool) (before : Nat → Nat → Bool) : Nat → Option Nat
  | 0 => none
  | m + 1 => match best good before m with
    | none => if good m then some m else none
    | some b => if good m && before m b then some m else some b

theorem best_none {good : Nat → Bool} {before : Nat → Nat → Bool} : ∀ {m : Nat}, best good before m = none → ∀ i, i < m → good i = false
  | 0, _, i, hi => absurd hi (by omega)
  | m + 1, h, i, hi => by
    unfold best at h
    cases hb : best good before m with
    | none =>
      rw [hb] at h
      simp only at h
      split at h
      · cases h
      · rename_i hp
        by_cases e : i = m
        · rw [e]; simpa using hp
        · exact best_none hb i (by omega)
    | some b =>
      rw [hb] at h
      simp only at h
      split at h <;> cases h

/-- what leaves first: the least ratio, then the least basis -/
def before (T : Nat → Nat → Rat) (B : Nat → Nat) (n c i o : Nat) : Bool :=
  if T i n / T i c = T o n / T o c then decide (B i < B o) else decide (T i n / T i c < T o n / T o c)

theorem best_some {T : Nat → Nat → Rat} {B : Nat → Nat} {n c : Nat} : ∀ {m r : Nat}, best (fun i => decide (0 < T i c)) (before T B n c) m = some r →
    r < m ∧ 0 < T r c ∧ ∀ i, i < m → 0 < T i c → T r n / T r c ≤ T i n / T i c ∧ (T i n / T i c = T r n / T r c → B r ≤ B i)
  | 0, r, h => by cases h
  | m + 1, r, h => by
    unfold best at h
    cases hb : best (fun i => decide (0 < T i c)) (before T B n c) m with
    | none =>
      rw [hb] at h
      simp only at h
      split at h
      · rename_i hp
        simp only [Option.some.injEq] at h
        subst h
        refine ⟨by omega, by simpa using hp, fun i hi hpos => ?_⟩
        by_cases e : i = m
        · subst e; exact ⟨by grind, fun _ => Nat.le_refl _⟩
        · have := best_none hb i (by omega)
          simp at this
          grind
      · cases h
    | some b =>
      rw [hb] at h
      obtain ⟨h1, h2, h3⟩ := best_some hb
      simp only at h
      split at h
      · rename_i hp
        simp only [Option.some.injEq] at h
        subst h
        simp only [Bool.and_eq_true, decide_eq_true_eq] at hp
        obtain ⟨p1, p2⟩ := hp
        unfold before at p2
        refine ⟨by omega, p1, fun i hi hpos => ?_⟩
        by_cases e : i = m
        · subst e; exact ⟨by grind, fun _ => Nat.le_refl _⟩
        · obtain ⟨q1, q2⟩ := h3 i (by omega) hpos
          split at p2
          · rename_i heq
            have p3 : B m < B b := by simpa using p2
            refine ⟨by grind, fun e' => ?_⟩
            have := q2 (by grind)
            omega
          · have p3 : T m n / T m c < T b n / T b c := by simpa using p2
            exact ⟨by grind, fun e' => by grind⟩
      · rename_i hp
        simp only [Option.some.injEq] at h
        subst h
        refine ⟨by omega, h2, fun i hi hpos => ?_⟩
        by_cases e : i = m
        · subst e
          have hp' : before T B n c i b = false := by
            by_cases e' : before T B n c i b = true
            · exfalso; apply hp; rw [e']; simpa using hpos
            · simpa using e'
          unfold before at hp'
          split at hp'
          · rename_i heq
            have p3 : ¬ B i < B b := by simpa using hp'
            exact ⟨by grind, fun _ => by omega⟩
          · have p3 : ¬ T i n / T i c < T b n / T b c := by simpa using hp'
            exact ⟨by grind, fun e' => by grind⟩
        · exact h3 i (by omega) hpos

structure Sx where
  T : Nat → Nat → Rat
  B : Nat → Nat

section
variable (m n : Nat) (cost : Nat → Rat) (bar : Nat → Bool)

def enterOf (s : Sx) : Option Nat := first (fun j => !bar j && decide (red m cost s.T s.B j < 0)) n
def leaveOf (s : Sx) (c : Nat) : Option Nat := best (fun i => decide (0 < s.T i c)) (before s.T s.B n c) m

def stepOf (s : Sx) : Option (Nat × Nat) := match enterOf m n cost bar s with
  | none => none
  | some c => match leaveOf m n s c with
    | none => none
    | some r => some (r, c)

def pivS (s : Sx) (r c : Nat) : Sx := ⟨pivT s.T r c, pivB s.B r c⟩

def nxt (s : Sx) : Sx := match stepOf m n cost bar s with
  | none => s
  | some (r, c) => pivS s r c

def it (s : Sx) : Nat → Sx
  | 0 => s
  | k + 1 => nxt m n cost bar (it s k)

end

theorem nxt_some {m n : Nat} {cost : Nat → Rat} {bar : Nat → Bool} {s : Sx} {rc : Nat × Nat} (h : stepOf m n cost bar s = some rc) : nxt m n cost bar s = pivS s rc.1 rc.2 := by
  unfold nxt
  rw [h]

theorem step_some {m n : Nat} {cost : Nat → Rat} {bar : Nat → Bool} {s : Sx} {r c : Nat} (h : stepOf m n cost bar s = some (r, c)) :
    r < m ∧ c < n ∧ bar c = false ∧ red m cost s.T s.B c < 0 ∧ (∀ j, j < c → bar j = false → 0 ≤ red m cost s.T s.B j) ∧ 0 < s.T r c ∧
    ∀ i, i < m → 0 < s.T i c → s.T r n / s.T r c ≤ s.T i n / s.T i c ∧ (s.T i n / s.T i c = s.T r n / s.T r c → s.B r ≤ s.B i) := by
  unfold stepOf at h
  cases he : enterOf m n cost bar s with
  | none => rw [he] at h; cases h
  | some c' =>
    rw [he] at h
    simp only at h
    cases hl : leaveOf m n s c' with
    | none => rw [hl] at h; cases h
    | some r' =>
      rw [hl] at h
      simp only [Option.some.injEq, Prod.mk.injEq] at h
      obtain ⟨rfl, rfl⟩ := h
      obtain ⟨h1, h2, h3⟩ := first_some he
      obtain ⟨h4, h5, h6⟩ := best_some hl
      simp only [Bool.and_eq_true, Bool.not_eq_true', decide_eq_true_eq] at h2
      refine ⟨h4, h1, h2.1, h2.2, fun j hj hb => ?_, h5, h6⟩
      have := h3 j hj
      rw [hb] at this
      simp at this
      grind

theorem feas_pivot {m n : Nat} {T : Nat → Nat → Rat} {r c : Nat} (hr : r < m) (hf : ∀ i, i < m → 0 ≤ T i n) (hp : 0 < T r c)
    (hmin : ∀ i, i < m → 0 < T i c → T r n / T r c ≤ T i n / T i c) : ∀ i, i < m → 0 ≤ pivT T r c i n := by
  intro i hi
  have h0 := div_nonneg (hf r hr) hp
  unfold pivT
  split
  · exact h0
  · by_cases e : 0 < T i c
    · have h1 := hmin i hi e
      have h2 : T i c * (T r n / T r c) ≤ T i c * (T i n / T i c) := by
        have := Rat.mul_nonneg (Rat.le_of_lt e) (show 0 ≤ T i n / T i c - T r n / T r c by grind)
        grind
      have h3 : T i c * (T i n / T i c) = T i n := by grind
      grind
    · have h1 := mul_nonpos_of (show T i c ≤ 0 by grind) h0
      have h2 := hf i hi
      grind

structure Good (m n : Nat) (A : Nat → Nat → Rat) (bar : Nat → Bool) (s : Sx) : Prop where
  inv : Inv m n A s.T s.B
  feas : ∀ i, i < m → 0 ≤ s.T i n
  open' : ∀ i, i < m → bar (s.B i) = false

theorem Good.step {m n : Nat} {A : Nat → Nat → Rat} {bar : Nat → Bool} {cost : Nat → Rat} {s : Sx} (h : Good m n A bar s) {r c : Nat} (hs : stepOf m n cost bar s = some (r, c)) : Good m n A bar (pivS s r c) := by
  obtain ⟨h1, h2, h3, h4, h5, h6, h7⟩ := step_some hs
  refine ⟨h.inv.pivot h1 h2 (by grind), feas_pivot h1 h.feas h6 (fun i hi hp => (h7 i hi hp).1), fun i hi => ?_⟩
  show bar (pivB s.B r c i) = false
  unfold pivB
  split
  · exact h3
  · exact h.open' i hi

theorem Good.nxt {m n : Nat} {A : Nat → Nat → Rat} {bar : Nat → Bool} {cost : Nat → Rat} {s : Sx} (h : Good m n A bar s) : Good m n A bar (nxt m n cost bar s) := by
  unfold Cov.nxt
  split
  · exact h
  · rename_i r c hs
    exact h.step hs

theorem Good.it {m n : Nat} {A : Nat → Nat → Rat} {bar : Nat → Bool} {cost : Nat → Rat} {s : Sx} (h : Good m n A bar s) : ∀ k, Good m n A bar (it m n cost bar s k)
  | 0 => h
  | k + 1 => (Good.it h k).nxt

theorem halts {m n : Nat} {A : Nat → Nat → Rat} {bar : Nat → Bool} (cost : Nat → Rat) {s : Sx} (h : Good m n A bar s) :
    ∃ k, stepOf m n cost bar (it m n cost bar s k) = none ∧ ∀ k', k' < k → stepOf m n cost bar (it m n cost bar s k') ≠ none := by
  have hex : ∃ k, stepOf m n cost bar (it m n cost bar s k) = none := by
    by_cases hn : ∃ k, stepOf m n cost bar (it m n cost bar s k) = none
    · exact hn
    · exfalso
      have hall : ∀ k, ∃ rc : Nat × Nat, stepOf m n cost bar (it m n cost bar s k) = some rc := by
        intro k
        cases hs : stepOf m n cost bar (it m n cost bar s k) with
        | none => exact absurd ⟨k, hs⟩ hn
        | some rc => exact ⟨rc, rfl⟩
      have hrc := fun k => Classical.choose_spec (hall k)
      refine Run.bounded (m := m) (n := n) (A := A) (cost := cost) (bar := bar) (T := fun k => (it m n cost bar s k).T) (B := fun k => (it m n cost bar s k).B) (r := fun k => (Classical.choose (hall k)).1) (c := fun k => (Classical.choose (hall k)).2) ?_
      have hst := fun k => step_some (r := (Classical.choose (hall k)).1) (c := (Classical.choose (hall k)).2) (hrc k)
      have hnx : ∀ k, it m n cost bar s (k + 1) = pivS (it m n cost bar s k) (Classical.choose (hall k)).1 (Classical.choose (hall k)).2 := by
        intro k
        exact nxt_some (hrc k)
      exact {
        inv := fun k _ => (h.it k).inv
        feas := fun k _ => (h.it k).feas
        rlt := fun k _ => (hst k).1
        clt := fun k _ => (hst k).2.1
        unbar := fun k _ => (hst k).2.2.1
        neg := fun k _ => (hst k).2.2.2.1
        least := fun k _ => (hst k).2.2.2.2.1
        pos := fun k _ => (hst k).2.2.2.2.2.1
        tie := fun k _ i hi hp he => ((hst k).2.2.2.2.2.2 i hi hp).2 he
        nextT := fun k _ => by rw [hnx k]; rfl
        nextB := fun k _ => by rw [hnx k]; rfl }
  obtain ⟨k, hk⟩ := hex
  induction k using Nat.strongRecOn with
  | ind k ih =>
    by_cases hlt : ∃ k', k' < k ∧ stepOf m n cost bar (it m n cost bar s k') = none
    · obtain ⟨k', h1, h2⟩ := hlt
      exact ih k' h1 h2
    · exact ⟨k, hk, fun k' h1 h2 => hlt ⟨k', h1, h2⟩⟩

/-! ### what is best -/

def F (m n : Nat) (A : Nat → Nat → Rat) (bar : Nat → Bool) (x : Nat → Rat) : Prop := Sol m n A x ∧ (∀ j, j < n → 0 ≤ x j) ∧ (∀ j, j < n → bar j = true → x j = 0)

def xb (m n : Nat) (s : Sx) : Nat → Rat := val m (fun i => s.T i n) s.B
def dot (n : Nat) (cost x : Nat → Rat) : Rat := sm n (fun j => cost j * x j)

theorem dot_xb {m n : Nat} {A : Nat → Nat → Rat} {s : Sx} (h : Inv m n A s.T s.B) (cost : Nat → Rat) : dot n cost (xb m n s) = obj m n cost s.T s.B := by
  rw [obj_val h cost]
  exact sm_congr (fun j _ => by unfold xb; grind)

theorem val_nonneg {m : Nat} {t : Nat → Rat} {B : Nat → Nat} (h : ∀ i, i < m → 0 ≤ t i) (j : Nat) : 0 ≤ val m t B j := by
  refine sm_nonneg (fun i hi => ?_)
  split
  · exact h i hi
  · grind

theorem Good.xb_mem {m n : Nat} {A : Nat → Nat → Rat} {bar : Nat → Bool} {s : Sx} (h : Good m n A bar s) : F m n A bar (xb m n s) := by
  refine ⟨h.inv.sol_basic, fun j _ => val_nonneg h.feas j, fun j _ hb => ?_⟩
  refine val_not (fun i hi e => ?_)
  have := h.open' i hi
  rw [e, hb] at this
  cases this

def narrowed (m n : Nat) (cost : Nat → Rat) (bar : Nat → Bool) (s : Sx) : Nat → Bool := fun j => bar j || (decide (j < n) && decide (0 < red m cost s.T s.B j))

/-- at a halt the costs that are left, of what isn't barred, aren't negative: the other way out is a ray without end -/
theorem halt_best {m n : Nat} {A : Nat → Nat → Rat} {bar : Nat → Bool} {cost : Nat → Rat} {s : Sx} (h : Good m n A bar s) (hs : stepOf m n cost bar s = none)
    (L : Rat) (hL : ∀ x, F m n A bar x → L ≤ dot n cost x) : ∀ j, j < n → bar j = false → 0 ≤ red m cost s.T s.B j := by
  unfold stepOf at hs
  cases he : enterOf m n cost bar s with
  | none =>
    intro j hj hb
    have := first_none he j hj
    rw [hb] at this
    simp at this
    grind
  | some c =>
    exfalso
    rw [he] at hs
    simp only at hs
    obtain ⟨h1, h2, h3⟩ := first_some he
    simp only [Bool.and_eq_true, Bool.not_eq_true', decide_eq_true_eq] at h2
    obtain ⟨hb, hneg⟩ := h2
    have hcol : ∀ i, i < m → s.T i c ≤ 0 := by
      intro i hi
      cases hl : leaveOf m n s c with
      | none =>
        have := best_none hl i hi
        simp at this
        grind
      | some r => rw [hl] at hs; cases hs
    -- far along the ray
    have hray : ∀ j, 0 ≤ ray m s.T s.B c j := by
      intro j
      unfold ray
      have := val_nonneg (B := s.B) (t := fun i => - s.T i c) (m := m) (fun i hi => by have := hcol i hi; grind) j
      split <;> grind
    have hF : ∀ t : Rat, 0 ≤ t → F m n A bar (fun j => xb m n s j + t * ray m s.T s.B c j) := by
      intro t ht
      obtain ⟨k1, k2, k3⟩ := h.xb_mem
      refine ⟨fun q hq => ?_, fun j hj => ?_, fun j hj hbj => ?_⟩
      · have e : (fun j => (xb m n s j + t * ray m s.T s.B c j) * A j q) = fun j => xb m n s j * A j q + t * (ray m s.T s.B c j * A j q) := by funext j; grind
        rw [e, sm_add, sm_mul, k1 q hq, h.inv.hom_ray h1 q hq]; grind
      · have a1 := k2 j hj
        have a2 := Rat.mul_nonneg ht (hray j)
        grind
      · have a1 := k3 j hj hbj
        have a2 : ray m s.T s.B c j = 0 := by
          unfold ray
          rw [if_neg (fun e => by rw [e, hb] at hbj; cases hbj), val_not (fun i hi e => by have := h.open' i hi; rw [e, hbj] at this; cases this)]; grind
        show xb m n s j + t * ray m s.T s.B c j = 0
        rw [a1, a2]; grind
    have hdot : ∀ t : Rat, dot n cost (fun j => xb m n s j + t * ray m s.T s.B c j) = dot n cost (xb m n s) + t * red m cost s.T s.B c := by
      intro t
      unfold dot
      have e : (fun j => cost j * (xb m n s j + t * ray m s.T s.B c j)) = fun j => cost j * xb m n s j + t * (cost j * ray m s.T s.B c j) := by funext j; grind
      rw [e, sm_add, sm_mul, h.inv.ray_cost cost h1]
    have hb0 := hL _ h.xb_mem
    have ht : 0 ≤ (dot n cost (xb m n s) - L + 1) / (- red m cost s.T s.B c) := div_nonneg (by grind) (by grind)
    have h5 := hL _ (hF _ ht)
    rw [hdot] at h5
    have h6 : (dot n cost (xb m n s) - L + 1) / (- red m cost s.T s.B c) * red m cost s.T s.B c = -(dot n cost (xb m n s) - L + 1) := by grind
    grind

theorem phase {m n : Nat} {A : Nat → Nat → Rat} {bar : Nat → Bool} {cost : Nat → Rat} {s : Sx} (h : Good m n A bar s) (hs : stepOf m n cost bar s = none)
    (L : Rat) (hL : ∀ x, F m n A bar x → L ≤ dot n cost x) :
    Good m n A (narrowed m n cost bar s) s ∧ (∀ x, F m n A (narrowed m n cost bar s) x → F m n A bar x ∧ dot n cost x = dot n cost (xb m n s)) ∧
    (∀ x, F m n A bar x → dot n cost (xb m n s) ≤ dot n cost x ∧ (dot n cost x ≤ dot n cost (xb m n s) → F m n A (narrowed m n cost bar s) x)) := by
  have hbest := halt_best h hs L hL
  have hcost : ∀ x, F m n A bar x → dot n cost x = sm n (fun j => red m cost s.T s.B j * x j) + dot n cost (xb m n s) := by
    intro x hx
    rw [dot_xb h.inv cost]
    exact h.inv.cost_sol cost hx.1
  have hterm : ∀ x, F m n A bar x → ∀ j, j < n → 0 ≤ red m cost s.T s.B j * x j := by
    intro x hx j hj
    cases hb : bar j with
    | false => exact Rat.mul_nonneg (hbest j hj hb) (hx.2.1 j hj)
    | true => rw [hx.2.2 j hj hb]; grind
  refine ⟨⟨h.inv, h.feas, fun i hi => ?_⟩, fun x hx => ?_, fun x hx => ?_⟩
  · unfold narrowed
    rw [h.open' i hi, h.inv.red_basic cost hi]
    simp
  · have hx' : F m n A bar x := ⟨hx.1, hx.2.1, fun j hj hb => hx.2.2 j hj (by unfold narrowed; rw [hb]; rfl)⟩
    refine ⟨hx', ?_⟩
    rw [hcost x hx', sm_zero]
    · grind
    · intro j hj
      cases hn : narrowed m n cost bar s j with
      | true => rw [hx.2.2 j hj hn]; grind
      | false =>
        unfold narrowed at hn
        simp only [Bool.or_eq_false_iff, Bool.and_eq_false_iff, decide_eq_false_iff_not] at hn
        obtain ⟨n1, n2⟩ := hn
        have := hbest j hj n1
        have h0 : red m cost s.T s.B j = 0 := by
          rcases n2 with n2 | n2
          · omega
          · grind
        rw [h0]; grind
  · have h1 := hcost x hx
    have h2 := sm_nonneg (hterm x hx)
    refine ⟨by grind, fun hle => ⟨hx.1, hx.2.1, fun j hj hn => ?_⟩⟩
    have h3 := sm_nonneg_zero (hterm x hx) (by grind) j hj
    unfold narrowed at hn
    simp only [Bool.or_eq_true, Bool.and_eq_true, decide_eq_true_eq] at hn
    rcases hn with hn | ⟨_, hn⟩
    · exact hx.2.2 j hj hn
    · rcases Rat.mul_eq_zero.1 h3 with e | e
      · grind
      · exact e

end Go.Proofs.Ytnmcgbfhgmmcpaa.Cov
