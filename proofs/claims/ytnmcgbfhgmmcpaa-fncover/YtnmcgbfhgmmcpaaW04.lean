import Derived.Test.YtnmcgbfhgmmcpaaW03
/-
  Plain mathematics: aim after aim; covers and packings.
-/
namespace Go.Proofs.Ytnmcgbfhgmmcpaa.Cov

def Lex : List Rat → List Rat → Prop
  | a :: l, b :: r => a < b ∨ (a = b ∧ Lex l r)
  | [], [] => True
  | _, _ => False

theorem Lex.antisymm : ∀ {l r : List Rat}, Lex l r → Lex r l → l = r
  | [], [], _, _ => rfl
  | [], _ :: _, h, _ => h.elim
  | _ :: _, [], h, _ => h.elim
  | a :: l, b :: r, h1, h2 => by
    rcases h1 with h1 | ⟨h1, h1'⟩ <;> rcases h2 with h2 | ⟨h2, h2'⟩
    · exfalso; grind
    · exfalso; grind
    · exfalso; grind
    · rw [h1, Lex.antisymm h1' h2']

theorem Lex.refl : ∀ l : List Rat, Lex l l
  | [] => trivial
  | _ :: l => Or.inr ⟨rfl, Lex.refl l⟩

/-- one aim: pivots until none is left, then what would cost is barred -/
def Aim (m n : Nat) (cost : Nat → Rat) (bar : Nat → Bool) (s : Sx) (bar' : Nat → Bool) (s' : Sx) : Prop :=
  ∃ k, stepOf m n cost bar (it m n cost bar s k) = none ∧ (∀ k', k' < k → stepOf m n cost bar (it m n cost bar s k') ≠ none) ∧ s' = it m n cost bar s k ∧ bar' = narrowed m n cost bar s'

def Aims (m n : Nat) : List (Nat → Rat) → (Nat → Bool) → Sx → (Nat → Bool) → Sx → Prop
  | [], bar, s, bar', s' => bar' = bar ∧ s' = s
  | c :: l, bar, s, bar', s' => ∃ b1 s1, Aim m n c bar s b1 s1 ∧ Aims m n l b1 s1 bar' s'

theorem Good.aim {m n : Nat} {A : Nat → Nat → Rat} {cost : Nat → Rat} {bar bar' : Nat → Bool} {s s' : Sx} (h : Good m n A bar s) (ha : Aim m n cost bar s bar' s')
    (L : Rat) (hL : ∀ x, F m n A bar x → L ≤ dot n cost x) :
    Good m n A bar' s' ∧ (∀ x, F m n A bar' x → F m n A bar x ∧ dot n cost x = dot n cost (xb m n s')) ∧
    (∀ x, F m n A bar x → dot n cost (xb m n s') ≤ dot n cost x ∧ (dot n cost x ≤ dot n cost (xb m n s') → F m n A bar' x)) := by
  obtain ⟨k, h1, _, h3, h4⟩ := ha
  subst h4
  rw [← h3] at h1
  have hg : Good m n A bar s' := by rw [h3]; exact h.it k
  exact phase hg h1 L hL

theorem Good.aims {m n : Nat} {A : Nat → Nat → Rat} : ∀ {l : List (Nat → Rat)} {bar bar' : Nat → Bool} {s s' : Sx}, Good m n A bar s → Aims m n l bar s bar' s' →
    (∀ c ∈ l, ∃ L : Rat, ∀ x, F m n A bar x → L ≤ dot n c x) →
    Good m n A bar' s' ∧ (∀ x, F m n A bar' x → F m n A bar x) ∧ ∀ x, F m n A bar x → Lex (l.map fun c => dot n c (xb m n s')) (l.map fun c => dot n c x)
  | [], bar, bar', s, s', hg, ha, _ => by
    obtain ⟨rfl, rfl⟩ := ha
    exact ⟨hg, fun _ hx => hx, fun _ _ => trivial⟩
  | c :: l, bar, bar', s, s', hg, ha, hb => by
    obtain ⟨b1, s1, h1, h2⟩ := ha
    obtain ⟨L, hL⟩ := hb c (List.mem_cons_self)
    obtain ⟨g1, g2, g3⟩ := hg.aim h1 L hL
    obtain ⟨k1, k2, k3⟩ := Good.aims g1 h2 (fun c' hc' => by
      obtain ⟨L', hL'⟩ := hb c' (List.mem_cons_of_mem _ hc')
      exact ⟨L', fun x hx => hL' x (g2 x hx).1⟩)
    refine ⟨k1, fun x hx => (g2 x (k2 x hx)).1, fun x hx => ?_⟩
    show dot n c (xb m n s') < dot n c x ∨ (dot n c (xb m n s') = dot n c x ∧ Lex (l.map fun c => dot n c (xb m n s')) (l.map fun c => dot n c x))
    have e1 := (g2 _ (k2 _ k1.xb_mem)).2
    obtain ⟨e2, e3⟩ := g3 x hx
    by_cases e : dot n c (xb m n s') < dot n c x
    · exact Or.inl e
    · exact Or.inr ⟨by grind, k3 x (e3 (by grind))⟩

theorem aim_exists {m n : Nat} {A : Nat → Nat → Rat} (cost : Nat → Rat) {bar : Nat → Bool} {s : Sx} (h : Good m n A bar s) : ∃ bar' s', Aim m n cost bar s bar' s' := by
  obtain ⟨k, h1, h2⟩ := halts cost h
  exact ⟨_, _, k, h1, h2, rfl, rfl⟩

/-! ### costs -/

def cf (a b : Nat) (v : Rat) : Nat → Rat := fun j => if a ≤ j ∧ j < b then v else 0

theorem sm_app (a b : Nat) (f : Nat → Rat) : sm (a + b) f = sm a f + sm b (fun i => f (a + i)) := by
  induction b with
  | zero => show sm a f = sm a f + 0; grind
  | succ b ih =>
    show sm (a + b) f + f (a + b) = sm a f + (sm b (fun i => f (a + i)) + f (a + b))
    rw [ih]; grind

theorem dot_unit {n k : Nat} (hk : k < n) (x : Nat → Rat) : dot n (cf k (k + 1) 1) x = x k := by
  unfold dot
  rw [sm_single (k := k) hk]
  · unfold cf; rw [if_pos ⟨by omega, by omega⟩]; grind
  · intro i _ hne
    unfold cf; rw [if_neg (by omega)]; grind

theorem dot_range (a b c : Nat) (v : Rat) (x : Nat → Rat) : dot (a + b + c) (cf a (a + b) v) x = v * sm b (fun i => x (a + i)) := by
  unfold dot
  rw [sm_app (a + b) c, sm_app a b]
  have e1 : sm a (fun j => cf a (a + b) v j * x j) = 0 := sm_zero (fun i hi => by unfold cf; rw [if_neg (by omega)]; grind)
  have e2 : sm c (fun i => cf a (a + b) v (a + b + i) * x (a + b + i)) = 0 := sm_zero (fun i hi => by unfold cf; rw [if_neg (by omega)]; grind)
  rw [e1, e2, ← sm_mul]
  have e3 : sm b (fun i => cf a (a + b) v (a + i) * x (a + i)) = sm b (fun i => v * x (a + i)) := sm_congr (fun i hi => by unfold cf; rw [if_pos ⟨by omega, by omega⟩])
  rw [e3]; grind

/-- one list for each unknown: its own cost -/
def units (u : Nat) : List (Nat → Rat) := (List.range u).map fun k => cf k (k + 1) 1

/-- what is held against others: the sum times v, then the numbers in order -/
def key (v : Rat) (u : Nat) (x : Nat → Rat) : List Rat := (v * sm u x) :: (List.range u).map x

theorem key_inj {v : Rat} {u : Nat} {x y : Nat → Rat} (h : key v u x = key v u y) : ∀ k, k < u → x k = y k := by
  intro k hk
  have h1 : (List.range u).map x = (List.range u).map y := (List.cons.inj h).2
  have h2 : ((List.range u).map x)[k]? = ((List.range u).map y)[k]? := by rw [h1]
  simpa [hk] using h2

theorem key_congr {v : Rat} {u : Nat} {x y : Nat → Rat} (h : ∀ k, k < u → x k = y k) : key v u x = key v u y := by
  unfold key
  rw [sm_congr h]
  congr 1
  refine List.map_congr_left (fun k hk => h k (by simpa using hk))

theorem map_units {n u : Nat} (hu : u ≤ n) (x : Nat → Rat) : (units u).map (fun c => dot n c x) = (List.range u).map x := by
  unfold units
  rw [List.map_map]
  refine List.map_congr_left (fun k hk => ?_)
  have : k < u := by simpa using hk
  exact dot_unit (by omega) x

theorem units_bound {m n u : Nat} {A : Nat → Nat → Rat} (hu : u ≤ n) : ∀ c ∈ units u, ∃ L : Rat, ∀ x, F m n A (fun _ => false) x → L ≤ dot n c x := by
  intro c hc
  unfold units at hc
  obtain ⟨k, hk, rfl⟩ := List.mem_map.1 hc
  have hk' : k < u := by simpa using hk
  exact ⟨0, fun x hx => by rw [dot_unit (by omega) x]; exact hx.2.1 k (by omega)⟩

theorem det_one : ∀ m, det m (fun j i => if j = i then 1 else 0) = 1
  | 0 => rfl
  | m + 1 => by
    show sm (m + 1) _ = 1
    rw [sm_single (k := 0) (by omega)]
    · have e : minor 0 (fun j i => if j = i then (1 : Rat) else 0) = fun j i => if j = i then 1 else 0 := by
        funext a b
        show (if skip 0 a = b + 1 then (1 : Rat) else 0) = if a = b then 1 else 0
        rw [show skip 0 a = a + 1 from if_neg (by omega)]
        by_cases e : a = b
        · rw [if_pos e, if_pos (by omega)]
        · rw [if_neg e, if_neg (by omega)]
      rw [e, det_one m]
      show 1 * 1 * 1 = (1 : Rat)
      grind
    · intro i _ hne
      show sg i * (if i = 0 then 1 else 0) * _ = (0 : Rat)
      rw [if_neg hne]; grind

/-- the first table of a program: its last m columns are the basis -/
theorem good_start {m n o : Nat} {A : Nat → Nat → Rat} (ho : o + m ≤ n) (hunit : ∀ i, i < m → ∀ r, r < m → A (o + i) r = if i = r then 1 else 0) (hone : ∀ r, r < m → A n r = 1) :
    Good m n A (fun _ => false) ⟨fun i j => A j i, fun i => o + i⟩ := by
  refine ⟨⟨fun i hi => by show o + i < n; omega, fun i hi k hk => ?_, fun j hj r hr => ?_, ?_⟩, fun i hi => ?_, fun _ _ => rfl⟩
  · show A (o + k) i = _
    rw [hunit k hk i hi]
    by_cases e : i = k
    · rw [if_pos e, if_pos e.symm]
    · rw [if_neg e, if_neg (fun h => e h.symm)]
  · show A j r = sm m (fun i => A j i * A (o + i) r)
    rw [sm_single (k := r) hr]
    · rw [hunit r hr r hr, if_pos rfl]; grind
    · intro i hi hne
      rw [hunit i hi r hr, if_neg hne]; grind
  · rw [det_congr (N := fun j i => if j = i then 1 else 0) (fun j hj i hi => hunit j hj i hi), det_one]
    grind
  · show 0 ≤ A n i
    rw [hone i hi]
    decide

/-! ### packings -/

def Pack (m u : Nat) (M : Nat → Nat → Rat) (x : Nat → Rat) : Prop := (∀ e, e < u → 0 ≤ x e) ∧ ∀ r, r < m → sm u (fun e => M r e * x e) ≤ 1
def Cover (m u : Nat) (M : Nat → Nat → Rat) (x : Nat → Rat) : Prop := (∀ e, e < u → 0 ≤ x e) ∧ ∀ r, r < m → 1 ≤ sm u (fun e => M r e * x e)

def packA (m u : Nat) (M : Nat → Nat → Rat) : Nat → Nat → Rat := fun j r => if j < u then M r j else if j < u + m then (if j - u = r then 1 else 0) else 1
def coverA (m u : Nat) (M : Nat → Nat → Rat) : Nat → Nat → Rat := fun j r => if j < u then M r j else if j < u + m then (if j - u = r then -1 else 0) else if j < u + m + m then (if j - u - m = r then 1 else 0) else 1

theorem sm_delta {m r : Nat} (hr : r < m) (f : Nat → Rat) (v : Rat) : sm m (fun i => f i * (if i = r then v else 0)) = f r * v := by
  rw [sm_single (k := r) hr]
  · rw [if_pos rfl]
  · intro i _ hne; rw [if_neg hne]; grind

theorem packA_row {m u : Nat} {M : Nat → Nat → Rat} {r : Nat} (hr : r < m) (x : Nat → Rat) : sm (u + m) (fun j => x j * packA m u M j r) = sm u (fun e => M r e * x e) + x (u + r) := by
  rw [sm_app]
  have e1 : sm u (fun j => x j * packA m u M j r) = sm u (fun e => M r e * x e) := sm_congr (fun i hi => by unfold packA; rw [if_pos hi]; grind)
  have e2 : sm m (fun i => x (u + i) * packA m u M (u + i) r) = sm m (fun i => x (u + i) * (if i = r then 1 else 0)) := sm_congr (fun i hi => by
    unfold packA; rw [if_neg (by omega), if_pos (by omega), show u + i - u = i by omega])
  rw [e1, e2, sm_delta hr]; grind

theorem pack_good {m u : Nat} {M : Nat → Nat → Rat} : Good m (u + m) (packA m u M) (fun _ => false) ⟨fun i j => packA m u M j i, fun i => u + i⟩ := by
  refine good_start (by omega) (fun i hi r hr => ?_) (fun r hr => ?_)
  · unfold packA; rw [if_neg (by omega), if_pos (by omega), show u + i - u = i by omega]
  · unfold packA; rw [if_neg (by omega), if_neg (by omega)]

theorem pack_least {m u : Nat} {M : Nat → Nat → Rat} (hM : ∀ r, r < m → ∀ e, e < u → 0 ≤ M r e) (hin : ∀ e, e < u → ∃ r, r < m ∧ M r e = 1) {bar' : Nat → Bool} {s' : Sx}
    (h : Aims m (u + m) (cf 0 u (-1) :: units u) (fun _ => false) ⟨fun i j => packA m u M j i, fun i => u + i⟩ bar' s') :
    Good m (u + m) (packA m u M) bar' s' ∧ Pack m u M (xb m (u + m) s') ∧ ∀ y, Pack m u M y → Lex (key (-1) u (xb m (u + m) s')) (key (-1) u y) := by
  have hsum : ∀ x, dot (u + m) (cf 0 u (-1)) x = (-1) * sm u x := by
    intro x
    have := dot_range 0 u m (-1) x
    rw [show 0 + u = u by omega] at this
    rw [this]
    congr 1
    exact sm_congr (fun i _ => by rw [show 0 + i = i by omega])
  have hrow : ∀ x, F m (u + m) (packA m u M) (fun _ => false) x → ∀ r, r < m → sm u (fun e => M r e * x e) + x (u + r) = 1 := by
    intro x hx r hr
    rw [← packA_row hr x, hx.1 r hr]
    unfold packA; rw [if_neg (by omega), if_neg (by omega)]
  have hpack : ∀ x, F m (u + m) (packA m u M) (fun _ => false) x → Pack m u M x := by
    intro x hx
    refine ⟨fun e he => hx.2.1 e (by omega), fun r hr => ?_⟩
    have h1 := hrow x hx r hr
    have h2 := hx.2.1 (u + r) (by omega)
    grind
  have hone : ∀ x, F m (u + m) (packA m u M) (fun _ => false) x → ∀ e, e < u → x e ≤ 1 := by
    intro x hx e he
    obtain ⟨r, hr, hre⟩ := hin e he
    have hp := (hpack x hx).2 r hr
    have h1 : M r e * x e ≤ sm u (fun e => M r e * x e) := by
      rw [sm_split he (fun e => M r e * x e)]
      have : 0 ≤ sm u (fun i => if i = e then 0 else M r i * x i) := sm_nonneg (fun i hi => by
        split
        · grind
        · exact Rat.mul_nonneg (hM r hr i hi) (hx.2.1 i (by omega)))
      grind
    rw [hre] at h1
    grind
  obtain ⟨g1, g2, g3⟩ := (pack_good (m := m) (u := u) (M := M)).aims h (fun c hc => by
    rcases List.mem_cons.1 hc with rfl | hc
    · refine ⟨-sm u (fun _ => 1), fun x hx => ?_⟩
      rw [hsum]
      have := sm_le (n := u) (f := x) (g := fun _ => 1) (fun i hi => hone x hx i hi)
      grind
    · exact units_bound (by omega) c hc)
  have hF := g2 _ g1.xb_mem
  refine ⟨g1, hpack _ hF, fun y hy => ?_⟩
  have hext : F m (u + m) (packA m u M) (fun _ => false) (fun j => if j < u then y j else 1 - sm u (fun e => M (j - u) e * y e)) := by
    refine ⟨fun r hr => ?_, fun j hj => ?_, fun j _ hb => by cases hb⟩
    · rw [packA_row hr]
      have e1 : sm u (fun e => M r e * (if e < u then y e else 1 - sm u (fun e' => M (e - u) e' * y e'))) = sm u (fun e => M r e * y e) := sm_congr (fun i hi => by rw [if_pos hi])
      rw [e1, if_neg (by omega), show u + r - u = r by omega]
      unfold packA; rw [if_neg (by omega), if_neg (by omega)]; grind
    · show 0 ≤ if j < u then y j else 1 - sm u (fun e => M (j - u) e * y e)
      split
      · exact hy.1 j (by assumption)
      · have := hy.2 (j - u) (by omega)
        grind
  have hlex := g3 _ hext
  rw [List.map_cons, List.map_cons, map_units (by omega), map_units (by omega), hsum, hsum] at hlex
  have e2 : key (-1) u (fun j => if j < u then y j else 1 - sm u (fun e => M (j - u) e * y e)) = key (-1) u y := key_congr (fun k hk => if_pos hk)
  rw [← e2]
  exact hlex

/-! ### covers -/

theorem coverA_row {m u : Nat} {M : Nat → Nat → Rat} {r : Nat} (hr : r < m) (x : Nat → Rat) : sm (u + m + m) (fun j => x j * coverA m u M j r) = sm u (fun e => M r e * x e) - x (u + r) + x (u + m + r) := by
  rw [sm_app (u + m) m, sm_app u m]
  have e1 : sm u (fun j => x j * coverA m u M j r) = sm u (fun e => M r e * x e) := sm_congr (fun i hi => by unfold coverA; rw [if_pos hi]; grind)
  have e2 : sm m (fun i => x (u + i) * coverA m u M (u + i) r) = sm m (fun i => x (u + i) * (if i = r then -1 else 0)) := sm_congr (fun i hi => by
    unfold coverA; rw [if_neg (by omega), if_pos (by omega), show u + i - u = i by omega])
  have e3 : sm m (fun i => x (u + m + i) * coverA m u M (u + m + i) r) = sm m (fun i => x (u + m + i) * (if i = r then 1 else 0)) := sm_congr (fun i hi => by
    unfold coverA; rw [if_neg (by omega), if_neg (by omega), if_pos (by omega), show u + m + i - u - m = i by omega])
  rw [e1, e2, e3, sm_delta hr (fun i => x (u + i)), sm_delta hr (fun i => x (u + m + i))]; grind

theorem cover_good {m u : Nat} {M : Nat → Nat → Rat} : Good m (u + m + m) (coverA m u M) (fun _ => false) ⟨fun i j => coverA m u M j i, fun i => u + m + i⟩ := by
  refine good_start (by omega) (fun i hi r hr => ?_) (fun r hr => ?_)
  · unfold coverA; rw [if_neg (by omega), if_neg (by omega), if_pos (by omega), show u + m + i - u - m = i by omega]
  · unfold coverA; rw [if_neg (by omega), if_neg (by omega), if_neg (by omega)]

theorem cover_least {m u : Nat} {M : Nat → Nat → Rat} (hM : ∀ r, r < m → ∀ e, e < u → 0 ≤ M r e) (hin : ∀ r, r < m → ∃ e, e < u ∧ M r e = 1) {bar' : Nat → Bool} {s' : Sx}
    (h : Aims m (u + m + m) (cf (u + m) (u + m + m) 1 :: cf 0 u 1 :: units u) (fun _ => false) ⟨fun i j => coverA m u M j i, fun i => u + m + i⟩ bar' s') :
    Good m (u + m + m) (coverA m u M) bar' s' ∧ Cover m u M (xb m (u + m + m) s') ∧ ∀ y, Cover m u M y → Lex (key 1 u (xb m (u + m + m) s')) (key 1 u y) := by
  have hart : ∀ x, dot (u + m + m) (cf (u + m) (u + m + m) 1) x = sm m (fun i => x (u + m + i)) := by
    intro x
    have := dot_range (u + m) m 0 1 x
    rw [Nat.add_zero] at this
    rw [this]; grind
  have hsum : ∀ x, dot (u + m + m) (cf 0 u 1) x = 1 * sm u x := by
    intro x
    have := dot_range 0 u (m + m) 1 x
    rw [show 0 + u = u by omega, show u + (m + m) = u + m + m by omega] at this
    rw [this]
    congr 1
    exact sm_congr (fun i _ => by rw [show 0 + i = i by omega])
  have hrow : ∀ x, F m (u + m + m) (coverA m u M) (fun _ => false) x → ∀ r, r < m → sm u (fun e => M r e * x e) - x (u + r) + x (u + m + r) = 1 := by
    intro x hx r hr
    rw [← coverA_row hr x, hx.1 r hr]
    unfold coverA; rw [if_neg (by omega), if_neg (by omega), if_neg (by omega)]
  obtain ⟨g1, g2, g3⟩ := (cover_good (m := m) (u := u) (M := M)).aims h (fun c hc => by
    rcases List.mem_cons.1 hc with rfl | hc
    · exact ⟨0, fun x hx => by rw [hart]; exact sm_nonneg (fun i hi => hx.2.1 _ (by omega))⟩
    · rcases List.mem_cons.1 hc with rfl | hc
      · exact ⟨0, fun x hx => by rw [hsum]; have := sm_nonneg (n := u) (f := x) (fun i hi => hx.2.1 _ (by omega)); grind⟩
      · exact units_bound (by omega) c hc)
  have hF := g2 _ g1.xb_mem
  have hext : ∀ y, Cover m u M y → F m (u + m + m) (coverA m u M) (fun _ => false) (fun j => if j < u then y j else if j < u + m then sm u (fun e => M (j - u) e * y e) - 1 else 0) := by
    intro y hy
    refine ⟨fun r hr => ?_, fun j hj => ?_, fun j _ hb => by cases hb⟩
    · rw [coverA_row hr]
      have e1 : sm u (fun e => M r e * (if e < u then y e else if e < u + m then sm u (fun e' => M (e - u) e' * y e') - 1 else 0)) = sm u (fun e => M r e * y e) := sm_congr (fun i hi => by rw [if_pos hi])
      rw [e1, if_neg (by omega), if_pos (by omega), if_neg (by omega), if_neg (by omega), show u + r - u = r by omega]
      unfold coverA; rw [if_neg (by omega), if_neg (by omega), if_neg (by omega)]; grind
    · show 0 ≤ if j < u then y j else if j < u + m then sm u (fun e => M (j - u) e * y e) - 1 else 0
      split
      · exact hy.1 j (by assumption)
      · split
        · have := hy.2 (j - u) (by omega)
          grind
        · grind
  have hartz : ∀ y : Nat → Rat, dot (u + m + m) (cf (u + m) (u + m + m) 1) (fun j => if j < u then y j else if j < u + m then sm u (fun e => M (j - u) e * y e) - 1 else 0) = 0 := by
    intro y
    rw [hart]
    exact sm_zero (fun i _ => by rw [if_neg (by omega), if_neg (by omega)])
  have hcov1 : Cover m u M (fun _ => 1) := by
    refine ⟨fun _ _ => by show (0 : Rat) ≤ 1; decide, fun r hr => ?_⟩
    obtain ⟨e, he, hre⟩ := hin r hr
    rw [sm_split he (fun e => M r e * 1), hre]
    have : 0 ≤ sm u (fun i => if i = e then 0 else M r i * 1) := sm_nonneg (fun i hi => by
      split
      · grind
      · have := hM r hr i hi; grind)
    grind
  have hzero : sm m (fun i => xb m (u + m + m) s' (u + m + i)) ≤ 0 := by
    obtain ⟨y1, hy1⟩ : ∃ y : Nat → Rat, Cover m u M y := ⟨_, hcov1⟩
    have h1 := g3 _ (hext y1 hy1)
    simp only [List.map_cons] at h1
    rw [hartz, hart] at h1
    rcases h1 with h1 | ⟨h1, _⟩ <;> grind
  have hz := sm_nonneg_zero (fun i hi => hF.2.1 _ (by omega)) hzero
  refine ⟨g1, ⟨fun e he => hF.2.1 e (by omega), fun r hr => ?_⟩, fun y hy => ?_⟩
  · have h1 := hrow _ hF r hr
    have h2 := hz r hr
    have h3 := hF.2.1 (u + r) (by omega)
    grind
  · have h1 := g3 _ (hext y hy)
    simp only [List.map_cons] at h1
    rw [map_units (by omega), map_units (by omega), hartz, hart, hsum, hsum] at h1
    rw [sm_zero hz] at h1
    have e2 : key 1 u (fun j => if j < u then y j else if j < u + m then sm u (fun e => M (j - u) e * y e) - 1 else 0) = key 1 u y := key_congr (fun k hk => if_pos hk)
    rw [← e2]
    rcases h1 with h1 | ⟨_, h1⟩
    · exfalso; grind
    · exact h1

end Go.Proofs.Ytnmcgbfhgmmcpaa.Cov

/-
  Plain mathematics: at the lexicographically least point of a polyhedron there are as many independent active demands as numbers.
-/
namespace Go.Proofs.Ytnmcgbfhgmmcpaa.Cov

structure Dm where
  a : Nat → Rat
  up : Bool
  b : Rat

def Dm.at (n : Nat) (D : Dm) (x : Nat → Rat) : Rat := sm n (fun i => D.a i * x i)
def Dm.meets (n : Nat) (D : Dm) (x : Nat → Rat) : Prop := if D.up then D.at n x ≤ D.b else D.b ≤ D.at n x

def Kern (n : Nat) (S : List Dm) : Prop := ∀ d : Nat → Rat, (∀ D ∈ S, D.at n d = 0) → ∀ i, i < n → d i = 0

theorem sm_skip : ∀ (k a : Nat) (f : Nat → Rat), a < k + 1 → sm (k + 1) f = f a + sm k (fun b => f (skip a b))
  | k, a, f, h => by
    by_cases e : a = k
    · subst e
      show sm a f + f a = f a + sm a (fun b => f (skip a b))
      have : sm a f = sm a (fun b => f (skip a b)) := sm_congr (fun i hi => by rw [show skip a i = i from if_pos hi])
      rw [← this]; grind
    · obtain ⟨k', rfl⟩ : ∃ k', k = k' + 1 := ⟨k - 1, by omega⟩
      have ih := sm_skip k' a f (by omega)
      show sm (k' + 1) f + f (k' + 1) = f a + (sm k' (fun b => f (skip a b)) + f (skip a k'))
      rw [ih, show skip a k' = k' + 1 from if_neg (by omega)]
      grind

theorem unskip_skip (a b : Nat) : unskip a (skip a b) = b := by
  by_cases e : b < a
  · rw [show skip a b = b from if_pos e]; exact if_pos e
  · rw [show skip a b = b + 1 from if_neg e, show unskip a (b + 1) = b + 1 - 1 from if_neg (by omega)]; omega

theorem at_lin (n : Nat) (D : Dm) (x y : Nat → Rat) (t : Rat) : D.at n (fun i => x i + t * y i) = D.at n x + t * D.at n y := by
  unfold Dm.at
  have e : (fun i => D.a i * (x i + t * y i)) = fun i => D.a i * x i + t * (D.a i * y i) := by funext i; grind
  rw [e, sm_add, sm_mul]

theorem at_sum (n k : Nat) (D : Dm) (c : Nat → Rat) (E : Nat → Nat → Rat) : D.at n (fun i => sm k (fun a => c a * E a i)) = sm k (fun a => c a * D.at n (E a)) := by
  unfold Dm.at
  have e : sm n (fun i => D.a i * sm k (fun a => c a * E a i)) = sm n (fun i => sm k (fun a => c a * (D.a i * E a i))) := by
    refine sm_congr (fun i _ => ?_)
    rw [← sm_mul]; exact sm_congr (fun a _ => by grind)
  rw [e, sm_swap]
  exact sm_congr (fun a _ => sm_mul _ _ _)

theorem at_congr {n : Nat} (D : Dm) {x y : Nat → Rat} (h : ∀ i, i < n → x i = y i) : D.at n x = D.at n y :=
  sm_congr (fun i hi => by rw [h i hi])

structure Compl (n : Nat) (L S : List Dm) (k : Nat) (E : Nat → Nat → Rat) : Prop where
  len : S.length + k = n
  sub : S.Sublist L
  orth : ∀ D ∈ L, ∀ a, a < k → D.at n (E a) = 0
  span : ∀ d : Nat → Rat, (∀ D ∈ S, D.at n d = 0) → ∃ c : Nat → Rat, ∀ i, i < n → d i = sm k (fun a => c a * E a i)
  indep : ∀ c : Nat → Rat, (∀ i, i < n → sm k (fun a => c a * E a i) = 0) → ∀ a, a < k → c a = 0

theorem compl_exists (n : Nat) : ∀ L : List Dm, ∃ S k E, Compl n L S k E
  | [] => by
    refine ⟨[], n, fun a i => if a = i then 1 else 0, by simp, List.Sublist.slnil, by simp, fun d _ => ⟨d, fun i hi => ?_⟩, fun c h a ha => ?_⟩
    · rw [sm_delta hi]; grind
    · have := h a ha
      rw [sm_delta ha] at this; grind
  | D :: L => by
    obtain ⟨S, k, E, h⟩ := compl_exists n L
    by_cases hz : ∀ a, a < k → D.at n (E a) = 0
    · refine ⟨S, k, E, h.len, h.sub.cons D, fun D' hD' => ?_, h.span, h.indep⟩
      rcases List.mem_cons.1 hD' with rfl | hD'
      · exact hz
      · exact h.orth D' hD'
    · obtain ⟨a0, ha0⟩ := Classical.not_forall.1 hz
      obtain ⟨hlt, hne⟩ := Classical.not_imp.1 ha0
      obtain ⟨k', rfl⟩ : ∃ k', k = k' + 1 := ⟨k - 1, by omega⟩
      have hsk : ∀ b, b < k' → skip a0 b < k' + 1 := fun b hb => by unfold skip; split <;> omega
      refine ⟨D :: S, k', fun b i => E (skip a0 b) i + (-(D.at n (E (skip a0 b)) / D.at n (E a0))) * E a0 i, by have := h.len; simp; omega, h.sub.cons_cons D, fun D' hD' b hb => ?_, fun d hd => ?_, fun c hc b hb => ?_⟩
      · rw [at_lin]
        rcases List.mem_cons.1 hD' with rfl | hD'
        · grind
        · rw [h.orth D' hD' _ (hsk b hb), h.orth D' hD' a0 hlt]; grind
      · obtain ⟨c, hc⟩ := h.span d (fun D' hD' => hd D' (List.mem_cons_of_mem _ hD'))
        refine ⟨fun b => c (skip a0 b), fun i hi => ?_⟩
        have h0 : c a0 * D.at n (E a0) + sm k' (fun b => c (skip a0 b) * D.at n (E (skip a0 b))) = 0 := by
          rw [← sm_skip k' a0 (fun a => c a * D.at n (E a)) hlt, ← at_sum, ← at_congr D hc]
          exact hd D List.mem_cons_self
        rw [hc i hi, sm_skip k' a0 _ hlt]
        have e1 : (fun b => c (skip a0 b) * (E (skip a0 b) i + (-(D.at n (E (skip a0 b)) / D.at n (E a0))) * E a0 i)) = fun b => c (skip a0 b) * E (skip a0 b) i + (-(E a0 i / D.at n (E a0))) * (c (skip a0 b) * D.at n (E (skip a0 b))) := by funext b; grind
        rw [e1, sm_add, sm_mul]
        grind
      · have hkey := h.indep (fun a => if a = a0 then -(sm k' (fun b => c b * D.at n (E (skip a0 b)))) / D.at n (E a0) else c (unskip a0 a)) (fun i hi => by
          rw [sm_skip k' a0 _ hlt, if_pos rfl]
          have e1 : sm k' (fun b => (if skip a0 b = a0 then -(sm k' (fun b => c b * D.at n (E (skip a0 b)))) / D.at n (E a0) else c (unskip a0 (skip a0 b))) * E (skip a0 b) i) = sm k' (fun b => c b * E (skip a0 b) i) := by
            refine sm_congr (fun b _ => ?_)
            rw [if_neg (by unfold skip; split <;> omega), unskip_skip a0 b]
          rw [e1]
          have h2 := hc i hi
          have e2 : (fun b => c b * (E (skip a0 b) i + (-(D.at n (E (skip a0 b)) / D.at n (E a0))) * E a0 i)) = fun b => c b * E (skip a0 b) i + (-(E a0 i / D.at n (E a0))) * (c b * D.at n (E (skip a0 b))) := by funext b; grind
          rw [e2, sm_add, sm_mul] at h2
          grind) (skip a0 b) (hsk b hb)
        rw [if_neg (by unfold skip; split <;> omega), unskip_skip a0 b] at hkey
        exact hkey

/-! ### moving a little -/

theorem sq_nonneg (g : Rat) : 0 ≤ g * g := by
  by_cases h : 0 ≤ g
  · exact Rat.mul_nonneg h h
  · exact mul_nonneg_of_neg (by grind) (by grind)

theorem le_sq (g : Rat) : g ≤ g * g + 1 := by
  have h0 := sq_nonneg g
  by_cases h : g ≤ 1
  · grind
  · have := Rat.mul_nonneg (show 0 ≤ g by grind) (show 0 ≤ g - 1 by grind)
    grind

theorem small_step {t s g : Rat} (ht : 0 ≤ t) (hts : t ≤ s / (g * g + 1)) : t * g ≤ s ∧ t * (-g) ≤ s := by
  have h0 := sq_nonneg g
  have h1 := Rat.mul_nonneg (show 0 ≤ s / (g * g + 1) - t by grind) (show 0 ≤ g * g + 1 by grind)
  have h2 : s / (g * g + 1) * (g * g + 1) = s := by grind
  have h3 := Rat.mul_nonneg ht (show 0 ≤ g * g + 1 - g by have := le_sq g; grind)
  have h4 := Rat.mul_nonneg ht (show 0 ≤ g * g + 1 + g by have := le_sq (-g); grind)
  constructor <;> grind

theorem meets_near (n : Nat) (d x : Nat → Rat) : ∀ L : List Dm, (∀ D ∈ L, D.meets n x ∧ (D.at n x = D.b → D.at n d = 0)) →
    ∃ t : Rat, 0 < t ∧ ∀ t', 0 ≤ t' → t' ≤ t → ∀ D ∈ L, D.meets n (fun i => x i + t' * d i) ∧ D.meets n (fun i => x i + (-t') * d i)
  | [], _ => ⟨1, by decide, by simp⟩
  | D :: L, h => by
    obtain ⟨t, ht, hL⟩ := meets_near n d x L (fun D' hD' => h D' (List.mem_cons_of_mem _ hD'))
    have key : ∃ t0 : Rat, 0 < t0 ∧ ∀ t', 0 ≤ t' → t' ≤ t0 → D.meets n (fun i => x i + t' * d i) ∧ D.meets n (fun i => x i + (-t') * d i) := by
      obtain ⟨h1, h2⟩ := h D List.mem_cons_self
      by_cases e : D.at n x = D.b
      · refine ⟨1, by decide, fun t' _ _ => ?_⟩
        unfold Dm.meets
        rw [at_lin, at_lin, h2 e, e]
        constructor <;> split <;> grind
      · unfold Dm.meets at h1 ⊢
        have hsq := sq_nonneg (D.at n d)
        cases hu : D.up with
        | true =>
          rw [hu] at h1
          simp only [if_true] at h1 ⊢
          have hpos : 0 < D.b - D.at n x := by grind
          refine ⟨(D.b - D.at n x) / (D.at n d * D.at n d + 1), ?_, fun t' h3 h4 => ?_⟩
          · rw [Rat.div_def]
            exact Rat.mul_pos hpos (Rat.inv_pos.2 (by grind))
          · obtain ⟨s1, s2⟩ := small_step h3 h4
            rw [at_lin, at_lin]
            constructor <;> grind
        | false =>
          rw [hu] at h1
          simp only [Bool.false_eq_true, if_false] at h1 ⊢
          have hpos : 0 < D.at n x - D.b := by grind
          refine ⟨(D.at n x - D.b) / (D.at n d * D.at n d + 1), ?_, fun t' h3 h4 => ?_⟩
          · rw [Rat.div_def]
            exact Rat.mul_pos hpos (Rat.inv_pos.2 (by grind))
          · obtain ⟨s1, s2⟩ := small_step h3 h4
            rw [at_lin, at_lin]
            constructor <;> grind
    obtain ⟨t0, ht0, hD⟩ := key
    refine ⟨if t ≤ t0 then t else t0, by split <;> assumption, fun t' h3 h4 D' hD' => ?_⟩
    have h5 : t' ≤ t ∧ t' ≤ t0 := by
      split at h4 <;> constructor <;> grind
    rcases List.mem_cons.1 hD' with rfl | hD'
    · exact hD t' h3 h5.2
    · exact hL t' h3 h5.1 D' hD'

theorem lex_both {t : Rat} (ht : 0 < t) : ∀ (l e : List Rat), l.length = e.length → Lex l (List.zipWith (fun a b => a + t * b) l e) → Lex l (List.zipWith (fun a b => a + (-t) * b) l e) → ∀ z ∈ e, z = 0
  | [], [], _, _, _, z, hz => by cases hz
  | [], _ :: _, h, _, _, _, _ => by cases h
  | _ :: _, [], h, _, _, _, _ => by cases h
  | a :: l, b :: e, hl, h1, h2, z, hz => by
    have h1' : a < a + t * b ∨ (a = a + t * b ∧ Lex l (List.zipWith (fun a b => a + t * b) l e)) := h1
    have h2' : a < a + (-t) * b ∨ (a = a + (-t) * b ∧ Lex l (List.zipWith (fun a b => a + (-t) * b) l e)) := h2
    have hb : t * b = 0 ∧ Lex l (List.zipWith (fun a b => a + t * b) l e) ∧ Lex l (List.zipWith (fun a b => a + (-t) * b) l e) := by
      rcases h1' with h1' | ⟨h1', h3⟩ <;> rcases h2' with h2' | ⟨h2', h4⟩
      · exfalso; grind
      · exfalso; grind
      · exfalso; grind
      · exact ⟨by grind, h3, h4⟩
    have hb0 : b = 0 := by
      rcases Rat.mul_eq_zero.1 hb.1 with e | e
      · grind
      · exact e
    rcases List.mem_cons.1 hz with rfl | hz
    · exact hb0
    · exact lex_both ht l e (by simpa using hl) hb.2.1 hb.2.2 z hz

theorem zip_map (f : Rat → Rat → Rat) (x d : Nat → Rat) : ∀ R : List Nat, List.zipWith f (R.map x) (R.map d) = R.map fun k => f (x k) (d k)
  | [] => rfl
  | k :: R => by
    show f (x k) (d k) :: List.zipWith f (R.map x) (R.map d) = _
    rw [zip_map f x d R]; rfl

theorem key_lin (v : Rat) (u : Nat) (x d : Nat → Rat) (t : Rat) : key v u (fun i => x i + t * d i) = List.zipWith (fun a b => a + t * b) (key v u x) (key v u d) := by
  show (v * sm u (fun i => x i + t * d i)) :: _ = (v * sm u x + t * (v * sm u d)) :: List.zipWith (fun a b => a + t * b) ((List.range u).map x) ((List.range u).map d)
  rw [zip_map, sm_add, sm_mul]
  congr 1
  grind

theorem corner_exists {n : Nat} {v : Rat} (all : List Dm) (x : Nat → Rat) (hx : ∀ D ∈ all, D.meets n x) (hmin : ∀ y, (∀ D ∈ all, D.meets n y) → Lex (key v n x) (key v n y)) :
    ∃ S : List Dm, S.Sublist all ∧ S.length = n ∧ (∀ D ∈ S, D.at n x = D.b) ∧ Kern n S := by
  have dec : ∀ D : Dm, Decidable (D.at n x = D.b) := fun D => Classical.propDecidable _
  obtain ⟨S, k, E, h⟩ := compl_exists n (all.filter fun D => @decide (D.at n x = D.b) (dec D))
  cases k with
  | zero =>
    refine ⟨S, h.sub.trans List.filter_sublist, h.len, fun D hD => ?_, fun d hd i hi => ?_⟩
    · have := h.sub.subset hD
      simpa using (List.mem_filter.1 this).2
    · obtain ⟨c, hc⟩ := h.span d hd
      exact hc i hi
  | succ k =>
    exfalso
    obtain ⟨t, ht, hm⟩ := meets_near n (E 0) x all (fun D hD => ⟨hx D hD, fun e => h.orth D (List.mem_filter.2 ⟨hD, by simpa using e⟩) 0 (by omega)⟩)
    have h1 := hmin _ (fun D hD => (hm t (by grind) (by grind) D hD).1)
    have h2 := hmin _ (fun D hD => (hm t (by grind) (by grind) D hD).2)
    rw [key_lin] at h1 h2
    have h3 := lex_both ht (key v n x) (key v n (E 0)) (by simp [key]) h1 h2
    have h4 : ∀ i, i < n → E 0 i = 0 := by
      intro i hi
      refine h3 _ ?_
      unfold key
      exact List.mem_cons_of_mem _ (List.mem_map.2 ⟨i, by simpa using hi, rfl⟩)
    have h5 := h.indep (fun a => if a = 0 then 1 else 0) (fun i hi => by
      rw [sm_single (k := 0) (by omega)]
      · rw [h4 i hi]; grind
      · intro a _ hne; rw [if_neg hne]; grind) 0 (by omega)
    simp at h5

end Go.Proofs.Ytnmcgbfhgmmcpaa.Cov
