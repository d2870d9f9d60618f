namespace Go.Proofs.YtegcpplkcahkhaaGreat.RatM

theorem gcd_step (a b : Int) : Int.gcd b (a.tmod b) = Int.gcd a b := by
  unfold Int.gcd
  rw [Int.natAbs_tmod, Nat.gcd_comm a.natAbs, Nat.gcd_rec b.natAbs a.natAbs, Nat.gcd_comm]

theorem natAbs_tmod_lt (a b : Int) (h : b ≠ 0) : (a.tmod b).natAbs < b.natAbs := by
  rw [Int.natAbs_tmod]; exact Nat.mod_lt _ (by omega)

theorem gcd_zero (a : Int) : (Int.gcd a 0 : Int) = max a (-a) := by
  simp; omega

theorem gcd_pos (a b : Int) (h : b ≠ 0) : 0 < (Int.gcd a b : Int) := by
  have := Int.gcd_pos_of_ne_zero_right a h; omega

theorem gcd_le (a b : Int) (h : b ≠ 0) : (Int.gcd a b : Int) ≤ b.natAbs := by
  have := Nat.gcd_le_right (n := b.natAbs) a.natAbs (by omega)
  unfold Int.gcd; omega

/-- num/den without common divisors, den above 0 -/
def frN (num den : Int) : Int := if den < 0 then (-num).tdiv (Int.gcd num den) else num.tdiv (Int.gcd num den)
def frD (num den : Int) : Int := if den < 0 then (-den).tdiv (Int.gcd num den) else den.tdiv (Int.gcd num den)

theorem tdiv_abs_le (a g : Int) : (a.tdiv g).natAbs ≤ a.natAbs := by
  rw [Int.natAbs_tdiv]; exact Nat.div_le_self _ _

theorem div_gcd_coprime (a b : Int) (h : b ≠ 0) : Int.gcd (a.tdiv (Int.gcd a b)) (b.tdiv (Int.gcd a b)) = 1 := by
  unfold Int.gcd
  rw [Int.natAbs_tdiv, Int.natAbs_tdiv, Int.natAbs_natCast]
  exact Nat.gcd_div_gcd_div_gcd_of_pos_right (by omega)

theorem fr_coprime (a b : Int) (h : b ≠ 0) : Int.gcd (frN a b) (frD a b) = 1 := by
  unfold frN frD
  split
  · have := div_gcd_coprime (-a) (-b) (by omega)
    simpa using this
  · exact div_gcd_coprime a b h

theorem frN_abs (a b : Int) : (frN a b).natAbs ≤ a.natAbs := by
  unfold frN; split
  · have := tdiv_abs_le (-a) (Int.gcd a b); omega
  · exact tdiv_abs_le a _

theorem frD_abs (a b : Int) : (frD a b).natAbs ≤ b.natAbs := by
  unfold frD; split
  · have := tdiv_abs_le (-b) (Int.gcd a b); omega
  · exact tdiv_abs_le b _

theorem tdiv_pos_of (a g : Int) (hg : 0 < g) (h : g ≤ a) : 0 < a.tdiv g := by
  rw [Int.tdiv_eq_ediv_of_nonneg (by omega)]
  have := Int.ediv_le_ediv hg h
  rw [Int.ediv_self (by omega)] at this
  omega

theorem frD_pos (a b : Int) (h : b ≠ 0) : 0 < frD a b := by
  have h1 := gcd_pos a b h
  have h2 := gcd_le a b h
  unfold frD; split
  · exact tdiv_pos_of _ _ h1 (by omega)
  · exact tdiv_pos_of _ _ h1 (by omega)

/-- the model's form: division by the signed divisor -/
theorem fr_neg (x g : Int) : x.tdiv (-g) = (-x).tdiv g := by
  rw [Int.tdiv_neg, Int.neg_tdiv]

theorem gcd_abs (a b : Int) : Int.gcd (a.natAbs : Int) (b.natAbs : Int) = Int.gcd a b := by
  unfold Int.gcd; simp

theorem gcd_neg_neg (a b : Int) : Int.gcd (-a) (-b) = Int.gcd a b := by simp

/-- the sign of a quotient by a divisor -/
theorem dvd_tdiv (x g : Int) (hd : g ∣ x) : x = g * x.tdiv g := by
  rw [Int.mul_tdiv_cancel' hd]

theorem frN_mul (a b : Int) : (if b < 0 then -a else a) = (Int.gcd a b : Int) * frN a b := by
  have h1 : (Int.gcd a b : Int) ∣ a := Int.gcd_dvd_left ..
  unfold frN
  split
  · rw [Int.mul_tdiv_cancel']; exact (Int.dvd_neg).2 h1
  · rw [Int.mul_tdiv_cancel' h1]

theorem frN_sign (a b : Int) (h : 0 < b) : (frN a b < 0 ↔ a < 0) ∧ (0 < frN a b ↔ 0 < a) := by
  have h1 := gcd_pos a b (by omega)
  have h2 := frN_mul a b
  rw [if_neg (by omega)] at h2
  generalize (Int.gcd a b : Int) = g at *
  generalize frN a b = n at *
  subst h2
  constructor
  · constructor
    · intro h; exact Int.mul_neg_of_pos_of_neg h1 h
    · intro h
      rcases Int.lt_or_le n 0 with hn | hn
      · exact hn
      · have := Int.mul_nonneg (Int.le_of_lt h1) hn; omega
  · constructor
    · intro h; exact Int.mul_pos h1 h
    · intro h
      rcases Int.lt_or_le 0 n with hn | hn
      · exact hn
      · have := Int.mul_nonneg (Int.le_of_lt h1) (show 0 ≤ -n by omega); rw [Int.mul_neg] at this; omega

def sgn (n : Int) : Int := if n < 0 then -1 else if 0 < n then 1 else 0

theorem sgn_congr (x n : Int) (h : (x < 0 ↔ n < 0) ∧ (0 < x ↔ 0 < n)) : sgn x = sgn n := by
  obtain ⟨h1, h2⟩ := h
  unfold sgn
  repeat' split
  all_goals omega

theorem sgn_lt (n : Int) (h : n < 0) : sgn n = -1 := by unfold sgn; rw [if_pos h]
theorem sgn_gt (n : Int) (h : 0 < n) : sgn n = 1 := by unfold sgn; rw [if_neg (by omega), if_pos h]
theorem sgn_eq (n : Int) (h : n = 0) : sgn n = 0 := by unfold sgn; rw [if_neg (by omega), if_neg (by omega)]

end Go.Proofs.YtegcpplkcahkhaaGreat.RatM

/-
  Plain mathematics of impl.Intersect: cursors over ascending lists that meet.
-/
namespace Go.Proofs.YtegcpplkcahkhaaGreat.Meet

def Asc (l : List Int) : Prop := ∀ i j, i < j → j < l.length → l.getD i 0 < l.getD j 0
def ascAt (l : List Int) (j : Nat) : Bool := decide (j = 0) || decide (l.getD (j - 1) 0 < l.getD j 0)
def ascB (l : List Int) : Bool := (List.range l.length).all (ascAt l)

theorem ascB_true {l : List Int} (h : ∀ i, i < l.length → ascAt l i = true) : ascB l = true := by
  unfold ascB
  rw [List.all_eq_true]
  intro i hi
  exact h i (by simpa using hi)

theorem ascB_false {l : List Int} {j : Nat} (hj : j < l.length) (h : ascAt l j = false) : ascB l = false := by
  unfold ascB
  rw [List.all_eq_false]
  exact ⟨j, by simpa using hj, by rw [h]; decide⟩

theorem asc_of {l : List Int} (h : ascB l = true) : Asc l := by
  unfold ascB at h
  rw [List.all_eq_true] at h
  have h1 : ∀ i, i + 1 < l.length → l.getD i 0 < l.getD (i + 1) 0 := fun i hi => by
    have := h (i + 1) (by simpa using hi)
    simpa [ascAt] using this
  have h2 : ∀ d i, i + d + 1 < l.length → l.getD i 0 < l.getD (i + d + 1) 0 := by
    intro d
    induction d with
    | zero => intro i hi; exact h1 i hi
    | succ d ih => intro i hi; have a := ih i (by omega); have b := h1 (i + d + 1) (by omega); exact Int.lt_trans a b
  intro i j hij hj
  have := h2 (j - i - 1) i (by omega)
  rwa [show i + (j - i - 1) + 1 = j by omega] at this

def inAll (ls : List (List Int)) (x : Int) : Bool := ls.all fun l => decide (x ∈ l)
def common (ls : List (List Int)) : List Int := if 1 ≤ ls.length ∧ ls.length ≤ 100 ∧ ls.all ascB = true then (ls.getD 0 []).filter (inAll ls) else []

/-- y stands in every list at or beyond its cursor -/
def Live (ls : List (List Int)) (p : Nat → Nat) (y : Int) : Prop := ∀ i, i < ls.length → ∃ j, p i ≤ j ∧ j < (ls.getD i []).length ∧ (ls.getD i []).getD j 0 = y

/-- q: where a cursor at p of l comes when it seeks g -/
def Seek (l : List Int) (p : Nat) (g : Int) (q : Nat) : Prop := p ≤ q ∧ q ≤ l.length ∧ (∀ j, p ≤ j → j < q → l.getD j 0 < g) ∧ (q < l.length → g ≤ l.getD q 0)

structure Inv (ls : List (List Int)) (p0 : Nat → Nat) (goal : Int) (st i : Nat) (p : Nat → Nat) : Prop where
  le : ∀ k, k < ls.length → p0 k ≤ p k ∧ p k ≤ (ls.getD k []).length
  live : ∀ y, Live ls p0 y → Live ls p y ∧ goal ≤ y
  stand : ∀ k, k < ls.length → (∃ s, 1 ≤ s ∧ s ≤ st ∧ (k + s) % ls.length = i) → p k < (ls.getD k []).length ∧ (ls.getD k []).getD (p k) 0 = goal
  lt : i < ls.length
  st : st ≤ ls.length

def upd (p : Nat → Nat) (i q : Nat) : Nat → Nat := fun k => if k = i then q else p k
theorem upd_same (p : Nat → Nat) (i q : Nat) : upd p i q i = q := if_pos rfl
theorem upd_other (p : Nat → Nat) (i q k : Nat) (h : k ≠ i) : upd p i q k = p k := if_neg h

theorem Inv.start {ls : List (List Int)} {p0 : Nat → Nat} (hn : 0 < ls.length) (hp : ∀ k, k < ls.length → p0 k ≤ (ls.getD k []).length)
    (hm : ∀ k j, -9223372036854775808 ≤ (ls.getD k []).getD j 0) : Inv ls p0 (-9223372036854775808) 0 0 p0 where
  le k hk := ⟨Nat.le_refl _, hp k hk⟩
  live y hy := ⟨hy, by obtain ⟨j, _, _, e⟩ := hy 0 hn; rw [← e]; exact hm _ _⟩
  stand k hk := fun ⟨s, h1, h2, _⟩ => by omega
  lt := hn
  st := Nat.zero_le _

theorem Inv.none {ls : List (List Int)} {p0 p : Nat → Nat} {goal : Int} {st i q : Nat} (h : Inv ls p0 goal st i p) (hs : Seek (ls.getD i []) (p i) goal q) (hq : q = (ls.getD i []).length) (y : Int) : ¬ Live ls p0 y := fun hy => by
  obtain ⟨hl, hg⟩ := h.live y hy
  obtain ⟨j, h1, h2, e⟩ := hl i h.lt
  have := hs.2.2.1 j h1 (by omega)
  omega

theorem Live.seek {ls : List (List Int)} {p : Nat → Nat} {y goal : Int} {i q : Nat} (hl : Live ls p y) (hg : goal ≤ y) (hs : Seek (ls.getD i []) (p i) goal q) : Live ls (upd p i q) y := fun k hk => by
  obtain ⟨j, h1, h2, e⟩ := hl k hk
  by_cases hki : k = i
  · subst hki
    rw [upd_same]
    refine ⟨j, ?_, h2, e⟩
    rcases Nat.lt_or_ge j q with hj | hj
    · have := hs.2.2.1 j h1 hj; omega
    · exact hj
  · rw [upd_other _ _ _ _ hki]
    exact ⟨j, h1, h2, e⟩

theorem Inv.le_upd {ls : List (List Int)} {p0 p : Nat → Nat} {goal : Int} {st i q : Nat} (h : Inv ls p0 goal st i p) (hs : Seek (ls.getD i []) (p i) goal q) : ∀ k, k < ls.length → p0 k ≤ upd p i q k ∧ upd p i q k ≤ (ls.getD k []).length := fun k hk => by
  by_cases hki : k = i
  · subst hki
    rw [upd_same]
    exact ⟨Nat.le_trans (h.le k hk).1 hs.1, hs.2.1⟩
  · rw [upd_other _ _ _ _ hki]
    exact h.le k hk

theorem back_mod {k s i n : Nat} (hn : i < n) (hk : k < n) (hs : 1 ≤ s) (h : (k + s) % n = (i + 1) % n) : (k + (s - 1)) % n = i := by
  obtain ⟨t, rfl⟩ : ∃ t, s = t + 1 := ⟨s - 1, by omega⟩
  have e : (k + t + 1) % n = (i + 1) % n := h
  show (k + t) % n = i
  rcases Nat.lt_or_ge (i + 1) n with h1 | h1
  · rw [Nat.mod_eq_of_lt h1] at e
    have e2 := Nat.add_mod (k + t) 1 n
    rcases Nat.lt_or_ge 1 n with h3 | h3
    · rw [Nat.mod_eq_of_lt h3] at e2
      have hlt := Nat.mod_lt (k + t) (show 0 < n by omega)
      rcases Nat.lt_or_ge ((k + t) % n + 1) n with h4 | h4
      · rw [Nat.mod_eq_of_lt h4] at e2; omega
      · rw [show (k + t) % n + 1 = n by omega, Nat.mod_self] at e2; omega
    · omega
  · have hin : i + 1 = n := by omega
    rw [hin, Nat.mod_self] at e
    have e2 := Nat.add_mod (k + t) 1 n
    rcases Nat.lt_or_ge 1 n with h3 | h3
    · rw [Nat.mod_eq_of_lt h3] at e2
      have hlt := Nat.mod_lt (k + t) (show 0 < n by omega)
      rcases Nat.lt_or_ge ((k + t) % n + 1) n with h4 | h4
      · rw [Nat.mod_eq_of_lt h4] at e2; omega
      · omega
    · have : n = 1 := by omega
      subst this
      omega

theorem Inv.same {ls : List (List Int)} {p0 p : Nat → Nat} {goal : Int} {st i q : Nat} (h : Inv ls p0 goal st i p) (hst : st < ls.length) (hs : Seek (ls.getD i []) (p i) goal q) (hq : q < (ls.getD i []).length) (he : (ls.getD i []).getD q 0 = goal) :
    Inv ls p0 goal (st + 1) ((i + 1) % ls.length) (upd p i q) where
  le := h.le_upd hs
  live y hy := ⟨(h.live y hy).1.seek (h.live y hy).2 hs, (h.live y hy).2⟩
  stand k hk := fun ⟨s, h1, h2, h3⟩ => by
    by_cases hki : k = i
    · subst hki
      rw [upd_same]
      exact ⟨hq, he⟩
    · rw [upd_other _ _ _ _ hki]
      have hb := back_mod h.lt hk h1 h3
      refine h.stand k hk ⟨s - 1, ?_, by omega, hb⟩
      rcases Nat.lt_or_ge 1 s with h4 | h4
      · omega
      · rw [show s - 1 = 0 by omega, Nat.add_zero, Nat.mod_eq_of_lt hk] at hb
        exact absurd hb hki
  lt := Nat.mod_lt _ (by have := h.lt; omega)
  st := hst

theorem Inv.more {ls : List (List Int)} {p0 p : Nat → Nat} {goal : Int} {st i q : Nat} (h : Inv ls p0 goal st i p) (ha : Asc (ls.getD i [])) (hs : Seek (ls.getD i []) (p i) goal q) (hq : q < (ls.getD i []).length) :
    Inv ls p0 ((ls.getD i []).getD q 0) 1 ((i + 1) % ls.length) (upd p i q) where
  le := h.le_upd hs
  live y hy := by
    have hl := (h.live y hy).1.seek (h.live y hy).2 hs
    refine ⟨hl, ?_⟩
    obtain ⟨j, h1, h2, e⟩ := hl i h.lt
    rw [upd_same] at h1
    rcases Nat.lt_or_ge q j with h3 | h3
    · have := ha q j h3 h2; omega
    · rw [show q = j by omega, e]; exact Int.le_refl _
  stand k hk := fun ⟨s, h1, h2, h3⟩ => by
    have hb := back_mod h.lt hk h1 h3
    rw [show s - 1 = 0 by omega, Nat.add_zero, Nat.mod_eq_of_lt hk] at hb
    subst hb
    rw [upd_same]
    exact ⟨hq, rfl⟩
  lt := Nat.mod_lt _ (by have := h.lt; omega)
  st := by have := h.lt; omega

theorem Inv.all {ls : List (List Int)} {p0 p : Nat → Nat} {goal : Int} {i : Nat} (h : Inv ls p0 goal ls.length i p) : ∀ k, k < ls.length → p k < (ls.getD k []).length ∧ (ls.getD k []).getD (p k) 0 = goal := fun k hk => by
  have hi := h.lt
  rcases Nat.lt_or_ge k i with h1 | h1
  · exact h.stand k hk ⟨i - k, by omega, by omega, by rw [show k + (i - k) = i by omega]; exact Nat.mod_eq_of_lt hi⟩
  · exact h.stand k hk ⟨ls.length - k + i, by omega, by omega, by rw [show k + (ls.length - k + i) = i + ls.length by omega, Nat.add_mod_right]; exact Nat.mod_eq_of_lt hi⟩

/-- how many elements of all lists are greater than g -/
def above (ls : List (List Int)) (g : Int) : Nat := (ls.map fun l => l.countP fun x => decide (g < x)).sum

theorem countP_le_of (l : List Int) {g g' : Int} (h : g ≤ g') : (l.countP fun x => decide (g' < x)) ≤ l.countP fun x => decide (g < x) :=
  List.countP_mono_left fun x _ hx => by simp at hx ⊢; omega

theorem countP_lt_of {l : List Int} {g g' : Int} (h : g < g') (hm : g' ∈ l) : (l.countP fun x => decide (g' < x)) < l.countP fun x => decide (g < x) := by
  induction l with
  | nil => cases hm
  | cons a l ih =>
    rw [List.countP_cons, List.countP_cons]
    have hle := countP_le_of l (show g ≤ g' by omega)
    rcases List.mem_cons.1 hm with e | e
    · subst e
      simp only [decide_eq_true_eq]
      rw [if_neg (by omega), if_pos (by omega)]
      omega
    · have := ih e
      simp only [decide_eq_true_eq]
      split <;> split <;> omega

theorem above_lt {ls : List (List Int)} {g g' : Int} (h : g < g') {i : Nat} (hi : i < ls.length) (hm : g' ∈ ls.getD i []) : above ls g' < above ls g := by
  unfold above
  induction ls generalizing i with
  | nil => simp at hi
  | cons a ls ih =>
    have hle : ∀ ls : List (List Int), ((ls.map fun l => l.countP fun x => decide (g' < x)).sum) ≤ (ls.map fun l => l.countP fun x => decide (g < x)).sum := by
      intro ls
      induction ls with
      | nil => exact Nat.le_refl _
      | cons b ls ih2 => have := countP_le_of b (show g ≤ g' by omega); simp only [List.map_cons, List.sum_cons]; omega
    simp only [List.map_cons, List.sum_cons]
    cases i with
    | zero =>
      have h1 := countP_lt_of h (show g' ∈ a by simpa using hm)
      have h2 := hle ls
      omega
    | succ i =>
      have h1 := ih (i := i) (by simpa using hi) (by simpa using hm)
      have h2 := countP_le_of a (show g ≤ g' by omega)
      omega

/-- what Intersect has gathered -/
structure Got (ls : List (List Int)) (p : Nat → Nat) (acc : List Int) : Prop where
  le : ∀ k, k < ls.length → p k ≤ (ls.getD k []).length
  acc : acc = ((ls.getD 0 []).take (p 0)).filter (inAll ls)
  live : ∀ j, p 0 ≤ j → j < (ls.getD 0 []).length → inAll ls ((ls.getD 0 []).getD j 0) = true → Live ls p ((ls.getD 0 []).getD j 0)

theorem inAll_mem {ls : List (List Int)} {x : Int} (h : inAll ls x = true) {i : Nat} (hi : i < ls.length) : x ∈ ls.getD i [] := by
  unfold inAll at h
  rw [List.all_eq_true] at h
  have := h _ (List.getElem_mem hi)
  rw [List.getD_eq_getElem?_getD, List.getElem?_eq_getElem hi]
  simpa using this

theorem mem_at {l : List Int} {x : Int} (h : x ∈ l) : ∃ j, j < l.length ∧ l.getD j 0 = x := by
  obtain ⟨j, hj, e⟩ := List.getElem_of_mem h
  exact ⟨j, hj, by rw [List.getD_eq_getElem?_getD, List.getElem?_eq_getElem hj]; exact e⟩

theorem at_mem {l : List Int} {j : Nat} (h : j < l.length) : l.getD j 0 ∈ l := by
  rw [List.getD_eq_getElem?_getD, List.getElem?_eq_getElem h]
  exact List.getElem_mem h

theorem inAll_of_live {ls : List (List Int)} {p : Nat → Nat} {y : Int} (h : Live ls p y) : inAll ls y = true := by
  unfold inAll
  rw [List.all_eq_true]
  intro l hl
  obtain ⟨i, hi, e⟩ := List.getElem_of_mem hl
  obtain ⟨j, _, h2, h3⟩ := h i hi
  rw [List.getD_eq_getElem?_getD (l := ls), List.getElem?_eq_getElem hi] at h2 h3
  simp only [Option.getD_some, e] at h2 h3
  rw [← h3]
  exact decide_eq_true (at_mem h2)

theorem Got.start (ls : List (List Int)) : Got ls (fun _ => 0) [] where
  le _ _ := Nat.zero_le _
  acc := by simp
  live j _ _ h := fun i hi => by
    obtain ⟨q, h1, h2⟩ := mem_at (inAll_mem h hi)
    exact ⟨q, Nat.zero_le _, h1, h2⟩

/-- what is filtered does not turn by places where nothing is common -/
theorem take_skip {l : List Int} {f : Int → Bool} {a b : Nat} (hab : a ≤ b) (h : ∀ j, a ≤ j → j < b → j < l.length → f (l.getD j 0) = false) : (l.take b).filter f = (l.take a).filter f := by
  obtain ⟨d, rfl⟩ : ∃ d, b = a + d := ⟨b - a, by omega⟩
  clear hab
  induction d with
  | zero => rfl
  | succ d ih =>
    rw [← Nat.add_assoc, List.take_add_one]
    rcases Nat.lt_or_ge (a + d) l.length with h1 | h1
    · have h2 := h (a + d) (by omega) (by omega) h1
      rw [List.getD_eq_getElem?_getD, List.getElem?_eq_getElem h1, Option.getD_some] at h2
      rw [List.getElem?_eq_getElem h1, List.filter_append]
      simp only [Option.toList_some, List.filter_cons, h2, List.filter_nil]
      rw [if_neg (by decide), List.append_nil]
      exact ih (fun j h3 h4 h5 => h j h3 (by omega) h5)
    · rw [List.getElem?_eq_none h1]
      simp only [Option.toList_none, List.append_nil]
      exact ih (fun j h3 h4 h5 => h j h3 (by omega) h5)

theorem Got.done {ls : List (List Int)} {p : Nat → Nat} {acc : List Int} (h : Got ls p acc) (hn : 0 < ls.length) (hno : ∀ y, ¬ Live ls p y) : acc = (ls.getD 0 []).filter (inAll ls) := by
  rw [h.acc]
  have := take_skip (l := ls.getD 0 []) (f := inAll ls) (a := p 0) (b := (ls.getD 0 []).length) (h.le 0 hn) (fun j h1 _ h3 => by
    cases hb : inAll ls ((ls.getD 0 []).getD j 0)
    · rfl
    · exact absurd (h.live j h1 h3 hb) (hno _))
  rw [List.take_length] at this
  exact this.symm

theorem Got.step {ls : List (List Int)} {p p' : Nat → Nat} {acc : List Int} {goal : Int} {i : Nat} (h : Got ls p acc) (hn : 0 < ls.length) (ha : Asc (ls.getD 0 [])) (hi : Inv ls p goal ls.length i p') :
    Got ls (upd p' 0 (p' 0 + 1)) (acc ++ [goal]) := by
  obtain ⟨h1, h2⟩ := hi.all 0 hn
  have hlive : Live ls p' goal := fun k hk => ⟨p' k, Nat.le_refl _, (hi.all k hk).1, (hi.all k hk).2⟩
  refine ⟨fun k hk => ?_, ?_, fun j hj hjl hin => ?_⟩
  · by_cases hk0 : k = 0
    · subst hk0; rw [upd_same]; omega
    · rw [upd_other _ _ _ _ hk0]; exact (hi.le k hk).2
  · rw [upd_same, List.take_add_one, List.getElem?_eq_getElem h1, List.filter_append, h.acc]
    have hs := take_skip (l := ls.getD 0 []) (f := inAll ls) (a := p 0) (b := p' 0) (hi.le 0 hn).1 (fun j h3 h4 h5 => by
      cases hb : inAll ls ((ls.getD 0 []).getD j 0)
      · rfl
      · have hl := h.live j h3 h5 hb
        have hg := (hi.live _ hl).2
        have := ha j (p' 0) h4 h1
        omega)
    rw [hs]
    have e : (ls.getD 0 [])[p' 0] = goal := by
      rw [List.getD_eq_getElem?_getD (l := ls.getD 0 []), List.getElem?_eq_getElem h1] at h2
      exact h2
    simp only [Option.toList_some, e, List.filter_cons, inAll_of_live hlive, if_true, List.filter_nil]
  · rw [upd_same] at hj
    have hl := (hi.live _ (h.live j (by have := (hi.le 0 hn).1; omega) hjl hin)).1
    intro k hk
    by_cases hk0 : k = 0
    · subst hk0; rw [upd_same]; exact ⟨j, hj, hjl, rfl⟩
    · rw [upd_other _ _ _ _ hk0]; exact hl k hk

end Go.Proofs.YtegcpplkcahkhaaGreat.Meet
