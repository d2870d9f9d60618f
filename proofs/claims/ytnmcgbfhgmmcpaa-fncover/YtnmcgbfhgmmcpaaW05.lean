import Derived.Test.YtnmcgbfhgmmcpaaW00
import Derived.Test.YtnmcgbfhgmmcpaaW04
/-
  Plain mathematics: Gauss and Jordan, step by step, as pivots of a tableau; what a rational's parts are.
-/
namespace Go.Proofs.Ytnmcgbfhgmmcpaa.Cov

theorem inv_start {m n o : Nat} {A : Nat → Nat → Rat} (ho : o + m ≤ n) (hunit : ∀ i, i < m → ∀ r, r < m → A (o + i) r = if i = r then 1 else 0) :
    Inv m n A (fun i j => A j i) (fun i => o + i) := by
  refine ⟨fun i hi => by show o + i < n; omega, fun i hi k hk => ?_, fun j hj r hr => ?_, ?_⟩
  · show A (o + k) i = _
    rw [hunit k hk i hi]
    by_cases e : i = k
    · rw [if_pos e, if_pos e.symm]
    · rw [if_neg e, if_neg (fun h => e h.symm)]
  · show A j r = sm m (fun i => A j i * A (o + i) r)
    rw [sm_single (k := r) hr]
    · rw [hunit r hr r hr, if_pos rfl]; grind
    · intro i hi hne
      rw [hunit i hi r hr, if_neg hne]; grind
  · rw [det_congr (N := fun j i => if j = i then 1 else 0) (fun j hj i hi => hunit j hj i hi), det_one]
    grind

def solveA (n : Nat) (R0 : Nat → Nat → Rat) : Nat → Nat → Rat := fun j r => if j < n then R0 r j else if j < n + n then (if j - n = r then 1 else 0) else R0 r n

def cl (n j : Nat) : Nat := if j = n then n + n else j

structure GJ (n c : Nat) (R0 R : Nat → Nat → Rat) (T : Nat → Nat → Rat) (B s : Nat → Nat) (piv : Nat → Rat) : Prop where
  inv : Inv n (n + n) (solveA n R0) T B
  lt : ∀ i, i < n → s i < n
  inj : ∀ i, i < n → ∀ k, k < n → s i = s k → i = k
  done : ∀ i, i < c → B (s i) = i
  todo : ∀ i, c ≤ i → i < n → B (s i) = n + s i
  rowd : ∀ i, i < c → ∀ j, j ≤ n → R i j = piv i * T (s i) (cl n j)
  rowt : ∀ i, c ≤ i → i < n → ∀ j, j ≤ n → R i j = T (s i) (cl n j)
  pivne : ∀ i, i < c → piv i ≠ 0
  pivsm : ∀ i, i < c → ∃ D : Int, D ≠ 0 ∧ D.natAbs ≤ fac n ∧ Whole (fac n) (piv i * D)

theorem gj_start (n : Nat) (R0 : Nat → Nat → Rat) : GJ n 0 R0 R0 (fun i j => solveA n R0 j i) (fun i => n + i) (fun i => i) (fun _ => 1) := by
  refine ⟨inv_start (Nat.le_refl _) (fun i hi r hr => ?_), fun i hi => hi, fun i _ k _ h => h, fun i hi => by omega, fun i _ _ => rfl, fun i hi => by omega, fun i _ hi j hj => ?_, fun i hi => by omega, fun i hi => by omega⟩
  · unfold solveA; rw [if_neg (by omega), if_pos (by omega), show n + i - n = i by omega]
  · unfold solveA cl
    by_cases e : j = n
    · rw [if_pos e, if_neg (by omega), if_neg (by omega), e]
    · rw [if_neg e, if_pos (by omega)]

def swp (s : Nat → Nat) (c p : Nat) : Nat → Nat := fun i => if i = c then s p else if i = p then s c else s i
def swpR (R : Nat → Nat → Rat) (c p : Nat) : Nat → Nat → Rat := fun i => if i = c then R p else if i = p then R c else R i
def elim (R : Nat → Nat → Rat) (c : Nat) : Nat → Nat → Rat := fun i j => if i = c ∨ R i c = 0 ∨ j < c then R i j else R i j - R i c / R c c * R c j

theorem gj_step {n c p : Nat} {R0 R T : Nat → Nat → Rat} {B s : Nat → Nat} {piv : Nat → Rat} (h : GJ n c R0 R T B s piv) (hw : ∀ j, j ≤ n → ∀ r, r < n → Whole 1 (R0 r j)) (hcp : c ≤ p) (hp : p < n) (hne : R p c ≠ 0) :
    GJ n (c + 1) R0 (elim (swpR R c p) c) (pivT T (s p) c) (pivB B (s p) c) (swp s c p) (fun i => if i = c then T (s p) c else piv i) := by
  have hTc : T (s p) c = R p c := by
    rw [h.rowt p hcp hp c (by omega)]
    unfold cl; rw [if_neg (by omega)]
  have hTne : T (s p) c ≠ 0 := by rw [hTc]; exact hne
  have hc : c < n := by omega
  have hinj : ∀ i, i < n → i ≠ c → swp s c p i ≠ s p := by
    intro i hi hic e
    unfold swp at e
    rw [if_neg hic] at e
    by_cases e2 : i = p
    · rw [if_pos e2] at e
      have := h.inj c hc p hp e
      omega
    · rw [if_neg e2] at e
      exact e2 (h.inj i hi p hp e)
  have hR1 : ∀ i, i < n → i ≠ c → ∀ j, j ≤ n → swpR R c p i j = (if i < c then piv i else 1) * T (swp s c p i) (cl n j) := by
    intro i hi hic j hj
    unfold swpR swp
    rw [if_neg hic, if_neg hic]
    by_cases e2 : i = p
    · rw [if_pos e2, if_pos e2, if_neg (by omega), h.rowt c (by omega) hc j hj]; grind
    · rw [if_neg e2, if_neg e2]
      by_cases e3 : i < c
      · rw [if_pos e3, h.rowd i e3 j hj]
      · rw [if_neg e3, h.rowt i (by omega) hi j hj]; grind
  have hRc : ∀ j, j ≤ n → swpR R c p c j = T (s p) (cl n j) := by
    intro j hj
    unfold swpR
    rw [if_pos rfl, h.rowt p hcp hp j hj]
  have hclc : cl n c = c := if_neg (by omega)
  have hrow : ∀ i, i < n → i ≠ c → ∀ j, j ≤ n → elim (swpR R c p) c i j = (if i < c then piv i else 1) * pivT T (s p) c (swp s c p i) (cl n j) := by
    intro i hi hic j hj
    unfold pivT
    rw [if_neg (hinj i hi hic)]
    unfold elim
    by_cases e1 : swpR R c p i c = 0
    · rw [if_pos (Or.inr (Or.inl e1)), hR1 i hi hic j hj]
      rw [hR1 i hi hic c (by omega), hclc] at e1
      by_cases e3 : i < c
      · rw [if_pos e3] at e1 ⊢
        have := h.pivne i e3
        rcases Rat.mul_eq_zero.1 e1 with e | e
        · exact absurd e this
        · rw [e]; grind
      · rw [if_neg e3] at e1 ⊢
        have : T (swp s c p i) c = 0 := by grind
        rw [this]; grind
    · by_cases e2 : j < c
      · rw [if_pos (Or.inr (Or.inr e2)), hR1 i hi hic j hj]
        have hz : T (s p) (cl n j) = 0 := by
          rw [show cl n j = j from if_neg (by omega)]
          have := h.inv.unit (s p) (h.lt p hp) (s j) (h.lt j (by omega))
          rw [h.done j e2, if_neg (fun e => by have := h.inj p hp j (by omega) e; omega)] at this
          exact this
        rw [hz]; grind
      · rw [if_neg (fun e => by rcases e with e | e | e; exact hic e; exact e1 e; exact e2 e), hR1 i hi hic j hj, hR1 i hi hic c (by omega), hRc c (by omega), hRc j hj, hclc]
        grind
  obtain ⟨D, hD0, hDb, hDw⟩ := h.inv.small (fun j hj r hr => by
    unfold solveA
    split
    · exact hw j (by omega) r hr
    · split
      · split
        · exact ⟨1, rfl, by decide⟩
        · exact ⟨0, rfl, by decide⟩
      · exact hw n (Nat.le_refl _) r hr)
  refine ⟨h.inv.pivot (h.lt p hp) (by omega) hTne, fun i hi => ?_, fun i hi k hk e => ?_, fun i hi => ?_, fun i h1 h2 => ?_, fun i hi j hj => ?_, fun i h1 h2 j hj => ?_, fun i hi => ?_, fun i hi => ?_⟩
  · unfold swp
    split
    · exact h.lt p hp
    · split
      · exact h.lt c hc
      · exact h.lt i hi
  · by_cases e1 : i = c
    · by_cases e2 : k = c
      · omega
      · exfalso
        rw [show swp s c p i = s p from if_pos e1] at e
        exact hinj k hk e2 e.symm
    · by_cases e2 : k = c
      · exfalso
        rw [show swp s c p k = s p from if_pos e2] at e
        exact hinj i hi e1 e
      · unfold swp at e
        rw [if_neg e1, if_neg e2] at e
        by_cases e3 : i = p
        · by_cases e4 : k = p
          · omega
          · rw [if_pos e3, if_neg e4] at e
            exact absurd (h.inj c hc k hk e) (by omega)
        · by_cases e4 : k = p
          · rw [if_neg e3, if_pos e4] at e
            exact absurd (h.inj i hi c hc e) (by omega)
          · rw [if_neg e3, if_neg e4] at e
            exact h.inj i hi k hk e
  · by_cases e1 : i = c
    · rw [show swp s c p i = s p from if_pos e1]
      show (if s p = s p then c else _) = i
      rw [if_pos rfl, e1]
    · have h3 := hinj i (by omega) e1
      show (if swp s c p i = s p then c else B (swp s c p i)) = i
      rw [if_neg h3, show swp s c p i = s i by unfold swp; rw [if_neg e1, if_neg (by omega)]]
      exact h.done i (by omega)
  · have h3 := hinj i h2 (by omega)
    show (if swp s c p i = s p then c else B (swp s c p i)) = n + swp s c p i
    rw [if_neg h3]
    unfold swp
    rw [if_neg (by omega)]
    split
    · exact h.todo c (by omega) hc
    · exact h.todo i (by omega) h2
  · by_cases e1 : i = c
    · subst e1
      rw [show elim (swpR R i p) i i j = swpR R i p i j from if_pos (Or.inl rfl), hRc j hj, if_pos rfl, show swp s i p i = s p from if_pos rfl]
      rw [show pivT T (s p) i (s p) (cl n j) = T (s p) (cl n j) / T (s p) i from if_pos rfl]
      grind
    · rw [hrow i (by omega) e1 j hj, if_pos (by omega), if_neg e1]
  · rw [hrow i h2 (by omega) j hj, if_neg (by omega)]; grind
  · split
    · exact hTne
    · exact h.pivne i (by omega)
  · split
    · exact ⟨D, hD0, hDb, hDw (s p) (h.lt p hp) c (by omega)⟩
    · exact h.pivsm i (by omega)

/-- without a pivot the demands aren't independent -/
theorem gj_stuck {n c : Nat} {R0 R T : Nat → Nat → Rat} {B s : Nat → Nat} {piv : Nat → Rat} (h : GJ n c R0 R T B s piv) (hc : c < n) (hz : ∀ p, c ≤ p → p < n → R p c = 0) :
    ∃ d : Nat → Rat, d c = 1 ∧ ∀ r, r < n → sm n (fun j => R0 r j * d j) = 0 := by
  have hnb : ∀ i, i < n → (∃ k, k < n ∧ s k = i) := by
    -- an injection of n numbers below n meets each
    intro i hi
    by_cases hex : ∃ k, k < n ∧ s k = i
    · exact hex
    · exfalso
      have hno : ∀ k, k < n → s k ≠ i := fun k hk e => hex ⟨k, hk, e⟩
      obtain ⟨n', rfl⟩ : ∃ n', n = n' + 1 := ⟨n - 1, by omega⟩
      obtain ⟨p, q, h1, h2, h3⟩ := pigeon n' (fun k => unskip i (s k)) (fun k hk => by
        have h1 := h.lt k (by omega)
        have h2 := hno k (by omega)
        show unskip i (s k) < n'
        unfold unskip; split <;> omega)
      have h4 := hno p (by omega)
      have h5 := hno q (by omega)
      have h6 : s p = s q := by
        have h3' : unskip i (s p) = unskip i (s q) := h3
        unfold unskip at h3'
        split at h3' <;> split at h3' <;> omega
      have := h.inj p (by omega) q (by omega) h6
      omega
  have hcz : ∀ p, c ≤ p → p < n → T (s p) c = 0 := by
    intro p h1 h2
    have := h.rowt p h1 h2 c (by omega)
    rw [hz p h1 h2, show cl n c = c from if_neg (by omega)] at this
    exact this.symm
  have hBc : ∀ i, i < n → B i ≠ c := by
    intro i hi e
    obtain ⟨k, hk, rfl⟩ := hnb i hi
    by_cases e2 : k < c
    · rw [h.done k e2] at e; omega
    · rw [h.todo k (by omega) hk] at e; omega
  refine ⟨ray n T B c, ?_, fun r hr => ?_⟩
  · unfold ray
    rw [if_pos rfl, val_not hBc]; grind
  · have h1 := h.inv.hom_ray (show c < n + n by omega) r hr
    rw [sm_app] at h1
    have e1 : sm n (fun i => ray n T B c (n + i) * solveA n R0 (n + i) r) = 0 := by
      refine sm_zero (fun i hi => ?_)
      have : ray n T B c (n + i) = 0 := by
        unfold ray
        rw [if_neg (by omega)]
        have : val n (fun i => - T i c) B (n + i) = 0 := by
          refine sm_zero (fun k hk => ?_)
          split
          · rename_i e
            obtain ⟨q, hq, rfl⟩ := hnb k hk
            by_cases e2 : q < c
            · rw [h.done q e2] at e; omega
            · show - T (s q) c = 0
              rw [hcz q (by omega) hq]; grind
          · rfl
        rw [this]; grind
      rw [this]; grind
    rw [e1] at h1
    have e2 : sm n (fun j => R0 r j * ray n T B c j) = sm n (fun j => ray n T B c j * solveA n R0 j r) := sm_congr (fun j hj => by
      unfold solveA; rw [if_pos hj]; grind)
    rw [e2]; grind

theorem gj_end {n : Nat} {R0 R T : Nat → Nat → Rat} {B s : Nat → Nat} {piv : Nat → Rat} (h : GJ n n R0 R T B s piv) :
    (∀ i, i < n → R i i ≠ 0 ∧ R i n / R i i = T (s i) (n + n)) ∧
    ∀ x : Nat → Rat, (∀ r, r < n → sm n (fun j => R0 r j * x j) = R0 r n) → ∀ i, i < n → x i = T (s i) (n + n) := by
  have hd : ∀ i, i < n → ∀ j, j < n → T (s i) j = if i = j then 1 else 0 := by
    intro i hi j hj
    have := h.inv.unit (s i) (h.lt i hi) (s j) (h.lt j hj)
    rw [h.done j hj] at this
    rw [this]
    by_cases e : i = j
    · rw [if_pos e, if_pos (by rw [e])]
    · rw [if_neg e, if_neg (fun e2 => e (h.inj i hi j hj e2))]
  refine ⟨fun i hi => ?_, fun x hx i hi => ?_⟩
  · have h1 := h.rowd i hi i (by omega)
    have h2 := h.rowd i hi n (Nat.le_refl _)
    rw [show cl n i = i from if_neg (by omega), hd i hi i hi, if_pos rfl] at h1
    rw [show cl n n = n + n from if_pos rfl] at h2
    have h3 := h.pivne i hi
    rw [h1, h2]
    constructor <;> grind
  · have hs : Sol n (n + n) (solveA n R0) (fun j => if j < n then x j else 0) := by
      intro r hr
      rw [sm_app]
      have e1 : sm n (fun j => (if j < n then x j else 0) * solveA n R0 j r) = sm n (fun j => R0 r j * x j) := sm_congr (fun j hj => by
        unfold solveA; rw [if_pos hj, if_pos hj]; grind)
      have e2 : sm n (fun i => (if n + i < n then x (n + i) else 0) * solveA n R0 (n + i) r) = 0 := sm_zero (fun i _ => by rw [if_neg (by omega)]; grind)
      rw [e1, e2, hx r hr]
      unfold solveA; rw [if_neg (by omega), if_neg (by omega)]; grind
    have h1 := h.inv.sol_rows hs (s i) (h.lt i hi)
    rw [← h1, sm_app]
    have e1 : sm n (fun j => T (s i) j * (if j < n then x j else 0)) = x i := by
      rw [sm_single (k := i) hi]
      · rw [hd i hi i hi, if_pos rfl, if_pos hi]; grind
      · intro j hj hne
        rw [hd i hi j hj, if_neg (fun e => hne e.symm)]; grind
    have e2 : sm n (fun k => T (s i) (n + k) * (if n + k < n then x (n + k) else 0)) = 0 := sm_zero (fun k _ => by rw [if_neg (by omega)]; grind)
    rw [e1, e2]; grind

end Go.Proofs.Ytnmcgbfhgmmcpaa.Cov

/-
  Plain mathematics of impl.Intersect: cursors over ascending lists that meet.
-/
namespace Go.Proofs.Ytnmcgbfhgmmcpaa.Meet

def Asc (l : List Int) : Prop := ∀ i j, i < j → j < l.length → l.getD i 0 < l.getD j 0
def ascAt (l : List Int) (j : Nat) : Bool := decide (j = 0) || decide (l.getD (j - 1) 0 < l.getD j 0)
def ascB (l : List Int) : Bool := (List.range l.length).all (ascAt l)

theorem ascB_true {l : List Int} (h : ∀ i, i < l.length → ascAt l i = true) : ascB l = true := by
  unfold ascB
  rw [List.all_eq_true]
  intro i hi
  exact h i (by simpa using hi)

theorem ascB_false {l : List Int} {j : Nat} (hj : j < l.length) (h : ascAt l j = false) : ascB l = false := by
  unfold ascB
  rw [List.all_eq_false]
  exact ⟨j, by simpa using hj, by rw [h]; decide⟩

theorem asc_of {l : List Int} (h : ascB l = true) : Asc l := by
  unfold ascB at h
  rw [List.all_eq_true] at h
  have h1 : ∀ i, i + 1 < l.length → l.getD i 0 < l.getD (i + 1) 0 := fun i hi => by
    have := h (i + 1) (by simpa using hi)
    simpa [ascAt] using this
  have h2 : ∀ d i, i + d + 1 < l.length → l.getD i 0 < l.getD (i + d + 1) 0 := by
    intro d
    induction d with
    | zero => intro i hi; exact h1 i hi
    | succ d ih => intro i hi; have a := ih i (by omega); have b := h1 (i + d + 1) (by omega); exact Int.lt_trans a b
  intro i j hij hj
  have := h2 (j - i - 1) i (by omega)
  rwa [show i + (j - i - 1) + 1 = j by omega] at this

def inAll (ls : List (List Int)) (x : Int) : Bool := ls.all fun l => decide (x ∈ l)
def common (ls : List (List Int)) : List Int := if 1 ≤ ls.length ∧ ls.length ≤ 100 ∧ ls.all ascB = true then (ls.getD 0 []).filter (inAll ls) else []

/-- y stands in every list at or beyond its cursor -/
def Live (ls : List (List Int)) (p : Nat → Nat) (y : Int) : Prop := ∀ i, i < ls.length → ∃ j, p i ≤ j ∧ j < (ls.getD i []).length ∧ (ls.getD i []).getD j 0 = y

/-- q: where a cursor at p of l comes when it seeks g -/
def Seek (l : List Int) (p : Nat) (g : Int) (q : Nat) : Prop := p ≤ q ∧ q ≤ l.length ∧ (∀ j, p ≤ j → j < q → l.getD j 0 < g) ∧ (q < l.length → g ≤ l.getD q 0)

structure Inv (ls : List (List Int)) (p0 : Nat → Nat) (goal : Int) (st i : Nat) (p : Nat → Nat) : Prop where
  le : ∀ k, k < ls.length → p0 k ≤ p k ∧ p k ≤ (ls.getD k []).length
  live : ∀ y, Live ls p0 y → Live ls p y ∧ goal ≤ y
  stand : ∀ k, k < ls.length → (∃ s, 1 ≤ s ∧ s ≤ st ∧ (k + s) % ls.length = i) → p k < (ls.getD k []).length ∧ (ls.getD k []).getD (p k) 0 = goal
  lt : i < ls.length
  st : st ≤ ls.length

def upd (p : Nat → Nat) (i q : Nat) : Nat → Nat := fun k => if k = i then q else p k
theorem upd_same (p : Nat → Nat) (i q : Nat) : upd p i q i = q := if_pos rfl
theorem upd_other (p : Nat → Nat) (i q k : Nat) (h : k ≠ i) : upd p i q k = p k := if_neg h

theorem Inv.start {ls : List (List Int)} {p0 : Nat → Nat} (hn : 0 < ls.length) (hp : ∀ k, k < ls.length → p0 k ≤ (ls.getD k []).length)
    (hm : ∀ k j, -9223372036854775808 ≤ (ls.getD k []).getD j 0) : Inv ls p0 (-9223372036854775808) 0 0 p0 where
  le k hk := ⟨Nat.le_refl _, hp k hk⟩
  live y hy := ⟨hy, by obtain ⟨j, _, _, e⟩ := hy 0 hn; rw [← e]; exact hm _ _⟩
  stand k hk := fun ⟨s, h1, h2, _⟩ => by omega
  lt := hn
  st := Nat.zero_le _

theorem Inv.none {ls : List (List Int)} {p0 p : Nat → Nat} {goal : Int} {st i q : Nat} (h : Inv ls p0 goal st i p) (hs : Seek (ls.getD i []) (p i) goal q) (hq : q = (ls.getD i []).length) (y : Int) : ¬ Live ls p0 y := fun hy => by
  obtain ⟨hl, hg⟩ := h.live y hy
  obtain ⟨j, h1, h2, e⟩ := hl i h.lt
  have := hs.2.2.1 j h1 (by omega)
  omega

theorem Live.seek {ls : List (List Int)} {p : Nat → Nat} {y goal : Int} {i q : Nat} (hl : Live ls p y) (hg : goal ≤ y) (hs : Seek (ls.getD i []) (p i) goal q) : Live ls (upd p i q) y := fun k hk => by
  obtain ⟨j, h1, h2, e⟩ := hl k hk
  by_cases hki : k = i
  · subst hki
    rw [upd_same]
    refine ⟨j, ?_, h2, e⟩
    rcases Nat.lt_or_ge j q with hj | hj
    · have := hs.2.2.1 j h1 hj; omega
    · exact hj
  · rw [upd_other _ _ _ _ hki]
    exact ⟨j, h1, h2, e⟩

theorem Inv.le_upd {ls : List (List Int)} {p0 p : Nat → Nat} {goal : Int} {st i q : Nat} (h : Inv ls p0 goal st i p) (hs : Seek (ls.getD i []) (p i) goal q) : ∀ k, k < ls.length → p0 k ≤ upd p i q k ∧ upd p i q k ≤ (ls.getD k []).length := fun k hk => by
  by_cases hki : k = i
  · subst hki
    rw [upd_same]
    exact ⟨Nat.le_trans (h.le k hk).1 hs.1, hs.2.1⟩
  · rw [upd_other _ _ _ _ hki]
    exact h.le k hk

theorem back_mod {k s i n : Nat} (hn : i < n) (hk : k < n) (hs : 1 ≤ s) (h : (k + s) % n = (i + 1) % n) : (k + (s - 1)) % n = i := by
  obtain ⟨t, rfl⟩ : ∃ t, s = t + 1 := ⟨s - 1, by omega⟩
  have e : (k + t + 1) % n = (i + 1) % n := h
  show (k + t) % n = i
  rcases Nat.lt_or_ge (i + 1) n with h1 | h1
  · rw [Nat.mod_eq_of_lt h1] at e
    have e2 := Nat.add_mod (k + t) 1 n
    rcases Nat.lt_or_ge 1 n with h3 | h3
    · rw [Nat.mod_eq_of_lt h3] at e2
      have hlt := Nat.mod_lt (k + t) (show 0 < n by omega)
      rcases Nat.lt_or_ge ((k + t) % n + 1) n with h4 | h4
      · rw [Nat.mod_eq_of_lt h4] at e2; omega
      · rw [show (k + t) % n + 1 = n by omega, Nat.mod_self] at e2; omega
    · omega
  · have hin : i + 1 = n := by omega
    rw [hin, Nat.mod_self] at e
    have e2 := Nat.add_mod (k + t) 1 n
    rcases Nat.lt_or_ge 1 n with h3 | h3
    · rw [Nat.mod_eq_of_lt h3] at e2
      have hlt := Nat.mod_lt (k + t) (show 0 < n by omega)
      rcases Nat.lt_or_ge ((k + t) % n + 1) n with h4 | h4
      · rw [Nat.mod_eq_of_lt h4] at e2; omega
      · omega
    · have : n = 1 := by omega
      subst this
      omega

theorem Inv.same {ls : List (List Int)} {p0 p : Nat → Nat} {goal : Int} {st i q : Nat} (h : Inv ls p0 goal st i p) (hst : st < ls.length) (hs : Seek (ls.getD i []) (p i) goal q) (hq : q < (ls.getD i []).length) (he : (ls.getD i []).getD q 0 = goal) :
    Inv ls p0 goal (st + 1) ((i + 1) % ls.length) (upd p i q) where
  le := h.le_upd hs
  live y hy := ⟨(h.live y hy).1.seek (h.live y hy).2 hs, (h.live y hy).2⟩
  stand k hk := fun ⟨s, h1, h2, h3⟩ => by
    by_cases hki : k = i
    · subst hki
      rw [upd_same]
      exact ⟨hq, he⟩
    · rw [upd_other _ _ _ _ hki]
      have hb := back_mod h.lt hk h1 h3
      refine h.stand k hk ⟨s - 1, ?_, by omega, hb⟩
      rcases Nat.lt_or_ge 1 s with h4 | h4
      · omega
      · rw [show s - 1 = 0 by omega, Nat.add_zero, Nat.mod_eq_of_lt hk] at hb
        exact absurd hb hki
  lt := Nat.mod_lt _ (by have := h.lt; omega)
  st := hst

theorem Inv.more {ls : List (List Int)} {p0 p : Nat → Nat} {goal : Int} {st i q : Nat} (h : Inv ls p0 goal st i p) (ha : Asc (ls.getD i [])) (hs : Seek (ls.getD i []) (p i) goal q) (hq : q < (ls.getD i []).length) :
    Inv ls p0 ((ls.getD i []).getD q 0) 1 ((i + 1) % ls.length) (upd p i q) where
  le := h.le_upd hs
  live y hy := by
    have hl := (h.live y hy).1.seek (h.live y hy).2 hs
    refine ⟨hl, ?_⟩
    obtain ⟨j, h1, h2, e⟩ := hl i h.lt
    rw [upd_same] at h1
    rcases Nat.lt_or_ge q j with h3 | h3
    · have := ha q j h3 h2; omega
    · rw [show q = j by omega, e]; exact Int.le_refl _
  stand k hk := fun ⟨s, h1, h2, h3⟩ => by
    have hb := back_mod h.lt hk h1 h3
    rw [show s - 1 = 0 by omega, Nat.add_zero, Nat.mod_eq_of_lt hk] at hb
    subst hb
    rw [upd_same]
    exact ⟨hq, rfl⟩
  lt := Nat.mod_lt _ (by have := h.lt; omega)
  st := by have := h.lt; omega

theorem Inv.all {ls : List (List Int)} {p0 p : Nat → Nat} {goal : Int} {i : Nat} (h : Inv ls p0 goal ls.length i p) : ∀ k, k < ls.length → p k < (ls.getD k []).length ∧ (ls.getD k []).getD (p k) 0 = goal := fun k hk => by
  have hi := h.lt
  rcases Nat.lt_or_ge k i with h1 | h1
  · exact h.stand k hk ⟨i - k, by omega, by omega, by rw [show k + (i - k) = i by omega]; exact Nat.mod_eq_of_lt hi⟩
  · exact h.stand k hk ⟨ls.length - k + i, by omega, by omega, by rw [show k + (ls.length - k + i) = i + ls.length by omega, Nat.add_mod_right]; exact Nat.mod_eq_of_lt hi⟩

/-- how many elements of all lists are greater than g -/
def above (ls : List (List Int)) (g : Int) : Nat := (ls.map fun l => l.countP fun x => decide (g < x)).sum

theorem countP_le_of (l : List Int) {g g' : Int} (h : g ≤ g') : (l.countP fun x => decide (g' < x)) ≤ l.countP fun x => decide (g < x) :=
  List.countP_mono_left fun x _ hx => by simp at hx ⊢; omega

theorem countP_lt_of {l : List Int} {g g' : Int} (h : g < g') (hm : g' ∈ l) : (l.countP fun x => decide (g' < x)) < l.countP fun x => decide (g < x) := by
  induction l with
  | nil => cases hm
  | cons a l ih =>
    rw [List.countP_cons, List.countP_cons]
    have hle := countP_le_of l (show g ≤ g' by omega)
    rcases List.mem_cons.1 hm with e | e
    · subst e
      simp only [decide_eq_true_eq]
      rw [if_neg (by omega), if_pos (by omega)]
      omega
    · have := ih e
      simp only [decide_eq_true_eq]
      split <;> split <;> omega

theorem above_lt {ls : List (List Int)} {g g' : Int} (h : g < g') {i : Nat} (hi : i < ls.length) (hm : g' ∈ ls.getD i []) : above ls g' < above ls g := by
  unfold above
  induction ls generalizing i with
  | nil => simp at hi
  | cons a ls ih =>
    have hle : ∀ ls : List (List Int), ((ls.map fun l => l.countP fun x => decide (g' < x)).sum) ≤ (ls.map fun l => l.countP fun x => decide (g < x)).sum := by
      intro ls
      induction ls with
      | nil => exact Nat.le_refl _
      | cons b ls ih2 => have := countP_le_of b (show g ≤ g' by omega); simp only [List.map_cons, List.sum_cons]; omega
    simp only [List.map_cons, List.sum_cons]
    cases i with
    | zero =>
      have h1 := countP_lt_of h (show g' ∈ a by simpa using hm)
      have h2 := hle ls
      omega
    | succ i =>
      have h1 := ih (i := i) (by simpa using hi) (by simpa using hm)
      have h2 := countP_le_of a (show g ≤ g' by omega)
      omega

/-- what Intersect has gathered -/
structure Got (ls : List (List Int)) (p : Nat → Nat) (acc : List Int) : Prop where
  le : ∀ k, k < ls.length → p k ≤ (ls.getD k []).length
  acc : acc = ((ls.getD 0 []).take (p 0)).filter (inAll ls)
  live : ∀ j, p 0 ≤ j → j < (ls.getD 0 []).length → inAll ls ((ls.getD 0 []).getD j 0) = true → Live ls p ((ls.getD 0 []).getD j 0)

theorem inAll_mem {ls : List (List Int)} {x : Int} (h : inAll ls x = true) {i : Nat} (hi : i < ls.length) : x ∈ ls.getD i [] := by
  unfold inAll at h
  rw [List.all_eq_true] at h
  have := h _ (List.getElem_mem hi)
  rw [List.getD_eq_getElem?_getD, List.getElem?_eq_getElem hi]
  simpa using this

theorem mem_at {l : List Int} {x : Int} (h : x ∈ l) : ∃ j, j < l.length ∧ l.getD j 0 = x := by
  obtain ⟨j, hj, e⟩ := List.getElem_of_mem h
  exact ⟨j, hj, by rw [List.getD_eq_getElem?_getD, List.getElem?_eq_getElem hj]; exact e⟩

theorem at_mem {l : List Int} {j : Nat} (h : j < l.length) : l.getD j 0 ∈ l := by
  rw [List.getD_eq_getElem?_getD, List.getElem?_eq_getElem h]
  exact List.getElem_mem h

theorem inAll_of_live {ls : List (List Int)} {p : Nat → Nat} {y : Int} (h : Live ls p y) : inAll ls y = true := by
  unfold inAll
  rw [List.all_eq_true]
  intro l hl
  obtain ⟨i, hi, e⟩ := List.getElem_of_mem hl
  obtain ⟨j, _, h2, h3⟩ := h i hi
  rw [List.getD_eq_getElem?_getD (l := ls), List.getElem?_eq_getElem hi] at h2 h3
  simp only [Option.getD_some, e] at h2 h3
  rw [← h3]
  exact decide_eq_true (at_mem h2)

theorem Got.start (ls : List (List Int)) : Got ls (fun _ => 0) [] where
  le _ _ := Nat.zero_le _
  acc := by simp
  live j _ _ h := fun i hi => by
    obtain ⟨q, h1, h2⟩ := mem_at (inAll_mem h hi)
    exact ⟨q, Nat.zero_le _, h1, h2⟩

/-- what is filtered does not turn by places where nothing is common -/
theorem take_skip {l : List Int} {f : Int → Bool} {a b : Nat} (hab : a ≤ b) (h : ∀ j, a ≤ j → j < b → j < l.length → f (l.getD j 0) = false) : (l.take b).filter f = (l.take a).filter f := by
  obtain ⟨d, rfl⟩ : ∃ d, b = a + d := ⟨b - a, by omega⟩
  clear hab
  induction d with
  | zero => rfl
  | succ d ih =>
    rw [← Nat.add_assoc, List.take_add_one]
    rcases Nat.lt_or_ge (a + d) l.length with h1 | h1
    · have h2 := h (a + d) (by omega) (by omega) h1
      rw [List.getD_eq_getElem?_getD, List.getElem?_eq_getElem h1, Option.getD_some] at h2
      rw [List.getElem?_eq_getElem h1, List.filter_append]
      simp only [Option.toList_some, List.filter_cons, h2, List.filter_nil]
      rw [if_neg (by decide), List.append_nil]
      exact ih (fun j h3 h4 h5 => h j h3 (by omega) h5)
    · rw [List.getElem?_eq_none h1]
      simp only [Option.toList_none, List.append_nil]
      exact ih (fun j h3 h4 h5 => h j h3 (by omega) h5)

theorem Got.done {ls : List (List Int)} {p : Nat → Nat} {acc : List Int} (h : Got ls p acc) (hn : 0 < ls.length) (hno : ∀ y, ¬ Live ls p y) : acc = (ls.getD 0 []).filter (inAll ls) := by
  rw [h.acc]
  have := take_skip (l := ls.getD 0 []) (f := inAll ls) (a := p 0) (b := (ls.getD 0 []).length) (h.le 0 hn) (fun j h1 _ h3 => by
    cases hb : inAll ls ((ls.getD 0 []).getD j 0)
    · rfl
    · exact absurd (h.live j h1 h3 hb) (hno _))
  rw [List.take_length] at this
  exact this.symm

theorem Got.step {ls : List (List Int)} {p p' : Nat → Nat} {acc : List Int} {goal : Int} {i : Nat} (h : Got ls p acc) (hn : 0 < ls.length) (ha : Asc (ls.getD 0 [])) (hi : Inv ls p goal ls.length i p') :
    Got ls (upd p' 0 (p' 0 + 1)) (acc ++ [goal]) := by
  obtain ⟨h1, h2⟩ := hi.all 0 hn
  have hlive : Live ls p' goal := fun k hk => ⟨p' k, Nat.le_refl _, (hi.all k hk).1, (hi.all k hk).2⟩
  refine ⟨fun k hk => ?_, ?_, fun j hj hjl hin => ?_⟩
  · by_cases hk0 : k = 0
    · subst hk0; rw [upd_same]; omega
    · rw [upd_other _ _ _ _ hk0]; exact (hi.le k hk).2
  · rw [upd_same, List.take_add_one, List.getElem?_eq_getElem h1, List.filter_append, h.acc]
    have hs := take_skip (l := ls.getD 0 []) (f := inAll ls) (a := p 0) (b := p' 0) (hi.le 0 hn).1 (fun j h3 h4 h5 => by
      cases hb : inAll ls ((ls.getD 0 []).getD j 0)
      · rfl
      · have hl := h.live j h3 h5 hb
        have hg := (hi.live _ hl).2
        have := ha j (p' 0) h4 h1
        omega)
    rw [hs]
    have e : (ls.getD 0 [])[p' 0] = goal := by
      rw [List.getD_eq_getElem?_getD (l := ls.getD 0 []), List.getElem?_eq_getElem h1] at h2
      exact h2
    simp only [Option.toList_some, e, List.filter_cons, inAll_of_live hlive, if_true, List.filter_nil]
  · rw [upd_same] at hj
    have hl := (hi.live _ (h.live j (by have := (hi.le 0 hn).1; omega) hjl hin)).1
    intro k hk
    by_cases hk0 : k = 0
    · subst hk0; rw [upd_same]; exact ⟨j, hj, hjl, rfl⟩
    · rw [upd_other _ _ _ _ hk0]; exact hl k hk

end Go.Proofs.Ytnmcgbfhgmmcpaa.Meet
