namespace Go.Proofs.YtnbbbbfamlmfpaaGreat.RatM

end Go.Proofs.YtnbbbbfamlmfpaaGreat.RatM

/-
  Plain mathematics of impl.Intersect: cursors over ascending lists that meet.
-/
namespace Go.Proofs.YtnbbbbfamlmfpaaGreat.Meet

def Asc (l : List Int) : Prop := ∀ i j, i < j → j < l.length → l.getD i 0 < l.getD j 0
def ascAt (l : List Int) (j : Nat) : Bool := decide (j = 0) || decide (l.getD (j - 1) 0 < l.getD j 0)
def ascB (l : List Int) : Bool := (List.range l.length).all (ascAt l)

theorem asc_of {l : List Int} (h : ascB l = true) : Asc l := by
  unfold ascB at h
  rw [List.all_eq_true] at h
  have h1 : ∀ i, i + 1 < l.length → l.getD i 0 < l.getD (i + 1) 0 := fun i hi => by
    have := h (i + 1) (by simpa using hi)
    simpa [ascAt] using this
  have h2 : ∀ d i, i + d + 1 < l.length → l.getD i 0 < l.getD (i + d + 1) 0 := by
    intro d
    induction d with
    | zero => intro i hi; exact h1 i hi
    | succ d ih => intro i hi; have a := ih i (by omega); have b := h1 (i + d + 1) (by omega); exact Int.lt_trans a b
  intro i j hij hj
  have := h2 (j - i - 1) i (by omega)
  rwa [show i + (j - i - 1) + 1 = j by omega] at this

def inAll (ls : List (List Int)) (x : Int) : Bool := ls.all fun l => decide (x ∈ l)
def common (ls : List (List Int)) : List Int := if 1 ≤ ls.length ∧ ls.length ≤ 100 ∧ ls.all ascB = true then (ls.getD 0 []).filter (inAll ls) else []

/-- y stands in every list at or beyond its cursor -/
def Live (ls : List (List Int)) (p : Nat → Nat) (y : Int) : Prop := ∀ i, i < ls.length → ∃ j, p i ≤ j ∧ j < (ls.getD i []).length ∧ (ls.getD i []).getD j 0 = y

/-- q: where a cursor at p of l comes when it seeks g -/
def Seek (l : List Int) (p : Nat) (g : Int) (q : Nat) : Prop := p ≤ q ∧ q ≤ l.length ∧ (∀ j, p ≤ j → j < q → l.getD j 0 < g) ∧ (q < l.length → g ≤ l.getD q 0)

structure Inv (ls : List (List Int)) (p0 : Nat → Nat) (goal : Int) (st i : Nat) (p : Nat → Nat) : Prop where
  le : ∀ k, k < ls.length → p0 k ≤ p k ∧ p k ≤ (ls.getD k []).length
  live : ∀ y, Live ls p0 y → Live ls p y ∧ goal ≤ y
  stand : ∀ k, k < ls.length → (∃ s, 1 ≤ s ∧ s ≤ st ∧ (k + s) % ls.length = i) → p k < (ls.getD k []).length ∧ (ls.getD k []).getD (p k) 0 = goal
  lt : i < ls.length
  st : st ≤ ls.length

def upd (p : Nat → Nat) (i q : Nat) : Nat → Nat := fun k => if k = i then q else p k
theorem upd_same (p : Nat → Nat) (i q : Nat) : upd p i q i = q := if_pos rfl
theorem upd_other (p : Nat → Nat) (i q k : Nat) (h : k ≠ i) : upd p i q k = p k := if_neg h

theorem Inv.start {ls : List (List Int)} {p0 : Nat → Nat} (hn : 0 < ls.length) (hp : ∀ k, k < ls.length → p0 k ≤ (ls.getD k []).length)
    (hm : ∀ k j, -9223372036854775808 ≤ (ls.getD k []).getD j 0) : Inv ls p0 (-9223372036854775808) 0 0 p0 where
  le k hk := ⟨Nat.le_refl _, hp k hk⟩
  live y hy := ⟨hy, by obtain ⟨j, _, _, e⟩ := hy 0 hn; rw [← e]; exact hm _ _⟩
  stand k hk := fun ⟨s, h1, h2, _⟩ => by omega
  lt := hn
  st := Nat.zero_le _

theorem Inv.none {ls : List (List Int)} {p0 p : Nat → Nat} {goal : Int} {st i q : Nat} (h : Inv ls p0 goal st i p) (hs : Seek (ls.getD i []) (p i) goal q) (hq : q = (ls.getD i []).length) (y : Int) : ¬ Live ls p0 y := fun hy => by
  obtain ⟨hl, hg⟩ := h.live y hy
  obtain ⟨j, h1, h2, e⟩ := hl i h.lt
  have := hs.2.2.1 j h1 (by omega)
  omega

theorem Live.seek {ls : List (List Int)} {p : Nat → Nat} {y goal : Int} {i q : Nat} (hl : Live ls p y) (hg : goal ≤ y) (hs : Seek (ls.getD i []) (p i) goal q) : Live ls (upd p i q) y := fun k hk => by
  obtain ⟨j, h1, h2, e⟩ := hl k hk
  by_cases hki : k = i
  · subst hki
    rw [upd_same]
    refine ⟨j, ?_, h2, e⟩
    rcases Nat.lt_or_ge j q with hj | hj
    · have := hs.2.2.1 j h1 hj; omega
    · exact hj
  · rw [upd_other _ _ _ _ hki]
    exact ⟨j, h1, h2, e⟩

theorem Inv.le_upd {ls : List (List Int)} {p0 p : Nat → Nat} {goal : Int} {st i q : Nat} (h : Inv ls p0 goal st i p) (hs : Seek (ls.getD i []) (p i) goal q) : ∀ k, k < ls.length → p0 k ≤ upd p i q k ∧ upd p i q k ≤ (ls.getD k []).length := fun k hk => by
  by_cases hki : k = i
  · subst hki
    rw [upd_same]
    exact ⟨Nat.le_trans (h.le k hk).1 hs.1, hs.2.1⟩
  · rw [upd_other _ _ _ _ hki]
    exact h.le k hk

theorem back_mod {k s i n : Nat} (hn : i < n) (hk : k < n) (hs : 1 ≤ s) (h : (k + s) % n = (i + 1) % n) : (k + (s - 1)) % n = i := by
  obtain ⟨t, rfl⟩ : ∃ t, s = t + 1 := ⟨s - 1, by omega⟩
  have e : (k + t + 1) % n = (i + 1) % n := h
  show (k + t) % n = i
  rcases Nat.lt_or_ge (i + 1) n with h1 | h1
  · rw [Nat.mod_eq_of_lt h1] at e
    have e2 := Nat.add_mod (k + t) 1 n
    rcases Nat.lt_or_ge 1 n with h3 | h3
    · rw [Nat.mod_eq_of_lt h3] at e2
      have hlt := Nat.mod_lt (k + t) (show 0 < n by omega)
      rcases Nat.lt_or_ge ((k + t) % n + 1) n with h4 | h4
      · rw [Nat.mod_eq_of_lt h4] at e2; omega
      · rw [show (k + t) % n + 1 = n by omega, Nat.mod_self] at e2; omega
    · omega
  · have hin : i + 1 = n := by omega
    rw [hin, Nat.mod_self] at e
    have e2 := Nat.add_mod (k + t) 1 n
    rcases Nat.lt_or_ge 1 n with h3 | h3
    · rw [Nat.mod_eq_of_lt h3] at e2
      have hlt := Nat.mod_lt (k + t) (show 0 < n by omega)
      rcases Nat.lt_or_ge ((k + t) % n + 1) n with h4 | h4
      · rw [Nat.mod_eq_of_lt h4] at e2; omega
      · omega
    · have : n = 1 := by omega
      subst this
      omega

theorem Inv.same {ls : List (List Int)} {p0 p : Nat → Nat} {goal : Int} {st i q : Nat} (h : Inv ls p0 goal st i p) (hst : st < ls.length) (hs : Seek (ls.getD i []) (p i) goal q) (hq : q < (ls.getD i []).length) (he : (ls.getD i []).getD q 0 = goal) :
    Inv ls p0 goal (st + 1) ((i + 1) % ls.length) (upd p i q) where
  le := h.le_upd hs
  live y hy := ⟨(h.live y hy).1.seek (h.live y hy).2 hs, (h.live y hy).2⟩
  stand k hk := fun ⟨s, h1, h2, h3⟩ => by
    by_cases hki : k = i
    · subst hki
      rw [upd_same]
      exact ⟨hq, he⟩
    · rw [upd_other _ _ _ _ hki]
      have hb := back_mod h.lt hk h1 h3
      refine h.stand k hk ⟨s - 1, ?_, by omega, hb⟩
      rcases Nat.lt_or_ge 1 s with h4 | h4
      · omega
      · rw [show s - 1 = 0 by omega, Nat.add_zero, Nat.mod_eq_of_lt hk] at hb
        exact absurd hb hki
  lt := Nat.mod_lt _ (by have := h.lt; omega)
  st := hst

theorem Inv.more {ls : List (List Int)} {p0 p : Nat → Nat} {goal : Int} {st i q : Nat} (h : Inv ls p0 goal st i p) (ha : Asc (ls.getD i [])) (hs : Seek (ls.getD i []) (p i) goal q) (hq : q < (ls.getD i []).length) :
    Inv ls p0 ((ls.getD i []).getD q 0) 1 ((i + 1) % ls.length) (upd p i q) where
  le := h.le_upd hs
  live y hy := by
    have hl := (h.live y hy).1.seek (h.live y hy).2 hs
    refine ⟨hl, ?_⟩
    obtain ⟨j, h1, h2, e⟩ := hl i h.lt
    rw [upd_same] at h1
    rcases Nat.lt_or_ge q j with h3 | h3
    · have := ha q j h3 h2; omega
    · rw [show q = j by omega, e]; exact Int.le_refl _
  stand k hk := fun ⟨s, h1, h2, h3⟩ => by
    have hb := back_mod h.lt hk h1 h3
    rw [show s - 1 = 0 by omega, Nat.add_zero, Nat.mod_eq_of_lt hk] at hb
    subst hb
    rw [upd_same]
    exact ⟨hq, rfl⟩
  lt := Nat.mod_lt _ (by have := h.lt; omega)
  st := by have := h.lt; omega

theorem Inv.all {ls : List (List Int)} {p0 p : Nat → Nat} {goal : Int} {i : Nat} (h : Inv ls p0 goal ls.length i p) : ∀ k, k < ls.length → p k < (ls.getD k []).length ∧ (ls.getD k []).getD (p k) 0 = goal := fun k hk => by
  have hi := h.lt
  rcases Nat.lt_or_ge k i with h1 | h1
  · exact h.stand k hk ⟨i - k, by omega, by omega, by rw [show k + (i - k) = i by omega]; exact Nat.mod_eq_of_lt hi⟩
  · exact h.stand k hk ⟨ls.length - k + i, by omega, by omega, by rw [show k + (ls.length - k + i) = i + ls.length by omega, Nat.add_mod_right]; exact Nat.mod_eq_of_lt hi⟩

/-- what Intersect has gathered -/
structure Got (ls : List (List Int)) (p : Nat → Nat) (acc : List Int) : Prop where
  le : ∀ k, k < ls.length → p k ≤ (ls.getD k []).length
  acc : acc = ((ls.getD 0 []).take (p 0)).filter (inAll ls)
  live : ∀ j, p 0 ≤ j → j < (ls.getD 0 []).length → inAll ls ((ls.getD 0 []).getD j 0) = true → Live ls p ((ls.getD 0 []).getD j 0)

theorem inAll_mem {ls : List (List Int)} {x : Int} (h : inAll ls x = true) {i : Nat} (hi : i < ls.length) : x ∈ ls.getD i [] := by
  unfold inAll at h
  rw [List.all_eq_true] at h
  have := h _ (List.getElem_mem hi)
  rw [List.getD_eq_getElem?_getD, List.getElem?_eq_getElem hi]
  simpa using this

theorem mem_at {l : List Int} {x : Int} (h : x ∈ l) : ∃ j, j < l.length ∧ l.getD j 0 = x := by
  obtain ⟨j, hj, e⟩ := List.getElem_of_mem h
  exact ⟨j, hj, by rw [List.getD_eq_getElem?_getD, List.getElem?_eq_getElem hj]; exact e⟩

theorem at_mem {l : List Int} {j : Nat} (h : j < l.length) : l.getD j 0 ∈ l := by
  rw [List.getD_eq_getElem?_getD, List.getElem?_eq_getElem h]
  exact List.getElem_mem h

theorem inAll_of_live {ls : List (List Int)} {p : Nat → Nat} {y : Int} (h : Live ls p y) : inAll ls y = true := by
  unfold inAll
  rw [List.all_eq_true]
  intro l hl
  obtain ⟨i, hi, e⟩ := List.getElem_of_mem hl
  obtain ⟨j, _, h2, h3⟩ := h i hi
  rw [List.getD_eq_getElem?_getD (l := ls), List.getElem?_eq_getElem hi] at h2 h3
  simp only [Option.getD_some, e] at h2 h3
  rw [← h3]
  exact decide_eq_true (at_mem h2)

theorem Got.start (ls : List (List Int)) : Got ls (fun _ => 0) [] where
  le _ _ := Nat.zero_le _
  acc := by simp
  live j _ _ h := fun i hi => by
    obtain ⟨q, h1, h2⟩ := mem_at (inAll_mem h hi)
    exact ⟨q, Nat.zero_le _, h1, h2⟩

/-- what is filtered does not turn by places where nothing is common -/
theorem take_skip {l : List Int} {f : Int → Bool} {a b : Nat} (hab : a ≤ b) (h : ∀ j, a ≤ j → j < b → j < l.length → f (l.getD j 0) = false) : (l.take b).filter f = (l.take a).filter f := by
  obtain ⟨d, rfl⟩ : ∃ d, b = a + d := ⟨b - a, by omega⟩
  clear hab
  induction d with
  | zero => rfl
  | succ d ih =>
    rw [← Nat.add_assoc, List.take_add_one]
    rcases Nat.lt_or_ge (a + d) l.length with h1 | h1
    · have h2 := h (a + d) (by omega) (by omega) h1
      rw [List.getD_eq_getElem?_getD, List.getElem?_eq_getElem h1, Option.getD_some] at h2
      rw [List.getElem?_eq_getElem h1, List.filter_append]
      simp only [Option.toList_some, List.filter_cons, h2, List.filter_nil]
      rw [if_neg (by decide), List.append_nil]
      exact ih (fun j h3 h4 h5 => h j h3 (by omega) h5)
    · rw [List.getElem?_eq_none h1]
      simp only [Option.toList_none, List.append_nil]
      exact ih (fun j h3 h4 h5 => h j h3 (by omega) h5)

theorem Got.done {ls : List (List Int)} {p : Nat → Nat} {acc : List Int} (h : Got ls p acc) (hn : 0 < ls.length) (hno : ∀ y, ¬ Live ls p y) : acc = (ls.getD 0 []).filter (inAll ls) := by
  rw [h.acc]
  have := take_skip (l := ls.getD 0 []) (f := inAll ls) (a := p 0) (b := (ls.getD 0 []).length) (h.le 0 hn) (fun j h1 _ h3 => by
    cases hb : inAll ls ((ls.getD 0 []).getD j 0)
    · rfl
    · exact absurd (h.live j h1 h3 hb) (hno _))
  rw [List.take_length] at this
  exact this.symm

theorem Got.step {ls : List (List Int)} {p p' : Nat → Nat} {acc : List Int} {goal : Int} {i : Nat} (h : Got ls p acc) (hn : 0 < ls.length) (ha : Asc (ls.getD 0 [])) (hi : Inv ls p goal ls.length i p') :
    Got ls (upd p' 0 (p' 0 + 1)) (acc ++ [goal]) := by
  obtain ⟨h1, h2⟩ := hi.all 0 hn
  have hlive : Live ls p' goal := fun k hk => ⟨p' k, Nat.le_refl _, (hi.all k hk).1, (hi.all k hk).2⟩
  refine ⟨fun k hk => ?_, ?_, fun j hj hjl hin => ?_⟩
  · by_cases hk0 : k = 0
    · subst hk0; rw [upd_same]; omega
    · rw [upd_other _ _ _ _ hk0]; exact (hi.le k hk).2
  · rw [upd_same, List.take_add_one, List.getElem?_eq_getElem h1, List.filter_append, h.acc]
    have hs := take_skip (l := ls.getD 0 []) (f := inAll ls) (a := p 0) (b := p' 0) (hi.le 0 hn).1 (fun j h3 h4 h5 => by
      cases hb : inAll ls ((ls.getD 0 []).getD j 0)
      · rfl
      · have hl := h.live j h3 h5 hb
        have hg := (hi.live _ hl).2
        have := ha j (p' 0) h4 h1
        omega)
    rw [hs]
    have e : (ls.getD 0 [])[p' 0] = goal := by
      rw [List.getD_eq_getElem?_getD (l := ls.getD 0 []), List.getElem?_eq_getElem h1] at h2
      exact h2
    simp only [Option.toList_some, e, List.filter_cons, inAll_of_live hlive, if_true, List.filter_nil]
  · rw [upd_same] at hj
    have hl := (hi.live _ (h.live j (by have := (hi.le 0 hn).1; omega) hjl hin)).1
    intro k hk
    by_cases hk0 : k = 0
    · subst hk0; rw [upd_same]; exact ⟨j, hj, hjl, rfl⟩
    · rw [upd_other _ _ _ _ hk0]; exact hl k hk

end Go.Proofs.YtnbbbbfamlmfpaaGreat.Meet

/-
  Joins: prefixes one length after another, and each ahead of those that it begins. Plain mathematics.
-/
namespace Go.Proofs.YtnbbbbfamlmfpaaGreat

/-- the prefixes that begin with p and have j values more -/
def lvlF (nxt : List Int → List Int) (p : List Int) : Nat → List (List Int)
  | 0 => [p]
  | j + 1 => (lvlF nxt p j).flatMap fun q => (nxt q).map fun v => q ++ [v]
/-- p, and all that begin with it, with up to m values more: each ahead of those that it begins -/
def dfsF (nxt : List Int → List Int) : Nat → List Int → List (List Int)
  | 0, p => [p]
  | m + 1, p => p :: (nxt p).flatMap fun v => dfsF nxt m (p ++ [v])
theorem flatMap_flatMap' {α β γ : Type} (l : List α) (f : α → List β) (g : β → List γ) : (l.flatMap f).flatMap g = l.flatMap fun a => (f a).flatMap g := by
  induction l with
  | nil => rfl
  | cons a l ih => rw [List.flatMap_cons, List.flatMap_append, ih, List.flatMap_cons]
theorem lvlF_step (nxt : List Int → List Int) (p : List Int) : ∀ j, lvlF nxt p (j + 1) = (nxt p).flatMap fun v => lvlF nxt (p ++ [v]) j
  | 0 => by
    show ([p].flatMap fun q => (nxt q).map fun v => q ++ [v]) = (nxt p).flatMap fun v => [p ++ [v]]
    rw [List.flatMap_singleton]
    induction nxt p with
    | nil => rfl
    | cons a l ih => rw [List.map_cons, List.flatMap_cons, ih]; rfl
  | j + 1 => by
    show (lvlF nxt p (j + 1)).flatMap _ = _
    rw [lvlF_step nxt p j, flatMap_flatMap']
    rfl
theorem lvlF_len (nxt : List Int → List Int) (p : List Int) : ∀ j, ∀ q ∈ lvlF nxt p j, q.length = p.length + j
  | 0, q, h => by simp [lvlF] at h; rw [h]; rfl
  | j + 1, q, h => by
    simp only [lvlF, List.mem_flatMap, List.mem_map] at h
    obtain ⟨r, hr, v, -, rfl⟩ := h
    rw [List.length_append, lvlF_len nxt p j r hr]
    rfl
theorem filter_flatMap' {α β : Type} (l : List α) (f : α → List β) (q : β → Bool) : (l.flatMap f).filter q = l.flatMap fun a => (f a).filter q := by
  induction l with
  | nil => rfl
  | cons a l ih => rw [List.flatMap_cons, List.filter_append, ih, List.flatMap_cons]
theorem dfsF_long (nxt : List Int → List Int) : ∀ (m : Nat) (p q : List Int), q ∈ dfsF nxt m p → p.length ≤ q.length ∧ q.length ≤ p.length + m
  | 0, p, q, h => by simp [dfsF] at h; rw [h]; omega
  | m + 1, p, q, h => by
    simp only [dfsF, List.mem_cons, List.mem_flatMap] at h
    rcases h with rfl | ⟨v, -, hq⟩
    · omega
    · have := dfsF_long nxt m (p ++ [v]) q hq
      rw [List.length_append, List.length_singleton] at this
      omega
/-- what has one length, in its order -/
theorem dfsF_lvl (nxt : List Int → List Int) : ∀ (m : Nat) (p : List Int) (j : Nat), j ≤ m → (dfsF nxt m p).filter (fun q => decide (q.length = p.length + j)) = lvlF nxt p j
  | 0, p, j, hj => by
    obtain rfl : j = 0 := by omega
    simp [dfsF, lvlF]
  | m + 1, p, 0, _ => by
    show ((p :: (nxt p).flatMap fun v => dfsF nxt m (p ++ [v])).filter _) = [p]
    rw [List.filter_cons, if_pos (by simp), filter_flatMap']
    have h : ∀ l : List Int, (l.flatMap fun v => (dfsF nxt m (p ++ [v])).filter fun q => decide (q.length = p.length + 0)) = [] := fun l => by
      rw [List.flatMap_eq_nil_iff]
      intro v _
      rw [List.filter_eq_nil_iff]
      intro q hq
      have := (dfsF_long nxt m (p ++ [v]) q hq).1
      rw [List.length_append, List.length_singleton] at this
      simp only [decide_eq_true_eq]
      omega
    rw [h]
  | m + 1, p, j + 1, hj => by
    show ((p :: (nxt p).flatMap fun v => dfsF nxt m (p ++ [v])).filter _) = _
    rw [List.filter_cons, if_neg (by simp), filter_flatMap', lvlF_step]
    congr 1
    funext v
    have := dfsF_lvl nxt m (p ++ [v]) j (by omega)
    rw [List.length_append, List.length_singleton] at this
    rw [← this]
    congr 1
    funext q
    congr 1
    rw [eq_iff_iff]
    omega
/-- how many have a length -/
def cntL (ps : List (List Int)) (n : Nat) : Nat := (ps.filter fun q => decide (q.length = n)).length
theorem cntL_snoc (ps : List (List Int)) (p : List Int) (n : Nat) : cntL (ps ++ [p]) n = cntL ps n + if p.length = n then 1 else 0 := by
  unfold cntL
  rw [List.filter_append, List.length_append]
  by_cases h : p.length = n <;> simp [h]
theorem cntL_le (ps qs : List (List Int)) (n : Nat) : cntL ps n ≤ cntL (ps ++ qs) n := by
  unfold cntL
  rw [List.filter_append, List.length_append]
  omega
/-- how many there are but the empty one -/
theorem visits_sum (ps : List (List Int)) : ∀ k, (∀ q ∈ ps, q.length ≤ k) → (ps.filter fun q => decide (0 < q.length)).length = ((List.range k).map fun j => cntL ps (j + 1)).sum := by
  induction ps with
  | nil =>
    intro k _
    have h : ∀ k : Nat, ((List.range k).map fun j => cntL [] (j + 1)).sum = 0 := fun k => by
      induction k with
      | zero => rfl
      | succ k ih => rw [List.range_succ, List.map_append, List.sum_append, ih]; rfl
    rw [h]
    rfl
  | cons p ps ih =>
    intro k h
    have h1 := ih k fun q hq => h q (List.mem_cons_of_mem _ hq)
    have hp := h p List.mem_cons_self
    have hc : ∀ n, cntL (p :: ps) n = cntL ps n + if p.length = n then 1 else 0 := fun n => by
      unfold cntL
      rw [List.filter_cons]
      by_cases e : p.length = n <;> simp [e]
    have hs : ∀ k, p.length ≤ k → ((List.range k).map fun j => cntL (p :: ps) (j + 1)).sum = ((List.range k).map fun j => cntL ps (j + 1)).sum + if 0 < p.length then 1 else 0 := fun k => by
      induction k with
      | zero =>
        intro h0
        have h8 : p.length = 0 := by omega
        rw [h8]
        rfl
      | succ k ihk =>
        intro hk
        rw [List.range_succ, List.map_append, List.sum_append, List.map_append, List.sum_append]
        simp only [List.map_cons, List.map_nil, List.sum_cons, List.sum_nil, Nat.add_zero]
        rw [hc]
        by_cases e : p.length = k + 1
        · have h9 : ((List.range k).map fun j => cntL (p :: ps) (j + 1)) = (List.range k).map fun j => cntL ps (j + 1) := List.map_congr_left fun j hj => by
            rw [hc, if_neg (by have := List.mem_range.1 hj; omega)]; rfl
          rw [h9, if_pos e, if_pos (by omega)]
          omega
        · rw [ihk (by omega), if_neg e]
          omega
    rw [hs k hp, ← h1, List.filter_cons]
    by_cases e : 0 < p.length
    · rw [if_pos (by simpa using e), if_pos e, List.length_cons]
    · rw [if_neg (by simpa using e), if_neg e]; rfl

end Go.Proofs.YtnbbbbfamlmfpaaGreat
