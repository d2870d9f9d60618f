/-
  Plain mathematics: a graph whose points are eliminated one by one, and what is reached through eliminated points alone.
-/
namespace Go.Proofs.Ytnmcgbfhgmmcpaa.Elim

/-- reached from a, through points of E alone -/
def Rc (A : Nat → Nat → Bool) (E : Nat → Prop) (a b : Nat) : Prop := ∀ R : Nat → Nat → Prop, (∀ a b, A a b = true → R a b) → (∀ a c b, R a c → E c → A c b = true → R a b) → R a b

variable {A : Nat → Nat → Bool} {E E' : Nat → Prop}

theorem Rc.one {a b : Nat} (h : A a b = true) : Rc A E a b := fun _ k _ => k _ _ h
theorem Rc.more {a c b : Nat} (h : Rc A E a c) (hE : E c) (h2 : A c b = true) : Rc A E a b := fun R k1 k2 => k2 _ _ _ (h R k1 k2) hE h2
theorem Rc.ind {M : Nat → Nat → Prop} (k1 : ∀ a b, A a b = true → M a b) (k2 : ∀ a c b, M a c → E c → A c b = true → M a b) {a b : Nat} (r : Rc A E a b) : M a b := r M k1 k2

theorem Rc.mono (h : ∀ x, E x → E' x) {a b : Nat} (r : Rc A E a b) : Rc A E' a b :=
  r.ind (M := fun a b => Rc A E' a b) (fun _ _ h1 => .one h1) fun _ _ _ ih hE h2 => .more ih (h _ hE) h2

theorem Rc.trans {a c b : Nat} (r : Rc A E a c) (hc : E c) (s : Rc A E c b) : Rc A E a b :=
  s.ind (M := fun c' b => c' = c → Rc A E a b) (fun _ _ h1 e => .more r hc (e ▸ h1)) (fun _ _ _ ih hE h2 e => .more (ih e) hE h2) rfl

theorem Rc.symm (hA : ∀ a b, A a b = A b a) {a b : Nat} (r : Rc A E a b) : Rc A E b a :=
  r.ind (M := fun a b => Rc A E b a) (fun _ _ h1 => .one (by rw [hA]; exact h1)) fun _ _ _ ih hE h2 => (Rc.one (by rw [hA]; exact h2)).trans hE ih

theorem Rc.add {v a b : Nat} (r : Rc A (fun x => E x ∨ x = v) a b) : Rc A E a b ∨ (Rc A E a v ∧ Rc A E v b) := by
  refine r.ind (M := fun a b => Rc A E a b ∨ (Rc A E a v ∧ Rc A E v b)) (fun _ _ h1 => Or.inl (.one h1)) fun a c b ih hE h2 => ?_
  rcases hE with hE | rfl
  · rcases ih with h | ⟨h3, h4⟩
    · exact Or.inl (.more h hE h2)
    · exact Or.inr ⟨h3, .more h4 hE h2⟩
  · rcases ih with h | ⟨h3, -⟩
    · exact Or.inr ⟨h, .one h2⟩
    · exact Or.inr ⟨h3, .one h2⟩

theorem Rc.of_add {v a b : Nat} (r : Rc A E a b ∨ (Rc A E a v ∧ Rc A E v b)) : Rc A (fun x => E x ∨ x = v) a b := by
  rcases r with h | ⟨h1, h2⟩
  · exact h.mono (fun _ => Or.inl)
  · exact (h1.mono (fun _ => Or.inl)).trans (Or.inr rfl) (h2.mono (fun _ => Or.inl))

/-- a point is eliminated -/
def elimG (v : Nat) (g : Nat → Nat → Bool) (a b : Nat) : Bool := (b != v) && (g a b || (g v a && g v b))
/-- the graph when the first i points of the order are eliminated -/
def gAt (A : Nat → Nat → Bool) (o : Nat → Nat) : Nat → Nat → Nat → Bool
  | 0 => A
  | i + 1 => elimG (o i) (gAt A o i)

theorem gAt_col {o : Nat → Nat} : ∀ {i : Nat} {a b : Nat}, (∃ j, j < i ∧ o j = b) → gAt A o i a b = false
  | 0, _, _, ⟨j, hj, _⟩ => by omega
  | i + 1, a, b, ⟨j, hj, e⟩ => by
    show ((b != o i) && _) = false
    by_cases h : j = i
    · subst h; subst e; simp
    · have h1 : gAt A o i a b = false := gAt_col ⟨j, by omega, e⟩
      have h2 : gAt A o i (o i) b = false := gAt_col ⟨j, by omega, e⟩
      simp [h1, h2]

theorem gAt_iff (hA : ∀ a b, A a b = A b a) {o : Nat → Nat} : ∀ {i : Nat} {a b : Nat}, (∀ j, j < i → o j ≠ a) → (∀ j, j < i → o j ≠ b) → (∀ j k, j < k → k < i → o j ≠ o k) →
    (gAt A o i a b = true ↔ Rc A (fun x => ∃ j, j < i ∧ o j = x) a b)
  | 0, a, b, _, _, _ => by
    constructor
    · intro h; exact .one h
    · intro h
      exact h.ind (M := fun a b => A a b = true) (fun _ _ h => h) fun _ _ _ _ hE _ => by obtain ⟨j, hj, _⟩ := hE; omega
  | i + 1, a, b, ha, hb, ho => by
    have i1 := gAt_iff hA (o := o) (i := i) (a := a) (b := b) (fun j hj => ha j (by omega)) (fun j hj => hb j (by omega)) (fun j k h1 h2 => ho j k h1 (by omega))
    have i2 := gAt_iff hA (o := o) (i := i) (a := o i) (b := a) (fun j hj => ho j i hj (by omega)) (fun j hj => ha j (by omega)) (fun j k h1 h2 => ho j k h1 (by omega))
    have i3 := gAt_iff hA (o := o) (i := i) (a := o i) (b := b) (fun j hj => ho j i hj (by omega)) (fun j hj => hb j (by omega)) (fun j k h1 h2 => ho j k h1 (by omega))
    have e : (fun x => ∃ j, j < i + 1 ∧ o j = x) = fun x => (∃ j, j < i ∧ o j = x) ∨ x = o i := by
      funext x
      apply propext
      constructor
      · rintro ⟨j, hj, e⟩
        by_cases h : j = i
        · subst h; exact Or.inr e.symm
        · exact Or.inl ⟨j, by omega, e⟩
      · rintro (⟨j, hj, e⟩ | h)
        · exact ⟨j, by omega, e⟩
        · exact ⟨i, by omega, h.symm⟩
    rw [e]
    have hbv : b ≠ o i := fun h => hb i (by omega) h.symm
    show ((b != o i) && (gAt A o i a b || (gAt A o i (o i) a && gAt A o i (o i) b))) = true ↔ _
    rw [show (b != o i) = true by simpa using hbv, Bool.true_and, Bool.or_eq_true, Bool.and_eq_true, i1, i2, i3]
    constructor
    · rintro (h | ⟨h1, h2⟩)
      · exact Rc.of_add (Or.inl h)
      · exact Rc.of_add (Or.inr ⟨h1.symm hA, h2⟩)
    · intro h
      rcases h.add with h | ⟨h1, h2⟩
      · exact Or.inl h
      · exact Or.inr ⟨h1.symm hA, h2⟩

/-- a bag's points: what the graph gives is what is reached through earlier ones alone -/
theorem bag_iff (hA : ∀ a b, A a b = A b a) {o : Nat → Nat} {i b : Nat} (ho : ∀ j k, j < k → k < i + 1 → o j ≠ o k) (hs : A (o i) (o i) = true) :
    gAt A o i (o i) b = true ↔ (∀ j, j < i → o j ≠ b) ∧ (b = o i ∨ Rc A (fun x => ∃ j, j < i + 1 ∧ o j = x) (o i) b) := by
  have e : (fun x => ∃ j, j < i + 1 ∧ o j = x) = fun x => (∃ j, j < i ∧ o j = x) ∨ x = o i := by
    funext x
    apply propext
    constructor
    · rintro ⟨j, hj, e⟩
      by_cases h : j = i
      · subst h; exact Or.inr e.symm
      · exact Or.inl ⟨j, by omega, e⟩
    · rintro (⟨j, hj, e⟩ | h)
      · exact ⟨j, by omega, e⟩
      · exact ⟨i, by omega, h.symm⟩
  rw [e]
  by_cases hb : ∀ j, j < i → o j ≠ b
  · rw [gAt_iff hA (fun j hj => ho j i hj (by omega)) hb (fun j k h1 h2 => ho j k h1 (by omega))]
    constructor
    · intro h; exact ⟨hb, Or.inr (Rc.of_add (Or.inl h))⟩
    · rintro ⟨-, rfl | h⟩
      · exact .one hs
      · rcases h.add with h | ⟨-, h⟩
        · exact h
        · exact h
  · constructor
    · intro h
      have : ∃ j, j < i ∧ o j = b := by
        refine Classical.byContradiction fun hn => hb fun j hj e => hn ⟨j, hj, e⟩
      rw [gAt_col this] at h; cases h
    · rintro ⟨h, -⟩; exact absurd h hb

end Go.Proofs.Ytnmcgbfhgmmcpaa.Elim
