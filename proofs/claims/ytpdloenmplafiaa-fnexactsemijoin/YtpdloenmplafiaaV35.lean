import Derived.Test.YtpdloenmplafiaaV16
/-
  Tries of rows: the nodes are the prefixes; what comes next, ascending.
-/
namespace Go.Proofs.Ytpdloenmplafiaa

theorem pre_at {p s : List Int} {y : Int} (h : p ++ [y] <+: s) : p.length < s.length ∧ (∀ i, i < p.length → s.getD i 0 = p.getD i 0) ∧ s.getD p.length 0 = y := by
  obtain ⟨t, rfl⟩ := h
  refine ⟨by simp, fun i hi => ?_, ?_⟩
  · rw [List.getD_eq_getElem?_getD, List.getD_eq_getElem?_getD, List.append_assoc, List.getElem?_append_left hi]
  · rw [List.getD_eq_getElem?_getD, List.append_assoc, List.getElem?_append_right (Nat.le_refl _), Nat.sub_self]; rfl

theorem pre_le {p s r : List Int} {y x : Int} (h1 : p ++ [y] <+: s) (h2 : p ++ [x] <+: r) (h : cmpL s r < 0) : y ≤ x := by
  obtain ⟨a1, a2, a3⟩ := pre_at h1
  obtain ⟨b1, b2, b3⟩ := pre_at h2
  rcases Int.lt_or_le x y with h3 | h3
  · have := cmpL_gt (a := s) (b := r) a1 b1 (fun i hi => by rw [a2 i hi, b2 i hi]) (by rw [a3, b3]; exact h3)
    omega
  · exact h3

theorem pre_snoc {p l : List Int} {a : Int} : p <+: l ++ [a] ↔ p = l ++ [a] ∨ p <+: l := by
  rw [List.prefix_concat_iff]

theorem take_snoc {r : List Int} {i : Nat} (h : i < r.length) : r.take (i + 1) = r.take i ++ [r.getD i 0] := by
  rw [List.take_add_one, List.getElem?_eq_getElem h, List.getD_eq_getElem?_getD, List.getElem?_eq_getElem h]; rfl

theorem snoc_inj {p q : List Int} {x y : Int} (h : p ++ [x] = q ++ [y]) : p = q ∧ x = y := by
  have := List.append_inj' h rfl
  exact ⟨this.1, by simpa using this.2⟩

/-- what a trie of rows is -/
structure TM (rs : List (List Int)) (D : List Int → Prop) (N : List Int → List Int) : Prop where
  dom : ∀ p, D p ↔ p = [] ∨ ∃ r ∈ rs, p <+: r
  mem : ∀ p, D p → ∀ x, x ∈ N p ↔ D (p ++ [x])
  asc : ∀ p, D p → (N p).Pairwise (· < ·)

theorem TM.none : TM [] (fun p => p = []) (fun _ => []) :=
  ⟨fun p => by simp, fun p _ x => by simp, fun p _ => List.Pairwise.nil⟩

theorem TM.pre {rs : List (List Int)} {D : List Int → Prop} {N : List Int → List Int} (h : TM rs D N) {p q : List Int} (hq : D q) (hp : p <+: q) : D p := by
  rw [h.dom] at hq ⊢
  rcases hq with rfl | ⟨r, hr, hr'⟩
  · exact Or.inl (List.prefix_nil.1 hp)
  · exact Or.inr ⟨r, hr, hp.trans hr'⟩

theorem TM.root {rs : List (List Int)} {D : List Int → Prop} {N : List Int → List Int} (h : TM rs D N) : D [] := (h.dom []).2 (Or.inl rfl)

section
variable {rs : List (List Int)} {r : List Int} {i : Nat} {D : List Int → Prop} {N : List Int → List Int}

/-- a row's first values add nothing -/
theorem TM.begin (h : TM rs D N) : TM (rs ++ [r.take 0]) D N :=
  ⟨fun p => by
    rw [h.dom]
    constructor
    · rintro (h1 | ⟨s, hs, h1⟩)
      · exact Or.inl h1
      · exact Or.inr ⟨s, List.mem_append_left _ hs, h1⟩
    · rintro (h1 | ⟨s, hs, h1⟩)
      · exact Or.inl h1
      · rcases List.mem_append.1 hs with h2 | h2
        · exact Or.inr ⟨s, h2, h1⟩
        · simp at h2
          subst h2
          exact Or.inl (List.prefix_nil.1 h1), h.mem, h.asc⟩

theorem TM.here (h : TM (rs ++ [r.take i]) D N) : D (r.take i) := (h.dom _).2 (Or.inr ⟨r.take i, by simp, List.prefix_refl _⟩)

/-- what comes next there is no greater -/
theorem TM.le (h : TM (rs ++ [r.take i]) D N) (hi : i < r.length) (hs : ∀ s ∈ rs, cmpL s r < 0) : ∀ y ∈ N (r.take i), y ≤ r.getD i 0 := fun y hy => by
  rw [h.mem _ h.here, h.dom] at hy
  rcases hy with h1 | ⟨s, hs', h1⟩
  · simp at h1
  · rcases List.mem_append.1 hs' with h2 | h2
    · refine pre_le h1 (r := r) ?_ (hs s h2)
      rw [← take_snoc hi]
      exact List.take_prefix _ _
    · simp at h2
      subst h2
      have := h1.length_le
      simp at this
      omega

theorem dom_step (h : TM (rs ++ [r.take i]) D N) (hi : i < r.length) (p : List Int) : (p = [] ∨ ∃ s ∈ rs ++ [r.take (i + 1)], p <+: s) ↔ D p ∨ p = r.take i ++ [r.getD i 0] := by
  rw [h.dom]
  constructor
  · rintro (h1 | ⟨s, hs, h1⟩)
    · exact Or.inl (Or.inl h1)
    · rcases List.mem_append.1 hs with h2 | h2
      · exact Or.inl (Or.inr ⟨s, List.mem_append_left _ h2, h1⟩)
      · simp only [List.mem_singleton] at h2
        subst h2
        rw [take_snoc hi, pre_snoc] at h1
        rcases h1 with h1 | h1
        · exact Or.inr h1
        · exact Or.inl (Or.inr ⟨_, List.mem_append_right _ (List.mem_singleton.2 rfl), h1⟩)
  · rintro ((h1 | ⟨s, hs, h1⟩) | h1)
    · exact Or.inl h1
    · rcases List.mem_append.1 hs with h2 | h2
      · exact Or.inr ⟨s, List.mem_append_left _ h2, h1⟩
      · simp only [List.mem_singleton] at h2
        subst h2
        refine Or.inr ⟨r.take (i + 1), List.mem_append_right _ (List.mem_singleton.2 rfl), ?_⟩
        rw [take_snoc hi, pre_snoc]
        exact Or.inr h1
    · refine Or.inr ⟨r.take (i + 1), List.mem_append_right _ (List.mem_singleton.2 rfl), ?_⟩
      rw [take_snoc hi, h1]
      exact List.prefix_refl _

theorem TM.hit (h : TM (rs ++ [r.take i]) D N) (hi : i < r.length) (hx : r.getD i 0 ∈ N (r.take i)) : TM (rs ++ [r.take (i + 1)]) D N :=
  ⟨fun p => by
    rw [dom_step h hi]
    constructor
    · exact Or.inl
    · rintro (h1 | h1)
      · exact h1
      · rw [h1]; exact (h.mem _ h.here _).1 hx, h.mem, h.asc⟩

def addD (D : List Int → Prop) (q : List Int) : List Int → Prop := fun p => D p ∨ p = q
def addN (N : List Int → List Int) (p : List Int) (x : Int) : List Int → List Int := fun q => if q = p then N p ++ [x] else if q = p ++ [x] then [] else N q
theorem snoc_ne (p : List Int) (x : Int) : p ++ [x] ≠ p := fun e => by have := congrArg List.length e; simp at this

theorem TM.miss (h : TM (rs ++ [r.take i]) D N) (hi : i < r.length) (hs : ∀ s ∈ rs, cmpL s r < 0) (hx : r.getD i 0 ∉ N (r.take i)) :
    TM (rs ++ [r.take (i + 1)]) (addD D (r.take i ++ [r.getD i 0])) (addN N (r.take i) (r.getD i 0)) := by
  have hle := h.le hi hs
  have hh := h.here
  have hno : ¬ D (r.take i ++ [r.getD i 0]) := fun hd => hx ((h.mem _ hh _).2 hd)
  have hdom := dom_step h hi
  generalize r.take (i + 1) = r1 at *
  generalize r.take i = p0 at *
  generalize r.getD i 0 = x at *
  refine ⟨fun p => (hdom p).symm, fun q hq y => ?_, fun q hq => ?_⟩
  · unfold addN addD
    by_cases e1 : q = p0
    · subst e1
      rw [if_pos rfl, List.mem_append, List.mem_singleton, h.mem _ hh]
      constructor
      · rintro (h1 | h1)
        · exact Or.inl h1
        · exact Or.inr (by rw [h1])
      · rintro (h1 | h1)
        · exact Or.inl h1
        · exact Or.inr (snoc_inj h1).2
    · rw [if_neg e1]
      by_cases e2 : q = p0 ++ [x]
      · subst e2
        rw [if_pos rfl]
        constructor
        · intro h1; cases h1
        · rintro (h1 | h1)
          · exact absurd (h.pre h1 (List.prefix_append _ _)) hno
          · exact absurd h1 (snoc_ne _ _)
      · rw [if_neg e2, h.mem _ (hq.resolve_right e2)]
        constructor
        · exact Or.inl
        · rintro (h1 | h1)
          · exact h1
          · exact absurd (snoc_inj h1).1 e1
  · unfold addN
    by_cases e1 : q = p0
    · subst e1
      rw [if_pos rfl, List.pairwise_append]
      refine ⟨h.asc _ hh, List.pairwise_singleton _ _, fun y hy z hz => ?_⟩
      rw [List.mem_singleton] at hz
      subst hz
      have := hle y hy
      rcases Int.lt_or_eq_of_le this with h1 | h1
      · exact h1
      · subst h1; exact absurd hy hx
    · rw [if_neg e1]
      by_cases e2 : q = p0 ++ [x]
      · rw [if_pos e2]; exact List.Pairwise.nil
      · rw [if_neg e2]; exact h.asc _ (hq.resolve_right e2)

theorem TM.done (h : TM (rs ++ [r.take r.length]) D N) : TM (rs ++ [r]) D N := by rw [List.take_length] at h; exact h
end

/-- the greatest is the last -/
theorem last_of {l : List Int} {x : Int} (ha : l.Pairwise (· < ·)) (hm : x ∈ l) (hle : ∀ y ∈ l, y ≤ x) : 0 < l.length ∧ l.getD (l.length - 1) 0 = x := by
  have h0 : 0 < l.length := List.length_pos_of_mem hm
  refine ⟨h0, ?_⟩
  obtain ⟨j, hj, e⟩ := List.getElem_of_mem hm
  have hl : l.getD (l.length - 1) 0 = l[l.length - 1]'(by omega) := by rw [List.getD_eq_getElem?_getD, List.getElem?_eq_getElem (by omega)]; rfl
  have h1 := hle _ (List.getElem_mem (h := (by omega : l.length - 1 < l.length)))
  rw [hl]
  by_cases e2 : j = l.length - 1
  · subst e2; exact e
  · have := List.pairwise_iff_getElem.1 ha j (l.length - 1) hj (by omega) (by omega)
    omega
theorem last_not {l : List Int} {x : Int} (hm : x ∉ l) (h0 : 0 < l.length) : l.getD (l.length - 1) 0 ≠ x := fun e => hm (by
  rw [← e, List.getD_eq_getElem?_getD, List.getElem?_eq_getElem (by omega)]; exact List.getElem_mem _)

/-- a whole row -/
theorem TM.row {rs : List (List Int)} {D : List Int → Prop} {N : List Int → List Int} (h : TM rs D N) {L : Nat} (hl : ∀ r ∈ rs, r.length = L) (hn : rs ≠ []) {q : List Int} (hq : q.length = L) : D q ↔ q ∈ rs := by
  rw [h.dom]
  constructor
  · rintro (h1 | ⟨r, hr, h1⟩)
    · subst h1
      cases rs with
      | nil => exact absurd rfl hn
      | cons a rs =>
        have := hl a (List.mem_cons_self ..)
        rw [List.length_nil] at hq
        have : a = [] := List.length_eq_zero_iff.1 (by omega)
        rw [this]; exact List.mem_cons_self ..
    · have := h1.eq_of_length (by rw [hq, hl r hr])
      rw [this]; exact hr
  · intro h1
    exact Or.inr ⟨q, h1, List.prefix_refl _⟩
theorem TM.more {rs : List (List Int)} {D : List Int → Prop} {N : List Int → List Int} (h : TM rs D N) {L : Nat} (hl : ∀ r ∈ rs, r.length = L) (hn : rs ≠ []) {q : List Int} (hq : q.length < L) (hd : D q) : 0 < (N q).length := by
  have key : ∃ r ∈ rs, q <+: r := by
    rcases (h.dom q).1 hd with h1 | h1
    · subst h1
      cases rs with
      | nil => exact absurd rfl hn
      | cons a rs => exact ⟨a, List.mem_cons_self .., List.nil_prefix⟩
    · exact h1
  obtain ⟨r, hr, t, rfl⟩ := key
  have h2 := hl _ hr
  rw [List.length_append] at h2
  cases t with
  | nil => simp at h2; omega
  | cons x t => exact List.length_pos_of_mem ((h.mem q hd x).2 ((h.dom _).2 (Or.inr ⟨_, hr, by rw [show q ++ x :: t = (q ++ [x]) ++ t by simp]; exact List.prefix_append _ _⟩)))

end Go.Proofs.Ytpdloenmplafiaa
