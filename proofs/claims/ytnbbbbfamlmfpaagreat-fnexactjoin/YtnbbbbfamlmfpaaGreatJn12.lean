import Derived.Test.YtnbbbbfamlmfpaaGreatJn00
import Derived.Test.YtnbbbbfamlmfpaaGreatJn05
import Derived.Test.YtnbbbbfamlmfpaaGreatJn07
/-
  Tries of rows: the nodes are the prefixes; what comes next, ascending.
-/
namespace Go.Proofs.YtnbbbbfamlmfpaaGreat

theorem pre_at {p s : List Int} {y : Int} (h : p ++ [y] <+: s) : p.length < s.length ∧ (∀ i, i < p.length → s.getD i 0 = p.getD i 0) ∧ s.getD p.length 0 = y := by
  obtain ⟨t, rfl⟩ := h
  refine ⟨by simp, fun i hi => ?_, ?_⟩
  · rw [List.getD_eq_getElem?_getD, List.getD_eq_getElem?_getD, List.append_assoc, List.getElem?_append_left hi]
  · rw [List.getD_eq_getElem?_getD, List.append_assoc, List.getElem?_append_right (Nat.le_refl _), Nat.sub_self]; rfl

theorem pre_le {p s r : List Int} {y x : Int} (h1 : p ++ [y] <+: s) (h2 : p ++ [x] <+: r) (h : cmpL s r < 0) : y ≤ x := by
  obtain ⟨a1, a2, a3⟩ := pre_at h1
  obtain ⟨b1, b2, b3⟩ := pre_at h2
  rcases Int.lt_or_le x y with h3 | h3
  · have := cmpL_gt (a := s) (b := r) a1 b1 (fun i hi => by rw [a2 i hi, b2 i hi]) (by rw [a3, b3]; exact h3)
    omega
  · exact h3

theorem pre_snoc {p l : List Int} {a : Int} : p <+: l ++ [a] ↔ p = l ++ [a] ∨ p <+: l := by
  rw [List.prefix_concat_iff]

theorem take_snoc {r : List Int} {i : Nat} (h : i < r.length) : r.take (i + 1) = r.take i ++ [r.getD i 0] := by
  rw [List.take_add_one, List.getElem?_eq_getElem h, List.getD_eq_getElem?_getD, List.getElem?_eq_getElem h]; rfl

theorem snoc_inj {p q : List Int} {x y : Int} (h : p ++ [x] = q ++ [y]) : p = q ∧ x = y := by
  have := List.append_inj' h rfl
  exact ⟨this.1, by simpa using this.2⟩

/-- what a trie of rows is -/
structure TM (rs : List (List Int)) (D : List Int → Prop) (N : List Int → List Int) : Prop where
  dom : ∀ p, D p ↔ p = [] ∨ ∃ r ∈ rs, p <+: r
  mem : ∀ p, D p → ∀ x, x ∈ N p ↔ D (p ++ [x])
  asc : ∀ p, D p → (N p).Pairwise (· < ·)

theorem TM.none : TM [] (fun p => p = []) (fun _ => []) :=
  ⟨fun p => by simp, fun p _ x => by simp, fun p _ => List.Pairwise.nil⟩

theorem TM.pre {rs : List (List Int)} {D : List Int → Prop} {N : List Int → List Int} (h : TM rs D N) {p q : List Int} (hq : D q) (hp : p <+: q) : D p := by
  rw [h.dom] at hq ⊢
  rcases hq with rfl | ⟨r, hr, hr'⟩
  · exact Or.inl (List.prefix_nil.1 hp)
  · exact Or.inr ⟨r, hr, hp.trans hr'⟩

theorem TM.root {rs : List (List Int)} {D : List Int → Prop} {N : List Int → List Int} (h : TM rs D N) : D [] := (h.dom []).2 (Or.inl rfl)

section
variable {rs : List (List Int)} {r : List Int} {i : Nat} {D : List Int → Prop} {N : List Int → List Int}

/-- a row's first values add nothing -/
theorem TM.begin (h : TM rs D N) : TM (rs ++ [r.take 0]) D N :=
  ⟨fun p => by
    rw [h.dom]
    constructor
    · rintro (h1 | ⟨s, hs, h1⟩)
      · exact Or.inl h1
      · exact Or.inr ⟨s, List.mem_append_left _ hs, h1⟩
    · rintro (h1 | ⟨s, hs, h1⟩)
      · exact Or.inl h1
      · rcases List.mem_append.1 hs with h2 | h2
        · exact Or.inr ⟨s, h2, h1⟩
        · simp at h2
          subst h2
          exact Or.inl (List.prefix_nil.1 h1), h.mem, h.asc⟩

theorem TM.here (h : TM (rs ++ [r.take i]) D N) : D (r.take i) := (h.dom _).2 (Or.inr ⟨r.take i, by simp, List.prefix_refl _⟩)

/-- what comes next there is no greater -/
theorem TM.le (h : TM (rs ++ [r.take i]) D N) (hi : i < r.length) (hs : ∀ s ∈ rs, cmpL s r < 0) : ∀ y ∈ N (r.take i), y ≤ r.getD i 0 := fun y hy => by
  rw [h.mem _ h.here, h.dom] at hy
  rcases hy with h1 | ⟨s, hs', h1⟩
  · simp at h1
  · rcases List.mem_append.1 hs' with h2 | h2
    · refine pre_le h1 (r := r) ?_ (hs s h2)
      rw [← take_snoc hi]
      exact List.take_prefix _ _
    · simp at h2
      subst h2
      have := h1.length_le
      simp at this
      omega

theorem dom_step (h : TM (rs ++ [r.take i]) D N) (hi : i < r.length) (p : List Int) : (p = [] ∨ ∃ s ∈ rs ++ [r.take (i + 1)], p <+: s) ↔ D p ∨ p = r.take i ++ [r.getD i 0] := by
  rw [h.dom]
  constructor
  · rintro (h1 | ⟨s, hs, h1⟩)
    · exact Or.inl (Or.inl h1)
    · rcases List.mem_append.1 hs with h2 | h2
      · exact Or.inl (Or.inr ⟨s, List.mem_append_left _ h2, h1⟩)
      · simp only [List.mem_singleton] at h2
        subst h2
        rw [take_snoc hi, pre_snoc] at h1
        rcases h1 with h1 | h1
        · exact Or.inr h1
        · exact Or.inl (Or.inr ⟨_, List.mem_append_right _ (List.mem_singleton.2 rfl), h1⟩)
  · rintro ((h1 | ⟨s, hs, h1⟩) | h1)
    · exact Or.inl h1
    · rcases List.mem_append.1 hs with h2 | h2
      · exact Or.inr ⟨s, List.mem_append_left _ h2, h1⟩
      · simp only [List.mem_singleton] at h2
        subst h2
        refine Or.inr ⟨r.take (i + 1), List.mem_append_right _ (List.mem_singleton.2 rfl), ?_⟩
        rw [take_snoc hi, pre_snoc]
        exact Or.inr h1
    · refine Or.inr ⟨r.take (i + 1), List.mem_append_right _ (List.mem_singleton.2 rfl), ?_⟩
      rw [take_snoc hi, h1]
      exact List.prefix_refl _

theorem TM.hit (h : TM (rs ++ [r.take i]) D N) (hi : i < r.length) (hx : r.getD i 0 ∈ N (r.take i)) : TM (rs ++ [r.take (i + 1)]) D N :=
  ⟨fun p => by
    rw [dom_step h hi]
    constructor
    · exact Or.inl
    · rintro (h1 | h1)
      · exact h1
      · rw [h1]; exact (h.mem _ h.here _).1 hx, h.mem, h.asc⟩

def addD (D : List Int → Prop) (q : List Int) : List Int → Prop := fun p => D p ∨ p = q
def addN (N : List Int → List Int) (p : List Int) (x : Int) : List Int → List Int := fun q => if q = p then N p ++ [x] else if q = p ++ [x] then [] else N q
theorem snoc_ne (p : List Int) (x : Int) : p ++ [x] ≠ p := fun e => by have := congrArg List.length e; simp at this

theorem TM.miss (h : TM (rs ++ [r.take i]) D N) (hi : i < r.length) (hs : ∀ s ∈ rs, cmpL s r < 0) (hx : r.getD i 0 ∉ N (r.take i)) :
    TM (rs ++ [r.take (i + 1)]) (addD D (r.take i ++ [r.getD i 0])) (addN N (r.take i) (r.getD i 0)) := by
  have hle := h.le hi hs
  have hh := h.here
  have hno : ¬ D (r.take i ++ [r.getD i 0]) := fun hd => hx ((h.mem _ hh _).2 hd)
  have hdom := dom_step h hi
  generalize r.take (i + 1) = r1 at *
  generalize r.take i = p0 at *
  generalize r.getD i 0 = x at *
  refine ⟨fun p => (hdom p).symm, fun q hq y => ?_, fun q hq => ?_⟩
  · unfold addN addD
    by_cases e1 : q = p0
    · subst e1
      rw [if_pos rfl, List.mem_append, List.mem_singleton, h.mem _ hh]
      constructor
      · rintro (h1 | h1)
        · exact Or.inl h1
        · exact Or.inr (by rw [h1])
      · rintro (h1 | h1)
        · exact Or.inl h1
        · exact Or.inr (snoc_inj h1).2
    · rw [if_neg e1]
      by_cases e2 : q = p0 ++ [x]
      · subst e2
        rw [if_pos rfl]
        constructor
        · intro h1; cases h1
        · rintro (h1 | h1)
          · exact absurd (h.pre h1 (List.prefix_append _ _)) hno
          · exact absurd h1 (snoc_ne _ _)
      · rw [if_neg e2, h.mem _ (hq.resolve_right e2)]
        constructor
        · exact Or.inl
        · rintro (h1 | h1)
          · exact h1
          · exact absurd (snoc_inj h1).1 e1
  · unfold addN
    by_cases e1 : q = p0
    · subst e1
      rw [if_pos rfl, List.pairwise_append]
      refine ⟨h.asc _ hh, List.pairwise_singleton _ _, fun y hy z hz => ?_⟩
      rw [List.mem_singleton] at hz
      subst hz
      have := hle y hy
      rcases Int.lt_or_eq_of_le this with h1 | h1
      · exact h1
      · subst h1; exact absurd hy hx
    · rw [if_neg e1]
      by_cases e2 : q = p0 ++ [x]
      · rw [if_pos e2]; exact List.Pairwise.nil
      · rw [if_neg e2]; exact h.asc _ (hq.resolve_right e2)

theorem TM.done (h : TM (rs ++ [r.take r.length]) D N) : TM (rs ++ [r]) D N := by rw [List.take_length] at h; exact h
end

/-- the greatest is the last -/
theorem last_of {l : List Int} {x : Int} (ha : l.Pairwise (· < ·)) (hm : x ∈ l) (hle : ∀ y ∈ l, y ≤ x) : 0 < l.length ∧ l.getD (l.length - 1) 0 = x := by
  have h0 : 0 < l.length := List.length_pos_of_mem hm
  refine ⟨h0, ?_⟩
  obtain ⟨j, hj, e⟩ := List.getElem_of_mem hm
  have hl : l.getD (l.length - 1) 0 = l[l.length - 1]'(by omega) := by rw [List.getD_eq_getElem?_getD, List.getElem?_eq_getElem (by omega)]; rfl
  have h1 := hle _ (List.getElem_mem (h := (by omega : l.length - 1 < l.length)))
  rw [hl]
  by_cases e2 : j = l.length - 1
  · subst e2; exact e
  · have := List.pairwise_iff_getElem.1 ha j (l.length - 1) hj (by omega) (by omega)
    omega
theorem last_not {l : List Int} {x : Int} (hm : x ∉ l) (h0 : 0 < l.length) : l.getD (l.length - 1) 0 ≠ x := fun e => hm (by
  rw [← e, List.getD_eq_getElem?_getD, List.getElem?_eq_getElem (by omega)]; exact List.getElem_mem _)

/-- a whole row -/
theorem TM.row {rs : List (List Int)} {D : List Int → Prop} {N : List Int → List Int} (h : TM rs D N) {L : Nat} (hl : ∀ r ∈ rs, r.length = L) (hn : rs ≠ []) {q : List Int} (hq : q.length = L) : D q ↔ q ∈ rs := by
  rw [h.dom]
  constructor
  · rintro (h1 | ⟨r, hr, h1⟩)
    · subst h1
      cases rs with
      | nil => exact absurd rfl hn
      | cons a rs =>
        have := hl a (List.mem_cons_self ..)
        rw [List.length_nil] at hq
        have : a = [] := List.length_eq_zero_iff.1 (by omega)
        rw [this]; exact List.mem_cons_self ..
    · have := h1.eq_of_length (by rw [hq, hl r hr])
      rw [this]; exact hr
  · intro h1
    exact Or.inr ⟨q, h1, List.prefix_refl _⟩
theorem TM.more {rs : List (List Int)} {D : List Int → Prop} {N : List Int → List Int} (h : TM rs D N) {L : Nat} (hl : ∀ r ∈ rs, r.length = L) (hn : rs ≠ []) {q : List Int} (hq : q.length < L) (hd : D q) : 0 < (N q).length := by
  have key : ∃ r ∈ rs, q <+: r := by
    rcases (h.dom q).1 hd with h1 | h1
    · subst h1
      cases rs with
      | nil => exact absurd rfl hn
      | cons a rs => exact ⟨a, List.mem_cons_self .., List.nil_prefix⟩
    · exact h1
  obtain ⟨r, hr, t, rfl⟩ := key
  have h2 := hl _ hr
  rw [List.length_append] at h2
  cases t with
  | nil => simp at h2; omega
  | cons x t => exact List.length_pos_of_mem ((h.mem q hd x).2 ((h.dom _).2 (Or.inr ⟨_, hr, by rw [show q ++ x :: t = (q ++ [x]) ++ t by simp]; exact List.prefix_append _ _⟩)))

end Go.Proofs.YtnbbbbfamlmfpaaGreat

/-
  What may follow a prefix: by whichever table that has the next variable. Plain mathematics.
-/
namespace Go.Proofs.YtnbbbbfamlmfpaaGreat

/-- a table's side of a join: at which places of the order it has a column; its rows, the columns in the order's order; what comes next behind a part -/
structure Sd where
  H : Nat → Bool
  rs : List (List Int)
  N : List Int → List Int
def Sd.D (s : Sd) (p : List Int) : Prop := p = [] ∨ ∃ r ∈ s.rs, p <+: r
structure Sd.Ok (s : Sd) : Prop where
  tm : TM s.rs s.D s.N
/-- what a prefix has for a side -/
def prt (H : Nat → Bool) (p : List Int) : List Int := ((List.range p.length).filter H).map fun i => p.getD i 0
theorem prt_snoc (H : Nat → Bool) (p : List Int) (v : Int) : prt H (p ++ [v]) = prt H p ++ (if H p.length then [v] else []) := by
  unfold prt
  rw [List.length_append, List.length_singleton, List.range_succ, List.filter_append, List.map_append]
  congr 1
  · refine List.map_congr_left fun i hi => ?_
    have hi2 := List.mem_range.1 ((List.mem_filter.1 hi).1)
    rw [List.getD_eq_getElem?_getD, List.getElem?_append_left hi2, ← List.getD_eq_getElem?_getD]
  · by_cases h : H p.length
    · rw [if_pos h, List.filter_cons, if_pos h]
      simp [List.getD_eq_getElem?_getD]
    · rw [if_neg h, List.filter_cons, if_neg h]; rfl
/-- all sides have a row for the prefix -/
def Hld (sds : List Sd) (p : List Int) : Prop := ∀ s ∈ sds, s.D (prt s.H p)
def mayB (sds : List Sd) (p : List Int) (v : Int) : Bool := sds.all fun s => !s.H p.length || decide (v ∈ s.N (prt s.H p))
theorem mayB_iff (sds : List Sd) (p : List Int) (v : Int) : mayB sds p v = true ↔ ∀ s ∈ sds, s.H p.length = true → v ∈ s.N (prt s.H p) := by
  unfold mayB
  rw [List.all_eq_true]
  refine ⟨fun h s hs hH => ?_, fun h s hs => ?_⟩
  · have := h s hs
    rw [hH] at this
    simpa using this
  · cases hH : s.H p.length
    · rfl
    · simpa using h s hs hH
/-- ascending lists of the same members are one -/
theorem asc_uniq : ∀ {a b : List Int}, a.Pairwise (· < ·) → b.Pairwise (· < ·) → (∀ v, v ∈ a ↔ v ∈ b) → a = b
  | [], [], _, _, _ => rfl
  | [], y :: b, _, _, h => by have := (h y).2 List.mem_cons_self; cases this
  | x :: a, [], _, _, h => by have := (h x).1 List.mem_cons_self; cases this
  | x :: a, y :: b, ha, hb, h => by
    rw [List.pairwise_cons] at ha hb
    have hxy : x = y := by
      have h1 := (h x).1 List.mem_cons_self
      have h2 := (h y).2 List.mem_cons_self
      rw [List.mem_cons] at h1 h2
      rcases h1 with h1 | h1
      · exact h1
      · rcases h2 with h2 | h2
        · exact h2.symm
        · have := hb.1 x h1
          have := ha.1 y h2
          omega
    subst hxy
    rw [asc_uniq ha.2 hb.2 fun v => ?_]
    have := h v
    rw [List.mem_cons, List.mem_cons] at this
    constructor
    · intro hv
      rcases this.1 (Or.inr hv) with rfl | h1
      · have := ha.1 v hv; omega
      · exact h1
    · intro hv
      rcases this.2 (Or.inr hv) with rfl | h1
      · have := hb.1 v hv; omega
      · exact h1
/-- by one side: its values that all others have, too -/
def nxtBy (sds : List Sd) (g : Sd) (p : List Int) : List Int := (g.N (prt g.H p)).filter fun v => mayB sds p v
theorem nxtBy_same {sds : List Sd} (hok : ∀ s ∈ sds, s.Ok) {g f : Sd} (hg : g ∈ sds) (hf : f ∈ sds) {p : List Int} (hp : Hld sds p) (h1 : g.H p.length = true) (h2 : f.H p.length = true) : nxtBy sds g p = nxtBy sds f p := by
  refine asc_uniq ((((hok g hg).tm.asc _ (hp g hg))).filter _) ((((hok f hf).tm.asc _ (hp f hf))).filter _) fun v => ?_
  unfold nxtBy
  rw [List.mem_filter, List.mem_filter]
  constructor
  · rintro ⟨-, h⟩
    exact ⟨(mayB_iff sds p v).1 h f hf h2, h⟩
  · rintro ⟨-, h⟩
    exact ⟨(mayB_iff sds p v).1 h g hg h1, h⟩
/-- what may follow a prefix: by the first side that has the next place -/
def nxtS (sds : List Sd) (p : List Int) : List Int :=
  match sds.find? fun s => s.H p.length with
  | some f => nxtBy sds f p
  | none => []
theorem nxtS_by {sds : List Sd} (hok : ∀ s ∈ sds, s.Ok) {g : Sd} (hg : g ∈ sds) {p : List Int} (hp : Hld sds p) (h1 : g.H p.length = true) : nxtS sds p = nxtBy sds g p := by
  unfold nxtS
  cases hf : sds.find? (fun s => s.H p.length) with
  | none =>
    rw [List.find?_eq_none] at hf
    exact absurd h1 (hf g hg)
  | some f =>
    exact nxtBy_same hok (List.mem_of_find?_eq_some hf) hg hp (by have := List.find?_some hf; exact this) h1
/-- a longer prefix holds -/
theorem Hld.snoc {sds : List Sd} (hok : ∀ s ∈ sds, s.Ok) {p : List Int} (hp : Hld sds p) {v : Int} (hv : v ∈ nxtS sds p) : Hld sds (p ++ [v]) := fun s hs => by
  rw [prt_snoc]
  cases hH : s.H p.length
  · rw [if_neg (by decide), List.append_nil]; exact hp s hs
  · rw [if_pos rfl]
    rw [nxtS_by hok hs hp hH] at hv
    unfold nxtBy at hv
    exact ((hok s hs).tm.mem _ (hp s hs) v).1 ((List.mem_filter.1 hv).1)
theorem lvlF_hld {sds : List Sd} (hok : ∀ s ∈ sds, s.Ok) {p : List Int} (hp : Hld sds p) : ∀ j, ∀ q ∈ lvlF (nxtS sds) p j, Hld sds q
  | 0, q, h => by simp [lvlF] at h; rw [h]; exact hp
  | j + 1, q, h => by
    simp only [lvlF, List.mem_flatMap, List.mem_map] at h
    obtain ⟨r, hr, v, hv, rfl⟩ := h
    exact (lvlF_hld hok hp j r hr).snoc hok hv

end Go.Proofs.YtnbbbbfamlmfpaaGreat

/-
  Taking out neighbours that are alike, from the front on.
-/
namespace Go.Proofs.YtnbbbbfamlmfpaaGreat

theorem cpt_cons (x y : List Int) (l : List (List Int)) : cpt (x :: y :: l) = if x = y then cpt (y :: l) else x :: cpt (y :: l) := by rw [cpt]
theorem cpt_single (x : List Int) : cpt [x] = [x] := by rw [cpt]
theorem cpt_snoc : ∀ (l : List (List Int)) (y z : List Int), cpt (l ++ [y, z]) = if y = z then cpt (l ++ [y]) else cpt (l ++ [y]) ++ [z]
  | [], y, z => by
    show cpt [y, z] = if y = z then cpt [y] else cpt [y] ++ [z]
    rw [cpt_cons, cpt_single, cpt_single]
    by_cases h : y = z
    · rw [if_pos h, if_pos h, h]
    · rw [if_neg h, if_neg h]; rfl
  | [x], y, z => by
    have ih : cpt [y, z] = if y = z then cpt [y] else cpt [y] ++ [z] := cpt_snoc [] y z
    show cpt (x :: y :: [z]) = if y = z then cpt [x, y] else cpt [x, y] ++ [z]
    rw [cpt_cons x y [z], ih, cpt_cons x y []]
    by_cases h1 : x = y
    · rw [if_pos h1, if_pos h1]
    · rw [if_neg h1, if_neg h1]
      by_cases h2 : y = z
      · rw [if_pos h2, if_pos h2]
      · rw [if_neg h2, if_neg h2]; rfl
  | x :: a :: l, y, z => by
    have ih : cpt (a :: (l ++ [y, z])) = if y = z then cpt (a :: (l ++ [y])) else cpt (a :: (l ++ [y])) ++ [z] := cpt_snoc (a :: l) y z
    show cpt (x :: a :: (l ++ [y, z])) = if y = z then cpt (x :: a :: (l ++ [y])) else cpt (x :: a :: (l ++ [y])) ++ [z]
    rw [cpt_cons, ih, cpt_cons]
    by_cases h1 : x = a
    · rw [if_pos h1, if_pos h1]
    · rw [if_neg h1, if_neg h1]
      by_cases h2 : y = z
      · rw [if_pos h2, if_pos h2]
      · rw [if_neg h2, if_neg h2]; rfl

theorem take_two {ls : List (List Int)} {j : Nat} (hj : j + 1 < ls.length) : ls.take (j + 2) = ls.take j ++ [ls.getD j [], ls.getD (j + 1) []] ∧ ls.take (j + 1) = ls.take j ++ [ls.getD j []] := by
  have e1 : ls.getD j [] = ls[j] := by rw [List.getD_eq_getElem?_getD, List.getElem?_eq_getElem (by omega)]; rfl
  have e2 : ls.getD (j + 1) [] = ls[j + 1] := by rw [List.getD_eq_getElem?_getD, List.getElem?_eq_getElem hj]; rfl
  rw [e1, e2]
  have h1 : ls.take (j + 1) = ls.take j ++ [ls[j]] := (List.take_append_getElem (by omega)).symm
  have h2 : ls.take (j + 2) = ls.take (j + 1) ++ [ls[j + 1]] := (List.take_append_getElem hj).symm
  exact ⟨by rw [h2, h1, List.append_assoc]; rfl, h1⟩
theorem cpt_hit {ls : List (List Int)} {j : Nat} (hj : j + 1 < ls.length) (h : ls.getD j [] = ls.getD (j + 1) []) : cpt (ls.take (j + 2)) = cpt (ls.take (j + 1)) := by
  obtain ⟨a, b⟩ := take_two hj
  rw [a, b, cpt_snoc, if_pos h]
theorem cpt_miss {ls : List (List Int)} {j : Nat} (hj : j + 1 < ls.length) (h : ¬ ls.getD j [] = ls.getD (j + 1) []) : cpt (ls.take (j + 2)) = cpt (ls.take (j + 1)) ++ [ls.getD (j + 1) []] := by
  obtain ⟨a, b⟩ := take_two hj
  rw [a, b, cpt_snoc, if_neg h]
/-- as long as no two neighbours are alike, nothing is taken out -/
theorem cpt_all {ls : List (List Int)} : ∀ j, j < ls.length → (∀ i, i < j → ¬ ls.getD i [] = ls.getD (i + 1) []) → cpt (ls.take (j + 1)) = ls.take (j + 1)
  | 0, h, _ => by
    match ls, h with
    | x :: l, _ => rfl
  | j + 1, h, hne => by
    rw [cpt_miss h (hne j (by omega)), cpt_all j (by omega) (fun i hi => hne i (by omega))]
    obtain ⟨a, b⟩ := take_two h
    rw [a, b, List.append_assoc]
    rfl
end Go.Proofs.YtnbbbbfamlmfpaaGreat

/-
  Marks on a copy: cells keep their kind, only the copy's own blocks are turned.
-/
namespace Go.Proofs.YtnbbbbfamlmfpaaGreat
open Go.RowKit

structure Fr (lo hi : Nat) (w w' : World) : Prop where
  os : w'.os = w.os
  tape : w'.tape = w.tape
  output : w'.output = w.output
  size : w.heap.size ≤ w'.heap.size
  block : ∀ b, b < w.heap.size → (b < lo ∨ hi ≤ b) → w'.heap[b]? = w.heap[b]?

theorem Fr.refl (lo hi : Nat) (w : World) : Fr lo hi w w := ⟨rfl, rfl, rfl, Nat.le_refl _, fun _ _ _ => rfl⟩
theorem Fr.trans {lo hi : Nat} {a b c : World} (h : Fr lo hi a b) (k : Fr lo hi b c) : Fr lo hi a c :=
  ⟨k.os.trans h.os, k.tape.trans h.tape, k.output.trans h.output, Nat.le_trans h.size k.size, fun x hx hg => (k.block x (Nat.lt_of_lt_of_le hx h.size) hg).trans (h.block x hx hg)⟩
theorem Fr.bel {lo hi : Nat} {a b c : World} (h : Fr lo hi a b) (k : Below b.heap.size b c) : Fr lo hi a c :=
  h.trans ⟨k.os, k.tape, k.output, k.size, fun x hx _ => k.block x hx⟩
theorem Fr.set {lo hi g o : Nat} {a b : World} {v : Value} (h : Fr lo hi a b) (h1 : lo ≤ g) (h2 : g < hi) : Fr lo hi a (b.setCell ⟨g, o, none⟩ v) :=
  h.trans ⟨rfl, rfl, rfl, by simp [World.setCell], fun x _ hg => Below.heap_setCell _ _ _ _ (by show x ≠ g; omega)⟩


/-- cells keep their kind; blocks below lo and from hi on are as they were -/
structure Mk (lo hi : Nat) (w w' : World) : Prop where
  fr : Fr lo hi w w'
  num : ∀ b q x, w.cell? ⟨b, q, none⟩ = some (.int .i64 x) → ∃ y, w'.cell? ⟨b, q, none⟩ = some (.int .i64 y)
  str : ∀ b q x, w.cell? ⟨b, q, none⟩ = some (.string x) → ∃ y, w'.cell? ⟨b, q, none⟩ = some (.string y)
  sl : ∀ b q a n c, w.cell? ⟨b, q, none⟩ = some (.slice a n c) → w'.cell? ⟨b, q, none⟩ = some (.slice a n c)
  froz : ∀ b q, b < w.heap.size → w.frozen? ⟨b, q, none⟩ = false → w'.frozen? ⟨b, q, none⟩ = false
section
variable {lo hi : Nat} {a b c : World}
theorem Mk.refl (lo hi : Nat) (a : World) : Mk lo hi a a := ⟨Fr.refl _ _ _, fun _ _ x h => ⟨x, h⟩, fun _ _ x h => ⟨x, h⟩, fun _ _ _ _ _ h => h, fun _ _ _ h => h⟩
theorem Mk.trans (h : Mk lo hi a b) (k : Mk lo hi b c) : Mk lo hi a c :=
  ⟨h.fr.trans k.fr, fun x q u e => by obtain ⟨y, e2⟩ := h.num x q u e; exact k.num x q y e2, fun x q u e => by obtain ⟨y, e2⟩ := h.str x q u e; exact k.str x q y e2, fun x q u n m e => k.sl x q u n m (h.sl x q u n m e), fun x q e f => k.froz x q (Nat.lt_of_lt_of_le e h.fr.size) (h.froz x q e f)⟩
theorem bclX {W W' : World} {x q : Nat} {u : Value} (h : Below W.heap.size W W') (e : W.cell? ⟨x, q, none⟩ = some u) : W'.cell? ⟨x, q, none⟩ = some u := (h.cell (p := ⟨x, q, none⟩) (World.block_lt_of_cell? W _ e)).trans e
theorem Mk.of_below (h : Below a.heap.size a b) : Mk lo hi a b :=
  ⟨(Fr.refl lo hi a).bel h, fun _ _ u e => ⟨u, bclX h e⟩, fun _ _ u e => ⟨u, bclX h e⟩, fun _ _ _ _ _ e => bclX h e, fun x q e f => (h.frozen (p := ⟨x, q, none⟩) e).trans f⟩
theorem Mk.setI {g o : Nat} {x y : Int} (h : a.cell? ⟨g, o, none⟩ = some (.int .i64 x)) (h1 : lo ≤ g) (h2 : g < hi) : Mk lo hi a (a.setCell ⟨g, o, none⟩ (.int .i64 y)) := by
  have ne : ∀ {b q : Nat} {u : Value}, a.cell? ⟨b, q, none⟩ = some u → (b = g ∧ q = o) ∨ (a.setCell ⟨g, o, none⟩ (.int .i64 y)).cell? ⟨b, q, none⟩ = some u := fun {b q u} e => by
    by_cases e2 : b = g ∧ q = o
    · exact Or.inl e2
    · exact Or.inr ((World.cell?_setCell_other _ _ _ _ (by intro e3; simp only [Addr.mk.injEq] at e3; exact e2 ⟨by omega, by omega⟩)).trans e)
  refine ⟨(Fr.refl lo hi a).set h1 h2, fun b q u e => ?_, fun b q u e => ?_, fun b q u n m e => ?_, fun b q _ f => by rw [World.frozen?_setCell]; exact f⟩
  · rcases ne e with ⟨rfl, rfl⟩ | e2
    · exact ⟨y, World.cell?_setCell_same _ _ _ h⟩
    · exact ⟨u, e2⟩
  · rcases ne e with ⟨rfl, rfl⟩ | e2
    · rw [h] at e; cases e
    · exact ⟨u, e2⟩
  · rcases ne e with ⟨rfl, rfl⟩ | e2
    · rw [h] at e; cases e
    · exact e2
end

/-- n numbers in block g -/
structure ShI (lo hi : Nat) (W : World) (g n : Nat) : Prop where
  lo : lo ≤ g
  hi : g < hi
  lt : g < W.heap.size
  cell : ∀ j, j < n → ∃ x, W.cell? ⟨g, j, none⟩ = some (.int .i64 x)
  free : ∀ j, j < n → W.frozen? ⟨g, j, none⟩ = false
theorem ShI.kp {lo hi : Nat} {W W' : World} {g n : Nat} (h : ShI lo hi W g n) (k : Mk lo hi W W') : ShI lo hi W' g n :=
  ⟨h.lo, h.hi, Nat.lt_of_lt_of_le h.lt k.fr.size, fun j hj => by obtain ⟨x, e⟩ := h.cell j hj; exact k.num _ _ _ e, fun j hj => k.froz _ _ h.lt (h.free j hj)⟩
theorem OwnI.sh {lo hi : Nat} {W : World} {g : Nat} {l : List Int} (h : OwnI W g l) (h1 : lo ≤ g) (h2 : g < hi) : ShI lo hi W g l.length := ⟨h1, h2, h.lt, fun j hj => ⟨_, h.cell j hj⟩, h.free⟩

set_option maxHeartbeats 1000000 in
set_option maxRecDepth 1000000 in
theorem markIntS_mk (w : World) (lo hi g n cap k : Nat) (h : ShI lo hi w g n) (hn : n ≤ 1048576) (hk : k ≤ 1099511627776) :
    Calls Tryz.prog 13 #[.slice (some ⟨g, 0, none⟩) n cap, .int .i64 (k : Int)] w fun e w' => e = .returned (.int .i64 ((k + n : Nat) : Int)) ∧ Mk lo hi w w' := by
  have HS := hid h
  clear h
  go_enter Tryz.func13, Tryz.ntmps13
  go_wp2
  go_loopw [1, 5] (fun u t wr => ∃ j : Nat, j ≤ n ∧ t = .int .i64 j ∧ u = .int .i64 ((k + j : Nat) : Int) ∧ Hid (Mk lo hi w wr)) (fun _ t _ => n - (intOf t).toNat)
  case atStart => exact ⟨0, Nat.zero_le _, rfl, rfl, hid (Mk.refl _ _ _)⟩
  case round =>
    obtain ⟨j, hj, rfl, rfl, HM⟩ := hrel
    by_cases hjn : j < n
    · have i1 : (j : Int) < (n : Int) := by omega
      have hS := HS.out.kp HM.out
      obtain ⟨x, c2⟩ := hS.cell j hjn
      have c3 := hS.free j hjn
      have HN : Hid (∀ y : Int, Mk lo hi w (wr.setCell ⟨g, j, none⟩ (.int .i64 y))) := hid fun y => HM.out.trans (Mk.setI c2 hS.lo hS.hi)
      clear hS HM
      go_wp2
      go_roundw
      case rel => exact ⟨j + 1, by omega, by go_num, by go_num, hid (HN.out _)⟩
      case measure => simp [intOf]; omega
    · obtain rfl : j = n := by omega
      have i1 : ¬ ((j : Int) < (j : Int)) := by omega
      go_wp2
      go_ret
      first | exact ⟨rfl, HM.out⟩ | exact HM.out

def sumN (ln : Nat → Nat) : Nat → Nat
  | 0 => 0
  | j + 1 => sumN ln j + ln j
theorem sumN_le (ln : Nat → Nat) : ∀ {i j : Nat}, i ≤ j → sumN ln i ≤ sumN ln j
  | i, 0, h => by
    have e : i = 0 := Nat.le_zero.1 h
    subst e
    exact Nat.le_refl _
  | i, j + 1, h => by
    by_cases e : i = j + 1
    · rw [e]; exact Nat.le_refl _
    · exact Nat.le_trans (sumN_le ln (i := i) (j := j) (by omega)) (Nat.le_add_right _ _)
theorem sumN_tot (ls : List (List Int)) : ∀ k, k ≤ ls.length → tot ls k = ls.length + sumN (fun i => (ls.getD i []).length) k
  | 0, _ => by rw [tot_zero]; rfl
  | k + 1, h => by rw [tot_succ ls k (by omega), sumN_tot ls k (by omega)]; show _ = ls.length + (sumN _ k + (ls.getD k []).length); omega

/-- n lists of numbers, their slices in block G -/
def ShSS (lo hi : Nat) (W : World) (G n : Nat) (ln : Nat → Nat) : Prop := ∀ j, j < n → ∃ c, W.cell? ⟨G, j, none⟩ = some (.slice (some ⟨c, 0, none⟩) (ln j) (ln j)) ∧ ShI lo hi W c (ln j)
theorem ShSS.kp {lo hi : Nat} {W W' : World} {G n : Nat} {ln : Nat → Nat} (h : ShSS lo hi W G n ln) (k : Mk lo hi W W') : ShSS lo hi W' G n ln := fun j hj => by
  obtain ⟨c, e, hc⟩ := h j hj
  exact ⟨c, k.sl _ _ _ _ _ e, hc.kp k⟩

set_option maxHeartbeats 1000000 in
set_option maxRecDepth 1000000 in
theorem markIntSS_mk (w : World) (lo hi G n cap k : Nat) (ln : Nat → Nat) (h : ShSS lo hi w G n ln) (hn : n ≤ 1048576) (hs : sumN ln n ≤ 1048576) (hk : k ≤ 99511627776) :
    Calls Tryz.prog 14 #[.slice (some ⟨G, 0, none⟩) n cap, .int .i64 (k : Int)] w fun e w' => e = .returned (.int .i64 ((k + sumN ln n : Nat) : Int)) ∧ Mk lo hi w w' := by
  have HS := hid h
  have HL : Hid (∀ i, i < n → sumN ln i + ln i ≤ 1048576) := hid fun i hi => Nat.le_trans (sumN_le ln (show i + 1 ≤ n from hi)) hs
  clear h hs
  go_enter Tryz.func14, Tryz.ntmps14
  go_wp2
  go_loopw [1, 5] (fun u t wr => ∃ j : Nat, j ≤ n ∧ t = .int .i64 j ∧ ∃ c : Nat, u = .int .i64 (c : Int) ∧ Hid (c = k + sumN ln j ∧ Mk lo hi w wr)) (fun _ t _ => n - (intOf t).toNat)
  case atStart => exact ⟨0, Nat.zero_le _, rfl, k, rfl, hid ⟨rfl, Mk.refl _ _ _⟩⟩
  case round =>
    obtain ⟨j, hj, rfl, c, rfl, HM⟩ := hrel
    by_cases hjn : j < n
    · have i1 : (j : Int) < (n : Int) := by omega
      obtain ⟨b, c2, hb⟩ := (HS.out.kp HM.out.2) j hjn
      have hL := HL.out j hjn
      have K := hid (markIntS_mk wr lo hi b (ln j) (ln j) c hb (by omega) (by rw [HM.out.1]; omega))
      have HE : Hid (c + ln j = k + sumN ln (j + 1)) := hid (by rw [HM.out.1]; show _ = k + (sumN ln j + ln j); omega)
      have HM2 := hid HM.out.2
      clear hb hL HM
      generalize ln j = m at *
      go_wp2_with fail
      refine K.out.mono ?_
      rintro e w2 ⟨rfl, hm⟩
      have HN := hid (HM2.out.trans hm)
      clear hm K c2
      go_wp2_with fail
      go_roundw
      case rel => exact ⟨j + 1, by omega, by go_num, _, rfl, hid ⟨HE.out, HN.out⟩⟩
      case measure => simp [intOf]; omega
    · obtain rfl : j = n := by omega
      have i1 : ¬ ((j : Int) < (j : Int)) := by omega
      go_wp2
      go_ret
      exact ⟨ret_int (by have := HM.out.1; omega), HM.out.2⟩


end Go.Proofs.YtnbbbbfamlmfpaaGreat
