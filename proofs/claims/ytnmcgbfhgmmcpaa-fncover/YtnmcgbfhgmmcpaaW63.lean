import Derived.Test.YtnmcgbfhgmmcpaaW24
import Derived.Test.YtnmcgbfhgmmcpaaW26
import Derived.Test.YtnmcgbfhgmmcpaaW62
/-
  The weights and the dual have one sum.
-/
namespace Go.Proofs.Ytnmcgbfhgmmcpaa
open Go.RowKit

theorem inc_turn {bag : List Int} {es : List (List Int)} {v e : Nat} (hv : v < bag.length) (he : e < es.length) : inc (coverL bag es) v e = inc (packL bag es) e v := by
  rw [inc_cover hv he, inc_pack he hv]

theorem cover_congr {m u : Nat} {M M' : Nat → Nat → Rat} (h : ∀ r, r < m → ∀ e, e < u → M r e = M' r e) {x : Nat → Rat} (hx : Cov.Cover m u M x) : Cov.Cover m u M' x :=
  ⟨hx.1, fun r hr => by rw [← Cov.sm_congr (fun e he => show M r e * x e = M' r e * x e by rw [h r hr e he])]; exact hx.2 r hr⟩

theorem key_first {v : Rat} {u : Nat} {x y : Nat → Rat} (h : Cov.Lex (Cov.key v u x) (Cov.key v u y)) : v * Cov.sm u x ≤ v * Cov.sm u y := by
  rcases h with h | ⟨h, _⟩
  · exact Rat.le_of_lt h
  · rw [h]; exact Rat.le_refl

theorem sums_equal {bag : List Int} {es : List (List Int)} {x y : Nat → Rat} (hX : CoverBest bag.length es.length (inc (coverL bag es)) x) (hY : PackBest es.length bag.length (inc (packL bag es)) y) (hc : coverB bag es = true) : Cov.sm es.length x = Cov.sm bag.length y := by
  have ht : ∀ v, v < bag.length → ∀ e, e < es.length → inc (coverL bag es) v e = (fun v e => inc (packL bag es) e v) v e := fun v hv e he => inc_turn hv he
  refine Cov.duality (M := inc (packL bag es)) (fun r _ e _ => inc_nonneg _ r e) (fun v hv => ?_) (cover_congr ht hX.1) (fun z hz => ?_) hY.1 (fun z hz => ?_)
  · obtain ⟨e, he, hm⟩ := coverB_at hc hv
    exact ⟨e, he, by rw [inc_pack he hv, if_pos hm]⟩
  · have := key_first (hX.2 z (cover_congr (fun v hv e he => (ht v hv e he).symm) hz))
    grind
  · have := key_first (hY.2 z hz)
    grind

end Go.Proofs.Ytnmcgbfhgmmcpaa

/-
  Sums over a part of the weights, step by step; and how they stand to 0 and 1.
-/
namespace Go.Proofs.Ytnmcgbfhgmmcpaa
open Go.RowKit

def msk (n : Nat) (P : Nat → Bool) (x : Nat → Rat) : Rat := Cov.sm n (fun j => if P j = true then x j else 0)

theorem msk_congr {n : Nat} {P P' : Nat → Bool} {x : Nat → Rat} (h : ∀ j, j < n → P' j = P j) : msk n P' x = msk n P x :=
  Cov.sm_congr (fun j hj => by show (if P' j = true then x j else 0) = if P j = true then x j else 0; rw [h j hj])

theorem msk_none {n : Nat} {P : Nat → Bool} {x : Nat → Rat} (h : ∀ j, j < n → P j = false) : msk n P x = 0 :=
  Cov.sm_zero (fun j hj => by show (if P j = true then x j else 0) = 0; rw [h j hj]; rfl)

theorem msk_step {n q : Nat} {P P' : Nat → Bool} {x : Nat → Rat} (hq : q < n) (h0 : P q = false) (h : ∀ j, j < n → P' j = (P j || decide (j = q))) : msk n P' x = msk n P x + x q := by
  unfold msk
  have e : Cov.sm n (fun j => if P' j = true then x j else 0) = Cov.sm n (fun j => (if P j = true then x j else 0) + (if j = q then x q else 0)) := Cov.sm_congr (fun j hj => by
    show (if P' j = true then x j else 0) = (if P j = true then x j else 0) + (if j = q then x q else 0)
    rw [h j hj]
    by_cases e : j = q
    · subst e; rw [h0]; simp; grind
    · simp [e]; grind)
  rw [e, Cov.sm_add, Cov.sm_single (f := fun j => if j = q then x q else 0) (k := q) hq (fun i _ hi => if_neg hi), if_pos rfl]

theorem Parts.msk {u : Nat} {x : Nat → Rat} (h : Parts u x) (hu : u ≤ 7) (P : Nat → Bool) : Sm 36000 (msk u P x) := by
  refine Parts.sum (x := fun j => if P j = true then x j else 0) ?_ (Nat.le_refl u) hu
  obtain ⟨D, h0, hD, hw⟩ := h
  refine ⟨D, h0, hD, fun j hj => ?_⟩
  show Cov.Whole 5040 ((if P j = true then x j else 0) * ((D : Int) : Rat))
  cases P j
  · exact ⟨0, by simp, by simp⟩
  · simpa using hw j hj

theorem cover_ge {bag : List Int} {es : List (List Int)} {x : Nat → Rat} (hX : CoverBest bag.length es.length (inc (coverL bag es)) x) {r : Nat} (hr : r < bag.length) : 1 ≤ msk es.length (fun e => decide (bag.getD r 0 ∈ es.getD e [])) x := by
  have := hX.1.2 r hr
  have e : Cov.sm es.length (fun e => inc (coverL bag es) r e * x e) = msk es.length (fun e => decide (bag.getD r 0 ∈ es.getD e [])) x := Cov.sm_congr (fun e he => by
    show inc (coverL bag es) r e * x e = if decide (bag.getD r 0 ∈ es.getD e []) = true then x e else 0
    rw [inc_cover hr he]
    by_cases h : bag.getD r 0 ∈ es.getD e []
    · rw [if_pos h, if_pos (decide_eq_true h)]; grind
    · rw [if_neg h, if_neg (by simpa using h)]; grind)
  rw [← e]; exact this

theorem pack_le {bag : List Int} {es : List (List Int)} {y : Nat → Rat} (hY : PackBest es.length bag.length (inc (packL bag es)) y) {r : Nat} (hr : r < es.length) : msk bag.length (fun j => decide (bag.getD j 0 ∈ es.getD r [])) y ≤ 1 := by
  have := hY.1.2 r hr
  have e : Cov.sm bag.length (fun e => inc (packL bag es) r e * y e) = msk bag.length (fun j => decide (bag.getD j 0 ∈ es.getD r [])) y := Cov.sm_congr (fun e he => by
    show inc (packL bag es) r e * y e = if decide (bag.getD e 0 ∈ es.getD r []) = true then y e else 0
    rw [inc_pack hr he]
    by_cases h : bag.getD e 0 ∈ es.getD r []
    · rw [if_pos h, if_pos (decide_eq_true h)]; grind
    · rw [if_neg h, if_neg (by simpa using h)]; grind)
  rw [← e]; exact this

theorem okR_one : OkR 1 1 := okR_of (q := 1) ⟨by decide, by decide⟩
theorem okR_zero : OkR 0 1 := okR_of (q := 0) ⟨by decide, by decide⟩

theorem cmp_nonneg (q : Rat) (w : World) (hq : Sm 1000000 q) (h0 : 0 ≤ q) :
    Calls Try.prog 11 #[.agg #[.int .i64 q.num, .int .i64 q.den], .agg #[.int .i64 0, .int .i64 1]] w fun e w' => ∃ s : Int, e = .returned (.int .i64 s) ∧ 0 ≤ s ∧ Below w.heap.size w w' :=
  (iCmp_yes _ _ _ _ w (okR_of hq) okR_zero).mono (by
    rintro e w' ⟨rfl, hb⟩
    refine ⟨_, rfl, ?_, hb⟩
    have h1 : 0 ≤ q.num := Rat.num_nonneg.2 h0
    unfold RatM.sgn
    split <;> (try split) <;> omega)

theorem cmp_ge1 (q : Rat) (w : World) (hq : Sm 1000000 q) (h0 : 1 ≤ q) :
    Calls Try.prog 11 #[.agg #[.int .i64 q.num, .int .i64 q.den], .agg #[.int .i64 1, .int .i64 1]] w fun e w' => ∃ s : Int, e = .returned (.int .i64 s) ∧ (s = 0 ∨ s = 1) ∧ Below w.heap.size w w' :=
  (iCmp_yes _ _ _ _ w (okR_of hq) okR_one).mono (by
    rintro e w' ⟨rfl, hb⟩
    refine ⟨_, rfl, ?_, hb⟩
    have h1 : (q.den : Int) ≤ q.num := by
      have := (Rat.le_iff _ _).1 h0
      simpa using this
    unfold RatM.sgn
    split <;> (try split) <;> omega)

theorem cmp_le1 (q : Rat) (w : World) (hq : Sm 1000000 q) (h0 : q ≤ 1) :
    Calls Try.prog 11 #[.agg #[.int .i64 q.num, .int .i64 q.den], .agg #[.int .i64 1, .int .i64 1]] w fun e w' => ∃ s : Int, e = .returned (.int .i64 s) ∧ (s = 0 ∨ s = -1) ∧ Below w.heap.size w w' :=
  (iCmp_yes _ _ _ _ w (okR_of hq) okR_one).mono (by
    rintro e w' ⟨rfl, hb⟩
    refine ⟨_, rfl, ?_, hb⟩
    have h1 : q.num ≤ (q.den : Int) := by
      have := (Rat.le_iff _ _).1 h0
      simpa using this
    unfold RatM.sgn
    split <;> (try split) <;> omega)

/-- in a set each value stands once -/
theorem setB_mono {l : List Int} (h : setB l = true) : ∀ j, j < l.length → ∀ i, i < j → l.getD i 0 < l.getD j 0
  | 0, _, _, hi => by omega
  | j + 1, hj, i, hi => by
    have h1 : l.getD j 0 < l.getD (j + 1) 0 := by
      rcases (setB_at h hj).2.2 with h2 | h2
      · omega
      · simpa using h2
    rcases Nat.lt_or_ge i j with h2 | h2
    · have := setB_mono h j (by omega) i h2
      omega
    · have : i = j := by omega
      rw [this]; exact h1

theorem mem_take_getD {l : List Int} {x : Int} {p : Nat} : x ∈ l.take p ↔ ∃ i, i < p ∧ i < l.length ∧ l.getD i 0 = x := by
  rw [List.mem_iff_getElem]
  constructor
  · rintro ⟨i, hi, e⟩
    rw [List.length_take] at hi
    refine ⟨i, by omega, by omega, ?_⟩
    rw [List.getElem_take] at e
    rw [List.getD_eq_getElem?_getD, List.getElem?_eq_getElem (by omega)]
    exact e
  · rintro ⟨i, h1, h2, e⟩
    refine ⟨i, by rw [List.length_take]; omega, ?_⟩
    rw [List.getElem_take]
    rw [List.getD_eq_getElem?_getD, List.getElem?_eq_getElem h2] at e
    exact e

theorem take_succ_mem {l : List Int} {x : Int} {p : Nat} (hp : p < l.length) : x ∈ l.take (p + 1) ↔ x ∈ l.take p ∨ l.getD p 0 = x := by
  rw [mem_take_getD, mem_take_getD]
  constructor
  · rintro ⟨i, h1, h2, e⟩
    rcases Nat.lt_or_ge i p with h | h
    · exact Or.inl ⟨i, h, h2, e⟩
    · have : i = p := by omega
      subst this; exact Or.inr e
  · rintro (⟨i, h1, h2, e⟩ | e)
    · exact ⟨i, by omega, h2, e⟩
    · exact ⟨p, by omega, hp, e⟩

theorem set_not_before {l : List Int} (h : setB l = true) {p : Nat} (hp : p < l.length) : l.getD p 0 ∉ l.take p := by
  intro hm
  obtain ⟨i, h1, h2, e⟩ := mem_take_getD.1 hm
  have := setB_mono h p hp i h1
  omega

end Go.Proofs.Ytnmcgbfhgmmcpaa

/-
  What the law of covers adds up, step by step, in numbers that are names only.
-/
namespace Go.Proofs.Ytnmcgbfhgmmcpaa
open Go.RowKit

structure Acc (bag : List Int) (es : List (List Int)) (wn wd : Int) (nx dx ny dy sn sd tn td : Nat → Int) (pn pd qn qd : Nat → Nat → Nat → Int) : Prop where
  kc1 : ∀ (i : Nat) (w : World), i < es.length → Calls Try.prog 11 #[.agg #[.int .i64 (nx i), .int .i64 (dx i)], .agg #[.int .i64 0, .int .i64 1]] w fun e w' => ∃ s : Int, e = .returned (.int .i64 s) ∧ 0 ≤ s ∧ Below w.heap.size w w'
  ka1 : ∀ (i : Nat) (w : World), i < es.length → Calls Try.prog 12 #[.agg #[.int .i64 (sn i), .int .i64 (sd i)], .agg #[.int .i64 (nx i), .int .i64 (dx i)]] w fun e w' => e = .returned (.agg #[.int .i64 (sn (i + 1)), .int .i64 (sd (i + 1))]) ∧ Below w.heap.size w w'
  s0 : sn 0 = 0 ∧ sd 0 = 1
  su : sn es.length = wn ∧ sd es.length = wd
  kc2 : ∀ (i : Nat) (w : World), i < bag.length → Calls Try.prog 11 #[.agg #[.int .i64 (ny i), .int .i64 (dy i)], .agg #[.int .i64 0, .int .i64 1]] w fun e w' => ∃ s : Int, e = .returned (.int .i64 s) ∧ 0 ≤ s ∧ Below w.heap.size w w'
  ka2 : ∀ (i : Nat) (w : World), i < bag.length → Calls Try.prog 12 #[.agg #[.int .i64 (tn i), .int .i64 (td i)], .agg #[.int .i64 (ny i), .int .i64 (dy i)]] w fun e w' => e = .returned (.agg #[.int .i64 (tn (i + 1)), .int .i64 (td (i + 1))]) ∧ Below w.heap.size w w'
  t0 : tn 0 = 0 ∧ td 0 = 1
  tu : tn bag.length = wn ∧ td bag.length = wd
  wd1 : 1 ≤ wd
  p0 : ∀ r, pn r 0 0 = 0 ∧ pd r 0 0 = 1
  phit : ∀ (r i p : Nat) (w : World), r < bag.length → i < es.length → p < (es.getD i []).length → (es.getD i []).getD p 0 = bag.getD r 0 → Calls Try.prog 12 #[.agg #[.int .i64 (pn r i p), .int .i64 (pd r i p)], .agg #[.int .i64 (nx i), .int .i64 (dx i)]] w fun e w' => e = .returned (.agg #[.int .i64 (pn r i (p + 1)), .int .i64 (pd r i (p + 1))]) ∧ Below w.heap.size w w'
  pmiss : ∀ (r i p : Nat), p < (es.getD i []).length → (es.getD i []).getD p 0 ≠ bag.getD r 0 → pn r i (p + 1) = pn r i p ∧ pd r i (p + 1) = pd r i p
  pend : ∀ (r i : Nat), pn r i (es.getD i []).length = pn r (i + 1) 0 ∧ pd r i (es.getD i []).length = pd r (i + 1) 0
  pcmp : ∀ (r : Nat) (w : World), r < bag.length → Calls Try.prog 11 #[.agg #[.int .i64 (pn r es.length 0), .int .i64 (pd r es.length 0)], .agg #[.int .i64 1, .int .i64 1]] w fun e w' => ∃ s : Int, e = .returned (.int .i64 s) ∧ (s = 0 ∨ s = 1) ∧ Below w.heap.size w w'
  q0 : ∀ r, qn r 0 0 = 0 ∧ qd r 0 0 = 1
  qhit : ∀ (r p j : Nat) (w : World), r < es.length → p < (es.getD r []).length → j < bag.length → (es.getD r []).getD p 0 = bag.getD j 0 → Calls Try.prog 12 #[.agg #[.int .i64 (qn r p j), .int .i64 (qd r p j)], .agg #[.int .i64 (ny j), .int .i64 (dy j)]] w fun e w' => e = .returned (.agg #[.int .i64 (qn r p (j + 1)), .int .i64 (qd r p (j + 1))]) ∧ Below w.heap.size w w'
  qmiss : ∀ (r p j : Nat), (es.getD r []).getD p 0 ≠ bag.getD j 0 → qn r p (j + 1) = qn r p j ∧ qd r p (j + 1) = qd r p j
  qend : ∀ (r p : Nat), p < (es.getD r []).length → qn r p bag.length = qn r (p + 1) 0 ∧ qd r p bag.length = qd r (p + 1) 0
  qcmp : ∀ (r : Nat) (w : World), r < es.length → Calls Try.prog 11 #[.agg #[.int .i64 (qn r (es.getD r []).length 0), .int .i64 (qd r (es.getD r []).length 0)], .agg #[.int .i64 1, .int .i64 1]] w fun e w' => ∃ s : Int, e = .returned (.int .i64 s) ∧ (s = 0 ∨ s = -1) ∧ Below w.heap.size w w'

/-- the edges added in so far, for the variable r: those below i, and edge i if it stands in its first p places -/
def Pm (bag : List Int) (es : List (List Int)) (r i p : Nat) : Nat → Bool := fun e => (decide (e < i) && decide (bag.getD r 0 ∈ es.getD e [])) || (decide (e = i) && decide (bag.getD r 0 ∈ (es.getD i []).take p))
/-- the variables added in so far, for the edge r: those of its first p places, and the p-th, if it is among the first j -/
def Qm (bag : List Int) (es : List (List Int)) (r p j : Nat) : Nat → Bool := fun v => decide (bag.getD v 0 ∈ (es.getD r []).take p) || (decide ((es.getD r []).getD p 0 = bag.getD v 0) && decide (v < j))

theorem edge_set {es : List (List Int)} (h : edgesB es = true) {i : Nat} (hi : i < es.length) : setB (es.getD i []) = true := by
  unfold edgesB at h
  simp only [Bool.and_eq_true] at h
  refine List.all_eq_true.1 h.2 _ ?_
  refine List.mem_of_getElem? (i := i) ?_
  simp [List.getD_eq_getElem?_getD, hi]

theorem acc_exists {bag : List Int} {es : List (List Int)} {x y : Nat → Rat} (h2 : edgesB es = true) (h1 : setB bag = true) (h3 : coverB bag es = true) (hX : CoverBest bag.length es.length (inc (coverL bag es)) x) (hY : PackBest es.length bag.length (inc (packL bag es)) y) (hPX : Parts es.length x) (hPY : Parts bag.length y) :
    ∃ sn sd tn td pn pd qn qd, Acc bag es (Cov.sm es.length x).num ((Cov.sm es.length x).den : Int) (fun i => (x i).num) (fun i => ((x i).den : Int)) (fun i => (y i).num) (fun i => ((y i).den : Int)) sn sd tn td pn pd qn qd := by
  have hb6 := setB_len h1
  have he7 := edgesB_len h2
  have sx : ∀ i, i < es.length → Sm 1000000 (x i) := fun i hi => (hPX.sm hi).mono (by omega)
  have sy : ∀ i, i < bag.length → Sm 1000000 (y i) := fun i hi => (hPY.sm hi).mono (by omega)
  have ssx : ∀ i, i ≤ es.length → Sm 1000000 (Cov.sm i x) := fun i hi => (hPX.sum hi he7).mono (by omega)
  have ssy : ∀ i, i ≤ bag.length → Sm 1000000 (Cov.sm i y) := fun i hi => (hPY.sum hi (by omega)).mono (by omega)
  have smx : ∀ P, Sm 1000000 (msk es.length P x) := fun P => (hPX.msk he7 P).mono (by omega)
  have smy : ∀ P, Sm 1000000 (msk bag.length P y) := fun P => (hPY.msk (by omega) P).mono (by omega)
  refine ⟨fun i => (Cov.sm i x).num, fun i => ((Cov.sm i x).den : Int), fun i => (Cov.sm i y).num, fun i => ((Cov.sm i y).den : Int),
    fun r i p => (msk es.length (Pm bag es r i p) x).num, fun r i p => ((msk es.length (Pm bag es r i p) x).den : Int),
    fun r p j => (msk bag.length (Qm bag es r p j) y).num, fun r p j => ((msk bag.length (Qm bag es r p j) y).den : Int), ?_⟩
  have num0 : ∀ q : Rat, q = 0 → q.num = 0 ∧ (q.den : Int) = 1 := fun q hq => by rw [hq]; exact ⟨rfl, rfl⟩
  have same : ∀ p q : Rat, p = q → p.num = q.num ∧ (p.den : Int) = (q.den : Int) := fun p q h => by rw [h]; exact ⟨rfl, rfl⟩
  refine ⟨fun i w hi => cmp_nonneg (x i) w (sx i hi) (hX.1.1 i hi), fun i w hi => addR (Cov.sm i x) (x i) w (ssx i (by omega)) (sx i hi) (ssx (i + 1) hi), ⟨rfl, rfl⟩, ⟨rfl, rfl⟩,
    fun i w hi => cmp_nonneg (y i) w (sy i hi) (hY.1.1 i hi), fun i w hi => addR (Cov.sm i y) (y i) w (ssy i (by omega)) (sy i hi) (ssy (i + 1) hi), ⟨rfl, rfl⟩, ?_, ?_, ?_, ?_, ?_, ?_, ?_, ?_, ?_, ?_, ?_, ?_⟩
  · exact same _ _ (sums_equal hX hY h3).symm
  · have := (Cov.sm es.length x).den_pos
    omega
  · intro r
    refine num0 _ (msk_none (fun j _ => ?_))
    simp [Pm]
  · intro r i p w hr hi hp he
    have hs := edge_set h2 hi
    have hnot : bag.getD r 0 ∉ (es.getD i []).take p := by rw [← he]; exact set_not_before hs hp
    have e := msk_step (P := Pm bag es r i p) (P' := Pm bag es r i (p + 1)) (x := x) hi (by simp only [Pm, Nat.lt_irrefl, decide_false, Bool.false_and, decide_true, Bool.true_and, Bool.false_or]; exact decide_eq_false hnot) (fun j _ => by
      by_cases hj : j = i
      · subst hj
        have : bag.getD r 0 ∈ (es.getD j []).take (p + 1) := (take_succ_mem hp).2 (Or.inr he)
        simp only [Pm, Nat.lt_irrefl, decide_false, Bool.false_and, decide_true, Bool.true_and, Bool.false_or, decide_eq_true this, Bool.or_true]
      · simp only [Pm, decide_eq_false hj, Bool.false_and, Bool.or_false])
    have := addR (msk es.length (Pm bag es r i p) x) (x i) w (smx _) (sx i hi) (by rw [← e]; exact smx _)
    rw [← e] at this
    exact this
  · intro r i p hp he
    refine same _ _ (msk_congr (fun j _ => ?_))
    by_cases hj : j = i
    · subst hj
      have : decide (bag.getD r 0 ∈ (es.getD j []).take (p + 1)) = decide (bag.getD r 0 ∈ (es.getD j []).take p) := by
        rw [decide_eq_decide, take_succ_mem hp]
        exact ⟨fun h => h.resolve_right he, Or.inl⟩
      simp only [Pm, this]
    · simp only [Pm, decide_eq_false hj, Bool.false_and]
  · intro r i
    refine same _ _ (msk_congr (fun j _ => ?_))
    simp only [Pm, List.take_length, List.take_zero, List.not_mem_nil, decide_false, Bool.and_false, Bool.or_false]
    by_cases hj : j = i
    · subst hj; simp
    · by_cases hl : j < i
      · have : j < i + 1 := by omega
        simp [hl, this, hj]
      · have : ¬ j < i + 1 := by omega
        simp [hl, this, hj]
  · intro r w hr
    refine cmp_ge1 _ w (smx _) ?_
    have e : msk es.length (Pm bag es r es.length 0) x = msk es.length (fun e => decide (bag.getD r 0 ∈ es.getD e [])) x := msk_congr (fun j hj => by
      have : ¬ j = es.length := by omega
      simp [Pm, hj, this])
    rw [e]; exact cover_ge hX hr
  · intro r
    refine num0 _ (msk_none (fun j _ => ?_))
    simp [Qm]
  · intro r p j w hr hp hj he
    have hs := edge_set h2 hr
    have hnot : bag.getD j 0 ∉ (es.getD r []).take p := by rw [← he]; exact set_not_before hs hp
    have e := msk_step (P := Qm bag es r p j) (P' := Qm bag es r p (j + 1)) (x := y) hj (by simp only [Qm, Nat.lt_irrefl, decide_false, Bool.and_false, Bool.or_false]; exact decide_eq_false hnot) (fun v _ => by
      by_cases hv : v = j
      · subst hv
        simp only [Qm, decide_eq_true he, Nat.lt_succ_self, decide_true, Bool.and_true, Bool.or_true]
      · have : decide (v < j + 1) = decide (v < j) := by rw [decide_eq_decide]; omega
        simp only [Qm, this, decide_eq_false hv, Bool.or_false])
    have := addR (msk bag.length (Qm bag es r p j) y) (y j) w (smy _) (sy j hj) (by rw [← e]; exact smy _)
    rw [← e] at this
    exact this
  · intro r p j he
    refine same _ _ (msk_congr (fun v _ => ?_))
    by_cases hv : v = j
    · subst hv
      simp only [Qm, decide_eq_false he, Bool.false_and]
    · have : decide (v < j + 1) = decide (v < j) := by rw [decide_eq_decide]; omega
      simp only [Qm, this]
  · intro r p hp
    refine same _ _ (msk_congr (fun v hv => ?_))
    have : decide (bag.getD v 0 ∈ (es.getD r []).take (p + 1)) = (decide (bag.getD v 0 ∈ (es.getD r []).take p) || decide ((es.getD r []).getD p 0 = bag.getD v 0)) := by
      rw [← Bool.decide_or, decide_eq_decide, take_succ_mem hp]
    simp only [Qm, this, hv, decide_true, Bool.and_true, Nat.not_lt_zero, decide_false, Bool.and_false, Bool.or_false]
  · intro r w hr
    refine cmp_le1 _ w (smy _) ?_
    have e : msk bag.length (Qm bag es r (es.getD r []).length 0) y = msk bag.length (fun j => decide (bag.getD j 0 ∈ es.getD r [])) y := msk_congr (fun j hj => by
      simp only [Qm, List.take_length, Nat.not_lt_zero, decide_false, Bool.and_false, Bool.or_false])
    rw [e]; exact pack_le hY hr

end Go.Proofs.Ytnmcgbfhgmmcpaa
