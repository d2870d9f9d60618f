import Derived.Test.YtnmcgbfhgmmcpaaW25
import Derived.Test.YtnmcgbfhgmmcpaaW28
import Derived.Test.YtnmcgbfhgmmcpaaW40
import Derived.Test.YtnmcgbfhgmmcpaaW41
/-
  The width of a bag by the kept parts of the edges alone.
-/
namespace Go.Proofs.Ytnmcgbfhgmmcpaa
open Go.RowKit

/-- what an edge has of a bag -/
def partL (bag e : List Int) : List Int := e.filter fun v => decide (v ∈ bag)
def subB (a b : List Int) : Bool := a.all fun x => decide (x ∈ b)
/-- edge j makes edge i unneeded -/
def overB (bag : List Int) (es : List (List Int)) (i j : Nat) : Bool :=
  decide (j ≠ i) && subB (partL bag (es.getD i [])) (partL bag (es.getD j [])) && (decide ((partL bag (es.getD i [])).length < (partL bag (es.getD j [])).length) || decide (j < i))
def needB (bag : List Int) (es : List (List Int)) (i : Nat) : Bool :=
  decide (0 < (partL bag (es.getD i [])).length) && (List.range es.length).all fun j => !overB bag es i j
def keptI (bag : List Int) (es : List (List Int)) : List Nat := (List.range es.length).filter (needB bag es)
def partsL (bag : List Int) (es : List (List Int)) : List (List Int) := (keptI bag es).map fun i => partL bag (es.getD i [])

theorem subB_iff {a b : List Int} : subB a b = true ↔ ∀ x ∈ a, x ∈ b := by simp [subB]
theorem part_mem {bag e : List Int} {x : Int} : x ∈ partL bag e ↔ x ∈ e ∧ x ∈ bag := by simp [partL]

theorem exists_top {P : Nat → Prop} {f : Nat → Nat} {N : Nat} (hN : ∀ i, P i → f i ≤ N) {i : Nat} (hi : P i) : ∃ j, P j ∧ ∀ k, P k → f k ≤ f j := by
  refine Classical.byContradiction fun hno => ?_
  have step : ∀ n, ∃ j, P j ∧ n ≤ f j := by
    intro n
    induction n with
    | zero => exact ⟨i, hi, Nat.zero_le _⟩
    | succ n ih =>
      obtain ⟨j, hj, hn⟩ := ih
      refine Classical.byContradiction fun h2 => hno ⟨j, hj, fun k hk => ?_⟩
      refine Classical.byContradiction fun h3 => h2 ⟨k, hk, by omega⟩
  obtain ⟨j, hj, hn⟩ := step (N + 1)
  have := hN j hj
  omega
theorem exists_low {P : Nat → Prop} {i : Nat} (hi : P i) : ∃ j, P j ∧ ∀ k, P k → j ≤ k := by
  refine Classical.byContradiction fun hno => ?_
  have step : ∀ n k, k < n → ¬ P k := by
    intro n
    induction n with
    | zero => intro k hk; omega
    | succ n ih =>
      intro k hk hp
      by_cases e : k < n
      · exact ih k e hp
      · refine hno ⟨k, hp, fun m hm => ?_⟩
        refine Classical.byContradiction fun h3 => ih m (by omega) hm
  exact step (i + 1) i (by omega) hi

theorem nodup_sub_len {a b : List Int} (ha : a.Nodup) (h : ∀ x ∈ a, x ∈ b) : a.length ≤ b.length := by
  induction a generalizing b with
  | nil => simp
  | cons x a ih =>
    have hx : x ∈ b := h x (List.mem_cons_self)
    rw [List.nodup_cons] at ha
    have h2 := ih (b := b.erase x) ha.2 (fun y hy => by
      have : y ≠ x := fun e => ha.1 (e ▸ hy)
      exact (List.mem_erase_of_ne this).2 (h y (List.mem_cons_of_mem _ hy)))
    rw [List.length_erase_of_mem hx] at h2
    have : 0 < b.length := List.length_pos_of_mem hx
    simp only [List.length_cons]
    omega

/-- each edge's part lies in a kept one -/
theorem kept_over {bag : List Int} {es : List (List Int)} (hn : ∀ i, i < es.length → (es.getD i []).Nodup) {i : Nat} (hi : i < es.length) (h0 : 0 < (partL bag (es.getD i [])).length) :
    ∃ j, j < es.length ∧ needB bag es j = true ∧ subB (partL bag (es.getD i [])) (partL bag (es.getD j [])) = true := by
  have hpn : ∀ j, j < es.length → (partL bag (es.getD j [])).Nodup := fun j hj => List.Pairwise.filter _ (hn j hj)
  obtain ⟨t, ⟨ht, hts⟩, htop⟩ := exists_top (P := fun j => j < es.length ∧ subB (partL bag (es.getD i [])) (partL bag (es.getD j [])) = true) (f := fun j => (partL bag (es.getD j [])).length) (N := (es.map List.length).sum)
    (fun j hj => by
      have h1 : (partL bag (es.getD j [])).length ≤ (es.getD j []).length := List.length_filter_le _ _
      have h2 : (es.getD j []).length ≤ (es.map List.length).sum := by
        have : es.getD j [] ∈ es := by
          rw [List.getD_eq_getElem?_getD, List.getElem?_eq_getElem hj.1]; exact List.getElem_mem hj.1
        have hm : (es.getD j []).length ∈ es.map List.length := List.mem_map_of_mem this
        clear h1
        generalize es.map List.length = L at hm
        generalize (es.getD j []).length = y at hm
        induction L with
        | nil => cases hm
        | cons z L ih =>
          rcases List.mem_cons.1 hm with rfl | h
          · simp
          · have := ih h; simp; omega
      omega) (i := i) ⟨hi, subB_iff.2 (fun x hx => hx)⟩
  obtain ⟨j, ⟨hj, hjs, hjt⟩, hlow⟩ := exists_low (P := fun j => j < es.length ∧ subB (partL bag (es.getD i [])) (partL bag (es.getD j [])) = true ∧ (partL bag (es.getD t [])).length ≤ (partL bag (es.getD j [])).length) (i := t) ⟨ht, hts, Nat.le_refl _⟩
  refine ⟨j, hj, ?_, hjs⟩
  unfold needB
  rw [Bool.and_eq_true, decide_eq_true_eq, List.all_eq_true]
  have h1 := htop i ⟨hi, subB_iff.2 (fun x hx => hx)⟩
  refine ⟨by omega, fun k hk => ?_⟩
  have hk' : k < es.length := by simpa using hk
  rw [Bool.not_eq_true']
  refine Bool.eq_false_iff.2 fun ho => ?_
  unfold overB at ho
  rw [Bool.and_eq_true, Bool.and_eq_true, Bool.or_eq_true, decide_eq_true_eq, decide_eq_true_eq, decide_eq_true_eq] at ho
  obtain ⟨⟨hne, hs⟩, hl⟩ := ho
  have hsk : subB (partL bag (es.getD i [])) (partL bag (es.getD k [])) = true := subB_iff.2 (fun x hx => subB_iff.1 hs x (subB_iff.1 hjs x hx))
  have h2 := htop k ⟨hk', hsk⟩
  have h3 := nodup_sub_len (hpn j hj) (subB_iff.1 hs)
  have h4 := hlow k
  rcases hl with hl | hl
  · omega
  · have := h4 ⟨hk', hsk, by omega⟩
    omega

theorem partsL_get {bag : List Int} {es : List (List Int)} {p : Nat} (h : p < (keptI bag es).length) : (partsL bag es).getD p [] = partL bag (es.getD ((keptI bag es).getD p 0) []) := by
  unfold partsL
  rw [List.getD_eq_getElem?_getD, List.getElem?_map, List.getD_eq_getElem?_getD (l := keptI bag es), List.getElem?_eq_getElem h]; rfl
theorem kept_get {bag : List Int} {es : List (List Int)} {p : Nat} (h : p < (keptI bag es).length) : (keptI bag es).getD p 0 < es.length ∧ needB bag es ((keptI bag es).getD p 0) = true := by
  have : (keptI bag es).getD p 0 ∈ keptI bag es := by
    rw [List.getD_eq_getElem?_getD, List.getElem?_eq_getElem h]; exact List.getElem_mem h
  have h2 := List.mem_filter.1 this
  exact ⟨by simpa using h2.1, h2.2⟩
theorem kept_find {bag : List Int} {es : List (List Int)} {j : Nat} (hj : j < es.length) (hn : needB bag es j = true) : ∃ p, p < (keptI bag es).length ∧ (keptI bag es).getD p 0 = j := by
  have : j ∈ keptI bag es := List.mem_filter.2 ⟨by simpa using hj, hn⟩
  obtain ⟨p, hp, e⟩ := List.getElem_of_mem this
  exact ⟨p, hp, by rw [List.getD_eq_getElem?_getD, List.getElem?_eq_getElem hp]; exact e⟩
theorem partsL_length (bag : List Int) (es : List (List Int)) : (partsL bag es).length = (keptI bag es).length := by simp [partsL]
theorem keptI_le (bag : List Int) (es : List (List Int)) : (keptI bag es).length ≤ es.length := by
  unfold keptI
  exact Nat.le_trans (List.length_filter_le _ _) (by simp)

theorem inc_coverL {bag : List Int} {es : List (List Int)} {r e : Nat} (hr : r < bag.length) (he : e < es.length) : inc (coverL bag es) r e = if bag.getD r 0 ∈ es.getD e [] then 1 else 0 := by
  unfold inc coverL
  have h1 : (bag.map fun x => plN (fun i => decide (x ∈ es.getD i [])) es.length).getD r [] = plN (fun i => decide (bag.getD r 0 ∈ es.getD i [])) es.length := by
    rw [List.getD_eq_getElem?_getD, List.getElem?_map, List.getD_eq_getElem?_getD (l := bag), List.getElem?_eq_getElem hr]; rfl
  rw [h1]
  unfold plN
  by_cases hm : bag.getD r 0 ∈ es.getD e []
  · rw [if_pos hm, if_pos (List.mem_filter.2 ⟨by simpa using he, by simpa using hm⟩)]
  · rw [if_neg hm, if_neg (fun h => hm (by simpa using (List.mem_filter.1 h).2))]

theorem bag_get_mem {bag : List Int} {r : Nat} (hr : r < bag.length) : bag.getD r 0 ∈ bag := by
  rw [List.getD_eq_getElem?_getD, List.getElem?_eq_getElem hr]; exact List.getElem_mem hr

/-- the least sum is the same over the kept parts -/
theorem width_parts {bag : List Int} {es : List (List Int)} (hn : ∀ i, i < es.length → (es.getD i []).Nodup) {x y : Nat → Rat} (hx : CoverBest bag.length es.length (inc (coverL bag es)) x)
    (hy : CoverBest bag.length (partsL bag es).length (inc (coverL bag (partsL bag es))) y) : Cov.sm es.length x = Cov.sm (partsL bag es).length y := by
  have hup : ∀ e, ∃ p, e < es.length → 0 < (partL bag (es.getD e [])).length → p < (keptI bag es).length ∧ subB (partL bag (es.getD e [])) (partL bag (es.getD ((keptI bag es).getD p 0) [])) = true := by
    intro e
    by_cases h : e < es.length ∧ 0 < (partL bag (es.getD e [])).length
    · obtain ⟨j, h1, h2, h3⟩ := kept_over hn h.1 h.2
      obtain ⟨p, h4, h5⟩ := kept_find h1 h2
      exact ⟨p, fun _ _ => ⟨h4, by rw [h5]; exact h3⟩⟩
    · exact ⟨0, fun h1 h2 => absurd ⟨h1, h2⟩ h⟩
  obtain ⟨up, hup⟩ : ∃ up : Nat → Nat, ∀ e, e < es.length → 0 < (partL bag (es.getD e [])).length → up e < (keptI bag es).length ∧ subB (partL bag (es.getD e [])) (partL bag (es.getD ((keptI bag es).getD (up e) 0) [])) = true :=
    ⟨fun e => Classical.choose (hup e), fun e => Classical.choose_spec (hup e)⟩
  have hl := partsL_length bag es
  refine Cov.kept_sum (m := bag.length) (rep := fun p => (keptI bag es).getD p 0) (up := up) (nz := fun e => decide (0 < (partL bag (es.getD e [])).length)) ?_ ?_ ?_ ?_ hx.1 hx.2 hy.1 hy.2
  · intro r hr p hp
    rw [hl] at hp
    have hk := kept_get hp
    rw [inc_coverL hr (by rw [hl]; exact hp), inc_coverL hr hk.1, partsL_get hp]
    have := bag_get_mem hr
    by_cases hm : bag.getD r 0 ∈ es.getD ((keptI bag es).getD p 0) []
    · rw [if_pos hm, if_pos (part_mem.2 ⟨hm, this⟩)]
    · rw [if_neg hm, if_neg (fun h => hm (part_mem.1 h).1)]
  · intro p hp
    rw [hl] at hp
    exact (kept_get hp).1
  · intro e he hz r hr
    rw [inc_coverL hr he, if_neg]
    intro hm
    have h1 : bag.getD r 0 ∈ partL bag (es.getD e []) := part_mem.2 ⟨hm, bag_get_mem hr⟩
    have h2 := List.length_pos_of_mem h1
    have hz' := of_decide_eq_false hz
    omega
  · intro e he hz
    have h0 : 0 < (partL bag (es.getD e [])).length := by simpa using hz
    obtain ⟨h1, h2⟩ := hup e he h0
    refine ⟨by rw [hl]; exact h1, fun r hr => ?_⟩
    rw [inc_coverL hr he, inc_coverL hr (kept_get h1).1]
    by_cases hm : bag.getD r 0 ∈ es.getD e []
    · have := (part_mem.1 (subB_iff.1 h2 _ (part_mem.2 ⟨hm, bag_get_mem hr⟩))).1
      rw [if_pos hm, if_pos this]; exact Rat.le_refl
    · rw [if_neg hm]
      split
      · decide
      · exact Rat.le_refl

/-- a least cover exists, with small parts -/
theorem coverBest_exists {bag : List Int} {es : List (List Int)} (hb : bag.length ≤ 7) (hc : ∀ r, r < bag.length → ∃ e, e < es.length ∧ bag.getD r 0 ∈ es.getD e []) : ∃ x, CoverBest bag.length es.length (inc (coverL bag es)) x ∧ Parts es.length x := by
  obtain ⟨bar, s, h1, h2, h3⟩ := Cov.least_cover (m := bag.length) (u := es.length) (M := inc (coverL bag es)) (fun r _ e _ => inc_nonneg _ r e) (fun r hr => by
    obtain ⟨e, he, hm⟩ := hc r hr
    exact ⟨e, he, by rw [inc_coverL hr he, if_pos hm]⟩)
  exact ⟨_, ⟨h2, h3⟩, parts_xb h1 hb (fun j _ r _ => whole_cover _ _ _ _ _) _⟩

/-- the parts cover the bag where the edges do -/
theorem parts_cover {bag : List Int} {es : List (List Int)} (hn : ∀ i, i < es.length → (es.getD i []).Nodup) (hc : ∀ r, r < bag.length → ∃ e, e < es.length ∧ bag.getD r 0 ∈ es.getD e []) :
    ∀ r, r < bag.length → ∃ e, e < (partsL bag es).length ∧ bag.getD r 0 ∈ (partsL bag es).getD e [] := by
  intro r hr
  obtain ⟨e, he, hm⟩ := hc r hr
  have h1 : bag.getD r 0 ∈ partL bag (es.getD e []) := part_mem.2 ⟨hm, bag_get_mem hr⟩
  obtain ⟨j, h2, h3, h4⟩ := kept_over hn he (List.length_pos_of_mem h1)
  obtain ⟨p, h5, h6⟩ := kept_find h2 h3
  exact ⟨p, by rw [partsL_length]; exact h5, by rw [partsL_get h5, h6]; exact subB_iff.1 h4 _ h1⟩

end Go.Proofs.Ytnmcgbfhgmmcpaa

/-
  The width of a bag; impl.greatestOf.
-/
namespace Go.Proofs.Ytnmcgbfhgmmcpaa
open Go.RowKit

/-- lists of u whole numbers within 5040 -/
def grdW : Nat → List (List Int)
  | 0 => [[]]
  | u + 1 => (grdW u).flatMap fun l => (List.range 10081).map fun z => (((z : Nat) : Int) - 5040) :: l
def frW (d : Nat) (l : List Int) (j : Nat) : Rat := ((l.getD j 0 : Int) : Rat) / (((d + 1 : Nat) : Int) : Rat)
/-- the covers among the fractions with small parts -/
def cndW (m u : Nat) (M : Nat → Nat → Rat) : List (Nat → Rat) :=
  ((List.range 5040).flatMap fun d => (grdW u).map (frW d)).filter fun y => (List.range u).all (fun e => decide (0 ≤ y e)) && (List.range m).all fun r => decide (1 ≤ Cov.sm u fun e => M r e * y e)
/-- the width of a bag: the least sum of a cover -/
def wdR (es : List (List Int)) (bag : List Int) : Rat :=
  match (cndW bag.length es.length (inc (coverL bag es))).find? (fun y => (cndW bag.length es.length (inc (coverL bag es))).all fun z => decide (Cov.sm es.length y ≤ Cov.sm es.length z)) with
  | some y => Cov.sm es.length y
  | none => 0

theorem grdW_mem : ∀ {u : Nat} {l : List Int}, l.length = u → (∀ z ∈ l, z.natAbs ≤ 5040) → l ∈ grdW u
  | 0, [], _, _ => List.mem_singleton.2 rfl
  | 0, _ :: _, h, _ => by simp at h
  | u + 1, [], h, _ => by simp at h
  | u + 1, z :: l, h, k => by
    have hz := k z List.mem_cons_self
    refine List.mem_flatMap.2 ⟨l, grdW_mem (by simpa using h) fun y hy => k y (List.mem_cons_of_mem _ hy), List.mem_map.2 ⟨(z + 5040).toNat, List.mem_range.2 (by omega), ?_⟩⟩
    rw [show (((z + 5040).toNat : Nat) : Int) - 5040 = z by omega]

theorem parts_frW {u : Nat} {x : Nat → Rat} (h : Parts u x) : ∃ d l, d < 5040 ∧ l ∈ grdW u ∧ ∀ j, j < u → frW d l j = x j := by
  obtain ⟨n, hn, hn2, key⟩ : ∃ n : Nat, 0 < n ∧ n ≤ 5040 ∧ ∀ j, ∃ z : Int, j < u → x j * (((n : Nat) : Int) : Rat) = (z : Rat) ∧ z.natAbs ≤ 5040 := by
    obtain ⟨D, h0, hD, hw⟩ := h
    refine ⟨D.natAbs, by omega, hD, fun j => ?_⟩
    by_cases hj : j < u
    · obtain ⟨z, e, hz⟩ := hw j hj
      rcases Int.natAbs_eq D with k | k
      · exact ⟨z, fun _ => ⟨by rw [← k]; exact e, hz⟩⟩
      · refine ⟨-z, fun _ => ⟨?_, by omega⟩⟩
        rw [show ((D.natAbs : Nat) : Int) = -D by omega, Rat.intCast_neg, Rat.intCast_neg, ← e, Rat.mul_neg]
    · exact ⟨0, fun h => absurd h hj⟩
  refine ⟨n - 1, (List.range u).map fun j => Classical.choose (key j), by omega, grdW_mem (by simp) fun y hy => ?_, fun j hj => ?_⟩
  · obtain ⟨j, hj, rfl⟩ := List.mem_map.1 hy
    exact (Classical.choose_spec (key j) (List.mem_range.1 hj)).2
  · have e := (Classical.choose_spec (key j) hj).1
    have hg : ((List.range u).map fun j => Classical.choose (key j)).getD j 0 = Classical.choose (key j) := by
      rw [List.getD_eq_getElem?_getD, List.getElem?_map, List.getElem?_range hj]; rfl
    unfold frW
    rw [hg, ← e, show n - 1 + 1 = n by omega]
    have h0 : (((n : Nat) : Int) : Rat) ≠ 0 := fun h => by
      have := Rat.intCast_inj.1 (h.trans Rat.intCast_zero.symm); omega
    rw [Rat.div_def, Rat.mul_assoc, Rat.mul_inv_cancel _ h0, Rat.mul_one]

theorem wdR_eq {bag : List Int} {es : List (List Int)} {x : Nat → Rat} (h : CoverBest bag.length es.length (inc (coverL bag es)) x) (hp : Parts es.length x) : Cov.sm es.length x = wdR es bag := by
  obtain ⟨d, l, hd, hl, e⟩ := parts_frW hp
  have hs : Cov.sm es.length (frW d l) = Cov.sm es.length x := Cov.sm_congr e
  have hc : frW d l ∈ cndW bag.length es.length (inc (coverL bag es)) := by
    refine List.mem_filter.2 ⟨List.mem_flatMap.2 ⟨d, List.mem_range.2 hd, List.mem_map.2 ⟨l, hl, rfl⟩⟩, ?_⟩
    rw [Bool.and_eq_true, List.all_eq_true, List.all_eq_true]
    refine ⟨fun i hi => decide_eq_true ?_, fun r hr => decide_eq_true ?_⟩
    · rw [e i (List.mem_range.1 hi)]; exact h.1.1 i (List.mem_range.1 hi)
    · rw [Cov.sm_congr (g := fun e => inc (coverL bag es) r e * x e) fun i hi => by rw [e i hi]]
      exact h.1.2 r (List.mem_range.1 hr)
  have lo : ∀ z ∈ cndW bag.length es.length (inc (coverL bag es)), Cov.sm es.length x ≤ Cov.sm es.length z := fun z hz => by
    have k := (List.mem_filter.1 hz).2
    rw [Bool.and_eq_true, List.all_eq_true, List.all_eq_true] at k
    have := h.2 z ⟨fun i hi => of_decide_eq_true (k.1 i (List.mem_range.2 hi)), fun r hr => of_decide_eq_true (k.2 r (List.mem_range.2 hr))⟩
    unfold Cov.key Cov.Lex at this
    rw [Rat.one_mul, Rat.one_mul] at this
    rcases this with k | k
    · exact Rat.le_of_lt k
    · rw [k.1]; exact Rat.le_refl
  unfold wdR
  cases hf : (cndW bag.length es.length (inc (coverL bag es))).find? (fun y => (cndW bag.length es.length (inc (coverL bag es))).all fun z => decide (Cov.sm es.length y ≤ Cov.sm es.length z)) with
  | none =>
    refine absurd (List.find?_eq_none.1 hf _ hc) (fun k => k (List.all_eq_true.2 fun z hz => decide_eq_true ?_))
    rw [hs]; exact lo z hz
  | some y =>
    have hy := List.find?_some (p := fun y => (cndW bag.length es.length (inc (coverL bag es))).all fun z => decide (Cov.sm es.length y ≤ Cov.sm es.length z)) hf
    have := of_decide_eq_true (List.all_eq_true.1 hy _ hc)
    rw [hs] at this
    exact Rat.le_antisymm (lo y (List.mem_of_find?_eq_some hf)) this

/-- the greatest of the first n, at least 0 -/
def mostN (f : Nat → Rat) : Nat → Rat
  | 0 => 0
  | n + 1 => if mostN f n < f n then f n else mostN f n

theorem mostN_sm {f : Nat → Rat} {B : Nat} (hB : 1 ≤ B) : ∀ {n : Nat}, (∀ i, i < n → Sm B (f i)) → Sm B (mostN f n)
  | 0, _ => ⟨by show (0 : Rat).num.natAbs ≤ B; simp, by show (0 : Rat).den ≤ B; simpa using hB⟩
  | n + 1, h => by
    show Sm B (if mostN f n < f n then f n else mostN f n)
    split
    · exact h n (by omega)
    · exact mostN_sm hB (fun i hi => h i (by omega))

theorem cmpR_gt (p q : Rat) (w : World) (hp : Sm 1000000 p) (hq : Sm 1000000 q) (h : q < p) :
    Calls Try.prog 11 #[.agg #[.int .i64 p.num, .int .i64 p.den], .agg #[.int .i64 q.num, .int .i64 q.den]] w fun e w' => e = .returned (.int .i64 1) ∧ Below w.heap.size w w' :=
  (iCmp_yes _ _ _ _ w (okR_of hp) (okR_of hq)).mono (by
    rintro e w' ⟨rfl, hb⟩
    have h1 := (Rat.lt_iff _ _).1 h
    rw [RatM.sgn_gt _ (by omega)]
    exact ⟨rfl, hb⟩)
theorem cmpR_le (p q : Rat) (w : World) (hp : Sm 1000000 p) (hq : Sm 1000000 q) (h : ¬ q < p) :
    Calls Try.prog 11 #[.agg #[.int .i64 p.num, .int .i64 p.den], .agg #[.int .i64 q.num, .int .i64 q.den]] w fun e w' => ∃ s : Int, e = .returned (.int .i64 s) ∧ ¬ (0 < s) ∧ Below w.heap.size w w' :=
  (iCmp_yes _ _ _ _ w (okR_of hp) (okR_of hq)).mono (by
    rintro e w' ⟨rfl, hb⟩
    have h1 : ¬ _ := fun h2 => h ((Rat.lt_iff _ _).2 h2)
    refine ⟨_, rfl, ?_, hb⟩
    unfold RatM.sgn
    split <;> (try split) <;> omega)

set_option maxHeartbeats 4000000 in
set_option maxRecDepth 1000000 in
theorem greatestOf_calls (w : World) (v : Value) (n : Nat) (f : Nat → Rat) (h : IR w v (prs n f)) (hn : n ≤ 1000) (hf : ∀ i, i < n → Sm 1000000 (f i)) :
    Calls Try.prog 99 #[v] w fun e w' => e = .returned (.agg #[.int .i64 (mostN f n).num, .int .i64 (mostN f n).den]) ∧ Below w.heap.size w w' := by
  obtain ⟨a, cap, rfl, hc⟩ := h
  rw [prs_length] at hc ⊢
  have HC : Hid (n = 0 ∨ ∃ b o, a = some ⟨b, o, none⟩ ∧ ∀ j, j < n → w.cell? ⟨b, o + j * 2, none⟩ = some (.int .i64 (f j).num) ∧ w.cell? ⟨b, o + j * 2 + 1, none⟩ = some (.int .i64 (f j).den)) := by
    rcases hc with h0 | ⟨b, o, e, hcell⟩
    · exact Or.inl h0
    · refine Or.inr ⟨b, o, e, fun j hj => ?_⟩
      have := hcell j hj
      rw [prs_get hj] at this
      exact this
  have HF := hid hf
  have HM : Hid (∀ k, k ≤ n → Sm 1000000 (mostN f k)) := hid fun k hk => mostN_sm (by omega) (fun i hi => hf i (by omega))
  have HS1 : Hid (∀ k, mostN f k < f k → mostN f (k + 1) = f k) := hid fun k hk => by show (if _ then _ else _) = _; rw [if_pos hk]
  have HS2 : Hid (∀ k, ¬ mostN f k < f k → mostN f (k + 1) = mostN f k) := hid fun k hk => by show (if _ then _ else _) = _; rw [if_neg hk]
  have H0 : Hid (mostN f 0 = 0) := hid rfl
  clear hc hf
  generalize mostN f = MN at *
  go_enter Try.func99, Try.ntmps99
  go_wp2
  have hbb : Below w.heap.size w ((w.alloc (.cells #[.int .i64 0, .int .i64 0] 28)).alloc (.cells #[.int .i64 0, .int .i64 1] 28)) := ((Below.refl _ _).alloc (Nat.le_refl _) _).alloc (by simp) _
  have t1 : Two ((w.alloc (.cells #[.int .i64 0, .int .i64 0] 28)).alloc (.cells #[.int .i64 0, .int .i64 1] 28)) w.heap.size 0 0 :=
    ⟨by rw [World.cell?_alloc_past _ _ _ (by simp), World.cell?_alloc_at _ _ _ _ rfl]; rfl, by rw [World.cell?_alloc_past _ _ _ (by simp), World.cell?_alloc_at _ _ _ _ rfl]; rfl, by rw [World.frozen?_alloc_past _ _ _ (by simp), World.frozen?_alloc_at _ _ _ _ rfl], by rw [World.frozen?_alloc_past _ _ _ (by simp), World.frozen?_alloc_at _ _ _ _ rfl]⟩
  have t2 : Two ((w.alloc (.cells #[.int .i64 0, .int .i64 0] 28)).alloc (.cells #[.int .i64 0, .int .i64 1] 28)) (w.heap.size + 1) 0 1 :=
    ⟨by rw [World.cell?_alloc_at _ _ _ _ (by simp)]; rfl, by rw [World.cell?_alloc_at _ _ _ _ (by simp)]; rfl, World.frozen?_alloc_at _ _ _ _ (by simp), World.frozen?_alloc_at _ _ _ _ (by simp)⟩
  have T1 := hid t1
  have T2 := hid t2
  have HBB := hid hbb
  clear t1 t2 hbb
  go_loopw [9] (fun t wr => ∃ k : Nat, k ≤ n ∧ t = .int .i64 k ∧ w.heap.size + 1 < wr.heap.size ∧ Hid (Below w.heap.size w wr ∧ Two wr w.heap.size 0 0 ∧ Two wr (w.heap.size + 1) (MN k).num (MN k).den)) (fun t _ => n - (intOf t).toNat)
  case atStart => exact ⟨0, Nat.zero_le _, rfl, by simp, hid ⟨HBB.out, T1.out, by rw [H0.out]; exact T2.out⟩⟩
  case round =>
    clear T1 T2 HBB
    obtain ⟨k, hk, rfl, hsz, hH⟩ := hrel
    by_cases hkn : k < n
    · have i1 : (k : Int) < (n : Int) := by omega
      rcases HC.out with h0 | ⟨b, o, rfl, hcell⟩
      · omega
      · obtain ⟨hnx, hT1, hT2⟩ := hH.out
        obtain ⟨d1, d2⟩ := hcell k hkn
        have c1 := (hnx.cell (p := ⟨b, o + k * 2, none⟩) (World.block_lt_of_cell? w _ d1)).trans d1
        have c2 := (hnx.cell (p := ⟨b, o + k * 2 + 1, none⟩) (World.block_lt_of_cell? w _ d2)).trans d2
        have c3 := hT2.1
        have c4 := hT2.2.1
        have HH := hid (And.intro hnx (And.intro hT1 hT2))
        have HBA : Hid (∀ ob, Below wr.heap.size wr (wr.alloc ob)) := hid fun ob => (Below.refl _ _).alloc (Nat.le_refl _) ob
        have HFK := hid (HF.out k hkn)
        have HMK := hid (HM.out k hk)
        have hs1 := HS1.out k
        have hs2 := HS2.out k
        clear hcell d1 d2 hnx hT1 hT2 hH
        have z1 : ∀ x y : Value, (wr.alloc (.cells #[x, y] 28)).cell? ⟨wr.heap.size, 0, none⟩ = some x := fun x y => by rw [World.cell?_alloc_at _ _ _ _ rfl]; rfl
        have z2 : ∀ x y : Value, (wr.alloc (.cells #[x, y] 28)).cell? ⟨wr.heap.size, 1, none⟩ = some y := fun x y => by rw [World.cell?_alloc_at _ _ _ _ rfl]; rfl
        have Z1 := hid z1
        have Z2 := hid z2
        clear z1 z2
        by_cases hlt : MN k < f k
        · have HE := hid (hs1 hlt)
          have HK : Hid (∀ w, _) := hid (fun w => cmpR_gt (f k) (MN k) w HFK.out HMK.out hlt)
          clear hs1 hs2 hlt
          generalize hx : (f k).num = x at *
          generalize hy : ((f k).den : Int) = y at *
          have HX := hid hx
          have HY := hid hy
          clear hx hy
          generalize (MN k).num = x0 at *
          generalize ((MN k).den : Int) = y0 at *
          go_wp2_with fail
          refine (HK.out _).mono ?_
          rintro e w2 ⟨rfl, hb2⟩
          have hb3 := bt (HBA.out _) hb2
          have q1 := HH.out.2.1.below (by omega) hb3
          have q2 := HH.out.2.2.below (by omega) hb3
          have q3 := bt HH.out.1 hb3
          have q4 := hb3.size
          have f1 := bclp hb2 (Z1.out _ _)
          have f2 := bclp hb2 (Z2.out _ _)
          have e1 := q2.1
          have e2 := q2.2.1
          have e3 := q2.2.2.1
          have e4 := q2.2.2.2
          have HQ := hid (And.intro q1 (And.intro q2 q3))
          clear hb2 hb3 q1 q2 q3 Z1 Z2
          go_wp2_with fail
          go_roundw
          case rel => exact ⟨k + 1, by omega, by go_num, by simp [World.setCell]; omega, hid ⟨(HQ.out.2.2.setCell (by show w.heap.size ≤ w.heap.size + 1; omega) _).setCell (by show w.heap.size ≤ w.heap.size + 1; omega) _, HQ.out.1.other (by omega) _ _, by rw [HE.out, HX.out, HY.out]; exact HQ.out.2.1.set _ _⟩⟩
          case measure => simp [intOf]; omega
        · have HE := hid (hs2 hlt)
          have HK : Hid (∀ w, _) := hid (fun w => cmpR_le (f k) (MN k) w HFK.out HMK.out hlt)
          clear hs1 hs2 hlt
          generalize (f k).num = x at *
          generalize ((f k).den : Int) = y at *
          generalize hx : (MN k).num = x0 at *
          generalize hy : ((MN k).den : Int) = y0 at *
          have HX := hid hx
          have HY := hid hy
          clear hx hy
          go_wp2_with fail
          refine (HK.out _).mono ?_
          rintro e w2 ⟨s, rfl, hs, hb2⟩
          have hb3 := bt (HBA.out _) hb2
          have q1 := HH.out.2.1.below (by omega) hb3
          have q2 := HH.out.2.2.below (by omega) hb3
          have q3 := bt HH.out.1 hb3
          have q4 := hb3.size
          have HQ := hid (And.intro q1 (And.intro q2 q3))
          clear hb2 hb3 q1 q2 q3 Z1 Z2
          go_wp2_with fail
          go_roundw
          case rel => exact ⟨k + 1, by omega, by go_num, by omega, hid ⟨HQ.out.2.2, HQ.out.1, by rw [HE.out, HX.out, HY.out]; exact HQ.out.2.1⟩⟩
          case measure => simp [intOf]; omega
    · obtain rfl : k = n := by omega
      have i1 : ¬ ((k : Int) < (k : Int)) := by omega
      obtain ⟨hnx, hT1, hT2⟩ := hH.out
      have c1 := hT1.1
      have c2 := hT1.2.1
      have c3 := hT1.2.2.1
      have c4 := hT1.2.2.2
      have e1 := hT2.1
      have e2 := hT2.2.1
      obtain ⟨x, hx⟩ : ∃ t, t = (MN k).num := ⟨_, rfl⟩
      obtain ⟨y, hy⟩ : ∃ t : Int, t = (MN k).den := ⟨_, rfl⟩
      rw [← hx] at e1
      rw [← hy] at e2
      have HX := hid hx
      have HY := hid hy
      have HQ := hid (And.intro hnx (hT1.set x y))
      clear hH hT1 hT2 hx hy hnx
      go_wp2
      have r1 := HQ.out.2.1
      have r2 := HQ.out.2.2.1
      refine bodyPost_ret (v := .agg #[.int .i64 x, .int .i64 y]) (by simp [results, Try.results99, go_sem, r1, r2]) rfl ⟨by rw [HX.out, HY.out], (HQ.out.1.setCell (Nat.le_refl _) _).setCell (Nat.le_refl _) _⟩

end Go.Proofs.Ytnmcgbfhgmmcpaa
