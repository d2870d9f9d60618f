import Derived.Test.YthokafaooihmbaaFc24
/-
  Plain mathematics of spec.CoverOf: its demands say 'a cover' | 'a packing'.
-/
namespace Go.Proofs.Ythokafaooihmbaa
open Go.RowKit

def unitsD (n : Nat) : List Dem := (List.range n).map fun i => ⟨[i], false, 0⟩
def rowsD (L : List (List Nat)) : List Dem := L.map fun l => ⟨l, false, 1⟩
def capsD (L : List (List Nat)) : List Dem := (L.filter fun l => !l.isEmpty).map fun l => ⟨l, true, 1⟩
def coverD (bag : List Int) (es : List (List Int)) : List Dem := rowsD (coverL bag es) ++ unitsD es.length
def packD (bag : List Int) (es : List (List Int)) : List Dem := capsD (packL bag es) ++ unitsD bag.length

theorem unit_at {n i : Nat} (hi : i < n) (b : Bool) (z : Int) (x : Nat → Rat) : (Dem.dm ⟨[i], b, z⟩).at n x = x i := by
  show Cov.sm n (fun j => (if j ∈ [i] then 1 else 0) * x j) = x i
  rw [Cov.sm_single hi (fun j _ hne => by rw [if_neg (fun h => hne (List.mem_singleton.1 h))]; grind), if_pos (List.mem_singleton.2 rfl)]
  grind

theorem unitsD_meets {n : Nat} {x : Nat → Rat} : (∀ D ∈ unitsD n, D.dm.meets n x) ↔ ∀ i, i < n → 0 ≤ x i := by
  constructor
  · intro h i hi
    have := h ⟨[i], false, 0⟩ (List.mem_map.2 ⟨i, List.mem_range.2 hi, rfl⟩)
    have e := unit_at hi false 0 x
    unfold Cov.Dm.meets at this
    rw [e] at this
    exact this
  · intro h D hD
    obtain ⟨i, hi, rfl⟩ := List.mem_map.1 hD
    have hi := List.mem_range.1 hi
    unfold Cov.Dm.meets
    rw [unit_at hi]
    exact h i hi

theorem getD_of_mem {L : List (List Nat)} {l : List Nat} (h : l ∈ L) : ∃ r, r < L.length ∧ L.getD r [] = l := mem_getD' h

theorem inP_cover {bag : List Int} {es : List (List Int)} {x : Nat → Rat} : InP es.length (coverD bag es) x ↔ Cov.Cover bag.length es.length (inc (coverL bag es)) x := by
  unfold InP coverD Cov.Cover
  rw [show (∀ D ∈ rowsD (coverL bag es) ++ unitsD es.length, D.dm.meets es.length x) ↔ (∀ D ∈ rowsD (coverL bag es), D.dm.meets es.length x) ∧ (∀ D ∈ unitsD es.length, D.dm.meets es.length x) from
    ⟨fun h => ⟨fun D hD => h D (List.mem_append.2 (Or.inl hD)), fun D hD => h D (List.mem_append.2 (Or.inr hD))⟩, fun h D hD => (List.mem_append.1 hD).elim (h.1 D) (h.2 D)⟩, unitsD_meets, and_comm]
  refine and_congr Iff.rfl ?_
  constructor
  · intro h r hr
    rw [← coverL_len bag es] at hr
    exact h ⟨(coverL bag es).getD r [], false, 1⟩ (List.mem_map.2 ⟨_, getD_mem' hr, rfl⟩)
  · intro h D hD
    obtain ⟨l, hl, rfl⟩ := List.mem_map.1 hD
    obtain ⟨r, hr, rfl⟩ := getD_of_mem hl
    rw [coverL_len] at hr
    exact h r hr

theorem inP_pack {bag : List Int} {es : List (List Int)} {x : Nat → Rat} : InP bag.length (packD bag es) x ↔ Cov.Pack es.length bag.length (inc (packL bag es)) x := by
  unfold InP packD Cov.Pack
  rw [show (∀ D ∈ capsD (packL bag es) ++ unitsD bag.length, D.dm.meets bag.length x) ↔ (∀ D ∈ capsD (packL bag es), D.dm.meets bag.length x) ∧ (∀ D ∈ unitsD bag.length, D.dm.meets bag.length x) from
    ⟨fun h => ⟨fun D hD => h D (List.mem_append.2 (Or.inl hD)), fun D hD => h D (List.mem_append.2 (Or.inr hD))⟩, fun h D hD => (List.mem_append.1 hD).elim (h.1 D) (h.2 D)⟩, unitsD_meets, and_comm]
  refine and_congr Iff.rfl ?_
  constructor
  · intro h r hr
    rw [← packL_len bag es] at hr
    by_cases he : (packL bag es).getD r [] = []
    · have : Cov.sm bag.length (fun e => inc (packL bag es) r e * x e) = 0 := Cov.sm_zero (fun i _ => by
        unfold inc
        rw [he, if_neg (by simp)]; grind)
      rw [this]
      decide
    · exact h ⟨(packL bag es).getD r [], true, 1⟩ (List.mem_map.2 ⟨_, List.mem_filter.2 ⟨getD_mem' hr, by simpa using he⟩, rfl⟩)
  · intro h D hD
    obtain ⟨l, hl, rfl⟩ := List.mem_map.1 hD
    obtain ⟨r, hr, rfl⟩ := getD_of_mem (List.mem_filter.1 hl).1
    rw [packL_len] at hr
    exact h r hr

theorem star_cover {bag : List Int} {es : List (List Int)} {x : Nat → Rat} (h : CoverBest bag.length es.length (inc (coverL bag es)) x) : Star es.length false (coverD bag es) x :=
  ⟨inP_cover.2 h.1, fun y hy => h.2 y (inP_cover.1 hy)⟩
theorem star_pack {bag : List Int} {es : List (List Int)} {x : Nat → Rat} (h : PackBest es.length bag.length (inc (packL bag es)) x) : Star bag.length true (packD bag es) x :=
  ⟨inP_pack.2 h.1, fun y hy => h.2 y (inP_pack.1 hy)⟩

theorem plN_nodup (p : Nat → Bool) (k : Nat) : (plN p k).Nodup := List.Pairwise.filter _ List.nodup_range

theorem coverD_ok {bag : List Int} {es : List (List Int)} (he : es.length ≤ 7) : ∀ D ∈ coverD bag es, DemOk es.length D := by
  intro D hD
  rcases List.mem_append.1 hD with h | h
  · obtain ⟨l, hl, rfl⟩ := List.mem_map.1 h
    obtain ⟨v, _, rfl⟩ := List.mem_map.1 hl
    exact ⟨plN_nodup _ _, fun i hi => (plN_mem.1 hi).1, Nat.le_trans (plN_len _ _) he, Or.inr rfl⟩
  · obtain ⟨i, hi, rfl⟩ := List.mem_map.1 h
    exact ⟨by simp, fun j hj => by rw [List.mem_singleton.1 hj]; exact List.mem_range.1 hi, by simp, Or.inl rfl⟩

theorem packD_ok {bag : List Int} {es : List (List Int)} (he : bag.length ≤ 6) : ∀ D ∈ packD bag es, DemOk bag.length D := by
  intro D hD
  rcases List.mem_append.1 hD with h | h
  · obtain ⟨l, hl, rfl⟩ := List.mem_map.1 h
    obtain ⟨v, _, rfl⟩ := List.mem_map.1 (List.mem_filter.1 hl).1
    exact ⟨plN_nodup _ _, fun i hi => (plN_mem.1 hi).1, Nat.le_trans (plN_len _ _) (by omega), Or.inr rfl⟩
  · obtain ⟨i, hi, rfl⟩ := List.mem_map.1 h
    exact ⟨by simp, fun j hj => by rw [List.mem_singleton.1 hj]; exact List.mem_range.1 hi, by simp, Or.inl rfl⟩

theorem coverD_len (bag : List Int) (es : List (List Int)) : (coverD bag es).length = bag.length + es.length := by
  simp [coverD, rowsD, unitsD, coverL_len]
theorem packD_len (bag : List Int) (es : List (List Int)) : (packD bag es).length ≤ es.length + bag.length := by
  have := List.length_filter_le (fun l : List Nat => !l.isEmpty) (packL bag es)
  rw [packL_len] at this
  simp only [packD, capsD, unitsD, List.length_append, List.length_map, List.length_range]
  omega

theorem prs_congr {n : Nat} {x y : Nat → Rat} (h : ∀ i, i < n → x i = y i) : prs n x = prs n y := by
  unfold prs
  exact List.map_congr_left (fun i hi => by rw [h i (List.mem_range.1 hi)])

theorem sm_none {n : Nat} {x : Nat → Rat} (h : ∀ i, i < n → 0 ≤ x i) (hs : Cov.sm n x ≤ 0) : ∀ i, i < n → x i = 0 := by
  have key : ∀ k, k ≤ n → 0 ≤ Cov.sm k x := by
    intro k hk
    induction k with
    | zero => exact Rat.le_refl
    | succ k ih =>
      have h1 := ih (by omega)
      have h2 := h k (by omega)
      show 0 ≤ Cov.sm k x + x k
      grind
  have : ∀ k, k ≤ n → Cov.sm k x ≤ 0 → ∀ i, i < k → x i = 0 := by
    intro k hk
    induction k with
    | zero => intro _ i hi; omega
    | succ k ih =>
      intro hs i hi
      have h1 := key k (by omega)
      have h2 := h k (by omega)
      have h3 : Cov.sm k x + x k ≤ 0 := hs
      by_cases e : i = k
      · subst e; grind
      · exact ih (by omega) (by grind) i (by omega)
  exact this n (Nat.le_refl _) hs

theorem cover_none {u : Nat} {M : Nat → Nat → Rat} {x : Nat → Rat} (h : CoverBest 0 u M x) : ∀ i, i < u → x i = 0 := by
  have h1 := h.2 (fun _ => 0) ⟨fun _ _ => Rat.le_refl, fun r hr => by omega⟩
  have e : Cov.sm u (fun _ => (0 : Rat)) = 0 := Cov.sm_zero (fun _ _ => rfl)
  refine sm_none h.1.1 ?_
  rcases h1 with h1 | ⟨h1, _⟩
  · rw [e] at h1; grind
  · rw [e] at h1; grind

end Go.Proofs.Ythokafaooihmbaa
