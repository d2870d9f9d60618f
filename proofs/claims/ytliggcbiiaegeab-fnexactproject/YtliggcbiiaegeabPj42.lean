import Derived.Test.YtliggcbiiaegeabPj41
/-
  The places of variables: what a table's projection is.
-/
namespace Go.Proofs.Ytliggcbiiaegeab

theorem uniqI : ∀ {a b : List Int}, a.Pairwise (· < ·) → b.Pairwise (· < ·) → (∀ x, x ∈ a ↔ x ∈ b) → a = b
  | [], [], _, _, _ => rfl
  | [], y :: b, _, _, h => by have := (h y).2 (List.mem_cons_self ..); cases this
  | x :: a, [], _, _, h => by have := (h x).1 (List.mem_cons_self ..); cases this
  | x :: a, y :: b, ha, hb, h => by
    rw [List.pairwise_cons] at ha hb
    have hxy : x = y := by
      rcases List.mem_cons.1 ((h x).1 (List.mem_cons_self ..)) with e | e
      · exact e
      · rcases List.mem_cons.1 ((h y).2 (List.mem_cons_self ..)) with e2 | e2
        · exact e2.symm
        · have h1 := hb.1 x e
          have h2 := ha.1 y e2
          omega
    subst hxy
    rw [uniqI (a := a) (b := b) ha.2 hb.2 fun z => ?_]
    constructor
    · intro hz
      rcases List.mem_cons.1 ((h z).1 (List.mem_cons_of_mem _ hz)) with e | e
      · subst e; have := ha.1 _ hz; omega
      · exact e
    · intro hz
      rcases List.mem_cons.1 ((h z).2 (List.mem_cons_of_mem _ hz)) with e | e
      · subst e; have := hb.1 _ hz; omega
      · exact e

theorem vlF_at : ∀ (vs r : List Int) (p : Nat), vs.Pairwise (· < ·) → p < vs.length → vlF vs r (vs.getD p 0) = r.getD p 0
  | [], _, p, _, h => by simp at h
  | x :: vs, r, 0, _, _ => by simp [vlF]
  | x :: vs, r, p + 1, h, hp => by
    rw [List.pairwise_cons] at h
    simp only [List.length_cons] at hp
    have hm : vs.getD p 0 ∈ vs := by rw [List.getD_eq_getElem?_getD, List.getElem?_eq_getElem (by omega)]; exact List.getElem_mem _
    have hlt := h.1 _ hm
    show vlF (x :: vs) r (vs.getD p 0) = _
    rw [vlF, if_neg (by omega), vlF_at vs (r.drop 1) p h.2 (by omega), getD_drop, Nat.add_comm]

theorem places_vals (vs vars : List Int) : (plc (fun i => decide (vs.getD i 0 ∈ vars)) vs.length).map (fun p => vs.getD p.toNat 0) = vs.filter (fun x => decide (x ∈ vars)) := by
  unfold plc
  rw [List.map_map]
  have e : vs = (List.range vs.length).map (fun i => vs.getD i 0) := by
    refine List.ext_getElem? fun i => ?_
    by_cases h : i < vs.length
    · rw [List.getElem?_map, List.getElem?_range h, List.getElem?_eq_getElem h, Option.map_some, List.getD_eq_getElem?_getD, List.getElem?_eq_getElem h]; rfl
    · rw [List.getElem?_eq_none (by omega), List.getElem?_eq_none (by simp; omega)]
  have h2 : vs.filter (fun x => decide (x ∈ vars)) = ((List.range vs.length).filter fun i => decide (vs.getD i 0 ∈ vars)).map fun i => vs.getD i 0 := by
    conv => lhs; rw [e]
    rw [List.filter_map]
    rfl
  rw [h2]
  rfl

theorem proj_row {vs vars r : List Int} (h1 : vs.Pairwise (· < ·)) (h2 : vars.Pairwise (· < ·)) (hs : ∀ x ∈ vars, x ∈ vs) : atP r (plc (fun i => decide (vs.getD i 0 ∈ vars)) vs.length) = prjR vs vars r := by
  have hv : vs.filter (fun x => decide (x ∈ vars)) = vars := uniqI (h1.filter _) h2 fun x => by
    rw [List.mem_filter, decide_eq_true_eq]
    exact ⟨fun h => h.2, fun h => ⟨hs x h, h⟩⟩
  unfold prjR atP
  conv => rhs; rw [← hv, ← places_vals]
  rw [List.map_map]
  refine List.map_congr_left fun p hp => ?_
  unfold plc at hp
  rw [List.mem_map] at hp
  obtain ⟨j, hj, e⟩ := hp
  rw [List.mem_filter, List.mem_range] at hj
  simp only [Int.ofNat_eq_natCast] at e
  subst e
  simp only [Function.comp_apply, Int.toNat_natCast]
  rw [vlF_at vs r j h1 hj.1]
theorem proj_rows {vs vars : List Int} {rows : List (List Int)} (h1 : vs.Pairwise (· < ·)) (h2 : vars.Pairwise (· < ·)) (hs : ∀ x ∈ vars, x ∈ vs) : prjL rows (plc (fun i => decide (vs.getD i 0 ∈ vars)) vs.length) = rows.map (prjR vs vars) :=
  List.map_congr_left fun _ _ => proj_row h1 h2 hs

def subQ (a b : List Int) : Bool := a.all fun x => decide (x ∈ b)
theorem places_short (a b : List Int) : decide ((plc (fun i => decide (a.getD i 0 ∈ b)) a.length).length < a.length) = !subQ a b := by
  have key : ∀ n, (∀ i, i < n → decide (a.getD i 0 ∈ b) = true) ∧ (plc (fun i => decide (a.getD i 0 ∈ b)) n).length = n ∨ (∃ i, i < n ∧ decide (a.getD i 0 ∈ b) = false) ∧ (plc (fun i => decide (a.getD i 0 ∈ b)) n).length < n := by
    intro n
    induction n with
    | zero => exact Or.inl ⟨fun i hi => by omega, rfl⟩
    | succ n ih =>
      cases hd : decide (a.getD n 0 ∈ b)
      · have := plc_le (fun i => decide (a.getD i 0 ∈ b)) n
        rw [plc_miss _ _ hd]
        exact Or.inr ⟨⟨n, by omega, hd⟩, by omega⟩
      · rw [plc_hit _ _ hd, List.length_append, List.length_singleton]
        rcases ih with ⟨h1, h2⟩ | ⟨⟨i, hi, h1⟩, h2⟩
        · refine Or.inl ⟨fun i hi => ?_, by omega⟩
          by_cases e : i = n
          · rw [e]; exact hd
          · exact h1 i (by omega)
        · exact Or.inr ⟨⟨i, by omega, h1⟩, by omega⟩
  unfold subQ
  rcases key a.length with ⟨h1, h2⟩ | ⟨⟨i, hi, h1⟩, h2⟩
  · rw [decide_eq_false (by omega)]
    have : (a.all fun x => decide (x ∈ b)) = true := by
      rw [List.all_eq_true]
      intro x hx
      obtain ⟨i, hi, e⟩ := List.getElem_of_mem hx
      have := h1 i hi
      rw [List.getD_eq_getElem?_getD, List.getElem?_eq_getElem hi, Option.getD_some, e] at this
      exact this
    rw [this]; rfl
  · rw [decide_eq_true h2]
    have : (a.all fun x => decide (x ∈ b)) = false := by
      rw [List.all_eq_false]
      refine ⟨a[i], List.getElem_mem _, ?_⟩
      rw [List.getD_eq_getElem?_getD, List.getElem?_eq_getElem hi, Option.getD_some] at h1
      rw [h1]; decide
    rw [this]; rfl

end Go.Proofs.Ytliggcbiiaegeab
