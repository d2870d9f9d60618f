import Derived.Lib.CountLaws
import Derived.Test.YtcgboccdffgkfaaDoorPa24
/-
  The library's cutting at one byte is ours.
-/
namespace Go.Proofs.YtcgboccdffgkfaaDoor

theorem spl_part (c : UInt8) : ∀ l : List UInt8, (∀ x ∈ l, x ≠ c) ∨ ∃ a r, l = a ++ c :: r ∧ ∀ x ∈ a, x ≠ c
  | [] => Or.inl fun x hx => by cases hx
  | x :: l => by
    by_cases e : x = c
    · exact Or.inr ⟨[], l, by rw [e]; rfl, fun y hy => by cases hy⟩
    · rcases spl_part c l with h | ⟨a, r, h1, h2⟩
      · exact Or.inl fun y hy => by
          rcases List.mem_cons.1 hy with rfl | hy
          · exact e
          · exact h y hy
      · exact Or.inr ⟨x :: a, r, by rw [h1]; rfl, fun y hy => by
          rcases List.mem_cons.1 hy with rfl | hy
          · exact e
          · exact h2 y hy⟩
theorem occ_no {l : List UInt8} {c : UInt8} {j : Nat} (h : l[j]? ≠ some c) : Lib.occAt l [c] j = false := by
  cases e : Lib.occAt l [c] j
  · rfl
  · exact absurd (Lib.occAt_head rfl e) h
theorem split_spl (c : UInt8) : ∀ (k : Nat) (l : List UInt8), l.length ≤ k → Lib.splitK [c] 0 (Lib.count l [c]) l = spl c l := by
  intro k
  induction k with
  | zero =>
    intro l h
    obtain rfl : l = [] := List.length_eq_zero_iff.1 (by omega)
    rw [Lib.count_miss (Lib.index_none fun j hj => occ_no (by simp))]
    rfl
  | succ k ih =>
    intro l h
    rcases spl_part c l with h1 | ⟨a, r, rfl, h2⟩
    · rw [Lib.count_miss (Lib.index_none fun j hj => occ_no fun e => h1 c (List.mem_of_getElem? e) rfl), spl_none h1]
      rfl
    · have hi : Lib.index (a ++ c :: r) [c] = (a.length : Int) := Lib.index_first (by simp) (by unfold Lib.occAt; simp) fun j hj => occ_no fun e => by
        rw [List.getElem?_append_left hj] at e
        exact h2 c (List.mem_of_getElem? e) rfl
      have hd : (a ++ c :: r).drop (a.length + 1) = r := by
        rw [← List.drop_drop, List.drop_left]; rfl
      rw [Lib.count_hit (by simp) hi, List.length_singleton, hd, Nat.add_comm 1, Lib.splitK, if_neg (by rw [hi]; simp), hi, List.length_singleton, spl_cut r h2]
      show List.take (a.length + 0) (a ++ c :: r) :: Lib.splitK [c] 0 (Lib.count r [c]) (List.drop (a.length + 1) (a ++ c :: r)) = _
      rw [hd, Nat.add_zero, List.take_left, ih r (by rw [List.length_append, List.length_cons] at h; omega)]

theorem splitB_spl (s : ByteArray) (c : UInt8) : Lib.splitB ⟨#[c]⟩ 0 (Lib.countB s ⟨#[c]⟩) s = (spl c s.data.toList).map fun l => ⟨l.toArray⟩ := by
  have h := Lib.splitB_data ⟨#[c]⟩ 0 (Lib.countB s ⟨#[c]⟩) s
  have h2 : Lib.splitK [c] 0 (Lib.countB s ⟨#[c]⟩) s.data.toList = spl c s.data.toList := split_spl c _ _ (Nat.le_refl _)
  rw [show (⟨#[c]⟩ : ByteArray).data.toList = [c] from rfl, h2] at h
  rw [← h, List.map_map]
  symm
  rw [List.map_congr_left (g := id) (fun x _ => by simp), List.map_id]

end Go.Proofs.YtcgboccdffgkfaaDoor
