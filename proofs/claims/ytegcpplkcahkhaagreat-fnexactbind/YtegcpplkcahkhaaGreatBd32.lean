import Derived.Lib.Split
/-
  A text cut at a byte, read from the left.
-/
namespace Go.Proofs.YtegcpplkcahkhaaGreat

def spl (c : UInt8) : List UInt8 → List (List UInt8)
  | [] => [[]]
  | x :: r => if x = c then [] :: spl c r else (x :: (spl c r).headD []) :: (spl c r).tail
theorem spl_none {c : UInt8} : ∀ {a : List UInt8}, (∀ x ∈ a, x ≠ c) → spl c a = [a]
  | [], _ => rfl
  | x :: r, h => by
    rw [spl, if_neg (h x (List.mem_cons_self ..)), spl_none fun y hy => h y (List.mem_cons_of_mem _ hy)]
    rfl
theorem spl_cut {c : UInt8} (r : List UInt8) : ∀ {a : List UInt8}, (∀ x ∈ a, x ≠ c) → spl c (a ++ c :: r) = a :: spl c r
  | [], _ => by rw [List.nil_append, spl, if_pos rfl]
  | x :: a, h => by
    rw [List.cons_append, spl, if_neg (h x (List.mem_cons_self ..)), spl_cut r fun y hy => h y (List.mem_cons_of_mem _ hy)]
    rfl

/-- the pieces ahead of place i, and where the last one begins -/
def sP (c : UInt8) (l : List UInt8) : Nat → List (List UInt8) × Nat
  | 0 => ([], 0)
  | i + 1 => if l.getD i 0 = c then ((sP c l i).1 ++ [(l.take i).drop (sP c l i).2], i + 1) else sP c l i

theorem sP_inv (c : UInt8) (l : List UInt8) : ∀ i, i ≤ l.length → (sP c l i).2 ≤ i ∧ (∀ x ∈ (l.take i).drop (sP c l i).2, x ≠ c) ∧ spl c l = (sP c l i).1 ++ spl c (l.drop (sP c l i).2)
  | 0, _ => ⟨Nat.le_refl _, fun x hx => by simp [sP] at hx, rfl⟩
  | i + 1, hi => by
    obtain ⟨h1, h2, h3⟩ := sP_inv c l i (by omega)
    have hlt : i < l.length := by omega
    have hg : l.getD i 0 = l[i] := by rw [List.getD_eq_getElem?_getD, List.getElem?_eq_getElem hlt]; rfl
    have ht : l.take (i + 1) = l.take i ++ [l[i]] := by rw [List.take_add_one, List.getElem?_eq_getElem hlt]; rfl
    rw [sP]
    by_cases e : l.getD i 0 = c
    · rw [if_pos e]
      refine ⟨Nat.le_refl _, fun x hx => ?_, ?_⟩
      · dsimp only at hx
        rw [List.drop_eq_nil_of_le (by rw [List.length_take]; omega)] at hx
        cases hx
      · dsimp only
        have hs : l.drop (sP c l i).2 = (l.take i).drop (sP c l i).2 ++ c :: l.drop (i + 1) := by
          have : l = l.take i ++ (c :: l.drop (i + 1)) := by
            rw [← e, hg, List.getElem_cons_drop, List.take_append_drop]
          have hf : ∀ f, f ≤ i → l.drop f = (l.take i).drop f ++ c :: l.drop (i + 1) := fun f hf => by
            have h9 := congrArg (List.drop f) this
            rwa [List.drop_append_of_le_length (by rw [List.length_take]; omega)] at h9
          exact hf _ h1
        rw [h3, hs, spl_cut _ h2, List.append_assoc]
        rfl
    · rw [if_neg e]
      refine ⟨by omega, fun x hx => ?_, h3⟩
      rw [ht, List.drop_append_of_le_length (by rw [List.length_take]; omega)] at hx
      rcases List.mem_append.1 hx with hx | hx
      · exact h2 x hx
      · rw [List.mem_singleton.1 hx, ← hg]; exact e
theorem sP_spl (c : UInt8) (l : List UInt8) : spl c l = (sP c l l.length).1 ++ [l.drop (sP c l l.length).2] := by
  obtain ⟨h1, h2, h3⟩ := sP_inv c l l.length (Nat.le_refl _)
  rw [List.take_length] at h2
  rw [h3, spl_none h2]

end Go.Proofs.YtegcpplkcahkhaaGreat
