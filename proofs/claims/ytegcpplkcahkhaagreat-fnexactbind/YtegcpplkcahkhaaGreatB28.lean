import Derived.Test.YtegcpplkcahkhaaGreatB27
/-
  impl.Intersect, walked.
-/
namespace Go.Proofs.YtegcpplkcahkhaaGreat
open Go.RowKit Meet

theorem own_grown {w w' : World} {B n s : Nat} {e : TypeId} {v : Value} {xs : List Value} {row : Option Nat} (h : w.ownsRow B e s v n xs) (hg : w.grownBy w' row) (hne : ∀ k, v.ownBlock = some k → some k ≠ row) : w'.ownsRow B e s v n xs := by
  have hlt := h.lt
  obtain ⟨h1, h2⟩ := h
  refine ⟨h1, ?_⟩
  rcases h2 with h2 | ⟨g, cap, cur, rfl, hb, hc, hr⟩
  · exact Or.inl h2
  · exact Or.inr ⟨g, cap, cur, rfl, hb, (hg.block g (hlt g rfl).2 (hne g rfl)).trans hc, hr⟩

theorem own_drewN {w : World} {B n s : Nat} {e : TypeId} {v : Value} {xs : List Value} (h : w.ownsRow B e s v n xs) (d : Nat) : (w.drewN d).ownsRow B e s v n xs := h

theorem got_len {ls : List (List Int)} {p : Nat → Nat} {acc : List Int} (h : Got ls p acc) : acc.length ≤ (ls.getD 0 []).length := by
  rw [h.acc]
  refine Nat.le_trans (List.length_filter_le _ _) ?_
  rw [List.length_take]; omega

end Go.Proofs.YtegcpplkcahkhaaGreat

/-
  impl.Intersect, walked.
-/
namespace Go.Proofs.YtegcpplkcahkhaaGreat
open Go.RowKit Meet

theorem common_no {ls : List (List Int)} (h : ¬ (1 ≤ ls.length ∧ ls.length ≤ 100 ∧ ls.all ascB = true)) : common ls = [] := if_neg h

end Go.Proofs.YtegcpplkcahkhaaGreat
