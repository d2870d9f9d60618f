import Derived.Deep.AppendLies
import Derived.Deep.Cut
import Derived.Lib.Split
import Derived.Test.YtegcpplkcahkhaaGreatB09
import Derived.Test.YtegcpplkcahkhaaGreatB26
/-
  A text cut at a byte, read from the left.
-/
namespace Go.Proofs.YtegcpplkcahkhaaGreat

def spl (c : UInt8) : List UInt8 → List (List UInt8)
  | [] => [[]]
  | x :: r => if x = c then [] :: spl c r else (x :: (spl c r).headD []) :: (spl c r).tail
theorem spl_none {c : UInt8} : ∀ {a : List UInt8}, (∀ x ∈ a, x ≠ c) → spl c a = [a]
  | [], _ => rfl
  | x :: r, h => by
    rw [spl, if_neg (h x (List.mem_cons_self ..)), spl_none fun y hy => h y (List.mem_cons_of_mem _ hy)]
    rfl
theorem spl_cut {c : UInt8} (r : List UInt8) : ∀ {a : List UInt8}, (∀ x ∈ a, x ≠ c) → spl c (a ++ c :: r) = a :: spl c r
  | [], _ => by rw [List.nil_append, spl, if_pos rfl]
  | x :: a, h => by
    rw [List.cons_append, spl, if_neg (h x (List.mem_cons_self ..)), spl_cut r fun y hy => h y (List.mem_cons_of_mem _ hy)]
    rfl

/-- the pieces ahead of place i, and where the last one begins -/
def sP (c : UInt8) (l : List UInt8) : Nat → List (List UInt8) × Nat
  | 0 => ([], 0)
  | i + 1 => if l.getD i 0 = c then ((sP c l i).1 ++ [(l.take i).drop (sP c l i).2], i + 1) else sP c l i

theorem sP_inv (c : UInt8) (l : List UInt8) : ∀ i, i ≤ l.length → (sP c l i).2 ≤ i ∧ (∀ x ∈ (l.take i).drop (sP c l i).2, x ≠ c) ∧ spl c l = (sP c l i).1 ++ spl c (l.drop (sP c l i).2)
  | 0, _ => ⟨Nat.le_refl _, fun x hx => by simp [sP] at hx, rfl⟩
  | i + 1, hi => by
    obtain ⟨h1, h2, h3⟩ := sP_inv c l i (by omega)
    have hlt : i < l.length := by omega
    have hg : l.getD i 0 = l[i] := by rw [List.getD_eq_getElem?_getD, List.getElem?_eq_getElem hlt]; rfl
    have ht : l.take (i + 1) = l.take i ++ [l[i]] := by rw [List.take_add_one, List.getElem?_eq_getElem hlt]; rfl
    rw [sP]
    by_cases e : l.getD i 0 = c
    · rw [if_pos e]
      refine ⟨Nat.le_refl _, fun x hx => ?_, ?_⟩
      · dsimp only at hx
        rw [List.drop_eq_nil_of_le (by rw [List.length_take]; omega)] at hx
        cases hx
      · dsimp only
        have hs : l.drop (sP c l i).2 = (l.take i).drop (sP c l i).2 ++ c :: l.drop (i + 1) := by
          have : l = l.take i ++ (c :: l.drop (i + 1)) := by
            rw [← e, hg, List.getElem_cons_drop, List.take_append_drop]
          have hf : ∀ f, f ≤ i → l.drop f = (l.take i).drop f ++ c :: l.drop (i + 1) := fun f hf => by
            have h9 := congrArg (List.drop f) this
            rwa [List.drop_append_of_le_length (by rw [List.length_take]; omega)] at h9
          exact hf _ h1
        rw [h3, hs, spl_cut _ h2, List.append_assoc]
        rfl
    · rw [if_neg e]
      refine ⟨by omega, fun x hx => ?_, h3⟩
      rw [ht, List.drop_append_of_le_length (by rw [List.length_take]; omega)] at hx
      rcases List.mem_append.1 hx with hx | hx
      · exact h2 x hx
      · rw [List.mem_singleton.1 hx, ← hg]; exact e
theorem sP_spl (c : UInt8) (l : List UInt8) : spl c l = (sP c l l.length).1 ++ [l.drop (sP c l l.length).2] := by
  obtain ⟨h1, h2, h3⟩ := sP_inv c l l.length (Nat.le_refl _)
  rw [List.take_length] at h2
  rw [h3, spl_none h2]

end Go.Proofs.YtegcpplkcahkhaaGreat

/-
  spec.l2Split.
-/
namespace Go.Proofs.YtegcpplkcahkhaaGreat
open Go.RowKit

theorem Tryz.infoSp : (Tryz.prog.info? 9).map (fun i => (i.zero, i.size, i.bytes)) = some (some (.string ⟨#[]⟩), 1, 16) := by kernel_rfl
theorem new1_cellS (w : World) (v : Value) (t : TypeId) : ∀ j u, [v][j]? = some u → (w.alloc (.cells #[v] t)).cell? ((⟨w.heap.size, 0, none⟩ : Addr).add j) = some u := by
  intro j u hj
  match j, hj with
  | 0, hj => simp at hj; subst hj; simp [Addr.add]
def tx (l : List UInt8) : Value := .string ⟨l.toArray⟩
theorem sP_len (c : UInt8) (l : List UInt8) : ∀ i, (sP c l i).1.length ≤ i
  | 0 => Nat.le_refl _
  | i + 1 => by
    have := sP_len c l i
    rw [sP]
    by_cases e : l.getD i 0 = c
    · rw [if_pos e, List.length_append, List.length_singleton]; omega
    · rw [if_neg e]; omega
theorem ext_mid (s : ByteArray) (f i : Nat) : s.extract f i = ⟨((s.data.toList.take i).drop f).toArray⟩ := by
  obtain ⟨⟨l⟩⟩ := s
  apply ByteArray.ext
  simp [List.drop_take]

end Go.Proofs.YtegcpplkcahkhaaGreat
