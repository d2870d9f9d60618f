import Derived.Deep.AppendLies
import Derived.Deep.Cut
import Derived.Test.YtegcpplkcahkhaaGreatBd09
import Derived.Test.YtegcpplkcahkhaaGreatBd24
import Derived.Test.YtegcpplkcahkhaaGreatBd32
/-
  spec.l2Split.
-/
namespace Go.Proofs.YtegcpplkcahkhaaGreat
open Go.RowKit

theorem Tryz.infoSp : (Tryz.prog.info? 9).map (fun i => (i.zero, i.size, i.bytes)) = some (some (.string ⟨#[]⟩), 1, 16) := by kernel_rfl
theorem new1_cellS (w : World) (v : Value) (t : TypeId) : ∀ j u, [v][j]? = some u → (w.alloc (.cells #[v] t)).cell? ((⟨w.heap.size, 0, none⟩ : Addr).add j) = some u := by
  intro j u hj
  match j, hj with
  | 0, hj => simp at hj; subst hj; simp [Addr.add]
def tx (l : List UInt8) : Value := .string ⟨l.toArray⟩
theorem sP_len (c : UInt8) (l : List UInt8) : ∀ i, (sP c l i).1.length ≤ i
  | 0 => Nat.le_refl _
  | i + 1 => by
    have := sP_len c l i
    rw [sP]
    by_cases e : l.getD i 0 = c
    · rw [if_pos e, List.length_append, List.length_singleton]; omega
    · rw [if_neg e]; omega
theorem ext_mid (s : ByteArray) (f i : Nat) : s.extract f i = ⟨((s.data.toList.take i).drop f).toArray⟩ := by
  obtain ⟨⟨l⟩⟩ := s
  apply ByteArray.ext
  simp [List.drop_take]

end Go.Proofs.YtegcpplkcahkhaaGreat
