import Derived.Deep.AppendLies
import Derived.Deep.RegionLaw
import Derived.Deep.RegionWith
import Derived.Test.YtegcpplkcahkhaaGreatB26
import Derived.Test.YtegcpplkcahkhaaGreatB28
import Derived.Test.YtegcpplkcahkhaaGreatB29
/-
  impl.coverProgram, impl.packingProgram: a program's rows, each a list of its own.
-/
namespace Go.Proofs.YtegcpplkcahkhaaGreat
open Go.RowKit

theorem Tryz.infoIS : (Tryz.prog.info? 57).map (fun i => (i.zero, i.size, i.bytes)) = some (some (.slice none 0 0), 1, 24) := by kernel_rfl

/-- the row's own block holds cells of its type -/
theorem own_typ {w : World} {B n s g : Nat} {e : TypeId} {v : Value} {xs : List Value} (h : w.ownsRow B e s v n xs) (hg : v.ownBlock = some g) : ∃ cur, w.heap[g]? = some (.cells cur e (0, 0)) := by
  rcases h.2 with ⟨rfl, _⟩ | ⟨g', cap, cur, rfl, _, hc, _⟩
  · simp [Value.ownBlock] at hg
  · simp only [Value.ownBlock, Option.some.injEq] at hg
    subst hg
    exact ⟨cur, hc⟩

/-- the rows of the cover's program -/
def coverRows (bag : List Int) (es : List (List Int)) : List (List Int) := bag.map fun x => plc (fun i => decide (x ∈ es.getD i [])) es.length

theorem coverRows_succ (bag : List Int) (es : List (List Int)) (k : Nat) (h : k < bag.length) : coverRows (bag.take (k + 1)) es = coverRows (bag.take k) es ++ [plc (fun i => decide (bag.getD k 0 ∈ es.getD i [])) es.length] := by
  unfold coverRows
  rw [List.take_add_one, List.getElem?_eq_getElem h, List.getD_eq_getElem?_getD (l := bag), List.getElem?_eq_getElem h]
  simp only [Option.toList_some, List.map_append, List.map_cons, List.map_nil, Option.getD_some]

theorem coverRows_len (bag : List Int) (es : List (List Int)) : (coverRows bag es).length = bag.length := by simp [coverRows]

theorem typ_set {W : World} {c o : Nat} {v : Value} {e : TypeId} (h : ∃ cur, W.heap[c]? = some (.cells cur e (0, 0))) : ∃ cur, (W.setCell ⟨c, o, none⟩ v).heap[c]? = some (.cells cur e (0, 0)) := by
  obtain ⟨cur, h⟩ := h
  exact ⟨_, heap_setCell_same _ _ _ _ _ _ h⟩

theorem own_base {w : World} {B B' n s : Nat} {e : TypeId} {v : Value} {xs : List Value} (h : w.ownsRow B e s v n xs) (hB : B' ≤ B) : w.ownsRow B' e s v n xs := by
  obtain ⟨h1, h2⟩ := h
  refine ⟨h1, ?_⟩
  rcases h2 with h2 | ⟨g, cap, cur, hv, hg, hr⟩
  · exact Or.inl h2
  · exact Or.inr ⟨g, cap, cur, hv, Nat.le_trans hB hg, hr⟩

end Go.Proofs.YtegcpplkcahkhaaGreat
