import Derived.Test.YtoikfjhgeceimacDoorPlaces
/-
  Slices of slices of ints; impl.edgesWith.
-/
namespace Go.Proofs.YtoikfjhgeceimacDoor
open Go.RowKit

/-- a slice of slices of ints that can be read -/
def ISS (w : World) (v : Value) (ls : List (List Int)) : Prop := ∃ a cap, v = .slice a ls.length cap ∧ (ls.length = 0 ∨ ∃ b o, a = some ⟨b, o, none⟩ ∧ ∀ j, j < ls.length → ∃ u, w.cell? ⟨b, o + j, none⟩ = some u ∧ IS w u (ls.getD j []))

theorem ISS.below {w w' : World} {v : Value} {ls : List (List Int)} (h : ISS w v ls) (hb : Below w.heap.size w w') : ISS w' v ls := by
  obtain ⟨a, cap, rfl, h⟩ := h
  refine ⟨a, cap, rfl, ?_⟩
  rcases h with h | ⟨b, o, rfl, h⟩
  · exact Or.inl h
  · refine Or.inr ⟨b, o, rfl, fun j hj => ?_⟩
    obtain ⟨u, h1, h2⟩ := h j hj
    exact ⟨u, (hb.cell (p := ⟨b, o + j, none⟩) (World.block_lt_of_cell? w _ h1)).trans h1, h2.below hb⟩

/-- all of the lists are short -/
def Short (ls : List (List Int)) : Prop := ls.length ≤ 1099511627776 ∧ ∀ j, (ls.getD j []).length ≤ 1099511627776

end Go.Proofs.YtoikfjhgeceimacDoor
