import Derived.Test.YtcgboccdffgkfaaDoorPa25
import Derived.Test.YtcgboccdffgkfaaDoorPa32
/-
  strings.Split at one byte, by the shelf's contract.
-/
namespace Go.Proofs
open Go.RowKit Go.Proofs.YtcgboccdffgkfaaDoor
theorem Tryd.c_Split (s : ByteArray) (c : UInt8) (m : Int) (w : World) (hs : s.size < 4294967281) (hm : w.cell? ⟨0, 0, none⟩ = some (.int .i64 m)) :
    Calls Tryd.prog 16 #[.string s, .string ⟨#[c]⟩] w fun e w' => e = .returned (.slice (some ⟨w.heap.size, 0, none⟩) (spl c s.data.toList).length (spl c s.data.toList).length) ∧ w' = w.alloc (.cells ((spl c s.data.toList).map tx).toArray 9) := by
  have h1 : 1 ≤ (⟨#[c]⟩ : ByteArray).size := Nat.le_refl _
  have hl := Lib.splitB_all ⟨#[c]⟩ h1 0 _ s rfl
  have e := splitB_spl s c
  have hlen : Lib.countB s ⟨#[c]⟩ + 1 = (spl c s.data.toList).length := by rw [← hl, e, List.length_map]
  have K := Any.strings_Split Tryd.lays146 (by kernel_rfl) s ⟨#[c]⟩ m w hs hm h1
  rw [e, hlen, List.map_map] at K
  exact K
end Go.Proofs
