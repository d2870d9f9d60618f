import Derived.Test.YtcdfoephhjacdaaDoorQ68
/-
  impl.areTerms, hasGoodShape.
-/
namespace Go.Proofs.YtcdfoephhjacdaaDoor
open Go.RowKit

theorem nameB_emp {x : ByteArray} (h : x.toList.isEmpty = true) : nameB x = false := by
  by_cases h0 : x.size = 0
  · simp [nameB, h0]
  · rw [not_empty h0] at h; cases h

end Go.Proofs.YtcdfoephhjacdaaDoor

/-
  spec.Variables.
-/
namespace Go.Proofs.YtcdfoephhjacdaaDoor
open Go.RowKit

/-- the answer -/
def varsQ (q : QV) : List ByteArray := if shapeB q then VL q.atoms q.atoms.length else []

end Go.Proofs.YtcdfoephhjacdaaDoor
