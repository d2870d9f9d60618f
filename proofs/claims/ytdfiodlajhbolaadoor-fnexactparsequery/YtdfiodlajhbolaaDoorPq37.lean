import Derived.Test.YtdfiodlajhbolaaDoorPq25
/-
  spec.l3ShapeOK, walked.
-/
namespace Go.Proofs.YtdfiodlajhbolaaDoor
open Go.RowKit

end Go.Proofs.YtdfiodlajhbolaaDoor

/-
  impl.areTerms, hasGoodShape.
-/
namespace Go.Proofs.YtdfiodlajhbolaaDoor
open Go.RowKit

theorem nameB_emp {x : ByteArray} (h : x.toList.isEmpty = true) : nameB x = false := by
  by_cases h0 : x.size = 0
  · simp [nameB, h0]
  · rw [not_empty h0] at h; cases h

end Go.Proofs.YtdfiodlajhbolaaDoor
