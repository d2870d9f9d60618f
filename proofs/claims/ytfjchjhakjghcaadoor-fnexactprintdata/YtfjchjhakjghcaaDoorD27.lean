import Derived.Test.YtfjchjhakjghcaaDoorD26
/-
  impl.Intersect, walked.
-/
namespace Go.Proofs.YtfjchjhakjghcaaDoor
open Go.RowKit Meet

theorem common_no {ls : List (List Int)} (h : ¬ (1 ≤ ls.length ∧ ls.length ≤ 100 ∧ ls.all ascB = true)) : common ls = [] := if_neg h

end Go.Proofs.YtfjchjhakjghcaaDoor
