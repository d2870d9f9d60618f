import Derived.Test.YtdfiodlajhbolaaDoorPq37
/-
  spec.Variables.
-/
namespace Go.Proofs.YtdfiodlajhbolaaDoor
open Go.RowKit

/-- the answer -/
def varsQ (q : QV) : List ByteArray := if shapeB q then VL q.atoms q.atoms.length else []

end Go.Proofs.YtdfiodlajhbolaaDoor
