import Derived.Carry
import Derived.Deep.Slices
import Derived.Lib.SmallJoins
import Derived.OpenShut
import Derived.ProofKit
import Derived.Test.YtkaipapdlnojiaaGreatRows
import Derived.Test.YtkaipapdlnojiaaGreatWq05
set_option maxHeartbeats 40000000
set_option maxRecDepth 1000000
namespace Go.Proofs.YtkaipapdlnojiaaGreat
open Go.ChangeShapes Go.WideShapes Go.ChangeAt Go.RowKit Go.Joins Go.Deep
theorem Tryz.ownK:ownKnob Tryz.prog.godebug=none:=by kernel_rfl
theorem Tryz.laidO:laidOutB Tryz.prog=true:=by kernel_rfl
theorem qEW{α:Type}(f:Nat->α)(n j:Nat)(d:α)(h:j < n):((List.range n).map f).getD j d=f j:=by
 rw[gD,bN,List.getElem?_range h];rfl
variable {H:Type} {enc:TypeId×Value->H} {W:World}
end Go.Proofs.YtkaipapdlnojiaaGreat
