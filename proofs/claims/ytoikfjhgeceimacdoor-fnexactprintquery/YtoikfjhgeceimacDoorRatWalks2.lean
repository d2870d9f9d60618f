import Derived.Test.YtoikfjhgeceimacDoorRatWalks
namespace Go.Proofs.YtoikfjhgeceimacDoor
open Go.RowKit

def RatArgs (n d : Int) : Prop := d ≠ 0 ∧ -1000000 ≤ n ∧ n ≤ 1000000 ∧ -1000000 ≤ d ∧ d ≤ 1000000

theorem bad_cases {n d : Int} (h : ¬ RatArgs n d) :
    d = 0 ∨ (d ≠ 0 ∧ n < -1000000) ∨ (d ≠ 0 ∧ -1000000 ≤ n ∧ 1000000 < n) ∨ (d ≠ 0 ∧ -1000000 ≤ n ∧ n ≤ 1000000 ∧ d < -1000000) ∨ (d ≠ 0 ∧ -1000000 ≤ n ∧ n ≤ 1000000 ∧ -1000000 ≤ d ∧ 1000000 < d) := by
  unfold RatArgs at h
  omega

end Go.Proofs.YtoikfjhgeceimacDoor
