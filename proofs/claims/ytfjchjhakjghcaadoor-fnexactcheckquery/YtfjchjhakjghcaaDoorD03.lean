import Derived.Test.YtfjchjhakjghcaaDoorD01
namespace Go.Proofs.YtfjchjhakjghcaaDoor
open Go.RowKit

def OkR (n d : Int) : Prop := 1 ≤ d ∧ d ≤ 1000000 ∧ -1000000 ≤ n ∧ n ≤ 1000000 ∧ Int.gcd n d = 1

theorem notOk_cases {n d : Int} (h : ¬ OkR n d) : d < 1 ∨ (1 ≤ d ∧ 1000000 < d) ∨ (1 ≤ d ∧ d ≤ 1000000 ∧ n < -1000000) ∨ (1 ≤ d ∧ d ≤ 1000000 ∧ -1000000 ≤ n ∧ 1000000 < n) ∨ (1 ≤ d ∧ d ≤ 1000000 ∧ -1000000 ≤ n ∧ n ≤ 1000000 ∧ ¬ Int.gcd n d = 1) := by
  unfold OkR at h
  omega

end Go.Proofs.YtfjchjhakjghcaaDoor
