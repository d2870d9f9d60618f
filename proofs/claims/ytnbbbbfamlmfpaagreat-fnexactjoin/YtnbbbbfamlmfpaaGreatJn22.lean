import Derived.Laws.Bits64b
import Derived.Test.YtnbbbbfamlmfpaaGreatJn21
/-
  slices.Repeat of one 1; slices.Clone of ints.
-/
namespace Go.Proofs.YtnbbbbfamlmfpaaGreat
open Go.RowKit

theorem and_small (n : Nat) (hn : n ≤ 100000) : bits .and .u64 (n : Int) 4294967295 = (n : Int) := by
  have h := bits_and_u64_nat n 4294967295 (by omega) (by omega)
  rw [show ((4294967295 : Nat) : Int) = 4294967295 by rfl] at h
  rw [h]
  have : n &&& 4294967295 = n := by
    rw [show (4294967295 : Nat) = 2 ^ 32 - 1 by rfl, Nat.and_two_pow_sub_one_eq_mod]
    exact Nat.mod_eq_of_lt (by omega)
  rw [this]

end Go.Proofs.YtnbbbbfamlmfpaaGreat
