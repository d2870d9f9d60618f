import Derived.Test.YtdfiodlajhbolaaDoorPq20
/-
  spec: l2Value, l2Values.
-/
namespace Go.Proofs.YtdfiodlajhbolaaDoor
open Go.RowKit

/-- the value that a row gives to a variable -/
def vlF : List Int → List Int → Int → Int
  | [], _, _ => 0
  | x :: vs, r, v => if x = v then r.getD 0 0 else vlF vs (r.drop 1) v
def prjR (vs vars row : List Int) : List Int := vars.map (vlF vs row)
theorem prjR_len (vs vars row : List Int) : (prjR vs vars row).length = vars.length := by simp [prjR]
theorem vlF_hit {vs row : List Int} {v : Int} {j : Nat} (hj : j < vs.length) (h : vs.getD j 0 = v) : vlF (vs.drop j) (row.drop j) v = row.getD j 0 := by
  rw [drop_getD hj, vlF, if_pos h, getD_drop, Nat.add_zero]
theorem vlF_miss {vs row : List Int} {v : Int} {j : Nat} (hj : j < vs.length) (h : ¬ vs.getD j 0 = v) : vlF (vs.drop j) (row.drop j) v = vlF (vs.drop (j + 1)) (row.drop (j + 1)) v := by
  rw [drop_getD hj, vlF, if_neg h, List.drop_drop]

end Go.Proofs.YtdfiodlajhbolaaDoor

/-
  Rows made anew, listed in a slice of the call's own; impl.valuesAt.
-/
namespace Go.Proofs.YtdfiodlajhbolaaDoor
open Go.RowKit

theorem kept_of {W w3 : World} {v : Value} {o : Obj} {b : Nat} (hg : (W.alloc o).grownBy w3 v.ownBlock) (hb : b < W.heap.size) (hne : some b ≠ v.ownBlock) : w3.heap[b]? = W.heap[b]? :=
  (hg.block b (by simp; omega) hne).trans (Below.heap_alloc _ _ _ hb)

section
variable {W W' w3 : World} {B B' : Nat} {v v' u : Value} {us : List Value} {ls : List (List Int)} {l : List Int} {o : Obj}
end

/-- the values at some places -/
def atP (row places : List Int) : List Int := places.map fun p => row.getD p.toNat 0
theorem atP_len (row places : List Int) : (atP row places).length = places.length := by simp [atP]

end Go.Proofs.YtdfiodlajhbolaaDoor
