import Derived.Test.YtoikfjhgeceimacDoorSets2
/-
  impl.placesIn: the places of a bag whose variable lies in an edge; a slice that grows.
-/
namespace Go.Proofs.YtoikfjhgeceimacDoor
open Go.RowKit

theorem Tryd.infoInt : (Tryd.prog.info? 3).map (fun i => (i.zero, i.size, i.bytes)) = some (some (.int .i64 0), 1, 8) := by kernel_rfl

/-- of the first k places those at which p holds -/
def plc (p : Nat → Bool) (k : Nat) : List Int := ((List.range k).filter p).map Int.ofNat

theorem plc_hit (p : Nat → Bool) (k : Nat) (h : p k = true) : plc p (k + 1) = plc p k ++ [(k : Int)] := by
  simp [plc, List.range_succ, List.filter_append, h]
theorem plc_miss (p : Nat → Bool) (k : Nat) (h : p k = false) : plc p (k + 1) = plc p k := by
  simp [plc, List.range_succ, List.filter_append, h]
theorem plc_le (p : Nat → Bool) (k : Nat) : (plc p k).length ≤ k := by
  unfold plc
  rw [List.length_map]
  exact Nat.le_trans (List.length_filter_le _ _) (by simp)

theorem own_grow {B n : Nat} {e : TypeId} {w wr w1 : World} {u : Value} {o : Obj} {xs : List Value} (hB : B ≤ wr.heap.size)
    (hown : wr.ownsRow B e 1 u n xs) (hnx : Below B w wr) (hgrow : (wr.alloc o).grownBy w1 u.ownBlock) : Below B w w1 :=
  (hnx.alloc hB o).grown hgrow (by simp; omega) (fun j hj => (hown.lt j hj).1)

end Go.Proofs.YtoikfjhgeceimacDoor
