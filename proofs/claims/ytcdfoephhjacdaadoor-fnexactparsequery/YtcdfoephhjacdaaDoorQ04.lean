import Derived.Test.YtcdfoephhjacdaaDoorQ02
import Derived.Test.YtcdfoephhjacdaaDoorQ03
/-
  Sets of variables: impl.isVariableSet and spec.l1SetOK answer alike; membership.
-/
namespace Go.Proofs.YtcdfoephhjacdaaDoor
open Go.RowKit

theorem ret_bool {a b : Bool} (h : a = b) : Ending.returned (.bool a) = .returned (.bool b) := by rw [h]

def okAt (l : List Int) (j : Nat) : Bool := decide (0 ≤ l.getD j 0) && decide (l.getD j 0 < 6) && (decide (j = 0) || decide (l.getD (j - 1) 0 < l.getD j 0))
def setB (l : List Int) : Bool := (List.range l.length).all (okAt l)

theorem setB_true {l : List Int} (h : ∀ i, i < l.length → okAt l i = true) : setB l = true := by
  unfold setB
  rw [List.all_eq_true]
  intro i hi
  exact h i (by simpa using hi)

theorem setB_false {l : List Int} {j : Nat} (hj : j < l.length) (h : okAt l j = false) : setB l = false := by
  unfold setB
  rw [List.all_eq_false]
  exact ⟨j, by simpa using hj, by rw [h]; decide⟩

/-- what is asked at place j, case by case -/
theorem okAt_cases (l : List Int) (j : Nat) :
    (l.getD j 0 < 0 ∧ okAt l j = false) ∨ (0 ≤ l.getD j 0 ∧ 6 ≤ l.getD j 0 ∧ okAt l j = false) ∨ (0 ≤ l.getD j 0 ∧ l.getD j 0 < 6 ∧ j = 0 ∧ okAt l j = true) ∨
    (0 ≤ l.getD j 0 ∧ l.getD j 0 < 6 ∧ 0 < j ∧ l.getD j 0 ≤ l.getD (j - 1) 0 ∧ okAt l j = false) ∨ (0 ≤ l.getD j 0 ∧ l.getD j 0 < 6 ∧ 0 < j ∧ l.getD (j - 1) 0 < l.getD j 0 ∧ okAt l j = true) := by
  unfold okAt
  generalize l.getD j 0 = x
  generalize l.getD (j - 1) 0 = y
  by_cases h1 : x < 0
  · left; refine ⟨h1, ?_⟩; simp; omega
  · by_cases h2 : 6 ≤ x
    · right; left; refine ⟨by omega, h2, ?_⟩; simp; omega
    · by_cases h3 : j = 0
      · right; right; left; refine ⟨by omega, by omega, h3, ?_⟩; simp [h3]; omega
      · by_cases h4 : y < x
        · right; right; right; right; refine ⟨by omega, by omega, by omega, h4, ?_⟩; simp; omega
        · right; right; right; left; refine ⟨by omega, by omega, by omega, by omega, ?_⟩; simp; omega

end Go.Proofs.YtcdfoephhjacdaaDoor

/-
  Membership: spec.l1Has, slices.Index, slices.Contains.
-/
namespace Go.Proofs.YtcdfoephhjacdaaDoor
open Go.RowKit

theorem mem_getD {l : List Int} {j : Nat} (h : j < l.length) : l.getD j 0 ∈ l := by
  rw [List.getD_eq_getElem?_getD, List.getElem?_eq_getElem h]
  exact List.getElem_mem h

theorem getD_mem {l : List Int} {x : Int} (h : x ∈ l) : ∃ j, j < l.length ∧ l.getD j 0 = x := by
  obtain ⟨j, hj, e⟩ := List.getElem_of_mem h
  exact ⟨j, hj, by rw [List.getD_eq_getElem?_getD, List.getElem?_eq_getElem hj]; exact e⟩

end Go.Proofs.YtcdfoephhjacdaaDoor

/-
  impl.placesIn: the places of a bag whose variable lies in an edge; a slice that grows.
-/
namespace Go.Proofs.YtcdfoephhjacdaaDoor
open Go.RowKit

theorem Tryd.infoInt : (Tryd.prog.info? 3).map (fun i => (i.zero, i.size, i.bytes)) = some (some (.int .i64 0), 1, 8) := by kernel_rfl

/-- of the first k places those at which p holds -/
def plc (p : Nat → Bool) (k : Nat) : List Int := ((List.range k).filter p).map Int.ofNat

theorem plc_hit (p : Nat → Bool) (k : Nat) (h : p k = true) : plc p (k + 1) = plc p k ++ [(k : Int)] := by
  simp [plc, List.range_succ, List.filter_append, h]
theorem plc_miss (p : Nat → Bool) (k : Nat) (h : p k = false) : plc p (k + 1) = plc p k := by
  simp [plc, List.range_succ, List.filter_append, h]
theorem plc_le (p : Nat → Bool) (k : Nat) : (plc p k).length ≤ k := by
  unfold plc
  rw [List.length_map]
  exact Nat.le_trans (List.length_filter_le _ _) (by simp)

theorem own_grow {B n : Nat} {e : TypeId} {w wr w1 : World} {u : Value} {o : Obj} {xs : List Value} (hB : B ≤ wr.heap.size)
    (hown : wr.ownsRow B e 1 u n xs) (hnx : Below B w wr) (hgrow : (wr.alloc o).grownBy w1 u.ownBlock) : Below B w w1 :=
  (hnx.alloc hB o).grown hgrow (by simp; omega) (fun j hj => (hown.lt j hj).1)

end Go.Proofs.YtcdfoephhjacdaaDoor

/-
  Slices of slices of ints; impl.edgesWith.
-/
namespace Go.Proofs.YtcdfoephhjacdaaDoor
open Go.RowKit

/-- a slice of slices of ints that can be read -/
def ISS (w : World) (v : Value) (ls : List (List Int)) : Prop := ∃ a cap, v = .slice a ls.length cap ∧ (ls.length = 0 ∨ ∃ b o, a = some ⟨b, o, none⟩ ∧ ∀ j, j < ls.length → ∃ u, w.cell? ⟨b, o + j, none⟩ = some u ∧ IS w u (ls.getD j []))

theorem ISS.below {w w' : World} {v : Value} {ls : List (List Int)} (h : ISS w v ls) (hb : Below w.heap.size w w') : ISS w' v ls := by
  obtain ⟨a, cap, rfl, h⟩ := h
  refine ⟨a, cap, rfl, ?_⟩
  rcases h with h | ⟨b, o, rfl, h⟩
  · exact Or.inl h
  · refine Or.inr ⟨b, o, rfl, fun j hj => ?_⟩
    obtain ⟨u, h1, h2⟩ := h j hj
    exact ⟨u, (hb.cell (p := ⟨b, o + j, none⟩) (World.block_lt_of_cell? w _ h1)).trans h1, h2.below hb⟩

/-- all of the lists are short -/
def Short (ls : List (List Int)) : Prop := ls.length ≤ 1099511627776 ∧ ∀ j, (ls.getD j []).length ≤ 1099511627776

end Go.Proofs.YtcdfoephhjacdaaDoor
