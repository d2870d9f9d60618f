import Derived.Deep.RegionHeld3
import Derived.Test.YtnmcgbfhgmmcpaaW01
import Derived.Test.YtnmcgbfhgmmcpaaW17
/-
  laws.eqRatS, markRatS, heldRatS.
-/
namespace Go.Proofs.Ytnmcgbfhgmmcpaa
open Go.RowKit

theorem IR.below {w w' : World} {v : Value} {l : List (Int × Int)} (h : IR w v l) (hb : Below w.heap.size w w') : IR w' v l := by
  obtain ⟨a, cap, rfl, h⟩ := h
  refine ⟨a, cap, rfl, ?_⟩
  rcases h with h | ⟨b, o, rfl, h⟩
  · exact Or.inl h
  · exact Or.inr ⟨b, o, rfl, fun j hj => ⟨(hb.cell (p := ⟨b, o + j * 2, none⟩) (World.block_lt_of_cell? w _ (h j hj).1)).trans (h j hj).1, (hb.cell (p := ⟨b, o + j * 2 + 1, none⟩) (World.block_lt_of_cell? w _ (h j hj).2)).trans (h j hj).2⟩⟩

theorem four4_of {w5 W : World} {b o b' o' : Nat} {v0 v1 u0 u1 : Value} (h0 : w5.cell? ⟨b, o, none⟩ = some v0) (h1 : w5.cell? ⟨b, o + 1, none⟩ = some v1) (k0 : w5.cell? ⟨b', o', none⟩ = some u0) (k1 : w5.cell? ⟨b', o' + 1, none⟩ = some u1) (hb : Below w5.heap.size w5 W) :
    W.cell? ⟨b, o, none⟩ = some v0 ∧ W.cell? ⟨b, o + 1, none⟩ = some v1 ∧ W.cell? ⟨b', o', none⟩ = some u0 ∧ W.cell? ⟨b', o' + 1, none⟩ = some u1 ∧ Below w5.heap.size w5 W :=
  ⟨(hb.cell (p := ⟨b, o, none⟩) (World.block_lt_of_cell? w5 _ h0)).trans h0, (hb.cell (p := ⟨b, o + 1, none⟩) (World.block_lt_of_cell? w5 _ h1)).trans h1, (hb.cell (p := ⟨b', o', none⟩) (World.block_lt_of_cell? w5 _ k0)).trans k0, (hb.cell (p := ⟨b', o' + 1, none⟩) (World.block_lt_of_cell? w5 _ k1)).trans k1, hb⟩

set_option maxHeartbeats 4000000 in
set_option maxRecDepth 1000000 in
theorem eqRatS_same (w : World) (v u : Value) (l : List (Int × Int)) (h : IR w v l) (h' : IR w u l) (hl : l.length ≤ 1099511627776) :
    Calls Try.prog 58 #[v, u] w fun e w' => e = .returned (.bool true) ∧ Below w.heap.size w w' := by
  obtain ⟨a, cap, rfl, hc⟩ := h
  obtain ⟨a', cap', rfl, hc'⟩ := h'
  obtain ⟨n, hn⟩ : ∃ n, n = l.length := ⟨_, rfl⟩
  rw [← hn] at hc hc' hl ⊢
  have HC := hid hc
  have HC' := hid hc'
  clear hc hc' hn
  have hne : ((n : Int) != (n : Int)) = false := by simp
  go_enter Try.func58, Try.ntmps58
  go_wp2
  go_loopw [5] (fun t wr => ∃ j : Nat, j ≤ n ∧ t = .int .i64 j ∧ Hid (Below w.heap.size w wr)) (fun t _ => n - (intOf t).toNat)
  case atStart => exact ⟨0, Nat.zero_le _, rfl, hid (Below.refl _ _)⟩
  case round =>
    obtain ⟨j, hj, rfl, hB⟩ := hrel
    by_cases hjn : j < n
    · have i1 : (j : Int) < (n : Int) := by omega
      rcases HC.out with h0 | ⟨b, o, rfl, hrel⟩
      · omega
      · rcases HC'.out with h0 | ⟨b', o', rfl, hrel'⟩
        · omega
        · obtain ⟨e0, e1⟩ := hrel j hjn
          obtain ⟨f0, f1⟩ := hrel' j hjn
          have c0 := (hB.out.cell (p := ⟨b, o + j * 2, none⟩) (World.block_lt_of_cell? w _ e0)).trans e0
          have c1 := (hB.out.cell (p := ⟨b, o + j * 2 + 1, none⟩) (World.block_lt_of_cell? w _ e1)).trans e1
          have d0 := (hB.out.cell (p := ⟨b', o' + j * 2, none⟩) (World.block_lt_of_cell? w _ f0)).trans f0
          have d1 := (hB.out.cell (p := ⟨b', o' + j * 2 + 1, none⟩) (World.block_lt_of_cell? w _ f1)).trans f1
          clear hrel hrel' e0 e1 f0 f1
          generalize (l.getD j (0, 0)).1 = x at *
          generalize (l.getD j (0, 0)).2 = y at *
          have HBW : Hid (∀ W, (W.cell? ⟨b, o + j * 2, none⟩ = some (.int .i64 x) ∧ W.cell? ⟨b, o + j * 2 + 1, none⟩ = some (.int .i64 y) ∧ W.cell? ⟨b', o' + j * 2, none⟩ = some (.int .i64 x) ∧ W.cell? ⟨b', o' + j * 2 + 1, none⟩ = some (.int .i64 y) ∧ Below wr.heap.size wr W) → Below wr.heap.size wr W) := hid (fun W hW => hW.2.2.2.2)
          go_wp2_with fail
          go_region_held3 (fun W => W.cell? ⟨b, o + j * 2, none⟩ = some (.int .i64 x) ∧ W.cell? ⟨b, o + j * 2 + 1, none⟩ = some (.int .i64 y) ∧ W.cell? ⟨b', o' + j * 2, none⟩ = some (.int .i64 x) ∧ W.cell? ⟨b', o' + j * 2 + 1, none⟩ = some (.int .i64 y) ∧ Below wr.heap.size wr W)
            (first | exact four4_of c0 c1 d0 d1 (Below.refl _ _).drew | exact four4_of c0 c1 d0 d1 (bt (Below.refl _ _).drew hb) | (refine four4_of c0 c1 d0 d1 (bt (HBW.out _ ?_) hb); assumption))
            (first | (go_at_call 57; refine (eqRat_same _ _ _).mono ?_; rintro e w' ⟨rfl, hb⟩))
          go_wp2
          go_roundw
          case rel => exact ⟨j + 1, by omega, by go_num, hid (bt hB.out (HBW.out _ (by assumption)))⟩
          case measure => simp [intOf]; omega
    · obtain rfl : j = n := by omega
      have i1 : ¬ ((j : Int) < (j : Int)) := by omega
      go_wp2
      go_ret
      exact ⟨rfl, hB.out⟩

/-- pairs of the call's own, in block g -/
structure OwnP (w : World) (g : Nat) (l : List (Int × Int)) : Prop where
  cell : ∀ j, j < l.length → w.cell? ⟨g, j * 2, none⟩ = some (.int .i64 (l.getD j (0, 0)).1) ∧ w.cell? ⟨g, j * 2 + 1, none⟩ = some (.int .i64 (l.getD j (0, 0)).2)
  free : ∀ j, w.frozen? ⟨g, j, none⟩ = false
  lt : g < w.heap.size

/-- pairs k, k + 1; k + 2, k + 3; .. -/
def upPairs (k : Int) (n : Nat) : List (Int × Int) := (List.range n).map fun i => (k + 2 * (i : Nat), k + 2 * (i : Nat) + 1)
theorem upPairs_length (k : Int) (n : Nat) : (upPairs k n).length = n := by simp [upPairs]
theorem upPairs_get {k : Int} {n j : Nat} (h : j < n) : (upPairs k n).getD j (0, 0) = (k + 2 * (j : Nat), k + 2 * (j : Nat) + 1) := by
  unfold upPairs
  rw [List.getD_eq_getElem?_getD, List.getElem?_map, List.getElem?_range h]; rfl

set_option maxHeartbeats 2000000 in
theorem markRatS_cap (w : World) (g cap : Nat) (l : List (Int × Int)) (k : Int) (h : OwnP w g l) (hl : l.length ≤ 1099511627776) (hk : 0 ≤ k) (hk' : k ≤ 1099511627776) :
    Calls Try.prog 59 #[.slice (some ⟨g, 0, none⟩) l.length cap, .int .i64 k] w fun e w' => e = .returned (.int .i64 (k + 2 * l.length)) ∧ OwnP w' g (upPairs k l.length) ∧ Og g w w' := by
  obtain ⟨n, hn⟩ : ∃ n, n = l.length := ⟨_, rfl⟩
  have HO : Hid (∀ j, j < n → w.cell? ⟨g, j * 2, none⟩ = some (.int .i64 (l.getD j (0, 0)).1) ∧ w.cell? ⟨g, j * 2 + 1, none⟩ = some (.int .i64 (l.getD j (0, 0)).2)) := hid (by rw [hn]; exact h.cell)
  have HF := hid h.free
  have hglt := h.lt
  rw [← hn] at hl ⊢
  clear h hn
  go_enter Try.func59, Try.ntmps59
  go_wp2
  go_loopw [1, 5] (fun u t wr => ∃ j : Nat, j ≤ n ∧ t = .int .i64 j ∧ u = .int .i64 (k + 2 * j) ∧ Hid (Og g w wr ∧ (∀ i, i < n → wr.cell? ⟨g, i * 2, none⟩ = some (.int .i64 (if i < j then k + 2 * (i : Nat) else (l.getD i (0, 0)).1)) ∧ wr.cell? ⟨g, i * 2 + 1, none⟩ = some (.int .i64 (if i < j then k + 2 * (i : Nat) + 1 else (l.getD i (0, 0)).2))) ∧ ∀ i, wr.frozen? ⟨g, i, none⟩ = false)) (fun _ t _ => n - (intOf t).toNat)
  case atStart => exact ⟨0, Nat.zero_le _, rfl, by simp, hid ⟨Og.refl _ _, fun i hi => by rw [if_neg (by omega), if_neg (by omega)]; exact HO.out i hi, HF.out⟩⟩
  case round =>
    obtain ⟨j, hj, rfl, rfl, hH⟩ := hrel
    obtain ⟨hB, hcs, hfz⟩ := hH.out
    by_cases hjn : j < n
    · have i1 : (j : Int) < (n : Int) := by omega
      obtain ⟨c1, c2⟩ := hcs j hjn
      have f1 := hfz (j * 2)
      have f2 := hfz (j * 2 + 1)
      have hne : (⟨g, j * 2 + 1, none⟩ : Addr) ≠ ⟨g, j * 2, none⟩ := by intro e; simp only [Addr.mk.injEq] at e; omega
      have HB := hid hB
      have HCS := hid hcs
      have HFZ := hid hfz
      clear hH hB hcs hfz
      go_wp2
      go_roundw
      case rel =>
        refine ⟨j + 1, by omega, by go_num, by go_num, hid ⟨(HB.out.set _ _).set _ _, fun i hi => ?_, fun i => by rw [World.frozen?_setCell, World.frozen?_setCell]; exact HFZ.out i⟩⟩
        by_cases e : i = j
        · subst e
          rw [if_pos (by omega), if_pos (by omega)]
          refine ⟨(World.cell?_setCell_other _ _ _ _ (by intro e2; simp only [Addr.mk.injEq] at e2; omega)).trans (World.cell?_setCell_same _ _ _ c1), ?_⟩
          exact World.cell?_setCell_same _ _ _ ((World.cell?_setCell_other _ _ _ _ (by intro e2; simp only [Addr.mk.injEq] at e2; omega)).trans c2)
        · rw [World.cell?_setCell_other _ _ _ _ (by intro e2; simp only [Addr.mk.injEq] at e2; omega), World.cell?_setCell_other _ _ _ _ (by intro e2; simp only [Addr.mk.injEq] at e2; omega), World.cell?_setCell_other _ _ _ _ (by intro e2; simp only [Addr.mk.injEq] at e2; omega), World.cell?_setCell_other _ _ _ _ (by intro e2; simp only [Addr.mk.injEq] at e2; omega), (HCS.out i hi).1, (HCS.out i hi).2]
          by_cases e2 : i < j
          · rw [if_pos e2, if_pos e2, if_pos (by omega), if_pos (by omega)]; exact ⟨rfl, rfl⟩
          · rw [if_neg e2, if_neg e2, if_neg (by omega), if_neg (by omega)]; exact ⟨rfl, rfl⟩
      case measure => simp [intOf]; omega
    · obtain rfl : j = n := by omega
      have i1 : ¬ ((j : Int) < (j : Int)) := by omega
      have HX := hid hH.out
      clear hH hB hcs hfz
      go_wp2
      go_ret
      refine ⟨rfl, ⟨fun i hi => ?_, HX.out.2.2, by rw [HX.out.1.size]; exact hglt⟩, HX.out.1⟩
      rw [upPairs_length] at hi
      rw [(HX.out.2.1 i hi).1, (HX.out.2.1 i hi).2, if_pos hi, if_pos hi, upPairs_get hi]
      exact ⟨rfl, rfl⟩

set_option maxHeartbeats 2000000 in
theorem heldRatS_cap (w : World) (g cap n : Nat) (k : Int) (h : OwnP w g (upPairs k n)) (hl : n ≤ 1099511627776) (hk : 0 ≤ k) (hk' : k ≤ 1099511627776) :
    Calls Try.prog 60 #[.slice (some ⟨g, 0, none⟩) n cap, .int .i64 k] w fun e w' => e = .returned (.int .i64 (k + 2 * n)) ∧ w' = w := by
  have HO : Hid (∀ j, j < n → w.cell? ⟨g, j * 2, none⟩ = some (.int .i64 (k + 2 * (j : Nat))) ∧ w.cell? ⟨g, j * 2 + 1, none⟩ = some (.int .i64 (k + 2 * (j : Nat) + 1))) := hid (fun j hj => by
    have := h.cell j (by rw [upPairs_length]; exact hj)
    rwa [upPairs_get hj] at this)
  clear h
  go_enter Try.func60, Try.ntmps60
  go_wp2
  go_loop [1, 5] (fun u t => ∃ j : Nat, j ≤ n ∧ t = .int .i64 j ∧ u = .int .i64 (k + 2 * j)) (fun _ t => n - (intOf t).toNat)
  case atStart => exact ⟨0, Nat.zero_le _, rfl, by simp⟩
  case round =>
    obtain ⟨j, hj, rfl, rfl⟩ := hrel
    by_cases hjn : j < n
    · have i1 : (j : Int) < (n : Int) := by omega
      obtain ⟨c1, c2⟩ := HO.out j hjn
      have hne : ((k + 2 * (j : Int)) != (k + 2 * (j : Int))) = false := by simp
      have hne2 : ((k + 2 * (j : Int) + 1) != (k + 2 * (j : Int) + 1)) = false := by simp
      go_wp2
      go_round
      case rel => exact ⟨j + 1, by omega, by go_num, by go_num⟩
      case measure => simp [intOf]; omega
    · obtain rfl : j = n := by omega
      have i1 : ¬ ((j : Int) < (j : Int)) := by omega
      go_wp2
      go_ret
      exact ⟨rfl, rfl⟩

end Go.Proofs.Ytnmcgbfhgmmcpaa

/-
  laws.eqCover, markCover, heldCover.
-/
namespace Go.Proofs.Ytnmcgbfhgmmcpaa
open Go.RowKit

theorem rcs_len (l : List (Int × Int)) : (rcs l).length = l.length * 2 := by
  unfold rcs
  induction l with
  | nil => rfl
  | cons a l ih => rw [List.flatMap_cons, List.length_append, ih]; simp; omega

theorem rcs_get (l : List (Int × Int)) (j : Nat) (h : j < l.length) : (rcs l)[j * 2]? = some (.int .i64 (l.getD j (0, 0)).1) ∧ (rcs l)[j * 2 + 1]? = some (.int .i64 (l.getD j (0, 0)).2) := by
  unfold rcs
  induction l generalizing j with
  | nil => simp at h
  | cons a l ih =>
    rw [List.flatMap_cons]
    cases j with
    | zero => simp
    | succ j =>
      have := ih j (by simpa using h)
      rw [List.getElem?_append_right (by simp; omega), List.getElem?_append_right (by simp; omega)]
      simp only [List.length_cons, List.length_nil]
      rw [show (j + 1) * 2 - (0 + 1 + 1) = j * 2 by omega, show (j + 1) * 2 + 1 - (0 + 1 + 1) = j * 2 + 1 by omega]
      simpa using this

theorem own_ir {w : World} {B : Nat} {v : Value} {l : List (Int × Int)} (h : w.ownsRow B 28 2 v l.length (rcs l)) : IR w v l := by
  rcases h.2 with ⟨rfl, h2⟩ | ⟨g, cap, cur, rfl, hb', hc, hr⟩
  · exact ⟨none, 0, by rw [h2], Or.inl h2⟩
  · refine ⟨_, cap, rfl, Or.inr ⟨g, 0, rfl, fun j hj => ?_⟩⟩
    rw [Nat.zero_add, h.cellAt (j * 2) (by omega), h.cellAt (j * 2 + 1) (by omega)]
    exact rcs_get l j hj

theorem own_ownP {w : World} {B g cap : Nat} {l : List (Int × Int)} (h : w.ownsRow B 28 2 (.slice (some ⟨g, 0, none⟩) l.length cap) l.length (rcs l)) : OwnP w g l where
  cell j hj := by
    rw [h.cellAt (j * 2) (by omega), h.cellAt (j * 2 + 1) (by omega)]
    exact rcs_get l j hj
  free j := h.frozenAt j
  lt := (h.lt g rfl).2

theorem OwnP.move {w w' : World} {g : Nat} {l : List (Int × Int)} (h : OwnP w g l) (hb : w'.heap[g]? = w.heap[g]?) (hs : w.heap.size ≤ w'.heap.size) : OwnP w' g l :=
  ⟨fun j hj => ⟨(World.cell?_of_block (w := w) (a := ⟨g, j * 2, none⟩) hb).trans (h.cell j hj).1, (World.cell?_of_block (w := w) (a := ⟨g, j * 2 + 1, none⟩) hb).trans (h.cell j hj).2⟩, fun j => (World.frozen?_of_block (w := w) (a := ⟨g, j, none⟩) hb).trans (h.free j), Nat.lt_of_lt_of_le h.lt hs⟩

set_option maxHeartbeats 400000 in
theorem markRatS_nil (w : World) (a : Option Addr) (cap : Nat) (k : Int) :
    Calls Try.prog 59 #[.slice a 0 cap, .int .i64 k] w fun e w' => e = .returned (.int .i64 k) ∧ w' = w := by
  go_enter Try.func59, Try.ntmps59
  go_wp2
  refine wp_loop_rounds 1 ?_
  rw [rounds_succ]
  go_wp2
  go_ret
  exact ⟨rfl, rfl⟩

set_option maxHeartbeats 400000 in
theorem heldRatS_nil (w : World) (a : Option Addr) (cap : Nat) (k : Int) :
    Calls Try.prog 60 #[.slice a 0 cap, .int .i64 k] w fun e w' => e = .returned (.int .i64 k) ∧ w' = w := by
  go_enter Try.func60, Try.ntmps60
  go_wp2
  refine wp_loop_rounds 1 ?_
  rw [rounds_succ]
  go_wp2
  go_ret
  exact ⟨rfl, rfl⟩

theorem mark_heldR (w : World) (B : Nat) (v : Value) (l : List (Int × Int)) (k : Int) (h : w.ownsRow B 28 2 v l.length (rcs l)) (hl : l.length ≤ 1099511627776) (hk : 0 ≤ k) (hk' : k ≤ 1099511627776) :
    Calls Try.prog 59 #[v, .int .i64 k] w fun e w' => e = .returned (.int .i64 (k + 2 * l.length)) ∧ (∀ b, some b ≠ v.ownBlock → w'.heap[b]? = w.heap[b]?) ∧ w'.heap.size = w.heap.size ∧ Below B w w' ∧
      ∀ W, (∀ g, v.ownBlock = some g → W.heap[g]? = w'.heap[g]?) → w'.heap.size ≤ W.heap.size → Calls Try.prog 60 #[v, .int .i64 k] W fun e w'' => e = .returned (.int .i64 (k + 2 * l.length)) ∧ w'' = W := by
  rcases h.2 with ⟨rfl, h2⟩ | ⟨g, cap, cur, rfl, hb', hc, hr⟩
  · rw [h2]
    refine (markRatS_nil w none 0 k).mono ?_
    rintro e w' ⟨rfl, rfl⟩
    refine ⟨by simp, fun b _ => rfl, rfl, Below.refl _ _, fun W _ _ => ?_⟩
    have := heldRatS_nil W none 0 k
    simpa using this
  · refine (markRatS_cap w g cap l k (own_ownP h) hl hk hk').mono ?_
    rintro e w' ⟨rfl, ho, hog⟩
    exact ⟨rfl, fun b hb => hog.block b (fun e => hb (by rw [e]; rfl)), hog.size, hog.below hb', fun W hW hs => heldRatS_cap W g cap l.length k (ho.move (hW g rfl) hs) hl hk hk'⟩

set_option maxHeartbeats 2000000 in
set_option maxRecDepth 1000000 in
theorem eqCover_same (w : World) (ok : Bool) (x y : Int) (vW vD uW uD : Value) (lW lD : List (Int × Int)) (h1 : IR w vW lW) (h2 : IR w vD lD) (h1' : IR w uW lW) (h2' : IR w uD lD) (hl1 : lW.length ≤ 1099511627776) (hl2 : lD.length ≤ 1099511627776) :
    Calls Try.prog 16 #[.agg #[.bool ok, .int .i64 x, .int .i64 y, vW, vD], .agg #[.bool ok, .int .i64 x, .int .i64 y, uW, uD]] w fun e w' => e = .returned (.bool true) ∧ Below w.heap.size w w' := by
  have HB : Hid (Below w.heap.size w ((w.alloc (.cells #[.bool ok, .int .i64 x, .int .i64 y, vW, vD] 31)).alloc (.cells #[.bool ok, .int .i64 x, .int .i64 y, uW, uD] 31))) := hid (((Below.refl _ _).alloc (Nat.le_refl _) _).alloc (by simp) _)
  have H1 := hid h1
  have H2 := hid h2
  have H1' := hid h1'
  have H2' := hid h2'
  obtain ⟨a1, k1, rfl, -⟩ := h1
  obtain ⟨a2, k2, rfl, -⟩ := h2
  obtain ⟨b1, m1, rfl, -⟩ := h1'
  obtain ⟨b2, m2, rfl, -⟩ := h2'
  have q0 : (ok != ok) = false := by simp
  generalize hn1 : lW.length = n1 at *
  generalize hn2 : lD.length = n2 at *
  have hc : ∀ W, Below ((w.alloc (.cells #[.bool ok, .int .i64 x, .int .i64 y, .slice a1 n1 k1, .slice a2 n2 k2] 31)).alloc (.cells #[.bool ok, .int .i64 x, .int .i64 y, .slice b1 n1 m1, .slice b2 n2 m2] 31)).heap.size ((w.alloc (.cells #[.bool ok, .int .i64 x, .int .i64 y, .slice a1 n1 k1, .slice a2 n2 k2] 31)).alloc (.cells #[.bool ok, .int .i64 x, .int .i64 y, .slice b1 n1 m1, .slice b2 n2 m2] 31)) W →
      W.cell? ⟨w.heap.size, 3, none⟩ = some (.slice a1 n1 k1) ∧ W.cell? ⟨w.heap.size, 4, none⟩ = some (.slice a2 n2 k2) ∧ W.cell? ⟨w.heap.size + 1, 3, none⟩ = some (.slice b1 n1 m1) ∧ W.cell? ⟨w.heap.size + 1, 4, none⟩ = some (.slice b2 n2 m2) := fun W hb => by
    refine ⟨?_, ?_, ?_, ?_⟩
    · rw [hb.cell (p := ⟨w.heap.size, 3, none⟩) (by simp; omega)]; simp [go_sem]
    · rw [hb.cell (p := ⟨w.heap.size, 4, none⟩) (by simp; omega)]; simp [go_sem]
    · rw [hb.cell (p := ⟨w.heap.size + 1, 3, none⟩) (by simp)]; simp [go_sem]
    · rw [hb.cell (p := ⟨w.heap.size + 1, 4, none⟩) (by simp)]; simp [go_sem]
  have HCC := hid hc
  clear hc
  go_enter Try.func16, Try.ntmps16
  go_wp2_with fail
  refine (eqRat_same _ _ _).mono ?_
  rintro e w1 ⟨rfl, hb1⟩
  obtain ⟨c1, c2, c3, c4⟩ := HCC.out w1 hb1
  have HBq := hid hb1
  have HB1 := hid (bt HB.out hb1)
  clear hb1
  go_wp2_with fail
  refine (eqRatS_same _ _ _ lW (H1.out.below HB1.out) (H1'.out.below HB1.out) (by omega)).mono ?_
  rintro e w2 ⟨rfl, hb2⟩
  obtain ⟨d1, d2, d3, d4⟩ := HCC.out w2 (bt HBq.out hb2)
  have HB2 := hid (bt HB1.out hb2)
  clear hb2 c1 c2 c3 c4
  go_wp2_with fail
  refine (eqRatS_same _ _ _ lD (H2.out.below HB2.out) (H2'.out.below HB2.out) (by omega)).mono ?_
  rintro e w3 ⟨rfl, hb3⟩
  have HB3 := hid (bt HB2.out hb3)
  clear hb3
  go_wp2
  go_ret
  exact ⟨rfl, HB3.out⟩

set_option maxHeartbeats 2000000 in
set_option maxRecDepth 1000000 in
theorem cover_marks (w : World) (B : Nat) (ok : Bool) (x y : Int) (vW vD : Value) (lW lD : List (Int × Int)) (hW : w.ownsRow B 28 2 vW lW.length (rcs lW)) (hD : w.ownsRow B 28 2 vD lD.length (rcs lD)) (hB : B ≤ w.heap.size)
    (hne : ∀ g, vW.ownBlock = some g → vD.ownBlock ≠ some g) (hl1 : lW.length ≤ 1048576) (hl2 : lD.length ≤ 1048576) :
    Calls Try.prog 21 #[.agg #[.bool ok, .int .i64 x, .int .i64 y, vW, vD], .int .i64 1] w fun e w' => e = .returned (.int .i64 (1 + 2 * lW.length + 2 * lD.length)) ∧ (∀ b, b < w.heap.size → some b ≠ vW.ownBlock → some b ≠ vD.ownBlock → w'.heap[b]? = w.heap[b]?) ∧ Below B w w' ∧
      Calls Try.prog 22 #[.agg #[.bool ok, .int .i64 x, .int .i64 y, vW, vD], .int .i64 1] w' fun e w'' => e = .returned (.int .i64 (1 + 2 * lW.length + 2 * lD.length)) ∧ Below w'.heap.size w' w'' := by
  obtain ⟨a1, k1, e1, -⟩ := own_ir hW
  obtain ⟨a2, k2, e2, -⟩ := own_ir hD
  have ltW := hW.lt
  have ltD := hD.lt
  have HLW := hid ltW
  have HLD := hid ltD
  have HNE := hid hne
  have hA := hW.alloc (.cells #[.bool ok, .int .i64 x, .int .i64 y, vW, vD] 31)
  have KW := hid (mark_heldR _ B vW lW 1 hA (by omega) (by omega) (by omega))
  have HD0 := hid (hD.alloc (.cells #[.bool ok, .int .i64 x, .int .i64 y, vW, vD] 31))
  have hcell4 : (w.alloc (.cells #[.bool ok, .int .i64 x, .int .i64 y, vW, vD] 31)).cell? ⟨w.heap.size, 4, none⟩ = some vD := by simp [go_sem]
  have HC4 := hid hcell4
  have HBA : Hid (Below B w (w.alloc (.cells #[.bool ok, .int .i64 x, .int .i64 y, vW, vD] 31))) := hid ((Below.refl _ _).alloc hB _)
  have HAL : Hid (∀ b, b < w.heap.size → (w.alloc (.cells #[.bool ok, .int .i64 x, .int .i64 y, vW, vD] 31)).heap[b]? = w.heap[b]?) := hid (fun b hb => Below.heap_alloc _ _ _ hb)
  clear hA hW hD hcell4 ltW ltD hne
  subst e1 e2
  go_enter Try.func21, Try.ntmps21
  go_wp2_with fail
  refine KW.out.mono ?_
  rintro e w1 ⟨rfl, hoth1, hsz1, hb1, hheld1⟩
  have c4 : w1.cell? ⟨w.heap.size, 4, none⟩ = some (.slice a2 lD.length k2) := by
    rw [World.cell?_of_block (w := w.alloc (.cells #[.bool ok, .int .i64 x, .int .i64 y, .slice a1 lW.length k1, .slice a2 lD.length k2] 31)) (a := ⟨w.heap.size, 4, none⟩) (hoth1 _ (fun e => absurd (HLW.out _ e.symm).2 (Nat.lt_irrefl _)))]
    exact HC4.out
  have HD1 := hid (own_move HD0.out (w' := w1) (fun g hg => hoth1 g (fun e => HNE.out g e.symm hg)))
  have KD := hid (mark_heldR w1 B _ lD (1 + 2 * lW.length) HD1.out (by omega) (by omega) (by omega))
  have HO1 := hid hoth1
  have HH1 := hid hheld1
  have HB1 := hid (HBA.out.trans hb1)
  clear hoth1 hheld1 hb1 KW
  go_wp2_with fail
  refine KD.out.mono ?_
  rintro e w2 ⟨rfl, hoth2, hsz2, hb2, hheld2⟩
  have HO2 := hid hoth2
  have HH2 := hid hheld2
  have HB2 := hid (HB1.out.trans hb2)
  have hszA : w2.heap.size = w.heap.size + 1 := by rw [hsz2, hsz1]; simp
  clear hoth2 hheld2 hb2 KD c4
  go_wp2
  go_ret
  refine ⟨rfl, fun b hb h1 h2 => (HO2.out b h2).trans ((HO1.out b h1).trans (HAL.out b hb)), HB2.out, ?_⟩
  have K1 := hid (HH1.out (w2.alloc (.cells #[.bool ok, .int .i64 x, .int .i64 y, .slice a1 lW.length k1, .slice a2 lD.length k2] 31)) (fun g hg => by
    have := (HLW.out g hg).2
    rw [Below.heap_alloc _ _ _ (by omega)]
    exact HO2.out g (fun e => HNE.out g hg e.symm)) (by simp; omega))
  have K2 := hid (HH2.out (w2.alloc (.cells #[.bool ok, .int .i64 x, .int .i64 y, .slice a1 lW.length k1, .slice a2 lD.length k2] 31)) (fun g hg => by
    have := (HLD.out g hg).2
    rw [Below.heap_alloc _ _ _ (by omega)]) (by simp))
  have HBX : Hid (Below w2.heap.size w2 (w2.alloc (.cells #[.bool ok, .int .i64 x, .int .i64 y, .slice a1 lW.length k1, .slice a2 lD.length k2] 31))) := hid ((Below.refl _ _).alloc (Nat.le_refl _) _)
  have n1 : ¬ ((1 : Int) + 2 * (lW.length : Int) < 0) := by omega
  have n2 : ¬ ((1 : Int) + 2 * (lW.length : Int) + 2 * (lD.length : Int) < 0) := by omega
  clear HH1 HH2 HO1 HO2 HD0 HD1 HB1 HB2 HBA HAL HC4
  go_enter Try.func22, Try.ntmps22
  go_wp2_with fail
  refine K1.out.mono ?_
  rintro e w3 ⟨rfl, hw3⟩
  subst w3
  go_wp2_with fail
  refine K2.out.mono ?_
  rintro e w3 ⟨rfl, hw3⟩
  subst w3
  go_wp2
  go_ret
  exact ⟨rfl, HBX.out⟩

end Go.Proofs.Ytnmcgbfhgmmcpaa
