import Derived.Test.YtfjchjhakjghcaaDoorD02
import Derived.Test.YtfjchjhakjghcaaDoorD06
/-
  Lists of texts: laws.szStringS, toStringS, eqStringS.
-/
namespace Go.Proofs.YtfjchjhakjghcaaDoor
open Go.RowKit

def noTx : ByteArray := ⟨#[]⟩

def ISt (w : World) (v : Value) (l : List ByteArray) : Prop := ∃ a cap, v = .slice a l.length cap ∧ (l.length = 0 ∨ ∃ b o, a = some ⟨b, o, none⟩ ∧ ∀ j, j < l.length → w.cell? ⟨b, o + j, none⟩ = some (.string (l.getD j noTx)))

theorem ISt.below {w w' : World} {v : Value} {l : List ByteArray} (h : ISt w v l) (hb : Below w.heap.size w w') : ISt w' v l := by
  obtain ⟨a, cap, rfl, h⟩ := h
  refine ⟨a, cap, rfl, ?_⟩
  rcases h with h | ⟨b, o, rfl, h⟩
  · exact Or.inl h
  · exact Or.inr ⟨b, o, rfl, fun j hj => (hb.cell (p := ⟨b, o + j, none⟩) (World.block_lt_of_cell? w _ (h j hj))).trans (h j hj)⟩

theorem ISt.drewN {w : World} {v : Value} {l : List ByteArray} (h : ISt w v l) (m : Nat) : ISt (w.drewN m) v l := h

/-- a copy in block g -/
structure OwnSt (w : World) (g : Nat) (l : List ByteArray) : Prop where
  cell : ∀ j, j < l.length → w.cell? ⟨g, j, none⟩ = some (.string (l.getD j noTx))
  free : ∀ j, j < l.length → w.frozen? ⟨g, j, none⟩ = false
  lt : g < w.heap.size

theorem OwnSt.is {w : World} {g : Nat} {l : List ByteArray} (h : OwnSt w g l) : ISt w (.slice (some ⟨g, 0, none⟩) l.length l.length) l :=
  ⟨_, _, rfl, Or.inr ⟨g, 0, rfl, fun j hj => by rw [Nat.zero_add]; exact h.cell j hj⟩⟩
theorem OwnSt.below {w w' : World} {g : Nat} {l : List ByteArray} (h : OwnSt w g l) (hb : Below w.heap.size w w') : OwnSt w' g l :=
  ⟨fun j hj => (hb.cell (p := ⟨g, j, none⟩) h.lt).trans (h.cell j hj), fun j hj => (hb.frozen (p := ⟨g, j, none⟩) h.lt).trans (h.free j hj), Nat.lt_of_lt_of_le h.lt hb.size⟩
theorem OwnSt.move {w w' : World} {g : Nat} {l : List ByteArray} (h : OwnSt w g l) (hb : w'.heap[g]? = w.heap[g]?) (hs : w.heap.size ≤ w'.heap.size) : OwnSt w' g l :=
  ⟨fun j hj => (World.cell?_of_block (w := w) (a := ⟨g, j, none⟩) hb).trans (h.cell j hj), fun j hj => (World.frozen?_of_block (w := w) (a := ⟨g, j, none⟩) hb).trans (h.free j hj), Nat.lt_of_lt_of_le h.lt hs⟩

set_option maxHeartbeats 1000000 in
theorem szStringS_calls (w : World) (v : Value) (l : List ByteArray) (left : Int) (h : ISt w v l) (hl : l.length ≤ 9223372036854775807) (hz : ∀ j, (l.getD j noTx).size ≤ 9223372036854775807) (h1 : 0 ≤ left) (h2 : left ≤ 1048576) :
    Calls Tryd.prog 29 #[v, .int .i64 left] w fun e w' => ∃ z : Int, e = .returned (.int .i64 z) ∧ w' = w ∧ (z = -1 ∨ (0 ≤ z ∧ z ≤ left ∧ (l.length : Int) ≤ left ∧ ∀ j, j < l.length → ((l.getD j noTx).size : Int) ≤ left)) := by
  obtain ⟨a, cap, rfl, hc⟩ := h
  obtain ⟨n, hn⟩ : ∃ n, n = l.length := ⟨_, rfl⟩
  rw [← hn] at hc hl ⊢
  have HC := hid hc
  have HZ := hid hz
  clear hc hz hn
  by_cases h3 : left - (n : Int) < 0
  · go_enter Tryd.func29, Tryd.ntmps29
    go_wp2
    go_ret
    exact ⟨_, rfl, rfl, Or.inl rfl⟩
  · go_enter Tryd.func29, Tryd.ntmps29
    go_wp2
    go_loopw [1, 5] (fun v t wr => ∃ (j : Nat) (z : Int), j ≤ n ∧ t = .int .i64 j ∧ v = .int .i64 z ∧ 0 ≤ z ∧ z ≤ left - n ∧ wr = w ∧ Hid (∀ i, i < j → ((l.getD i noTx).size : Int) ≤ left)) (fun _ t _ => n - (intOf t).toNat)
    case atStart => exact ⟨0, _, Nat.zero_le _, rfl, rfl, by omega, by omega, rfl, hid (fun i hi => by omega)⟩
    case round =>
      obtain ⟨j, z, hj, rfl, rfl, hz0, hz1, hw, HH⟩ := hrel
      subst hw
      by_cases hjn : j < n
      · have i1 : (j : Int) < (n : Int) := by omega
        rcases HC.out with h0 | ⟨b, o, rfl, hcell⟩
        · omega
        · have c1 := hcell j hjn
          have hsz := HZ.out j
          have HH2 : Hid (((l.getD j noTx).size : Int) ≤ left → ∀ i, i < j + 1 → ((l.getD i noTx).size : Int) ≤ left) := hid (fun h i hi => by
            by_cases e : i = j
            · rw [e]; exact h
            · exact HH.out i (by omega))
          clear hcell
          generalize l.getD j noTx = s at *
          by_cases hneg : z - (s.size : Int) < 0
          · go_wp2
            go_ret
            exact ⟨_, rfl, rfl, Or.inl rfl⟩
          · go_wp2
            go_roundw
            case rel => exact ⟨j + 1, z - (s.size : Int), by omega, by go_num, by go_num, by omega, by omega, by trivial, hid (HH2.out (by omega))⟩
            case measure => simp [intOf]; omega
      · obtain rfl : j = n := by omega
        have i1 : ¬ ((j : Int) < (j : Int)) := by omega
        go_wp2
        go_ret
        exact ⟨_, rfl, rfl, Or.inr ⟨hz0, by omega, by omega, HH.out⟩⟩

set_option maxHeartbeats 1000000 in
theorem toStringS_calls (w : World) (v : Value) (l : List ByteArray) (h : ISt w v l) (hl : l.length ≤ 1048576) :
    Calls Tryd.prog 34 #[v] w fun e w' => e = .returned (.slice (some ⟨w.heap.size, 0, none⟩) l.length l.length) ∧ OwnSt w' w.heap.size l ∧ Below w.heap.size w w' := by
  obtain ⟨a, cap, rfl, hc⟩ := h
  obtain ⟨n, hn⟩ : ∃ n, n = l.length := ⟨_, rfl⟩
  rw [← hn] at hc hl ⊢
  have hmk := run_make_row' (P := Tryd.prog) 33 9 (.string ⟨#[]⟩) 16 Tryd.underlying33 (by kernel_rfl) rfl .i64 .i64 n (by omega) (by omega)
  have hb0 := heap_alloc_new w (.cells (madeCells #[.string ⟨#[]⟩] n) 9)
  have hA0 : ∀ j, j < n → (w.alloc (.cells (madeCells #[.string ⟨#[]⟩] n) 9)).cell? ⟨w.heap.size, j, none⟩ = some (.string ⟨#[]⟩) := fun j hj => by rw [cell_of_row _ _ _ _ _ _ hb0]; exact made_get _ _ _ hj
  have hF0 : ∀ j, (w.alloc (.cells (madeCells #[.string ⟨#[]⟩] n) 9)).frozen? ⟨w.heap.size, j, none⟩ = false := fun j => by unfold World.frozen?; rw [hb0]; simp
  have HA0 := hid hA0
  have HF0 := hid hF0
  clear hA0 hF0 hb0
  have HC := hid hc
  have HN := hid hn
  clear hc hn
  go_enter Tryd.func34, Tryd.ntmps34
  go_wp2
  go_loopw [4] (fun t wr => ∃ j : Nat, j ≤ n ∧ t = .int .i64 j ∧ Below w.heap.size w wr ∧ w.heap.size < wr.heap.size ∧ Hid ((∀ i, i < n → wr.cell? ⟨w.heap.size, i, none⟩ = some (.string (if i < j then l.getD i noTx else noTx))) ∧ ∀ i, i < n → wr.frozen? ⟨w.heap.size, i, none⟩ = false)) (fun t _ => n - (intOf t).toNat)
  case atStart => exact ⟨0, Nat.zero_le _, rfl, (Below.refl _ _).alloc (Nat.le_refl _) _, by simp, hid ⟨fun i hi => by rw [if_neg (by omega)]; exact HA0.out i hi, fun i _ => HF0.out i⟩⟩
  case round =>
    obtain ⟨j, hj, rfl, hB, hlt, hH⟩ := hrel
    by_cases hjn : j < n
    · have i1 : (j : Int) < (n : Int) := by omega
      rcases HC.out with h0 | ⟨b, o, rfl, hcell⟩
      · omega
      · have c1 : wr.cell? ⟨b, o + j, none⟩ = some (.string (l.getD j noTx)) := (hB.cell (p := ⟨b, o + j, none⟩) (World.block_lt_of_cell? w _ (hcell j hjn))).trans (hcell j hjn)
        have c2 : wr.cell? ⟨w.heap.size, j, none⟩ = some (.string (if j < j then l.getD j noTx else noTx)) := hH.out.1 j hjn
        have c3 : wr.frozen? ⟨w.heap.size, j, none⟩ = false := hH.out.2 j hjn
        clear hcell
        go_wp2
        go_roundw
        case rel =>
          refine ⟨j + 1, by omega, by go_num, hB.setCell (Nat.le_refl _) _, by simpa using hlt, hid ⟨fun i hi => ?_, fun i hi => by rw [World.frozen?_setCell]; exact hH.out.2 i hi⟩⟩
          by_cases e : i = j
          · subst e
            rw [if_pos (by omega)]
            exact World.cell?_setCell_same _ _ _ c2
          · rw [World.cell?_setCell_other _ _ _ _ (by intro e2; simp only [Addr.mk.injEq] at e2; omega), hH.out.1 i hi]
            by_cases e2 : i < j
            · rw [if_pos e2, if_pos (by omega)]
            · rw [if_neg e2, if_neg (by omega)]
        case measure => simp [intOf]; omega
    · obtain rfl : j = n := by omega
      have i1 : ¬ ((j : Int) < (j : Int)) := by omega
      go_wp2
      go_ret
      refine ⟨rfl, ⟨fun i hi => ?_, fun i hi => hH.out.2 i (by rw [HN.out]; exact hi), hlt⟩, hB⟩
      rw [hH.out.1 i (by rw [HN.out]; exact hi), if_pos (by rw [HN.out]; exact hi)]

set_option maxHeartbeats 2000000 in
set_option maxRecDepth 1000000 in
theorem eqStringS_quiet (w : World) (v v' : Value) (l : List ByteArray) (h : ISt w v l) (h' : ISt w v' l) (hl : l.length ≤ 1099511627776) :
    Calls Tryd.prog 39 #[v, v'] w fun e w' => e = .returned (.bool true) ∧ ∃ m, w' = w.drewN m := by
  obtain ⟨a, cap, rfl, hc⟩ := h
  obtain ⟨a', cap', rfl, hc'⟩ := h'
  obtain ⟨n, hn⟩ : ∃ n, n = l.length := ⟨_, rfl⟩
  rw [← hn] at hc hc' hl ⊢
  have HC := hid hc
  have HC' := hid hc'
  clear hc hc' hn
  have hne : ((n : Int) != (n : Int)) = false := by simp
  go_enter Tryd.func39, Tryd.ntmps39
  go_wp2
  go_loopw [5] (fun t wr => ∃ j : Nat, j ≤ n ∧ t = .int .i64 j ∧ Hid (∃ m, wr = w.drewN m)) (fun t _ => n - (intOf t).toNat)
  case atStart => exact ⟨0, Nat.zero_le _, rfl, hid ⟨0, rfl⟩⟩
  case round =>
    obtain ⟨j, hj, rfl, hB⟩ := hrel
    by_cases hjn : j < n
    · have i1 : (j : Int) < (n : Int) := by omega
      rcases HC.out with h0 | ⟨b, o, rfl, hcell⟩
      · omega
      · rcases HC'.out with h0 | ⟨b', o', rfl, hcell'⟩
        · omega
        · have c1 : wr.cell? ⟨b, o + j, none⟩ = some (.string (l.getD j noTx)) := by obtain ⟨m, rfl⟩ := hB.out; exact hcell j hjn
          have c2 : wr.cell? ⟨b', o' + j, none⟩ = some (.string (l.getD j noTx)) := by obtain ⟨m, rfl⟩ := hB.out; exact hcell' j hjn
          obtain ⟨x, hx⟩ : ∃ x, x = l.getD j noTx := ⟨_, rfl⟩
          rw [← hx] at c1 c2
          have hxx : (!x.toList == x.toList) = false := by simp
          clear hcell hcell' hx
          go_wp2_with fail
          go_quiet (fail)
          go_wp2
          go_roundw
          case rel => exact ⟨j + 1, by omega, by go_num, hid (drewN_step _ hB.out)⟩
          case measure => simp [intOf]; omega
    · obtain rfl : j = n := by omega
      have i1 : ¬ ((j : Int) < (j : Int)) := by omega
      go_wp2
      go_ret
      exact ⟨rfl, hB.out⟩

end Go.Proofs.YtfjchjhakjghcaaDoor
