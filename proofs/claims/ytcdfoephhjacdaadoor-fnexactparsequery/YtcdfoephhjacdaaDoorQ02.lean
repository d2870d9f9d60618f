import Derived.BigQuiet
import Derived.Deep.OwnRows
import Derived.Deep.QuietTactic
import Derived.Test.YtcdfoephhjacdaaDoorQ01
/-
  Slices of numbers: the laws' own helpers (szIntS, toIntS, eqIntS, markIntS, heldIntS).
-/
namespace Go.Proofs.YtcdfoephhjacdaaDoor
open Go.RowKit

/-- a slice of ints that can be read -/
def IS (w : World) (v : Value) (l : List Int) : Prop := ∃ a cap, v = .slice a l.length cap ∧ (l.length = 0 ∨ ∃ b o, a = some ⟨b, o, none⟩ ∧ ∀ j, j < l.length → w.cell? ⟨b, o + j, none⟩ = some (.int .i64 (l.getD j 0)))

theorem IS.below {w w' : World} {v : Value} {l : List Int} (h : IS w v l) (hb : Below w.heap.size w w') : IS w' v l := by
  obtain ⟨a, cap, rfl, h⟩ := h
  refine ⟨a, cap, rfl, ?_⟩
  rcases h with h | ⟨b, o, rfl, h⟩
  · exact Or.inl h
  · exact Or.inr ⟨b, o, rfl, fun j hj => (hb.cell (p := ⟨b, o + j, none⟩) (World.block_lt_of_cell? w _ (h j hj))).trans (h j hj)⟩

/-- ints of the call's own, in block g -/
structure OwnI (w : World) (g : Nat) (l : List Int) : Prop where
  cell : ∀ j, j < l.length → w.cell? ⟨g, j, none⟩ = some (.int .i64 (l.getD j 0))
  free : ∀ j, j < l.length → w.frozen? ⟨g, j, none⟩ = false
  lt : g < w.heap.size

theorem OwnI.is {w : World} {g : Nat} {l : List Int} (h : OwnI w g l) : IS w (.slice (some ⟨g, 0, none⟩) l.length l.length) l :=
  ⟨_, _, rfl, Or.inr ⟨g, 0, rfl, fun j hj => by rw [Nat.zero_add]; exact h.cell j hj⟩⟩

theorem OwnI.move {w w' : World} {g : Nat} {l : List Int} (h : OwnI w g l) (hb : w'.heap[g]? = w.heap[g]?) (hs : w.heap.size ≤ w'.heap.size) : OwnI w' g l :=
  ⟨fun j hj => (World.cell?_of_block (w := w) (a := ⟨g, j, none⟩) hb).trans (h.cell j hj), fun j hj => (World.frozen?_of_block (w := w) (a := ⟨g, j, none⟩) hb).trans (h.free j hj), Nat.lt_of_lt_of_le h.lt hs⟩

theorem OwnI.below {w w' : World} {g : Nat} {l : List Int} (h : OwnI w g l) (hb : Below w.heap.size w w') : OwnI w' g l := h.move (hb.block g h.lt) hb.size

theorem made_get (z : Value) (n j : Nat) (h : j < n) : (madeCells #[z] n)[j]? = some z := by
  simp [madeCells, h, Nat.mod_one]

set_option maxHeartbeats 1000000 in
theorem eqIntS_same (w : World) (v v' : Value) (l : List Int) (h : IS w v l) (h' : IS w v' l) (hl : l.length ≤ 1099511627776) :
    Calls Tryd.prog 83 #[v, v'] w fun e w' => e = .returned (.bool true) ∧ Below w.heap.size w w' := by
  obtain ⟨a, cap, rfl, hc⟩ := h
  obtain ⟨a', cap', rfl, hc'⟩ := h'
  obtain ⟨n, hn⟩ : ∃ n, n = l.length := ⟨_, rfl⟩
  rw [← hn] at hc hc' hl ⊢
  have HC := hid hc
  have HC' := hid hc'
  clear hc hc' hn
  have hne : ((n : Int) != (n : Int)) = false := by simp
  go_enter Tryd.func83, Tryd.ntmps83
  go_wp2
  go_loopw [5] (fun t wr => ∃ j : Nat, j ≤ n ∧ t = .int .i64 j ∧ Below w.heap.size w wr) (fun t _ => n - (intOf t).toNat)
  case atStart => exact ⟨0, Nat.zero_le _, rfl, Below.refl _ _⟩
  case round =>
    obtain ⟨j, hj, rfl, hB⟩ := hrel
    by_cases hjn : j < n
    · have i1 : (j : Int) < (n : Int) := by omega
      rcases HC.out with h0 | ⟨b, o, rfl, hcell⟩
      · omega
      · rcases HC'.out with h0 | ⟨b', o', rfl, hcell'⟩
        · omega
        · have c1 : wr.cell? ⟨b, o + j, none⟩ = some (.int .i64 (l.getD j 0)) := (hB.cell (p := ⟨b, o + j, none⟩) (World.block_lt_of_cell? w _ (hcell j hjn))).trans (hcell j hjn)
          have c2 : wr.cell? ⟨b', o' + j, none⟩ = some (.int .i64 (l.getD j 0)) := (hB.cell (p := ⟨b', o' + j, none⟩) (World.block_lt_of_cell? w _ (hcell' j hjn))).trans (hcell' j hjn)
          obtain ⟨x, hx⟩ : ∃ x, x = l.getD j 0 := ⟨_, rfl⟩
          rw [← hx] at c1 c2
          have hxx : (x != x) = false := by simp
          clear hcell hcell' hx
          go_wp2_with fail
          go_quiet (fail)
          go_wp2
          go_roundw
          case rel => exact ⟨j + 1, by omega, by go_num, below_drewN hB _⟩
          case measure => simp [intOf]; omega
    · obtain rfl : j = n := by omega
      have i1 : ¬ ((j : Int) < (j : Int)) := by omega
      go_wp2
      go_ret
      exact ⟨rfl, hB⟩

/-- numbers from k on -/
def upFrom (k : Int) (n : Nat) : List Int := (List.range n).map fun i => k + (i : Nat)
theorem upFrom_length (k : Int) (n : Nat) : (upFrom k n).length = n := by simp [upFrom]
theorem upFrom_get {k : Int} {n j : Nat} (h : j < n) : (upFrom k n).getD j 0 = k + (j : Nat) := by
  unfold upFrom
  rw [List.getD_eq_getElem?_getD, List.getElem?_map, List.getElem?_range h]; rfl

end Go.Proofs.YtcdfoephhjacdaaDoor

namespace Go.Proofs.YtcdfoephhjacdaaDoor
open Go.RowKit

/-- only block g is another -/
structure Og (g : Nat) (w w' : World) : Prop where
  os : w'.os = w.os
  tape : w'.tape = w.tape
  output : w'.output = w.output
  size : w'.heap.size = w.heap.size
  block : ∀ b, b ≠ g → w'.heap[b]? = w.heap[b]?

theorem Og.refl (g : Nat) (w : World) : Og g w w := ⟨rfl, rfl, rfl, rfl, fun _ _ => rfl⟩
theorem Og.set {g : Nat} {w w' : World} (h : Og g w w') (o : Nat) (v : Value) : Og g w (w'.setCell ⟨g, o, none⟩ v) :=
  ⟨h.os, h.tape, h.output, by simpa [World.setCell] using h.size, fun b hne => (Below.heap_setCell _ _ _ _ hne).trans (h.block b hne)⟩
theorem Og.below {g N : Nat} {w w' : World} (h : Og g w w') (hg : N ≤ g) : Below N w w' :=
  ⟨h.os, h.tape, h.output, Nat.le_of_eq h.size.symm, fun b hb => h.block b (by omega)⟩

set_option maxHeartbeats 1000000 in
theorem markIntS_calls (w : World) (g : Nat) (l : List Int) (k : Int) (h : OwnI w g l) (hl : l.length ≤ 1099511627776) (hk : 0 ≤ k) (hk' : k ≤ 1099511627776) :
    Calls Tryd.prog 45 #[.slice (some ⟨g, 0, none⟩) l.length l.length, .int .i64 k] w fun e w' => e = .returned (.int .i64 (k + l.length)) ∧ OwnI w' g (upFrom k l.length) ∧ Og g w w' := by
  obtain ⟨n, hn⟩ : ∃ n, n = l.length := ⟨_, rfl⟩
  have HO : Hid ((∀ j, j < n → w.cell? ⟨g, j, none⟩ = some (.int .i64 (l.getD j 0))) ∧ ∀ j, j < n → w.frozen? ⟨g, j, none⟩ = false) := by rw [hn]; exact ⟨h.cell, h.free⟩
  have hglt := h.lt
  rw [← hn] at hl ⊢
  clear h hn
  go_enter Tryd.func45, Tryd.ntmps45
  go_wp2
  go_loopw [1, 5] (fun u t wr => ∃ j : Nat, j ≤ n ∧ t = .int .i64 j ∧ u = .int .i64 (k + j) ∧ Og g w wr ∧ Hid ((∀ i, i < n → wr.cell? ⟨g, i, none⟩ = some (.int .i64 (if i < j then k + (i : Nat) else l.getD i 0))) ∧ ∀ i, i < n → wr.frozen? ⟨g, i, none⟩ = false)) (fun _ t _ => n - (intOf t).toNat)
  case atStart => exact ⟨0, Nat.zero_le _, rfl, by simp, Og.refl _ _, hid ⟨fun i hi => by rw [if_neg (by omega)]; exact HO.out.1 i hi, HO.out.2⟩⟩
  case round =>
    obtain ⟨j, hj, rfl, rfl, hB, hH⟩ := hrel
    by_cases hjn : j < n
    · have i1 : (j : Int) < (n : Int) := by omega
      have c2 : wr.cell? ⟨g, j, none⟩ = some (.int .i64 (if j < j then k + (j : Nat) else l.getD j 0)) := hH.out.1 j hjn
      have c3 : wr.frozen? ⟨g, j, none⟩ = false := hH.out.2 j hjn
      go_wp2
      go_roundw
      case rel =>
        refine ⟨j + 1, by omega, by go_num, by go_num, hB.set _ _, hid ⟨fun i hi => ?_, fun i hi => by rw [World.frozen?_setCell]; exact hH.out.2 i hi⟩⟩
        by_cases e : i = j
        · subst e
          rw [if_pos (by omega)]
          exact World.cell?_setCell_same _ _ _ c2
        · rw [World.cell?_setCell_other _ _ _ _ (by intro e2; simp only [Addr.mk.injEq] at e2; omega), hH.out.1 i hi]
          by_cases e2 : i < j
          · rw [if_pos e2, if_pos (by omega)]
          · rw [if_neg e2, if_neg (by omega)]
      case measure => simp [intOf]; omega
    · obtain rfl : j = n := by omega
      have i1 : ¬ ((j : Int) < (j : Int)) := by omega
      go_wp2
      go_ret
      refine ⟨rfl, ⟨fun i hi => ?_, fun i hi => hH.out.2 i (by rwa [upFrom_length] at hi), by rw [hB.size]; exact hglt⟩, hB⟩
      rw [upFrom_length] at hi
      rw [hH.out.1 i hi, if_pos hi, upFrom_get hi]

set_option maxHeartbeats 1000000 in
theorem heldIntS_calls (w : World) (g : Nat) (n : Nat) (k : Int) (h : OwnI w g (upFrom k n)) (hl : n ≤ 1099511627776) (hk : 0 ≤ k) (hk' : k ≤ 1099511627776) :
    Calls Tryd.prog 47 #[.slice (some ⟨g, 0, none⟩) n n, .int .i64 k] w fun e w' => e = .returned (.int .i64 (k + n)) ∧ w' = w := by
  have HO : Hid (∀ j, j < n → w.cell? ⟨g, j, none⟩ = some (.int .i64 (k + (j : Nat)))) := fun j hj => by
    have := h.cell j (by rw [upFrom_length]; exact hj)
    rwa [upFrom_get hj] at this
  clear h
  go_enter Tryd.func47, Tryd.ntmps47
  go_wp2
  go_loop [1, 5] (fun u t => ∃ j : Nat, j ≤ n ∧ t = .int .i64 j ∧ u = .int .i64 (k + j)) (fun _ t => n - (intOf t).toNat)
  case atStart => exact ⟨0, Nat.zero_le _, rfl, by simp⟩
  case round =>
    obtain ⟨j, hj, rfl, rfl⟩ := hrel
    by_cases hjn : j < n
    · have i1 : (j : Int) < (n : Int) := by omega
      have c2 : w.cell? ⟨g, j, none⟩ = some (.int .i64 (k + (j : Nat))) := HO.out j hjn
      have hne : ((k + (j : Int)) != (k + (j : Int))) = false := by simp
      go_wp2
      go_round
      case rel => exact ⟨j + 1, by omega, by go_num, by go_num⟩
      case measure => simp [intOf]; omega
    · obtain rfl : j = n := by omega
      have i1 : ¬ ((j : Int) < (j : Int)) := by omega
      go_wp2
      go_ret
      exact ⟨rfl, rfl⟩

end Go.Proofs.YtcdfoephhjacdaaDoor

/-
  Three blocks of four cells: an argument, a result, what is being made.
-/
namespace Go.Proofs.YtcdfoephhjacdaaDoor
open Go.RowKit

structure TB4 (w : World) (s : Nat) (v0 v1 v2 v3 z0 z1 z2 z3 o0 o1 o2 o3 : Value) (W : World) : Prop where
  a0 : W.cell? ⟨s, 0, none⟩ = some v0
  a1 : W.cell? ⟨s, 1, none⟩ = some v1
  a2 : W.cell? ⟨s, 2, none⟩ = some v2
  a3 : W.cell? ⟨s, 3, none⟩ = some v3
  r0 : W.cell? ⟨s + 1, 0, none⟩ = some z0
  r1 : W.cell? ⟨s + 1, 1, none⟩ = some z1
  r2 : W.cell? ⟨s + 1, 2, none⟩ = some z2
  r3 : W.cell? ⟨s + 1, 3, none⟩ = some z3
  o0 : W.cell? ⟨s + 1 + 1, 0, none⟩ = some o0
  o1 : W.cell? ⟨s + 1 + 1, 1, none⟩ = some o1
  o2 : W.cell? ⟨s + 1 + 1, 2, none⟩ = some o2
  o3 : W.cell? ⟨s + 1 + 1, 3, none⟩ = some o3
  fr0 : W.frozen? ⟨s + 1, 0, none⟩ = false
  fr1 : W.frozen? ⟨s + 1, 1, none⟩ = false
  fr2 : W.frozen? ⟨s + 1, 2, none⟩ = false
  fr3 : W.frozen? ⟨s + 1, 3, none⟩ = false
  fo0 : W.frozen? ⟨s + 1 + 1, 0, none⟩ = false
  fo1 : W.frozen? ⟨s + 1 + 1, 1, none⟩ = false
  fo2 : W.frozen? ⟨s + 1 + 1, 2, none⟩ = false
  fo3 : W.frozen? ⟨s + 1 + 1, 3, none⟩ = false
  sz : s + 3 ≤ W.heap.size
  below : Below s w W

theorem TB4.step {w W W' : World} {s : Nat} {v0 v1 v2 v3 z0 z1 z2 z3 o0 o1 o2 o3 : Value} (h : TB4 w s v0 v1 v2 v3 z0 z1 z2 z3 o0 o1 o2 o3 W) (hb : Below W.heap.size W W') : TB4 w s v0 v1 v2 v3 z0 z1 z2 z3 o0 o1 o2 o3 W' where
  a0 := (hb.cell (p := ⟨s, 0, none⟩) (by have := h.sz; show s < _; omega)).trans h.a0
  a1 := (hb.cell (p := ⟨s, 1, none⟩) (by have := h.sz; show s < _; omega)).trans h.a1
  a2 := (hb.cell (p := ⟨s, 2, none⟩) (by have := h.sz; show s < _; omega)).trans h.a2
  a3 := (hb.cell (p := ⟨s, 3, none⟩) (by have := h.sz; show s < _; omega)).trans h.a3
  r0 := (hb.cell (p := ⟨s + 1, 0, none⟩) (by have := h.sz; show s + 1 < _; omega)).trans h.r0
  r1 := (hb.cell (p := ⟨s + 1, 1, none⟩) (by have := h.sz; show s + 1 < _; omega)).trans h.r1
  r2 := (hb.cell (p := ⟨s + 1, 2, none⟩) (by have := h.sz; show s + 1 < _; omega)).trans h.r2
  r3 := (hb.cell (p := ⟨s + 1, 3, none⟩) (by have := h.sz; show s + 1 < _; omega)).trans h.r3
  o0 := (hb.cell (p := ⟨s + 1 + 1, 0, none⟩) (by have := h.sz; show s + 1 + 1 < _; omega)).trans h.o0
  o1 := (hb.cell (p := ⟨s + 1 + 1, 1, none⟩) (by have := h.sz; show s + 1 + 1 < _; omega)).trans h.o1
  o2 := (hb.cell (p := ⟨s + 1 + 1, 2, none⟩) (by have := h.sz; show s + 1 + 1 < _; omega)).trans h.o2
  o3 := (hb.cell (p := ⟨s + 1 + 1, 3, none⟩) (by have := h.sz; show s + 1 + 1 < _; omega)).trans h.o3
  fr0 := (hb.frozen (p := ⟨s + 1, 0, none⟩) (by have := h.sz; show s + 1 < _; omega)).trans h.fr0
  fr1 := (hb.frozen (p := ⟨s + 1, 1, none⟩) (by have := h.sz; show s + 1 < _; omega)).trans h.fr1
  fr2 := (hb.frozen (p := ⟨s + 1, 2, none⟩) (by have := h.sz; show s + 1 < _; omega)).trans h.fr2
  fr3 := (hb.frozen (p := ⟨s + 1, 3, none⟩) (by have := h.sz; show s + 1 < _; omega)).trans h.fr3
  fo0 := (hb.frozen (p := ⟨s + 1 + 1, 0, none⟩) (by have := h.sz; show s + 1 + 1 < _; omega)).trans h.fo0
  fo1 := (hb.frozen (p := ⟨s + 1 + 1, 1, none⟩) (by have := h.sz; show s + 1 + 1 < _; omega)).trans h.fo1
  fo2 := (hb.frozen (p := ⟨s + 1 + 1, 2, none⟩) (by have := h.sz; show s + 1 + 1 < _; omega)).trans h.fo2
  fo3 := (hb.frozen (p := ⟨s + 1 + 1, 3, none⟩) (by have := h.sz; show s + 1 + 1 < _; omega)).trans h.fo3
  sz := Nat.le_trans h.sz hb.size
  below := h.below.trans (hb.mono (by have := h.sz; omega))

theorem TB4.set0 {w W : World} {s : Nat} {v0 v1 v2 v3 z0 z1 z2 z3 o0 o1 o2 o3 : Value} (h : TB4 w s v0 v1 v2 v3 z0 z1 z2 z3 o0 o1 o2 o3 W) (u : Value) : TB4 w s v0 v1 v2 v3 z0 z1 z2 z3 u o1 o2 o3 (W.setCell ⟨s + 1 + 1, 0, none⟩ u) where
  a0 := (World.cell?_setCell_other _ _ _ _ (by intro e; simp only [Addr.mk.injEq] at e; omega)).trans h.a0
  a1 := (World.cell?_setCell_other _ _ _ _ (by intro e; simp only [Addr.mk.injEq] at e; omega)).trans h.a1
  a2 := (World.cell?_setCell_other _ _ _ _ (by intro e; simp only [Addr.mk.injEq] at e; omega)).trans h.a2
  a3 := (World.cell?_setCell_other _ _ _ _ (by intro e; simp only [Addr.mk.injEq] at e; omega)).trans h.a3
  r0 := (World.cell?_setCell_other _ _ _ _ (by intro e; simp only [Addr.mk.injEq] at e; omega)).trans h.r0
  r1 := (World.cell?_setCell_other _ _ _ _ (by intro e; simp only [Addr.mk.injEq] at e; omega)).trans h.r1
  r2 := (World.cell?_setCell_other _ _ _ _ (by intro e; simp only [Addr.mk.injEq] at e; omega)).trans h.r2
  r3 := (World.cell?_setCell_other _ _ _ _ (by intro e; simp only [Addr.mk.injEq] at e; omega)).trans h.r3
  o0 := World.cell?_setCell_same _ _ _ h.o0
  o1 := (World.cell?_setCell_other _ _ _ _ (by intro e; simp only [Addr.mk.injEq] at e; omega)).trans h.o1
  o2 := (World.cell?_setCell_other _ _ _ _ (by intro e; simp only [Addr.mk.injEq] at e; omega)).trans h.o2
  o3 := (World.cell?_setCell_other _ _ _ _ (by intro e; simp only [Addr.mk.injEq] at e; omega)).trans h.o3
  fr0 := (World.frozen?_setCell _ _ _ _).trans h.fr0
  fr1 := (World.frozen?_setCell _ _ _ _).trans h.fr1
  fr2 := (World.frozen?_setCell _ _ _ _).trans h.fr2
  fr3 := (World.frozen?_setCell _ _ _ _).trans h.fr3
  fo0 := (World.frozen?_setCell _ _ _ _).trans h.fo0
  fo1 := (World.frozen?_setCell _ _ _ _).trans h.fo1
  fo2 := (World.frozen?_setCell _ _ _ _).trans h.fo2
  fo3 := (World.frozen?_setCell _ _ _ _).trans h.fo3
  sz := by have := h.sz; simpa [World.setCell] using this
  below := h.below.setCell (by show s ≤ s + 1 + 1; omega) _

theorem TB4.set1 {w W : World} {s : Nat} {v0 v1 v2 v3 z0 z1 z2 z3 o0 o1 o2 o3 : Value} (h : TB4 w s v0 v1 v2 v3 z0 z1 z2 z3 o0 o1 o2 o3 W) (u : Value) : TB4 w s v0 v1 v2 v3 z0 z1 z2 z3 o0 u o2 o3 (W.setCell ⟨s + 1 + 1, 1, none⟩ u) where
  a0 := (World.cell?_setCell_other _ _ _ _ (by intro e; simp only [Addr.mk.injEq] at e; omega)).trans h.a0
  a1 := (World.cell?_setCell_other _ _ _ _ (by intro e; simp only [Addr.mk.injEq] at e; omega)).trans h.a1
  a2 := (World.cell?_setCell_other _ _ _ _ (by intro e; simp only [Addr.mk.injEq] at e; omega)).trans h.a2
  a3 := (World.cell?_setCell_other _ _ _ _ (by intro e; simp only [Addr.mk.injEq] at e; omega)).trans h.a3
  r0 := (World.cell?_setCell_other _ _ _ _ (by intro e; simp only [Addr.mk.injEq] at e; omega)).trans h.r0
  r1 := (World.cell?_setCell_other _ _ _ _ (by intro e; simp only [Addr.mk.injEq] at e; omega)).trans h.r1
  r2 := (World.cell?_setCell_other _ _ _ _ (by intro e; simp only [Addr.mk.injEq] at e; omega)).trans h.r2
  r3 := (World.cell?_setCell_other _ _ _ _ (by intro e; simp only [Addr.mk.injEq] at e; omega)).trans h.r3
  o0 := (World.cell?_setCell_other _ _ _ _ (by intro e; simp only [Addr.mk.injEq] at e; omega)).trans h.o0
  o1 := World.cell?_setCell_same _ _ _ h.o1
  o2 := (World.cell?_setCell_other _ _ _ _ (by intro e; simp only [Addr.mk.injEq] at e; omega)).trans h.o2
  o3 := (World.cell?_setCell_other _ _ _ _ (by intro e; simp only [Addr.mk.injEq] at e; omega)).trans h.o3
  fr0 := (World.frozen?_setCell _ _ _ _).trans h.fr0
  fr1 := (World.frozen?_setCell _ _ _ _).trans h.fr1
  fr2 := (World.frozen?_setCell _ _ _ _).trans h.fr2
  fr3 := (World.frozen?_setCell _ _ _ _).trans h.fr3
  fo0 := (World.frozen?_setCell _ _ _ _).trans h.fo0
  fo1 := (World.frozen?_setCell _ _ _ _).trans h.fo1
  fo2 := (World.frozen?_setCell _ _ _ _).trans h.fo2
  fo3 := (World.frozen?_setCell _ _ _ _).trans h.fo3
  sz := by have := h.sz; simpa [World.setCell] using this
  below := h.below.setCell (by show s ≤ s + 1 + 1; omega) _

theorem TB4.set2 {w W : World} {s : Nat} {v0 v1 v2 v3 z0 z1 z2 z3 o0 o1 o2 o3 : Value} (h : TB4 w s v0 v1 v2 v3 z0 z1 z2 z3 o0 o1 o2 o3 W) (u : Value) : TB4 w s v0 v1 v2 v3 z0 z1 z2 z3 o0 o1 u o3 (W.setCell ⟨s + 1 + 1, 2, none⟩ u) where
  a0 := (World.cell?_setCell_other _ _ _ _ (by intro e; simp only [Addr.mk.injEq] at e; omega)).trans h.a0
  a1 := (World.cell?_setCell_other _ _ _ _ (by intro e; simp only [Addr.mk.injEq] at e; omega)).trans h.a1
  a2 := (World.cell?_setCell_other _ _ _ _ (by intro e; simp only [Addr.mk.injEq] at e; omega)).trans h.a2
  a3 := (World.cell?_setCell_other _ _ _ _ (by intro e; simp only [Addr.mk.injEq] at e; omega)).trans h.a3
  r0 := (World.cell?_setCell_other _ _ _ _ (by intro e; simp only [Addr.mk.injEq] at e; omega)).trans h.r0
  r1 := (World.cell?_setCell_other _ _ _ _ (by intro e; simp only [Addr.mk.injEq] at e; omega)).trans h.r1
  r2 := (World.cell?_setCell_other _ _ _ _ (by intro e; simp only [Addr.mk.injEq] at e; omega)).trans h.r2
  r3 := (World.cell?_setCell_other _ _ _ _ (by intro e; simp only [Addr.mk.injEq] at e; omega)).trans h.r3
  o0 := (World.cell?_setCell_other _ _ _ _ (by intro e; simp only [Addr.mk.injEq] at e; omega)).trans h.o0
  o1 := (World.cell?_setCell_other _ _ _ _ (by intro e; simp only [Addr.mk.injEq] at e; omega)).trans h.o1
  o2 := World.cell?_setCell_same _ _ _ h.o2
  o3 := (World.cell?_setCell_other _ _ _ _ (by intro e; simp only [Addr.mk.injEq] at e; omega)).trans h.o3
  fr0 := (World.frozen?_setCell _ _ _ _).trans h.fr0
  fr1 := (World.frozen?_setCell _ _ _ _).trans h.fr1
  fr2 := (World.frozen?_setCell _ _ _ _).trans h.fr2
  fr3 := (World.frozen?_setCell _ _ _ _).trans h.fr3
  fo0 := (World.frozen?_setCell _ _ _ _).trans h.fo0
  fo1 := (World.frozen?_setCell _ _ _ _).trans h.fo1
  fo2 := (World.frozen?_setCell _ _ _ _).trans h.fo2
  fo3 := (World.frozen?_setCell _ _ _ _).trans h.fo3
  sz := by have := h.sz; simpa [World.setCell] using this
  below := h.below.setCell (by show s ≤ s + 1 + 1; omega) _

theorem TB4.set3 {w W : World} {s : Nat} {v0 v1 v2 v3 z0 z1 z2 z3 o0 o1 o2 o3 : Value} (h : TB4 w s v0 v1 v2 v3 z0 z1 z2 z3 o0 o1 o2 o3 W) (u : Value) : TB4 w s v0 v1 v2 v3 z0 z1 z2 z3 o0 o1 o2 u (W.setCell ⟨s + 1 + 1, 3, none⟩ u) where
  a0 := (World.cell?_setCell_other _ _ _ _ (by intro e; simp only [Addr.mk.injEq] at e; omega)).trans h.a0
  a1 := (World.cell?_setCell_other _ _ _ _ (by intro e; simp only [Addr.mk.injEq] at e; omega)).trans h.a1
  a2 := (World.cell?_setCell_other _ _ _ _ (by intro e; simp only [Addr.mk.injEq] at e; omega)).trans h.a2
  a3 := (World.cell?_setCell_other _ _ _ _ (by intro e; simp only [Addr.mk.injEq] at e; omega)).trans h.a3
  r0 := (World.cell?_setCell_other _ _ _ _ (by intro e; simp only [Addr.mk.injEq] at e; omega)).trans h.r0
  r1 := (World.cell?_setCell_other _ _ _ _ (by intro e; simp only [Addr.mk.injEq] at e; omega)).trans h.r1
  r2 := (World.cell?_setCell_other _ _ _ _ (by intro e; simp only [Addr.mk.injEq] at e; omega)).trans h.r2
  r3 := (World.cell?_setCell_other _ _ _ _ (by intro e; simp only [Addr.mk.injEq] at e; omega)).trans h.r3
  o0 := (World.cell?_setCell_other _ _ _ _ (by intro e; simp only [Addr.mk.injEq] at e; omega)).trans h.o0
  o1 := (World.cell?_setCell_other _ _ _ _ (by intro e; simp only [Addr.mk.injEq] at e; omega)).trans h.o1
  o2 := (World.cell?_setCell_other _ _ _ _ (by intro e; simp only [Addr.mk.injEq] at e; omega)).trans h.o2
  o3 := World.cell?_setCell_same _ _ _ h.o3
  fr0 := (World.frozen?_setCell _ _ _ _).trans h.fr0
  fr1 := (World.frozen?_setCell _ _ _ _).trans h.fr1
  fr2 := (World.frozen?_setCell _ _ _ _).trans h.fr2
  fr3 := (World.frozen?_setCell _ _ _ _).trans h.fr3
  fo0 := (World.frozen?_setCell _ _ _ _).trans h.fo0
  fo1 := (World.frozen?_setCell _ _ _ _).trans h.fo1
  fo2 := (World.frozen?_setCell _ _ _ _).trans h.fo2
  fo3 := (World.frozen?_setCell _ _ _ _).trans h.fo3
  sz := by have := h.sz; simpa [World.setCell] using this
  below := h.below.setCell (by show s ≤ s + 1 + 1; omega) _

theorem TB4.start (w : World) (t t' t'' : TypeId) (v0 v1 v2 v3 z0 z1 z2 z3 o0 o1 o2 o3 : Value) : TB4 w w.heap.size v0 v1 v2 v3 z0 z1 z2 z3 o0 o1 o2 o3 (((w.alloc (.cells #[v0, v1, v2, v3] t)).alloc (.cells #[z0, z1, z2, z3] t')).alloc (.cells #[o0, o1, o2, o3] t'')) where
  a0 := by simp [go_sem]
  a1 := by simp [go_sem]
  a2 := by simp [go_sem]
  a3 := by simp [go_sem]
  r0 := by simp [go_sem]
  r1 := by simp [go_sem]
  r2 := by simp [go_sem]
  r3 := by simp [go_sem]
  o0 := by simp [go_sem]
  o1 := by simp [go_sem]
  o2 := by simp [go_sem]
  o3 := by simp [go_sem]
  fr0 := by simp [go_sem]
  fr1 := by simp [go_sem]
  fr2 := by simp [go_sem]
  fr3 := by simp [go_sem]
  fo0 := by simp [go_sem]
  fo1 := by simp [go_sem]
  fo2 := by simp [go_sem]
  fo3 := by simp [go_sem]
  sz := by simp
  below := (((Below.refl _ _).alloc (Nat.le_refl _) _).alloc (by simp) _).alloc (by simp; omega) _

end Go.Proofs.YtcdfoephhjacdaaDoor
