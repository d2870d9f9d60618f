import Derived.BigQuiet
import Derived.Deep.OwnRows
import Derived.Deep.QuietTactic
import Derived.Handy
import Derived.Test.YtcdfoephhjacdaaGreatDoorProg
import Derived.WalkKit
import Derived.WalkLawsBesides
import Derived.WalkSpells
namespace Go.Proofs.YtcdfoephhjacdaaGreatDoor.RatM

end Go.Proofs.YtcdfoephhjacdaaGreatDoor.RatM

namespace Go.Proofs.YtcdfoephhjacdaaGreatDoor
open Go.RowKit

theorem hid {p : Prop} (h : p) : Hid p := h
theorem ret_int {k : IntKind} {a b : Int} (h : a = b) : Ending.returned (.int k a) = .returned (.int k b) := by rw [h]

end Go.Proofs.YtcdfoephhjacdaaGreatDoor

/-
  Slices of numbers: the laws' own helpers (szIntS, toIntS, eqIntS, markIntS, heldIntS).
-/
namespace Go.Proofs.YtcdfoephhjacdaaGreatDoor
open Go.RowKit

/-- a slice of ints that can be read -/
def IS (w : World) (v : Value) (l : List Int) : Prop := ∃ a cap, v = .slice a l.length cap ∧ (l.length = 0 ∨ ∃ b o, a = some ⟨b, o, none⟩ ∧ ∀ j, j < l.length → w.cell? ⟨b, o + j, none⟩ = some (.int .i64 (l.getD j 0)))

theorem IS.below {w w' : World} {v : Value} {l : List Int} (h : IS w v l) (hb : Below w.heap.size w w') : IS w' v l := by
  obtain ⟨a, cap, rfl, h⟩ := h
  refine ⟨a, cap, rfl, ?_⟩
  rcases h with h | ⟨b, o, rfl, h⟩
  · exact Or.inl h
  · exact Or.inr ⟨b, o, rfl, fun j hj => (hb.cell (p := ⟨b, o + j, none⟩) (World.block_lt_of_cell? w _ (h j hj))).trans (h j hj)⟩

/-- ints of the call's own, in block g -/
structure OwnI (w : World) (g : Nat) (l : List Int) : Prop where
  cell : ∀ j, j < l.length → w.cell? ⟨g, j, none⟩ = some (.int .i64 (l.getD j 0))
  free : ∀ j, j < l.length → w.frozen? ⟨g, j, none⟩ = false
  lt : g < w.heap.size

theorem OwnI.is {w : World} {g : Nat} {l : List Int} (h : OwnI w g l) : IS w (.slice (some ⟨g, 0, none⟩) l.length l.length) l :=
  ⟨_, _, rfl, Or.inr ⟨g, 0, rfl, fun j hj => by rw [Nat.zero_add]; exact h.cell j hj⟩⟩

theorem OwnI.move {w w' : World} {g : Nat} {l : List Int} (h : OwnI w g l) (hb : w'.heap[g]? = w.heap[g]?) (hs : w.heap.size ≤ w'.heap.size) : OwnI w' g l :=
  ⟨fun j hj => (World.cell?_of_block (w := w) (a := ⟨g, j, none⟩) hb).trans (h.cell j hj), fun j hj => (World.frozen?_of_block (w := w) (a := ⟨g, j, none⟩) hb).trans (h.free j hj), Nat.lt_of_lt_of_le h.lt hs⟩

theorem OwnI.below {w w' : World} {g : Nat} {l : List Int} (h : OwnI w g l) (hb : Below w.heap.size w w') : OwnI w' g l := h.move (hb.block g h.lt) hb.size

/-- numbers from k on -/
def upFrom (k : Int) (n : Nat) : List Int := (List.range n).map fun i => k + (i : Nat)
theorem upFrom_length (k : Int) (n : Nat) : (upFrom k n).length = n := by simp [upFrom]
theorem upFrom_get {k : Int} {n j : Nat} (h : j < n) : (upFrom k n).getD j 0 = k + (j : Nat) := by
  unfold upFrom
  rw [List.getD_eq_getElem?_getD, List.getElem?_map, List.getElem?_range h]; rfl

end Go.Proofs.YtcdfoephhjacdaaGreatDoor

namespace Go.Proofs.YtcdfoephhjacdaaGreatDoor
open Go.RowKit

/-- only block g is another -/
structure Og (g : Nat) (w w' : World) : Prop where
  os : w'.os = w.os
  tape : w'.tape = w.tape
  output : w'.output = w.output
  size : w'.heap.size = w.heap.size
  block : ∀ b, b ≠ g → w'.heap[b]? = w.heap[b]?

theorem Og.refl (g : Nat) (w : World) : Og g w w := ⟨rfl, rfl, rfl, rfl, fun _ _ => rfl⟩
theorem Og.set {g : Nat} {w w' : World} (h : Og g w w') (o : Nat) (v : Value) : Og g w (w'.setCell ⟨g, o, none⟩ v) :=
  ⟨h.os, h.tape, h.output, by simpa [World.setCell] using h.size, fun b hne => (Below.heap_setCell _ _ _ _ hne).trans (h.block b hne)⟩
theorem Og.below {g N : Nat} {w w' : World} (h : Og g w w') (hg : N ≤ g) : Below N w w' :=
  ⟨h.os, h.tape, h.output, Nat.le_of_eq h.size.symm, fun b hb => h.block b (by omega)⟩

end Go.Proofs.YtcdfoephhjacdaaGreatDoor

namespace Go.Proofs.YtcdfoephhjacdaaGreatDoor
open Go.RowKit

end Go.Proofs.YtcdfoephhjacdaaGreatDoor

namespace Go.Proofs.YtcdfoephhjacdaaGreatDoor
open Go.RowKit

theorem bt {a b c : World} (h : Below a.heap.size a b) (k : Below b.heap.size b c) : Below a.heap.size a c := h.trans (k.mono h.size)

end Go.Proofs.YtcdfoephhjacdaaGreatDoor

namespace Go.Proofs.YtcdfoephhjacdaaGreatDoor
open Go.RowKit

end Go.Proofs.YtcdfoephhjacdaaGreatDoor

/-
  Three blocks of four cells: an argument, a result, what is being made.
-/
namespace Go.Proofs.YtcdfoephhjacdaaGreatDoor
open Go.RowKit

structure TB4 (w : World) (s : Nat) (v0 v1 v2 v3 z0 z1 z2 z3 o0 o1 o2 o3 : Value) (W : World) : Prop where
  a0 : W.cell? ⟨s, 0, none⟩ = some v0
  a1 : W.cell? ⟨s, 1, none⟩ = some v1
  a2 : W.cell? ⟨s, 2, none⟩ = some v2
  a3 : W.cell? ⟨s, 3, none⟩ = some v3
  r0 : W.cell? ⟨s + 1, 0, none⟩ = some z0
  r1 : W.cell? ⟨s + 1, 1, none⟩ = some z1
  r2 : W.cell? ⟨s + 1, 2, none⟩ = some z2
  r3 : W.cell? ⟨s + 1, 3, none⟩ = some z3
  o0 : W.cell? ⟨s + 1 + 1, 0, none⟩ = some o0
  o1 : W.cell? ⟨s + 1 + 1, 1, none⟩ = some o1
  o2 : W.cell? ⟨s + 1 + 1, 2, none⟩ = some o2
  o3 : W.cell? ⟨s + 1 + 1, 3, none⟩ = some o3
  fr0 : W.frozen? ⟨s + 1, 0, none⟩ = false
  fr1 : W.frozen? ⟨s + 1, 1, none⟩ = false
  fr2 : W.frozen? ⟨s + 1, 2, none⟩ = false
  fr3 : W.frozen? ⟨s + 1, 3, none⟩ = false
  fo0 : W.frozen? ⟨s + 1 + 1, 0, none⟩ = false
  fo1 : W.frozen? ⟨s + 1 + 1, 1, none⟩ = false
  fo2 : W.frozen? ⟨s + 1 + 1, 2, none⟩ = false
  fo3 : W.frozen? ⟨s + 1 + 1, 3, none⟩ = false
  sz : s + 3 ≤ W.heap.size
  below : Below s w W

theorem TB4.step {w W W' : World} {s : Nat} {v0 v1 v2 v3 z0 z1 z2 z3 o0 o1 o2 o3 : Value} (h : TB4 w s v0 v1 v2 v3 z0 z1 z2 z3 o0 o1 o2 o3 W) (hb : Below W.heap.size W W') : TB4 w s v0 v1 v2 v3 z0 z1 z2 z3 o0 o1 o2 o3 W' where
  a0 := (hb.cell (p := ⟨s, 0, none⟩) (by have := h.sz; show s < _; omega)).trans h.a0
  a1 := (hb.cell (p := ⟨s, 1, none⟩) (by have := h.sz; show s < _; omega)).trans h.a1
  a2 := (hb.cell (p := ⟨s, 2, none⟩) (by have := h.sz; show s < _; omega)).trans h.a2
  a3 := (hb.cell (p := ⟨s, 3, none⟩) (by have := h.sz; show s < _; omega)).trans h.a3
  r0 := (hb.cell (p := ⟨s + 1, 0, none⟩) (by have := h.sz; show s + 1 < _; omega)).trans h.r0
  r1 := (hb.cell (p := ⟨s + 1, 1, none⟩) (by have := h.sz; show s + 1 < _; omega)).trans h.r1
  r2 := (hb.cell (p := ⟨s + 1, 2, none⟩) (by have := h.sz; show s + 1 < _; omega)).trans h.r2
  r3 := (hb.cell (p := ⟨s + 1, 3, none⟩) (by have := h.sz; show s + 1 < _; omega)).trans h.r3
  o0 := (hb.cell (p := ⟨s + 1 + 1, 0, none⟩) (by have := h.sz; show s + 1 + 1 < _; omega)).trans h.o0
  o1 := (hb.cell (p := ⟨s + 1 + 1, 1, none⟩) (by have := h.sz; show s + 1 + 1 < _; omega)).trans h.o1
  o2 := (hb.cell (p := ⟨s + 1 + 1, 2, none⟩) (by have := h.sz; show s + 1 + 1 < _; omega)).trans h.o2
  o3 := (hb.cell (p := ⟨s + 1 + 1, 3, none⟩) (by have := h.sz; show s + 1 + 1 < _; omega)).trans h.o3
  fr0 := (hb.frozen (p := ⟨s + 1, 0, none⟩) (by have := h.sz; show s + 1 < _; omega)).trans h.fr0
  fr1 := (hb.frozen (p := ⟨s + 1, 1, none⟩) (by have := h.sz; show s + 1 < _; omega)).trans h.fr1
  fr2 := (hb.frozen (p := ⟨s + 1, 2, none⟩) (by have := h.sz; show s + 1 < _; omega)).trans h.fr2
  fr3 := (hb.frozen (p := ⟨s + 1, 3, none⟩) (by have := h.sz; show s + 1 < _; omega)).trans h.fr3
  fo0 := (hb.frozen (p := ⟨s + 1 + 1, 0, none⟩) (by have := h.sz; show s + 1 + 1 < _; omega)).trans h.fo0
  fo1 := (hb.frozen (p := ⟨s + 1 + 1, 1, none⟩) (by have := h.sz; show s + 1 + 1 < _; omega)).trans h.fo1
  fo2 := (hb.frozen (p := ⟨s + 1 + 1, 2, none⟩) (by have := h.sz; show s + 1 + 1 < _; omega)).trans h.fo2
  fo3 := (hb.frozen (p := ⟨s + 1 + 1, 3, none⟩) (by have := h.sz; show s + 1 + 1 < _; omega)).trans h.fo3
  sz := Nat.le_trans h.sz hb.size
  below := h.below.trans (hb.mono (by have := h.sz; omega))

theorem TB4.set0 {w W : World} {s : Nat} {v0 v1 v2 v3 z0 z1 z2 z3 o0 o1 o2 o3 : Value} (h : TB4 w s v0 v1 v2 v3 z0 z1 z2 z3 o0 o1 o2 o3 W) (u : Value) : TB4 w s v0 v1 v2 v3 z0 z1 z2 z3 u o1 o2 o3 (W.setCell ⟨s + 1 + 1, 0, none⟩ u) where
  a0 := (World.cell?_setCell_other _ _ _ _ (by intro e; simp only [Addr.mk.injEq] at e; omega)).trans h.a0
  a1 := (World.cell?_setCell_other _ _ _ _ (by intro e; simp only [Addr.mk.injEq] at e; omega)).trans h.a1
  a2 := (World.cell?_setCell_other _ _ _ _ (by intro e; simp only [Addr.mk.injEq] at e; omega)).trans h.a2
  a3 := (World.cell?_setCell_other _ _ _ _ (by intro e; simp only [Addr.mk.injEq] at e; omega)).trans h.a3
  r0 := (World.cell?_setCell_other _ _ _ _ (by intro e; simp only [Addr.mk.injEq] at e; omega)).trans h.r0
  r1 := (World.cell?_setCell_other _ _ _ _ (by intro e; simp only [Addr.mk.injEq] at e; omega)).trans h.r1
  r2 := (World.cell?_setCell_other _ _ _ _ (by intro e; simp only [Addr.mk.injEq] at e; omega)).trans h.r2
  r3 := (World.cell?_setCell_other _ _ _ _ (by intro e; simp only [Addr.mk.injEq] at e; omega)).trans h.r3
  o0 := World.cell?_setCell_same _ _ _ h.o0
  o1 := (World.cell?_setCell_other _ _ _ _ (by intro e; simp only [Addr.mk.injEq] at e; omega)).trans h.o1
  o2 := (World.cell?_setCell_other _ _ _ _ (by intro e; simp only [Addr.mk.injEq] at e; omega)).trans h.o2
  o3 := (World.cell?_setCell_other _ _ _ _ (by intro e; simp only [Addr.mk.injEq] at e; omega)).trans h.o3
  fr0 := (World.frozen?_setCell _ _ _ _).trans h.fr0
  fr1 := (World.frozen?_setCell _ _ _ _).trans h.fr1
  fr2 := (World.frozen?_setCell _ _ _ _).trans h.fr2
  fr3 := (World.frozen?_setCell _ _ _ _).trans h.fr3
  fo0 := (World.frozen?_setCell _ _ _ _).trans h.fo0
  fo1 := (World.frozen?_setCell _ _ _ _).trans h.fo1
  fo2 := (World.frozen?_setCell _ _ _ _).trans h.fo2
  fo3 := (World.frozen?_setCell _ _ _ _).trans h.fo3
  sz := by have := h.sz; simpa [World.setCell] using this
  below := h.below.setCell (by show s ≤ s + 1 + 1; omega) _

theorem TB4.set1 {w W : World} {s : Nat} {v0 v1 v2 v3 z0 z1 z2 z3 o0 o1 o2 o3 : Value} (h : TB4 w s v0 v1 v2 v3 z0 z1 z2 z3 o0 o1 o2 o3 W) (u : Value) : TB4 w s v0 v1 v2 v3 z0 z1 z2 z3 o0 u o2 o3 (W.setCell ⟨s + 1 + 1, 1, none⟩ u) where
  a0 := (World.cell?_setCell_other _ _ _ _ (by intro e; simp only [Addr.mk.injEq] at e; omega)).trans h.a0
  a1 := (World.cell?_setCell_other _ _ _ _ (by intro e; simp only [Addr.mk.injEq] at e; omega)).trans h.a1
  a2 := (World.cell?_setCell_other _ _ _ _ (by intro e; simp only [Addr.mk.injEq] at e; omega)).trans h.a2
  a3 := (World.cell?_setCell_other _ _ _ _ (by intro e; simp only [Addr.mk.injEq] at e; omega)).trans h.a3
  r0 := (World.cell?_setCell_other _ _ _ _ (by intro e; simp only [Addr.mk.injEq] at e; omega)).trans h.r0
  r1 := (World.cell?_setCell_other _ _ _ _ (by intro e; simp only [Addr.mk.injEq] at e; omega)).trans h.r1
  r2 := (World.cell?_setCell_other _ _ _ _ (by intro e; simp only [Addr.mk.injEq] at e; omega)).trans h.r2
  r3 := (World.cell?_setCell_other _ _ _ _ (by intro e; simp only [Addr.mk.injEq] at e; omega)).trans h.r3
  o0 := (World.cell?_setCell_other _ _ _ _ (by intro e; simp only [Addr.mk.injEq] at e; omega)).trans h.o0
  o1 := World.cell?_setCell_same _ _ _ h.o1
  o2 := (World.cell?_setCell_other _ _ _ _ (by intro e; simp only [Addr.mk.injEq] at e; omega)).trans h.o2
  o3 := (World.cell?_setCell_other _ _ _ _ (by intro e; simp only [Addr.mk.injEq] at e; omega)).trans h.o3
  fr0 := (World.frozen?_setCell _ _ _ _).trans h.fr0
  fr1 := (World.frozen?_setCell _ _ _ _).trans h.fr1
  fr2 := (World.frozen?_setCell _ _ _ _).trans h.fr2
  fr3 := (World.frozen?_setCell _ _ _ _).trans h.fr3
  fo0 := (World.frozen?_setCell _ _ _ _).trans h.fo0
  fo1 := (World.frozen?_setCell _ _ _ _).trans h.fo1
  fo2 := (World.frozen?_setCell _ _ _ _).trans h.fo2
  fo3 := (World.frozen?_setCell _ _ _ _).trans h.fo3
  sz := by have := h.sz; simpa [World.setCell] using this
  below := h.below.setCell (by show s ≤ s + 1 + 1; omega) _

theorem TB4.set2 {w W : World} {s : Nat} {v0 v1 v2 v3 z0 z1 z2 z3 o0 o1 o2 o3 : Value} (h : TB4 w s v0 v1 v2 v3 z0 z1 z2 z3 o0 o1 o2 o3 W) (u : Value) : TB4 w s v0 v1 v2 v3 z0 z1 z2 z3 o0 o1 u o3 (W.setCell ⟨s + 1 + 1, 2, none⟩ u) where
  a0 := (World.cell?_setCell_other _ _ _ _ (by intro e; simp only [Addr.mk.injEq] at e; omega)).trans h.a0
  a1 := (World.cell?_setCell_other _ _ _ _ (by intro e; simp only [Addr.mk.injEq] at e; omega)).trans h.a1
  a2 := (World.cell?_setCell_other _ _ _ _ (by intro e; simp only [Addr.mk.injEq] at e; omega)).trans h.a2
  a3 := (World.cell?_setCell_other _ _ _ _ (by intro e; simp only [Addr.mk.injEq] at e; omega)).trans h.a3
  r0 := (World.cell?_setCell_other _ _ _ _ (by intro e; simp only [Addr.mk.injEq] at e; omega)).trans h.r0
  r1 := (World.cell?_setCell_other _ _ _ _ (by intro e; simp only [Addr.mk.injEq] at e; omega)).trans h.r1
  r2 := (World.cell?_setCell_other _ _ _ _ (by intro e; simp only [Addr.mk.injEq] at e; omega)).trans h.r2
  r3 := (World.cell?_setCell_other _ _ _ _ (by intro e; simp only [Addr.mk.injEq] at e; omega)).trans h.r3
  o0 := (World.cell?_setCell_other _ _ _ _ (by intro e; simp only [Addr.mk.injEq] at e; omega)).trans h.o0
  o1 := (World.cell?_setCell_other _ _ _ _ (by intro e; simp only [Addr.mk.injEq] at e; omega)).trans h.o1
  o2 := World.cell?_setCell_same _ _ _ h.o2
  o3 := (World.cell?_setCell_other _ _ _ _ (by intro e; simp only [Addr.mk.injEq] at e; omega)).trans h.o3
  fr0 := (World.frozen?_setCell _ _ _ _).trans h.fr0
  fr1 := (World.frozen?_setCell _ _ _ _).trans h.fr1
  fr2 := (World.frozen?_setCell _ _ _ _).trans h.fr2
  fr3 := (World.frozen?_setCell _ _ _ _).trans h.fr3
  fo0 := (World.frozen?_setCell _ _ _ _).trans h.fo0
  fo1 := (World.frozen?_setCell _ _ _ _).trans h.fo1
  fo2 := (World.frozen?_setCell _ _ _ _).trans h.fo2
  fo3 := (World.frozen?_setCell _ _ _ _).trans h.fo3
  sz := by have := h.sz; simpa [World.setCell] using this
  below := h.below.setCell (by show s ≤ s + 1 + 1; omega) _

theorem TB4.set3 {w W : World} {s : Nat} {v0 v1 v2 v3 z0 z1 z2 z3 o0 o1 o2 o3 : Value} (h : TB4 w s v0 v1 v2 v3 z0 z1 z2 z3 o0 o1 o2 o3 W) (u : Value) : TB4 w s v0 v1 v2 v3 z0 z1 z2 z3 o0 o1 o2 u (W.setCell ⟨s + 1 + 1, 3, none⟩ u) where
  a0 := (World.cell?_setCell_other _ _ _ _ (by intro e; simp only [Addr.mk.injEq] at e; omega)).trans h.a0
  a1 := (World.cell?_setCell_other _ _ _ _ (by intro e; simp only [Addr.mk.injEq] at e; omega)).trans h.a1
  a2 := (World.cell?_setCell_other _ _ _ _ (by intro e; simp only [Addr.mk.injEq] at e; omega)).trans h.a2
  a3 := (World.cell?_setCell_other _ _ _ _ (by intro e; simp only [Addr.mk.injEq] at e; omega)).trans h.a3
  r0 := (World.cell?_setCell_other _ _ _ _ (by intro e; simp only [Addr.mk.injEq] at e; omega)).trans h.r0
  r1 := (World.cell?_setCell_other _ _ _ _ (by intro e; simp only [Addr.mk.injEq] at e; omega)).trans h.r1
  r2 := (World.cell?_setCell_other _ _ _ _ (by intro e; simp only [Addr.mk.injEq] at e; omega)).trans h.r2
  r3 := (World.cell?_setCell_other _ _ _ _ (by intro e; simp only [Addr.mk.injEq] at e; omega)).trans h.r3
  o0 := (World.cell?_setCell_other _ _ _ _ (by intro e; simp only [Addr.mk.injEq] at e; omega)).trans h.o0
  o1 := (World.cell?_setCell_other _ _ _ _ (by intro e; simp only [Addr.mk.injEq] at e; omega)).trans h.o1
  o2 := (World.cell?_setCell_other _ _ _ _ (by intro e; simp only [Addr.mk.injEq] at e; omega)).trans h.o2
  o3 := World.cell?_setCell_same _ _ _ h.o3
  fr0 := (World.frozen?_setCell _ _ _ _).trans h.fr0
  fr1 := (World.frozen?_setCell _ _ _ _).trans h.fr1
  fr2 := (World.frozen?_setCell _ _ _ _).trans h.fr2
  fr3 := (World.frozen?_setCell _ _ _ _).trans h.fr3
  fo0 := (World.frozen?_setCell _ _ _ _).trans h.fo0
  fo1 := (World.frozen?_setCell _ _ _ _).trans h.fo1
  fo2 := (World.frozen?_setCell _ _ _ _).trans h.fo2
  fo3 := (World.frozen?_setCell _ _ _ _).trans h.fo3
  sz := by have := h.sz; simpa [World.setCell] using this
  below := h.below.setCell (by show s ≤ s + 1 + 1; omega) _

theorem TB4.start (w : World) (t t' t'' : TypeId) (v0 v1 v2 v3 z0 z1 z2 z3 o0 o1 o2 o3 : Value) : TB4 w w.heap.size v0 v1 v2 v3 z0 z1 z2 z3 o0 o1 o2 o3 (((w.alloc (.cells #[v0, v1, v2, v3] t)).alloc (.cells #[z0, z1, z2, z3] t')).alloc (.cells #[o0, o1, o2, o3] t'')) where
  a0 := by simp [go_sem]
  a1 := by simp [go_sem]
  a2 := by simp [go_sem]
  a3 := by simp [go_sem]
  r0 := by simp [go_sem]
  r1 := by simp [go_sem]
  r2 := by simp [go_sem]
  r3 := by simp [go_sem]
  o0 := by simp [go_sem]
  o1 := by simp [go_sem]
  o2 := by simp [go_sem]
  o3 := by simp [go_sem]
  fr0 := by simp [go_sem]
  fr1 := by simp [go_sem]
  fr2 := by simp [go_sem]
  fr3 := by simp [go_sem]
  fo0 := by simp [go_sem]
  fo1 := by simp [go_sem]
  fo2 := by simp [go_sem]
  fo3 := by simp [go_sem]
  sz := by simp
  below := (((Below.refl _ _).alloc (Nat.le_refl _) _).alloc (by simp) _).alloc (by simp; omega) _

end Go.Proofs.YtcdfoephhjacdaaGreatDoor

/-
  Plain mathematics of impl.Intersect: cursors over ascending lists that meet.
-/
namespace Go.Proofs.YtcdfoephhjacdaaGreatDoor.Meet

def Asc (l : List Int) : Prop := ∀ i j, i < j → j < l.length → l.getD i 0 < l.getD j 0
def ascAt (l : List Int) (j : Nat) : Bool := decide (j = 0) || decide (l.getD (j - 1) 0 < l.getD j 0)
def ascB (l : List Int) : Bool := (List.range l.length).all (ascAt l)

def inAll (ls : List (List Int)) (x : Int) : Bool := ls.all fun l => decide (x ∈ l)
def common (ls : List (List Int)) : List Int := if 1 ≤ ls.length ∧ ls.length ≤ 100 ∧ ls.all ascB = true then (ls.getD 0 []).filter (inAll ls) else []

/-- y stands in every list at or beyond its cursor -/
def Live (ls : List (List Int)) (p : Nat → Nat) (y : Int) : Prop := ∀ i, i < ls.length → ∃ j, p i ≤ j ∧ j < (ls.getD i []).length ∧ (ls.getD i []).getD j 0 = y

/-- q: where a cursor at p of l comes when it seeks g -/
def Seek (l : List Int) (p : Nat) (g : Int) (q : Nat) : Prop := p ≤ q ∧ q ≤ l.length ∧ (∀ j, p ≤ j → j < q → l.getD j 0 < g) ∧ (q < l.length → g ≤ l.getD q 0)

structure Inv (ls : List (List Int)) (p0 : Nat → Nat) (goal : Int) (st i : Nat) (p : Nat → Nat) : Prop where
  le : ∀ k, k < ls.length → p0 k ≤ p k ∧ p k ≤ (ls.getD k []).length
  live : ∀ y, Live ls p0 y → Live ls p y ∧ goal ≤ y
  stand : ∀ k, k < ls.length → (∃ s, 1 ≤ s ∧ s ≤ st ∧ (k + s) % ls.length = i) → p k < (ls.getD k []).length ∧ (ls.getD k []).getD (p k) 0 = goal
  lt : i < ls.length
  st : st ≤ ls.length

def upd (p : Nat → Nat) (i q : Nat) : Nat → Nat := fun k => if k = i then q else p k
theorem upd_same (p : Nat → Nat) (i q : Nat) : upd p i q i = q := if_pos rfl
theorem upd_other (p : Nat → Nat) (i q k : Nat) (h : k ≠ i) : upd p i q k = p k := if_neg h

theorem Inv.start {ls : List (List Int)} {p0 : Nat → Nat} (hn : 0 < ls.length) (hp : ∀ k, k < ls.length → p0 k ≤ (ls.getD k []).length)
    (hm : ∀ k j, -9223372036854775808 ≤ (ls.getD k []).getD j 0) : Inv ls p0 (-9223372036854775808) 0 0 p0 where
  le k hk := ⟨Nat.le_refl _, hp k hk⟩
  live y hy := ⟨hy, by obtain ⟨j, _, _, e⟩ := hy 0 hn; rw [← e]; exact hm _ _⟩
  stand k hk := fun ⟨s, h1, h2, _⟩ => by omega
  lt := hn
  st := Nat.zero_le _

theorem Inv.none {ls : List (List Int)} {p0 p : Nat → Nat} {goal : Int} {st i q : Nat} (h : Inv ls p0 goal st i p) (hs : Seek (ls.getD i []) (p i) goal q) (hq : q = (ls.getD i []).length) (y : Int) : ¬ Live ls p0 y := fun hy => by
  obtain ⟨hl, hg⟩ := h.live y hy
  obtain ⟨j, h1, h2, e⟩ := hl i h.lt
  have := hs.2.2.1 j h1 (by omega)
  omega

theorem Live.seek {ls : List (List Int)} {p : Nat → Nat} {y goal : Int} {i q : Nat} (hl : Live ls p y) (hg : goal ≤ y) (hs : Seek (ls.getD i []) (p i) goal q) : Live ls (upd p i q) y := fun k hk => by
  obtain ⟨j, h1, h2, e⟩ := hl k hk
  by_cases hki : k = i
  · subst hki
    rw [upd_same]
    refine ⟨j, ?_, h2, e⟩
    rcases Nat.lt_or_ge j q with hj | hj
    · have := hs.2.2.1 j h1 hj; omega
    · exact hj
  · rw [upd_other _ _ _ _ hki]
    exact ⟨j, h1, h2, e⟩

theorem Inv.le_upd {ls : List (List Int)} {p0 p : Nat → Nat} {goal : Int} {st i q : Nat} (h : Inv ls p0 goal st i p) (hs : Seek (ls.getD i []) (p i) goal q) : ∀ k, k < ls.length → p0 k ≤ upd p i q k ∧ upd p i q k ≤ (ls.getD k []).length := fun k hk => by
  by_cases hki : k = i
  · subst hki
    rw [upd_same]
    exact ⟨Nat.le_trans (h.le k hk).1 hs.1, hs.2.1⟩
  · rw [upd_other _ _ _ _ hki]
    exact h.le k hk

theorem back_mod {k s i n : Nat} (hn : i < n) (hk : k < n) (hs : 1 ≤ s) (h : (k + s) % n = (i + 1) % n) : (k + (s - 1)) % n = i := by
  obtain ⟨t, rfl⟩ : ∃ t, s = t + 1 := ⟨s - 1, by omega⟩
  have e : (k + t + 1) % n = (i + 1) % n := h
  show (k + t) % n = i
  rcases Nat.lt_or_ge (i + 1) n with h1 | h1
  · rw [Nat.mod_eq_of_lt h1] at e
    have e2 := Nat.add_mod (k + t) 1 n
    rcases Nat.lt_or_ge 1 n with h3 | h3
    · rw [Nat.mod_eq_of_lt h3] at e2
      have hlt := Nat.mod_lt (k + t) (show 0 < n by omega)
      rcases Nat.lt_or_ge ((k + t) % n + 1) n with h4 | h4
      · rw [Nat.mod_eq_of_lt h4] at e2; omega
      · rw [show (k + t) % n + 1 = n by omega, Nat.mod_self] at e2; omega
    · omega
  · have hin : i + 1 = n := by omega
    rw [hin, Nat.mod_self] at e
    have e2 := Nat.add_mod (k + t) 1 n
    rcases Nat.lt_or_ge 1 n with h3 | h3
    · rw [Nat.mod_eq_of_lt h3] at e2
      have hlt := Nat.mod_lt (k + t) (show 0 < n by omega)
      rcases Nat.lt_or_ge ((k + t) % n + 1) n with h4 | h4
      · rw [Nat.mod_eq_of_lt h4] at e2; omega
      · omega
    · have : n = 1 := by omega
      subst this
      omega

theorem Inv.same {ls : List (List Int)} {p0 p : Nat → Nat} {goal : Int} {st i q : Nat} (h : Inv ls p0 goal st i p) (hst : st < ls.length) (hs : Seek (ls.getD i []) (p i) goal q) (hq : q < (ls.getD i []).length) (he : (ls.getD i []).getD q 0 = goal) :
    Inv ls p0 goal (st + 1) ((i + 1) % ls.length) (upd p i q) where
  le := h.le_upd hs
  live y hy := ⟨(h.live y hy).1.seek (h.live y hy).2 hs, (h.live y hy).2⟩
  stand k hk := fun ⟨s, h1, h2, h3⟩ => by
    by_cases hki : k = i
    · subst hki
      rw [upd_same]
      exact ⟨hq, he⟩
    · rw [upd_other _ _ _ _ hki]
      have hb := back_mod h.lt hk h1 h3
      refine h.stand k hk ⟨s - 1, ?_, by omega, hb⟩
      rcases Nat.lt_or_ge 1 s with h4 | h4
      · omega
      · rw [show s - 1 = 0 by omega, Nat.add_zero, Nat.mod_eq_of_lt hk] at hb
        exact absurd hb hki
  lt := Nat.mod_lt _ (by have := h.lt; omega)
  st := hst

theorem Inv.more {ls : List (List Int)} {p0 p : Nat → Nat} {goal : Int} {st i q : Nat} (h : Inv ls p0 goal st i p) (ha : Asc (ls.getD i [])) (hs : Seek (ls.getD i []) (p i) goal q) (hq : q < (ls.getD i []).length) :
    Inv ls p0 ((ls.getD i []).getD q 0) 1 ((i + 1) % ls.length) (upd p i q) where
  le := h.le_upd hs
  live y hy := by
    have hl := (h.live y hy).1.seek (h.live y hy).2 hs
    refine ⟨hl, ?_⟩
    obtain ⟨j, h1, h2, e⟩ := hl i h.lt
    rw [upd_same] at h1
    rcases Nat.lt_or_ge q j with h3 | h3
    · have := ha q j h3 h2; omega
    · rw [show q = j by omega, e]; exact Int.le_refl _
  stand k hk := fun ⟨s, h1, h2, h3⟩ => by
    have hb := back_mod h.lt hk h1 h3
    rw [show s - 1 = 0 by omega, Nat.add_zero, Nat.mod_eq_of_lt hk] at hb
    subst hb
    rw [upd_same]
    exact ⟨hq, rfl⟩
  lt := Nat.mod_lt _ (by have := h.lt; omega)
  st := by have := h.lt; omega

theorem Inv.all {ls : List (List Int)} {p0 p : Nat → Nat} {goal : Int} {i : Nat} (h : Inv ls p0 goal ls.length i p) : ∀ k, k < ls.length → p k < (ls.getD k []).length ∧ (ls.getD k []).getD (p k) 0 = goal := fun k hk => by
  have hi := h.lt
  rcases Nat.lt_or_ge k i with h1 | h1
  · exact h.stand k hk ⟨i - k, by omega, by omega, by rw [show k + (i - k) = i by omega]; exact Nat.mod_eq_of_lt hi⟩
  · exact h.stand k hk ⟨ls.length - k + i, by omega, by omega, by rw [show k + (ls.length - k + i) = i + ls.length by omega, Nat.add_mod_right]; exact Nat.mod_eq_of_lt hi⟩

/-- how many elements of all lists are greater than g -/
def above (ls : List (List Int)) (g : Int) : Nat := (ls.map fun l => l.countP fun x => decide (g < x)).sum

/-- what Intersect has gathered -/
structure Got (ls : List (List Int)) (p : Nat → Nat) (acc : List Int) : Prop where
  le : ∀ k, k < ls.length → p k ≤ (ls.getD k []).length
  acc : acc = ((ls.getD 0 []).take (p 0)).filter (inAll ls)
  live : ∀ j, p 0 ≤ j → j < (ls.getD 0 []).length → inAll ls ((ls.getD 0 []).getD j 0) = true → Live ls p ((ls.getD 0 []).getD j 0)

theorem inAll_mem {ls : List (List Int)} {x : Int} (h : inAll ls x = true) {i : Nat} (hi : i < ls.length) : x ∈ ls.getD i [] := by
  unfold inAll at h
  rw [List.all_eq_true] at h
  have := h _ (List.getElem_mem hi)
  rw [List.getD_eq_getElem?_getD, List.getElem?_eq_getElem hi]
  simpa using this

theorem mem_at {l : List Int} {x : Int} (h : x ∈ l) : ∃ j, j < l.length ∧ l.getD j 0 = x := by
  obtain ⟨j, hj, e⟩ := List.getElem_of_mem h
  exact ⟨j, hj, by rw [List.getD_eq_getElem?_getD, List.getElem?_eq_getElem hj]; exact e⟩

theorem at_mem {l : List Int} {j : Nat} (h : j < l.length) : l.getD j 0 ∈ l := by
  rw [List.getD_eq_getElem?_getD, List.getElem?_eq_getElem h]
  exact List.getElem_mem h

theorem inAll_of_live {ls : List (List Int)} {p : Nat → Nat} {y : Int} (h : Live ls p y) : inAll ls y = true := by
  unfold inAll
  rw [List.all_eq_true]
  intro l hl
  obtain ⟨i, hi, e⟩ := List.getElem_of_mem hl
  obtain ⟨j, _, h2, h3⟩ := h i hi
  rw [List.getD_eq_getElem?_getD (l := ls), List.getElem?_eq_getElem hi] at h2 h3
  simp only [Option.getD_some, e] at h2 h3
  rw [← h3]
  exact decide_eq_true (at_mem h2)

theorem Got.start (ls : List (List Int)) : Got ls (fun _ => 0) [] where
  le _ _ := Nat.zero_le _
  acc := by simp
  live j _ _ h := fun i hi => by
    obtain ⟨q, h1, h2⟩ := mem_at (inAll_mem h hi)
    exact ⟨q, Nat.zero_le _, h1, h2⟩

/-- what is filtered does not turn by places where nothing is common -/
theorem take_skip {l : List Int} {f : Int → Bool} {a b : Nat} (hab : a ≤ b) (h : ∀ j, a ≤ j → j < b → j < l.length → f (l.getD j 0) = false) : (l.take b).filter f = (l.take a).filter f := by
  obtain ⟨d, rfl⟩ : ∃ d, b = a + d := ⟨b - a, by omega⟩
  clear hab
  induction d with
  | zero => rfl
  | succ d ih =>
    rw [← Nat.add_assoc, List.take_add_one]
    rcases Nat.lt_or_ge (a + d) l.length with h1 | h1
    · have h2 := h (a + d) (by omega) (by omega) h1
      rw [List.getD_eq_getElem?_getD, List.getElem?_eq_getElem h1, Option.getD_some] at h2
      rw [List.getElem?_eq_getElem h1, List.filter_append]
      simp only [Option.toList_some, List.filter_cons, h2, List.filter_nil]
      rw [if_neg (by decide), List.append_nil]
      exact ih (fun j h3 h4 h5 => h j h3 (by omega) h5)
    · rw [List.getElem?_eq_none h1]
      simp only [Option.toList_none, List.append_nil]
      exact ih (fun j h3 h4 h5 => h j h3 (by omega) h5)

theorem Got.done {ls : List (List Int)} {p : Nat → Nat} {acc : List Int} (h : Got ls p acc) (hn : 0 < ls.length) (hno : ∀ y, ¬ Live ls p y) : acc = (ls.getD 0 []).filter (inAll ls) := by
  rw [h.acc]
  have := take_skip (l := ls.getD 0 []) (f := inAll ls) (a := p 0) (b := (ls.getD 0 []).length) (h.le 0 hn) (fun j h1 _ h3 => by
    cases hb : inAll ls ((ls.getD 0 []).getD j 0)
    · rfl
    · exact absurd (h.live j h1 h3 hb) (hno _))
  rw [List.take_length] at this
  exact this.symm

theorem Got.step {ls : List (List Int)} {p p' : Nat → Nat} {acc : List Int} {goal : Int} {i : Nat} (h : Got ls p acc) (hn : 0 < ls.length) (ha : Asc (ls.getD 0 [])) (hi : Inv ls p goal ls.length i p') :
    Got ls (upd p' 0 (p' 0 + 1)) (acc ++ [goal]) := by
  obtain ⟨h1, h2⟩ := hi.all 0 hn
  have hlive : Live ls p' goal := fun k hk => ⟨p' k, Nat.le_refl _, (hi.all k hk).1, (hi.all k hk).2⟩
  refine ⟨fun k hk => ?_, ?_, fun j hj hjl hin => ?_⟩
  · by_cases hk0 : k = 0
    · subst hk0; rw [upd_same]; omega
    · rw [upd_other _ _ _ _ hk0]; exact (hi.le k hk).2
  · rw [upd_same, List.take_add_one, List.getElem?_eq_getElem h1, List.filter_append, h.acc]
    have hs := take_skip (l := ls.getD 0 []) (f := inAll ls) (a := p 0) (b := p' 0) (hi.le 0 hn).1 (fun j h3 h4 h5 => by
      cases hb : inAll ls ((ls.getD 0 []).getD j 0)
      · rfl
      · have hl := h.live j h3 h5 hb
        have hg := (hi.live _ hl).2
        have := ha j (p' 0) h4 h1
        omega)
    rw [hs]
    have e : (ls.getD 0 [])[p' 0] = goal := by
      rw [List.getD_eq_getElem?_getD (l := ls.getD 0 []), List.getElem?_eq_getElem h1] at h2
      exact h2
    simp only [Option.toList_some, e, List.filter_cons, inAll_of_live hlive, if_true, List.filter_nil]
  · rw [upd_same] at hj
    have hl := (hi.live _ (h.live j (by have := (hi.le 0 hn).1; omega) hjl hin)).1
    intro k hk
    by_cases hk0 : k = 0
    · subst hk0; rw [upd_same]; exact ⟨j, hj, hjl, rfl⟩
    · rw [upd_other _ _ _ _ hk0]; exact hl k hk

end Go.Proofs.YtcdfoephhjacdaaGreatDoor.Meet
