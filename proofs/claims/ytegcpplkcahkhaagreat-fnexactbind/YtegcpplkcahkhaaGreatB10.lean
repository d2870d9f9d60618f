import Derived.Test.YtegcpplkcahkhaaGreatB02
/-
  Three blocks of four cells: an argument, a result, what is being made.
-/
namespace Go.Proofs.YtegcpplkcahkhaaGreat
open Go.RowKit

structure TB4 (w : World) (s : Nat) (v0 v1 v2 v3 z0 z1 z2 z3 o0 o1 o2 o3 : Value) (W : World) : Prop where
  a0 : W.cell? ⟨s, 0, none⟩ = some v0
  a1 : W.cell? ⟨s, 1, none⟩ = some v1
  a2 : W.cell? ⟨s, 2, none⟩ = some v2
  a3 : W.cell? ⟨s, 3, none⟩ = some v3
  r0 : W.cell? ⟨s + 1, 0, none⟩ = some z0
  r1 : W.cell? ⟨s + 1, 1, none⟩ = some z1
  r2 : W.cell? ⟨s + 1, 2, none⟩ = some z2
  r3 : W.cell? ⟨s + 1, 3, none⟩ = some z3
  o0 : W.cell? ⟨s + 1 + 1, 0, none⟩ = some o0
  o1 : W.cell? ⟨s + 1 + 1, 1, none⟩ = some o1
  o2 : W.cell? ⟨s + 1 + 1, 2, none⟩ = some o2
  o3 : W.cell? ⟨s + 1 + 1, 3, none⟩ = some o3
  fr0 : W.frozen? ⟨s + 1, 0, none⟩ = false
  fr1 : W.frozen? ⟨s + 1, 1, none⟩ = false
  fr2 : W.frozen? ⟨s + 1, 2, none⟩ = false
  fr3 : W.frozen? ⟨s + 1, 3, none⟩ = false
  fo0 : W.frozen? ⟨s + 1 + 1, 0, none⟩ = false
  fo1 : W.frozen? ⟨s + 1 + 1, 1, none⟩ = false
  fo2 : W.frozen? ⟨s + 1 + 1, 2, none⟩ = false
  fo3 : W.frozen? ⟨s + 1 + 1, 3, none⟩ = false
  sz : s + 3 ≤ W.heap.size
  below : Below s w W

theorem TB4.step {w W W' : World} {s : Nat} {v0 v1 v2 v3 z0 z1 z2 z3 o0 o1 o2 o3 : Value} (h : TB4 w s v0 v1 v2 v3 z0 z1 z2 z3 o0 o1 o2 o3 W) (hb : Below W.heap.size W W') : TB4 w s v0 v1 v2 v3 z0 z1 z2 z3 o0 o1 o2 o3 W' where
  a0 := (hb.cell (p := ⟨s, 0, none⟩) (by have := h.sz; show s < _; omega)).trans h.a0
  a1 := (hb.cell (p := ⟨s, 1, none⟩) (by have := h.sz; show s < _; omega)).trans h.a1
  a2 := (hb.cell (p := ⟨s, 2, none⟩) (by have := h.sz; show s < _; omega)).trans h.a2
  a3 := (hb.cell (p := ⟨s, 3, none⟩) (by have := h.sz; show s < _; omega)).trans h.a3
  r0 := (hb.cell (p := ⟨s + 1, 0, none⟩) (by have := h.sz; show s + 1 < _; omega)).trans h.r0
  r1 := (hb.cell (p := ⟨s + 1, 1, none⟩) (by have := h.sz; show s + 1 < _; omega)).trans h.r1
  r2 := (hb.cell (p := ⟨s + 1, 2, none⟩) (by have := h.sz; show s + 1 < _; omega)).trans h.r2
  r3 := (hb.cell (p := ⟨s + 1, 3, none⟩) (by have := h.sz; show s + 1 < _; omega)).trans h.r3
  o0 := (hb.cell (p := ⟨s + 1 + 1, 0, none⟩) (by have := h.sz; show s + 1 + 1 < _; omega)).trans h.o0
  o1 := (hb.cell (p := ⟨s + 1 + 1, 1, none⟩) (by have := h.sz; show s + 1 + 1 < _; omega)).trans h.o1
  o2 := (hb.cell (p := ⟨s + 1 + 1, 2, none⟩) (by have := h.sz; show s + 1 + 1 < _; omega)).trans h.o2
  o3 := (hb.cell (p := ⟨s + 1 + 1, 3, none⟩) (by have := h.sz; show s + 1 + 1 < _; omega)).trans h.o3
  fr0 := (hb.frozen (p := ⟨s + 1, 0, none⟩) (by have := h.sz; show s + 1 < _; omega)).trans h.fr0
  fr1 := (hb.frozen (p := ⟨s + 1, 1, none⟩) (by have := h.sz; show s + 1 < _; omega)).trans h.fr1
  fr2 := (hb.frozen (p := ⟨s + 1, 2, none⟩) (by have := h.sz; show s + 1 < _; omega)).trans h.fr2
  fr3 := (hb.frozen (p := ⟨s + 1, 3, none⟩) (by have := h.sz; show s + 1 < _; omega)).trans h.fr3
  fo0 := (hb.frozen (p := ⟨s + 1 + 1, 0, none⟩) (by have := h.sz; show s + 1 + 1 < _; omega)).trans h.fo0
  fo1 := (hb.frozen (p := ⟨s + 1 + 1, 1, none⟩) (by have := h.sz; show s + 1 + 1 < _; omega)).trans h.fo1
  fo2 := (hb.frozen (p := ⟨s + 1 + 1, 2, none⟩) (by have := h.sz; show s + 1 + 1 < _; omega)).trans h.fo2
  fo3 := (hb.frozen (p := ⟨s + 1 + 1, 3, none⟩) (by have := h.sz; show s + 1 + 1 < _; omega)).trans h.fo3
  sz := Nat.le_trans h.sz hb.size
  below := h.below.trans (hb.mono (by have := h.sz; omega))

theorem TB4.set0 {w W : World} {s : Nat} {v0 v1 v2 v3 z0 z1 z2 z3 o0 o1 o2 o3 : Value} (h : TB4 w s v0 v1 v2 v3 z0 z1 z2 z3 o0 o1 o2 o3 W) (u : Value) : TB4 w s v0 v1 v2 v3 z0 z1 z2 z3 u o1 o2 o3 (W.setCell ⟨s + 1 + 1, 0, none⟩ u) where
  a0 := (World.cell?_setCell_other _ _ _ _ (by intro e; simp only [Addr.mk.injEq] at e; omega)).trans h.a0
  a1 := (World.cell?_setCell_other _ _ _ _ (by intro e; simp only [Addr.mk.injEq] at e; omega)).trans h.a1
  a2 := (World.cell?_setCell_other _ _ _ _ (by intro e; simp only [Addr.mk.injEq] at e; omega)).trans h.a2
  a3 := (World.cell?_setCell_other _ _ _ _ (by intro e; simp only [Addr.mk.injEq] at e; omega)).trans h.a3
  r0 := (World.cell?_setCell_other _ _ _ _ (by intro e; simp only [Addr.mk.injEq] at e; omega)).trans h.r0
  r1 := (World.cell?_setCell_other _ _ _ _ (by intro e; simp only [Addr.mk.injEq] at e; omega)).trans h.r1
  r2 := (World.cell?_setCell_other _ _ _ _ (by intro e; simp only [Addr.mk.injEq] at e; omega)).trans h.r2
  r3 := (World.cell?_setCell_other _ _ _ _ (by intro e; simp only [Addr.mk.injEq] at e; omega)).trans h.r3
  o0 := World.cell?_setCell_same _ _ _ h.o0
  o1 := (World.cell?_setCell_other _ _ _ _ (by intro e; simp only [Addr.mk.injEq] at e; omega)).trans h.o1
  o2 := (World.cell?_setCell_other _ _ _ _ (by intro e; simp only [Addr.mk.injEq] at e; omega)).trans h.o2
  o3 := (World.cell?_setCell_other _ _ _ _ (by intro e; simp only [Addr.mk.injEq] at e; omega)).trans h.o3
  fr0 := (World.frozen?_setCell _ _ _ _).trans h.fr0
  fr1 := (World.frozen?_setCell _ _ _ _).trans h.fr1
  fr2 := (World.frozen?_setCell _ _ _ _).trans h.fr2
  fr3 := (World.frozen?_setCell _ _ _ _).trans h.fr3
  fo0 := (World.frozen?_setCell _ _ _ _).trans h.fo0
  fo1 := (World.frozen?_setCell _ _ _ _).trans h.fo1
  fo2 := (World.frozen?_setCell _ _ _ _).trans h.fo2
  fo3 := (World.frozen?_setCell _ _ _ _).trans h.fo3
  sz := by have := h.sz; simpa [World.setCell] using this
  below := h.below.setCell (by show s ≤ s + 1 + 1; omega) _

theorem TB4.set1 {w W : World} {s : Nat} {v0 v1 v2 v3 z0 z1 z2 z3 o0 o1 o2 o3 : Value} (h : TB4 w s v0 v1 v2 v3 z0 z1 z2 z3 o0 o1 o2 o3 W) (u : Value) : TB4 w s v0 v1 v2 v3 z0 z1 z2 z3 o0 u o2 o3 (W.setCell ⟨s + 1 + 1, 1, none⟩ u) where
  a0 := (World.cell?_setCell_other _ _ _ _ (by intro e; simp only [Addr.mk.injEq] at e; omega)).trans h.a0
  a1 := (World.cell?_setCell_other _ _ _ _ (by intro e; simp only [Addr.mk.injEq] at e; omega)).trans h.a1
  a2 := (World.cell?_setCell_other _ _ _ _ (by intro e; simp only [Addr.mk.injEq] at e; omega)).trans h.a2
  a3 := (World.cell?_setCell_other _ _ _ _ (by intro e; simp only [Addr.mk.injEq] at e; omega)).trans h.a3
  r0 := (World.cell?_setCell_other _ _ _ _ (by intro e; simp only [Addr.mk.injEq] at e; omega)).trans h.r0
  r1 := (World.cell?_setCell_other _ _ _ _ (by intro e; simp only [Addr.mk.injEq] at e; omega)).trans h.r1
  r2 := (World.cell?_setCell_other _ _ _ _ (by intro e; simp only [Addr.mk.injEq] at e; omega)).trans h.r2
  r3 := (World.cell?_setCell_other _ _ _ _ (by intro e; simp only [Addr.mk.injEq] at e; omega)).trans h.r3
  o0 := (World.cell?_setCell_other _ _ _ _ (by intro e; simp only [Addr.mk.injEq] at e; omega)).trans h.o0
  o1 := World.cell?_setCell_same _ _ _ h.o1
  o2 := (World.cell?_setCell_other _ _ _ _ (by intro e; simp only [Addr.mk.injEq] at e; omega)).trans h.o2
  o3 := (World.cell?_setCell_other _ _ _ _ (by intro e; simp only [Addr.mk.injEq] at e; omega)).trans h.o3
  fr0 := (World.frozen?_setCell _ _ _ _).trans h.fr0
  fr1 := (World.frozen?_setCell _ _ _ _).trans h.fr1
  fr2 := (World.frozen?_setCell _ _ _ _).trans h.fr2
  fr3 := (World.frozen?_setCell _ _ _ _).trans h.fr3
  fo0 := (World.frozen?_setCell _ _ _ _).trans h.fo0
  fo1 := (World.frozen?_setCell _ _ _ _).trans h.fo1
  fo2 := (World.frozen?_setCell _ _ _ _).trans h.fo2
  fo3 := (World.frozen?_setCell _ _ _ _).trans h.fo3
  sz := by have := h.sz; simpa [World.setCell] using this
  below := h.below.setCell (by show s ≤ s + 1 + 1; omega) _

theorem TB4.set2 {w W : World} {s : Nat} {v0 v1 v2 v3 z0 z1 z2 z3 o0 o1 o2 o3 : Value} (h : TB4 w s v0 v1 v2 v3 z0 z1 z2 z3 o0 o1 o2 o3 W) (u : Value) : TB4 w s v0 v1 v2 v3 z0 z1 z2 z3 o0 o1 u o3 (W.setCell ⟨s + 1 + 1, 2, none⟩ u) where
  a0 := (World.cell?_setCell_other _ _ _ _ (by intro e; simp only [Addr.mk.injEq] at e; omega)).trans h.a0
  a1 := (World.cell?_setCell_other _ _ _ _ (by intro e; simp only [Addr.mk.injEq] at e; omega)).trans h.a1
  a2 := (World.cell?_setCell_other _ _ _ _ (by intro e; simp only [Addr.mk.injEq] at e; omega)).trans h.a2
  a3 := (World.cell?_setCell_other _ _ _ _ (by intro e; simp only [Addr.mk.injEq] at e; omega)).trans h.a3
  r0 := (World.cell?_setCell_other _ _ _ _ (by intro e; simp only [Addr.mk.injEq] at e; omega)).trans h.r0
  r1 := (World.cell?_setCell_other _ _ _ _ (by intro e; simp only [Addr.mk.injEq] at e; omega)).trans h.r1
  r2 := (World.cell?_setCell_other _ _ _ _ (by intro e; simp only [Addr.mk.injEq] at e; omega)).trans h.r2
  r3 := (World.cell?_setCell_other _ _ _ _ (by intro e; simp only [Addr.mk.injEq] at e; omega)).trans h.r3
  o0 := (World.cell?_setCell_other _ _ _ _ (by intro e; simp only [Addr.mk.injEq] at e; omega)).trans h.o0
  o1 := (World.cell?_setCell_other _ _ _ _ (by intro e; simp only [Addr.mk.injEq] at e; omega)).trans h.o1
  o2 := World.cell?_setCell_same _ _ _ h.o2
  o3 := (World.cell?_setCell_other _ _ _ _ (by intro e; simp only [Addr.mk.injEq] at e; omega)).trans h.o3
  fr0 := (World.frozen?_setCell _ _ _ _).trans h.fr0
  fr1 := (World.frozen?_setCell _ _ _ _).trans h.fr1
  fr2 := (World.frozen?_setCell _ _ _ _).trans h.fr2
  fr3 := (World.frozen?_setCell _ _ _ _).trans h.fr3
  fo0 := (World.frozen?_setCell _ _ _ _).trans h.fo0
  fo1 := (World.frozen?_setCell _ _ _ _).trans h.fo1
  fo2 := (World.frozen?_setCell _ _ _ _).trans h.fo2
  fo3 := (World.frozen?_setCell _ _ _ _).trans h.fo3
  sz := by have := h.sz; simpa [World.setCell] using this
  below := h.below.setCell (by show s ≤ s + 1 + 1; omega) _

theorem TB4.set3 {w W : World} {s : Nat} {v0 v1 v2 v3 z0 z1 z2 z3 o0 o1 o2 o3 : Value} (h : TB4 w s v0 v1 v2 v3 z0 z1 z2 z3 o0 o1 o2 o3 W) (u : Value) : TB4 w s v0 v1 v2 v3 z0 z1 z2 z3 o0 o1 o2 u (W.setCell ⟨s + 1 + 1, 3, none⟩ u) where
  a0 := (World.cell?_setCell_other _ _ _ _ (by intro e; simp only [Addr.mk.injEq] at e; omega)).trans h.a0
  a1 := (World.cell?_setCell_other _ _ _ _ (by intro e; simp only [Addr.mk.injEq] at e; omega)).trans h.a1
  a2 := (World.cell?_setCell_other _ _ _ _ (by intro e; simp only [Addr.mk.injEq] at e; omega)).trans h.a2
  a3 := (World.cell?_setCell_other _ _ _ _ (by intro e; simp only [Addr.mk.injEq] at e; omega)).trans h.a3
  r0 := (World.cell?_setCell_other _ _ _ _ (by intro e; simp only [Addr.mk.injEq] at e; omega)).trans h.r0
  r1 := (World.cell?_setCell_other _ _ _ _ (by intro e; simp only [Addr.mk.injEq] at e; omega)).trans h.r1
  r2 := (World.cell?_setCell_other _ _ _ _ (by intro e; simp only [Addr.mk.injEq] at e; omega)).trans h.r2
  r3 := (World.cell?_setCell_other _ _ _ _ (by intro e; simp only [Addr.mk.injEq] at e; omega)).trans h.r3
  o0 := (World.cell?_setCell_other _ _ _ _ (by intro e; simp only [Addr.mk.injEq] at e; omega)).trans h.o0
  o1 := (World.cell?_setCell_other _ _ _ _ (by intro e; simp only [Addr.mk.injEq] at e; omega)).trans h.o1
  o2 := (World.cell?_setCell_other _ _ _ _ (by intro e; simp only [Addr.mk.injEq] at e; omega)).trans h.o2
  o3 := World.cell?_setCell_same _ _ _ h.o3
  fr0 := (World.frozen?_setCell _ _ _ _).trans h.fr0
  fr1 := (World.frozen?_setCell _ _ _ _).trans h.fr1
  fr2 := (World.frozen?_setCell _ _ _ _).trans h.fr2
  fr3 := (World.frozen?_setCell _ _ _ _).trans h.fr3
  fo0 := (World.frozen?_setCell _ _ _ _).trans h.fo0
  fo1 := (World.frozen?_setCell _ _ _ _).trans h.fo1
  fo2 := (World.frozen?_setCell _ _ _ _).trans h.fo2
  fo3 := (World.frozen?_setCell _ _ _ _).trans h.fo3
  sz := by have := h.sz; simpa [World.setCell] using this
  below := h.below.setCell (by show s ≤ s + 1 + 1; omega) _

theorem TB4.start (w : World) (t t' t'' : TypeId) (v0 v1 v2 v3 z0 z1 z2 z3 o0 o1 o2 o3 : Value) : TB4 w w.heap.size v0 v1 v2 v3 z0 z1 z2 z3 o0 o1 o2 o3 (((w.alloc (.cells #[v0, v1, v2, v3] t)).alloc (.cells #[z0, z1, z2, z3] t')).alloc (.cells #[o0, o1, o2, o3] t'')) where
  a0 := by simp [go_sem]
  a1 := by simp [go_sem]
  a2 := by simp [go_sem]
  a3 := by simp [go_sem]
  r0 := by simp [go_sem]
  r1 := by simp [go_sem]
  r2 := by simp [go_sem]
  r3 := by simp [go_sem]
  o0 := by simp [go_sem]
  o1 := by simp [go_sem]
  o2 := by simp [go_sem]
  o3 := by simp [go_sem]
  fr0 := by simp [go_sem]
  fr1 := by simp [go_sem]
  fr2 := by simp [go_sem]
  fr3 := by simp [go_sem]
  fo0 := by simp [go_sem]
  fo1 := by simp [go_sem]
  fo2 := by simp [go_sem]
  fo3 := by simp [go_sem]
  sz := by simp
  below := (((Below.refl _ _).alloc (Nat.le_refl _) _).alloc (by simp) _).alloc (by simp; omega) _

end Go.Proofs.YtegcpplkcahkhaaGreat
