import Derived.Deep.RegionHeld3
import Derived.Test.YtegcpplkcahkhaaGreatB06
/-
  Tables: laws.toTable, szTable, eqTable; impl.TableOK, spec.TableOK.
-/
namespace Go.Proofs.YtegcpplkcahkhaaGreat
open Go.RowKit

def tableB (vs : List Int) (rows : List (List Int)) (ws : List Int) : Bool := setB vs && decide (rows.length ≤ 10000) && rowsB rows vs.length && decide (ws.length = rows.length)

/-- a table that the law's own copy laid: its three lists, each in blocks of its own, in rising order -/
structure OwnT (w : World) (B : Nat) (g0 g1 g2 : Nat) (vs : List Int) (rows : List (List Int)) (ws : List Int) (f : Nat → Nat) : Prop where
  vr : OwnI w g0 vs
  rw : Half w g1 rows.length rows.length rows f
  wt : OwnI w g2 ws
  lt0 : B ≤ g0
  lt1 : g0 < g1
  lt2 : ∀ i, i < rows.length → f i < g2
  lt3 : g1 < g2

def tabV (g0 g1 g2 : Nat) (vs : List Int) (rows : List (List Int)) (ws : List Int) : Value := .agg #[.slice (some ⟨g0, 0, none⟩) vs.length vs.length, .slice (some ⟨g1, 0, none⟩) rows.length rows.length, .slice (some ⟨g2, 0, none⟩) ws.length ws.length]

theorem Half.move {w w' : World} {G n j : Nat} {ls : List (List Int)} {f : Nat → Nat} (h : Half w G n j ls f) (hb : w'.heap[G]? = w.heap[G]?) (hf : ∀ i, i < j → w'.heap[f i]? = w.heap[f i]?) (hs : w.heap.size ≤ w'.heap.size) : Half w' G n j ls f :=
  ⟨fun i hi => (World.cell?_of_block (w := w) (a := ⟨G, i, none⟩) hb).trans (h.cell i hi), fun i hi => (World.frozen?_of_block (w := w) (a := ⟨G, i, none⟩) hb).trans (h.free i hi), fun i hi => (h.own i hi).move (hf i hi) hs, h.gt, h.up⟩

theorem Half.below {w w' : World} {G n j : Nat} {ls : List (List Int)} {f : Nat → Nat} (h : Half w G n j ls f) (hG : G < w.heap.size) (hb : Below w.heap.size w w') : Half w' G n j ls f :=
  h.move (hb.block G hG) (fun i hi => hb.block _ (h.own i hi).lt) hb.size

theorem Half.iss {w : World} {G n : Nat} {ls : List (List Int)} {f : Nat → Nat} (h : Half w G n n ls f) (hn : n = ls.length) : ISS w (.slice (some ⟨G, 0, none⟩) ls.length ls.length) ls := by
  subst hn
  refine ⟨_, _, rfl, Or.inr ⟨G, 0, rfl, fun j hj => ⟨_, by rw [Nat.zero_add]; exact h.cell j hj, ?_⟩⟩⟩
  rw [if_pos hj]
  exact (h.own j hj).is

theorem OwnI.set {w : World} {g c o : Nat} {l : List Int} {v : Value} (h : OwnI w g l) (hc : g ≠ c) : OwnI (w.setCell ⟨c, o, none⟩ v) g l :=
  h.move (Below.heap_setCell _ _ _ _ hc) (by simp [World.setCell])
theorem Half.set {w : World} {G n j c o : Nat} {ls : List (List Int)} {f : Nat → Nat} {v : Value} (h : Half w G n j ls f) (hc : c < G) : Half (w.setCell ⟨c, o, none⟩ v) G n j ls f :=
  h.move (Below.heap_setCell _ _ _ _ (by show G ≠ c; omega)) (fun i hi => Below.heap_setCell _ _ _ _ (by have := h.gt i hi; show f i ≠ c; omega)) (by simp [World.setCell])
theorem OwnT.set {w : World} {B g0 g1 g2 c o : Nat} {vs ws : List Int} {rows : List (List Int)} {f : Nat → Nat} {v : Value} (h : OwnT w B g0 g1 g2 vs rows ws f) (hc : c < g0) : OwnT (w.setCell ⟨c, o, none⟩ v) B g0 g1 g2 vs rows ws f :=
  ⟨h.vr.set (by omega), h.rw.set (Nat.lt_trans hc h.lt1), h.wt.set (by have := h.lt1; have := h.lt3; omega), h.lt0, h.lt1, h.lt2, h.lt3⟩

theorem OwnT.below {w w' : World} {B g0 g1 g2 : Nat} {vs ws : List Int} {rows : List (List Int)} {f : Nat → Nat} (h : OwnT w B g0 g1 g2 vs rows ws f) (hb : Below w.heap.size w w') : OwnT w' B g0 g1 g2 vs rows ws f :=
  ⟨h.vr.below hb, h.rw.below (Nat.lt_trans h.lt3 h.wt.lt) hb, h.wt.below hb, h.lt0, h.lt1, h.lt2, h.lt3⟩

/-- a table that can be read -/
structure IT (w : World) (v0 v1 v2 : Value) (vs : List Int) (rows : List (List Int)) (ws : List Int) : Prop where
  vs : IS w v0 vs
  rows : ISS w v1 rows
  ws : IS w v2 ws

theorem IT.below {w w' : World} {v0 v1 v2 : Value} {vs ws : List Int} {rows : List (List Int)} (h : IT w v0 v1 v2 vs rows ws) (hb : Below w.heap.size w w') : IT w' v0 v1 v2 vs rows ws :=
  ⟨h.vs.below hb, h.rows.below hb, h.ws.below hb⟩

theorem OwnT.it {w : World} {B g0 g1 g2 : Nat} {vs ws : List Int} {rows : List (List Int)} {f : Nat → Nat} (h : OwnT w B g0 g1 g2 vs rows ws f) :
    IT w (.slice (some ⟨g0, 0, none⟩) vs.length vs.length) (.slice (some ⟨g1, 0, none⟩) rows.length rows.length) (.slice (some ⟨g2, 0, none⟩) ws.length ws.length) vs rows ws :=
  ⟨h.vr.is, h.rw.iss rfl, h.wt.is⟩

structure TB (w : World) (s : Nat) (v0 v1 v2 z0 z1 z2 o0 o1 o2 : Value) (W : World) : Prop where
  a0 : W.cell? ⟨s, 0, none⟩ = some v0
  a1 : W.cell? ⟨s, 1, none⟩ = some v1
  a2 : W.cell? ⟨s, 2, none⟩ = some v2
  r0 : W.cell? ⟨s + 1, 0, none⟩ = some z0
  r1 : W.cell? ⟨s + 1, 1, none⟩ = some z1
  r2 : W.cell? ⟨s + 1, 2, none⟩ = some z2
  o0 : W.cell? ⟨s + 1 + 1, 0, none⟩ = some o0
  o1 : W.cell? ⟨s + 1 + 1, 1, none⟩ = some o1
  o2 : W.cell? ⟨s + 1 + 1, 2, none⟩ = some o2
  fr0 : W.frozen? ⟨s + 1, 0, none⟩ = false
  fr1 : W.frozen? ⟨s + 1, 1, none⟩ = false
  fr2 : W.frozen? ⟨s + 1, 2, none⟩ = false
  fo0 : W.frozen? ⟨s + 1 + 1, 0, none⟩ = false
  fo1 : W.frozen? ⟨s + 1 + 1, 1, none⟩ = false
  fo2 : W.frozen? ⟨s + 1 + 1, 2, none⟩ = false
  sz : s + 3 ≤ W.heap.size
  below : Below s w W

theorem TB.step {w W W' : World} {s : Nat} {v0 v1 v2 z0 z1 z2 o0 o1 o2 : Value} (h : TB w s v0 v1 v2 z0 z1 z2 o0 o1 o2 W) (hb : Below W.heap.size W W') : TB w s v0 v1 v2 z0 z1 z2 o0 o1 o2 W' where
  a0 := (hb.cell (p := ⟨s, 0, none⟩) (by have := h.sz; show s < _; omega)).trans h.a0
  a1 := (hb.cell (p := ⟨s, 1, none⟩) (by have := h.sz; show s < _; omega)).trans h.a1
  a2 := (hb.cell (p := ⟨s, 2, none⟩) (by have := h.sz; show s < _; omega)).trans h.a2
  r0 := (hb.cell (p := ⟨s + 1, 0, none⟩) (by have := h.sz; show s + 1 < _; omega)).trans h.r0
  r1 := (hb.cell (p := ⟨s + 1, 1, none⟩) (by have := h.sz; show s + 1 < _; omega)).trans h.r1
  r2 := (hb.cell (p := ⟨s + 1, 2, none⟩) (by have := h.sz; show s + 1 < _; omega)).trans h.r2
  o0 := (hb.cell (p := ⟨s + 1 + 1, 0, none⟩) (by have := h.sz; show s + 1 + 1 < _; omega)).trans h.o0
  o1 := (hb.cell (p := ⟨s + 1 + 1, 1, none⟩) (by have := h.sz; show s + 1 + 1 < _; omega)).trans h.o1
  o2 := (hb.cell (p := ⟨s + 1 + 1, 2, none⟩) (by have := h.sz; show s + 1 + 1 < _; omega)).trans h.o2
  fr0 := (hb.frozen (p := ⟨s + 1, 0, none⟩) (by have := h.sz; show s + 1 < _; omega)).trans h.fr0
  fr1 := (hb.frozen (p := ⟨s + 1, 1, none⟩) (by have := h.sz; show s + 1 < _; omega)).trans h.fr1
  fr2 := (hb.frozen (p := ⟨s + 1, 2, none⟩) (by have := h.sz; show s + 1 < _; omega)).trans h.fr2
  fo0 := (hb.frozen (p := ⟨s + 1 + 1, 0, none⟩) (by have := h.sz; show s + 1 + 1 < _; omega)).trans h.fo0
  fo1 := (hb.frozen (p := ⟨s + 1 + 1, 1, none⟩) (by have := h.sz; show s + 1 + 1 < _; omega)).trans h.fo1
  fo2 := (hb.frozen (p := ⟨s + 1 + 1, 2, none⟩) (by have := h.sz; show s + 1 + 1 < _; omega)).trans h.fo2
  sz := Nat.le_trans h.sz hb.size
  below := h.below.trans (hb.mono (by have := h.sz; omega))

theorem TB.set0 {w W : World} {s : Nat} {v0 v1 v2 z0 z1 z2 o0 o1 o2 : Value} (h : TB w s v0 v1 v2 z0 z1 z2 o0 o1 o2 W) (u : Value) : TB w s v0 v1 v2 z0 z1 z2 u o1 o2 (W.setCell ⟨s + 1 + 1, 0, none⟩ u) where
  a0 := (World.cell?_setCell_other _ _ _ _ (by intro e; simp only [Addr.mk.injEq] at e; omega)).trans h.a0
  a1 := (World.cell?_setCell_other _ _ _ _ (by intro e; simp only [Addr.mk.injEq] at e; omega)).trans h.a1
  a2 := (World.cell?_setCell_other _ _ _ _ (by intro e; simp only [Addr.mk.injEq] at e; omega)).trans h.a2
  r0 := (World.cell?_setCell_other _ _ _ _ (by intro e; simp only [Addr.mk.injEq] at e; omega)).trans h.r0
  r1 := (World.cell?_setCell_other _ _ _ _ (by intro e; simp only [Addr.mk.injEq] at e; omega)).trans h.r1
  r2 := (World.cell?_setCell_other _ _ _ _ (by intro e; simp only [Addr.mk.injEq] at e; omega)).trans h.r2
  o0 := World.cell?_setCell_same _ _ _ h.o0
  o1 := (World.cell?_setCell_other _ _ _ _ (by intro e; simp only [Addr.mk.injEq] at e; omega)).trans h.o1
  o2 := (World.cell?_setCell_other _ _ _ _ (by intro e; simp only [Addr.mk.injEq] at e; omega)).trans h.o2
  fr0 := (World.frozen?_setCell _ _ _ _).trans h.fr0
  fr1 := (World.frozen?_setCell _ _ _ _).trans h.fr1
  fr2 := (World.frozen?_setCell _ _ _ _).trans h.fr2
  fo0 := (World.frozen?_setCell _ _ _ _).trans h.fo0
  fo1 := (World.frozen?_setCell _ _ _ _).trans h.fo1
  fo2 := (World.frozen?_setCell _ _ _ _).trans h.fo2
  sz := by have := h.sz; simpa [World.setCell] using this
  below := h.below.setCell (by show s ≤ s + 1 + 1; omega) _

theorem TB.set1 {w W : World} {s : Nat} {v0 v1 v2 z0 z1 z2 o0 o1 o2 : Value} (h : TB w s v0 v1 v2 z0 z1 z2 o0 o1 o2 W) (u : Value) : TB w s v0 v1 v2 z0 z1 z2 o0 u o2 (W.setCell ⟨s + 1 + 1, 1, none⟩ u) where
  a0 := (World.cell?_setCell_other _ _ _ _ (by intro e; simp only [Addr.mk.injEq] at e; omega)).trans h.a0
  a1 := (World.cell?_setCell_other _ _ _ _ (by intro e; simp only [Addr.mk.injEq] at e; omega)).trans h.a1
  a2 := (World.cell?_setCell_other _ _ _ _ (by intro e; simp only [Addr.mk.injEq] at e; omega)).trans h.a2
  r0 := (World.cell?_setCell_other _ _ _ _ (by intro e; simp only [Addr.mk.injEq] at e; omega)).trans h.r0
  r1 := (World.cell?_setCell_other _ _ _ _ (by intro e; simp only [Addr.mk.injEq] at e; omega)).trans h.r1
  r2 := (World.cell?_setCell_other _ _ _ _ (by intro e; simp only [Addr.mk.injEq] at e; omega)).trans h.r2
  o0 := (World.cell?_setCell_other _ _ _ _ (by intro e; simp only [Addr.mk.injEq] at e; omega)).trans h.o0
  o1 := World.cell?_setCell_same _ _ _ h.o1
  o2 := (World.cell?_setCell_other _ _ _ _ (by intro e; simp only [Addr.mk.injEq] at e; omega)).trans h.o2
  fr0 := (World.frozen?_setCell _ _ _ _).trans h.fr0
  fr1 := (World.frozen?_setCell _ _ _ _).trans h.fr1
  fr2 := (World.frozen?_setCell _ _ _ _).trans h.fr2
  fo0 := (World.frozen?_setCell _ _ _ _).trans h.fo0
  fo1 := (World.frozen?_setCell _ _ _ _).trans h.fo1
  fo2 := (World.frozen?_setCell _ _ _ _).trans h.fo2
  sz := by have := h.sz; simpa [World.setCell] using this
  below := h.below.setCell (by show s ≤ s + 1 + 1; omega) _

theorem TB.set2 {w W : World} {s : Nat} {v0 v1 v2 z0 z1 z2 o0 o1 o2 : Value} (h : TB w s v0 v1 v2 z0 z1 z2 o0 o1 o2 W) (u : Value) : TB w s v0 v1 v2 z0 z1 z2 o0 o1 u (W.setCell ⟨s + 1 + 1, 2, none⟩ u) where
  a0 := (World.cell?_setCell_other _ _ _ _ (by intro e; simp only [Addr.mk.injEq] at e; omega)).trans h.a0
  a1 := (World.cell?_setCell_other _ _ _ _ (by intro e; simp only [Addr.mk.injEq] at e; omega)).trans h.a1
  a2 := (World.cell?_setCell_other _ _ _ _ (by intro e; simp only [Addr.mk.injEq] at e; omega)).trans h.a2
  r0 := (World.cell?_setCell_other _ _ _ _ (by intro e; simp only [Addr.mk.injEq] at e; omega)).trans h.r0
  r1 := (World.cell?_setCell_other _ _ _ _ (by intro e; simp only [Addr.mk.injEq] at e; omega)).trans h.r1
  r2 := (World.cell?_setCell_other _ _ _ _ (by intro e; simp only [Addr.mk.injEq] at e; omega)).trans h.r2
  o0 := (World.cell?_setCell_other _ _ _ _ (by intro e; simp only [Addr.mk.injEq] at e; omega)).trans h.o0
  o1 := (World.cell?_setCell_other _ _ _ _ (by intro e; simp only [Addr.mk.injEq] at e; omega)).trans h.o1
  o2 := World.cell?_setCell_same _ _ _ h.o2
  fr0 := (World.frozen?_setCell _ _ _ _).trans h.fr0
  fr1 := (World.frozen?_setCell _ _ _ _).trans h.fr1
  fr2 := (World.frozen?_setCell _ _ _ _).trans h.fr2
  fo0 := (World.frozen?_setCell _ _ _ _).trans h.fo0
  fo1 := (World.frozen?_setCell _ _ _ _).trans h.fo1
  fo2 := (World.frozen?_setCell _ _ _ _).trans h.fo2
  sz := by have := h.sz; simpa [World.setCell] using this
  below := h.below.setCell (by show s ≤ s + 1 + 1; omega) _

theorem TB.start (w : World) (t t' t'' : TypeId) (v0 v1 v2 z0 z1 z2 o0 o1 o2 : Value) : TB w w.heap.size v0 v1 v2 z0 z1 z2 o0 o1 o2 (((w.alloc (.cells #[v0, v1, v2] t)).alloc (.cells #[z0, z1, z2] t')).alloc (.cells #[o0, o1, o2] t'')) where
  a0 := by simp [go_sem]
  a1 := by simp [go_sem]
  a2 := by simp [go_sem]
  r0 := by simp [go_sem]
  r1 := by simp [go_sem]
  r2 := by simp [go_sem]
  o0 := by simp [go_sem]
  o1 := by simp [go_sem]
  o2 := by simp [go_sem]
  fr0 := by simp [go_sem]
  fr1 := by simp [go_sem]
  fr2 := by simp [go_sem]
  fo0 := by simp [go_sem]
  fo1 := by simp [go_sem]
  fo2 := by simp [go_sem]
  sz := by simp
  below := (((Below.refl _ _).alloc (Nat.le_refl _) _).alloc (by simp) _).alloc (by simp; omega) _

def szT (vs : List Int) (rows : List (List Int)) (ws : List Int) (left : Int) : Int := if left < vs.length + tot rows rows.length + ws.length then -1 else left - (vs.length + tot rows rows.length + ws.length)

end Go.Proofs.YtegcpplkcahkhaaGreat
