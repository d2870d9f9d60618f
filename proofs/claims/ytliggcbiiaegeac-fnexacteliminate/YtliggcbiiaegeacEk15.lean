import Derived.Deep.RegionHeld3
import Derived.Test.YtliggcbiiaegeacEk01
import Derived.Test.YtliggcbiiaegeacEk08
import Derived.Test.YtliggcbiiaegeacEk14
/-
  Tables: laws.toTable, szTable, eqTable; impl.TableOK, spec.TableOK.
-/
namespace Go.Proofs.Ytliggcbiiaegeac
open Go.RowKit

def tableB (vs : List Int) (rows : List (List Int)) (ws : List Int) : Bool := setB vs && decide (rows.length ≤ 10000) && rowsB rows vs.length && decide (ws.length = rows.length)

/-- a table that the law's own copy laid: its three lists, each in blocks of its own, in rising order -/
structure OwnT (w : World) (B : Nat) (g0 g1 g2 : Nat) (vs : List Int) (rows : List (List Int)) (ws : List Int) (f : Nat → Nat) : Prop where
  vr : OwnI w g0 vs
  rw : Half w g1 rows.length rows.length rows f
  wt : OwnI w g2 ws
  lt0 : B ≤ g0
  lt1 : g0 < g1
  lt2 : ∀ i, i < rows.length → f i < g2
  lt3 : g1 < g2

def tabV (g0 g1 g2 : Nat) (vs : List Int) (rows : List (List Int)) (ws : List Int) : Value := .agg #[.slice (some ⟨g0, 0, none⟩) vs.length vs.length, .slice (some ⟨g1, 0, none⟩) rows.length rows.length, .slice (some ⟨g2, 0, none⟩) ws.length ws.length]

theorem Half.move {w w' : World} {G n j : Nat} {ls : List (List Int)} {f : Nat → Nat} (h : Half w G n j ls f) (hb : w'.heap[G]? = w.heap[G]?) (hf : ∀ i, i < j → w'.heap[f i]? = w.heap[f i]?) (hs : w.heap.size ≤ w'.heap.size) : Half w' G n j ls f :=
  ⟨fun i hi => (World.cell?_of_block (w := w) (a := ⟨G, i, none⟩) hb).trans (h.cell i hi), fun i hi => (World.frozen?_of_block (w := w) (a := ⟨G, i, none⟩) hb).trans (h.free i hi), fun i hi => (h.own i hi).move (hf i hi) hs, h.gt, h.up⟩

theorem Half.below {w w' : World} {G n j : Nat} {ls : List (List Int)} {f : Nat → Nat} (h : Half w G n j ls f) (hG : G < w.heap.size) (hb : Below w.heap.size w w') : Half w' G n j ls f :=
  h.move (hb.block G hG) (fun i hi => hb.block _ (h.own i hi).lt) hb.size

theorem Half.iss {w : World} {G n : Nat} {ls : List (List Int)} {f : Nat → Nat} (h : Half w G n n ls f) (hn : n = ls.length) : ISS w (.slice (some ⟨G, 0, none⟩) ls.length ls.length) ls := by
  subst hn
  refine ⟨_, _, rfl, Or.inr ⟨G, 0, rfl, fun j hj => ⟨_, by rw [Nat.zero_add]; exact h.cell j hj, ?_⟩⟩⟩
  rw [if_pos hj]
  exact (h.own j hj).is

theorem OwnI.set {w : World} {g c o : Nat} {l : List Int} {v : Value} (h : OwnI w g l) (hc : g ≠ c) : OwnI (w.setCell ⟨c, o, none⟩ v) g l :=
  h.move (Below.heap_setCell _ _ _ _ hc) (by simp [World.setCell])
theorem Half.set {w : World} {G n j c o : Nat} {ls : List (List Int)} {f : Nat → Nat} {v : Value} (h : Half w G n j ls f) (hc : c < G) : Half (w.setCell ⟨c, o, none⟩ v) G n j ls f :=
  h.move (Below.heap_setCell _ _ _ _ (by show G ≠ c; omega)) (fun i hi => Below.heap_setCell _ _ _ _ (by have := h.gt i hi; show f i ≠ c; omega)) (by simp [World.setCell])
theorem OwnT.set {w : World} {B g0 g1 g2 c o : Nat} {vs ws : List Int} {rows : List (List Int)} {f : Nat → Nat} {v : Value} (h : OwnT w B g0 g1 g2 vs rows ws f) (hc : c < g0) : OwnT (w.setCell ⟨c, o, none⟩ v) B g0 g1 g2 vs rows ws f :=
  ⟨h.vr.set (by omega), h.rw.set (Nat.lt_trans hc h.lt1), h.wt.set (by have := h.lt1; have := h.lt3; omega), h.lt0, h.lt1, h.lt2, h.lt3⟩

theorem OwnT.below {w w' : World} {B g0 g1 g2 : Nat} {vs ws : List Int} {rows : List (List Int)} {f : Nat → Nat} (h : OwnT w B g0 g1 g2 vs rows ws f) (hb : Below w.heap.size w w') : OwnT w' B g0 g1 g2 vs rows ws f :=
  ⟨h.vr.below hb, h.rw.below (Nat.lt_trans h.lt3 h.wt.lt) hb, h.wt.below hb, h.lt0, h.lt1, h.lt2, h.lt3⟩

/-- a table that can be read -/
structure IT (w : World) (v0 v1 v2 : Value) (vs : List Int) (rows : List (List Int)) (ws : List Int) : Prop where
  vs : IS w v0 vs
  rows : ISS w v1 rows
  ws : IS w v2 ws

theorem IT.below {w w' : World} {v0 v1 v2 : Value} {vs ws : List Int} {rows : List (List Int)} (h : IT w v0 v1 v2 vs rows ws) (hb : Below w.heap.size w w') : IT w' v0 v1 v2 vs rows ws :=
  ⟨h.vs.below hb, h.rows.below hb, h.ws.below hb⟩

theorem OwnT.it {w : World} {B g0 g1 g2 : Nat} {vs ws : List Int} {rows : List (List Int)} {f : Nat → Nat} (h : OwnT w B g0 g1 g2 vs rows ws f) :
    IT w (.slice (some ⟨g0, 0, none⟩) vs.length vs.length) (.slice (some ⟨g1, 0, none⟩) rows.length rows.length) (.slice (some ⟨g2, 0, none⟩) ws.length ws.length) vs rows ws :=
  ⟨h.vr.is, h.rw.iss rfl, h.wt.is⟩

structure TB (w : World) (s : Nat) (v0 v1 v2 z0 z1 z2 o0 o1 o2 : Value) (W : World) : Prop where
  a0 : W.cell? ⟨s, 0, none⟩ = some v0
  a1 : W.cell? ⟨s, 1, none⟩ = some v1
  a2 : W.cell? ⟨s, 2, none⟩ = some v2
  r0 : W.cell? ⟨s + 1, 0, none⟩ = some z0
  r1 : W.cell? ⟨s + 1, 1, none⟩ = some z1
  r2 : W.cell? ⟨s + 1, 2, none⟩ = some z2
  o0 : W.cell? ⟨s + 1 + 1, 0, none⟩ = some o0
  o1 : W.cell? ⟨s + 1 + 1, 1, none⟩ = some o1
  o2 : W.cell? ⟨s + 1 + 1, 2, none⟩ = some o2
  fr0 : W.frozen? ⟨s + 1, 0, none⟩ = false
  fr1 : W.frozen? ⟨s + 1, 1, none⟩ = false
  fr2 : W.frozen? ⟨s + 1, 2, none⟩ = false
  fo0 : W.frozen? ⟨s + 1 + 1, 0, none⟩ = false
  fo1 : W.frozen? ⟨s + 1 + 1, 1, none⟩ = false
  fo2 : W.frozen? ⟨s + 1 + 1, 2, none⟩ = false
  sz : s + 3 ≤ W.heap.size
  below : Below s w W

theorem TB.step {w W W' : World} {s : Nat} {v0 v1 v2 z0 z1 z2 o0 o1 o2 : Value} (h : TB w s v0 v1 v2 z0 z1 z2 o0 o1 o2 W) (hb : Below W.heap.size W W') : TB w s v0 v1 v2 z0 z1 z2 o0 o1 o2 W' where
  a0 := (hb.cell (p := ⟨s, 0, none⟩) (by have := h.sz; show s < _; omega)).trans h.a0
  a1 := (hb.cell (p := ⟨s, 1, none⟩) (by have := h.sz; show s < _; omega)).trans h.a1
  a2 := (hb.cell (p := ⟨s, 2, none⟩) (by have := h.sz; show s < _; omega)).trans h.a2
  r0 := (hb.cell (p := ⟨s + 1, 0, none⟩) (by have := h.sz; show s + 1 < _; omega)).trans h.r0
  r1 := (hb.cell (p := ⟨s + 1, 1, none⟩) (by have := h.sz; show s + 1 < _; omega)).trans h.r1
  r2 := (hb.cell (p := ⟨s + 1, 2, none⟩) (by have := h.sz; show s + 1 < _; omega)).trans h.r2
  o0 := (hb.cell (p := ⟨s + 1 + 1, 0, none⟩) (by have := h.sz; show s + 1 + 1 < _; omega)).trans h.o0
  o1 := (hb.cell (p := ⟨s + 1 + 1, 1, none⟩) (by have := h.sz; show s + 1 + 1 < _; omega)).trans h.o1
  o2 := (hb.cell (p := ⟨s + 1 + 1, 2, none⟩) (by have := h.sz; show s + 1 + 1 < _; omega)).trans h.o2
  fr0 := (hb.frozen (p := ⟨s + 1, 0, none⟩) (by have := h.sz; show s + 1 < _; omega)).trans h.fr0
  fr1 := (hb.frozen (p := ⟨s + 1, 1, none⟩) (by have := h.sz; show s + 1 < _; omega)).trans h.fr1
  fr2 := (hb.frozen (p := ⟨s + 1, 2, none⟩) (by have := h.sz; show s + 1 < _; omega)).trans h.fr2
  fo0 := (hb.frozen (p := ⟨s + 1 + 1, 0, none⟩) (by have := h.sz; show s + 1 + 1 < _; omega)).trans h.fo0
  fo1 := (hb.frozen (p := ⟨s + 1 + 1, 1, none⟩) (by have := h.sz; show s + 1 + 1 < _; omega)).trans h.fo1
  fo2 := (hb.frozen (p := ⟨s + 1 + 1, 2, none⟩) (by have := h.sz; show s + 1 + 1 < _; omega)).trans h.fo2
  sz := Nat.le_trans h.sz hb.size
  below := h.below.trans (hb.mono (by have := h.sz; omega))

theorem TB.set0 {w W : World} {s : Nat} {v0 v1 v2 z0 z1 z2 o0 o1 o2 : Value} (h : TB w s v0 v1 v2 z0 z1 z2 o0 o1 o2 W) (u : Value) : TB w s v0 v1 v2 z0 z1 z2 u o1 o2 (W.setCell ⟨s + 1 + 1, 0, none⟩ u) where
  a0 := (World.cell?_setCell_other _ _ _ _ (by intro e; simp only [Addr.mk.injEq] at e; omega)).trans h.a0
  a1 := (World.cell?_setCell_other _ _ _ _ (by intro e; simp only [Addr.mk.injEq] at e; omega)).trans h.a1
  a2 := (World.cell?_setCell_other _ _ _ _ (by intro e; simp only [Addr.mk.injEq] at e; omega)).trans h.a2
  r0 := (World.cell?_setCell_other _ _ _ _ (by intro e; simp only [Addr.mk.injEq] at e; omega)).trans h.r0
  r1 := (World.cell?_setCell_other _ _ _ _ (by intro e; simp only [Addr.mk.injEq] at e; omega)).trans h.r1
  r2 := (World.cell?_setCell_other _ _ _ _ (by intro e; simp only [Addr.mk.injEq] at e; omega)).trans h.r2
  o0 := World.cell?_setCell_same _ _ _ h.o0
  o1 := (World.cell?_setCell_other _ _ _ _ (by intro e; simp only [Addr.mk.injEq] at e; omega)).trans h.o1
  o2 := (World.cell?_setCell_other _ _ _ _ (by intro e; simp only [Addr.mk.injEq] at e; omega)).trans h.o2
  fr0 := (World.frozen?_setCell _ _ _ _).trans h.fr0
  fr1 := (World.frozen?_setCell _ _ _ _).trans h.fr1
  fr2 := (World.frozen?_setCell _ _ _ _).trans h.fr2
  fo0 := (World.frozen?_setCell _ _ _ _).trans h.fo0
  fo1 := (World.frozen?_setCell _ _ _ _).trans h.fo1
  fo2 := (World.frozen?_setCell _ _ _ _).trans h.fo2
  sz := by have := h.sz; simpa [World.setCell] using this
  below := h.below.setCell (by show s ≤ s + 1 + 1; omega) _

theorem TB.set1 {w W : World} {s : Nat} {v0 v1 v2 z0 z1 z2 o0 o1 o2 : Value} (h : TB w s v0 v1 v2 z0 z1 z2 o0 o1 o2 W) (u : Value) : TB w s v0 v1 v2 z0 z1 z2 o0 u o2 (W.setCell ⟨s + 1 + 1, 1, none⟩ u) where
  a0 := (World.cell?_setCell_other _ _ _ _ (by intro e; simp only [Addr.mk.injEq] at e; omega)).trans h.a0
  a1 := (World.cell?_setCell_other _ _ _ _ (by intro e; simp only [Addr.mk.injEq] at e; omega)).trans h.a1
  a2 := (World.cell?_setCell_other _ _ _ _ (by intro e; simp only [Addr.mk.injEq] at e; omega)).trans h.a2
  r0 := (World.cell?_setCell_other _ _ _ _ (by intro e; simp only [Addr.mk.injEq] at e; omega)).trans h.r0
  r1 := (World.cell?_setCell_other _ _ _ _ (by intro e; simp only [Addr.mk.injEq] at e; omega)).trans h.r1
  r2 := (World.cell?_setCell_other _ _ _ _ (by intro e; simp only [Addr.mk.injEq] at e; omega)).trans h.r2
  o0 := (World.cell?_setCell_other _ _ _ _ (by intro e; simp only [Addr.mk.injEq] at e; omega)).trans h.o0
  o1 := World.cell?_setCell_same _ _ _ h.o1
  o2 := (World.cell?_setCell_other _ _ _ _ (by intro e; simp only [Addr.mk.injEq] at e; omega)).trans h.o2
  fr0 := (World.frozen?_setCell _ _ _ _).trans h.fr0
  fr1 := (World.frozen?_setCell _ _ _ _).trans h.fr1
  fr2 := (World.frozen?_setCell _ _ _ _).trans h.fr2
  fo0 := (World.frozen?_setCell _ _ _ _).trans h.fo0
  fo1 := (World.frozen?_setCell _ _ _ _).trans h.fo1
  fo2 := (World.frozen?_setCell _ _ _ _).trans h.fo2
  sz := by have := h.sz; simpa [World.setCell] using this
  below := h.below.setCell (by show s ≤ s + 1 + 1; omega) _

theorem TB.set2 {w W : World} {s : Nat} {v0 v1 v2 z0 z1 z2 o0 o1 o2 : Value} (h : TB w s v0 v1 v2 z0 z1 z2 o0 o1 o2 W) (u : Value) : TB w s v0 v1 v2 z0 z1 z2 o0 o1 u (W.setCell ⟨s + 1 + 1, 2, none⟩ u) where
  a0 := (World.cell?_setCell_other _ _ _ _ (by intro e; simp only [Addr.mk.injEq] at e; omega)).trans h.a0
  a1 := (World.cell?_setCell_other _ _ _ _ (by intro e; simp only [Addr.mk.injEq] at e; omega)).trans h.a1
  a2 := (World.cell?_setCell_other _ _ _ _ (by intro e; simp only [Addr.mk.injEq] at e; omega)).trans h.a2
  r0 := (World.cell?_setCell_other _ _ _ _ (by intro e; simp only [Addr.mk.injEq] at e; omega)).trans h.r0
  r1 := (World.cell?_setCell_other _ _ _ _ (by intro e; simp only [Addr.mk.injEq] at e; omega)).trans h.r1
  r2 := (World.cell?_setCell_other _ _ _ _ (by intro e; simp only [Addr.mk.injEq] at e; omega)).trans h.r2
  o0 := (World.cell?_setCell_other _ _ _ _ (by intro e; simp only [Addr.mk.injEq] at e; omega)).trans h.o0
  o1 := (World.cell?_setCell_other _ _ _ _ (by intro e; simp only [Addr.mk.injEq] at e; omega)).trans h.o1
  o2 := World.cell?_setCell_same _ _ _ h.o2
  fr0 := (World.frozen?_setCell _ _ _ _).trans h.fr0
  fr1 := (World.frozen?_setCell _ _ _ _).trans h.fr1
  fr2 := (World.frozen?_setCell _ _ _ _).trans h.fr2
  fo0 := (World.frozen?_setCell _ _ _ _).trans h.fo0
  fo1 := (World.frozen?_setCell _ _ _ _).trans h.fo1
  fo2 := (World.frozen?_setCell _ _ _ _).trans h.fo2
  sz := by have := h.sz; simpa [World.setCell] using this
  below := h.below.setCell (by show s ≤ s + 1 + 1; omega) _

theorem TB.start (w : World) (t t' t'' : TypeId) (v0 v1 v2 z0 z1 z2 o0 o1 o2 : Value) : TB w w.heap.size v0 v1 v2 z0 z1 z2 o0 o1 o2 (((w.alloc (.cells #[v0, v1, v2] t)).alloc (.cells #[z0, z1, z2] t')).alloc (.cells #[o0, o1, o2] t'')) where
  a0 := by simp [go_sem]
  a1 := by simp [go_sem]
  a2 := by simp [go_sem]
  r0 := by simp [go_sem]
  r1 := by simp [go_sem]
  r2 := by simp [go_sem]
  o0 := by simp [go_sem]
  o1 := by simp [go_sem]
  o2 := by simp [go_sem]
  fr0 := by simp [go_sem]
  fr1 := by simp [go_sem]
  fr2 := by simp [go_sem]
  fo0 := by simp [go_sem]
  fo1 := by simp [go_sem]
  fo2 := by simp [go_sem]
  sz := by simp
  below := (((Below.refl _ _).alloc (Nat.le_refl _) _).alloc (by simp) _).alloc (by simp; omega) _

set_option maxHeartbeats 2000000 in
set_option maxRecDepth 1000000 in
theorem toTable_calls (w : World) (v0 v1 v2 : Value) (vs : List Int) (rows : List (List Int)) (ws : List Int) (h : IT w v0 v1 v2 vs rows ws) (hv : vs.length ≤ 1099511627776) (hr : Short rows) (hw : ws.length ≤ 1099511627776) :
    Calls Try.prog 86 #[.agg #[v0, v1, v2]] w fun e w' => ∃ g0 g1 g2 f, e = .returned (.agg #[.slice (some ⟨g0, 0, none⟩) vs.length vs.length, .slice (some ⟨g1, 0, none⟩) rows.length rows.length, .slice (some ⟨g2, 0, none⟩) ws.length ws.length]) ∧ OwnT w' w.heap.size g0 g1 g2 vs rows ws f ∧ Below w.heap.size w w' := by
  have H0 := hid h.vs
  have H1 := hid h.rows
  have H2 := hid h.ws
  have HR := hid hr
  obtain ⟨a0, k0, rfl, -⟩ := h.vs
  obtain ⟨a1, k1, rfl, -⟩ := h.rows
  obtain ⟨a2, k2, rfl, -⟩ := h.ws
  clear h hr
  have HT0 := hid (TB.start w 103 113 113 (.slice a0 vs.length k0) (.slice a1 rows.length k1) (.slice a2 ws.length k2) (.slice none 0 0) (.slice none 0 0) (.slice none 0 0) (.slice none 0 0) (.slice none 0 0) (.slice none 0 0))
  go_enter Try.func86, Try.ntmps86
  go_wp2_with fail
  refine (toIntS_calls _ _ vs (H0.out.below HT0.out.below) hv).mono ?_
  rintro e w2 ⟨rfl, ho0, hb0⟩
  have HT1 := hid (HT0.out.step hb0)
  have y1 := HT1.out.a1
  have y2 := HT1.out.o0
  have y3 := HT1.out.fo0
  have HO0 : Hid (OwnI w2 (w.heap.size + 1 + 1 + 1) vs) := hid (by simpa using ho0)
  clear ho0 hb0
  go_wp2_with fail
  have HT2 := hid (HT1.out.set0 (.slice (some ⟨w.heap.size + 1 + 1 + 1, 0, none⟩) vs.length vs.length))
  refine (toIntSS_calls _ _ rows (H1.out.below HT2.out.below) HR.out).mono ?_
  rintro e w3 ⟨rfl, ⟨f, ho1⟩, hlt1, hb1⟩
  have HT3 := hid (HT2.out.step hb1)
  have x1 := HT3.out.a2
  have x2 := HT3.out.o1
  have x3 := HT3.out.fo1
  have HO1 : Hid (OwnI w3 (w.heap.size + 1 + 1 + 1) vs) := hid ((HO0.out.set (by omega)).below hb1)
  have hg1 : w.heap.size + 1 + 1 + 1 < (w2.setCell ⟨w.heap.size + 1 + 1, 0, none⟩ (.slice (some ⟨w.heap.size + 1 + 1 + 1, 0, none⟩) vs.length vs.length)).heap.size := by
    have := HO0.out.lt
    simpa [World.setCell] using this
  generalize (w2.setCell ⟨w.heap.size + 1 + 1, 0, none⟩ (.slice (some ⟨w.heap.size + 1 + 1 + 1, 0, none⟩) vs.length vs.length)).heap.size = g1 at *
  have HO2 := hid ho1
  have HL1 := hid hlt1
  clear ho1 hb1 y1 y2 y3 HO0 hlt1
  go_wp2_with fail
  have HT4 := hid (HT3.out.set1 (.slice (some ⟨g1, 0, none⟩) rows.length rows.length))
  refine (toIntS_calls _ _ ws (H2.out.below HT4.out.below) hw).mono ?_
  rintro e w4 ⟨rfl, ho3, hb3⟩
  have HT5 := hid (HT4.out.step hb3)
  have z1 := HT5.out.o0
  have z2 := HT5.out.o1
  have z3 := HT5.out.o2
  have z4 := HT5.out.fo2
  have z5 := HT5.out.r0
  have z6 := HT5.out.r1
  have z7 := HT5.out.r2
  have z8 := HT5.out.fr0
  have z9 := HT5.out.fr1
  have z10 := HT5.out.fr2
  have hsz : (w3.setCell ⟨w.heap.size + 1 + 1, 1, none⟩ (.slice (some ⟨g1, 0, none⟩) rows.length rows.length)).heap.size = w3.heap.size := by simp [World.setCell]
  have HF : Hid (OwnT w4 w.heap.size (w.heap.size + 1 + 1 + 1) g1 (w3.setCell ⟨w.heap.size + 1 + 1, 1, none⟩ (.slice (some ⟨g1, 0, none⟩) rows.length rows.length)).heap.size vs rows ws f) := hid
    ⟨(HO1.out.set (by omega)).below hb3, (HO2.out.set (by omega)).below (by rw [hsz]; exact HL1.out) hb3, ho3, by omega, hg1, fun i hi => by rw [hsz]; exact (HO2.out.own i hi).lt, by rw [hsz]; exact HL1.out⟩
  generalize (w3.setCell ⟨w.heap.size + 1 + 1, 1, none⟩ (.slice (some ⟨g1, 0, none⟩) rows.length rows.length)).heap.size = g2 at *
  clear ho3 hb3 hsz x1 x2 x3 HO1 HO2 HL1
  go_wp2
  refine bodyPost_ret (v := .agg #[.slice (some ⟨w.heap.size + 1 + 1 + 1, 0, none⟩) vs.length vs.length, .slice (some ⟨g1, 0, none⟩) rows.length rows.length, .slice (some ⟨g2, 0, none⟩) ws.length ws.length]) (by simp [results, Try.results86, go_sem, z5, z6, z7]) rfl
    ⟨_, _, _, f, rfl, ((((HF.out.set (by omega)).set (by omega)).set (by omega)).set (by omega)), (((HT5.out.below.setCell (by show w.heap.size ≤ w.heap.size + 1 + 1; omega) _).setCell (by show w.heap.size ≤ w.heap.size + 1; omega) _).setCell (by show w.heap.size ≤ w.heap.size + 1; omega) _).setCell (by show w.heap.size ≤ w.heap.size + 1; omega) _⟩

def szT (vs : List Int) (rows : List (List Int)) (ws : List Int) (left : Int) : Int := if left < vs.length + tot rows rows.length + ws.length then -1 else left - (vs.length + tot rows rows.length + ws.length)

set_option maxHeartbeats 2000000 in
set_option maxRecDepth 1000000 in
theorem szTable_calls (w : World) (v0 v1 v2 : Value) (vs : List Int) (rows : List (List Int)) (ws : List Int) (left : Int) (h : IT w v0 v1 v2 vs rows ws) (hv : vs.length ≤ 9223372036854775807) (hr : Fits rows) (hw : ws.length ≤ 9223372036854775807) (h1 : 0 ≤ left) (h2 : left ≤ 1048576) :
    Calls Try.prog 80 #[.agg #[v0, v1, v2], .int .i64 left] w fun e w' => e = .returned (.int .i64 (szT vs rows ws left)) ∧ Below w.heap.size w w' := by
  have H1 := hid h.rows
  have HR := hid hr
  obtain ⟨a0, k0, rfl, -⟩ := h.vs
  obtain ⟨a1, k1, rfl, -⟩ := h.rows
  obtain ⟨a2, k2, rfl, -⟩ := h.ws
  obtain ⟨res, hres⟩ : ∃ r, r = szT vs rows ws left := ⟨_, rfl⟩
  rw [← hres]
  unfold szT at hres
  have HB : Hid (Below w.heap.size w (w.alloc (.cells #[.slice a0 vs.length k0, .slice a1 rows.length k1, .slice a2 ws.length k2] 103))) := hid ((Below.refl _ _).alloc (Nat.le_refl _) _)
  have K0 := hid (szIntS_calls (w.alloc (.cells #[.slice a0 vs.length k0, .slice a1 rows.length k1, .slice a2 ws.length k2] 103)) a0 vs.length k0 left h1 h2 hv)
  clear h hr
  by_cases c0 : left < vs.length
  · rw [if_pos c0] at K0
    rw [if_pos (by omega)] at hres
    have HE := hid hres
    clear hres
    go_enter Try.func80, Try.ntmps80
    go_wp2_with (first | (go_at_call 55; refine K0.out.mono ?_; rintro e w' ⟨rfl, hw'⟩; subst w'))
    go_ret
    exact ⟨ret_int HE.out.symm, HB.out⟩
  rw [if_neg c0] at K0
  have K1 := hid (szIntSS_calls (w.alloc (.cells #[.slice a0 vs.length k0, .slice a1 rows.length k1, .slice a2 ws.length k2] 103)) _ rows (left - vs.length) (H1.out.below HB.out) HR.out (by omega) (by omega))
  have n0 : ¬ (left - (vs.length : Int) < 0) := by omega
  unfold szSS at K1
  by_cases c1 : left - vs.length < tot rows rows.length
  · rw [if_pos c1] at K1
    rw [if_pos (by omega)] at hres
    have HE := hid hres
    clear hres
    go_enter Try.func80, Try.ntmps80
    go_wp2_with (first | (go_at_call 55; refine K0.out.mono ?_; rintro e w' ⟨rfl, hw'⟩; subst w') | (go_at_call 17; refine K1.out.mono ?_; rintro e w' ⟨rfl, hw'⟩; subst w'))
    go_ret
    exact ⟨ret_int HE.out.symm, HB.out⟩
  rw [if_neg c1] at K1
  have n1 : ¬ (left - (vs.length : Int) - (tot rows rows.length : Int) < 0) := by omega
  have K2 := hid (szIntS_calls (w.alloc (.cells #[.slice a0 vs.length k0, .slice a1 rows.length k1, .slice a2 ws.length k2] 103)) a2 ws.length k2 (left - vs.length - tot rows rows.length) (by omega) (by omega) hw)
  by_cases c2 : left - vs.length - tot rows rows.length < ws.length
  · rw [if_pos c2] at K2
    rw [if_pos (by omega)] at hres
    have HE := hid hres
    clear hres
    go_enter Try.func80, Try.ntmps80
    go_wp2_with fail
    refine K0.out.mono ?_
    rintro e w' ⟨rfl, hw'⟩
    subst w'
    go_wp2_with fail
    refine K1.out.mono ?_
    rintro e w' ⟨rfl, hw'⟩
    subst w'
    go_wp2_with fail
    refine K2.out.mono ?_
    rintro e w' ⟨rfl, hw'⟩
    subst w'
    go_wp2
    go_ret
    exact ⟨ret_int HE.out.symm, HB.out⟩
  · rw [if_neg c2] at K2
    rw [if_neg (by omega)] at hres
    have HE := hid (show res = left - vs.length - tot rows rows.length - ws.length by omega)
    have n2 : ¬ (left - (vs.length : Int) - (tot rows rows.length : Int) - (ws.length : Int) < 0) := by omega
    clear hres
    go_enter Try.func80, Try.ntmps80
    go_wp2_with fail
    refine K0.out.mono ?_
    rintro e w' ⟨rfl, hw'⟩
    subst w'
    go_wp2_with fail
    refine K1.out.mono ?_
    rintro e w' ⟨rfl, hw'⟩
    subst w'
    go_wp2_with fail
    refine K2.out.mono ?_
    rintro e w' ⟨rfl, hw'⟩
    subst w'
    go_wp2
    go_ret
    exact ⟨ret_int HE.out.symm, HB.out⟩

end Go.Proofs.Ytliggcbiiaegeac

/-
  impl.TableOK, spec.TableOK, laws.eqTable.
-/
namespace Go.Proofs.Ytliggcbiiaegeac
open Go.RowKit

theorem tableB_cases (vs : List Int) (rows : List (List Int)) (ws : List Int) :
    (setB vs = false ∧ tableB vs rows ws = false) ∨ (setB vs = true ∧ 10000 < rows.length ∧ tableB vs rows ws = false) ∨ (setB vs = true ∧ rows.length ≤ 10000 ∧ rowsB rows vs.length = false ∧ tableB vs rows ws = false) ∨
    (setB vs = true ∧ rows.length ≤ 10000 ∧ rowsB rows vs.length = true ∧ tableB vs rows ws = decide (ws.length = rows.length)) := by
  unfold tableB
  cases h1 : setB vs
  · left; simp
  · right
    by_cases h2 : 10000 < rows.length
    · left; simp; omega
    · right
      have h3 : decide (rows.length ≤ 10000) = true := by simp; omega
      cases h4 : rowsB rows vs.length
      · left; simp; omega
      · right; simp [h3]; omega

theorem dec_len (a b : Nat) : decide ((a : Int) = (b : Int)) = decide (a = b) := by
  by_cases h : a = b
  · simp [h]
  · rw [decide_eq_false h, decide_eq_false (by omega)]

set_option maxHeartbeats 2000000 in
set_option maxRecDepth 1000000 in
theorem sTableOK_calls (w : World) (v0 v1 v2 : Value) (vs : List Int) (rows : List (List Int)) (ws : List Int) (h : IT w v0 v1 v2 vs rows ws) (hv : vs.length ≤ 1099511627776) (hr : Short rows) :
    Calls Try.prog 123 #[.agg #[v0, v1, v2]] w fun e w' => e = .returned (.bool (tableB vs rows ws)) ∧ Below w.heap.size w w' := by
  have HB : Hid (Below w.heap.size w (w.alloc (.cells #[v0, v1, v2] 113))) := hid ((Below.refl _ _).alloc (Nat.le_refl _) _)
  have K0 := hid (l1SetOK_calls (w.alloc (.cells #[v0, v1, v2] 113)) v0 vs (h.vs.below HB.out) hv)
  have K1 := hid (l2SortedRows_calls (w.alloc (.cells #[v0, v1, v2] 113)) v1 rows vs.length (h.rows.below HB.out) hr)
  have hr1 := hr.1
  obtain ⟨a0, k0, rfl, -⟩ := h.vs
  obtain ⟨a1, k1, rfl, -⟩ := h.rows
  obtain ⟨a2, k2, rfl, -⟩ := h.ws
  have hcs := tableB_cases vs rows ws
  clear h hr
  generalize tableB vs rows ws = res at *
  rcases hcs with ⟨c0, c1⟩ | ⟨c0, c1, c2⟩ | ⟨c0, c1, c2, c3⟩ | ⟨c0, c1, c2, c3⟩
  · rw [c0] at K0
    clear K1
    subst c1
    generalize vs.length = n0 at *
    generalize rows.length = n1 at *
    go_enter Try.func123, Try.ntmps123
    go_wp2_with (first | (go_at_call 58; refine K0.out.mono ?_; rintro e w' ⟨rfl, hw'⟩; subst w'))
    go_ret
    exact ⟨rfl, HB.out⟩
  · rw [c0] at K0
    clear K1
    subst c2
    generalize vs.length = n0 at *
    generalize rows.length = n1 at *
    have i1 : ¬ ((n1 : Int) ≤ 10000) := by omega
    go_enter Try.func123, Try.ntmps123
    go_wp2_with (first | (go_at_call 58; refine K0.out.mono ?_; rintro e w' ⟨rfl, hw'⟩; subst w'))
    go_ret
    exact ⟨rfl, HB.out⟩
  · rw [c0] at K0
    rw [c2] at K1
    subst c3
    generalize vs.length = n0 at *
    generalize rows.length = n1 at *
    have i1 : (n1 : Int) ≤ 10000 := by omega
    go_enter Try.func123, Try.ntmps123
    go_wp2_with (first | (go_at_call 58; refine K0.out.mono ?_; rintro e w' ⟨rfl, hw'⟩; subst w') | (go_at_call 150; refine K1.out.mono ?_; rintro e w' ⟨rfl, q', hw'⟩; subst w'))
    go_ret
    exact ⟨rfl, below_drewN HB.out _⟩
  · rw [c0] at K0
    rw [c2] at K1
    rw [← dec_len] at c3
    have HE := hid c3
    clear c3
    generalize vs.length = n0 at *
    generalize rows.length = n1 at *
    generalize ws.length = n2 at *
    have i1 : (n1 : Int) ≤ 10000 := by omega
    go_enter Try.func123, Try.ntmps123
    go_wp2_with (first | (go_at_call 58; refine K0.out.mono ?_; rintro e w' ⟨rfl, hw'⟩; subst w') | (go_at_call 150; refine K1.out.mono ?_; rintro e w' ⟨rfl, q', hw'⟩; subst w'))
    go_ret
    exact ⟨ret_bool (by rw [HE.out]; rfl), below_drewN HB.out _⟩

set_option maxHeartbeats 2000000 in
set_option maxRecDepth 1000000 in
theorem eqTable_same (w : World) (v0 v1 v2 u0 u1 u2 : Value) (vs : List Int) (rows : List (List Int)) (ws : List Int) (h : IT w v0 v1 v2 vs rows ws) (h' : IT w u0 u1 u2 vs rows ws) (hv : vs.length ≤ 1099511627776) (hr : Short rows) (hw : ws.length ≤ 1099511627776) :
    Calls Try.prog 87 #[.agg #[v0, v1, v2], .agg #[u0, u1, u2]] w fun e w' => e = .returned (.bool true) ∧ Below w.heap.size w w' := by
  have HB : Hid (Below w.heap.size w ((w.alloc (.cells #[v0, v1, v2] 113)).alloc (.cells #[u0, u1, u2] 113))) := hid (((Below.refl _ _).alloc (Nat.le_refl _) _).alloc (by simp) _)
  have H := hid h
  have H' := hid h'
  have HR := hid hr
  obtain ⟨a0, k0, rfl, -⟩ := h.vs
  obtain ⟨a1, k1, rfl, -⟩ := h.rows
  obtain ⟨a2, k2, rfl, -⟩ := h.ws
  obtain ⟨b0, l0, rfl, -⟩ := h'.vs
  obtain ⟨b1, l1, rfl, -⟩ := h'.rows
  obtain ⟨b2, l2, rfl, -⟩ := h'.ws
  clear h h' hr
  go_enter Try.func87, Try.ntmps87
  go_wp2_with fail
  refine (eqIntS_quiet _ _ _ vs (H.out.vs.below HB.out) (H'.out.vs.below HB.out) hv).mono ?_
  rintro e w1 ⟨rfl, q1, hq1⟩
  subst w1
  go_wp2_with fail
  refine (eqIntSS_quiet _ _ _ rows (H.out.rows.below (below_drewN HB.out _)) (H'.out.rows.below (below_drewN HB.out _)) HR.out).mono ?_
  rintro e w1 ⟨rfl, q2, hq1⟩
  subst w1
  go_wp2_with fail
  refine (eqIntS_quiet _ _ _ ws (H.out.ws.below (below_drewN HB.out _)) (H'.out.ws.below (below_drewN HB.out _)) hw).mono ?_
  rintro e w1 ⟨rfl, q3, hq1⟩
  subst w1
  go_wp2
  go_ret
  exact ⟨rfl, by repeat' first | exact HB.out | refine below_drewN ?_ _⟩

end Go.Proofs.Ytliggcbiiaegeac

/-
  laws.eqRatS, markRatS, heldRatS.
-/
namespace Go.Proofs.Ytliggcbiiaegeac
open Go.RowKit

theorem IR.below {w w' : World} {v : Value} {l : List (Int × Int)} (h : IR w v l) (hb : Below w.heap.size w w') : IR w' v l := by
  obtain ⟨a, cap, rfl, h⟩ := h
  refine ⟨a, cap, rfl, ?_⟩
  rcases h with h | ⟨b, o, rfl, h⟩
  · exact Or.inl h
  · exact Or.inr ⟨b, o, rfl, fun j hj => ⟨(hb.cell (p := ⟨b, o + j * 2, none⟩) (World.block_lt_of_cell? w _ (h j hj).1)).trans (h j hj).1, (hb.cell (p := ⟨b, o + j * 2 + 1, none⟩) (World.block_lt_of_cell? w _ (h j hj).2)).trans (h j hj).2⟩⟩

theorem four4_of {w5 W : World} {b o b' o' : Nat} {v0 v1 u0 u1 : Value} (h0 : w5.cell? ⟨b, o, none⟩ = some v0) (h1 : w5.cell? ⟨b, o + 1, none⟩ = some v1) (k0 : w5.cell? ⟨b', o', none⟩ = some u0) (k1 : w5.cell? ⟨b', o' + 1, none⟩ = some u1) (hb : Below w5.heap.size w5 W) :
    W.cell? ⟨b, o, none⟩ = some v0 ∧ W.cell? ⟨b, o + 1, none⟩ = some v1 ∧ W.cell? ⟨b', o', none⟩ = some u0 ∧ W.cell? ⟨b', o' + 1, none⟩ = some u1 ∧ Below w5.heap.size w5 W :=
  ⟨(hb.cell (p := ⟨b, o, none⟩) (World.block_lt_of_cell? w5 _ h0)).trans h0, (hb.cell (p := ⟨b, o + 1, none⟩) (World.block_lt_of_cell? w5 _ h1)).trans h1, (hb.cell (p := ⟨b', o', none⟩) (World.block_lt_of_cell? w5 _ k0)).trans k0, (hb.cell (p := ⟨b', o' + 1, none⟩) (World.block_lt_of_cell? w5 _ k1)).trans k1, hb⟩

set_option maxHeartbeats 4000000 in
set_option maxRecDepth 1000000 in
theorem eqRatS_same (w : World) (v u : Value) (l : List (Int × Int)) (h : IR w v l) (h' : IR w u l) (hl : l.length ≤ 1099511627776) :
    Calls Try.prog 71 #[v, u] w fun e w' => e = .returned (.bool true) ∧ Below w.heap.size w w' := by
  obtain ⟨a, cap, rfl, hc⟩ := h
  obtain ⟨a', cap', rfl, hc'⟩ := h'
  obtain ⟨n, hn⟩ : ∃ n, n = l.length := ⟨_, rfl⟩
  rw [← hn] at hc hc' hl ⊢
  have HC := hid hc
  have HC' := hid hc'
  clear hc hc' hn
  have hne : ((n : Int) != (n : Int)) = false := by simp
  go_enter Try.func71, Try.ntmps71
  go_wp2
  go_loopw [5] (fun t wr => ∃ j : Nat, j ≤ n ∧ t = .int .i64 j ∧ Hid (Below w.heap.size w wr)) (fun t _ => n - (intOf t).toNat)
  case atStart => exact ⟨0, Nat.zero_le _, rfl, hid (Below.refl _ _)⟩
  case round =>
    obtain ⟨j, hj, rfl, hB⟩ := hrel
    by_cases hjn : j < n
    · have i1 : (j : Int) < (n : Int) := by omega
      rcases HC.out with h0 | ⟨b, o, rfl, hrel⟩
      · omega
      · rcases HC'.out with h0 | ⟨b', o', rfl, hrel'⟩
        · omega
        · obtain ⟨e0, e1⟩ := hrel j hjn
          obtain ⟨f0, f1⟩ := hrel' j hjn
          have c0 := (hB.out.cell (p := ⟨b, o + j * 2, none⟩) (World.block_lt_of_cell? w _ e0)).trans e0
          have c1 := (hB.out.cell (p := ⟨b, o + j * 2 + 1, none⟩) (World.block_lt_of_cell? w _ e1)).trans e1
          have d0 := (hB.out.cell (p := ⟨b', o' + j * 2, none⟩) (World.block_lt_of_cell? w _ f0)).trans f0
          have d1 := (hB.out.cell (p := ⟨b', o' + j * 2 + 1, none⟩) (World.block_lt_of_cell? w _ f1)).trans f1
          clear hrel hrel' e0 e1 f0 f1
          generalize (l.getD j (0, 0)).1 = x at *
          generalize (l.getD j (0, 0)).2 = y at *
          have HBW : Hid (∀ W, (W.cell? ⟨b, o + j * 2, none⟩ = some (.int .i64 x) ∧ W.cell? ⟨b, o + j * 2 + 1, none⟩ = some (.int .i64 y) ∧ W.cell? ⟨b', o' + j * 2, none⟩ = some (.int .i64 x) ∧ W.cell? ⟨b', o' + j * 2 + 1, none⟩ = some (.int .i64 y) ∧ Below wr.heap.size wr W) → Below wr.heap.size wr W) := hid (fun W hW => hW.2.2.2.2)
          go_wp2_with fail
          go_region_held3 (fun W => W.cell? ⟨b, o + j * 2, none⟩ = some (.int .i64 x) ∧ W.cell? ⟨b, o + j * 2 + 1, none⟩ = some (.int .i64 y) ∧ W.cell? ⟨b', o' + j * 2, none⟩ = some (.int .i64 x) ∧ W.cell? ⟨b', o' + j * 2 + 1, none⟩ = some (.int .i64 y) ∧ Below wr.heap.size wr W)
            (first | exact four4_of c0 c1 d0 d1 (Below.refl _ _).drew | exact four4_of c0 c1 d0 d1 (bt (Below.refl _ _).drew hb) | (refine four4_of c0 c1 d0 d1 (bt (HBW.out _ ?_) hb); assumption))
            (first | (go_at_call 72; refine (eqRat_same _ _ _).mono ?_; rintro e w' ⟨rfl, hb⟩))
          go_wp2
          go_roundw
          case rel => exact ⟨j + 1, by omega, by go_num, hid (bt hB.out (HBW.out _ (by assumption)))⟩
          case measure => simp [intOf]; omega
    · obtain rfl : j = n := by omega
      have i1 : ¬ ((j : Int) < (j : Int)) := by omega
      go_wp2
      go_ret
      exact ⟨rfl, hB.out⟩

/-- pairs of the call's own, in block g -/
structure OwnP (w : World) (g : Nat) (l : List (Int × Int)) : Prop where
  cell : ∀ j, j < l.length → w.cell? ⟨g, j * 2, none⟩ = some (.int .i64 (l.getD j (0, 0)).1) ∧ w.cell? ⟨g, j * 2 + 1, none⟩ = some (.int .i64 (l.getD j (0, 0)).2)
  free : ∀ j, w.frozen? ⟨g, j, none⟩ = false
  lt : g < w.heap.size

/-- pairs k, k + 1; k + 2, k + 3; .. -/
def upPairs (k : Int) (n : Nat) : List (Int × Int) := (List.range n).map fun i => (k + 2 * (i : Nat), k + 2 * (i : Nat) + 1)
theorem upPairs_length (k : Int) (n : Nat) : (upPairs k n).length = n := by simp [upPairs]
theorem upPairs_get {k : Int} {n j : Nat} (h : j < n) : (upPairs k n).getD j (0, 0) = (k + 2 * (j : Nat), k + 2 * (j : Nat) + 1) := by
  unfold upPairs
  rw [List.getD_eq_getElem?_getD, List.getElem?_map, List.getElem?_range h]; rfl

set_option maxHeartbeats 2000000 in
theorem markRatS_cap (w : World) (g cap : Nat) (l : List (Int × Int)) (k : Int) (h : OwnP w g l) (hl : l.length ≤ 1099511627776) (hk : 0 ≤ k) (hk' : k ≤ 1099511627776) :
    Calls Try.prog 77 #[.slice (some ⟨g, 0, none⟩) l.length cap, .int .i64 k] w fun e w' => e = .returned (.int .i64 (k + 2 * l.length)) ∧ OwnP w' g (upPairs k l.length) ∧ Og g w w' := by
  obtain ⟨n, hn⟩ : ∃ n, n = l.length := ⟨_, rfl⟩
  have HO : Hid (∀ j, j < n → w.cell? ⟨g, j * 2, none⟩ = some (.int .i64 (l.getD j (0, 0)).1) ∧ w.cell? ⟨g, j * 2 + 1, none⟩ = some (.int .i64 (l.getD j (0, 0)).2)) := hid (by rw [hn]; exact h.cell)
  have HF := hid h.free
  have hglt := h.lt
  rw [← hn] at hl ⊢
  clear h hn
  go_enter Try.func77, Try.ntmps77
  go_wp2
  go_loopw [1, 5] (fun u t wr => ∃ j : Nat, j ≤ n ∧ t = .int .i64 j ∧ u = .int .i64 (k + 2 * j) ∧ Hid (Og g w wr ∧ (∀ i, i < n → wr.cell? ⟨g, i * 2, none⟩ = some (.int .i64 (if i < j then k + 2 * (i : Nat) else (l.getD i (0, 0)).1)) ∧ wr.cell? ⟨g, i * 2 + 1, none⟩ = some (.int .i64 (if i < j then k + 2 * (i : Nat) + 1 else (l.getD i (0, 0)).2))) ∧ ∀ i, wr.frozen? ⟨g, i, none⟩ = false)) (fun _ t _ => n - (intOf t).toNat)
  case atStart => exact ⟨0, Nat.zero_le _, rfl, by simp, hid ⟨Og.refl _ _, fun i hi => by rw [if_neg (by omega), if_neg (by omega)]; exact HO.out i hi, HF.out⟩⟩
  case round =>
    obtain ⟨j, hj, rfl, rfl, hH⟩ := hrel
    obtain ⟨hB, hcs, hfz⟩ := hH.out
    by_cases hjn : j < n
    · have i1 : (j : Int) < (n : Int) := by omega
      obtain ⟨c1, c2⟩ := hcs j hjn
      have f1 := hfz (j * 2)
      have f2 := hfz (j * 2 + 1)
      have hne : (⟨g, j * 2 + 1, none⟩ : Addr) ≠ ⟨g, j * 2, none⟩ := by intro e; simp only [Addr.mk.injEq] at e; omega
      have HB := hid hB
      have HCS := hid hcs
      have HFZ := hid hfz
      clear hH hB hcs hfz
      go_wp2
      go_roundw
      case rel =>
        refine ⟨j + 1, by omega, by go_num, by go_num, hid ⟨(HB.out.set _ _).set _ _, fun i hi => ?_, fun i => by rw [World.frozen?_setCell, World.frozen?_setCell]; exact HFZ.out i⟩⟩
        by_cases e : i = j
        · subst e
          rw [if_pos (by omega), if_pos (by omega)]
          refine ⟨(World.cell?_setCell_other _ _ _ _ (by intro e2; simp only [Addr.mk.injEq] at e2; omega)).trans (World.cell?_setCell_same _ _ _ c1), ?_⟩
          exact World.cell?_setCell_same _ _ _ ((World.cell?_setCell_other _ _ _ _ (by intro e2; simp only [Addr.mk.injEq] at e2; omega)).trans c2)
        · rw [World.cell?_setCell_other _ _ _ _ (by intro e2; simp only [Addr.mk.injEq] at e2; omega), World.cell?_setCell_other _ _ _ _ (by intro e2; simp only [Addr.mk.injEq] at e2; omega), World.cell?_setCell_other _ _ _ _ (by intro e2; simp only [Addr.mk.injEq] at e2; omega), World.cell?_setCell_other _ _ _ _ (by intro e2; simp only [Addr.mk.injEq] at e2; omega), (HCS.out i hi).1, (HCS.out i hi).2]
          by_cases e2 : i < j
          · rw [if_pos e2, if_pos e2, if_pos (by omega), if_pos (by omega)]; exact ⟨rfl, rfl⟩
          · rw [if_neg e2, if_neg e2, if_neg (by omega), if_neg (by omega)]; exact ⟨rfl, rfl⟩
      case measure => simp [intOf]; omega
    · obtain rfl : j = n := by omega
      have i1 : ¬ ((j : Int) < (j : Int)) := by omega
      have HX := hid hH.out
      clear hH hB hcs hfz
      go_wp2
      go_ret
      refine ⟨rfl, ⟨fun i hi => ?_, HX.out.2.2, by rw [HX.out.1.size]; exact hglt⟩, HX.out.1⟩
      rw [upPairs_length] at hi
      rw [(HX.out.2.1 i hi).1, (HX.out.2.1 i hi).2, if_pos hi, if_pos hi, upPairs_get hi]
      exact ⟨rfl, rfl⟩

set_option maxHeartbeats 2000000 in
theorem heldRatS_cap (w : World) (g cap n : Nat) (k : Int) (h : OwnP w g (upPairs k n)) (hl : n ≤ 1099511627776) (hk : 0 ≤ k) (hk' : k ≤ 1099511627776) :
    Calls Try.prog 79 #[.slice (some ⟨g, 0, none⟩) n cap, .int .i64 k] w fun e w' => e = .returned (.int .i64 (k + 2 * n)) ∧ w' = w := by
  have HO : Hid (∀ j, j < n → w.cell? ⟨g, j * 2, none⟩ = some (.int .i64 (k + 2 * (j : Nat))) ∧ w.cell? ⟨g, j * 2 + 1, none⟩ = some (.int .i64 (k + 2 * (j : Nat) + 1))) := hid (fun j hj => by
    have := h.cell j (by rw [upPairs_length]; exact hj)
    rwa [upPairs_get hj] at this)
  clear h
  go_enter Try.func79, Try.ntmps79
  go_wp2
  go_loop [1, 5] (fun u t => ∃ j : Nat, j ≤ n ∧ t = .int .i64 j ∧ u = .int .i64 (k + 2 * j)) (fun _ t => n - (intOf t).toNat)
  case atStart => exact ⟨0, Nat.zero_le _, rfl, by simp⟩
  case round =>
    obtain ⟨j, hj, rfl, rfl⟩ := hrel
    by_cases hjn : j < n
    · have i1 : (j : Int) < (n : Int) := by omega
      obtain ⟨c1, c2⟩ := HO.out j hjn
      have hne : ((k + 2 * (j : Int)) != (k + 2 * (j : Int))) = false := by simp
      have hne2 : ((k + 2 * (j : Int) + 1) != (k + 2 * (j : Int) + 1)) = false := by simp
      go_wp2
      go_round
      case rel => exact ⟨j + 1, by omega, by go_num, by go_num⟩
      case measure => simp [intOf]; omega
    · obtain rfl : j = n := by omega
      have i1 : ¬ ((j : Int) < (j : Int)) := by omega
      go_wp2
      go_ret
      exact ⟨rfl, rfl⟩

end Go.Proofs.Ytliggcbiiaegeac

/-
  laws.eqCover, markCover, heldCover.
-/
namespace Go.Proofs.Ytliggcbiiaegeac
open Go.RowKit

theorem rcs_len (l : List (Int × Int)) : (rcs l).length = l.length * 2 := by
  unfold rcs
  induction l with
  | nil => rfl
  | cons a l ih => rw [List.flatMap_cons, List.length_append, ih]; simp; omega

theorem rcs_get (l : List (Int × Int)) (j : Nat) (h : j < l.length) : (rcs l)[j * 2]? = some (.int .i64 (l.getD j (0, 0)).1) ∧ (rcs l)[j * 2 + 1]? = some (.int .i64 (l.getD j (0, 0)).2) := by
  unfold rcs
  induction l generalizing j with
  | nil => simp at h
  | cons a l ih =>
    rw [List.flatMap_cons]
    cases j with
    | zero => simp
    | succ j =>
      have := ih j (by simpa using h)
      rw [List.getElem?_append_right (by simp; omega), List.getElem?_append_right (by simp; omega)]
      simp only [List.length_cons, List.length_nil]
      rw [show (j + 1) * 2 - (0 + 1 + 1) = j * 2 by omega, show (j + 1) * 2 + 1 - (0 + 1 + 1) = j * 2 + 1 by omega]
      simpa using this

theorem own_ir {w : World} {B : Nat} {v : Value} {l : List (Int × Int)} (h : w.ownsRow B 49 2 v l.length (rcs l)) : IR w v l := by
  rcases h.2 with ⟨rfl, h2⟩ | ⟨g, cap, cur, rfl, hb', hc, hr⟩
  · exact ⟨none, 0, by rw [h2], Or.inl h2⟩
  · refine ⟨_, cap, rfl, Or.inr ⟨g, 0, rfl, fun j hj => ?_⟩⟩
    rw [Nat.zero_add, h.cellAt (j * 2) (by omega), h.cellAt (j * 2 + 1) (by omega)]
    exact rcs_get l j hj

theorem own_ownP {w : World} {B g cap : Nat} {l : List (Int × Int)} (h : w.ownsRow B 49 2 (.slice (some ⟨g, 0, none⟩) l.length cap) l.length (rcs l)) : OwnP w g l where
  cell j hj := by
    rw [h.cellAt (j * 2) (by omega), h.cellAt (j * 2 + 1) (by omega)]
    exact rcs_get l j hj
  free j := h.frozenAt j
  lt := (h.lt g rfl).2

theorem OwnP.move {w w' : World} {g : Nat} {l : List (Int × Int)} (h : OwnP w g l) (hb : w'.heap[g]? = w.heap[g]?) (hs : w.heap.size ≤ w'.heap.size) : OwnP w' g l :=
  ⟨fun j hj => ⟨(World.cell?_of_block (w := w) (a := ⟨g, j * 2, none⟩) hb).trans (h.cell j hj).1, (World.cell?_of_block (w := w) (a := ⟨g, j * 2 + 1, none⟩) hb).trans (h.cell j hj).2⟩, fun j => (World.frozen?_of_block (w := w) (a := ⟨g, j, none⟩) hb).trans (h.free j), Nat.lt_of_lt_of_le h.lt hs⟩

set_option maxHeartbeats 400000 in
theorem markRatS_nil (w : World) (a : Option Addr) (cap : Nat) (k : Int) :
    Calls Try.prog 77 #[.slice a 0 cap, .int .i64 k] w fun e w' => e = .returned (.int .i64 k) ∧ w' = w := by
  go_enter Try.func77, Try.ntmps77
  go_wp2
  refine wp_loop_rounds 1 ?_
  rw [rounds_succ]
  go_wp2
  go_ret
  exact ⟨rfl, rfl⟩

set_option maxHeartbeats 400000 in
theorem heldRatS_nil (w : World) (a : Option Addr) (cap : Nat) (k : Int) :
    Calls Try.prog 79 #[.slice a 0 cap, .int .i64 k] w fun e w' => e = .returned (.int .i64 k) ∧ w' = w := by
  go_enter Try.func79, Try.ntmps79
  go_wp2
  refine wp_loop_rounds 1 ?_
  rw [rounds_succ]
  go_wp2
  go_ret
  exact ⟨rfl, rfl⟩

theorem mark_heldR (w : World) (B : Nat) (v : Value) (l : List (Int × Int)) (k : Int) (h : w.ownsRow B 49 2 v l.length (rcs l)) (hl : l.length ≤ 1099511627776) (hk : 0 ≤ k) (hk' : k ≤ 1099511627776) :
    Calls Try.prog 77 #[v, .int .i64 k] w fun e w' => e = .returned (.int .i64 (k + 2 * l.length)) ∧ (∀ b, some b ≠ v.ownBlock → w'.heap[b]? = w.heap[b]?) ∧ w'.heap.size = w.heap.size ∧ Below B w w' ∧
      ∀ W, (∀ g, v.ownBlock = some g → W.heap[g]? = w'.heap[g]?) → w'.heap.size ≤ W.heap.size → Calls Try.prog 79 #[v, .int .i64 k] W fun e w'' => e = .returned (.int .i64 (k + 2 * l.length)) ∧ w'' = W := by
  rcases h.2 with ⟨rfl, h2⟩ | ⟨g, cap, cur, rfl, hb', hc, hr⟩
  · rw [h2]
    refine (markRatS_nil w none 0 k).mono ?_
    rintro e w' ⟨rfl, rfl⟩
    refine ⟨by simp, fun b _ => rfl, rfl, Below.refl _ _, fun W _ _ => ?_⟩
    have := heldRatS_nil W none 0 k
    simpa using this
  · refine (markRatS_cap w g cap l k (own_ownP h) hl hk hk').mono ?_
    rintro e w' ⟨rfl, ho, hog⟩
    exact ⟨rfl, fun b hb => hog.block b (fun e => hb (by rw [e]; rfl)), hog.size, hog.below hb', fun W hW hs => heldRatS_cap W g cap l.length k (ho.move (hW g rfl) hs) hl hk hk'⟩

end Go.Proofs.Ytliggcbiiaegeac
