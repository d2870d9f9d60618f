import Derived.Test.YtcdfoephhjacdaaDoorQ22
import Derived.Test.YtcdfoephhjacdaaDoorQ44
/-
  Copies of relations: laws.toRelationS, laws.toData.
-/
namespace Go.Proofs.YtcdfoephhjacdaaDoor
open Go.RowKit

theorem Tryd.infoRel : (Tryd.prog.info? 77).map (fun i => (i.zero, i.size, i.bytes)) = some (some (.agg #[.string ⟨#[]⟩, .int .i64 0, .slice none 0 0, .slice none 0 0]), 4, 72) := by kernel_rfl

/-- relation i of the copy in block g -/
def RelCopy (W : World) (g i : Nat) (r : RelV) : Prop := ∃ ur uw, W.cell? ⟨g, i * 4, none⟩ = some (.string r.name) ∧ W.cell? ⟨g, i * 4 + 1, none⟩ = some (.int .i64 r.ar) ∧ W.cell? ⟨g, i * 4 + 2, none⟩ = some ur ∧ W.cell? ⟨g, i * 4 + 3, none⟩ = some uw ∧ OwnRel W (g + 1) ur uw r

theorem RelCopy.below {W W' : World} {g i : Nat} {r : RelV} (h : RelCopy W g i r) (hb : Below W.heap.size W W') : RelCopy W' g i r := by
  obtain ⟨ur, uw, h0, h1, h2, h3, h4⟩ := h
  have hlt := World.block_lt_of_cell? W _ h0
  exact ⟨ur, uw, (hb.cell (p := ⟨g, i * 4, none⟩) hlt).trans h0, (hb.cell (p := ⟨g, i * 4 + 1, none⟩) hlt).trans h1, (hb.cell (p := ⟨g, i * 4 + 2, none⟩) hlt).trans h2, (hb.cell (p := ⟨g, i * 4 + 3, none⟩) hlt).trans h3, h4.below hb⟩

theorem RelCopy.at {W : World} {g i : Nat} {r : RelV} (h : RelCopy W g i r) : RelAt W g (0 + i * 4) r := by
  obtain ⟨ur, uw, h0, h1, h2, h3, h4⟩ := h
  rw [Nat.zero_add]
  exact ⟨ur, uw, h0, h1, h2, h3, h4.irel⟩

theorem RelCopy.set {W : World} {g i q : Nat} {r : RelV} {v : Value} (h : RelCopy W g i r) (hq : q < i * 4 ∨ i * 4 + 3 < q) : RelCopy (W.setCell ⟨g, q, none⟩ v) g i r := by
  obtain ⟨ur, uw, h0, h1, h2, h3, h4⟩ := h
  exact ⟨ur, uw, (World.cell?_setCell_other _ _ _ _ (by intro e; simp only [Addr.mk.injEq] at e; omega)).trans h0, (World.cell?_setCell_other _ _ _ _ (by intro e; simp only [Addr.mk.injEq] at e; omega)).trans h1,
    (World.cell?_setCell_other _ _ _ _ (by intro e; simp only [Addr.mk.injEq] at e; omega)).trans h2, (World.cell?_setCell_other _ _ _ _ (by intro e; simp only [Addr.mk.injEq] at e; omega)).trans h3, h4.set (by omega)⟩

/-- the first j of n relations have been laid -/
structure HalfR (W : World) (g n j : Nat) (ds : List RelV) : Prop where
  any : ∀ q, q < n * 4 → ∃ u, W.cell? ⟨g, q, none⟩ = some u
  free : ∀ q, q < n * 4 → W.frozen? ⟨g, q, none⟩ = false
  copy : ∀ i, i < j → RelCopy W g i (ds.getD i noRel)

theorem HalfR.below {W W' : World} {g n j : Nat} {ds : List RelV} (h : HalfR W g n j ds) (hg : g < W.heap.size) (hb : Below W.heap.size W W') : HalfR W' g n j ds :=
  ⟨fun q hq => by obtain ⟨u, hu⟩ := h.any q hq; exact ⟨u, (hb.cell (p := ⟨g, q, none⟩) hg).trans hu⟩, fun q hq => (hb.frozen (p := ⟨g, q, none⟩) hg).trans (h.free q hq), fun i hi => (h.copy i hi).below hb⟩

theorem cell_set_any {W : World} {g q q' : Nat} {v : Value} (h : ∃ u, W.cell? ⟨g, q, none⟩ = some u) : ∃ u, (W.setCell ⟨g, q', none⟩ v).cell? ⟨g, q, none⟩ = some u := by
  obtain ⟨u, hu⟩ := h
  by_cases e : q = q'
  · subst e; exact ⟨v, World.cell?_setCell_same _ _ _ hu⟩
  · exact ⟨u, (World.cell?_setCell_other _ _ _ _ (by intro e2; simp only [Addr.mk.injEq] at e2; omega)).trans hu⟩

theorem HalfR.step {W : World} {g n j : Nat} {ds : List RelV} {ur uw : Value} (h : HalfR W g n j ds) (hj : j < n) (ho : OwnRel W (g + 1) ur uw (ds.getD j noRel)) :
    HalfR ((((W.setCell ⟨g, j * 4, none⟩ (.string (ds.getD j noRel).name)).setCell ⟨g, j * 4 + 1, none⟩ (.int .i64 (ds.getD j noRel).ar)).setCell ⟨g, j * 4 + 2, none⟩ ur).setCell ⟨g, j * 4 + 3, none⟩ uw) g n (j + 1) ds where
  any q hq := cell_set_any (cell_set_any (cell_set_any (cell_set_any (h.any q hq))))
  free q hq := by rw [World.frozen?_setCell, World.frozen?_setCell, World.frozen?_setCell, World.frozen?_setCell]; exact h.free q hq
  copy i hi := by
    by_cases e : i = j
    · subst e
      obtain ⟨u0, c0⟩ := h.any (i * 4) (by omega)
      obtain ⟨u1, c1⟩ := h.any (i * 4 + 1) (by omega)
      obtain ⟨u2, c2⟩ := h.any (i * 4 + 2) (by omega)
      obtain ⟨u3, c3⟩ := h.any (i * 4 + 3) (by omega)
      have ne : ∀ (X : World) (a b : Nat) (v : Value), a ≠ b → (X.setCell ⟨g, b, none⟩ v).cell? ⟨g, a, none⟩ = X.cell? ⟨g, a, none⟩ := fun X a b v hab => World.cell?_setCell_other _ _ _ _ (by intro e2; simp only [Addr.mk.injEq] at e2; omega)
      refine ⟨ur, uw, ?_, ?_, ?_, ?_, (((ho.set (by omega)).set (by omega)).set (by omega)).set (by omega)⟩
      · rw [ne _ _ _ _ (by omega), ne _ _ _ _ (by omega), ne _ _ _ _ (by omega)]; exact World.cell?_setCell_same _ _ _ c0
      · rw [ne _ _ _ _ (by omega), ne _ _ _ _ (by omega)]; exact World.cell?_setCell_same _ _ _ ((ne _ _ _ _ (by omega)).trans c1)
      · rw [ne _ _ _ _ (by omega)]; exact World.cell?_setCell_same _ _ _ ((ne _ _ _ _ (by omega)).trans ((ne _ _ _ _ (by omega)).trans c2))
      · exact World.cell?_setCell_same _ _ _ ((ne _ _ _ _ (by omega)).trans ((ne _ _ _ _ (by omega)).trans ((ne _ _ _ _ (by omega)).trans c3)))
    · exact ((((h.copy i (by omega)).set (by omega)).set (by omega)).set (by omega)).set (by omega)

end Go.Proofs.YtcdfoephhjacdaaDoor

/-
  laws.toData, szRelation, szRelationS, szData.
-/
namespace Go.Proofs.YtcdfoephhjacdaaDoor
open Go.RowKit

structure TB1 (w : World) (s : Nat) (v0 z0 o0 : Value) (W : World) : Prop where
  a0 : W.cell? ⟨s, 0, none⟩ = some v0
  r0 : W.cell? ⟨s + 1, 0, none⟩ = some z0
  o0 : W.cell? ⟨s + 1 + 1, 0, none⟩ = some o0
  fr0 : W.frozen? ⟨s + 1, 0, none⟩ = false
  fo0 : W.frozen? ⟨s + 1 + 1, 0, none⟩ = false
  sz : s + 3 ≤ W.heap.size
  below : Below s w W

theorem TB1.step {w W W' : World} {s : Nat} {v0 z0 o0 : Value} (h : TB1 w s v0 z0 o0 W) (hb : Below W.heap.size W W') : TB1 w s v0 z0 o0 W' where
  a0 := (hb.cell (p := ⟨s, 0, none⟩) (by have := h.sz; show s < _; omega)).trans h.a0
  r0 := (hb.cell (p := ⟨s + 1, 0, none⟩) (by have := h.sz; show s + 1 < _; omega)).trans h.r0
  o0 := (hb.cell (p := ⟨s + 1 + 1, 0, none⟩) (by have := h.sz; show s + 1 + 1 < _; omega)).trans h.o0
  fr0 := (hb.frozen (p := ⟨s + 1, 0, none⟩) (by have := h.sz; show s + 1 < _; omega)).trans h.fr0
  fo0 := (hb.frozen (p := ⟨s + 1 + 1, 0, none⟩) (by have := h.sz; show s + 1 + 1 < _; omega)).trans h.fo0
  sz := Nat.le_trans h.sz hb.size
  below := h.below.trans (hb.mono (by have := h.sz; omega))

theorem TB1.set0 {w W : World} {s : Nat} {v0 z0 o0 : Value} (h : TB1 w s v0 z0 o0 W) (u : Value) : TB1 w s v0 z0 u (W.setCell ⟨s + 1 + 1, 0, none⟩ u) where
  a0 := (World.cell?_setCell_other _ _ _ _ (by intro e; simp only [Addr.mk.injEq] at e; omega)).trans h.a0
  r0 := (World.cell?_setCell_other _ _ _ _ (by intro e; simp only [Addr.mk.injEq] at e; omega)).trans h.r0
  o0 := World.cell?_setCell_same _ _ _ h.o0
  fr0 := (World.frozen?_setCell _ _ _ _).trans h.fr0
  fo0 := (World.frozen?_setCell _ _ _ _).trans h.fo0
  sz := by have := h.sz; simpa [World.setCell] using this
  below := h.below.setCell (by show s ≤ s + 1 + 1; omega) _

theorem TB1.start (w : World) (t t' t'' : TypeId) (v0 z0 o0 : Value) : TB1 w w.heap.size v0 z0 o0 (((w.alloc (.cells #[v0] t)).alloc (.cells #[z0] t')).alloc (.cells #[o0] t'')) where
  a0 := by simp [go_sem]
  r0 := by simp [go_sem]
  o0 := by simp [go_sem]
  fr0 := by simp [go_sem]
  fo0 := by simp [go_sem]
  sz := by simp
  below := (((Below.refl _ _).alloc (Nat.le_refl _) _).alloc (by simp) _).alloc (by simp; omega) _

theorem HalfR.set {W : World} {g n j c o : Nat} {ds : List RelV} {v : Value} (h : HalfR W g n j ds) (hc : c < g) : HalfR (W.setCell ⟨c, o, none⟩ v) g n j ds where
  any q hq := by
    obtain ⟨u, hu⟩ := h.any q hq
    exact ⟨u, (World.cell?_setCell_other _ _ _ _ (by intro e; simp only [Addr.mk.injEq] at e; omega)).trans hu⟩
  free q hq := by rw [World.frozen?_setCell]; exact h.free q hq
  copy i hi := by
    obtain ⟨ur, uw, h0, h1, h2, h3, h4⟩ := h.copy i hi
    exact ⟨ur, uw, (World.cell?_setCell_other _ _ _ _ (by intro e; simp only [Addr.mk.injEq] at e; omega)).trans h0, (World.cell?_setCell_other _ _ _ _ (by intro e; simp only [Addr.mk.injEq] at e; omega)).trans h1,
      (World.cell?_setCell_other _ _ _ _ (by intro e; simp only [Addr.mk.injEq] at e; omega)).trans h2, (World.cell?_setCell_other _ _ _ _ (by intro e; simp only [Addr.mk.injEq] at e; omega)).trans h3, h4.set (by omega)⟩

theorem HalfR.irels {W : World} {g : Nat} {ds : List RelV} (h : HalfR W g ds.length ds.length ds) : IRelS W (.slice (some ⟨g, 0, none⟩) ds.length ds.length) ds :=
  ⟨_, _, rfl, Or.inr ⟨g, 0, rfl, fun j hj => (h.copy j hj).at⟩⟩

def relSz (r : RelV) : Nat := r.name.size + tot r.rows r.rows.length + r.ws.length

/-- the bounds that what is handed in keeps -/
structure FitRel (r : RelV) : Prop where
  name : r.name.size ≤ 9223372036854775807
  rows : Fits r.rows
  ws : r.ws.length ≤ 9223372036854775807

def rtot (ds : List RelV) (k : Nat) : Nat := ds.length + ((ds.take k).map relSz).sum

theorem rtot_zero (ds : List RelV) : rtot ds 0 = ds.length := by simp [rtot]
theorem rtot_succ (ds : List RelV) (k : Nat) (h : k < ds.length) : rtot ds (k + 1) = rtot ds k + relSz (ds.getD k noRel) := by
  unfold rtot
  rw [List.take_add_one, List.getElem?_eq_getElem h, List.getD_eq_getElem?_getD, List.getElem?_eq_getElem h]
  simp only [Option.toList_some, List.map_append, List.map_cons, List.map_nil, List.sum_append, List.sum_cons, List.sum_nil, Option.getD_some]
  omega
theorem rtot_le (ds : List RelV) : ∀ (d k : Nat), k + d = ds.length → rtot ds k ≤ rtot ds ds.length := by
  intro d
  induction d with
  | zero => intro k h; rw [show k = ds.length by omega]; exact Nat.le_refl _
  | succ d ih =>
    intro k h
    have h1 := ih (k + 1) (by omega)
    have h2 := rtot_succ ds k (by omega)
    omega

theorem okRels_of {ds : List RelV} (h : rtot ds ds.length ≤ 1048576) : OkRels ds := by
  have h0 := rtot_le ds ds.length 0 (by omega)
  rw [rtot_zero] at h0
  refine ⟨by omega, fun j => ?_⟩
  by_cases hj : j < ds.length
  · have h1 := rtot_succ ds j hj
    have h2 := rtot_le ds (ds.length - (j + 1)) (j + 1) (by omega)
    have h3 : relSz (ds.getD j noRel) ≤ 1048576 := by omega
    unfold relSz at h3
    exact ⟨by omega, short_of_tot (by omega), by omega⟩
  · rw [List.getD_eq_getElem?_getD, List.getElem?_eq_none (by omega)]
    exact ⟨by simp [noRel, ByteArray.size], ⟨by simp [noRel], fun j => by simp [noRel]⟩, by simp [noRel]⟩

end Go.Proofs.YtcdfoephhjacdaaDoor
