import Derived.Test.YtfjchjhakjghcaaDoorD15
/-
  Copies of relations: laws.toRelationS, laws.toData.
-/
namespace Go.Proofs.YtfjchjhakjghcaaDoor
open Go.RowKit

theorem Tryd.infoRel : (Tryd.prog.info? 54).map (fun i => (i.zero, i.size, i.bytes)) = some (some (.agg #[.string ⟨#[]⟩, .int .i64 0, .slice none 0 0, .slice none 0 0]), 4, 72) := by kernel_rfl

/-- relation i of the copy in block g -/
def RelCopy (W : World) (g i : Nat) (r : RelV) : Prop := ∃ ur uw, W.cell? ⟨g, i * 4, none⟩ = some (.string r.name) ∧ W.cell? ⟨g, i * 4 + 1, none⟩ = some (.int .i64 r.ar) ∧ W.cell? ⟨g, i * 4 + 2, none⟩ = some ur ∧ W.cell? ⟨g, i * 4 + 3, none⟩ = some uw ∧ OwnRel W (g + 1) ur uw r

theorem RelCopy.below {W W' : World} {g i : Nat} {r : RelV} (h : RelCopy W g i r) (hb : Below W.heap.size W W') : RelCopy W' g i r := by
  obtain ⟨ur, uw, h0, h1, h2, h3, h4⟩ := h
  have hlt := World.block_lt_of_cell? W _ h0
  exact ⟨ur, uw, (hb.cell (p := ⟨g, i * 4, none⟩) hlt).trans h0, (hb.cell (p := ⟨g, i * 4 + 1, none⟩) hlt).trans h1, (hb.cell (p := ⟨g, i * 4 + 2, none⟩) hlt).trans h2, (hb.cell (p := ⟨g, i * 4 + 3, none⟩) hlt).trans h3, h4.below hb⟩

theorem RelCopy.at {W : World} {g i : Nat} {r : RelV} (h : RelCopy W g i r) : RelAt W g (0 + i * 4) r := by
  obtain ⟨ur, uw, h0, h1, h2, h3, h4⟩ := h
  rw [Nat.zero_add]
  exact ⟨ur, uw, h0, h1, h2, h3, h4.irel⟩

theorem RelCopy.set {W : World} {g i q : Nat} {r : RelV} {v : Value} (h : RelCopy W g i r) (hq : q < i * 4 ∨ i * 4 + 3 < q) : RelCopy (W.setCell ⟨g, q, none⟩ v) g i r := by
  obtain ⟨ur, uw, h0, h1, h2, h3, h4⟩ := h
  exact ⟨ur, uw, (World.cell?_setCell_other _ _ _ _ (by intro e; simp only [Addr.mk.injEq] at e; omega)).trans h0, (World.cell?_setCell_other _ _ _ _ (by intro e; simp only [Addr.mk.injEq] at e; omega)).trans h1,
    (World.cell?_setCell_other _ _ _ _ (by intro e; simp only [Addr.mk.injEq] at e; omega)).trans h2, (World.cell?_setCell_other _ _ _ _ (by intro e; simp only [Addr.mk.injEq] at e; omega)).trans h3, h4.set (by omega)⟩

/-- the first j of n relations have been laid -/
structure HalfR (W : World) (g n j : Nat) (ds : List RelV) : Prop where
  any : ∀ q, q < n * 4 → ∃ u, W.cell? ⟨g, q, none⟩ = some u
  free : ∀ q, q < n * 4 → W.frozen? ⟨g, q, none⟩ = false
  copy : ∀ i, i < j → RelCopy W g i (ds.getD i noRel)

theorem HalfR.below {W W' : World} {g n j : Nat} {ds : List RelV} (h : HalfR W g n j ds) (hg : g < W.heap.size) (hb : Below W.heap.size W W') : HalfR W' g n j ds :=
  ⟨fun q hq => by obtain ⟨u, hu⟩ := h.any q hq; exact ⟨u, (hb.cell (p := ⟨g, q, none⟩) hg).trans hu⟩, fun q hq => (hb.frozen (p := ⟨g, q, none⟩) hg).trans (h.free q hq), fun i hi => (h.copy i hi).below hb⟩

theorem cell_set_any {W : World} {g q q' : Nat} {v : Value} (h : ∃ u, W.cell? ⟨g, q, none⟩ = some u) : ∃ u, (W.setCell ⟨g, q', none⟩ v).cell? ⟨g, q, none⟩ = some u := by
  obtain ⟨u, hu⟩ := h
  by_cases e : q = q'
  · subst e; exact ⟨v, World.cell?_setCell_same _ _ _ hu⟩
  · exact ⟨u, (World.cell?_setCell_other _ _ _ _ (by intro e2; simp only [Addr.mk.injEq] at e2; omega)).trans hu⟩

theorem HalfR.step {W : World} {g n j : Nat} {ds : List RelV} {ur uw : Value} (h : HalfR W g n j ds) (hj : j < n) (ho : OwnRel W (g + 1) ur uw (ds.getD j noRel)) :
    HalfR ((((W.setCell ⟨g, j * 4, none⟩ (.string (ds.getD j noRel).name)).setCell ⟨g, j * 4 + 1, none⟩ (.int .i64 (ds.getD j noRel).ar)).setCell ⟨g, j * 4 + 2, none⟩ ur).setCell ⟨g, j * 4 + 3, none⟩ uw) g n (j + 1) ds where
  any q hq := cell_set_any (cell_set_any (cell_set_any (cell_set_any (h.any q hq))))
  free q hq := by rw [World.frozen?_setCell, World.frozen?_setCell, World.frozen?_setCell, World.frozen?_setCell]; exact h.free q hq
  copy i hi := by
    by_cases e : i = j
    · subst e
      obtain ⟨u0, c0⟩ := h.any (i * 4) (by omega)
      obtain ⟨u1, c1⟩ := h.any (i * 4 + 1) (by omega)
      obtain ⟨u2, c2⟩ := h.any (i * 4 + 2) (by omega)
      obtain ⟨u3, c3⟩ := h.any (i * 4 + 3) (by omega)
      have ne : ∀ (X : World) (a b : Nat) (v : Value), a ≠ b → (X.setCell ⟨g, b, none⟩ v).cell? ⟨g, a, none⟩ = X.cell? ⟨g, a, none⟩ := fun X a b v hab => World.cell?_setCell_other _ _ _ _ (by intro e2; simp only [Addr.mk.injEq] at e2; omega)
      refine ⟨ur, uw, ?_, ?_, ?_, ?_, (((ho.set (by omega)).set (by omega)).set (by omega)).set (by omega)⟩
      · rw [ne _ _ _ _ (by omega), ne _ _ _ _ (by omega), ne _ _ _ _ (by omega)]; exact World.cell?_setCell_same _ _ _ c0
      · rw [ne _ _ _ _ (by omega), ne _ _ _ _ (by omega)]; exact World.cell?_setCell_same _ _ _ ((ne _ _ _ _ (by omega)).trans c1)
      · rw [ne _ _ _ _ (by omega)]; exact World.cell?_setCell_same _ _ _ ((ne _ _ _ _ (by omega)).trans ((ne _ _ _ _ (by omega)).trans c2))
      · exact World.cell?_setCell_same _ _ _ ((ne _ _ _ _ (by omega)).trans ((ne _ _ _ _ (by omega)).trans ((ne _ _ _ _ (by omega)).trans c3)))
    · exact ((((h.copy i (by omega)).set (by omega)).set (by omega)).set (by omega)).set (by omega)

set_option maxHeartbeats 4000000 in
set_option maxRecDepth 1000000 in
theorem toRelationS_calls (w : World) (v : Value) (ds : List RelV) (h : IRelS w v ds) (hr : OkRels ds) (hn0 : ds.length ≤ 1048576) :
    Calls Tryd.prog 22 #[v] w fun e w' => e = .returned (.slice (some ⟨w.heap.size, 0, none⟩) ds.length ds.length) ∧ HalfR w' w.heap.size ds.length ds.length ds ∧ w.heap.size < w'.heap.size ∧ Below w.heap.size w w' := by
  obtain ⟨i0, hi, hz0, hz1, hz2⟩ := info_parts Tryd.infoRel
  have HR := hid hr.2
  obtain ⟨a, cap, rfl, hc⟩ := h
  obtain ⟨n, hn⟩ : ∃ n, n = ds.length := ⟨_, rfl⟩
  have HC := hid hc
  rw [← hn] at HC hn0 ⊢
  clear hc hr hn
  go_enter Tryd.func22, Tryd.ntmps22
  go_wp2_with (at_make; refine wpList_make_full _ rfl _ _ 27 rfl w.heap.size 54 i0 (.agg #[.string ⟨#[]⟩, .int .i64 0, .slice none 0 0, .slice none 0 0]) 4 Tryd.underlying27 hi hz0 hz1 _ _ _ _ n rfl rfl rfl rfl ?b2 ?b3 (Nat.le_refl _) ?_)
  case b2 => rw [hz2]; omega
  case b3 => unfold maxLen; omega
  intro w0 hown0 hgrow0
  have hb0 : Below w.heap.size w w0 := (Below.refl _ _).grown hgrow0 (Nat.le_refl _) (fun j hj => by cases hj)
  have hlt0 : w.heap.size < w0.heap.size := (hown0.lt _ rfl).2
  have hH0 : HalfR w0 w.heap.size n 0 ds := ⟨fun q hq => by
      rw [hown0.cellAt q hq]
      exact ⟨_, List.getElem?_eq_getElem (by rw [hown0.1]; exact hq)⟩, fun q _ => hown0.frozenAt q, fun i hi => by omega⟩
  have HH0 := hid (And.intro hb0 (And.intro hlt0 hH0))
  clear hown0 hgrow0 hb0 hlt0 hH0
  go_wp2
  go_loopw [4] (fun t wr => ∃ j : Nat, j ≤ n ∧ t = .int .i64 j ∧ Hid (Below w.heap.size w wr ∧ w.heap.size < wr.heap.size ∧ HalfR wr w.heap.size n j ds)) (fun t _ => n - (intOf t).toNat)
  case atStart => exact ⟨0, Nat.zero_le _, rfl, HH0⟩
  case round =>
    clear HH0
    obtain ⟨j, hj, rfl, hH⟩ := hrel
    obtain ⟨hnx, hlt, hhr⟩ := hH.out
    by_cases hjn : j < n
    · have i1 : (j : Int) < (n : Int) := by omega
      rcases HC.out with h0 | ⟨b, o, rfl, hrel⟩
      · omega
      · obtain ⟨vr, vw, c0, c1, c2, c3, hir⟩ := (hrel j hjn).below hnx
        have K1 := hid (toRelation_calls wr vr vw (ds.getD j noRel) hir (HR.out j))
        have HNX := hid hnx
        have HHR := hid hhr
        obtain ⟨a1, k1, rfl, -⟩ := hir.rows
        obtain ⟨a2, k2, rfl, -⟩ := hir.ws
        have HST : Hid (∀ W ur uw, Below wr.heap.size wr W → OwnRel W (wr.heap.size + 3) ur uw (ds.getD j noRel) → HalfR ((((W.setCell ⟨w.heap.size, j * 4, none⟩ (.string (ds.getD j noRel).name)).setCell ⟨w.heap.size, j * 4 + 1, none⟩ (.int .i64 (ds.getD j noRel).ar)).setCell ⟨w.heap.size, j * 4 + 2, none⟩ ur).setCell ⟨w.heap.size, j * 4 + 3, none⟩ uw) w.heap.size n (j + 1) ds) := hid (fun W ur uw hb ho =>
          (HHR.out.below hlt hb).step hjn (ho.mono (by omega)))
        clear hH hnx hhr hir hrel
        generalize (ds.getD j noRel).rows.length = n1 at *
        generalize (ds.getD j noRel).ws.length = n2 at *
        obtain ⟨nm, hnm⟩ : ∃ x, x = (ds.getD j noRel).name := ⟨_, rfl⟩
        obtain ⟨ar, har⟩ : ∃ x, x = (ds.getD j noRel).ar := ⟨_, rfl⟩
        rw [← hnm] at c0 K1 HST
        rw [← har] at c1 K1 HST
        clear hnm har
        go_wp2_with fail
        refine K1.out.mono ?_
        rintro e w2 ⟨ur, uw, rfl, ho, hb⟩
        have hHR2 := HHR.out.below hlt hb
        obtain ⟨u0, d0⟩ := hHR2.any (j * 4) (by omega)
        obtain ⟨u1, d1⟩ := hHR2.any (j * 4 + 1) (by omega)
        obtain ⟨u2, d2⟩ := hHR2.any (j * 4 + 2) (by omega)
        obtain ⟨u3, d3⟩ := hHR2.any (j * 4 + 3) (by omega)
        have f0 := hHR2.free (j * 4) (by omega)
        have f1 := hHR2.free (j * 4 + 1) (by omega)
        have f2 := hHR2.free (j * 4 + 2) (by omega)
        have f3 := hHR2.free (j * 4 + 3) (by omega)
        have HF := hid (HST.out w2 ur uw hb ho)
        have HB2 := hid (bt HNX.out hb)
        have hs2 := hb.size
        obtain ⟨g1, g2, ff, rfl, rfl, -⟩ := ho
        clear hHR2 hb HST K1
        generalize (ds.getD j noRel).rows.length = m1 at *
        generalize (ds.getD j noRel).ws.length = m2 at *
        go_wp2
        go_roundw
        case rel => exact ⟨j + 1, by omega, by go_num, hid ⟨(((HB2.out.setCell (Nat.le_refl _) _).setCell (Nat.le_refl _) _).setCell (Nat.le_refl _) _).setCell (Nat.le_refl _) _, by simp [World.setCell]; omega, HF.out⟩⟩
        case measure => simp [intOf]; omega
    · obtain rfl : j = n := by omega
      have i1 : ¬ ((j : Int) < (j : Int)) := by omega
      have HX := hid (And.intro hhr (And.intro hlt hnx))
      clear hH hnx hhr
      go_wp2
      go_ret
      exact ⟨rfl, HX.out⟩

end Go.Proofs.YtfjchjhakjghcaaDoor
