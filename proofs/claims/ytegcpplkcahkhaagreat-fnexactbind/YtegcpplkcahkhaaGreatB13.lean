import Derived.Test.YtegcpplkcahkhaaGreatB11
import Derived.Test.YtegcpplkcahkhaaGreatB12
/-
  Copies of relations: laws.toRelationS, laws.toData.
-/
namespace Go.Proofs.YtegcpplkcahkhaaGreat
open Go.RowKit

theorem Tryz.infoRel : (Tryz.prog.info? 65).map (fun i => (i.zero, i.size, i.bytes)) = some (some (.agg #[.string ⟨#[]⟩, .int .i64 0, .slice none 0 0, .slice none 0 0]), 4, 72) := by kernel_rfl

/-- relation i of the copy in block g -/
def RelCopy (W : World) (g i : Nat) (r : RelV) : Prop := ∃ ur uw, W.cell? ⟨g, i * 4, none⟩ = some (.string r.name) ∧ W.cell? ⟨g, i * 4 + 1, none⟩ = some (.int .i64 r.ar) ∧ W.cell? ⟨g, i * 4 + 2, none⟩ = some ur ∧ W.cell? ⟨g, i * 4 + 3, none⟩ = some uw ∧ OwnRel W (g + 1) ur uw r

theorem RelCopy.below {W W' : World} {g i : Nat} {r : RelV} (h : RelCopy W g i r) (hb : Below W.heap.size W W') : RelCopy W' g i r := by
  obtain ⟨ur, uw, h0, h1, h2, h3, h4⟩ := h
  have hlt := World.block_lt_of_cell? W _ h0
  exact ⟨ur, uw, (hb.cell (p := ⟨g, i * 4, none⟩) hlt).trans h0, (hb.cell (p := ⟨g, i * 4 + 1, none⟩) hlt).trans h1, (hb.cell (p := ⟨g, i * 4 + 2, none⟩) hlt).trans h2, (hb.cell (p := ⟨g, i * 4 + 3, none⟩) hlt).trans h3, h4.below hb⟩

theorem RelCopy.at {W : World} {g i : Nat} {r : RelV} (h : RelCopy W g i r) : RelAt W g (0 + i * 4) r := by
  obtain ⟨ur, uw, h0, h1, h2, h3, h4⟩ := h
  rw [Nat.zero_add]
  exact ⟨ur, uw, h0, h1, h2, h3, h4.irel⟩

theorem RelCopy.set {W : World} {g i q : Nat} {r : RelV} {v : Value} (h : RelCopy W g i r) (hq : q < i * 4 ∨ i * 4 + 3 < q) : RelCopy (W.setCell ⟨g, q, none⟩ v) g i r := by
  obtain ⟨ur, uw, h0, h1, h2, h3, h4⟩ := h
  exact ⟨ur, uw, (World.cell?_setCell_other _ _ _ _ (by intro e; simp only [Addr.mk.injEq] at e; omega)).trans h0, (World.cell?_setCell_other _ _ _ _ (by intro e; simp only [Addr.mk.injEq] at e; omega)).trans h1,
    (World.cell?_setCell_other _ _ _ _ (by intro e; simp only [Addr.mk.injEq] at e; omega)).trans h2, (World.cell?_setCell_other _ _ _ _ (by intro e; simp only [Addr.mk.injEq] at e; omega)).trans h3, h4.set (by omega)⟩

/-- the first j of n relations have been laid -/
structure HalfR (W : World) (g n j : Nat) (ds : List RelV) : Prop where
  any : ∀ q, q < n * 4 → ∃ u, W.cell? ⟨g, q, none⟩ = some u
  free : ∀ q, q < n * 4 → W.frozen? ⟨g, q, none⟩ = false
  copy : ∀ i, i < j → RelCopy W g i (ds.getD i noRel)

theorem HalfR.below {W W' : World} {g n j : Nat} {ds : List RelV} (h : HalfR W g n j ds) (hg : g < W.heap.size) (hb : Below W.heap.size W W') : HalfR W' g n j ds :=
  ⟨fun q hq => by obtain ⟨u, hu⟩ := h.any q hq; exact ⟨u, (hb.cell (p := ⟨g, q, none⟩) hg).trans hu⟩, fun q hq => (hb.frozen (p := ⟨g, q, none⟩) hg).trans (h.free q hq), fun i hi => (h.copy i hi).below hb⟩

theorem cell_set_any {W : World} {g q q' : Nat} {v : Value} (h : ∃ u, W.cell? ⟨g, q, none⟩ = some u) : ∃ u, (W.setCell ⟨g, q', none⟩ v).cell? ⟨g, q, none⟩ = some u := by
  obtain ⟨u, hu⟩ := h
  by_cases e : q = q'
  · subst e; exact ⟨v, World.cell?_setCell_same _ _ _ hu⟩
  · exact ⟨u, (World.cell?_setCell_other _ _ _ _ (by intro e2; simp only [Addr.mk.injEq] at e2; omega)).trans hu⟩

theorem HalfR.step {W : World} {g n j : Nat} {ds : List RelV} {ur uw : Value} (h : HalfR W g n j ds) (hj : j < n) (ho : OwnRel W (g + 1) ur uw (ds.getD j noRel)) :
    HalfR ((((W.setCell ⟨g, j * 4, none⟩ (.string (ds.getD j noRel).name)).setCell ⟨g, j * 4 + 1, none⟩ (.int .i64 (ds.getD j noRel).ar)).setCell ⟨g, j * 4 + 2, none⟩ ur).setCell ⟨g, j * 4 + 3, none⟩ uw) g n (j + 1) ds where
  any q hq := cell_set_any (cell_set_any (cell_set_any (cell_set_any (h.any q hq))))
  free q hq := by rw [World.frozen?_setCell, World.frozen?_setCell, World.frozen?_setCell, World.frozen?_setCell]; exact h.free q hq
  copy i hi := by
    by_cases e : i = j
    · subst e
      obtain ⟨u0, c0⟩ := h.any (i * 4) (by omega)
      obtain ⟨u1, c1⟩ := h.any (i * 4 + 1) (by omega)
      obtain ⟨u2, c2⟩ := h.any (i * 4 + 2) (by omega)
      obtain ⟨u3, c3⟩ := h.any (i * 4 + 3) (by omega)
      have ne : ∀ (X : World) (a b : Nat) (v : Value), a ≠ b → (X.setCell ⟨g, b, none⟩ v).cell? ⟨g, a, none⟩ = X.cell? ⟨g, a, none⟩ := fun X a b v hab => World.cell?_setCell_other _ _ _ _ (by intro e2; simp only [Addr.mk.injEq] at e2; omega)
      refine ⟨ur, uw, ?_, ?_, ?_, ?_, (((ho.set (by omega)).set (by omega)).set (by omega)).set (by omega)⟩
      · rw [ne _ _ _ _ (by omega), ne _ _ _ _ (by omega), ne _ _ _ _ (by omega)]; exact World.cell?_setCell_same _ _ _ c0
      · rw [ne _ _ _ _ (by omega), ne _ _ _ _ (by omega)]; exact World.cell?_setCell_same _ _ _ ((ne _ _ _ _ (by omega)).trans c1)
      · rw [ne _ _ _ _ (by omega)]; exact World.cell?_setCell_same _ _ _ ((ne _ _ _ _ (by omega)).trans ((ne _ _ _ _ (by omega)).trans c2))
      · exact World.cell?_setCell_same _ _ _ ((ne _ _ _ _ (by omega)).trans ((ne _ _ _ _ (by omega)).trans ((ne _ _ _ _ (by omega)).trans c3)))
    · exact ((((h.copy i (by omega)).set (by omega)).set (by omega)).set (by omega)).set (by omega)

set_option maxHeartbeats 4000000 in
set_option maxRecDepth 1000000 in
theorem toRelationS_calls (w : World) (v : Value) (ds : List RelV) (h : IRelS w v ds) (hr : OkRels ds) (hn0 : ds.length ≤ 1048576) :
    Calls Tryz.prog 26 #[v] w fun e w' => e = .returned (.slice (some ⟨w.heap.size, 0, none⟩) ds.length ds.length) ∧ HalfR w' w.heap.size ds.length ds.length ds ∧ w.heap.size < w'.heap.size ∧ Below w.heap.size w w' := by
  obtain ⟨i0, hi, hz0, hz1, hz2⟩ := info_parts Tryz.infoRel
  have HR := hid hr.2
  obtain ⟨a, cap, rfl, hc⟩ := h
  obtain ⟨n, hn⟩ : ∃ n, n = ds.length := ⟨_, rfl⟩
  have HC := hid hc
  rw [← hn] at HC hn0 ⊢
  clear hc hr hn
  go_enter Tryz.func26, Tryz.ntmps26
  go_wp2_with (at_make; refine wpList_make_full _ rfl _ _ 33 rfl w.heap.size 65 i0 (.agg #[.string ⟨#[]⟩, .int .i64 0, .slice none 0 0, .slice none 0 0]) 4 Tryz.underlying33 hi hz0 hz1 _ _ _ _ n rfl rfl rfl rfl ?b2 ?b3 (Nat.le_refl _) ?_)
  case b2 => rw [hz2]; omega
  case b3 => unfold maxLen; omega
  intro w0 hown0 hgrow0
  have hb0 : Below w.heap.size w w0 := (Below.refl _ _).grown hgrow0 (Nat.le_refl _) (fun j hj => by cases hj)
  have hlt0 : w.heap.size < w0.heap.size := (hown0.lt _ rfl).2
  have hH0 : HalfR w0 w.heap.size n 0 ds := ⟨fun q hq => by
      rw [hown0.cellAt q hq]
      exact ⟨_, List.getElem?_eq_getElem (by rw [hown0.1]; exact hq)⟩, fun q _ => hown0.frozenAt q, fun i hi => by omega⟩
  have HH0 := hid (And.intro hb0 (And.intro hlt0 hH0))
  clear hown0 hgrow0 hb0 hlt0 hH0
  go_wp2
  go_loopw [4] (fun t wr => ∃ j : Nat, j ≤ n ∧ t = .int .i64 j ∧ Hid (Below w.heap.size w wr ∧ w.heap.size < wr.heap.size ∧ HalfR wr w.heap.size n j ds)) (fun t _ => n - (intOf t).toNat)
  case atStart => exact ⟨0, Nat.zero_le _, rfl, HH0⟩
  case round =>
    clear HH0
    obtain ⟨j, hj, rfl, hH⟩ := hrel
    obtain ⟨hnx, hlt, hhr⟩ := hH.out
    by_cases hjn : j < n
    · have i1 : (j : Int) < (n : Int) := by omega
      rcases HC.out with h0 | ⟨b, o, rfl, hrel⟩
      · omega
      · obtain ⟨vr, vw, c0, c1, c2, c3, hir⟩ := (hrel j hjn).below hnx
        have K1 := hid (toRelation_calls wr vr vw (ds.getD j noRel) hir (HR.out j))
        have HNX := hid hnx
        have HHR := hid hhr
        obtain ⟨a1, k1, rfl, -⟩ := hir.rows
        obtain ⟨a2, k2, rfl, -⟩ := hir.ws
        have HST : Hid (∀ W ur uw, Below wr.heap.size wr W → OwnRel W (wr.heap.size + 3) ur uw (ds.getD j noRel) → HalfR ((((W.setCell ⟨w.heap.size, j * 4, none⟩ (.string (ds.getD j noRel).name)).setCell ⟨w.heap.size, j * 4 + 1, none⟩ (.int .i64 (ds.getD j noRel).ar)).setCell ⟨w.heap.size, j * 4 + 2, none⟩ ur).setCell ⟨w.heap.size, j * 4 + 3, none⟩ uw) w.heap.size n (j + 1) ds) := hid (fun W ur uw hb ho =>
          (HHR.out.below hlt hb).step hjn (ho.mono (by omega)))
        clear hH hnx hhr hir hrel
        generalize (ds.getD j noRel).rows.length = n1 at *
        generalize (ds.getD j noRel).ws.length = n2 at *
        obtain ⟨nm, hnm⟩ : ∃ x, x = (ds.getD j noRel).name := ⟨_, rfl⟩
        obtain ⟨ar, har⟩ : ∃ x, x = (ds.getD j noRel).ar := ⟨_, rfl⟩
        rw [← hnm] at c0 K1 HST
        rw [← har] at c1 K1 HST
        clear hnm har
        go_wp2_with fail
        refine K1.out.mono ?_
        rintro e w2 ⟨ur, uw, rfl, ho, hb⟩
        have hHR2 := HHR.out.below hlt hb
        obtain ⟨u0, d0⟩ := hHR2.any (j * 4) (by omega)
        obtain ⟨u1, d1⟩ := hHR2.any (j * 4 + 1) (by omega)
        obtain ⟨u2, d2⟩ := hHR2.any (j * 4 + 2) (by omega)
        obtain ⟨u3, d3⟩ := hHR2.any (j * 4 + 3) (by omega)
        have f0 := hHR2.free (j * 4) (by omega)
        have f1 := hHR2.free (j * 4 + 1) (by omega)
        have f2 := hHR2.free (j * 4 + 2) (by omega)
        have f3 := hHR2.free (j * 4 + 3) (by omega)
        have HF := hid (HST.out w2 ur uw hb ho)
        have HB2 := hid (bt HNX.out hb)
        have hs2 := hb.size
        obtain ⟨g1, g2, ff, rfl, rfl, -⟩ := ho
        clear hHR2 hb HST K1
        generalize (ds.getD j noRel).rows.length = m1 at *
        generalize (ds.getD j noRel).ws.length = m2 at *
        go_wp2
        go_roundw
        case rel => exact ⟨j + 1, by omega, by go_num, hid ⟨(((HB2.out.setCell (Nat.le_refl _) _).setCell (Nat.le_refl _) _).setCell (Nat.le_refl _) _).setCell (Nat.le_refl _) _, by simp [World.setCell]; omega, HF.out⟩⟩
        case measure => simp [intOf]; omega
    · obtain rfl : j = n := by omega
      have i1 : ¬ ((j : Int) < (j : Int)) := by omega
      have HX := hid (And.intro hhr (And.intro hlt hnx))
      clear hH hnx hhr
      go_wp2
      go_ret
      exact ⟨rfl, HX.out⟩

end Go.Proofs.YtegcpplkcahkhaaGreat

/-
  laws.toData, szRelation, szRelationS, szData.
-/
namespace Go.Proofs.YtegcpplkcahkhaaGreat
open Go.RowKit

structure TB1 (w : World) (s : Nat) (v0 z0 o0 : Value) (W : World) : Prop where
  a0 : W.cell? ⟨s, 0, none⟩ = some v0
  r0 : W.cell? ⟨s + 1, 0, none⟩ = some z0
  o0 : W.cell? ⟨s + 1 + 1, 0, none⟩ = some o0
  fr0 : W.frozen? ⟨s + 1, 0, none⟩ = false
  fo0 : W.frozen? ⟨s + 1 + 1, 0, none⟩ = false
  sz : s + 3 ≤ W.heap.size
  below : Below s w W

theorem TB1.step {w W W' : World} {s : Nat} {v0 z0 o0 : Value} (h : TB1 w s v0 z0 o0 W) (hb : Below W.heap.size W W') : TB1 w s v0 z0 o0 W' where
  a0 := (hb.cell (p := ⟨s, 0, none⟩) (by have := h.sz; show s < _; omega)).trans h.a0
  r0 := (hb.cell (p := ⟨s + 1, 0, none⟩) (by have := h.sz; show s + 1 < _; omega)).trans h.r0
  o0 := (hb.cell (p := ⟨s + 1 + 1, 0, none⟩) (by have := h.sz; show s + 1 + 1 < _; omega)).trans h.o0
  fr0 := (hb.frozen (p := ⟨s + 1, 0, none⟩) (by have := h.sz; show s + 1 < _; omega)).trans h.fr0
  fo0 := (hb.frozen (p := ⟨s + 1 + 1, 0, none⟩) (by have := h.sz; show s + 1 + 1 < _; omega)).trans h.fo0
  sz := Nat.le_trans h.sz hb.size
  below := h.below.trans (hb.mono (by have := h.sz; omega))

theorem TB1.set0 {w W : World} {s : Nat} {v0 z0 o0 : Value} (h : TB1 w s v0 z0 o0 W) (u : Value) : TB1 w s v0 z0 u (W.setCell ⟨s + 1 + 1, 0, none⟩ u) where
  a0 := (World.cell?_setCell_other _ _ _ _ (by intro e; simp only [Addr.mk.injEq] at e; omega)).trans h.a0
  r0 := (World.cell?_setCell_other _ _ _ _ (by intro e; simp only [Addr.mk.injEq] at e; omega)).trans h.r0
  o0 := World.cell?_setCell_same _ _ _ h.o0
  fr0 := (World.frozen?_setCell _ _ _ _).trans h.fr0
  fo0 := (World.frozen?_setCell _ _ _ _).trans h.fo0
  sz := by have := h.sz; simpa [World.setCell] using this
  below := h.below.setCell (by show s ≤ s + 1 + 1; omega) _

theorem TB1.start (w : World) (t t' t'' : TypeId) (v0 z0 o0 : Value) : TB1 w w.heap.size v0 z0 o0 (((w.alloc (.cells #[v0] t)).alloc (.cells #[z0] t')).alloc (.cells #[o0] t'')) where
  a0 := by simp [go_sem]
  r0 := by simp [go_sem]
  o0 := by simp [go_sem]
  fr0 := by simp [go_sem]
  fo0 := by simp [go_sem]
  sz := by simp
  below := (((Below.refl _ _).alloc (Nat.le_refl _) _).alloc (by simp) _).alloc (by simp; omega) _

theorem HalfR.set {W : World} {g n j c o : Nat} {ds : List RelV} {v : Value} (h : HalfR W g n j ds) (hc : c < g) : HalfR (W.setCell ⟨c, o, none⟩ v) g n j ds where
  any q hq := by
    obtain ⟨u, hu⟩ := h.any q hq
    exact ⟨u, (World.cell?_setCell_other _ _ _ _ (by intro e; simp only [Addr.mk.injEq] at e; omega)).trans hu⟩
  free q hq := by rw [World.frozen?_setCell]; exact h.free q hq
  copy i hi := by
    obtain ⟨ur, uw, h0, h1, h2, h3, h4⟩ := h.copy i hi
    exact ⟨ur, uw, (World.cell?_setCell_other _ _ _ _ (by intro e; simp only [Addr.mk.injEq] at e; omega)).trans h0, (World.cell?_setCell_other _ _ _ _ (by intro e; simp only [Addr.mk.injEq] at e; omega)).trans h1,
      (World.cell?_setCell_other _ _ _ _ (by intro e; simp only [Addr.mk.injEq] at e; omega)).trans h2, (World.cell?_setCell_other _ _ _ _ (by intro e; simp only [Addr.mk.injEq] at e; omega)).trans h3, h4.set (by omega)⟩

theorem HalfR.irels {W : World} {g : Nat} {ds : List RelV} (h : HalfR W g ds.length ds.length ds) : IRelS W (.slice (some ⟨g, 0, none⟩) ds.length ds.length) ds :=
  ⟨_, _, rfl, Or.inr ⟨g, 0, rfl, fun j hj => (h.copy j hj).at⟩⟩

set_option maxHeartbeats 4000000 in
set_option maxRecDepth 1000000 in
theorem toData_calls (w : World) (v : Value) (ds : List RelV) (h : IRelS w v ds) (hr : OkRels ds) (hn0 : ds.length ≤ 1048576) :
    Calls Tryz.prog 7 #[.agg #[v]] w fun e w' => ∃ g, e = .returned (.agg #[.slice (some ⟨g, 0, none⟩) ds.length ds.length]) ∧ HalfR w' g ds.length ds.length ds ∧ w.heap.size < g ∧ g < w'.heap.size ∧ Below w.heap.size w w' := by
  have HI := hid h
  have HR := hid hr
  obtain ⟨a, cap, rfl, -⟩ := h
  clear hr
  have HT0 := hid (TB1.start w 24 35 35 (.slice a ds.length cap) (.slice none 0 0) (.slice none 0 0))
  go_enter Tryz.func7, Tryz.ntmps7
  go_wp2_with fail
  refine (toRelationS_calls _ _ ds (HI.out.below HT0.out.below) HR.out hn0).mono ?_
  rintro e w2 ⟨rfl, hh, hlt, hb⟩
  have HT1 := hid (HT0.out.step hb)
  have y1 := HT1.out.o0
  have y2 := HT1.out.fo0
  have y3 := HT1.out.r0
  have y4 := HT1.out.fr0
  have HH : Hid (HalfR w2 (w.heap.size + 1 + 1 + 1) ds.length ds.length ds) := hid (by simpa using hh)
  have HL : Hid (w.heap.size + 1 + 1 + 1 < w2.heap.size) := hid (by simpa using hlt)
  clear hh hlt hb
  go_wp2
  refine bodyPost_ret (v := .agg #[.slice (some ⟨w.heap.size + 1 + 1 + 1, 0, none⟩) ds.length ds.length]) (by simp [results, Tryz.results7, go_sem, y3]) rfl
    ⟨_, rfl, (HH.out.set (by omega)).set (by omega), by omega, by have := HL.out; simpa [World.setCell] using this, (HT1.out.below.setCell (by show w.heap.size ≤ w.heap.size + 1 + 1; omega) _).setCell (by show w.heap.size ≤ w.heap.size + 1; omega) _⟩

def relSz (r : RelV) : Nat := r.name.size + tot r.rows r.rows.length + r.ws.length

/-- the bounds that what is handed in keeps -/
structure FitRel (r : RelV) : Prop where
  name : r.name.size ≤ 9223372036854775807
  rows : Fits r.rows
  ws : r.ws.length ≤ 9223372036854775807

set_option maxHeartbeats 4000000 in
set_option maxRecDepth 1000000 in
theorem szRelation_calls (w : World) (vr vw : Value) (r : RelV) (left : Int) (h : IRel w vr vw r) (hr : FitRel r) (h1 : 0 ≤ left) (h2 : left ≤ 1048576) :
    Calls Tryz.prog 44 #[.agg #[.string r.name, .int .i64 r.ar, vr, vw], .int .i64 left] w fun e w' => e = .returned (.int .i64 (if left < relSz r then -1 else left - relSz r)) ∧ Below w.heap.size w w' := by
  have HB : Hid (Below w.heap.size w (w.alloc (.cells #[.string r.name, .int .i64 r.ar, vr, vw] 88))) := hid ((Below.refl _ _).alloc (Nat.le_refl _) _)
  have H1 := hid h.rows
  have HF := hid hr.rows
  have hnz := hr.name
  have hwz := hr.ws
  obtain ⟨a1, k1, rfl, -⟩ := h.rows
  obtain ⟨a2, k2, rfl, -⟩ := h.ws
  obtain ⟨res, hres⟩ : ∃ q : Int, q = if left < relSz r then -1 else left - relSz r := ⟨_, rfl⟩
  rw [← hres]
  unfold relSz at hres
  clear h hr
  generalize r.rows = rows at *
  generalize r.ws = ws at *
  generalize r.name = nm at *
  generalize r.ar = ar at *
  by_cases c0 : left < nm.size
  · rw [if_pos (by omega)] at hres
    have HE := hid hres
    have n0 : left - (nm.size : Int) < 0 := by omega
    clear hres
    go_enter Tryz.func44, Tryz.ntmps44
    go_wp2
    go_ret
    exact ⟨ret_int HE.out.symm, HB.out⟩
  have n0 : ¬ (left - (nm.size : Int) < 0) := by omega
  have K1 := hid (szIntSS_calls (w.alloc (.cells #[.string nm, .int .i64 ar, .slice a1 rows.length k1, .slice a2 ws.length k2] 88)) _ rows (left - nm.size) (H1.out.below HB.out) HF.out (by omega) (by omega))
  unfold szSS at K1
  by_cases c1 : left - nm.size < tot rows rows.length
  · rw [if_pos c1] at K1
    rw [if_pos (by omega)] at hres
    have HE := hid hres
    clear hres
    go_enter Tryz.func44, Tryz.ntmps44
    go_wp2_with fail
    refine K1.out.mono ?_
    rintro e w' ⟨rfl, hw'⟩
    subst w'
    go_wp2
    go_ret
    exact ⟨ret_int HE.out.symm, HB.out⟩
  rw [if_neg c1] at K1
  have n1 : ¬ (left - (nm.size : Int) - (tot rows rows.length : Int) < 0) := by omega
  have K2 := hid (szIntS_calls (w.alloc (.cells #[.string nm, .int .i64 ar, .slice a1 rows.length k1, .slice a2 ws.length k2] 88)) a2 ws.length k2 (left - nm.size - tot rows rows.length) (by omega) (by omega) hwz)
  by_cases c2 : left - nm.size - tot rows rows.length < ws.length
  · rw [if_pos c2] at K2
    rw [if_pos (by omega)] at hres
    have HE := hid hres
    clear hres
    go_enter Tryz.func44, Tryz.ntmps44
    go_wp2_with fail
    refine K1.out.mono ?_
    rintro e w' ⟨rfl, hw'⟩
    subst w'
    go_wp2_with fail
    refine K2.out.mono ?_
    rintro e w' ⟨rfl, hw'⟩
    subst w'
    go_wp2
    go_ret
    exact ⟨ret_int HE.out.symm, HB.out⟩
  · rw [if_neg c2] at K2
    rw [if_neg (by omega)] at hres
    have HE := hid (show res = left - nm.size - tot rows rows.length - ws.length by omega)
    have n2 : ¬ (left - (nm.size : Int) - (tot rows rows.length : Int) - (ws.length : Int) < 0) := by omega
    clear hres
    go_enter Tryz.func44, Tryz.ntmps44
    go_wp2_with fail
    refine K1.out.mono ?_
    rintro e w' ⟨rfl, hw'⟩
    subst w'
    go_wp2_with fail
    refine K2.out.mono ?_
    rintro e w' ⟨rfl, hw'⟩
    subst w'
    go_wp2
    go_ret
    exact ⟨ret_int HE.out.symm, HB.out⟩

def rtot (ds : List RelV) (k : Nat) : Nat := ds.length + ((ds.take k).map relSz).sum

theorem rtot_zero (ds : List RelV) : rtot ds 0 = ds.length := by simp [rtot]
theorem rtot_succ (ds : List RelV) (k : Nat) (h : k < ds.length) : rtot ds (k + 1) = rtot ds k + relSz (ds.getD k noRel) := by
  unfold rtot
  rw [List.take_add_one, List.getElem?_eq_getElem h, List.getD_eq_getElem?_getD, List.getElem?_eq_getElem h]
  simp only [Option.toList_some, List.map_append, List.map_cons, List.map_nil, List.sum_append, List.sum_cons, List.sum_nil, Option.getD_some]
  omega
theorem rtot_le (ds : List RelV) : ∀ (d k : Nat), k + d = ds.length → rtot ds k ≤ rtot ds ds.length := by
  intro d
  induction d with
  | zero => intro k h; rw [show k = ds.length by omega]; exact Nat.le_refl _
  | succ d ih =>
    intro k h
    have h1 := ih (k + 1) (by omega)
    have h2 := rtot_succ ds k (by omega)
    omega

theorem okRels_of {ds : List RelV} (h : rtot ds ds.length ≤ 1048576) : OkRels ds := by
  have h0 := rtot_le ds ds.length 0 (by omega)
  rw [rtot_zero] at h0
  refine ⟨by omega, fun j => ?_⟩
  by_cases hj : j < ds.length
  · have h1 := rtot_succ ds j hj
    have h2 := rtot_le ds (ds.length - (j + 1)) (j + 1) (by omega)
    have h3 : relSz (ds.getD j noRel) ≤ 1048576 := by omega
    unfold relSz at h3
    exact ⟨by omega, short_of_tot (by omega), by omega⟩
  · rw [List.getD_eq_getElem?_getD, List.getElem?_eq_none (by omega)]
    exact ⟨by simp [noRel, ByteArray.size], ⟨by simp [noRel], fun j => by simp [noRel]⟩, by simp [noRel]⟩

set_option maxHeartbeats 4000000 in
set_option maxRecDepth 1000000 in
theorem szRelationS_calls (w : World) (v : Value) (ds : List RelV) (left : Int) (h : IRelS w v ds) (hl : ds.length ≤ 9223372036854775807) (hr : ∀ j, FitRel (ds.getD j noRel)) (h1 : 0 ≤ left) (h2 : left ≤ 1048576) :
    Calls Tryz.prog 17 #[v, .int .i64 left] w fun e w' => e = .returned (.int .i64 (if left < rtot ds ds.length then -1 else left - rtot ds ds.length)) ∧ Below w.heap.size w w' := by
  obtain ⟨a, cap, rfl, hc⟩ := h
  obtain ⟨n, hn⟩ : ∃ n, n = ds.length := ⟨_, rfl⟩
  obtain ⟨res, hres⟩ : ∃ q : Int, q = if left < rtot ds ds.length then -1 else left - rtot ds ds.length := ⟨_, rfl⟩
  rw [← hres]
  rw [← hn] at hc hl hres ⊢
  have HR := hid hres
  have HC := hid hc
  have HN := hid hn
  have HL := hid hr
  have HT : Hid (∀ k, k ≤ n → rtot ds k ≤ rtot ds n) := fun k hk => by
    have := rtot_le ds (ds.length - k) k (by rw [← HN.out]; omega)
    rw [← HN.out] at this; exact this
  have HS : Hid (∀ k, k < n → rtot ds (k + 1) = rtot ds k + relSz (ds.getD k noRel)) := fun k hk => rtot_succ ds k (by rw [← HN.out]; exact hk)
  have H0 : Hid (rtot ds 0 = n) := (rtot_zero ds).trans HN.out.symm
  clear hc hn hr hres
  by_cases hf : left < n
  · have hf1 : left - (n : Int) < 0 := by omega
    have hf2 : Hid (res = -1) := by
      have t0 := HT.out 0 (by omega)
      rw [H0.out] at t0
      exact HR.out.trans (if_pos (by omega))
    go_enter Tryz.func17, Tryz.ntmps17
    go_wp2
    go_ret
    exact ⟨ret_int hf2.out.symm, Below.refl _ _⟩
  have hf1 : ¬ (left - (n : Int) < 0) := by omega
  go_enter Tryz.func17, Tryz.ntmps17
  go_wp2
  go_loopw [1, 5] (fun u t wr => ∃ j : Nat, j ≤ n ∧ t = .int .i64 j ∧ ∃ c : Int, u = .int .i64 c ∧ 0 ≤ c ∧ c ≤ left ∧ Hid (c = left - rtot ds j ∧ Below w.heap.size w wr)) (fun _ t _ => n - (intOf t).toNat)
  case atStart => exact ⟨0, Nat.zero_le _, rfl, _, rfl, by omega, by omega, hid ⟨by rw [H0.out], Below.refl _ _⟩⟩
  case round =>
    obtain ⟨j, hj, rfl, c, rfl, hc0, hc1, hok⟩ := hrel
    obtain ⟨ho, hnx⟩ := hok.out
    by_cases hjn : j < n
    · have i1 : (j : Int) < (n : Int) := by omega
      rcases HC.out with h0 | ⟨b, o, rfl, hrel⟩
      · omega
      · obtain ⟨vr, vw, c0, c1, c2, c3, hir⟩ := (hrel j hjn).below hnx
        have hs := HS.out j hjn
        have ht := HT.out (j + 1) (by omega)
        have hr := HR.out
        have K1 := hid (szRelation_calls wr vr vw (ds.getD j noRel) c hir (HL.out j) hc0 (by omega))
        obtain ⟨a1, k1, rfl, -⟩ := hir.rows
        obtain ⟨a2, k2, rfl, -⟩ := hir.ws
        have HNX := hid hnx
        clear hok hrel hir hnx
        generalize relSz (ds.getD j noRel) = m at *
        generalize (ds.getD j noRel).rows.length = n1 at *
        generalize (ds.getD j noRel).ws.length = n2 at *
        generalize (ds.getD j noRel).name = nm at *
        generalize (ds.getD j noRel).ar = ar at *
        by_cases hcm : c < m
        · have hf : Hid (res = -1) := hid (hr.trans (if_pos (by omega)))
          rw [if_pos hcm] at K1
          clear hs ht ho hr
          go_wp2_with fail
          refine K1.out.mono ?_
          rintro e w2 ⟨rfl, hb⟩
          have HB := hid (bt HNX.out hb)
          clear hb
          go_wp2
          go_ret
          exact ⟨ret_int hf.out.symm, HB.out⟩
        · have hf : Hid (c - m = left - rtot ds (j + 1)) := hid (by omega)
          have hc2 : ¬ (c - (m : Int) < 0) := by omega
          rw [if_neg hcm] at K1
          clear hs ht ho hr
          go_wp2_with fail
          refine K1.out.mono ?_
          rintro e w2 ⟨rfl, hb⟩
          have HB := hid (bt HNX.out hb)
          clear hb
          go_wp2
          go_roundw
          case rel => exact ⟨j + 1, by omega, by go_num, _, rfl, by omega, by omega, hid ⟨hf.out, HB.out⟩⟩
          case measure => simp [intOf]; omega
    · obtain rfl : j = n := by omega
      have hf : Hid (res = c) := hid (HR.out.trans (by rw [if_neg (by omega)]; omega))
      have i1 : ¬ ((j : Int) < (j : Int)) := by omega
      have HNX := hid hnx
      clear hok ho hnx
      go_wp2
      go_ret
      exact ⟨ret_int hf.out.symm, HNX.out⟩

set_option maxHeartbeats 1000000 in
theorem szData_calls (w : World) (v : Value) (ds : List RelV) (left : Int) (h : IRelS w v ds) (hl : ds.length ≤ 9223372036854775807) (hr : ∀ j, FitRel (ds.getD j noRel)) (h1 : 0 ≤ left) (h2 : left ≤ 1048576) :
    Calls Tryz.prog 4 #[.agg #[v], .int .i64 left] w fun e w' => e = .returned (.int .i64 (if left < rtot ds ds.length then -1 else left - rtot ds ds.length)) ∧ Below w.heap.size w w' := by
  have HB : Hid (Below w.heap.size w (w.alloc (.cells #[v] 24))) := hid ((Below.refl _ _).alloc (Nat.le_refl _) _)
  have K := hid (szRelationS_calls (w.alloc (.cells #[v] 24)) v ds left (h.below HB.out) hl hr h1 h2)
  obtain ⟨a, cap, rfl, -⟩ := h
  clear hr
  by_cases hc : left < rtot ds ds.length
  · rw [if_pos hc] at K ⊢
    go_enter Tryz.func4, Tryz.ntmps4
    go_wp2_with fail
    refine K.out.mono ?_
    rintro e w2 ⟨rfl, hb⟩
    have HB2 := hid (bt HB.out hb)
    clear hb
    go_wp2
    go_ret
    exact ⟨rfl, HB2.out⟩
  · rw [if_neg hc] at K ⊢
    have n0 : ¬ (left - (rtot ds ds.length : Int) < 0) := by omega
    generalize left - (rtot ds ds.length : Int) = lf at *
    go_enter Tryz.func4, Tryz.ntmps4
    go_wp2_with fail
    refine K.out.mono ?_
    rintro e w2 ⟨rfl, hb⟩
    have HB2 := hid (bt HB.out hb)
    clear hb
    go_wp2
    go_ret
    exact ⟨rfl, HB2.out⟩

end Go.Proofs.YtegcpplkcahkhaaGreat
