import Derived.Test.YtnbbbbfamlmfpaaGreatJn08
import Derived.Test.YtnbbbbfamlmfpaaGreatJn12
import Derived.Test.YtnbbbbfamlmfpaaGreatJn24
import Derived.Test.YtnbbbbfamlmfpaaGreatJn36
/-
  impl: areTables.
-/
namespace Go.Proofs.YtnbbbbfamlmfpaaGreat
open Go.RowKit Meet

set_option maxHeartbeats 2000000 in
set_option maxRecDepth 1000000 in
theorem areTables_calls (w : World) (vt : Value) (tl : List TbV) (h : ITs w vt tl) (hl : tl.length ≤ 1099511627776) (hs : ∀ t ∈ tl, TvS t) :
    Calls Tryz.prog 22 #[vt] w fun e w' => e = .returned (.bool (tl.all tabJ)) ∧ Below w.heap.size w w' := by
  obtain ⟨at', ct, rfl, hc⟩ := h
  have HC : Hid (∀ W, Below w.heap.size w W → ∀ j, j < tl.length → ∃ b oo, at' = some ⟨b, oo, none⟩ ∧ TabAt W b (oo + j * 3) (tl.getD j noTv)) := hid fun W hW j hj => by
    rcases hc with h0 | ⟨b, oo, rfl, h⟩
    · omega
    · exact ⟨b, oo, rfl, (h j hj).below hW⟩
  have HR : Hid (∀ j, j < tl.length → TvS (tl.getD j noTv)) := hid fun j hj => hs _ (by rw [List.getD_eq_getElem?_getD, List.getElem?_eq_getElem hj]; exact List.getElem_mem _)
  obtain ⟨res, hres⟩ : ∃ r, r = tl.all tabJ := ⟨_, rfl⟩
  have HA : Hid (∀ j, j < tl.length → tabJ (tl.getD j noTv) = false → res = false) := hid fun j hj e => by
    rw [hres, List.all_eq_false]
    exact ⟨_, by rw [List.getD_eq_getElem?_getD, List.getElem?_eq_getElem hj] at e; exact List.getElem_mem hj, by rw [List.getD_eq_getElem?_getD, List.getElem?_eq_getElem hj] at e; simp only [Option.getD_some] at e; rw [e]; simp⟩
  have HAll : Hid ((∀ i, i < tl.length → tabJ (tl.getD i noTv) = true) → res = true) := hid fun h => by
    rw [hres, List.all_eq_true]
    intro t ht
    obtain ⟨i, hi, rfl⟩ := List.getElem_of_mem ht
    have := h i hi
    rw [List.getD_eq_getElem?_getD, List.getElem?_eq_getElem hi] at this
    exact this
  rw [← hres]
  clear hres hs
  obtain ⟨n, hn⟩ : ∃ n, n = tl.length := ⟨_, rfl⟩
  rw [← hn] at hl HC HR HA HAll ⊢
  clear hn hc
  go_enter Tryz.func22, Tryz.ntmps22
  go_wp2_with fail
  go_loopw [7] (fun t wr => ∃ (j : Nat), j ≤ n ∧ t = .int .i64 j ∧ Hid ((∀ i, i < j → tabJ (tl.getD i noTv) = true) ∧ Below w.heap.size w wr)) (fun t _ => n - (intOf t).toNat)
  case atStart => exact ⟨0, Nat.zero_le _, rfl, hid ⟨fun i hi => by omega, Below.refl _ _⟩⟩
  case round =>
    obtain ⟨j, hjn, rfl, HT⟩ := hrel
    by_cases hlt : j < n
    · have i1 : (j : Int) < (n : Int) := by omega
      obtain ⟨b, oo, ea, v0, v1, v2, c0, c1, c2, hI⟩ := HC.out wr HT.out.2 j hlt
      subst ea
      have HTs := hid (HR.out j hlt)
      have HAj := hid (HA.out j hlt)
      obtain ⟨W3, hW3⟩ : ∃ W3, W3 = wr.alloc (.cells #[v0, v1, v2] 41) := ⟨_, rfl⟩
      have hB3 : Below wr.heap.size wr W3 := by rw [hW3]; exact (Below.refl _ _).alloc (Nat.le_refl _) _
      have HX3 : Hid (TX W3 wr.heap.size v0 v1 v2) := hid (by rw [hW3]; exact TX.made _ _ _ _)
      have KT := hid (tableOK_calls W3 v0 v1 v2 _ _ _ (hI.below hB3) HTs.out.vs HTs.out.rows)
      have HB3 := hid (bt HT.out.2 hB3)
      have HP := hid HT.out.1
      obtain ⟨a0, k0, e0, -⟩ := hI.vs
      obtain ⟨a1, k1, e1, -⟩ := hI.rows
      obtain ⟨a2, k2, e2, -⟩ := hI.ws
      subst e0 e1 e2
      have ey : tableB (tl.getD j noTv).vs (tl.getD j noTv).rows (tl.getD j noTv).ws = tabJ (tl.getD j noTv) := rfl
      rw [ey] at KT
      have HPj : Hid (tabJ (tl.getD j noTv) = true → ∀ i, i < j + 1 → tabJ (tl.getD i noTv) = true) := hid fun hy i hi => by
        by_cases e : i = j
        · rw [e]; exact hy
        · exact HP.out i (by omega)
      generalize tabJ (tl.getD j noTv) = y at KT HAj HPj
      generalize (tl.getD j noTv).rows.length = nr at *
      generalize (tl.getD j noTv).vs.length = n0 at *
      generalize (tl.getD j noTv).ws.length = n2 at *
      clear hB3 hI HT ey HTs
      have d0 := HX3.out.c0
      have d1 := HX3.out.c1
      have d2 := HX3.out.c2
      go_upto_region 4 with fail
      rw [← hW3]
      clear hW3 c0 c1 c2
      cases y
      · have HNo := hid (HAj.out rfl)
        go_wp2_with (first | (go_at_call 36; refine KT.out.mono ?_; rintro e w4 ⟨rfl, hb4⟩) | fail)
        go_ret
        exact ⟨by rw [HNo.out]; rfl, bt HB3.out hb4⟩
      · go_wp2_with (first | (go_at_call 36; refine KT.out.mono ?_; rintro e w4 ⟨rfl, hb4⟩) | fail)
        have HN : Hid ((∀ i, i < j + 1 → tabJ (tl.getD i noTv) = true) ∧ Below w.heap.size w w4) := hid ⟨HPj.out (by trivial), bt HB3.out hb4⟩
        clear hb4 KT
        go_roundw
        case rel => exact ⟨j + 1, by omega, by go_num, HN⟩
        case measure => simp [intOf]; omega
    · obtain rfl : j = n := by omega
      have i1 : ¬ ((j : Int) < (j : Int)) := by omega
      have HY := hid (HAll.out HT.out.1)
      go_wp2_with fail
      go_ret
      exact ⟨by rw [HY.out]; rfl, HT.out.2⟩

end Go.Proofs.YtnbbbbfamlmfpaaGreat

/-
  laws.toTableS: a copy of tables.
-/
namespace Go.Proofs.YtnbbbbfamlmfpaaGreat
open Go.RowKit Meet

theorem Tryz.infoTb : (Tryz.prog.info? 41).map (fun i => (i.zero, i.size, i.bytes)) = some (some (.agg #[.slice none 0 0, .slice none 0 0, .slice none 0 0]), 3, 72) := by kernel_rfl

theorem OwnT.keep {w w' : World} {B g0 g1 g2 : Nat} {vs ws : List Int} {rows : List (List Int)} {f : Nat → Nat} (h : OwnT w B g0 g1 g2 vs rows ws f) (hb : ∀ q, B ≤ q → q < w.heap.size → w'.heap[q]? = w.heap[q]?) (hs : w.heap.size ≤ w'.heap.size) : OwnT w' B g0 g1 g2 vs rows ws f := by
  have h0 := h.lt0
  have h1 := h.lt1
  have h3 := h.lt3
  have hg2 := h.wt.lt
  exact ⟨h.vr.move (hb _ h0 (by omega)) hs, h.rw.move (hb _ (by omega) (by omega)) (fun i hi => hb _ (by have := h.rw.gt i hi; omega) (h.rw.own i hi).lt) hs, h.wt.move (hb _ (by omega) hg2) hs, h.lt0, h.lt1, h.lt2, h.lt3⟩
theorem OwnT.base {w : World} {B B' g0 g1 g2 : Nat} {vs ws : List Int} {rows : List (List Int)} {f : Nat → Nat} (h : OwnT w B g0 g1 g2 vs rows ws f) (hB : B' ≤ B) : OwnT w B' g0 g1 g2 vs rows ws f := ⟨h.vr, h.rw, h.wt, Nat.le_trans hB h.lt0, h.lt1, h.lt2, h.lt3⟩
/-- table i of the copy in block g -/
def TbCopy (W : World) (g i : Nat) (t : TbV) : Prop := ∃ g0 g1 g2 f, W.cell? ⟨g, i * 3, none⟩ = some (.slice (some ⟨g0, 0, none⟩) t.vs.length t.vs.length) ∧ W.cell? ⟨g, i * 3 + 1, none⟩ = some (.slice (some ⟨g1, 0, none⟩) t.rows.length t.rows.length) ∧ W.cell? ⟨g, i * 3 + 2, none⟩ = some (.slice (some ⟨g2, 0, none⟩) t.ws.length t.ws.length) ∧ OwnT W (g + 1) g0 g1 g2 t.vs t.rows t.ws f
theorem TbCopy.below {W W' : World} {g i : Nat} {t : TbV} (h : TbCopy W g i t) (hb : Below W.heap.size W W') : TbCopy W' g i t := by
  obtain ⟨g0, g1, g2, f, h0, h1, h2, h3⟩ := h
  exact ⟨g0, g1, g2, f, bclT hb h0, bclT hb h1, bclT hb h2, h3.below hb⟩
theorem TbCopy.set {W : World} {g i q : Nat} {t : TbV} {v : Value} (h : TbCopy W g i t) (hq : q < i * 3 ∨ i * 3 + 2 < q) : TbCopy (W.setCell ⟨g, q, none⟩ v) g i t := by
  obtain ⟨g0, g1, g2, f, h0, h1, h2, h3⟩ := h
  exact ⟨g0, g1, g2, f, (World.cell?_setCell_other _ _ _ _ (by intro e; simp only [Addr.mk.injEq] at e; omega)).trans h0, (World.cell?_setCell_other _ _ _ _ (by intro e; simp only [Addr.mk.injEq] at e; omega)).trans h1, (World.cell?_setCell_other _ _ _ _ (by intro e; simp only [Addr.mk.injEq] at e; omega)).trans h2,
    h3.keep (fun k hk _ => Below.heap_setCell _ _ _ _ (by show k ≠ g; omega)) (by simp [World.setCell])⟩
/-- the first j of n tables have been laid -/
structure HalfT (W : World) (g n j : Nat) (tl : List TbV) : Prop where
  any : ∀ q, q < n * 3 → ∃ u, W.cell? ⟨g, q, none⟩ = some u
  free : ∀ q, q < n * 3 → W.frozen? ⟨g, q, none⟩ = false
  copy : ∀ i, i < j → TbCopy W g i (tl.getD i noTv)
theorem HalfT.below {W W' : World} {g n j : Nat} {tl : List TbV} (h : HalfT W g n j tl) (hg : g < W.heap.size) (hb : Below W.heap.size W W') : HalfT W' g n j tl :=
  ⟨fun q hq => by obtain ⟨u, hu⟩ := h.any q hq; exact ⟨u, bclT hb hu⟩, fun q hq => (hb.frozen (p := ⟨g, q, none⟩) hg).trans (h.free q hq), fun i hi => (h.copy i hi).below hb⟩
theorem cell_set_anyT {W : World} {g q q' : Nat} {v : Value} (h : ∃ u, W.cell? ⟨g, q, none⟩ = some u) : ∃ u, (W.setCell ⟨g, q', none⟩ v).cell? ⟨g, q, none⟩ = some u := by
  obtain ⟨u, hu⟩ := h
  by_cases e : q = q'
  · subst e; exact ⟨v, World.cell?_setCell_same _ _ _ hu⟩
  · exact ⟨u, (World.cell?_setCell_other _ _ _ _ (by intro e2; simp only [Addr.mk.injEq] at e2; omega)).trans hu⟩
theorem HalfT.step {W : World} {g n j : Nat} {tl : List TbV} {g0 g1 g2 : Nat} {f : Nat → Nat} (h : HalfT W g n j tl) (hj : j < n) (ho : OwnT W (g + 1) g0 g1 g2 (tl.getD j noTv).vs (tl.getD j noTv).rows (tl.getD j noTv).ws f) :
    HalfT (((W.setCell ⟨g, j * 3, none⟩ (.slice (some ⟨g0, 0, none⟩) (tl.getD j noTv).vs.length (tl.getD j noTv).vs.length)).setCell ⟨g, j * 3 + 1, none⟩ (.slice (some ⟨g1, 0, none⟩) (tl.getD j noTv).rows.length (tl.getD j noTv).rows.length)).setCell ⟨g, j * 3 + 2, none⟩ (.slice (some ⟨g2, 0, none⟩) (tl.getD j noTv).ws.length (tl.getD j noTv).ws.length)) g n (j + 1) tl where
  any q hq := cell_set_anyT (cell_set_anyT (cell_set_anyT (h.any q hq)))
  free q hq := by rw [World.frozen?_setCell, World.frozen?_setCell, World.frozen?_setCell]; exact h.free q hq
  copy i hi := by
    by_cases e : i = j
    · subst e
      obtain ⟨u0, c0⟩ := h.any (i * 3) (by omega)
      obtain ⟨u1, c1⟩ := h.any (i * 3 + 1) (by omega)
      obtain ⟨u2, c2⟩ := h.any (i * 3 + 2) (by omega)
      have ne : ∀ (X : World) (a b : Nat) (v : Value), a ≠ b → (X.setCell ⟨g, b, none⟩ v).cell? ⟨g, a, none⟩ = X.cell? ⟨g, a, none⟩ := fun X a b v hab => World.cell?_setCell_other _ _ _ _ (by intro e2; simp only [Addr.mk.injEq] at e2; omega)
      have kp : ∀ (X : World) (q : Nat) (v : Value), OwnT X (g + 1) g0 g1 g2 (tl.getD i noTv).vs (tl.getD i noTv).rows (tl.getD i noTv).ws f → OwnT (X.setCell ⟨g, q, none⟩ v) (g + 1) g0 g1 g2 (tl.getD i noTv).vs (tl.getD i noTv).rows (tl.getD i noTv).ws f := fun X q v hX => hX.keep (fun k hk _ => Below.heap_setCell _ _ _ _ (by show k ≠ g; omega)) (by simp [World.setCell])
      refine ⟨g0, g1, g2, f, ?_, ?_, ?_, kp _ _ _ (kp _ _ _ (kp _ _ _ ho))⟩
      · rw [ne _ _ _ _ (by omega), ne _ _ _ _ (by omega)]; exact World.cell?_setCell_same _ _ _ c0
      · rw [ne _ _ _ _ (by omega)]; exact World.cell?_setCell_same _ _ _ ((ne _ _ _ _ (by omega)).trans c1)
      · exact World.cell?_setCell_same _ _ _ ((ne _ _ _ _ (by omega)).trans ((ne _ _ _ _ (by omega)).trans c2))
    · exact (((h.copy i (by omega)).set (by omega)).set (by omega)).set (by omega)

set_option maxHeartbeats 2000000 in
set_option maxRecDepth 1000000 in
theorem toTableS_calls (w : World) (v : Value) (tl : List TbV) (h : ITs w v tl) (hl : tl.length ≤ 1048576) (hs : ∀ t ∈ tl, TvS t) :
    Calls Tryz.prog 6 #[v] w fun e w' => e = .returned (.slice (some ⟨w.heap.size, 0, none⟩) tl.length tl.length) ∧ HalfT w' w.heap.size tl.length tl.length tl ∧ w.heap.size < w'.heap.size ∧ Below w.heap.size w w' := by
  obtain ⟨i0, hi, hz0, hz1, hz2⟩ := info_parts Tryz.infoTb
  obtain ⟨at', ct, rfl, hc⟩ := h
  have HC : Hid (∀ W, Below w.heap.size w W → ∀ j, j < tl.length → ∃ b oo, at' = some ⟨b, oo, none⟩ ∧ TabAt W b (oo + j * 3) (tl.getD j noTv)) := hid fun W hW j hj => by
    rcases hc with h0 | ⟨b, oo, rfl, h⟩
    · omega
    · exact ⟨b, oo, rfl, (h j hj).below hW⟩
  have HR : Hid (∀ j, j < tl.length → TvS (tl.getD j noTv)) := hid fun j hj => hs _ (by rw [List.getD_eq_getElem?_getD, List.getElem?_eq_getElem hj]; exact List.getElem_mem _)
  obtain ⟨n, hn⟩ : ∃ n, n = tl.length := ⟨_, rfl⟩
  rw [← hn] at hl HC HR ⊢
  clear hn hc hs
  go_enter Tryz.func6, Tryz.ntmps6
  go_wp2_with (at_make; refine wpList_make_full _ rfl _ _ 28 rfl w.heap.size 41 i0 (.agg #[.slice none 0 0, .slice none 0 0, .slice none 0 0]) 3 Tryz.underlying28 hi hz0 hz1 _ _ _ _ n rfl rfl rfl rfl ?b2 ?b3 (Nat.le_refl _) ?_)
  case b2 => rw [hz2]; omega
  case b3 => unfold maxLen; omega
  intro w0 hown0 hgrow0
  have hb0 : Below w.heap.size w w0 := (Below.refl _ _).grown hgrow0 (Nat.le_refl _) (fun j hj => by cases hj)
  have hlt0 : w.heap.size < w0.heap.size := (hown0.lt _ rfl).2
  have hH0 : HalfT w0 w.heap.size n 0 tl := ⟨fun q hq => by
      rw [hown0.cellAt q hq]
      exact ⟨_, List.getElem?_eq_getElem (by rw [hown0.1]; exact hq)⟩, fun q _ => hown0.frozenAt q, fun i hi => by omega⟩
  have HH0 := hid (And.intro hb0 (And.intro hlt0 hH0))
  clear hown0 hgrow0 hb0 hlt0 hH0
  go_wp2
  go_loopw [4] (fun t wr => ∃ j : Nat, j ≤ n ∧ t = .int .i64 j ∧ Hid (Below w.heap.size w wr ∧ w.heap.size < wr.heap.size ∧ HalfT wr w.heap.size n j tl)) (fun t _ => n - (intOf t).toNat)
  case atStart => exact ⟨0, Nat.zero_le _, rfl, HH0⟩
  case round =>
    clear HH0
    obtain ⟨j, hj, rfl, hH⟩ := hrel
    obtain ⟨hnx, hlt, hhr⟩ := hH.out
    by_cases hjn : j < n
    · have i1 : (j : Int) < (n : Int) := by omega
      obtain ⟨b, oo, ea, v0, v1, v2, c0, c1, c2, hI⟩ := HC.out wr hnx j hjn
      subst ea
      have HTs := hid (HR.out j hjn)
      have K1 := hid (toTable_calls wr v0 v1 v2 _ _ _ hI HTs.out.vs HTs.out.rows HTs.out.ws)
      have HNX := hid hnx
      have HHR := hid hhr
      obtain ⟨a0, k0, e0, -⟩ := hI.vs
      obtain ⟨a1, k1, e1, -⟩ := hI.rows
      obtain ⟨a2, k2, e2, -⟩ := hI.ws
      subst e0 e1 e2
      have HST : Hid (∀ W g0 g1 g2 f, Below wr.heap.size wr W → OwnT W wr.heap.size g0 g1 g2 (tl.getD j noTv).vs (tl.getD j noTv).rows (tl.getD j noTv).ws f → HalfT (((W.setCell ⟨w.heap.size, j * 3, none⟩ (.slice (some ⟨g0, 0, none⟩) (tl.getD j noTv).vs.length (tl.getD j noTv).vs.length)).setCell ⟨w.heap.size, j * 3 + 1, none⟩ (.slice (some ⟨g1, 0, none⟩) (tl.getD j noTv).rows.length (tl.getD j noTv).rows.length)).setCell ⟨w.heap.size, j * 3 + 2, none⟩ (.slice (some ⟨g2, 0, none⟩) (tl.getD j noTv).ws.length (tl.getD j noTv).ws.length)) w.heap.size n (j + 1) tl) := hid (fun W g0 g1 g2 f hb ho =>
        (HHR.out.below hlt hb).step hjn (ho.base (by omega)))
      clear hH hnx hhr hI HC HTs
      generalize (tl.getD j noTv).rows.length = nr at *
      generalize (tl.getD j noTv).vs.length = n0 at *
      generalize (tl.getD j noTv).ws.length = n2 at *
      go_wp2_with fail
      refine K1.out.mono ?_
      rintro e w2 ⟨g0, g1, g2, f, rfl, ho, hb⟩
      have hHR2 := HHR.out.below hlt hb
      obtain ⟨u0, d0⟩ := hHR2.any (j * 3) (by omega)
      obtain ⟨u1, d1⟩ := hHR2.any (j * 3 + 1) (by omega)
      obtain ⟨u2, d2⟩ := hHR2.any (j * 3 + 2) (by omega)
      have f0 := hHR2.free (j * 3) (by omega)
      have f1 := hHR2.free (j * 3 + 1) (by omega)
      have f2 := hHR2.free (j * 3 + 2) (by omega)
      have HF := hid (HST.out w2 g0 g1 g2 f hb ho)
      have HB2 := hid (bt HNX.out hb)
      have hs2 := hb.size
      clear hHR2 hb HST K1 ho
      go_wp2
      go_roundw
      case rel => exact ⟨j + 1, by omega, by go_num, hid ⟨((HB2.out.setCell (Nat.le_refl _) _).setCell (Nat.le_refl _) _).setCell (Nat.le_refl _) _, by simp [World.setCell]; omega, HF.out⟩⟩
      case measure => simp [intOf]; omega
    · obtain rfl : j = n := by omega
      have i1 : ¬ ((j : Int) < (j : Int)) := by omega
      have HX := hid (And.intro hhr (And.intro hlt hnx))
      clear hH hnx hhr
      go_wp2
      go_ret
      exact ⟨rfl, HX.out⟩

end Go.Proofs.YtnbbbbfamlmfpaaGreat

/-
  laws.markTableS on a copy.
-/
namespace Go.Proofs.YtnbbbbfamlmfpaaGreat
open Go.RowKit Meet

/-- a table's lists -/
structure ShTb (lo hi : Nat) (W : World) (g i : Nat) (t : TbV) : Prop where
  vs : ∃ c, W.cell? ⟨g, i * 3, none⟩ = some (.slice (some ⟨c, 0, none⟩) t.vs.length t.vs.length) ∧ ShI lo hi W c t.vs.length
  rows : ∃ G, W.cell? ⟨g, i * 3 + 1, none⟩ = some (.slice (some ⟨G, 0, none⟩) t.rows.length t.rows.length) ∧ ShSS lo hi W G t.rows.length (fun j => (t.rows.getD j []).length)
  ws : ∃ c, W.cell? ⟨g, i * 3 + 2, none⟩ = some (.slice (some ⟨c, 0, none⟩) t.ws.length t.ws.length) ∧ ShI lo hi W c t.ws.length
theorem ShTb.kp {lo hi : Nat} {W W' : World} {g i : Nat} {t : TbV} (h : ShTb lo hi W g i t) (k : Mk lo hi W W') : ShTb lo hi W' g i t := by
  obtain ⟨c0, e0, h0⟩ := h.vs
  obtain ⟨G, e1, h1⟩ := h.rows
  obtain ⟨c2, e2, h2⟩ := h.ws
  exact ⟨⟨c0, k.sl _ _ _ _ _ e0, h0.kp k⟩, ⟨G, k.sl _ _ _ _ _ e1, h1.kp k⟩, ⟨c2, k.sl _ _ _ _ _ e2, h2.kp k⟩⟩
def ShTs (lo hi : Nat) (W : World) (g : Nat) (tl : List TbV) : Prop := ∀ i, i < tl.length → ShTb lo hi W g i (tl.getD i noTv)
theorem HalfT.sh {W : World} {g : Nat} {tl : List TbV} (h : HalfT W g tl.length tl.length tl) : ShTs g W.heap.size W g tl := fun i hi => by
  obtain ⟨g0, g1, g2, f, c0, c1, c2, ho⟩ := h.copy i hi
  have h0 := ho.lt0
  have h1 := ho.lt1
  have h3 := ho.lt3
  refine ⟨⟨g0, c0, ho.vr.sh (by omega) ho.vr.lt⟩, ⟨g1, c1, fun j hj => ?_⟩, ⟨g2, c2, ho.wt.sh (by omega) ho.wt.lt⟩⟩
  have e := ho.rw.cell j hj
  rw [if_pos hj] at e
  have hg := ho.rw.gt j hj
  exact ⟨f j, e, (ho.rw.own j hj).sh (by omega) (ho.rw.own j hj).lt⟩
theorem HalfT.its {W : World} {g : Nat} {tl : List TbV} {c : Nat} (h : HalfT W g tl.length tl.length tl) : ITs W (.slice (some ⟨g, 0, none⟩) tl.length c) tl := by
  refine ⟨_, _, rfl, Or.inr ⟨g, 0, rfl, fun j hj => ?_⟩⟩
  obtain ⟨g0, g1, g2, f, c0, c1, c2, ho⟩ := h.copy j hj
  rw [Nat.zero_add]
  exact ⟨_, _, _, c0, c1, c2, ho.it⟩

set_option maxHeartbeats 4000000 in
set_option maxRecDepth 1000000 in
theorem markTableS_mk (w : World) (lo hi g cap : Nat) (tl : List TbV) (h : ShTs lo hi w g tl) (hn : tl.length + sumB tl ≤ 1048576) :
    Calls Tryz.prog 12 #[.slice (some ⟨g, 0, none⟩) tl.length cap, .int .i64 1] w fun e w' => ∃ z : Nat, e = .returned (.int .i64 (z : Int)) ∧ z ≤ 1048577 ∧ Mk lo hi w w' := by
  have HS : Hid (∀ wr, Mk lo hi w wr → ∀ i, i < tl.length → ShTb lo hi wr g i (tl.getD i noTv)) := hid fun wr hm i hi => (h i hi).kp hm
  have HSu : Hid (∀ j, j < tl.length → sumB (tl.take (j + 1)) = sumB (tl.take j) + szB (tl.getD j noTv)) := hid fun j hj => by
    unfold sumB
    rw [List.take_add_one, List.getElem?_eq_getElem hj, List.map_append, List.sum_append, List.getD_eq_getElem?_getD, List.getElem?_eq_getElem hj]
    simp
  have HSn : Hid (∀ j, j ≤ tl.length → sumB (tl.take j) ≤ sumB tl) := hid fun j _ => by
    have : sumB tl = sumB (tl.take j) + sumB (tl.drop j) := by
      unfold sumB
      rw [← List.sum_append, ← List.map_append, List.take_append_drop]
    omega
  have HZ : Hid (∀ t : TbV, szB t = t.vs.length + (t.rows.length + sumN (fun j => (t.rows.getD j []).length) t.rows.length) + t.ws.length) := hid fun t => by unfold szB; rw [sumN_tot t.rows t.rows.length (Nat.le_refl _)]
  obtain ⟨n, hn'⟩ : ∃ n, n = tl.length := ⟨_, rfl⟩
  rw [← hn'] at HS HSu HSn hn ⊢
  clear hn' h
  go_enter Tryz.func12, Tryz.ntmps12
  go_wp2_with fail
  go_loopw [1, 5] (fun u t wr => ∃ (j c : Nat), j ≤ n ∧ t = .int .i64 j ∧ u = .int .i64 (c : Int) ∧ c ≤ 1 + sumB (tl.take j) ∧ Hid (Mk lo hi w wr)) (fun _ t _ => n - (intOf t).toNat)
  case atStart => exact ⟨0, 1, Nat.zero_le _, rfl, rfl, by omega, hid (Mk.refl _ _ _)⟩
  case round =>
    obtain ⟨j, c, hj, rfl, rfl, hc, HM⟩ := hrel
    have hsj := HSn.out j hj
    by_cases hjn : j < n
    · have i1 : (j : Int) < (n : Int) := by omega
      have hS := HS.out wr HM.out j hjn
      have hsu := HSu.out j hjn
      have hsn1 := HSn.out (j + 1) hjn
      have hz := HZ.out (tl.getD j noTv)
      obtain ⟨b0, c0, s0⟩ := hS.vs
      have HSj : Hid (∀ W, Mk lo hi wr W → ShTb lo hi W g j (tl.getD j noTv)) := hid fun W hm => hS.kp hm
      generalize tl.getD j noTv = tb at *
      have K0 := hid (markIntS_mk wr lo hi b0 tb.vs.length tb.vs.length c s0 (by omega) (by omega))
      obtain ⟨L1, hL1⟩ : ∃ L1, L1 = c + tb.vs.length := ⟨_, rfl⟩
      obtain ⟨L2, hL2⟩ : ∃ L2, L2 = L1 + sumN (fun j => (tb.rows.getD j []).length) tb.rows.length := ⟨_, rfl⟩
      obtain ⟨L3, hL3⟩ : ∃ L3, L3 = L2 + tb.ws.length := ⟨_, rfl⟩
      rw [← hL1] at K0
      have KR : Hid (∀ W, Mk lo hi wr W → ∃ G, W.cell? ⟨g, j * 3 + 1, none⟩ = some (.slice (some ⟨G, 0, none⟩) tb.rows.length tb.rows.length) ∧ Calls Tryz.prog 14 #[.slice (some ⟨G, 0, none⟩) tb.rows.length tb.rows.length, .int .i64 (L1 : Int)] W fun e w' => e = .returned (.int .i64 (L2 : Int)) ∧ Mk lo hi W w') := hid fun W hm => by
        obtain ⟨G, h1, h2⟩ := (HSj.out W hm).rows
        refine ⟨G, h1, ?_⟩
        have := markIntSS_mk W lo hi G tb.rows.length tb.rows.length L1 _ h2 (by omega) (by omega) (by omega)
        rw [← hL2] at this
        exact this
      have KW : Hid (∀ W, Mk lo hi wr W → ∃ G, W.cell? ⟨g, j * 3 + 2, none⟩ = some (.slice (some ⟨G, 0, none⟩) tb.ws.length tb.ws.length) ∧ Calls Tryz.prog 13 #[.slice (some ⟨G, 0, none⟩) tb.ws.length tb.ws.length, .int .i64 (L2 : Int)] W fun e w' => e = .returned (.int .i64 (L3 : Int)) ∧ Mk lo hi W w') := hid fun W hm => by
        obtain ⟨G, h1, h2⟩ := (HSj.out W hm).ws
        refine ⟨G, h1, ?_⟩
        have := markIntS_mk W lo hi G tb.ws.length tb.ws.length L2 h2 (by omega) (by omega)
        rw [← hL3] at this
        exact this
      have hL3n : L3 ≤ 1 + sumB (tl.take (j + 1)) := by omega
      clear s0 hS hL1 hL2 hL3 hz HSj
      generalize tb.vs.length = n0 at *
      generalize tb.rows.length = nr at *
      generalize tb.ws.length = n2 at *
      go_wp2_with (first
        | (go_at_call 13; refine K2.mono ?_; rintro e w4 ⟨rfl, hm4'⟩; have HM4 := hid (HM.out.trans (hm3.trans hm4')))
        | (go_at_call 14; refine K1.mono ?_; rintro e w3 ⟨rfl, hm3'⟩; have hm3 := hm2.trans hm3'; obtain ⟨G2, d2, K2⟩ := KW.out w3 hm3)
        | (go_at_call 13; refine K0.out.mono ?_; rintro e w2 ⟨rfl, hm2⟩; obtain ⟨G1, d1, K1⟩ := KR.out w2 hm2)
        | fail)
      clear hm2 hm3 hm3' hm4' K1 K2 K0 KR KW
      go_roundw
      case rel => exact ⟨j + 1, L3, by omega, by go_num, rfl, hL3n, HM4⟩
      case measure => simp [intOf]; omega
    · obtain rfl : j = n := by omega
      have i1 : ¬ ((j : Int) < (j : Int)) := by omega
      go_wp2
      go_ret
      exact ⟨c, rfl, by omega, HM.out⟩

end Go.Proofs.YtnbbbbfamlmfpaaGreat
