import Derived.Test.YtnmcgbfhgmmcpaaW13
import Derived.Test.YtnmcgbfhgmmcpaaW17
/-
  impl's simplex.values.
-/
namespace Go.Proofs.Ytnmcgbfhgmmcpaa
open Go.RowKit

theorem Try.infoFr : (Try.prog.info? 80).map (fun i => (i.zero, i.size, i.bytes)) = some (some (.agg #[.int .i64 0, .int .i64 0]), 2, 16) := by kernel_rfl

/-- the value of unknown j, the first i lines looked at -/
def valF (C : Nat → Nat → Rat) (B : Nat → Nat) (n : Nat) : Nat → Nat → Rat
  | 0, _ => 0
  | i + 1, j => if B i = j then C i n else valF C B n i j

/-- u numbers in block g -/
structure FrAt (w : World) (g u : Nat) (f : Nat → Rat) : Prop where
  num : ∀ j, j < u → w.cell? ⟨g, j * 2, none⟩ = some (.int .i64 (f j).num)
  den : ∀ j, j < u → w.cell? ⟨g, j * 2 + 1, none⟩ = some (.int .i64 (f j).den)
  free : ∀ q, q < u * 2 → w.frozen? ⟨g, q, none⟩ = false

theorem FrAt.set {w : World} {g u : Nat} {f : Nat → Rat} (h : FrAt w g u f) {i : Nat} (hi : i < u) (q : Rat) :
    FrAt ((w.setCell ⟨g, i * 2, none⟩ (.int .i64 q.num)).setCell ⟨g, i * 2 + 1, none⟩ (.int .i64 q.den)) g u (fun j => if i = j then q else f j) where
  num j hj := by
    show _ = some (Value.int .i64 (if i = j then q else f j).num)
    by_cases e : i = j
    · subst e
      rw [if_pos rfl, World.cell?_setCell_other _ _ _ _ (by intro e; simp only [Addr.mk.injEq] at e; omega)]
      exact World.cell?_setCell_same _ _ _ (h.num i hi)
    · rw [if_neg e, World.cell?_setCell_other _ _ _ _ (by intro e; simp only [Addr.mk.injEq] at e; omega), World.cell?_setCell_other _ _ _ _ (by intro e; simp only [Addr.mk.injEq] at e; omega)]
      exact h.num j hj
  den j hj := by
    show _ = some (Value.int .i64 ((if i = j then q else f j).den : Nat))
    by_cases e : i = j
    · subst e
      rw [if_pos rfl]
      refine World.cell?_setCell_same _ _ _ (u := .int .i64 (f i).den) ?_
      rw [World.cell?_setCell_other _ _ _ _ (by intro e; simp only [Addr.mk.injEq] at e; omega)]
      exact h.den i hi
    · rw [if_neg e, World.cell?_setCell_other _ _ _ _ (by intro e; simp only [Addr.mk.injEq] at e; omega), World.cell?_setCell_other _ _ _ _ (by intro e; simp only [Addr.mk.injEq] at e; omega)]
      exact h.den j hj
  free q hq := by rw [World.frozen?_setCell, World.frozen?_setCell]; exact h.free q hq

theorem FrAt.drew {w : World} {g u : Nat} {f : Nat → Rat} (h : FrAt w g u f) : FrAt w.drew g u f := ⟨h.num, h.den, h.free⟩

theorem FrAt.below {w w' : World} {g u : Nat} {f : Nat → Rat} (h : FrAt w g u f) (hg : g < w.heap.size) (hb : Below w.heap.size w w') : FrAt w' g u f :=
  ⟨fun j hj => (hb.cell (p := ⟨g, j * 2, none⟩) hg).trans (h.num j hj), fun j hj => (hb.cell (p := ⟨g, j * 2 + 1, none⟩) hg).trans (h.den j hj), fun q hq => (hb.frozen (p := ⟨g, q, none⟩) hg).trans (h.free q hq)⟩

theorem made2 (n : Nat) (j : Nat) (h : j < n * 2) : (madeCells #[Value.int .i64 0, .int .i64 0] (n * 2)).toList[j]? = some (.int .i64 0) := by
  rw [Array.getElem?_toList]
  simp only [madeCells]
  rw [Array.getElem?_map, Array.getElem?_range, if_pos h]
  rcases Nat.mod_two_eq_zero_or_one j with e | e
  · simp [e]
  · simp [e]

set_option maxRecDepth 100000 in
set_option maxHeartbeats 4000000 in
theorem values_calls (w : World) (k m n u : Nat) (C : Nat → Nat → Rat) (B : Nat → Nat) (bar : Nat → Bool) (h : SxAt w k m n C B bar) (hu : u ≤ 1000) (hun : u ≤ n) :
    Calls Try.prog 91 #[.pointer (some ⟨k, 0, none⟩), .int .i64 u] w fun e w' => e = .returned (.slice (some ⟨w.heap.size, 0, none⟩) u u) ∧ FrAt w' w.heap.size u (valF C B n m) ∧ w.heap.size < w'.heap.size ∧ Below w.heap.size w w' := by
  obtain ⟨i0, hi, hz0, hz1, hz2⟩ := info_parts Try.infoFr
  have hm7 := h.lay.mle
  have hn19 := h.lay.nle
  have HS := hid h
  have hkl := h.lt
  clear h
  go_enter Try.func91, Try.ntmps91
  go_wp2_with (at_make; refine wpList_make_full _ rfl _ _ 78 rfl w.heap.size 80 i0 (.agg #[.int .i64 0, .int .i64 0]) 2 Try.underlying78 hi hz0 hz1 _ _ _ _ u rfl rfl rfl rfl ?b2 ?b3 (Nat.le_refl _) ?_)
  case b2 => rw [hz2]; omega
  case b3 => unfold maxLen; omega
  intro w0 hown0 hgrow0
  have hb0 : Below w.heap.size w w0 := (Below.refl _ _).grown hgrow0 (Nat.le_refl _) (fun j hj => by cases hj)
  have hlt0 : w.heap.size < w0.heap.size := (hown0.lt _ rfl).2
  have hF0 : (∀ q, q < u * 2 → w0.cell? ⟨w.heap.size, q, none⟩ = some (.int .i64 0)) ∧ ∀ q, w0.frozen? ⟨w.heap.size, q, none⟩ = false :=
    ⟨fun q hq => by rw [hown0.cellAt q hq]; exact made2 u q hq, fun q => hown0.frozenAt q⟩
  have HF0 := hid (And.intro hb0 (And.intro hlt0 hF0))
  clear hown0 hgrow0 hb0 hlt0 hF0
  go_wp2
  go_loopw [12] (fun t wr => ∃ j : Nat, j ≤ u ∧ t = .int .i64 j ∧ Hid (Below w.heap.size w wr ∧ w.heap.size < wr.heap.size ∧ (∀ q, q < u * 2 → ∃ z, wr.cell? ⟨w.heap.size, q, none⟩ = some (.int .i64 z)) ∧ (∀ q, wr.frozen? ⟨w.heap.size, q, none⟩ = false) ∧ ∀ i, i < j → wr.cell? ⟨w.heap.size, i * 2, none⟩ = some (.int .i64 0) ∧ wr.cell? ⟨w.heap.size, i * 2 + 1, none⟩ = some (.int .i64 1))) (fun t _ => u - (intOf t).toNat)
  case atStart => exact ⟨0, Nat.zero_le _, rfl, hid ⟨HF0.out.1, HF0.out.2.1, fun q hq => ⟨0, HF0.out.2.2.1 q hq⟩, HF0.out.2.2.2, fun i hi => by omega⟩⟩
  case round =>
    clear HF0
    obtain ⟨j, hj, rfl, hH⟩ := hrel
    obtain ⟨hnx, hlt, hany, hfr, hdone⟩ := hH.out
    by_cases hju : j < u
    · have i1 : (j : Int) < (u : Int) := by omega
      have HX := hid hH.out
      clear hH hnx hany hfr hdone
      go_wp2_with fail
      refine (numberI 0 _).mono ?_
      rintro e w2 ⟨rfl, hb⟩
      obtain ⟨z0, d0⟩ := HX.out.2.2.1 (j * 2) (by omega)
      obtain ⟨z1, d1⟩ := HX.out.2.2.1 (j * 2 + 1) (by omega)
      have c0 := (hb.cell (p := ⟨w.heap.size, j * 2, none⟩) hlt).trans d0
      have c1 := (hb.cell (p := ⟨w.heap.size, j * 2 + 1, none⟩) hlt).trans d1
      have f0 := (hb.frozen (p := ⟨w.heap.size, j * 2, none⟩) hlt).trans (HX.out.2.2.2.1 (j * 2))
      have f1 := (hb.frozen (p := ⟨w.heap.size, j * 2 + 1, none⟩) hlt).trans (HX.out.2.2.2.1 (j * 2 + 1))
      have HB := hid hb
      have hs2 := hb.size
      clear hb d0 d1
      go_wp2
      go_roundw
      case rel =>
        have ne : ∀ (X : World) (a b : Nat) (v : Value), a ≠ b → (X.setCell ⟨w.heap.size, b, none⟩ v).cell? ⟨w.heap.size, a, none⟩ = X.cell? ⟨w.heap.size, a, none⟩ := fun X a b v hab => World.cell?_setCell_other _ _ _ _ (by intro e2; simp only [Addr.mk.injEq] at e2; omega)
        refine ⟨j + 1, by omega, by go_num, hid ⟨((bt HX.out.1 HB.out).setCell (Nat.le_refl _) _).setCell (Nat.le_refl _) _, by simp [World.setCell]; omega, fun q hq => ?_, fun q => by rw [World.frozen?_setCell, World.frozen?_setCell]; exact (HB.out.frozen (p := ⟨w.heap.size, q, none⟩) hlt).trans (HX.out.2.2.2.1 q), fun i hi => ?_⟩⟩
        · obtain ⟨z, hz⟩ := HX.out.2.2.1 q hq
          have hz' := (HB.out.cell (p := ⟨w.heap.size, q, none⟩) hlt).trans hz
          by_cases e1 : q = j * 2 + 1
          · subst e1; exact ⟨_, World.cell?_setCell_same _ _ _ ((ne _ _ _ _ (by omega)).trans c1)⟩
          · by_cases e2 : q = j * 2
            · subst e2; exact ⟨_, (ne _ _ _ _ (by omega)).trans (World.cell?_setCell_same _ _ _ c0)⟩
            · exact ⟨z, (ne _ _ _ _ e1).trans ((ne _ _ _ _ e2).trans hz')⟩
        · by_cases e : i = j
          · subst e
            exact ⟨(ne _ _ _ _ (by omega)).trans (World.cell?_setCell_same _ _ _ c0), World.cell?_setCell_same _ _ _ ((ne _ _ _ _ (by omega)).trans c1)⟩
          · obtain ⟨h1, h2⟩ := HX.out.2.2.2.2 i (by omega)
            exact ⟨(ne _ _ _ _ (by omega)).trans ((ne _ _ _ _ (by omega)).trans ((HB.out.cell (p := ⟨w.heap.size, i * 2, none⟩) hlt).trans h1)), (ne _ _ _ _ (by omega)).trans ((ne _ _ _ _ (by omega)).trans ((HB.out.cell (p := ⟨w.heap.size, i * 2 + 1, none⟩) hlt).trans h2))⟩
      case measure => simp [intOf]; omega
    · obtain rfl : j = u := by omega
      have i1 : ¬ ((j : Int) < (j : Int)) := by omega
      have hsx := HS.out.below hnx
      have c0 : wr.cell? ⟨k, 0, none⟩ = some (.int .i64 m) := hsx.lay.rows
      have HFR : Hid (FrAt wr w.heap.size j (valF C B n 0)) := hid ⟨fun i hi => (hdone i hi).1, fun i hi => (hdone i hi).2, fun q _ => hfr q⟩
      have HNX := hid hnx
      clear hH hnx hany hfr hdone hsx
      go_wp2
      go_loopw [24] (fun t wr => ∃ i : Nat, i ≤ m ∧ t = .int .i64 i ∧ w.heap.size < wr.heap.size ∧ Hid (Below w.heap.size w wr ∧ FrAt wr w.heap.size j (valF C B n i))) (fun t _ => m - (intOf t).toNat)
      case atStart => exact ⟨0, Nat.zero_le _, rfl, hlt, hid ⟨HNX.out, HFR.out⟩⟩
      case round =>
        clear HNX HFR
        obtain ⟨i, him, rfl, hlt2, hH⟩ := hrel
        obtain ⟨hnx, hfr⟩ := hH.out
        by_cases hi2 : i < m
        · have i2 : (i : Int) < (m : Int) := by omega
          have i8 : (i : Int) < 8 := by omega
          have i20 : (n : Int) < 20 := by omega
          have hsx := HS.out.below hnx
          have b1 : wr.cell? ⟨k, 322 + i, none⟩ = some (.int .i64 (B i : Nat)) := hsx.lay.bas i hi2
          have b2 : wr.cell? ⟨k, 1, none⟩ = some (.int .i64 n) := hsx.lay.cols
          have b3 : wr.cell? ⟨k, 2 + i * 40 + n * 2, none⟩ = some (.int .i64 (C i n).num) := hsx.lay.num i n (by omega) (Nat.le_refl _)
          have b4 : wr.cell? ⟨k, 2 + i * 40 + n * 2 + 1, none⟩ = some (.int .i64 (C i n).den) := hsx.lay.den i n (by omega) (Nat.le_refl _)
          have HFR := hid hfr
          have HNX := hid hnx
          clear hH hnx hfr hsx
          by_cases hB : B i < j
          · have i3 : (B i : Int) < (j : Int) := by omega
            have c1 := HFR.out.num (B i) hB
            have c2 := HFR.out.den (B i) hB
            have f1 := HFR.out.free (B i * 2) (by omega)
            have f2 := HFR.out.free (B i * 2 + 1) (by omega)
            go_wp2_with fail
            go_region
            go_wp2
            go_roundw
            case rel => exact ⟨i + 1, by omega, by go_num, by simpa [World.setCell] using hlt2, hid ⟨((HNX.out.setCell (Nat.le_refl _) _).setCell (Nat.le_refl _) _).drew, FrAt.drew (HFR.out.set hB (C i n))⟩⟩
            case measure => simp [intOf]; omega
          · have i3 : ¬ ((B i : Int) < (j : Int)) := by omega
            go_wp2
            go_roundw
            case rel => exact ⟨i + 1, by omega, by go_num, hlt2, hid ⟨HNX.out, ⟨fun q hq => by rw [show valF C B n (i + 1) q = valF C B n i q from if_neg (by omega)]; exact HFR.out.num q hq, fun q hq => by rw [show valF C B n (i + 1) q = valF C B n i q from if_neg (by omega)]; exact HFR.out.den q hq, HFR.out.free⟩⟩⟩
            case measure => simp [intOf]; omega
        · obtain rfl : i = m := by omega
          have i2 : ¬ ((i : Int) < (i : Int)) := by omega
          have HFR := hid hfr
          have HNX := hid hnx
          clear hH hnx hfr
          go_wp2
          go_ret
          exact ⟨rfl, HFR.out, hlt2, HNX.out⟩

end Go.Proofs.Ytnmcgbfhgmmcpaa
