import Derived.Deep.RegionHeld3
import Derived.Test.YtegcpplkcahkhaaGreatB13
import Derived.Test.YtegcpplkcahkhaaGreatB14
/-
  laws.eqRelation, eqRelationS, eqData; laws.FnExactDataOK, walked.
-/
namespace Go.Proofs.YtegcpplkcahkhaaGreat
open Go.RowKit

set_option maxHeartbeats 2000000 in
set_option maxRecDepth 1000000 in
theorem eqRelation_same (w : World) (vr vw ur uw : Value) (r : RelV) (h : IRel w vr vw r) (h' : IRel w ur uw r) (hr : OkRel r) :
    Calls Tryz.prog 66 #[.agg #[.string r.name, .int .i64 r.ar, vr, vw], .agg #[.string r.name, .int .i64 r.ar, ur, uw]] w fun e w' => e = .returned (.bool true) ∧ Below w.heap.size w w' := by
  have HB : Hid (Below w.heap.size w ((w.alloc (.cells #[.string r.name, .int .i64 r.ar, vr, vw] 65)).alloc (.cells #[.string r.name, .int .i64 r.ar, ur, uw] 65))) := hid (((Below.refl _ _).alloc (Nat.le_refl _) _).alloc (by simp) _)
  have H := hid h
  have H' := hid h'
  have HR := hid hr.rows
  have hw := hr.ws
  obtain ⟨a1, k1, rfl, -⟩ := h.rows
  obtain ⟨a2, k2, rfl, -⟩ := h.ws
  obtain ⟨b1, l1, rfl, -⟩ := h'.rows
  obtain ⟨b2, l2, rfl, -⟩ := h'.ws
  have H1 := hid H.out.rows
  have H2 := hid H.out.ws
  have H1' := hid H'.out.rows
  have H2' := hid H'.out.ws
  clear h h' hr H H'
  generalize r.rows = rows at *
  generalize r.ws = ws at *
  generalize r.name = nm at *
  generalize r.ar = ar at *
  have q1 : (!nm.toList == nm.toList) = false := by simp
  have q2 : (ar != ar) = false := by simp
  go_enter Tryz.func66, Tryz.ntmps66
  go_wp2_with fail
  refine (eqIntSS_quiet _ _ _ rows (H1.out.below HB.out) (H1'.out.below HB.out) HR.out).mono ?_
  rintro e w1 ⟨rfl, d1, hq1⟩
  subst w1
  go_wp2_with fail
  refine (eqIntS_quiet _ _ _ ws (H2.out.below (below_drewN HB.out _)) (H2'.out.below (below_drewN HB.out _)) hw).mono ?_
  rintro e w1 ⟨rfl, d2, hq1⟩
  subst w1
  go_wp2
  go_ret
  exact ⟨rfl, by repeat' first | exact HB.out | refine below_drewN ?_ _⟩

theorem eight_of {w5 W : World} {b o b' o' : Nat} {v0 v1 v2 v3 u0 u1 u2 u3 : Value}
    (h0 : w5.cell? ⟨b, o, none⟩ = some v0) (h1 : w5.cell? ⟨b, o + 1, none⟩ = some v1) (h2 : w5.cell? ⟨b, o + 2, none⟩ = some v2) (h3 : w5.cell? ⟨b, o + 3, none⟩ = some v3)
    (k0 : w5.cell? ⟨b', o', none⟩ = some u0) (k1 : w5.cell? ⟨b', o' + 1, none⟩ = some u1) (k2 : w5.cell? ⟨b', o' + 2, none⟩ = some u2) (k3 : w5.cell? ⟨b', o' + 3, none⟩ = some u3) (hb : Below w5.heap.size w5 W) :
    W.cell? ⟨b, o, none⟩ = some v0 ∧ W.cell? ⟨b, o + 1, none⟩ = some v1 ∧ W.cell? ⟨b, o + 2, none⟩ = some v2 ∧ W.cell? ⟨b, o + 3, none⟩ = some v3 ∧ W.cell? ⟨b', o', none⟩ = some u0 ∧ W.cell? ⟨b', o' + 1, none⟩ = some u1 ∧ W.cell? ⟨b', o' + 2, none⟩ = some u2 ∧ W.cell? ⟨b', o' + 3, none⟩ = some u3 ∧ Below w5.heap.size w5 W :=
  ⟨(hb.cell (p := ⟨b, o, none⟩) (World.block_lt_of_cell? w5 _ h0)).trans h0, (hb.cell (p := ⟨b, o + 1, none⟩) (World.block_lt_of_cell? w5 _ h1)).trans h1, (hb.cell (p := ⟨b, o + 2, none⟩) (World.block_lt_of_cell? w5 _ h2)).trans h2, (hb.cell (p := ⟨b, o + 3, none⟩) (World.block_lt_of_cell? w5 _ h3)).trans h3,
    (hb.cell (p := ⟨b', o', none⟩) (World.block_lt_of_cell? w5 _ k0)).trans k0, (hb.cell (p := ⟨b', o' + 1, none⟩) (World.block_lt_of_cell? w5 _ k1)).trans k1, (hb.cell (p := ⟨b', o' + 2, none⟩) (World.block_lt_of_cell? w5 _ k2)).trans k2, (hb.cell (p := ⟨b', o' + 3, none⟩) (World.block_lt_of_cell? w5 _ k3)).trans k3, hb⟩

set_option maxHeartbeats 4000000 in
set_option maxRecDepth 1000000 in
theorem eqRelationS_same (w : World) (v u : Value) (ds : List RelV) (h : IRelS w v ds) (h' : IRelS w u ds) (hr : OkRels ds) :
    Calls Tryz.prog 34 #[v, u] w fun e w' => e = .returned (.bool true) ∧ Below w.heap.size w w' := by
  obtain ⟨a, cap, rfl, hc⟩ := h
  obtain ⟨a', cap', rfl, hc'⟩ := h'
  have hl1 := hr.1
  have HR := hid hr.2
  obtain ⟨n, hn⟩ : ∃ n, n = ds.length := ⟨_, rfl⟩
  rw [← hn] at hc hc' hl1 ⊢
  have HC := hid hc
  have HC' := hid hc'
  clear hc hc' hn hr
  have hne : ((n : Int) != (n : Int)) = false := by simp
  go_enter Tryz.func34, Tryz.ntmps34
  go_wp2
  go_loopw [5] (fun t wr => ∃ j : Nat, j ≤ n ∧ t = .int .i64 j ∧ Hid (Below w.heap.size w wr)) (fun t _ => n - (intOf t).toNat)
  case atStart => exact ⟨0, Nat.zero_le _, rfl, hid (Below.refl _ _)⟩
  case round =>
    obtain ⟨j, hj, rfl, hB⟩ := hrel
    by_cases hjn : j < n
    · have i1 : (j : Int) < (n : Int) := by omega
      rcases HC.out with h0 | ⟨b, o, rfl, hrel⟩
      · omega
      · rcases HC'.out with h0 | ⟨b', o', rfl, hrel'⟩
        · omega
        · obtain ⟨vr, vw, c0, c1, c2, c3, hir⟩ := (hrel j hjn).below hB.out
          obtain ⟨ur, uw, d0, d1, d2, d3, hir'⟩ := (hrel' j hjn).below hB.out
          have hok := HR.out j
          have HW : Hid (∀ W, (W.cell? ⟨b, o + j * 4, none⟩ = some (.string (ds.getD j noRel).name) ∧ W.cell? ⟨b, o + j * 4 + 1, none⟩ = some (.int .i64 (ds.getD j noRel).ar) ∧ W.cell? ⟨b, o + j * 4 + 2, none⟩ = some vr ∧ W.cell? ⟨b, o + j * 4 + 3, none⟩ = some vw ∧ W.cell? ⟨b', o' + j * 4, none⟩ = some (.string (ds.getD j noRel).name) ∧ W.cell? ⟨b', o' + j * 4 + 1, none⟩ = some (.int .i64 (ds.getD j noRel).ar) ∧ W.cell? ⟨b', o' + j * 4 + 2, none⟩ = some ur ∧ W.cell? ⟨b', o' + j * 4 + 3, none⟩ = some uw ∧ Below wr.heap.size wr W) →
            Calls Tryz.prog 66 #[.agg #[.string (ds.getD j noRel).name, .int .i64 (ds.getD j noRel).ar, vr, vw], .agg #[.string (ds.getD j noRel).name, .int .i64 (ds.getD j noRel).ar, ur, uw]] W fun e w' => e = .returned (.bool true) ∧ Below W.heap.size W w') := hid (fun W hW =>
              eqRelation_same W vr vw ur uw (ds.getD j noRel) (hir.below hW.2.2.2.2.2.2.2.2) (hir'.below hW.2.2.2.2.2.2.2.2) hok)
          have HBW : Hid (∀ W, (W.cell? ⟨b, o + j * 4, none⟩ = some (.string (ds.getD j noRel).name) ∧ W.cell? ⟨b, o + j * 4 + 1, none⟩ = some (.int .i64 (ds.getD j noRel).ar) ∧ W.cell? ⟨b, o + j * 4 + 2, none⟩ = some vr ∧ W.cell? ⟨b, o + j * 4 + 3, none⟩ = some vw ∧ W.cell? ⟨b', o' + j * 4, none⟩ = some (.string (ds.getD j noRel).name) ∧ W.cell? ⟨b', o' + j * 4 + 1, none⟩ = some (.int .i64 (ds.getD j noRel).ar) ∧ W.cell? ⟨b', o' + j * 4 + 2, none⟩ = some ur ∧ W.cell? ⟨b', o' + j * 4 + 3, none⟩ = some uw ∧ Below wr.heap.size wr W) → Below wr.heap.size wr W) := hid (fun W hW => hW.2.2.2.2.2.2.2.2)
          obtain ⟨a1, k1, rfl, -⟩ := hir.rows
          obtain ⟨a2, k2, rfl, -⟩ := hir.ws
          obtain ⟨a3, k3, rfl, -⟩ := hir'.rows
          obtain ⟨a4, k4, rfl, -⟩ := hir'.ws
          clear hir hir' hok hrel hrel'
          generalize (ds.getD j noRel).rows.length = n1 at *
          generalize (ds.getD j noRel).ws.length = n2 at *
          generalize (ds.getD j noRel).name = nm at *
          generalize (ds.getD j noRel).ar = ar at *
          go_wp2_with fail
          go_region_held3 (fun W => W.cell? ⟨b, o + j * 4, none⟩ = some (.string nm) ∧ W.cell? ⟨b, o + j * 4 + 1, none⟩ = some (.int .i64 ar) ∧ W.cell? ⟨b, o + j * 4 + 2, none⟩ = some (.slice a1 n1 k1) ∧ W.cell? ⟨b, o + j * 4 + 3, none⟩ = some (.slice a2 n2 k2) ∧ W.cell? ⟨b', o' + j * 4, none⟩ = some (.string nm) ∧ W.cell? ⟨b', o' + j * 4 + 1, none⟩ = some (.int .i64 ar) ∧ W.cell? ⟨b', o' + j * 4 + 2, none⟩ = some (.slice a3 n1 k3) ∧ W.cell? ⟨b', o' + j * 4 + 3, none⟩ = some (.slice a4 n2 k4) ∧ Below wr.heap.size wr W)
            (first | exact eight_of c0 c1 c2 c3 d0 d1 d2 d3 (Below.refl _ _).drew | exact eight_of c0 c1 c2 c3 d0 d1 d2 d3 (bt (Below.refl _ _).drew hb) | (refine eight_of c0 c1 c2 c3 d0 d1 d2 d3 (bt (HBW.out _ ?_) hb); assumption))
            (first | (go_at_call 66; refine (HW.out _ ?_).mono ?_; assumption; rintro e w' ⟨rfl, hb⟩))
          go_wp2
          go_roundw
          case rel => exact ⟨j + 1, by omega, by go_num, hid (bt hB.out (HBW.out _ (by assumption)))⟩
          case measure => simp [intOf]; omega
    · obtain rfl : j = n := by omega
      have i1 : ¬ ((j : Int) < (j : Int)) := by omega
      go_wp2
      go_ret
      exact ⟨rfl, hB.out⟩

set_option maxHeartbeats 1000000 in
theorem eqData_same (w : World) (v u : Value) (ds : List RelV) (h : IRelS w v ds) (h' : IRelS w u ds) (hr : OkRels ds) :
    Calls Tryz.prog 11 #[.agg #[v], .agg #[u]] w fun e w' => e = .returned (.bool true) ∧ Below w.heap.size w w' := by
  have HB : Hid (Below w.heap.size w ((w.alloc (.cells #[v] 35)).alloc (.cells #[u] 35))) := hid (((Below.refl _ _).alloc (Nat.le_refl _) _).alloc (by simp) _)
  have K := hid (eqRelationS_same ((w.alloc (.cells #[v] 35)).alloc (.cells #[u] 35)) v u ds (h.below HB.out) (h'.below HB.out) hr)
  obtain ⟨a, cap, rfl, -⟩ := h
  obtain ⟨a', cap', rfl, -⟩ := h'
  clear hr
  go_enter Tryz.func11, Tryz.ntmps11
  go_wp2_with fail
  refine K.out.mono ?_
  rintro e w2 ⟨rfl, hb⟩
  have HB2 := hid (bt HB.out hb)
  clear hb
  go_wp2
  go_ret
  exact ⟨rfl, HB2.out⟩

end Go.Proofs.YtegcpplkcahkhaaGreat

/-
  laws.FnExactDataOK, walked.
-/
namespace Go.Proofs.YtegcpplkcahkhaaGreat
open Go.RowKit

/-- a box of one cell at block s -/
structure B1 (s : Nat) (v0 : Value) (W : World) : Prop where
  c0 : W.cell? ⟨s, 0, none⟩ = some v0
  lt : s < W.heap.size

theorem B1.step {s : Nat} {v0 : Value} {W W' : World} (h : B1 s v0 W) (hb : Below W.heap.size W W') : B1 s v0 W' :=
  ⟨(hb.cell (p := ⟨s, 0, none⟩) h.lt).trans h.c0, Nat.lt_of_lt_of_le h.lt hb.size⟩
theorem B1.start (w : World) (v0 : Value) (t : TypeId) : B1 w.heap.size v0 (w.alloc (.cells #[v0] t)) := ⟨by simp [go_sem], by simp⟩
theorem B1.alloc {s : Nat} {v0 : Value} {W : World} (h : B1 s v0 W) (o : Obj) : B1 s v0 (W.alloc o) := h.step ((Below.refl _ _).alloc (Nat.le_refl _) _)

theorem two1_of {w5 W : World} {s X : Nat} {v0 x0 : Value} (h : B1 s v0 w5) (k : B1 X x0 w5) (hb : Below w5.heap.size w5 W) :
    W.cell? ⟨s, 0, none⟩ = some v0 ∧ W.cell? ⟨X, 0, none⟩ = some x0 ∧ Below w5.heap.size w5 W := ⟨(h.step hb).c0, (k.step hb).c0, hb⟩

end Go.Proofs.YtegcpplkcahkhaaGreat
