import Derived.Deep.DeepCutAuto
import Derived.Test.YtkponghbekpocaaGreatDoorRg02
import Derived.Test.YtkponghbekpocaaGreatDoorRg09
/-
  laws.hInts, hRows: equal lists.
-/
namespace Go.Proofs.YtkponghbekpocaaGreatDoor
open Go.RowKit

set_option maxHeartbeats 1000000 in
theorem hInts_quiet (w : World) (v v' : Value) (l : List Int) (h : IS w v l) (h' : IS w v' l) (hl : l.length ≤ 1099511627776) :
    Calls Tryz.prog 34 #[v, v'] w fun e w' => e = .returned (.bool true) ∧ ∃ m, w' = w.drewN m := by
  obtain ⟨a, cap, rfl, hc⟩ := h
  obtain ⟨a', cap', rfl, hc'⟩ := h'
  obtain ⟨n, hn⟩ : ∃ n, n = l.length := ⟨_, rfl⟩
  rw [← hn] at hc hc' hl ⊢
  have HC := hid hc
  have HC' := hid hc'
  clear hc hc' hn
  have hne : ((n : Int) != (n : Int)) = false := by simp
  go_enter Tryz.func34, Tryz.ntmps34
  go_wp2
  go_loopw [13] (fun t wr => ∃ j : Nat, j ≤ n ∧ t = .int .i64 j ∧ Hid (∃ m, wr = w.drewN m)) (fun t _ => n - (intOf t).toNat)
  case atStart => exact ⟨0, Nat.zero_le _, rfl, hid ⟨0, rfl⟩⟩
  case round =>
    obtain ⟨j, hj, rfl, hB⟩ := hrel
    by_cases hjn : j < n
    · have i1 : (j : Int) < (n : Int) := by omega
      rcases HC.out with h0 | ⟨b, o, rfl, hcell⟩
      · omega
      · rcases HC'.out with h0 | ⟨b', o', rfl, hcell'⟩
        · omega
        · have c1 : wr.cell? ⟨b, o + j, none⟩ = some (.int .i64 (l.getD j 0)) := by obtain ⟨m, rfl⟩ := hB.out; exact hcell j hjn
          have c2 : wr.cell? ⟨b', o' + j, none⟩ = some (.int .i64 (l.getD j 0)) := by obtain ⟨m, rfl⟩ := hB.out; exact hcell' j hjn
          obtain ⟨x, hx⟩ : ∃ x, x = l.getD j 0 := ⟨_, rfl⟩
          rw [← hx] at c1 c2
          have hxx : (x != x) = false := by simp
          clear hcell hcell' hx
          go_wp2_with fail
          go_quiet (fail)
          go_wp2
          go_roundw
          case rel => exact ⟨j + 1, by omega, by go_num, hid (drewN_step _ hB.out)⟩
          case measure => simp [intOf]; omega
    · obtain rfl : j = n := by omega
      have i1 : ¬ ((j : Int) < (j : Int)) := by omega
      go_wp2
      go_ret
      exact ⟨rfl, hB.out⟩


set_option maxHeartbeats 2000000 in
set_option maxRecDepth 1000000 in
theorem hRows_quiet (w : World) (v v' : Value) (ls : List (List Int)) (h : ISS w v ls) (h' : ISS w v' ls) (hl : Short ls) :
    Calls Tryz.prog 33 #[v, v'] w fun e w' => e = .returned (.bool true) ∧ ∃ m, w' = w.drewN m := by
  obtain ⟨a, cap, rfl, hc⟩ := h
  obtain ⟨a', cap', rfl, hc'⟩ := h'
  obtain ⟨hl1, hl2⟩ := hl
  obtain ⟨n, hn⟩ : ∃ n, n = ls.length := ⟨_, rfl⟩
  rw [← hn] at hc hc' hl1 ⊢
  have HC := hid hc
  have HC' := hid hc'
  have HL := hid hl2
  clear hc hc' hn hl2
  have hne : ((n : Int) != (n : Int)) = false := by simp
  go_enter Tryz.func33, Tryz.ntmps33
  go_wp2
  go_loopw [13] (fun t wr => ∃ j : Nat, j ≤ n ∧ t = .int .i64 j ∧ Hid (∃ m, wr = w.drewN m)) (fun t _ => n - (intOf t).toNat)
  case atStart => exact ⟨0, Nat.zero_le _, rfl, hid ⟨0, rfl⟩⟩
  case round =>
    obtain ⟨j, hj, rfl, hB⟩ := hrel
    by_cases hjn : j < n
    · have i1 : (j : Int) < (n : Int) := by omega
      rcases HC.out with h0 | ⟨b, o, rfl, hcell⟩
      · omega
      · rcases HC'.out with h0 | ⟨b', o', rfl, hcell'⟩
        · omega
        · obtain ⟨u, d1, hu⟩ := hcell j hjn
          obtain ⟨u', d2, hu'⟩ := hcell' j hjn
          have c1 : wr.cell? ⟨b, o + j, none⟩ = some u := by obtain ⟨m, rfl⟩ := hB.out; exact d1
          have c2 : wr.cell? ⟨b', o' + j, none⟩ = some u' := by obtain ⟨m, rfl⟩ := hB.out; exact d2
          have HK : Hid (∀ q, Calls Tryz.prog 34 #[u, u'] (wr.drewN q) fun e w' => e = .returned (.bool true) ∧ ∃ m, w' = (wr.drewN q).drewN m) := fun q => by
            obtain ⟨m, rfl⟩ := hB.out
            exact hInts_quiet _ u u' (ls.getD j []) hu hu' (HL.out j)
          obtain ⟨a1, cap1, rfl, -⟩ := hu
          obtain ⟨a2, cap2, rfl, -⟩ := hu'
          clear hcell hcell' d1 d2
          go_wp2_with fail
          go_quiet ((go_at_call 34; exact Calls.quiet_of (HK.out _)))
          go_wp2
          go_roundw
          case rel => exact ⟨j + 1, by omega, by go_num, hid (drewN_step _ hB.out)⟩
          case measure => simp [intOf]; omega
    · obtain rfl : j = n := by omega
      have i1 : ¬ ((j : Int) < (j : Int)) := by omega
      go_wp2
      go_ret
      exact ⟨rfl, hB.out⟩

end Go.Proofs.YtkponghbekpocaaGreatDoor

/-
  laws.hData: equal data.
-/
namespace Go.Proofs.YtkponghbekpocaaGreatDoor
open Go.RowKit

set_option maxHeartbeats 8000000 in
set_option maxRecDepth 1000000 in
theorem hData_same (w : World) (v u : Value) (ds : List RelV) (h : IRelS w v ds) (h' : IRelS w u ds) (hr : OkRels ds) :
    Calls Tryz.prog 10 #[.agg #[v], .agg #[u]] w fun e w' => e = .returned (.bool true) ∧ Below w.heap.size w w' := by
  obtain ⟨W1, hW1⟩ : ∃ W1, W1 = (w.alloc (.cells #[v] 25)).alloc (.cells #[u] 25) := ⟨_, rfl⟩
  have hb1 : Below w.heap.size w W1 := by rw [hW1]; exact ((Below.refl _ _).alloc (Nat.le_refl _) _).alloc (by simp) _
  have p1 : W1.cell? ⟨w.heap.size, 0, none⟩ = some v := by rw [hW1, World.cell?_alloc_past _ _ _ (by simp), World.cell?_alloc_at _ _ _ _ rfl]; rfl
  have p2 : W1.cell? ⟨w.heap.size + 1, 0, none⟩ = some u := by rw [hW1, World.cell?_alloc_at _ _ _ _ (by simp)]; rfl
  have HB1 := hid hb1
  have h1 := h.below hb1
  have h1' := h'.below hb1
  obtain ⟨a, cap, rfl, hc⟩ := h1
  obtain ⟨a', cap', rfl, hc'⟩ := h1'
  have hl1 := hr.1
  have HR := hid hr.2
  obtain ⟨n, hn⟩ : ∃ n, n = ds.length := ⟨_, rfl⟩
  rw [← hn] at hc hc' hl1 p1 p2 hW1 ⊢
  have HC := hid hc
  have HC' := hid hc'
  have HP1 := hid p1
  have HP2 := hid p2
  clear hc hc' hn hr h h' hb1
  have hne : ((n : Int) != (n : Int)) = false := by simp
  go_enter Tryz.func10, Tryz.ntmps10
  go_upto_region 1 with fail
  rw [← hW1]
  clear hW1
  go_wp2_with fail
  go_loopw [18] (fun t wr => ∃ j : Nat, j ≤ n ∧ t = .int .i64 j ∧ Hid (Below W1.heap.size W1 wr)) (fun t _ => n - (intOf t).toNat)
  case atStart => exact ⟨0, Nat.zero_le _, rfl, hid (Below.refl _ _)⟩
  case round =>
    obtain ⟨j, hj, rfl, hB⟩ := hrel
    by_cases hjn : j < n
    · have i1 : (j : Int) < (n : Int) := by omega
      rcases HC.out with h0 | ⟨b, o, rfl, hrel⟩
      · omega
      · rcases HC'.out with h0 | ⟨b', o', rfl, hrel'⟩
        · omega
        · obtain ⟨vr, vw, c0, c1, c2, c3, hir⟩ := (hrel j hjn).below hB.out
          obtain ⟨ur, uw, d0, d1, d2, d3, hir'⟩ := (hrel' j hjn).below hB.out
          have hok := HR.out j
          have y1 := (hB.out.cell (p := ⟨w.heap.size, 0, none⟩) (World.block_lt_of_cell? W1 _ HP1.out)).trans HP1.out
          have y2 := (hB.out.cell (p := ⟨w.heap.size + 1, 0, none⟩) (World.block_lt_of_cell? W1 _ HP2.out)).trans HP2.out
          obtain ⟨W7, hW7⟩ : ∃ W7, W7 = wr.alloc (.cells #[.string (ds.getD j noRel).name, .int .i64 (ds.getD j noRel).ar, vr, vw] 45) := ⟨_, rfl⟩
          have hb7 : Below wr.heap.size wr W7 := by rw [hW7]; exact (Below.refl _ _).alloc (Nat.le_refl _) _
          have g0 : W7.cell? ⟨wr.heap.size, 0, none⟩ = some (.string (ds.getD j noRel).name) := by rw [hW7, World.cell?_alloc_at _ _ _ _ rfl]; rfl
          have g1 : W7.cell? ⟨wr.heap.size, 1, none⟩ = some (.int .i64 (ds.getD j noRel).ar) := by rw [hW7, World.cell?_alloc_at _ _ _ _ rfl]; rfl
          have g2 : W7.cell? ⟨wr.heap.size, 2, none⟩ = some vr := by rw [hW7, World.cell?_alloc_at _ _ _ _ rfl]; rfl
          have g3 : W7.cell? ⟨wr.heap.size, 3, none⟩ = some vw := by rw [hW7, World.cell?_alloc_at _ _ _ _ rfl]; rfl
          have up : ∀ {X Y : World} {b o : Nat} {v : Value}, Below X.heap.size X Y → X.cell? ⟨b, o, none⟩ = some v → Y.cell? ⟨b, o, none⟩ = some v := fun {X Y b o v} hb hc => (hb.cell (p := ⟨b, o, none⟩) (World.block_lt_of_cell? X _ hc)).trans hc
          have z2 := up hb7 y2
          have x0 := up hb7 d0
          have x1 := up hb7 d1
          have x2 := up hb7 d2
          have x3 := up hb7 d3
          obtain ⟨W8, hW8⟩ : ∃ W8, W8 = W7.alloc (.cells #[.string (ds.getD j noRel).name, .int .i64 (ds.getD j noRel).ar, ur, uw] 45) := ⟨_, rfl⟩
          have hb78 : Below W7.heap.size W7 W8 := by rw [hW8]; exact (Below.refl _ _).alloc (Nat.le_refl _) _
          have hb8 := bt hb7 hb78
          have e0 := up hb78 g0
          have e1 := up hb78 g1
          have e2 := up hb78 g2
          have e3 := up hb78 g3
          have f0 : W8.cell? ⟨W7.heap.size, 0, none⟩ = some (.string (ds.getD j noRel).name) := by rw [hW8, World.cell?_alloc_at _ _ _ _ rfl]; rfl
          have f1 : W8.cell? ⟨W7.heap.size, 1, none⟩ = some (.int .i64 (ds.getD j noRel).ar) := by rw [hW8, World.cell?_alloc_at _ _ _ _ rfl]; rfl
          have f2 : W8.cell? ⟨W7.heap.size, 2, none⟩ = some ur := by rw [hW8, World.cell?_alloc_at _ _ _ _ rfl]; rfl
          have f3 : W8.cell? ⟨W7.heap.size, 3, none⟩ = some uw := by rw [hW8, World.cell?_alloc_at _ _ _ _ rfl]; rfl
          have KR : Hid (Calls Tryz.prog 33 #[vr, ur] W8 fun e w' => e = .returned (.bool true) ∧ w'.cell? ⟨wr.heap.size, 3, none⟩ = some vw ∧ w'.cell? ⟨W7.heap.size, 3, none⟩ = some uw ∧ Hid (Below W1.heap.size W1 w') ∧ Hid (Calls Tryz.prog 34 #[vw, uw] w' fun e w'' => e = .returned (.bool true) ∧ Hid (Below W1.heap.size W1 w''))) := hid ((hRows_quiet W8 vr ur _ (hir.rows.below hb8) (hir'.rows.below hb8) hok.rows).mono (by
            rintro e w' ⟨rfl, m, rfl⟩
            refine ⟨rfl, e3, f3, hid (below_drewN (bt hB.out hb8) m), hid ((hInts_quiet _ vw uw _ (hir.ws.below (below_drewN hb8 m)) (hir'.ws.below (below_drewN hb8 m)) hok.ws).mono ?_)⟩
            rintro e w'' ⟨rfl, m2, rfl⟩
            exact ⟨rfl, hid (below_drewN (below_drewN (bt hB.out hb8) m) m2)⟩))
          obtain ⟨a1, k1, rfl, -⟩ := hir.rows
          obtain ⟨a2, k2, rfl, -⟩ := hir.ws
          obtain ⟨a3, k3, rfl, -⟩ := hir'.rows
          obtain ⟨a4, k4, rfl, -⟩ := hir'.ws
          have HE := hid (And.intro e0 (And.intro e1 (And.intro e2 (And.intro f0 (And.intro f1 f2)))))
          have HX := hid (And.intro z2 (And.intro x0 (And.intro x1 (And.intro x2 x3))))
          clear hir hir' hok hrel hrel' hb8 hb7 hb78 e0 e1 e2 e3 f0 f1 f2 f3 g0 g1 g2 g3 z2 x0 x1 x2 x3 HP1 HP2 p1 p2 up
          generalize (ds.getD j noRel).rows.length = n1 at *
          generalize (ds.getD j noRel).ws.length = n2 at *
          generalize (ds.getD j noRel).name = nm at *
          generalize (ds.getD j noRel).ar = ar at *
          have q1 : (!nm.toList == nm.toList) = false := by simp
          have q2 : (ar != ar) = false := by simp
          go_upto_region 7 with fail
          rw [← hW7]
          clear hW7 c0 c1 c2 c3 d0 d1 d2 d3 y1 y2
          obtain ⟨z2, x0, x1, x2, x3⟩ := HX.out
          go_upto_region 8 with fail
          rw [← hW8]
          clear hW8 z2 x0 x1 x2 x3 HX
          obtain ⟨e0, e1, e2, f0, f1, f2⟩ := HE.out
          clear HE
          go_wp2_with (first
            | (go_at_call 33; refine KR.out.mono ?_; rintro e w9 ⟨rfl, e3, f3, HB9, K9⟩)
            | (go_at_call 34; refine K9.out.mono ?_; rintro e w10 ⟨rfl, HB10⟩)
            | fail)
          go_roundw
          case rel => exact ⟨j + 1, by omega, by go_num, HB10⟩
          case measure => simp [intOf]; omega
    · obtain rfl : j = n := by omega
      have i1 : ¬ ((j : Int) < (j : Int)) := by omega
      go_wp2
      go_ret
      exact ⟨rfl, bt HB1.out hB.out⟩

end Go.Proofs.YtkponghbekpocaaGreatDoor
