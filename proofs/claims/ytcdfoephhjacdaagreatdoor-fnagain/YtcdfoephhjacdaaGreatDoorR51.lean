import Derived.Deep.CutBlock
import Derived.Deep.DeepCutAuto
import Derived.Test.YtcdfoephhjacdaaGreatDoorR05
import Derived.Test.YtcdfoephhjacdaaGreatDoorR06
import Derived.Test.YtcdfoephhjacdaaGreatDoorR07
import Derived.Test.YtcdfoephhjacdaaGreatDoorR13
import Derived.Test.YtcdfoephhjacdaaGreatDoorR14
import Derived.Test.YtcdfoephhjacdaaGreatDoorR16
import Derived.Test.YtcdfoephhjacdaaGreatDoorR25
import Derived.Test.YtcdfoephhjacdaaGreatDoorR35
import Derived.Test.YtcdfoephhjacdaaGreatDoorR46
import Derived.Test.YtcdfoephhjacdaaGreatDoorR48
import Derived.Test.YtcdfoephhjacdaaGreatDoorR49
import Derived.Test.YtcdfoephhjacdaaGreatDoorR50
/-
  laws.hData: equal data.
-/
namespace Go.Proofs.YtcdfoephhjacdaaGreatDoor
open Go.RowKit

set_option maxHeartbeats 8000000 in
set_option maxRecDepth 1000000 in
theorem hData_same (w : World) (v u : Value) (ds : List RelV) (h : IRelS w v ds) (h' : IRelS w u ds) (hr : OkRels ds) :
    Calls Tryz.prog 10 #[.agg #[v], .agg #[u]] w fun e w' => e = .returned (.bool true) ∧ Below w.heap.size w w' := by
  obtain ⟨W1, hW1⟩ : ∃ W1, W1 = (w.alloc (.cells #[v] 25)).alloc (.cells #[u] 25) := ⟨_, rfl⟩
  have hb1 : Below w.heap.size w W1 := by rw [hW1]; exact ((Below.refl _ _).alloc (Nat.le_refl _) _).alloc (by simp) _
  have p1 : W1.cell? ⟨w.heap.size, 0, none⟩ = some v := by rw [hW1, World.cell?_alloc_past _ _ _ (by simp), World.cell?_alloc_at _ _ _ _ rfl]; rfl
  have p2 : W1.cell? ⟨w.heap.size + 1, 0, none⟩ = some u := by rw [hW1, World.cell?_alloc_at _ _ _ _ (by simp)]; rfl
  have HB1 := hid hb1
  have h1 := h.below hb1
  have h1' := h'.below hb1
  obtain ⟨a, cap, rfl, hc⟩ := h1
  obtain ⟨a', cap', rfl, hc'⟩ := h1'
  have hl1 := hr.1
  have HR := hid hr.2
  obtain ⟨n, hn⟩ : ∃ n, n = ds.length := ⟨_, rfl⟩
  rw [← hn] at hc hc' hl1 p1 p2 hW1 ⊢
  have HC := hid hc
  have HC' := hid hc'
  have HP1 := hid p1
  have HP2 := hid p2
  clear hc hc' hn hr h h' hb1
  have hne : ((n : Int) != (n : Int)) = false := by simp
  go_enter Tryz.func10, Tryz.ntmps10
  go_upto_region 1 with fail
  rw [← hW1]
  clear hW1
  go_wp2_with fail
  go_loopw [18] (fun t wr => ∃ j : Nat, j ≤ n ∧ t = .int .i64 j ∧ Hid (Below W1.heap.size W1 wr)) (fun t _ => n - (intOf t).toNat)
  case atStart => exact ⟨0, Nat.zero_le _, rfl, hid (Below.refl _ _)⟩
  case round =>
    obtain ⟨j, hj, rfl, hB⟩ := hrel
    by_cases hjn : j < n
    · have i1 : (j : Int) < (n : Int) := by omega
      rcases HC.out with h0 | ⟨b, o, rfl, hrel⟩
      · omega
      · rcases HC'.out with h0 | ⟨b', o', rfl, hrel'⟩
        · omega
        · obtain ⟨vr, vw, c0, c1, c2, c3, hir⟩ := (hrel j hjn).below hB.out
          obtain ⟨ur, uw, d0, d1, d2, d3, hir'⟩ := (hrel' j hjn).below hB.out
          have hok := HR.out j
          have y1 := (hB.out.cell (p := ⟨w.heap.size, 0, none⟩) (World.block_lt_of_cell? W1 _ HP1.out)).trans HP1.out
          have y2 := (hB.out.cell (p := ⟨w.heap.size + 1, 0, none⟩) (World.block_lt_of_cell? W1 _ HP2.out)).trans HP2.out
          obtain ⟨W7, hW7⟩ : ∃ W7, W7 = wr.alloc (.cells #[.string (ds.getD j noRel).name, .int .i64 (ds.getD j noRel).ar, vr, vw] 45) := ⟨_, rfl⟩
          have hb7 : Below wr.heap.size wr W7 := by rw [hW7]; exact (Below.refl _ _).alloc (Nat.le_refl _) _
          have g0 : W7.cell? ⟨wr.heap.size, 0, none⟩ = some (.string (ds.getD j noRel).name) := by rw [hW7, World.cell?_alloc_at _ _ _ _ rfl]; rfl
          have g1 : W7.cell? ⟨wr.heap.size, 1, none⟩ = some (.int .i64 (ds.getD j noRel).ar) := by rw [hW7, World.cell?_alloc_at _ _ _ _ rfl]; rfl
          have g2 : W7.cell? ⟨wr.heap.size, 2, none⟩ = some vr := by rw [hW7, World.cell?_alloc_at _ _ _ _ rfl]; rfl
          have g3 : W7.cell? ⟨wr.heap.size, 3, none⟩ = some vw := by rw [hW7, World.cell?_alloc_at _ _ _ _ rfl]; rfl
          have up : ∀ {X Y : World} {b o : Nat} {v : Value}, Below X.heap.size X Y → X.cell? ⟨b, o, none⟩ = some v → Y.cell? ⟨b, o, none⟩ = some v := fun {X Y b o v} hb hc => (hb.cell (p := ⟨b, o, none⟩) (World.block_lt_of_cell? X _ hc)).trans hc
          have z2 := up hb7 y2
          have x0 := up hb7 d0
          have x1 := up hb7 d1
          have x2 := up hb7 d2
          have x3 := up hb7 d3
          obtain ⟨W8, hW8⟩ : ∃ W8, W8 = W7.alloc (.cells #[.string (ds.getD j noRel).name, .int .i64 (ds.getD j noRel).ar, ur, uw] 45) := ⟨_, rfl⟩
          have hb78 : Below W7.heap.size W7 W8 := by rw [hW8]; exact (Below.refl _ _).alloc (Nat.le_refl _) _
          have hb8 := bt hb7 hb78
          have e0 := up hb78 g0
          have e1 := up hb78 g1
          have e2 := up hb78 g2
          have e3 := up hb78 g3
          have f0 : W8.cell? ⟨W7.heap.size, 0, none⟩ = some (.string (ds.getD j noRel).name) := by rw [hW8, World.cell?_alloc_at _ _ _ _ rfl]; rfl
          have f1 : W8.cell? ⟨W7.heap.size, 1, none⟩ = some (.int .i64 (ds.getD j noRel).ar) := by rw [hW8, World.cell?_alloc_at _ _ _ _ rfl]; rfl
          have f2 : W8.cell? ⟨W7.heap.size, 2, none⟩ = some ur := by rw [hW8, World.cell?_alloc_at _ _ _ _ rfl]; rfl
          have f3 : W8.cell? ⟨W7.heap.size, 3, none⟩ = some uw := by rw [hW8, World.cell?_alloc_at _ _ _ _ rfl]; rfl
          have KR : Hid (Calls Tryz.prog 33 #[vr, ur] W8 fun e w' => e = .returned (.bool true) ∧ w'.cell? ⟨wr.heap.size, 3, none⟩ = some vw ∧ w'.cell? ⟨W7.heap.size, 3, none⟩ = some uw ∧ Hid (Below W1.heap.size W1 w') ∧ Hid (Calls Tryz.prog 34 #[vw, uw] w' fun e w'' => e = .returned (.bool true) ∧ Hid (Below W1.heap.size W1 w''))) := hid ((hRows_quiet W8 vr ur _ (hir.rows.below hb8) (hir'.rows.below hb8) hok.rows).mono (by
            rintro e w' ⟨rfl, m, rfl⟩
            refine ⟨rfl, e3, f3, hid (below_drewN (bt hB.out hb8) m), hid ((hInts_quiet _ vw uw _ (hir.ws.below (below_drewN hb8 m)) (hir'.ws.below (below_drewN hb8 m)) hok.ws).mono ?_)⟩
            rintro e w'' ⟨rfl, m2, rfl⟩
            exact ⟨rfl, hid (below_drewN (below_drewN (bt hB.out hb8) m) m2)⟩))
          obtain ⟨a1, k1, rfl, -⟩ := hir.rows
          obtain ⟨a2, k2, rfl, -⟩ := hir.ws
          obtain ⟨a3, k3, rfl, -⟩ := hir'.rows
          obtain ⟨a4, k4, rfl, -⟩ := hir'.ws
          have HE := hid (And.intro e0 (And.intro e1 (And.intro e2 (And.intro f0 (And.intro f1 f2)))))
          have HX := hid (And.intro z2 (And.intro x0 (And.intro x1 (And.intro x2 x3))))
          clear hir hir' hok hrel hrel' hb8 hb7 hb78 e0 e1 e2 e3 f0 f1 f2 f3 g0 g1 g2 g3 z2 x0 x1 x2 x3 HP1 HP2 p1 p2 up
          generalize (ds.getD j noRel).rows.length = n1 at *
          generalize (ds.getD j noRel).ws.length = n2 at *
          generalize (ds.getD j noRel).name = nm at *
          generalize (ds.getD j noRel).ar = ar at *
          have q1 : (!nm.toList == nm.toList) = false := by simp
          have q2 : (ar != ar) = false := by simp
          go_upto_region 7 with fail
          rw [← hW7]
          clear hW7 c0 c1 c2 c3 d0 d1 d2 d3 y1 y2
          obtain ⟨z2, x0, x1, x2, x3⟩ := HX.out
          go_upto_region 8 with fail
          rw [← hW8]
          clear hW8 z2 x0 x1 x2 x3 HX
          obtain ⟨e0, e1, e2, f0, f1, f2⟩ := HE.out
          clear HE
          go_wp2_with (first
            | (go_at_call 33; refine KR.out.mono ?_; rintro e w9 ⟨rfl, e3, f3, HB9, K9⟩)
            | (go_at_call 34; refine K9.out.mono ?_; rintro e w10 ⟨rfl, HB10⟩)
            | fail)
          go_roundw
          case rel => exact ⟨j + 1, by omega, by go_num, HB10⟩
          case measure => simp [intOf]; omega
    · obtain rfl : j = n := by omega
      have i1 : ¬ ((j : Int) < (j : Int)) := by omega
      go_wp2
      go_ret
      exact ⟨rfl, bt HB1.out hB.out⟩

end Go.Proofs.YtcdfoephhjacdaaGreatDoor

/-
  laws.hQuery: equal queries.
-/
namespace Go.Proofs.YtcdfoephhjacdaaGreatDoor
open Go.RowKit

set_option maxHeartbeats 8000000 in
set_option maxRecDepth 1000000 in
theorem hQuery_same (w : World) (vh va uh ua : Value) (q : QV) (h : IQ w vh va q) (h' : IQ w uh ua q) (hq : OkQ q) :
    Calls Tryz.prog 11 #[.agg #[.string q.name, vh, .int .i64 q.ring, va], .agg #[.string q.name, uh, .int .i64 q.ring, ua]] w fun e w' => e = .returned (.bool true) ∧ Below w.heap.size w w' := by
  obtain ⟨W1, hW1⟩ : ∃ W1, W1 = (w.alloc (.cells #[.string q.name, vh, .int .i64 q.ring, va] 29)).alloc (.cells #[.string q.name, uh, .int .i64 q.ring, ua] 29) := ⟨_, rfl⟩
  have hb1 : Below w.heap.size w W1 := by rw [hW1]; exact ((Below.refl _ _).alloc (Nat.le_refl _) _).alloc (by simp) _
  have p0 : W1.cell? ⟨w.heap.size, 0, none⟩ = some (.string q.name) := by rw [hW1, World.cell?_alloc_past _ _ _ (by simp), World.cell?_alloc_at _ _ _ _ rfl]; rfl
  have p1 : W1.cell? ⟨w.heap.size, 1, none⟩ = some vh := by rw [hW1, World.cell?_alloc_past _ _ _ (by simp), World.cell?_alloc_at _ _ _ _ rfl]; rfl
  have p2 : W1.cell? ⟨w.heap.size, 2, none⟩ = some (.int .i64 q.ring) := by rw [hW1, World.cell?_alloc_past _ _ _ (by simp), World.cell?_alloc_at _ _ _ _ rfl]; rfl
  have p3 : W1.cell? ⟨w.heap.size, 3, none⟩ = some va := by rw [hW1, World.cell?_alloc_past _ _ _ (by simp), World.cell?_alloc_at _ _ _ _ rfl]; rfl
  have r0 : W1.cell? ⟨w.heap.size + 1, 0, none⟩ = some (.string q.name) := by rw [hW1, World.cell?_alloc_at _ _ _ _ (by simp)]; rfl
  have r1 : W1.cell? ⟨w.heap.size + 1, 1, none⟩ = some uh := by rw [hW1, World.cell?_alloc_at _ _ _ _ (by simp)]; rfl
  have r2 : W1.cell? ⟨w.heap.size + 1, 2, none⟩ = some (.int .i64 q.ring) := by rw [hW1, World.cell?_alloc_at _ _ _ _ (by simp)]; rfl
  have r3 : W1.cell? ⟨w.heap.size + 1, 3, none⟩ = some ua := by rw [hW1, World.cell?_alloc_at _ _ _ _ (by simp)]; rfl
  have HB1 := hid hb1
  have h1 := h.below hb1
  have h1' := h'.below hb1
  obtain ⟨⟨a, cap, rfl, hc⟩, ⟨b, cbp, rfl, hd⟩⟩ := h1
  obtain ⟨⟨a', cap', rfl, hc'⟩, ⟨b', cbp', rfl, hd'⟩⟩ := h1'
  have hl1 := hq.len
  have hl2 := hq.alen
  have HO := hid hq.atoms
  obtain ⟨n, hn⟩ : ∃ n, n = q.head.length := ⟨_, rfl⟩
  obtain ⟨m, hm⟩ : ∃ m, m = q.atoms.length := ⟨_, rfl⟩
  rw [← hn] at hc hc' hl1 p1 r1 hW1 ⊢
  rw [← hm] at hd hd' hl2 p3 r3 hW1 HO ⊢
  have HC := hid hc
  have HC' := hid hc'
  have HD := hid hd
  have HD' := hid hd'
  have HP := hid (And.intro p1 (And.intro p3 (And.intro r1 r3)))
  clear hc hc' hd hd' hn hm hq h h' hb1
  have hne : ((n : Int) != (n : Int)) = false := by simp
  have hme : ((m : Int) != (m : Int)) = false := by simp
  have q1 : (!q.name.toList == q.name.toList) = false := by simp
  have q2 : (q.ring != q.ring) = false := by simp
  go_enter Tryz.func11, Tryz.ntmps11
  go_upto_region 1 with fail
  rw [← hW1]
  clear hW1
  go_upto_block 0 with fail
  clear p0 p1 p2 p3 r0 r1 r2 r3
  go_cut [] (fun wx => Hid (∃ d, wx = W1.drewN d))
  case first =>
    go_wp2_with fail
    go_loopw [41] (fun t wr => ∃ j : Nat, j ≤ n ∧ t = .int .i64 j ∧ Hid (∃ d, wr = W1.drewN d)) (fun t _ => n - (intOf t).toNat)
    case atStart => exact ⟨0, Nat.zero_le _, rfl, hid ⟨0, rfl⟩⟩
    case round =>
      obtain ⟨j, hj, rfl, hB⟩ := hrel
      by_cases hjn : j < n
      · have i1 : (j : Int) < (n : Int) := by omega
        obtain ⟨p1, p3, r1, r3⟩ := HP.out
        rcases HC.out with h0 | ⟨b, o, rfl, hcell⟩
        · omega
        · rcases HC'.out with h0 | ⟨b', o', rfl, hcell'⟩
          · omega
          · have c1 : wr.cell? ⟨b, o + j, none⟩ = some (.string (q.head.getD j noTx)) := by obtain ⟨m, rfl⟩ := hB.out; exact hcell j hjn
            have c2 : wr.cell? ⟨b', o' + j, none⟩ = some (.string (q.head.getD j noTx)) := by obtain ⟨m, rfl⟩ := hB.out; exact hcell' j hjn
            have c3 : wr.cell? ⟨w.heap.size, 1, none⟩ = some (.slice (some ⟨b, o, none⟩) n cap) := by obtain ⟨m, rfl⟩ := hB.out; exact p1
            have c4 : wr.cell? ⟨w.heap.size + 1, 1, none⟩ = some (.slice (some ⟨b', o', none⟩) n cap') := by obtain ⟨m, rfl⟩ := hB.out; exact r1
            obtain ⟨x, hx⟩ : ∃ x, x = q.head.getD j noTx := ⟨_, rfl⟩
            rw [← hx] at c1 c2
            have hxx : (!x.toList == x.toList) = false := by simp
            clear hcell hcell' hx p1 p3 r1 r3
            go_wp2_with fail
            go_quiet (fail)
            go_wp2
            go_roundw
            case rel => exact ⟨j + 1, by omega, by go_num, hid (drewN_step _ hB.out)⟩
            case measure => simp [intOf]; omega
      · obtain rfl : j = n := by omega
        have i1 : ¬ ((j : Int) < (j : Int)) := by omega
        go_wp2
        go_meet
        exact hB
  case rest =>
  have HX : Hid (∀ wr, (∃ d, wr = W1.drewN d) → wr.cell? ⟨w.heap.size, 3, none⟩ = some (.slice b m cbp) ∧ wr.cell? ⟨w.heap.size + 1, 3, none⟩ = some (.slice b' m cbp')) := hid fun wr h => by
    obtain ⟨d, rfl⟩ := h
    exact ⟨HP.out.2.1, HP.out.2.2.2⟩
  obtain ⟨p3, r3⟩ := HX.out _ hcut.out
  generalize wc = W2 at *
  go_wp2_with fail
  clear p3 r3
  go_loopw [59] (fun t wr => ∃ j : Nat, j ≤ m ∧ t = .int .i64 j ∧ Hid (∃ d, wr = W1.drewN d)) (fun t _ => m - (intOf t).toNat)
  case atStart => exact ⟨0, Nat.zero_le _, rfl, hcut⟩
  case round =>
    clear hcut
    obtain ⟨j, hj, rfl, hB⟩ := hrel
    by_cases hjn : j < m
    · have i1 : (j : Int) < (m : Int) := by omega
      rcases HD.out with h0 | ⟨b, o, rfl, hat⟩
      · omega
      · rcases HD'.out with h0 | ⟨b', o', rfl, hat'⟩
        · omega
        · obtain ⟨p3, r3⟩ := HX.out _ hB.out
          obtain ⟨u, c0, c1, hit⟩ := hat j hjn
          obtain ⟨u', c0', c1', hit'⟩ := hat' j hjn
          obtain ⟨t1, tc, rfl, htc⟩ := hit
          obtain ⟨t1', tc', rfl, htc'⟩ := hit'
          have hnt := (HO.out j hjn).len
          have HT := hid htc
          have HT' := hid htc'
          have HA : Hid (∀ wr, (∃ d, wr = W1.drewN d) → wr.cell? ⟨b, o + j * 2, none⟩ = some (.string (q.atoms.getD j noAt).1) ∧ wr.cell? ⟨b, o + j * 2 + 1, none⟩ = some (.slice t1 (q.atoms.getD j noAt).2.length tc) ∧ wr.cell? ⟨b', o' + j * 2, none⟩ = some (.string (q.atoms.getD j noAt).1) ∧ wr.cell? ⟨b', o' + j * 2 + 1, none⟩ = some (.slice t1' (q.atoms.getD j noAt).2.length tc')) := hid fun wr h => by
            obtain ⟨d, rfl⟩ := h
            exact ⟨c0, c1, c0', c1'⟩
          clear c0 c1 c0' c1' htc htc' hat hat'
          obtain ⟨c0, c1, c0', c1'⟩ := HA.out _ hB.out
          generalize (q.atoms.getD j noAt).1 = nm at *
          generalize (q.atoms.getD j noAt).2 = ts at *
          obtain ⟨nt, hnt'⟩ : ∃ nt, nt = ts.length := ⟨_, rfl⟩
          rw [← hnt'] at HA HT HT' hnt c1 c1'
          have hxx : (!nm.toList == nm.toList) = false := by simp
          have hte : ((nt : Int) != (nt : Int)) = false := by simp
          clear hnt'
          go_upto_region 12 with fail
          go_quiet (fail)
          have hB3 : Hid (∃ d, wr.drewN nq = W1.drewN d) := hid (drewN_step nq hB.out)
          obtain ⟨p3a, r3a⟩ := HX.out _ hB3.out
          obtain ⟨c0a, c1a, c0b, c1b⟩ := HA.out _ hB3.out
          clear p3 r3 c0 c1 c0' c1'
          generalize wr.drewN nq = wr3 at *
          go_wp2_with fail
          clear p3a r3a c0a c1a c0b c1b
          go_loopw [99] (fun t wr => ∃ k : Nat, k ≤ nt ∧ t = .int .i64 k ∧ Hid (∃ d, wr = W1.drewN d)) (fun t _ => nt - (intOf t).toNat)
          case atStart => exact ⟨0, Nat.zero_le _, rfl, hB3⟩
          case round =>
            obtain ⟨k, hk, rfl, hB4⟩ := hrel
            by_cases hkn : k < nt
            · have i2 : (k : Int) < (nt : Int) := by omega
              rcases HT.out with h0 | ⟨bt', ot, rfl, hcell⟩
              · omega
              · rcases HT'.out with h0 | ⟨bu, ou, rfl, hcell'⟩
                · omega
                · obtain ⟨p3, r3⟩ := HX.out _ hB4.out
                  obtain ⟨c0, c1, c0', c1'⟩ := HA.out _ hB4.out
                  have d0 : wr.cell? ⟨bt', ot + k * 2, none⟩ = some (.string (ts.getD k noTm).1) ∧ wr.cell? ⟨bt', ot + k * 2 + 1, none⟩ = some (.int .i64 (ts.getD k noTm).2) := by obtain ⟨d, rfl⟩ := hB4.out; exact hcell k hkn
                  have d1 : wr.cell? ⟨bu, ou + k * 2, none⟩ = some (.string (ts.getD k noTm).1) ∧ wr.cell? ⟨bu, ou + k * 2 + 1, none⟩ = some (.int .i64 (ts.getD k noTm).2) := by obtain ⟨d, rfl⟩ := hB4.out; exact hcell' k hkn
                  obtain ⟨d0, d0'⟩ := d0
                  obtain ⟨d1, d1'⟩ := d1
                  generalize (ts.getD k noTm).1 = x at *
                  generalize (ts.getD k noTm).2 = y at *
                  clear hcell hcell'
                  have hx1 : (x.toList == x.toList) = true := by simp
                  have hy1 : (y == y) = true := by simp
                  go_upto_region 17 with fail
                  go_quiet (fail)
                  go_wp2_with fail
                  go_roundw
                  case rel => exact ⟨k + 1, by omega, by go_num, hid (drewN_step _ hB4.out)⟩
                  case measure => simp [intOf]; omega
            · obtain rfl : k = nt := by omega
              have i2 : ¬ ((k : Int) < (k : Int)) := by omega
              go_wp2_with fail
              go_roundw
              case rel => exact ⟨j + 1, by omega, by go_num, hB4⟩
              case measure => simp [intOf]; omega
    · obtain rfl : j = m := by omega
      have i1 : ¬ ((j : Int) < (j : Int)) := by omega
      go_wp2
      go_ret
      obtain ⟨d, rfl⟩ := hB.out
      exact ⟨rfl, below_drewN HB1.out d⟩

end Go.Proofs.YtcdfoephhjacdaaGreatDoor

/-
  All parts of the law.
-/
namespace Go.Proofs.YtcdfoephhjacdaaGreatDoor
open Go.RowKit
end Go.Proofs.YtcdfoephhjacdaaGreatDoor

/-
  laws.FnRound, walked; what spec.DrawChecked does is a premise (DrwC).
-/
namespace Go.Proofs.YtcdfoephhjacdaaGreatDoor
open Go.RowKit

theorem okr_of {ds : List RelV} (h : dataB ds = true) : OkRels ds := by
  obtain ⟨h1, h2⟩ := gr_of h
  refine ⟨by omega, fun j => ?_⟩
  by_cases hj : j < ds.length
  · have g := h2 j hj
    refine ⟨by have := g.nz; omega, ⟨by have := g.n; omega, fun k => ?_⟩, by rw [g.wl]; have := g.n; omega⟩
    by_cases hk : k < (ds.getD j noRel).rows.length
    · have := (g.row k hk).1; omega
    · rw [List.getD_eq_getElem?_getD, List.getElem?_eq_none (by omega)]; exact Nat.zero_le _
  · rw [List.getD_eq_getElem?_getD, List.getElem?_eq_none (by omega)]
    refine ⟨Nat.zero_le _, ⟨Nat.zero_le _, fun k => ?_⟩, Nat.zero_le _⟩
    rw [List.getD_eq_getElem?_getD]; exact Nat.zero_le _
theorem dq_irels {W : World} {B : Nat} {v : Value} {ds : List RelV} {vr vw : Nat → Value} {us : Nat → List Value} {lo hi : Nat → Nat} (h : DQ W B v ds vr vw us lo hi) : IRelS W v ds := by
  rcases h.own.2 with ⟨rfl, hn⟩ | ⟨g, cap, cur, rfl, hx⟩
  · exact ⟨none, 0, by rw [hn], Or.inl hn⟩
  · refine ⟨_, cap, rfl, Or.inr ⟨g, 0, rfl, fun j hj => ?_⟩⟩
    have hc : ∀ x, x < 4 → W.cell? ⟨g, j * 4 + x, none⟩ = (relC (ds.getD j noRel) (vr j) (vw j))[x]? := fun x hx => by
      rw [h.own.cellAt _ (by omega), flat4 _ (fun _ => rfl) _ j x hj hx]
    rw [Nat.zero_add]
    refine ⟨vr j, vw j, hc 0 (by decide), hc 1 (by decide), hc 2 (by decide), hc 3 (by decide), ?_, own_is (h.ow j hj)⟩
    have hq := h.rq j hj
    rcases hq.own.2 with ⟨e, hn⟩ | ⟨g2, cap2, cur2, e, -, -, h1, -⟩
    · exact ⟨none, 0, by rw [e, hn], Or.inl hn⟩
    · refine ⟨_, cap2, e, Or.inr ⟨g2, 0, rfl, fun m hm => ⟨(us j).getD m undef, ?_, own_is (hq.each m hm)⟩⟩⟩
      obtain ⟨g3, cap3, e3, -, hc3⟩ := hq.get hm
      rw [e] at e3
      simp only [Value.slice.injEq, Option.some.injEq, Addr.mk.injEq, true_and, and_true] at e3
      rw [Nat.zero_add, e3.1]
      exact hc3
/-- the program reads what it printed: data -/
theorem parse_printed {ds : List RelV} (h : dataB ds = true) (hl : (datT ds ds.length).length ≤ 60000) {w w' : World} {e : Ending} (hp : ParE w (datT ds ds.length) e w') : ∃ a c, e = .returned (.tuple #[.agg #[.slice a ds.length c], .int .i64 0]) ∧ Below w.heap.size w w' ∧ IRelS w' (.slice a ds.length c) ds := by
  obtain ⟨st, h1, h2, h3⟩ := data_round h
  obtain ⟨hb, hp⟩ := hp
  rcases hp with ⟨h9, -⟩ | ⟨-, k, hk, -, h9, -⟩ | ⟨-, st', h4, v, ds', vr, vw, us, lo, hi, rfl, h5, h6⟩
  · omega
  · exfalso
    have hno : ∀ m, prT (spl 10 (datT ds ds.length)) (k + 1 + m) = none := fun m => by
      induction m with
      | zero => exact h9
      | succ m ih => show (prT _ (k + 1 + m)).bind _ = none; rw [ih]; rfl
    have := hno ((spl 10 (datT ds ds.length)).length - (k + 1))
    rw [show k + 1 + ((spl 10 (datT ds ds.length)).length - (k + 1)) = (spl 10 (datT ds ds.length)).length by omega, h1] at this
    cases this
  · rw [h1] at h4
    cases h4
    have e : ds' = ds := by
      refine List.ext_getElem (by rw [h5.1, h2.1]) fun i g1 g2 => ?_
      have hi1 : i < st.length := by rw [← h5.1]; exact g1
      have := relOf_uniq (h3 i hi1) (h5.2 i hi1) (h2.2 i hi1)
      rw [List.getD_eq_getElem?_getD, List.getElem?_eq_getElem g1, List.getD_eq_getElem?_getD, List.getElem?_eq_getElem g2] at this
      exact this
    subst e
    have hI := dq_irels h6
    obtain ⟨a, c, rfl, -⟩ := hI
    exact ⟨a, c, rfl, hb, dq_irels h6⟩
/-- and a query -/
theorem parse_query {q : QV} (h : shapeB q = true) (hl : (prqT q).length ≤ 3000) {w w' : World} {e : Ending} (hp : PqE w ⟨(prqT q).toArray⟩ e w') : ∃ a1 c1 a2 c2, e = .returned (.tuple #[.agg #[.string q.name, .slice a1 q.head.length c1, .int .i64 q.ring, .slice a2 q.atoms.length c2], .int .i64 0, .int .i64 0]) ∧ Below w.heap.size w w' ∧ IQ w' (.slice a1 q.head.length c1) (.slice a2 q.atoms.length c2) q := by
  have e1 := pq_round h hl
  obtain ⟨nm, x, hd, r, y, us, rfl, hq, hb, e⟩ := hp
  have e2 : pqQ ⟨(prqT q).toArray⟩ = q := by unfold pqQ; rw [e1]; rfl
  rw [e2] at e
  subst e
  rw [e1]
  have hi := hq.is (nm := nm) (r := r)
  obtain ⟨a1, c1, rfl, -⟩ := hi.head
  obtain ⟨a2, c2, rfl, -⟩ := hi.atoms
  exact ⟨a1, c1, a2, c2, rfl, hb, hi⟩

end Go.Proofs.YtcdfoephhjacdaaGreatDoor

/-
  laws.FnRound, walked.
-/
namespace Go.Proofs.YtcdfoephhjacdaaGreatDoor
open Go.RowKit

theorem two_new (w1 : World) (x y0 y1 y2 y3 : Value) : Below w1.heap.size w1 ((w1.alloc (.cells #[x] 25)).alloc (.cells #[y0, y1, y2, y3] 29)) ∧ ((w1.alloc (.cells #[x] 25)).alloc (.cells #[y0, y1, y2, y3] 29)).cell? ⟨w1.heap.size, 0, none⟩ = some x ∧ ((w1.alloc (.cells #[x] 25)).alloc (.cells #[y0, y1, y2, y3] 29)).cell? ⟨w1.heap.size + 1, 0, none⟩ = some y0 ∧ ((w1.alloc (.cells #[x] 25)).alloc (.cells #[y0, y1, y2, y3] 29)).cell? ⟨w1.heap.size + 1, 1, none⟩ = some y1 ∧ ((w1.alloc (.cells #[x] 25)).alloc (.cells #[y0, y1, y2, y3] 29)).cell? ⟨w1.heap.size + 1, 2, none⟩ = some y2 ∧ ((w1.alloc (.cells #[x] 25)).alloc (.cells #[y0, y1, y2, y3] 29)).cell? ⟨w1.heap.size + 1, 3, none⟩ = some y3 := by
  refine ⟨((Below.refl _ _).alloc (Nat.le_refl _) _).alloc (by simp) _, ?_, ?_, ?_, ?_, ?_⟩
  · rw [World.cell?_alloc_past _ _ _ (by simp), World.cell?_alloc_at _ _ _ _ rfl]; rfl
  all_goals (rw [World.cell?_alloc_at _ _ _ _ (by simp)]; rfl)
theorem four_new (w1 : World) (y0 y1 y2 y3 : Value) : Below w1.heap.size w1 (w1.alloc (.cells #[y0, y1, y2, y3] 29)) ∧ (w1.alloc (.cells #[y0, y1, y2, y3] 29)).cell? ⟨w1.heap.size, 0, none⟩ = some y0 ∧ (w1.alloc (.cells #[y0, y1, y2, y3] 29)).cell? ⟨w1.heap.size, 1, none⟩ = some y1 ∧ (w1.alloc (.cells #[y0, y1, y2, y3] 29)).cell? ⟨w1.heap.size, 2, none⟩ = some y2 ∧ (w1.alloc (.cells #[y0, y1, y2, y3] 29)).cell? ⟨w1.heap.size, 3, none⟩ = some y3 := by
  refine ⟨(Below.refl _ _).alloc (Nat.le_refl _) _, ?_, ?_, ?_, ?_⟩
  all_goals (rw [World.cell?_alloc_at _ _ _ _ rfl]; rfl)
theorem one_new (w1 : World) (x : Value) : Below w1.heap.size w1 (w1.alloc (.cells #[x] 25)) ∧ (w1.alloc (.cells #[x] 25)).cell? ⟨w1.heap.size, 0, none⟩ = some x :=
  ⟨(Below.refl _ _).alloc (Nat.le_refl _) _, by rw [World.cell?_alloc_at _ _ _ _ rfl]; rfl⟩
theorem upc {X Y : World} {b o : Nat} {v : Value} (hb : Below X.heap.size X Y) (hc : X.cell? ⟨b, o, none⟩ = some v) : Y.cell? ⟨b, o, none⟩ = some v := (hb.cell (p := ⟨b, o, none⟩) (World.block_lt_of_cell? X _ hc)).trans hc

set_option maxHeartbeats 8000000 in
set_option maxRecDepth 1000000 in
theorem fnRound_walk (K : DrwC) (w : World) (a : Option Addr) (n cap : Nat) (L : Nat → Int) (hn : n ≤ 9223372036854775807) (hB : n ≤ 1048576 → Cod w a L n) (htab : Lib.TabIs Tryz.prog w "internal/strconv.uint64pow10" .u64 Lib.pow10Tab) (hrw : RgW w) (hrv : RgV w) (hsy : SyV w) (her : ErrQ w) (mx : Int) (hmx : w.cell? ⟨3, 0, none⟩ = some (.int .i64 mx)) :
    Calls Tryz.prog 3 #[.slice a n cap] w fun e w' => e = .returned (.bool true) ∧ Below w.heap.size w w' := by
  by_cases hbig : 1048576 < n
  · have q1 : (1048576 : Int) < (n : Int) := by omega
    clear K hB htab hrw hrv hsy her hmx
    go_enter Tryz.func3, Tryz.ntmps3
    go_wp2
    go_ret
    exact ⟨rfl, Below.refl _ _⟩
  · have q1 : ¬ (1048576 : Int) < (n : Int) := by omega
    have hcod := hB (by omega)
    obtain ⟨hG, hM1, hM4⟩ := drawD_ok L n (0, 0)
    have hdat : dataB (dsC L n) = true := hG.ok (by omega)
    have hshort : (datT (dsC L n) (dsC L n).length).length ≤ 6000 := hG.short (by omega)
    obtain ⟨hshape, hats, hhd⟩ : shapeB (qC L n) = true ∧ AtsG (qC L n).atoms ∧ (qC L n).head.length ≤ 15 := chkQ_ok hG (by omega) L n (drawD L n (0, 0)).2
    have hqs := short_query hshape hats hhd
    have hokq := okq_of hshape hats hhd
    have hokr := okr_of hdat
    have hprt : prtT (dsC L n) = datT (dsC L n) (dsC L n).length := if_pos hdat
    have KD : Hid (∀ W, Below w.heap.size w W → Calls Tryz.prog 5 #[.slice a n cap] W (DrwE W (dsC L n) (qC L n))) := hid fun W hW => K W a n cap L (by omega) (hcod.below hW)
    generalize dsC L n = ds at *
    generalize qC L n = q at *
    have KP : Hid (∀ W a0 c0, Below w.heap.size w W → IRelS W (.slice a0 ds.length c0) ds → Calls Tryz.prog 7 #[.agg #[.slice a0 ds.length c0]] W fun e w' => e = .returned (.string ⟨(datT ds ds.length).toArray⟩) ∧ Below W.heap.size W w') := hid fun W a0 c0 hW hI => by
      have := iPrintData_calls W (.slice a0 ds.length c0) ds hI hokr (tab_below htab hW)
      rw [hprt] at this
      exact this
    have hsz : (⟨(datT ds ds.length).toArray⟩ : ByteArray).size = (datT ds ds.length).length := by simp [ByteArray.size]
    have KR : Hid (∀ W, Below w.heap.size w W → Calls Tryz.prog 6 #[.string ⟨(datT ds ds.length).toArray⟩] W fun e w' => ∃ a c, e = .returned (.tuple #[.agg #[.slice a ds.length c], .int .i64 0]) ∧ Below W.heap.size W w' ∧ IRelS w' (.slice a ds.length c) ds) := hid fun W hW => (iParse_calls W ⟨(datT ds ds.length).toArray⟩ mx (upc hW hmx) (by omega)).mono fun e w' h => parse_printed hdat (by omega) (by simpa using h)
    have KQ : Hid (∀ W gh ch a1 c1, Below w.heap.size w W → IQ W (.slice (some ⟨gh, 0, none⟩) q.head.length ch) (.slice a1 q.atoms.length c1) q → gh < W.heap.size → q.head.length ≤ ch → Calls Tryz.prog 9 #[.agg #[.string q.name, .slice (some ⟨gh, 0, none⟩) q.head.length ch, .int .i64 q.ring, .slice a1 q.atoms.length c1]] W fun e w' => e = .returned (.string ⟨(prqT q).toArray⟩) ∧ Below W.heap.size W w') := hid fun W gh ch a1 c1 hW hI hg hc => iPrintQuery_cap W gh ch _ q hc hI hg hokq (tab_below htab hW) (hrw.below hW)
    have KS : Hid (∀ W, Below w.heap.size w W → Calls Tryz.prog 8 #[.string ⟨(prqT q).toArray⟩] W fun e w' => ∃ a1 c1 a2 c2, e = .returned (.tuple #[.agg #[.string q.name, .slice a1 q.head.length c1, .int .i64 q.ring, .slice a2 q.atoms.length c2], .int .i64 0, .int .i64 0]) ∧ Below W.heap.size W w' ∧ IQ w' (.slice a1 q.head.length c1) (.slice a2 q.atoms.length c2) q) := hid fun W hW => (iParseQ_calls W ⟨(prqT q).toArray⟩ (by rw [show (⟨(prqT q).toArray⟩ : ByteArray).size = (prqT q).length from by simp [ByteArray.size]]; omega) (hsy.below hW) (hrv.below hW) (her.below hW)).mono fun e w' h => parse_query hshape hqs h
    have KH : Hid (∀ W a0 c0 a1 c1, IRelS W (.slice a0 ds.length c0) ds → IRelS W (.slice a1 ds.length c1) ds → Calls Tryz.prog 10 #[.agg #[.slice a0 ds.length c0], .agg #[.slice a1 ds.length c1]] W fun e w' => e = .returned (.bool true) ∧ Below W.heap.size W w') := hid fun W a0 c0 a1 c1 h1 h2 => hData_same W _ _ ds h1 h2 hokr
    have KE : Hid (∀ W a0 c0 a1 c1 a2 c2 a3 c3, IQ W (.slice a0 q.head.length c0) (.slice a1 q.atoms.length c1) q → IQ W (.slice a2 q.head.length c2) (.slice a3 q.atoms.length c3) q → Calls Tryz.prog 11 #[.agg #[.string q.name, .slice a0 q.head.length c0, .int .i64 q.ring, .slice a1 q.atoms.length c1], .agg #[.string q.name, .slice a2 q.head.length c2, .int .i64 q.ring, .slice a3 q.atoms.length c3]] W fun e w' => e = .returned (.bool true) ∧ Below W.heap.size W w') := hid fun W a0 c0 a1 c1 a2 c2 a3 c3 h1 h2 => hQuery_same W _ _ _ _ q h1 h2 hokq
    clear K hB htab hrw hrv hsy her hmx hcod hG hdat hshort hshape hats hhd hqs hokq hokr hprt hsz
    generalize hTD : (⟨(datT ds ds.length).toArray⟩ : ByteArray) = tD at *
    generalize hTQ : (⟨(prqT q).toArray⟩ : ByteArray) = tQ at *
    clear hTD hTQ
    go_enter Tryz.func3, Tryz.ntmps3
    go_upto_region 4 with (first | (go_at_call 5; refine (KD.out w (Below.refl _ _)).mono ?_; rintro e w1 ⟨a0, c0, gh, ch, a1, c1, rfl, hb1, hI1, hQ1, hgh1, hch1⟩) | fail)
    obtain ⟨hb2, d2, x0, x1, x2, x3⟩ := two_new w1 (.slice a0 ds.length c0) (.string q.name) (.slice (some ⟨gh, 0, none⟩) q.head.length ch) (.int .i64 q.ring) (.slice a1 q.atoms.length c1)
    have HBa := hid (bt hb1 hb2)
    have HIa := hid (hI1.below hb2)
    have HQa := hid (hQ1.below hb2)
    have hgha := Nat.lt_of_lt_of_le hgh1 hb2.size
    have hX := And.intro x0 (And.intro x1 (And.intro x2 x3))
    have HX := hid hX
    generalize (w1.alloc (.cells #[.slice a0 ds.length c0] 25)).alloc (.cells #[.string q.name, .slice (some ⟨gh, 0, none⟩) q.head.length ch, .int .i64 q.ring, .slice a1 q.atoms.length c1] 29) = W2 at *
    clear hb1 hI1 hQ1 hgh1 hb2 x0 x1 x2 x3 hX
    generalize w1.heap.size = B1 at *
    go_upto_region 5 with (first | (go_at_call 7; refine (KP.out W2 _ _ HBa.out HIa.out).mono ?_; rintro e w3 ⟨rfl, hb3⟩; have HB3 := hid (bt HBa.out hb3)) | (go_at_call 6; refine (KR.out w3 HB3.out).mono ?_; rintro e w4 ⟨a4, c4, rfl, hb4, hI4⟩) | fail)
    obtain ⟨hb5, d5⟩ := one_new w4 (.slice a4 ds.length c4)
    have hbA := bt hb3 (bt hb4 hb5)
    have HB5 := hid (bt HBa.out hbA)
    have HI5 := hid (hI4.below hb5)
    have HQ5 := hid (HQa.out.below hbA)
    have hgh5 := Nat.lt_of_lt_of_le hgha hbA.size
    obtain ⟨x0, x1, x2, x3⟩ := HX.out
    replace x0 := upc hbA x0
    replace x1 := upc hbA x1
    replace x2 := upc hbA x2
    replace x3 := upc hbA x3
    generalize w4.alloc (.cells #[.slice a4 ds.length c4] 25) = W5 at *
    clear hb3 hb4 hb5 hbA hI4 HX HBa HIa HQa hgha d2 HB3
    generalize w4.heap.size = B4 at *
    go_upto_region 6 with (first | (go_at_call 9; refine (KQ.out W5 _ _ _ _ HB5.out HQ5.out hgh5 hch1).mono ?_; rintro e w6 ⟨rfl, hb6⟩; have HB6 := hid (bt HB5.out hb6)) | (go_at_call 8; refine (KS.out w6 HB6.out).mono ?_; rintro e w7 ⟨a7, c7, a8, c8, rfl, hb7, hQ7⟩) | fail)
    obtain ⟨hb8, y0, y1, y2, y3⟩ := four_new w7 (.string q.name) (.slice a7 q.head.length c7) (.int .i64 q.ring) (.slice a8 q.atoms.length c8)
    have hbB := bt hb6 (bt hb7 hb8)
    have HB8 := hid (bt HB5.out hbB)
    have HI8 := hid (HI5.out.below hbB)
    have HQ8 := hid (hQ7.below hb8)
    replace d5 := upc hbB d5
    have HY := hid (And.intro d5 (And.intro y0 (And.intro y1 (And.intro y2 y3))))
    generalize w7.alloc (.cells #[.string q.name, .slice a7 q.head.length c7, .int .i64 q.ring, .slice a8 q.atoms.length c8] 29) = W8 at *
    clear hb6 hb7 hb8 hbB hQ7 HB5 HI5 HQ5 HB6 x0 x1 x2 x3 y0 y1 y2 y3 d5 hgh5 hch1
    generalize w7.heap.size = B7 at *
    go_upto_region 7 with (first | (go_at_call 5; refine (KD.out W8 HB8.out).mono ?_; rintro e w9 ⟨a9, c9, gh9, ch9, a10, c10, rfl, hb9, hI9, hQ9, hgh9, hch9⟩) | fail)
    obtain ⟨hb10, e2, z0, z1, z2, z3⟩ := two_new w9 (.slice a9 ds.length c9) (.string q.name) (.slice (some ⟨gh9, 0, none⟩) q.head.length ch9) (.int .i64 q.ring) (.slice a10 q.atoms.length c10)
    have hbC := bt hb9 hb10
    have HBX := hid (bt HB8.out hbC)
    have HIx := hid (HI8.out.below hbC)
    have HQx := hid (HQ8.out.below hbC)
    have HIy := hid (hI9.below hb10)
    have HQy := hid (hQ9.below hb10)
    obtain ⟨d5, y0, y1, y2, y3⟩ := HY.out
    replace d5 := upc hbC d5
    replace y0 := upc hbC y0
    replace y1 := upc hbC y1
    replace y2 := upc hbC y2
    replace y3 := upc hbC y3
    generalize (w9.alloc (.cells #[.slice a9 ds.length c9] 25)).alloc (.cells #[.string q.name, .slice (some ⟨gh9, 0, none⟩) q.head.length ch9, .int .i64 q.ring, .slice a10 q.atoms.length c10] 29) = WX at *
    clear hb9 hb10 hbC hI9 hQ9 hgh9 hch9 HB8 HI8 HQ8 HY
    generalize w9.heap.size = B9 at *
    go_wp2_with (first
      | (go_at_call 10; refine (KH.out WX _ _ _ _ HIx.out HIy.out).mono ?_; rintro e wA ⟨rfl, hbA⟩; have HBA := hid (bt HBX.out hbA); have HQx2 := hid (HQx.out.below hbA); have HQy2 := hid (HQy.out.below hbA); replace y0 := upc hbA y0; replace y1 := upc hbA y1; replace y2 := upc hbA y2; replace y3 := upc hbA y3; replace z0 := upc hbA z0; replace z1 := upc hbA z1; replace z2 := upc hbA z2; replace z3 := upc hbA z3)
      | (go_at_call 11; refine (KE.out wA _ _ _ _ _ _ _ _ HQx2.out HQy2.out).mono ?_; rintro e wZ ⟨rfl, hbZ⟩)
      | fail)
    go_ret
    exact ⟨rfl, bt HBA.out hbZ⟩

end Go.Proofs.YtcdfoephhjacdaaGreatDoor
