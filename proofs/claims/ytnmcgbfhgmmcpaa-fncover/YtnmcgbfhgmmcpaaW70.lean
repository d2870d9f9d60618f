import Derived.Test.YtnmcgbfhgmmcpaaW33
import Derived.Test.YtnmcgbfhgmmcpaaW67
import Derived.Test.YtnmcgbfhgmmcpaaW69
/-
  laws.FnCover, walked.
-/
namespace Go.Proofs.Ytnmcgbfhgmmcpaa
open Go.RowKit

set_option maxHeartbeats 60000000 in
set_option maxRecDepth 1000000 in
theorem fnCover_walk (W : World) (a : Option Addr) (n cap : Nat) (hB : ∀ j, j < n → ∃ b o x, a = some ⟨b, o, none⟩ ∧ W.cell? ⟨b, o + j, none⟩ = some (.int .u8 x) ∧ 0 ≤ x ∧ x < 256) (hn : n ≤ 9223372036854775807) :
    Calls Try.prog 3 #[.slice a n cap] W fun e w' => e = .returned (.bool true) ∧ Below W.heap.size W w' := by
  by_cases hbig : 1048576 < n
  · have i0 : (1048576 : Int) < (n : Int) := by omega
    clear hB
    go_enter Try.func3, Try.ntmps3
    go_wp2
    go_ret
    exact ⟨rfl, Below.refl _ _⟩
  have i0 : ¬ ((1048576 : Int) < (n : Int)) := by omega
  have KD := hid (drawCover_calls W a n cap hB (by omega))
  clear hB
  go_enter Try.func3, Try.ntmps3
  go_wp2_with fail
  refine KD.out.mono ?_
  rintro e w1 ⟨vb, ve, rfl, ⟨bag, es, hIS, hISS, hlb, hle, hlj⟩, hb1⟩
  have HB1 := hid hb1
  have HIS := hid hIS
  have HES := hid hISS
  have HSH : Hid (Short es) := hid ⟨by omega, fun j => by have := hlj j; omega⟩
  obtain ⟨aB, cB, e1, -⟩ := hIS
  obtain ⟨aE, cE, e2, -⟩ := hISS
  subst e1 e2
  have HLJ := hid hlj
  clear KD hb1 hlj
  cases hYN : (setB bag && edgesB es && coverB bag es)
  case false =>
    go_wp2_with fail
    refine (sCoverOf_calls w1 _ _ bag es (fun _ => 0) (fun _ => 0) HIS.out HES.out (by omega) HSH.out (fun h => by rw [hYN] at h; cases h)).mono ?_
    rintro e w2 ⟨hcov, hb2⟩
    obtain rfl : e = .returned (.agg #[.bool false, .int .i64 0, .int .i64 0, .slice none 0 0, .slice none 0 0]) := by
      rcases hcov with ⟨_, h⟩ | ⟨h, _⟩
      · exact h
      · rw [hYN] at h; cases h
    have HB2 := hid (bt HB1.out hb2)
    have HIS2 := hid (HIS.out.below hb2)
    have HES2 := hid (HES.out.below hb2)
    clear hcov hb2 HIS HES HB1
    go_upto_region 5 with fail
    have HB3 := hid (bt HB2.out (al (.cells #[.bool false, .int .i64 0, .int .i64 0, .slice none 0 0, .slice none 0 0] 31)))
    have HIS3 := hid (HIS2.out.below (al (.cells #[.bool false, .int .i64 0, .int .i64 0, .slice none 0 0, .slice none 0 0] 31)))
    have HES3 := hid (HES2.out.below (al (.cells #[.bool false, .int .i64 0, .int .i64 0, .slice none 0 0, .slice none 0 0] 31)))
    have c5 : (w2.alloc (.cells #[.bool false, .int .i64 0, .int .i64 0, .slice none 0 0, .slice none 0 0] 31)).cell? ⟨w2.heap.size, 0, none⟩ = some (.bool false) := by simp
    clear HB2 HIS2 HES2
    generalize w2.alloc (.cells #[.bool false, .int .i64 0, .int .i64 0, .slice none 0 0, .slice none 0 0] 31) = W3 at *
    go_wp2_with fail
    refine (coverOf_no W3 _ _ bag es HIS3.out HES3.out (by omega) HSH.out hYN).mono ?_
    rintro e w4 ⟨rfl, hb4⟩
    have d5 := bcl hb4 c5
    have d5a : ∀ o', (w4.alloc o').cell? ⟨w2.heap.size, 0, none⟩ = some (.bool false) := fun o' => bcl (al o') d5
    have HB4 := hid (bt HB3.out hb4)
    clear hb4 HB3 HIS3 HES3 c5 d5
    go_wp2
    go_ret
    exact ⟨rfl, bt HB4.out (al _)⟩
  case true =>
    have h123 : setB bag = true ∧ edgesB es = true ∧ coverB bag es = true := by simpa [Bool.and_eq_true, and_assoc] using hYN
    obtain ⟨h1, h2, h3⟩ := h123
    obtain ⟨_, _, x0, y0, _, _, _, hX0, hY0, hPX0, _⟩ := calls_some (coverOf_yes w1 _ _ bag es HIS.out HES.out (by omega) HSH.out h1 h2 h3)
    have H123 := hid (And.intro h1 (And.intro h2 h3))
    have KS := hid (sCoverOf_calls w1 _ _ bag es x0 y0 HIS.out HES.out (by omega) HSH.out (fun _ => ⟨hX0, hY0, hPX0⟩))
    have HYN := hid hYN
    clear hX0 hY0 hPX0 h1 h2 h3 hYN
    go_wp2_with fail
    refine KS.out.mono ?_
    rintro e w2 ⟨hcov, hb2⟩
    obtain ⟨uW, uD, rfl, i1, i2⟩ : ∃ vW vD, e = .returned (.agg #[.bool true, .int .i64 (Cov.sm es.length x0).num, .int .i64 (Cov.sm es.length x0).den, vW, vD]) ∧ IR w2 vW (prs es.length x0) ∧ IR w2 vD (prs bag.length y0) := by
      rcases hcov with ⟨h, _⟩ | ⟨_, h⟩
      · rw [HYN.out] at h; cases h
      · exact h
    obtain ⟨a1, q1, eu1, -⟩ := i1
    obtain ⟨a2, q2, eu2, -⟩ := i2
    rw [prs_length] at eu1 eu2
    subst eu1 eu2
    have HB2 := hid (bt HB1.out hb2)
    have HIS2 := hid (HIS.out.below hb2)
    have HES2 := hid (HES.out.below hb2)
    generalize (Cov.sm es.length x0).num = s1 at *
    generalize ((Cov.sm es.length x0).den : Int) = s2 at *
    clear hcov hb2 HIS HES HB1 KS HYN
    go_upto_region 5 with fail
    have HB3 := hid (bt HB2.out (al (.cells #[.bool true, .int .i64 s1, .int .i64 s2, .slice a1 es.length q1, .slice a2 bag.length q2] 31)))
    have HIS3 := hid (HIS2.out.below (al (.cells #[.bool true, .int .i64 s1, .int .i64 s2, .slice a1 es.length q1, .slice a2 bag.length q2] 31)))
    have HES3 := hid (HES2.out.below (al (.cells #[.bool true, .int .i64 s1, .int .i64 s2, .slice a1 es.length q1, .slice a2 bag.length q2] 31)))
    have c5 : (w2.alloc (.cells #[.bool true, .int .i64 s1, .int .i64 s2, .slice a1 es.length q1, .slice a2 bag.length q2] 31)).cell? ⟨w2.heap.size, 0, none⟩ = some (.bool true) := by simp
    clear HB2 HIS2 HES2
    generalize w2.alloc (.cells #[.bool true, .int .i64 s1, .int .i64 s2, .slice a1 es.length q1, .slice a2 bag.length q2] 31) = W3 at *
    generalize w2.heap.size = b5 at *
    go_wp2_with fail
    refine (coverOf_yes W3 _ _ bag es HIS3.out HES3.out (by omega) HSH.out H123.out.1 H123.out.2.1 H123.out.2.2).mono ?_
    rintro e w4 ⟨x, y, vW, vD, rfl, hX, hY, hPX, hPY, hoW, hoD, -, hb4⟩
    have hiw := own_ir hoW
    have hid' := own_ir hoD
    obtain ⟨aW, cW, eW, -⟩ := own_ir hoW
    obtain ⟨aD, cD, eD, -⟩ := own_ir hoD
    rw [prs_length] at eW eD
    subst eW eD
    obtain ⟨sn, sd, tn, td, pn, pd, qn, qd, hA⟩ := acc_exists H123.out.2.1 H123.out.1 H123.out.2.2 hX hY hPX hPY
    obtain ⟨nx, dx, ny, dy, hA, hIW, hID⟩ : ∃ nx dx ny dy : Nat → Int, Acc bag es (Cov.sm es.length x).num ((Cov.sm es.length x).den : Int) nx dx ny dy sn sd tn td pn pd qn qd ∧ (∀ i, i < es.length → ∃ b o, aW = some ⟨b, o, none⟩ ∧ w4.cell? ⟨b, o + i * 2, none⟩ = some (.int .i64 (nx i)) ∧ w4.cell? ⟨b, o + i * 2 + 1, none⟩ = some (.int .i64 (dx i))) ∧ (∀ i, i < bag.length → ∃ b o, aD = some ⟨b, o, none⟩ ∧ w4.cell? ⟨b, o + i * 2, none⟩ = some (.int .i64 (ny i)) ∧ w4.cell? ⟨b, o + i * 2 + 1, none⟩ = some (.int .i64 (dy i))) :=
      ⟨_, _, _, _, hA, (ir_parts hiw).2, (ir_parts hid').2⟩
    have HA := hid hA
    have hIS4 := (is_parts (HIS3.out.below hb4)).2
    have hES4 := (iss_parts (HES3.out.below hb4)).2
    have HF4 := hid (And.intro hIW (And.intro hID (And.intro hIS4 hES4)))
    have HB4 := hid (bt HB3.out hb4)
    have d5 := bcl hb4 c5
    generalize (Cov.sm es.length x).num = wn at *
    generalize ((Cov.sm es.length x).den : Int) = wd at *
    clear hX hY hPX hPY hoW hoD hiw hid' hA hIW hID hIS4 hES4 hb4 c5 HB3 HIS3 HES3 H123 HSH
    go_upto_region 6 with fail
    have HB5 := hid (bt HB4.out (al (.cells #[.bool true, .int .i64 wn, .int .i64 wd, .slice aW es.length cW, .slice aD bag.length cD] 31)))
    have d5a : (w4.alloc (.cells #[.bool true, .int .i64 wn, .int .i64 wd, .slice aW es.length cW, .slice aD bag.length cD] 31)).cell? ⟨b5, 0, none⟩ = some (.bool true) := bcl (al _) d5
    have c0 : (w4.alloc (.cells #[.bool true, .int .i64 wn, .int .i64 wd, .slice aW es.length cW, .slice aD bag.length cD] 31)).cell? ⟨w4.heap.size, 0, none⟩ = some (.bool true) := by simp
    have c1 : (w4.alloc (.cells #[.bool true, .int .i64 wn, .int .i64 wd, .slice aW es.length cW, .slice aD bag.length cD] 31)).cell? ⟨w4.heap.size, 1, none⟩ = some (.int .i64 wn) := by simp
    have c2 : (w4.alloc (.cells #[.bool true, .int .i64 wn, .int .i64 wd, .slice aW es.length cW, .slice aD bag.length cD] 31)).cell? ⟨w4.heap.size, 2, none⟩ = some (.int .i64 wd) := by simp
    have c3 : (w4.alloc (.cells #[.bool true, .int .i64 wn, .int .i64 wd, .slice aW es.length cW, .slice aD bag.length cD] 31)).cell? ⟨w4.heap.size, 3, none⟩ = some (.slice aW es.length cW) := by simp
    have c4 : (w4.alloc (.cells #[.bool true, .int .i64 wn, .int .i64 wd, .slice aW es.length cW, .slice aD bag.length cD] 31)).cell? ⟨w4.heap.size, 4, none⟩ = some (.slice aD bag.length cD) := by simp
    have HL := hid (al (w := w4) (.cells #[.bool true, .int .i64 wn, .int .i64 wd, .slice aW es.length cW, .slice aD bag.length cD] 31))
    clear d5 HB4
    generalize w4.alloc (.cells #[.bool true, .int .i64 wn, .int .i64 wd, .slice aW es.length cW, .slice aD bag.length cD] 31) = W5 at *
    generalize hb6 : w4.heap.size = b6 at c0 c1 c2 c3 c4 ⊢
    clear hb6
    go_upto_region 12 with fail
    go_wp2_with fail
    refine (mkR 0 W5 (Or.inl rfl)).mono ?_
    rintro e w6 ⟨rfl, hb6⟩
    have HB6 := hid hb6
    clear hb6 d5a c0
    go_upto_region 13 with fail
    have HT7 := hid (two_new w6 0 1 28)
    have HB7 := hid (bt HB6.out (al (.cells #[.int .i64 0, .int .i64 1] 28)))
    clear HB6
    generalize w6.alloc (.cells #[.int .i64 0, .int .i64 1] 28) = W7 at *
    generalize w6.heap.size = b7 at *
    go_wp2_with fail
    refine (mkR 1 W7 (Or.inr rfl)).mono ?_
    rintro e w7 ⟨rfl, hb7⟩
    have HB8 := hid hb7
    clear hb7
    go_upto_region 14 with fail
    have HT8 := hid (two_new w7 1 1 28)
    have HB78 := hid (bt HB8.out (al (.cells #[.int .i64 1, .int .i64 1] 28)))
    clear HB8
    generalize w7.alloc (.cells #[.int .i64 1, .int .i64 1] 28) = W8 at *
    generalize w7.heap.size = b8 at *
    have hb58 := bt HB7.out HB78.out
    have HBW : Hid (Below W.heap.size W W8) := hid (bt HB5.out hb58)
    have hb48 := bt HL.out hb58
    have HF : Hid (Fx W8 b6 b7 b8 aB aE aW aD cW cD bag es wn wd nx dx ny dy) := hid (by
      obtain ⟨f1, f2, f3, f4⟩ := HF4.out
      refine ⟨bcl hb58 c1, bcl hb58 c2, bcl hb58 c3, bcl hb58 c4, HT7.out.below HT7.out.lt HB78.out, HT8.out, fun i hi => ?_, fun i hi => ?_, fun i hi => ?_, fun i hi => ?_⟩
      · obtain ⟨b, o, e, g1, g2⟩ := f1 i hi
        exact ⟨b, o, e, bcl hb48 g1, bcl hb48 g2⟩
      · obtain ⟨b, o, e, g1, g2⟩ := f2 i hi
        exact ⟨b, o, e, bcl hb48 g1, bcl hb48 g2⟩
      · obtain ⟨b, o, e, g1⟩ := f3 i hi
        exact ⟨b, o, e, bcl hb48 g1⟩
      · obtain ⟨b, o, au, cu, e, g1, g2⟩ := f4 i hi
        refine ⟨b, o, au, cu, e, bcl hb48 g1, fun p hp => ?_⟩
        obtain ⟨bu, ou, e', g3⟩ := g2 p hp
        exact ⟨bu, ou, e', bcl hb48 g3⟩)
    clear hb58 hb48 HF4 HT7 HT8 HB7 HB78 HB5 HL c1 c2 c3 c4
    have z0 := HF.out.z.1
    have z1 := HF.out.z.2.1
    go_upto_region 15 with fail
    have HT9 := hid (two_new W8 0 1 28)
    have HB9 := hid (al (w := W8) (.cells #[.int .i64 0, .int .i64 1] 28))
    clear z0 z1
    have e3 := bcl HB9.out HF.out.e3
    generalize W8.alloc (.cells #[.int .i64 0, .int .i64 1] 28) = W9 at *
    go_wp2_with fail
    clear e3
    go_loopw [83] (fun t wr => ∃ i : Nat, i ≤ es.length ∧ t = .int .i64 i ∧ Hid (Below W8.heap.size W8 wr ∧ Two wr W8.heap.size (sn i) (sd i))) (fun t _ => es.length - (intOf t).toNat)
    case atStart => exact ⟨0, Nat.zero_le _, rfl, hid ⟨HB9.out, by rw [HA.out.s0.1, HA.out.s0.2]; exact HT9.out⟩⟩
    case round =>
      clear HT9 HB9
      obtain ⟨i, hiu, rfl, HH⟩ := hrel
      have HFr := hid (HF.out.below HH.out.1)
      by_cases hlt : i < es.length
      · have i1 : (i : Int) < (es.length : Int) := by omega
        obtain ⟨b, o, ea, k1, k2⟩ := HFr.out.iw i hlt
        subst ea
        go_upto_region 18 with fail
        have HT11 := hid (two_new wr (nx i) (dx i) 28)
        have HL := hid (al (w := wr) (.cells #[.int .i64 (nx i), .int .i64 (dx i)] 28))
        generalize wr.alloc (.cells #[.int .i64 (nx i), .int .i64 (dx i)] 28) = W11 at *
        have z0 := bcl HL.out HFr.out.z.1
        have z1 := bcl HL.out HFr.out.z.2.1
        have r0 := HT11.out.1
        have r1 := HT11.out.2.1
        clear k1 k2
        go_wp2_with fail
        refine (HA.out.kc1 i W11 hlt).mono ?_
        rintro e w12 ⟨s, rfl, hs, hb12⟩
        have hs' : ¬ (s < 0) := by omega
        have hbt := bt HL.out hb12
        have q0 := bcl hbt HH.out.2.1
        have q1 := bcl hbt HH.out.2.2.1
        have r0' := bcl hb12 r0
        have r1' := bcl hb12 r1
        have HBT := hid hbt
        clear z0 z1 r0 r1 hb12 hbt HT11 HL
        go_wp2_with fail
        refine (HA.out.ka1 i w12 hlt).mono ?_
        rintro e w13 ⟨rfl, hb13⟩
        have hb3 := bt HBT.out hb13
        obtain ⟨t0, t1, t2, t3⟩ := HH.out.2.below HH.out.2.lt hb3
        have HN := hid (acc_step HH.out.1 (Nat.le_refl _) HH.out.2 hb3 HH.out.1.size (sn (i + 1)) (sd (i + 1)))
        clear q0 q1 r0' r1' hb13 hb3 HBT HFr
        go_wp2
        go_roundw
        case rel => exact ⟨i + 1, by omega, by go_num, HN⟩
        case measure => simp [intOf]; omega
      · obtain rfl : i = es.length := by omega
        have i1 : ¬ ((es.length : Int) < (es.length : Int)) := by omega
        generalize wr = W10 at *
        have HTW : Hid (Two W10 W8.heap.size wn wd) := hid (by have := HH.out.2; rw [HA.out.su.1, HA.out.su.2] at this; exact this)
        have HBW10 : Hid (Below W.heap.size W W10) := hid (HBW.out.trans (HH.out.1.mono HBW.out.size))
        have HF10 := HFr
        clear HH HFr HF HBW
        have z0 := HF10.out.z.1
        have z1 := HF10.out.z.2.1
        go_upto_region 23 with fail
        have HT12 := hid (two_new W10 0 1 28)
        have HB12 := hid (al (w := W10) (.cells #[.int .i64 0, .int .i64 1] 28))
        have e4 := bcl HB12.out HF10.out.e4
        clear z0 z1
        generalize W10.alloc (.cells #[.int .i64 0, .int .i64 1] 28) = W12 at *
        go_wp2_with fail
        clear e4
        go_loopw [99] (fun t wr => ∃ i : Nat, i ≤ bag.length ∧ t = .int .i64 i ∧ Hid (Below W10.heap.size W10 wr ∧ Two wr W10.heap.size (tn i) (td i))) (fun t _ => bag.length - (intOf t).toNat)
        case atStart => exact ⟨0, Nat.zero_le _, rfl, hid ⟨HB12.out, by rw [HA.out.t0.1, HA.out.t0.2]; exact HT12.out⟩⟩
        case round =>
          clear HT12 HB12
          obtain ⟨i, hiu, rfl, HH⟩ := hrel
          have HFr := hid (HF10.out.below HH.out.1)
          by_cases hlt : i < bag.length
          · have i1 : (i : Int) < (bag.length : Int) := by omega
            obtain ⟨b, o, ea, k1, k2⟩ := HFr.out.id i hlt
            subst ea
            go_upto_region 26 with fail
            have HT11 := hid (two_new wr (ny i) (dy i) 28)
            have HL := hid (al (w := wr) (.cells #[.int .i64 (ny i), .int .i64 (dy i)] 28))
            generalize wr.alloc (.cells #[.int .i64 (ny i), .int .i64 (dy i)] 28) = W11 at *
            have z0 := bcl HL.out HFr.out.z.1
            have z1 := bcl HL.out HFr.out.z.2.1
            have r0 := HT11.out.1
            have r1 := HT11.out.2.1
            clear k1 k2
            go_wp2_with fail
            refine (HA.out.kc2 i W11 hlt).mono ?_
            rintro e w12 ⟨s, rfl, hs, hb12⟩
            have hs' : ¬ (s < 0) := by omega
            have hbt := bt HL.out hb12
            have q0 := bcl hbt HH.out.2.1
            have q1 := bcl hbt HH.out.2.2.1
            have r0' := bcl hb12 r0
            have r1' := bcl hb12 r1
            have HBT := hid hbt
            clear z0 z1 r0 r1 hb12 hbt HT11 HL
            go_wp2_with fail
            refine (HA.out.ka2 i w12 hlt).mono ?_
            rintro e w13 ⟨rfl, hb13⟩
            have hb3 := bt HBT.out hb13
            obtain ⟨t0, t1, t2, t3⟩ := HH.out.2.below HH.out.2.lt hb3
            have HN := hid (acc_step HH.out.1 (Nat.le_refl _) HH.out.2 hb3 HH.out.1.size (tn (i + 1)) (td (i + 1)))
            clear q0 q1 r0' r1' hb13 hb3 HBT HFr
            go_wp2
            go_roundw
            case rel => exact ⟨i + 1, by omega, by go_num, HN⟩
            case measure => simp [intOf]; omega
          · obtain rfl : i = bag.length := by omega
            have i1 : ¬ ((bag.length : Int) < (bag.length : Int)) := by omega
            generalize wr = W13 at *
            have HTp : Hid (Two W13 W10.heap.size wn wd) := hid (by have := HH.out.2; rw [HA.out.tu.1, HA.out.tu.2] at this; exact this)
            have HTa := hid (HTW.out.below HTW.out.lt HH.out.1)
            have HBW13 : Hid (Below W.heap.size W W13) := hid (HBW10.out.trans (HH.out.1.mono HBW10.out.size))
            have HF := HFr
            obtain ⟨p0, p1, -, -⟩ := HTp.out
            obtain ⟨p2, p3, -, -⟩ := HTa.out
            have p4 := HF.out.e1
            have p5 := HF.out.e2
            have p6 : ¬ (wd < 1) := by have := HA.out.wd1; omega
            clear HH HFr HTW HBW10
            go_upto_region 32 with fail
            clear p0 p1 p2 p3 p4 p5 p6 HTp HTa
            go_wp2_with fail
            go_loopw [129] (fun t wr => ∃ r : Nat, r ≤ bag.length ∧ t = .int .i64 r ∧ Hid (Below W13.heap.size W13 wr)) (fun t _ => bag.length - (intOf t).toNat)
            case atStart => exact ⟨0, Nat.zero_le _, rfl, hid (Below.refl _ _)⟩
            case round =>
              obtain ⟨r, hr, rfl, HH⟩ := hrel
              have HFr := hid (HF.out.below HH.out)
              by_cases hlt : r < bag.length
              · have i1 : (r : Int) < (bag.length : Int) := by omega
                obtain ⟨bB, oB, ea, k1⟩ := HFr.out.is r hlt
                subst ea
                have z0 := HFr.out.z.1
                have z1 := HFr.out.z.2.1
                obtain ⟨bv, hbv⟩ : ∃ t, t = bag.getD r 0 := ⟨_, rfl⟩
                rw [← hbv] at k1
                have HBV := hid hbv
                clear hbv
                generalize wr = Wa at *
                go_upto_region 36 with fail
                have HT17 := hid (two_new Wa 0 1 28)
                have HB17 := hid (al (w := Wa) (.cells #[.int .i64 0, .int .i64 1] 28))
                clear z0 z1 k1
                generalize Wa.alloc (.cells #[.int .i64 0, .int .i64 1] 28) = Wb at *
                go_wp2_with fail
                go_loopw [136] (fun t wr => ∃ i : Nat, i ≤ es.length ∧ t = .int .i64 i ∧ Hid (Below Wa.heap.size Wa wr ∧ Two wr Wa.heap.size (pn r i 0) (pd r i 0))) (fun t _ => es.length - (intOf t).toNat)
                case atStart => exact ⟨0, Nat.zero_le _, rfl, hid ⟨HB17.out, by rw [(HA.out.p0 r).1, (HA.out.p0 r).2]; exact HT17.out⟩⟩
                case round =>
                  clear HT17 HB17
                  obtain ⟨i, hiu, rfl, HG⟩ := hrel
                  by_cases hli : i < es.length
                  · have i2 : (i : Int) < (es.length : Int) := by omega
                    obtain ⟨bE, oE, au, cu, ea, k2, k3⟩ := HFr.out.iss i hli
                    subst ea
                    obtain ⟨L, hL⟩ : ∃ L, L = (es.getD i []).length := ⟨_, rfl⟩
                    rw [← hL] at k2 k3
                    have HLn := hid hL
                    have hL20 : L ≤ 20 := by rw [hL]; exact HLJ.out _
                    have HK3 := hid k3
                    have k5 := bcl HG.out.1 k2
                    clear k3 hL k2
                    generalize wr = Wc at *
                    go_wp2_with fail
                    clear k5
                    go_loopw [143] (fun t wr => ∃ p : Nat, p ≤ L ∧ t = .int .i64 p ∧ Hid (Below Wa.heap.size Wa wr ∧ Two wr Wa.heap.size (pn r i p) (pd r i p))) (fun t _ => L - (intOf t).toNat)
                    case atStart => exact ⟨0, Nat.zero_le _, rfl, HG⟩
                    case round =>
                      clear HG
                      obtain ⟨p, hpL, rfl, HI⟩ := hrel
                      by_cases hlp : p < L
                      · have i3 : (p : Int) < (L : Int) := by omega
                        obtain ⟨bu, ou, ea, k4⟩ := HK3.out p hlp
                        subst ea
                        have k6 := bcl HI.out.1 k4
                        obtain ⟨ev, hev⟩ : ∃ t, t = (es.getD i []).getD p 0 := ⟨_, rfl⟩
                        rw [← hev] at k6
                        have HEV := hid hev
                        clear hev k4
                        by_cases hit : ev = bv
                        · have KH := hid (fun w => HA.out.phit r i p w hlt hli (by rw [← HLn.out]; exact hlp) (by rw [← HEV.out, ← HBV.out]; exact hit))
                          have HFi := hid (HFr.out.below HI.out.1)
                          have f3 := HFi.out.e3
                          obtain ⟨bX, oX, ea, g1, g2⟩ := HFi.out.iw i hli
                          subst ea hit
                          have HI2 := hid HI.out.2
                          obtain ⟨t0, t1, -, -⟩ := HI.out.2
                          have hlt0 := HI.out.2.lt
                          go_upto_region 43 with fail
                          clear k6
                          go_region_law (first | (go_simp; go_at_call 12; refine (KH.out _).mono ?_; rintro e w5 ⟨rfl, hb5⟩; have hb6 := drew_below hb5; obtain ⟨u0, u1, u2, u3⟩ := HI2.out.below hlt0 hb6) | fail)
                          all_goals
                            have HN := hid (acc_step HI.out.1 (Nat.le_refl _) HI.out.2 hb6 HI.out.1.size (pn r i (p + 1)) (pd r i (p + 1)))
                            clear hb5 hb6
                            go_wp2
                            go_roundw
                            case rel => exact ⟨p + 1, by omega, by go_num, HN⟩
                            case measure => simp [intOf]; omega
                        · have hm1 : (ev == bv) = false := by simpa using hit
                          have HM := hid (HA.out.pmiss r i p (by rw [← HLn.out]; exact hlp) (by rw [← HEV.out, ← HBV.out]; exact hit))
                          go_wp2
                          go_roundw
                          case rel => exact ⟨p + 1, by omega, by go_num, hid ⟨HI.out.1, by rw [HM.out.1, HM.out.2]; exact HI.out.2⟩⟩
                          case measure => simp [intOf]; omega
                      · obtain rfl : p = L := by omega
                        have i3 : ¬ ((p : Int) < (p : Int)) := by omega
                        have HE := hid (HA.out.pend r i)
                        rw [← HLn.out] at HE
                        go_wp2
                        go_roundw
                        case rel => exact ⟨i + 1, by omega, by go_num, hid ⟨HI.out.1, by rw [← HE.out.1, ← HE.out.2]; exact HI.out.2⟩⟩
                        case measure => simp [intOf]; omega
                  · obtain rfl : i = es.length := by omega
                    have i2 : ¬ ((es.length : Int) < (es.length : Int)) := by omega
                    have HFi := hid (HFr.out.below HG.out.1)
                    obtain ⟨t0, t1, -, -⟩ := HG.out.2
                    obtain ⟨o0, o1, -, -⟩ := HFi.out.o
                    have KC := hid (fun w => HA.out.pcmp r w hlt)
                    go_wp2_with fail
                    refine (KC.out wr).mono ?_
                    rintro e w5 ⟨sg, rfl, hsg, hb5⟩
                    have HN : Hid (Below W13.heap.size W13 w5) := hid (bt (HH.out.trans (HG.out.1.mono HH.out.size)) hb5)
                    clear hb5
                    rcases hsg with rfl | rfl
                    all_goals
                      go_wp2
                      go_roundw
                      case rel => exact ⟨r + 1, by omega, by go_num, HN⟩
                      case measure => simp [intOf]; omega
              · obtain rfl : r = bag.length := by omega
                have i1 : ¬ ((bag.length : Int) < (bag.length : Int)) := by omega
                generalize wr = W14 at *
                have HBW14 : Hid (Below W.heap.size W W14) := hid (HBW13.out.trans (HH.out.mono HBW13.out.size))
                clear HF
                have HF := HFr
                clear HFr HH HBW13
                go_wp2_with fail
                go_loopw [171] (fun t wr => ∃ r : Nat, r ≤ es.length ∧ t = .int .i64 r ∧ Hid (Below W14.heap.size W14 wr)) (fun t _ => es.length - (intOf t).toNat)
                case atStart => exact ⟨0, Nat.zero_le _, rfl, hid (Below.refl _ _)⟩
                case round =>
                  obtain ⟨r, hr, rfl, HH⟩ := hrel
                  have HFr := hid (HF.out.below HH.out)
                  by_cases hlt : r < es.length
                  · have i1 : (r : Int) < (es.length : Int) := by omega
                    obtain ⟨bE, oE, au, cu, ea, k2, k3⟩ := HFr.out.iss r hlt
                    subst ea
                    obtain ⟨L, hL⟩ : ∃ L, L = (es.getD r []).length := ⟨_, rfl⟩
                    rw [← hL] at k2 k3
                    have HLn := hid hL
                    have hL20 : L ≤ 20 := by rw [hL]; exact HLJ.out _
                    have HK3 := hid k3
                    have z0 := HFr.out.z.1
                    have z1 := HFr.out.z.2.1
                    clear k3 hL
                    generalize wr = Wa at *
                    go_upto_region 54 with fail
                    have HT17 := hid (two_new Wa 0 1 28)
                    have HB17 := hid (al (w := Wa) (.cells #[.int .i64 0, .int .i64 1] 28))
                    clear z0 z1 k2
                    generalize Wa.alloc (.cells #[.int .i64 0, .int .i64 1] 28) = Wb at *
                    go_wp2_with fail
                    go_loopw [178] (fun t wr => ∃ p : Nat, p ≤ L ∧ t = .int .i64 p ∧ Hid (Below Wa.heap.size Wa wr ∧ Two wr Wa.heap.size (qn r p 0) (qd r p 0))) (fun t _ => L - (intOf t).toNat)
                    case atStart => exact ⟨0, Nat.zero_le _, rfl, hid ⟨HB17.out, by rw [(HA.out.q0 r).1, (HA.out.q0 r).2]; exact HT17.out⟩⟩
                    case round =>
                      clear HT17 HB17
                      obtain ⟨p, hpL, rfl, HG⟩ := hrel
                      by_cases hlp : p < L
                      · have i2 : (p : Int) < (L : Int) := by omega
                        obtain ⟨bu, ou, ea, k4⟩ := HK3.out p hlp
                        subst ea
                        have k5 := bcl HG.out.1 k4
                        obtain ⟨ev, hev⟩ : ∃ t, t = (es.getD r []).getD p 0 := ⟨_, rfl⟩
                        rw [← hev] at k5
                        have HEV := hid hev
                        clear hev k4
                        generalize wr = Wc at *
                        go_wp2_with fail
                        clear k5
                        go_loopw [184] (fun t wr => ∃ j : Nat, j ≤ bag.length ∧ t = .int .i64 j ∧ Hid (Below Wa.heap.size Wa wr ∧ Two wr Wa.heap.size (qn r p j) (qd r p j))) (fun t _ => bag.length - (intOf t).toNat)
                        case atStart => exact ⟨0, Nat.zero_le _, rfl, HG⟩
                        case round =>
                          clear HG
                          obtain ⟨j, hjm, rfl, HI⟩ := hrel
                          by_cases hlj : j < bag.length
                          · have i3 : (j : Int) < (bag.length : Int) := by omega
                            have HFi := hid (HFr.out.below HI.out.1)
                            obtain ⟨bB, oB, ea, k6⟩ := HFi.out.is j hlj
                            obtain ⟨bv, hbv⟩ : ∃ t, t = bag.getD j 0 := ⟨_, rfl⟩
                            rw [← hbv] at k6
                            have HBV := hid hbv
                            clear hbv
                            subst ea
                            by_cases hit : ev = bv
                            · have KH := hid (fun w => HA.out.qhit r p j w hlt (by rw [← HLn.out]; exact hlp) hlj (by rw [← HEV.out, ← HBV.out]; exact hit))
                              have f3 := HFi.out.e4
                              obtain ⟨bX, oX, ea, g1, g2⟩ := HFi.out.id j hlj
                              subst ea hit
                              have HI2 := hid HI.out.2
                              obtain ⟨t0, t1, -, -⟩ := HI.out.2
                              have hlt0 := HI.out.2.lt
                              go_upto_region 61 with fail
                              clear k6
                              go_region_law (first | (go_simp; go_at_call 12; refine (KH.out _).mono ?_; rintro e w5 ⟨rfl, hb5⟩; have hb6 := drew_below hb5; obtain ⟨u0, u1, u2, u3⟩ := HI2.out.below hlt0 hb6) | fail)
                              all_goals
                                have HN := hid (acc_step HI.out.1 (Nat.le_refl _) HI.out.2 hb6 HI.out.1.size (qn r p (j + 1)) (qd r p (j + 1)))
                                clear hb5 hb6
                                go_wp2
                                go_roundw
                                case rel => exact ⟨j + 1, by omega, by go_num, HN⟩
                                case measure => simp [intOf]; omega
                            · have hm1 : (ev == bv) = false := by simpa using hit
                              have HM := hid (HA.out.qmiss r p j (by rw [← HEV.out, ← HBV.out]; exact hit))
                              go_wp2
                              go_roundw
                              case rel => exact ⟨j + 1, by omega, by go_num, hid ⟨HI.out.1, by rw [HM.out.1, HM.out.2]; exact HI.out.2⟩⟩
                              case measure => simp [intOf]; omega
                          · obtain rfl : j = bag.length := by omega
                            have i3 : ¬ ((bag.length : Int) < (bag.length : Int)) := by omega
                            have HE := hid (HA.out.qend r p (by rw [← HLn.out]; exact hlp))
                            go_wp2
                            go_roundw
                            case rel => exact ⟨p + 1, by omega, by go_num, hid ⟨HI.out.1, by rw [← HE.out.1, ← HE.out.2]; exact HI.out.2⟩⟩
                            case measure => simp [intOf]; omega
                      · obtain rfl : p = L := by omega
                        have i2 : ¬ ((p : Int) < (p : Int)) := by omega
                        have HFi := hid (HFr.out.below HG.out.1)
                        obtain ⟨t0, t1, -, -⟩ := HG.out.2
                        obtain ⟨o0, o1, -, -⟩ := HFi.out.o
                        have KC := hid (fun w => HA.out.qcmp r w hlt)
                        rw [← HLn.out] at KC
                        go_wp2_with fail
                        refine (KC.out wr).mono ?_
                        rintro e w5 ⟨sg, rfl, hsg, hb5⟩
                        have HN : Hid (Below W14.heap.size W14 w5) := hid (bt (HH.out.trans (HG.out.1.mono HH.out.size)) hb5)
                        clear hb5
                        rcases hsg with rfl | rfl
                        all_goals
                          go_wp2
                          go_roundw
                          case rel => exact ⟨r + 1, by omega, by go_num, HN⟩
                          case measure => simp [intOf]; omega
                  · obtain rfl : r = es.length := by omega
                    have i1 : ¬ ((es.length : Int) < (es.length : Int)) := by omega
                    go_wp2
                    go_ret
                    exact ⟨rfl, HBW14.out.trans (HH.out.mono HBW14.out.size)⟩

end Go.Proofs.Ytnmcgbfhgmmcpaa
