import Derived.Test.YtnmcgbfhgmmcpaaW08
import Derived.Test.YtnmcgbfhgmmcpaaW17
import Derived.Test.YtnmcgbfhgmmcpaaW33
/-
  laws.FnExactCoverOf, walked.
-/
namespace Go.Proofs.Ytnmcgbfhgmmcpaa
open Go.RowKit Meet

set_option maxHeartbeats 20000000 in
set_option maxRecDepth 1000000 in
theorem cover_walk (w : World) (vb ve : Value) (bag : List Int) (es : List (List Int)) (hb : IS w vb bag) (h : ISS w ve es) (hlb : bag.length ≤ 9223372036854775807) (hf : Fits es) :
    Calls Try.prog 4 #[vb, ve] w fun e w' => e = .returned (.bool true) ∧ Below w.heap.size w w' := by
  have K0 := hid (szIntSS_calls w ve es 1048576 h hf (by omega) (by omega))
  have HIB := hid hb
  have HIE := hid h
  unfold szSS at K0
  obtain ⟨aB, cB, rfl, -⟩ := hb
  obtain ⟨aE, cE, rfl, -⟩ := h
  by_cases hbl : 1048576 < bag.length
  · have i0 : (1048576 : Int) < (bag.length : Int) := by omega
    clear K0 hf
    go_enter Try.func4, Try.ntmps4
    go_wp2
    go_ret
    exact ⟨rfl, Below.refl _ _⟩
  have i0 : ¬ ((1048576 : Int) < (bag.length : Int)) := by omega
  by_cases hbig : (1048576 : Int) < tot es es.length
  · rw [if_pos hbig] at K0
    clear hf
    go_enter Try.func4, Try.ntmps4
    go_wp2_with fail
    refine K0.out.mono ?_
    rintro e w1 ⟨rfl, hw1⟩
    subst w1
    go_wp2
    go_ret
    exact ⟨rfl, Below.refl _ _⟩
  rw [if_neg hbig] at K0
  have e2 : ¬ ((1048576 : Int) - tot es es.length < 0) := by omega
  have htot : tot es es.length ≤ 1048576 := by omega
  have HS := hid (short_of_tot htot)
  obtain ⟨ok, s1, s2, lW, lD, hAl⟩ := alike w _ _ bag es HIB.out HIE.out (by omega) HS.out
  have HAL := hid hAl
  have hlw := hAl.lw
  have hld := hAl.ld
  generalize (1048576 : Int) - tot es es.length = lft at *
  clear hf hbig hAl
  go_enter Try.func4, Try.ntmps4
  go_wp2_with fail
  refine K0.out.mono ?_
  rintro e w1 ⟨rfl, hw1⟩
  subst w1
  clear K0
  -- the model's answer
  go_wp2_with fail
  refine (toIntS_calls w _ bag HIB.out (by omega)).mono ?_
  rintro e w1 ⟨rfl, hO1, hb1⟩
  have HO1 := hid hO1
  have HB1 := hid hb1
  clear hO1 hb1
  go_wp2_with fail
  refine (toIntSS_calls w1 _ es (HIE.out.below HB1.out) HS.out).mono ?_
  rintro e w2 ⟨rfl, ⟨fA, hA⟩, hA1, hb2⟩
  have HA := hid hA
  have HO2 := hid (HO1.out.below hb2)
  have HB2 := hid (bt HB1.out hb2)
  clear hA hb2 HO1
  go_wp2_with fail
  refine (HAL.out.spec w2 _ _ HO2.out.is (HA.out.iss rfl)).mono ?_
  rintro e w3 ⟨uW, uD, rfl, hU1, hU2, hb3⟩
  have HU1 := hid hU1
  have HU2 := hid hU2
  have HB3 := hid (bt HB2.out hb3)
  obtain ⟨a1, q1, e1, -⟩ := hU1
  obtain ⟨a2, q2, e2', -⟩ := hU2
  subst e1 e2'
  clear hb3 HA HO2
  go_upto_region 8 with fail
  have hg6 := arrAt_alloc w3 5 (f5 (.bool ok) (.int .i64 s1) (.int .i64 s2) (.slice a1 lW.length q1) (.slice a2 lD.length q2)) 31
  have hB4 : Below w.heap.size w (w3.alloc (.cells #[.bool ok, .int .i64 s1, .int .i64 s2, .slice a1 lW.length q1, .slice a2 lD.length q2] 31)) := HB3.out.alloc HB3.out.size _
  have hU1 := HU1.out.below ((Below.refl _ _).alloc (Nat.le_refl _) (.cells #[.bool ok, .int .i64 s1, .int .i64 s2, .slice a1 lW.length q1, .slice a2 lD.length q2] 31))
  have hU2 := HU2.out.below ((Below.refl _ _).alloc (Nat.le_refl _) (.cells #[.bool ok, .int .i64 s1, .int .i64 s2, .slice a1 lW.length q1, .slice a2 lD.length q2] 31))
  have hl6 : w3.heap.size < (w3.alloc (.cells #[.bool ok, .int .i64 s1, .int .i64 s2, .slice a1 lW.length q1, .slice a2 lD.length q2] 31)).heap.size := by simp
  have hg6' : ArrAt (w3.alloc (.cells #[.bool ok, .int .i64 s1, .int .i64 s2, .slice a1 lW.length q1, .slice a2 lD.length q2] 31)) w3.heap.size 5 (f5 (.bool ok) (.int .i64 s1) (.int .i64 s2) (.slice a1 lW.length q1) (.slice a2 lD.length q2)) := hg6
  clear hg6
  generalize w3.alloc (.cells #[.bool ok, .int .i64 s1, .int .i64 s2, .slice a1 lW.length q1, .slice a2 lD.length q2] 31) = W4 at *
  generalize w3.heap.size = g6 at *
  have HG6 := hid hg6'
  have HV1 := hid hU1
  have HV2 := hid hU2
  have HB4 := hid hB4
  clear hg6' hU1 hU2 hB4 HU1 HU2 HB3
  -- the program's
  go_wp2_with fail
  refine (toIntS_calls W4 _ bag (HIB.out.below HB4.out) (by omega)).mono ?_
  rintro e w5 ⟨rfl, hO5, hb5⟩
  have HO5 := hid hO5
  have HQ5 := hid hb5
  have hs45 : W4.heap.size < w5.heap.size := hO5.lt
  clear hO5 hb5
  go_wp2_with fail
  refine (toIntSS_calls w5 _ es (HIE.out.below (bt HB4.out HQ5.out)) HS.out).mono ?_
  rintro e w6 ⟨rfl, ⟨f, hX⟩, hX1, hb6⟩
  have HX6 := hid hX
  have HO6 := hid (HO5.out.below hb6)
  have HQ6 := hid (bt HQ5.out hb6)
  have hs56 := hb6.size
  clear hX hb6 HO5
  go_wp2_with fail
  refine (HAL.out.impl w6 _ _ HO6.out.is (HX6.out.iss rfl)).mono ?_
  rintro e w7 ⟨vW, vD, rfl, hoW, hoD, hne, hb7⟩
  have HOW := hid hoW
  have HOD := hid hoD
  have HNE := hid hne
  have HX7 := hid (HX6.out.below hX1 hb7)
  have HO7 := hid (HO6.out.below hb7)
  have HQ7 := hid (bt HQ6.out hb7)
  have hs67 := hb7.size
  have HFL : Hid (∀ i, i < es.length → f i < w6.heap.size) := hid (fun i hi => (HX6.out.own i hi).lt)
  obtain ⟨b1, p1, e3⟩ := own_slice hoW
  obtain ⟨b2, p2, e4⟩ := own_slice hoD
  subst e3 e4
  clear hoW hoD hne hb7 HX6 HO6
  go_upto_region 11 with fail
  have hb8 : Below w7.heap.size w7 (w7.alloc (.cells #[.bool ok, .int .i64 s1, .int .i64 s2, .slice b1 lW.length p1, .slice b2 lD.length p2] 31)) := (Below.refl _ _).alloc (Nat.le_refl _) _
  have hg9 : ArrAt (w7.alloc (.cells #[.bool ok, .int .i64 s1, .int .i64 s2, .slice b1 lW.length p1, .slice b2 lD.length p2] 31)) w7.heap.size 5 (f5 (.bool ok) (.int .i64 s1) (.int .i64 s2) (.slice b1 lW.length p1) (.slice b2 lD.length p2)) := arrAt_alloc w7 5 (f5 (.bool ok) (.int .i64 s1) (.int .i64 s2) (.slice b1 lW.length p1) (.slice b2 lD.length p2)) 31
  have hs78 : w7.heap.size < (w7.alloc (.cells #[.bool ok, .int .i64 s1, .int .i64 s2, .slice b1 lW.length p1, .slice b2 lD.length p2] 31)).heap.size := by simp
  generalize w7.alloc (.cells #[.bool ok, .int .i64 s1, .int .i64 s2, .slice b1 lW.length p1, .slice b2 lD.length p2] 31) = W8 at *
  have HOW8 := hid (own_below HOW.out hb8)
  have HOD8 := hid (own_below HOD.out hb8)
  have HX8 := hid (HX7.out.below (by omega) hb8)
  have HO8 := hid (HO7.out.below hb8)
  have HQ8 := hid (bt HQ7.out hb8)
  have HG9 := hid hg9
  have hlt9W : ∀ g, (Value.slice b1 lW.length p1).ownBlock = some g → w6.heap.size ≤ g ∧ g < w7.heap.size := HOW.out.lt
  have hlt9D : ∀ g, (Value.slice b2 lD.length p2).ownBlock = some g → w6.heap.size ≤ g ∧ g < w7.heap.size := HOD.out.lt
  have HLW := hid hlt9W
  have HLD := hid hlt9D
  generalize w7.heap.size = g9 at *
  clear hb8 hg9 hlt9W hlt9D HX7 HO7 HQ7 HOW HOD
  have hG68 := HG6.out.below (by omega) HQ8.out
  obtain ⟨c0, c1, c2, c3, c4⟩ := hG68.five
  obtain ⟨d0, d1, d2, d3, d4⟩ := HG9.out.five
  go_wp2_with fail
  refine (eqCover_same W8 ok s1 s2 _ _ _ _ lW lD (own_ir HOW8.out) (own_ir HOD8.out) (HV1.out.below HQ8.out) (HV2.out.below HQ8.out) (by omega) (by omega)).mono ?_
  rintro e w9 ⟨rfl, hb9⟩
  have HOW9 := hid (own_below HOW8.out hb9)
  have HOD9 := hid (own_below HOD8.out hb9)
  have HX9 := hid (HX8.out.below (by omega) hb9)
  have HO9 := hid (HO8.out.below hb9)
  have HQ9 := hid (bt HQ8.out hb9)
  have HG99 := hid (HG9.out.below (by omega) hb9)
  have hs89 := hb9.size
  clear hb9 HOW8 HOD8 HX8 HO8 HG9 hG68 c0 c1 c2 c3 c4 d0 d1 d2 d3 d4
  -- the arguments are as they were
  go_wp2_with fail
  refine (toIntS_calls w9 _ bag (HIB.out.below (bt HB4.out HQ9.out)) (by omega)).mono ?_
  rintro e wA ⟨rfl, hOA, hbA⟩
  have HOA := hid hOA
  have HOWA := hid (own_below HOW9.out hbA)
  have HODA := hid (own_below HOD9.out hbA)
  have HXA := hid (HX9.out.below (by omega) hbA)
  have HO0A := hid (HO9.out.below hbA)
  have HQA := hid (bt HQ9.out hbA)
  have HG9A := hid (HG99.out.below (by omega) hbA)
  have hs9A := hbA.size
  clear hOA hbA HOW9 HOD9 HX9 HO9 HG99
  go_wp2_with fail
  refine (eqIntS_quiet wA _ _ bag HO0A.out.is HOA.out.is (by omega)).mono ?_
  rintro e wB ⟨rfl, dB, hwB⟩
  have HOWB : Hid (wB.ownsRow w6.heap.size 28 2 (.slice b1 lW.length p1) lW.length (rcs lW)) := hid (by rw [hwB]; exact HOWA.out)
  have HODB : Hid (wB.ownsRow w6.heap.size 28 2 (.slice b2 lD.length p2) lD.length (rcs lD)) := hid (by rw [hwB]; exact HODA.out)
  have HXB : Hid (Half wB w5.heap.size es.length es.length es f) := hid (by rw [hwB]; exact ⟨HXA.out.cell, HXA.out.free, fun i hi => ⟨(HXA.out.own i hi).cell, (HXA.out.own i hi).free, (HXA.out.own i hi).lt⟩, HXA.out.gt, HXA.out.up⟩)
  have HO0B : Hid (OwnI wB W4.heap.size bag) := hid (by rw [hwB]; exact ⟨HO0A.out.cell, HO0A.out.free, HO0A.out.lt⟩)
  have HQB : Hid (Below W4.heap.size W4 wB) := hid (by rw [hwB]; exact below_drewN HQA.out _)
  have HG9B : Hid (ArrAt wB g9 5 (f5 (.bool ok) (.int .i64 s1) (.int .i64 s2) (.slice b1 lW.length p1) (.slice b2 lD.length p2))) := hid (by rw [hwB]; exact HG9A.out.move rfl)
  have hsAB : wA.heap.size = wB.heap.size := by rw [hwB]; rfl
  clear hwB HOA HOWA HODA HXA HO0A HG9A
  go_wp2_with fail
  refine (toIntSS_calls wB _ es (HIE.out.below (bt HB4.out HQB.out)) HS.out).mono ?_
  rintro e wC ⟨rfl, ⟨fC, hC⟩, hC1, hbC⟩
  have HY := hid hC
  have HOWC := hid (own_below HOWB.out hbC)
  have HODC := hid (own_below HODB.out hbC)
  have HXC := hid (HXB.out.below (by omega) hbC)
  have HO0C := hid (HO0B.out.below hbC)
  have HQC := hid (bt HQB.out hbC)
  have HG9C := hid (HG9B.out.below (by omega) hbC)
  have hsBC := hbC.size
  clear hC hbC HOWB HODB HXB HO0B HG9B
  go_wp2_with fail
  refine (eqIntSS_quiet wC _ _ es (HXC.out.iss rfl) (HY.out.iss rfl) HS.out).mono ?_
  rintro e wD ⟨rfl, dD', hwD⟩
  have HOWD : Hid (wD.ownsRow w6.heap.size 28 2 (.slice b1 lW.length p1) lW.length (rcs lW)) := hid (by rw [hwD]; exact HOWC.out)
  have HODD : Hid (wD.ownsRow w6.heap.size 28 2 (.slice b2 lD.length p2) lD.length (rcs lD)) := hid (by rw [hwD]; exact HODC.out)
  have HXD : Hid (Half wD w5.heap.size es.length es.length es f) := hid (by rw [hwD]; exact ⟨HXC.out.cell, HXC.out.free, fun i hi => ⟨(HXC.out.own i hi).cell, (HXC.out.own i hi).free, (HXC.out.own i hi).lt⟩, HXC.out.gt, HXC.out.up⟩)
  have HO0D : Hid (OwnI wD W4.heap.size bag) := hid (by rw [hwD]; exact ⟨HO0C.out.cell, HO0C.out.free, HO0C.out.lt⟩)
  have HQD : Hid (Below W4.heap.size W4 wD) := hid (by rw [hwD]; exact below_drewN HQC.out _)
  have HG9D : Hid (ArrAt wD g9 5 (f5 (.bool ok) (.int .i64 s1) (.int .i64 s2) (.slice b1 lW.length p1) (.slice b2 lD.length p2))) := hid (by rw [hwD]; exact HG9C.out.move rfl)
  have hsCD : wC.heap.size = wD.heap.size := by rw [hwD]; rfl
  clear hwD HY HOWC HODC HXC HO0C HG9C
  -- the arguments are marked
  go_wp2_with fail
  refine (markIntS_calls wD W4.heap.size bag 1 HO0D.out (by omega) (by omega) (by omega)).mono ?_
  rintro e wE ⟨rfl, hOE, hog⟩
  have HXE : Hid (Half wE w5.heap.size es.length es.length es f) := hid (HXD.out.move (hog.block _ (by omega)) (fun i hi => hog.block _ (by have := HXD.out.gt i hi; omega)) (by rw [hog.size]; exact Nat.le_refl _))
  have HOWE := hid (own_move HOWD.out (w' := wE) (fun g hg => hog.block g (by have := HLW.out g hg; omega)))
  have HODE := hid (own_move HODD.out (w' := wE) (fun g hg => hog.block g (by have := HLD.out g hg; omega)))
  have HQE : Hid (Below W4.heap.size W4 wE) := hid (HQD.out.trans ⟨hog.os, hog.tape, hog.output, by rw [hog.size]; exact Nat.le_refl _, fun b hb => hog.block b (by omega)⟩)
  have HG9E := hid (HG9D.out.move (hog.block g9 (by omega)))
  have hsDE := hog.size
  clear hOE hog HOWD HODD HXD HO0D HG9D
  go_wp2_with fail
  refine (markIntSS_calls wE w5.heap.size es f (1 + bag.length) HXE.out htot (by omega) (by omega)).mono ?_
  rintro e wF ⟨rfl, hos⟩
  have hn0 := tot_le es es.length 0 (by omega)
  rw [tot_zero] at hn0
  have hk : ¬ ((1 : Int) + bag.length + (tot es es.length - es.length) < 0) := by omega
  have HOWF := hid (own_move HOWE.out (w' := wF) (fun g hg => hos.block g (fun i hi e => by have := HFL.out i hi; have := HLW.out g hg; omega)))
  have HODF := hid (own_move HODE.out (w' := wF) (fun g hg => hos.block g (fun i hi e => by have := HFL.out i hi; have := HLD.out g hg; omega)))
  have HQF : Hid (Below W4.heap.size W4 wF) := hid (HQE.out.trans (hos.below (fun i hi => by have := HXE.out.gt i hi; omega)))
  have HG9F := hid (HG9E.out.move (hos.block g9 (fun i hi e => by have := HFL.out i hi; omega)))
  have hsEF := hos.size
  generalize (1 : Int) + bag.length + (tot es es.length - es.length) = kk at *
  clear hos HOWE HODE HXE HG9E HQE
  have hG6F := HG6.out.below (by omega) HQF.out
  obtain ⟨c0, c1, c2, c3, c4⟩ := hG6F.five
  obtain ⟨d0, d1, d2, d3, d4⟩ := HG9F.out.five
  go_wp2_with fail
  refine (eqCover_same wF ok s1 s2 _ _ _ _ lW lD (own_ir HOWF.out) (own_ir HODF.out) (HV1.out.below HQF.out) (HV2.out.below HQF.out) (by omega) (by omega)).mono ?_
  rintro e wG ⟨rfl, hbG⟩
  have HOWG := hid (own_below HOWF.out hbG)
  have HODG := hid (own_below HODF.out hbG)
  have HQG := hid (bt HQF.out hbG)
  have HG9G := hid (HG9F.out.below (by omega) hbG)
  have hsFG := hbG.size
  clear hbG HOWF HODF HG9F hG6F c0 c1 c2 c3 c4 d0 d1 d2 d3 d4
  -- the answer owns its memory
  obtain ⟨d0, d1, d2, d3, d4⟩ := HG9G.out.five
  go_wp2_with fail
  refine (cover_marks wG w6.heap.size ok s1 s2 _ _ lW lD HOWG.out HODG.out (by omega) HNE.out (by omega) (by omega)).mono ?_
  rintro e wH ⟨rfl, hoth, hbH, hheld⟩
  have KH := hid hheld
  have HG9H := hid (HG9G.out.move (hoth g9 (by omega) (fun e => by have := HLW.out g9 e.symm; omega) (fun e => by have := HLD.out g9 e.symm; omega)))
  have HQH : Hid (Below W4.heap.size W4 wH) := hid (HQG.out.trans (hbH.mono (by omega)))
  have hsGH := hbH.size
  have hq : ¬ ((1 : Int) + 2 * lW.length + 2 * lD.length < 0) := by omega
  generalize (1 : Int) + 2 * lW.length + 2 * lD.length = kq at *
  have hne : (kq != kq) = false := by simp
  clear hoth hbH hheld HOWG HODG HG9G d0 d1 d2 d3 d4
  obtain ⟨d0, d1, d2, d3, d4⟩ := HG9H.out.five
  go_wp2_with fail
  refine KH.out.mono ?_
  rintro e wI ⟨rfl, hbI⟩
  have HQI := hid (bt HQH.out hbI)
  have hsHI := hbI.size
  clear hbI KH HG9H d0 d1 d2 d3 d4
  -- once more
  go_wp2_with fail
  refine (toIntS_calls wI _ bag (HIB.out.below (bt HB4.out HQI.out)) (by omega)).mono ?_
  rintro e wJ ⟨rfl, hOJ, hbJ⟩
  have HOJ := hid hOJ
  have HQJ := hid (bt HQI.out hbJ)
  clear hOJ hbJ
  go_wp2_with fail
  refine (toIntSS_calls wJ _ es (HIE.out.below (bt HB4.out HQJ.out)) HS.out).mono ?_
  rintro e wK ⟨rfl, ⟨fK, hK⟩, hK1, hbK⟩
  have HK := hid hK
  have HOK := hid (HOJ.out.below hbK)
  have HQK := hid (bt HQJ.out hbK)
  clear hK hbK HOJ
  go_wp2_with fail
  refine (HAL.out.impl wK _ _ HOK.out.is (HK.out.iss rfl)).mono ?_
  rintro e wL ⟨xW, xD, rfl, hoW, hoD, -, hbL⟩
  have HIW := hid (own_ir hoW)
  have HID := hid (own_ir hoD)
  have HQL := hid (bt HQK.out hbL)
  have hsL := (bt HQK.out hbL).size
  obtain ⟨b3, p3, e5⟩ := own_slice hoW
  obtain ⟨b4, p4, e6⟩ := own_slice hoD
  subst e5 e6
  clear hoW hoD hbL HK HOK
  go_upto_region 31 with fail
  have hbM : Below wL.heap.size wL (wL.alloc (.cells #[.bool ok, .int .i64 s1, .int .i64 s2, .slice b3 lW.length p3, .slice b4 lD.length p4] 31)) := (Below.refl _ _).alloc (Nat.le_refl _) _
  have hgM : ArrAt (wL.alloc (.cells #[.bool ok, .int .i64 s1, .int .i64 s2, .slice b3 lW.length p3, .slice b4 lD.length p4] 31)) wL.heap.size 5 (f5 (.bool ok) (.int .i64 s1) (.int .i64 s2) (.slice b3 lW.length p3) (.slice b4 lD.length p4)) := arrAt_alloc wL 5 (f5 (.bool ok) (.int .i64 s1) (.int .i64 s2) (.slice b3 lW.length p3) (.slice b4 lD.length p4)) 31
  generalize wL.alloc (.cells #[.bool ok, .int .i64 s1, .int .i64 s2, .slice b3 lW.length p3, .slice b4 lD.length p4] 31) = wM at *
  have HQM := hid (bt HQL.out hbM)
  have HIWM := hid (HIW.out.below hbM)
  have HIDM := hid (HID.out.below hbM)
  generalize wL.heap.size = gM at *
  clear hbM HIW HID HQL
  have hG6M := HG6.out.below (by omega) HQM.out
  obtain ⟨c0, c1, c2, c3, c4⟩ := hG6M.five
  obtain ⟨d0, d1, d2, d3, d4⟩ := hgM.five
  go_wp2_with fail
  refine (eqCover_same wM ok s1 s2 _ _ _ _ lW lD HIWM.out HIDM.out (HV1.out.below HQM.out) (HV2.out.below HQM.out) (by omega) (by omega)).mono ?_
  rintro e wN ⟨rfl, hbN⟩
  have HBN := hid (bt (bt HB4.out HQM.out) hbN)
  clear hbN
  go_wp2
  go_ret
  exact ⟨rfl, HBN.out⟩

end Go.Proofs.Ytnmcgbfhgmmcpaa
