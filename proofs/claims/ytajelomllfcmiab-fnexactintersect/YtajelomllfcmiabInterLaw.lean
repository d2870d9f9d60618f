import Derived.Test.YtajelomllfcmiabInter4
import Derived.Test.YtajelomllfcmiabInts7
/-
  laws.FnExactIntersect, walked.
-/
namespace Go.Proofs.Ytajelomllfcmiab
open Go.RowKit Meet

theorem common_len {ls : List (List Int)} : (common ls).length ≤ tot ls ls.length := by
  unfold common
  split
  · exact Nat.le_trans (List.length_filter_le _ _) (getD_le_tot ls 0)
  · simp

set_option maxHeartbeats 4000000 in
set_option maxRecDepth 1000000 in
theorem inter_walk (w : World) (ve : Value) (ls : List (List Int)) (h : ISS w ve ls) (hf : Fits ls) (hm : ∀ k j, -9223372036854775808 ≤ (ls.getD k []).getD j 0) :
    Calls Try.prog 11 #[ve] w fun e w' => e = .returned (.bool true) ∧ Below w.heap.size w w' := by
  have K0 := hid (szIntSS_calls w ve ls 1048576 h hf (by omega) (by omega))
  have HI := hid h
  have HM := hid hm
  unfold szSS at K0
  by_cases hbig : (1048576 : Int) < tot ls ls.length
  · rw [if_pos hbig] at K0
    obtain ⟨a, cap, rfl, -⟩ := h
    clear hf hm
    go_enter Try.func11, Try.ntmps11
    go_wp2_with fail
    refine K0.out.mono ?_
    rintro e w1 ⟨rfl, hw1⟩
    subst w1
    go_wp2
    go_ret
    exact ⟨rfl, Below.refl _ _⟩
  rw [if_neg hbig] at K0
  have e2 : ¬ ((1048576 : Int) - tot ls ls.length < 0) := by omega
  have htot : tot ls ls.length ≤ 1048576 := by omega
  have HS := hid (short_of_tot htot)
  have hcl : (common ls).length ≤ 1048576 := Nat.le_trans common_len htot
  generalize (1048576 : Int) - tot ls ls.length = lft at *
  obtain ⟨a, cap, rfl, -⟩ := h
  clear hf hm hbig
  obtain ⟨out, hout⟩ : ∃ o, o = common ls := ⟨_, rfl⟩
  have HE := hid hout
  rw [← hout] at hcl
  clear hout
  go_enter Try.func11, Try.ntmps11
  go_wp2_with fail
  refine K0.out.mono ?_
  rintro e w1 ⟨rfl, hw1⟩
  subst w1
  -- the model's answer
  go_wp2_with fail
  refine (toIntSS_calls w _ ls HI.out HS.out).mono ?_
  rintro e w1 ⟨rfl, ⟨fA, hA⟩, hA1, hb1⟩
  have HA := hid hA
  have HB1 := hid hb1
  clear hA hb1
  go_wp2_with fail
  refine (sInter_calls w1 _ ls (HA.out.iss rfl) htot).mono ?_
  rintro e w2 ⟨vW, rfl, hoW, hb2⟩
  rw [← HE.out] at hoW
  have HW2 := hid hoW
  have HB2 := hid (bt HB1.out hb2)
  have hs12 := hb2.size
  clear hoW hb2 HA
  -- the program's
  go_wp2_with fail
  refine (toIntSS_calls w2 _ ls (HI.out.below HB2.out) HS.out).mono ?_
  rintro e w3 ⟨rfl, ⟨f, hX⟩, hX1, hb3⟩
  have HX3 := hid hX
  have HB3 := hid (bt HB2.out hb3)
  have HW3 := hid (own_below HW2.out hb3)
  have hs23 := hb3.size
  clear hX hb3
  go_wp2_with fail
  refine (inter_calls w3 w2.heap.size ls f HX3.out hX1 htot HM.out).mono ?_
  rintro e w4 ⟨vG, rfl, hoG, hb4⟩
  rw [← HE.out] at hoG
  have HG4 := hid hoG
  have HB4 := hid (bt HB3.out hb4)
  have HW4 := hid (own_below HW3.out hb4)
  have HX4 := hid (HX3.out.below hX1 hb4)
  have hs34 := hb4.size
  have hfl : ∀ i, i < ls.length → f i < w3.heap.size := fun i hi => (HX3.out.own i hi).lt
  have HFL := hid hfl
  clear hoG hb4 HW3 HX3 hfl
  go_wp2_with fail
  refine (eqIntS_quiet w4 _ _ out (own_is HG4.out) (own_is HW4.out) (by omega)).mono ?_
  rintro e w5 ⟨rfl, d5, hw5⟩
  have HG5 : Hid (w5.ownsRow w3.heap.size 3 1 vG out.length (out.map (Value.int .i64))) := hid (by rw [hw5]; exact HG4.out)
  have HW5 : Hid (w5.ownsRow w1.heap.size 3 1 vW out.length (out.map (Value.int .i64))) := hid (by rw [hw5]; exact HW4.out)
  have HX5 : Hid (Half w5 w2.heap.size ls.length ls.length ls f) := hid (by rw [hw5]; exact ⟨HX4.out.cell, HX4.out.free, fun i hi => ⟨(HX4.out.own i hi).cell, (HX4.out.own i hi).free, (HX4.out.own i hi).lt⟩, HX4.out.gt, HX4.out.up⟩)
  have HB5 : Hid (Below w.heap.size w w5) := hid (by rw [hw5]; exact below_drewN HB4.out _)
  have hs45 : w4.heap.size = w5.heap.size := by rw [hw5]; rfl
  clear hw5 HG4 HW4 HX4
  -- the argument is as it was
  go_wp2_with fail
  refine (toIntSS_calls w5 _ ls (HI.out.below HB5.out) HS.out).mono ?_
  rintro e w6 ⟨rfl, ⟨f6, h6⟩, h61, hb6⟩
  have HY6 := hid h6
  have HG6 := hid (own_below HG5.out hb6)
  have HW6 := hid (own_below HW5.out hb6)
  have HX6 := hid (HX5.out.below (by omega) hb6)
  have HB6 := hid (bt HB5.out hb6)
  have hs56 := hb6.size
  clear h6 hb6 HG5 HW5 HX5
  go_wp2_with fail
  refine (eqIntSS_quiet w6 _ _ ls (HX6.out.iss rfl) (HY6.out.iss rfl) HS.out).mono ?_
  rintro e w7 ⟨rfl, d7, hw7⟩
  have HG7 : Hid (w7.ownsRow w3.heap.size 3 1 vG out.length (out.map (Value.int .i64))) := hid (by rw [hw7]; exact HG6.out)
  have HW7 : Hid (w7.ownsRow w1.heap.size 3 1 vW out.length (out.map (Value.int .i64))) := hid (by rw [hw7]; exact HW6.out)
  have HX7 : Hid (Half w7 w2.heap.size ls.length ls.length ls f) := hid (by rw [hw7]; exact ⟨HX6.out.cell, HX6.out.free, fun i hi => ⟨(HX6.out.own i hi).cell, (HX6.out.own i hi).free, (HX6.out.own i hi).lt⟩, HX6.out.gt, HX6.out.up⟩)
  have HB7 : Hid (Below w.heap.size w w7) := hid (by rw [hw7]; exact below_drewN HB6.out _)
  clear hw7 HG6 HW6 HX6 HY6
  -- the argument is marked
  go_wp2_with fail
  refine (markIntSS_calls w7 w2.heap.size ls f 1 HX7.out htot (by omega) (by omega)).mono ?_
  rintro e w8 ⟨rfl, hos⟩
  have hn0 := tot_le ls ls.length 0 (by omega)
  rw [tot_zero] at hn0
  have hk : ¬ ((1 : Int) + (tot ls ls.length - ls.length) < 0) := by omega
  have HB8 : Hid (Below w.heap.size w w8) := hid (HB7.out.trans (hos.below (fun i hi => by have := HX7.out.gt i hi; have := HB2.out.size; omega)))
  have hw2lt : ∀ g, vW.ownBlock = some g → g < w2.heap.size := fun g hg => (HW2.out.lt g hg).2
  have HW8 := hid (own_move HW7.out (w' := w8) (fun g hg => hos.block g (fun i hi e => by have := HX7.out.gt i hi; have := hw2lt g hg; omega)))
  have HG8 := hid (own_move HG7.out (w' := w8) (fun g hg => hos.block g (fun i hi e => by have := HFL.out i hi; have := (HG7.out.lt g hg).1; omega)))
  generalize (1 : Int) + (tot ls ls.length - ls.length) = kk at *
  have HW2L := hid hw2lt
  clear hos HG7 HW7 HX7 hw2lt
  go_wp2_with fail
  refine (eqIntS_quiet w8 _ _ out (own_is HG8.out) (own_is HW8.out) (by omega)).mono ?_
  rintro e w9 ⟨rfl, d9, hw9⟩
  have HG9 : Hid (w9.ownsRow w3.heap.size 3 1 vG out.length (out.map (Value.int .i64))) := hid (by rw [hw9]; exact HG8.out)
  have HW9 : Hid (w9.ownsRow w1.heap.size 3 1 vW out.length (out.map (Value.int .i64))) := hid (by rw [hw9]; exact HW8.out)
  have HB9 : Hid (Below w.heap.size w w9) := hid (by rw [hw9]; exact below_drewN HB8.out _)
  clear hw9 HG8 HW8
  -- the answer owns its memory
  go_wp2_with fail
  refine (mark_held w9 w3.heap.size vG out 1 HG9.out (by omega) (by omega) (by omega)).mono ?_
  rintro e wA ⟨rfl, hoth, hbA, hheld⟩
  have HW10 := hid (own_move HW9.out (w' := wA) (fun g hg => hoth g (fun e => by have := HW2L.out g hg; have := (HG9.out.lt g e.symm).1; omega)))
  have HBA : Hid (Below w.heap.size w wA) := hid (HB9.out.trans (hbA.mono (by have := HB2.out.size; omega)))
  have KH := hid hheld
  have hq : ¬ ((1 : Int) + (out.length : Int) < 0) := by omega
  generalize (1 : Int) + (out.length : Int) = kq at *
  have hne : (kq != kq) = false := by simp
  clear hoth hbA hheld HG9 HW9
  go_wp2_with fail
  refine KH.out.mono ?_
  rintro e wB ⟨rfl, hwB⟩
  subst wB
  go_wp2_with fail
  refine (toIntSS_calls wA _ ls (HI.out.below HBA.out) HS.out).mono ?_
  rintro e wC ⟨rfl, ⟨fC, hC⟩, hC1, hbC⟩
  have HC := hid hC
  have HW11 := hid (own_below HW10.out hbC)
  have HBC := hid (bt HBA.out hbC)
  clear hC hbC HW10
  go_wp2_with fail
  refine (inter_calls wC wA.heap.size ls fC HC.out hC1 htot HM.out).mono ?_
  rintro e wD ⟨vH, rfl, hoH, hbD⟩
  rw [← HE.out] at hoH
  have HHD := hid hoH
  have HWD := hid (own_below HW11.out hbD)
  have HBD := hid (bt HBC.out hbD)
  clear hoH hbD HW11
  go_wp2_with fail
  refine (eqIntS_quiet wD _ _ out (own_is HHD.out) (own_is HWD.out) (by omega)).mono ?_
  rintro e wE ⟨rfl, dE, hwE⟩
  have HBE : Hid (Below w.heap.size w wE) := hid (by rw [hwE]; exact below_drewN HBD.out _)
  clear hwE
  go_wp2
  go_ret
  exact ⟨rfl, HBE.out⟩

end Go.Proofs.Ytajelomllfcmiab
