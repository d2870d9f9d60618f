import Derived.Test.YtfjchjhakjghcaaDoorD19
import Derived.Test.YtfjchjhakjghcaaDoorD34
/-
  laws.FnExactPrintData, walked.
-/
namespace Go.Proofs.YtfjchjhakjghcaaDoor
open Go.RowKit

set_option maxHeartbeats 4000000 in
set_option maxRecDepth 1000000 in
theorem printData_walk (w : World) (v0 : Value) (ds : List RelV) (h : IRelS w v0 ds) (hl : ds.length ≤ 9223372036854775807) (hr : ∀ j, FitRel (ds.getD j noRel)) (htab : Lib.TabIs Tryd.prog w "internal/strconv.uint64pow10" .u64 Lib.pow10Tab) :
    Calls Tryd.prog 3 #[.agg #[v0]] w fun e w' => e = .returned (.bool true) ∧ Below w.heap.size w w' := by
  have HB0 : Hid (Below w.heap.size w (w.alloc (.cells #[v0] 24))) := hid ((Below.refl _ _).alloc (Nat.le_refl _) _)
  have HA0 := hid (B1.start w v0 24)
  have K0 := hid (szData_calls (w.alloc (.cells #[v0] 24)) v0 ds 1048576 (h.below HB0.out) hl hr (by omega) (by omega))
  have HI := hid h
  have HTab := hid htab
  clear h hr htab
  by_cases hbig : (1048576 : Int) < rtot ds ds.length
  · rw [if_pos hbig] at K0
    obtain ⟨a0, cp0, rfl, -⟩ := HI.out
    go_enter Tryd.func3, Tryd.ntmps3
    go_wp2_with fail
    refine K0.out.mono ?_
    rintro e w1 ⟨rfl, hb1⟩
    have HB1 := hid (bt HB0.out hb1)
    clear hb1
    go_wp2
    go_ret
    exact ⟨rfl, HB1.out⟩
  rw [if_neg hbig] at K0
  have e2 : ¬ ((1048576 : Int) - rtot ds ds.length < 0) := by omega
  have HR := hid (okRels_of (show rtot ds ds.length ≤ 1048576 by omega))
  have hn0 : ds.length ≤ 1048576 := by have := rtot_le ds ds.length 0 (by omega); rw [rtot_zero] at this; omega
  generalize (1048576 : Int) - rtot ds ds.length = lft at *
  clear hbig hl
  obtain ⟨res, hres⟩ : ∃ r : ByteArray, r = ⟨(prtT ds).toArray⟩ := ⟨_, rfl⟩
  have HE := hid hres
  clear hres
  obtain ⟨a0, cp0, rfl, -⟩ := HI.out
  go_enter Tryd.func3, Tryd.ntmps3
  go_wp2_with fail
  refine K0.out.mono ?_
  rintro e w1 ⟨rfl, hb1⟩
  have HA1 := hid (HA0.out.step hb1)
  have HB1 := hid (bt HB0.out hb1)
  have x0 := HA1.out.c0
  clear hb1
  go_wp2_with fail
  refine (toData_calls w1 _ ds (HI.out.below HB1.out) HR.out hn0).mono ?_
  rintro e w2 ⟨g, rfl, ho, hg1, hg2, hb⟩
  have HO := hid ho
  have HA2 := hid (HA1.out.step hb)
  have HB2 := hid (bt HB1.out hb)
  clear x0 hb ho
  go_wp2_with fail
  refine (sPrintData_calls w2 _ ds HO.out.irels HR.out (fun a n cap e => by simp only [Value.slice.injEq] at e; omega)).mono ?_
  rintro e w3 ⟨rfl, hb⟩
  rw [← HE.out]
  have HA3 := hid (HA2.out.step hb)
  have HB3 := hid (bt HB2.out hb)
  have x0 := HA3.out.c0
  clear hb
  go_wp2_with fail
  refine (toData_calls w3 _ ds (HI.out.below HB3.out) HR.out hn0).mono ?_
  rintro e w4 ⟨h0, rfl, ho, hh1, hh2, hb⟩
  have HX0 := hid (B1.start w4 (.slice (some ⟨h0, 0, none⟩) ds.length ds.length) 29)
  have HA4 := hid ((HA3.out.step hb).alloc (.cells #[.slice (some ⟨h0, 0, none⟩) ds.length ds.length] 29))
  have HB4 : Hid (Below w.heap.size w (w4.alloc (.cells #[.slice (some ⟨h0, 0, none⟩) ds.length ds.length] 29))) := hid ((bt HB3.out hb).alloc (bt HB3.out hb).size _)
  have HO4 := hid (ho.irels.below ((Below.refl _ _).alloc (Nat.le_refl _) (.cells #[.slice (some ⟨h0, 0, none⟩) ds.length ds.length] 29)))
  clear x0 hb ho HO
  go_wp2_with fail
  refine (iPrintData_calls _ _ ds HO4.out HR.out (tab_below HTab.out HB4.out)).mono ?_
  rintro e w5 ⟨rfl, hb⟩
  rw [← HE.out]
  have HA5 := hid (HA4.out.step hb)
  have HX5 := hid (HX0.out.step hb)
  have HB5 := hid (bt HB4.out hb)
  have HO5 := hid (HO4.out.below hb)
  have hne : (res.toList != res.toList) = false := by simp
  clear hb HO4 HX0 HA4 HA3 HA2 HA1 HA0
  have HSW : Hid (∀ W, (W.cell? ⟨w.heap.size, 0, none⟩ = some (.slice a0 ds.length cp0) ∧ W.cell? ⟨w4.heap.size, 0, none⟩ = some (.slice (some ⟨h0, 0, none⟩) ds.length ds.length) ∧ Below w5.heap.size w5 W) → Below w5.heap.size w5 W) := hid (fun W hW => hW.2.2)
  have HIW : Hid (∀ W, (W.cell? ⟨w.heap.size, 0, none⟩ = some (.slice a0 ds.length cp0) ∧ W.cell? ⟨w4.heap.size, 0, none⟩ = some (.slice (some ⟨h0, 0, none⟩) ds.length ds.length) ∧ Below w5.heap.size w5 W) → IRelS W (.slice a0 ds.length cp0) ds) := hid (fun W hW => HI.out.below (bt HB5.out (HSW.out W hW)))
  have HXW : Hid (∀ W, (W.cell? ⟨w.heap.size, 0, none⟩ = some (.slice a0 ds.length cp0) ∧ W.cell? ⟨w4.heap.size, 0, none⟩ = some (.slice (some ⟨h0, 0, none⟩) ds.length ds.length) ∧ Below w5.heap.size w5 W) → IRelS W (.slice (some ⟨h0, 0, none⟩) ds.length ds.length) ds) := hid (fun W hW => HO5.out.below (HSW.out W hW))
  generalize w4.heap.size = X at *
  go_wp2_with fail
  go_region_held3 (fun W => W.cell? ⟨w.heap.size, 0, none⟩ = some (.slice a0 ds.length cp0) ∧ W.cell? ⟨X, 0, none⟩ = some (.slice (some ⟨h0, 0, none⟩) ds.length ds.length) ∧ Below w5.heap.size w5 W)
    (first | exact two1_of HA5.out HX5.out (Below.refl _ _).drew | exact two1_of HA5.out HX5.out (bt (Below.refl _ _).drew hb) | (refine two1_of HA5.out HX5.out (bt (HSW.out _ ?_) hb); assumption))
    (first | (go_at_call 8; refine (toData_calls _ _ ds (HIW.out _ ?_) HR.out hn0).mono ?_; assumption; rintro e w' ⟨kk, rfl, ho, hk1, hk2, hb⟩) | (go_at_call 10; refine (eqData_same _ _ _ ds (HXW.out _ ?_) ho.irels HR.out).mono ?_; assumption; rintro e w' ⟨rfl, hb⟩))
  go_wp2
  go_ret
  refine ⟨rfl, bt HB5.out (HSW.out _ ?_)⟩
  assumption

end Go.Proofs.YtfjchjhakjghcaaDoor
