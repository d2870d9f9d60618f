import Derived.Test.YtpdloenmplafiaaV10
import Derived.Test.YtpdloenmplafiaaV30
import Derived.Test.YtpdloenmplafiaaV31
/-
  spec.Project.
-/
namespace Go.Proofs.Ytpdloenmplafiaa
open Go.RowKit

theorem nil_it (W : World) : IT W (.slice none 0 0) (.slice none 0 0) (.slice none 0 0) [] [] [] := ⟨⟨_, _, rfl, Or.inl rfl⟩, ⟨_, _, rfl, Or.inl rfl⟩, ⟨_, _, rfl, Or.inl rfl⟩⟩

set_option maxHeartbeats 1000000 in
set_option maxRecDepth 1000000 in
theorem sProject_calls (w : World) (v0 v1 v2 : Value) (ad : Addr) (cv : Nat) (vs : List Int) (rows : List (List Int)) (ws vars : List Int) (h : IT w v0 v1 v2 vs rows ws) (hv : IS w (.slice (some ad) vars.length cv) vars) (hlv : vars.length ≤ 1099511627776) (hls : vs.length ≤ 1099511627776) (hS : Short rows) :
    Calls Try.prog 26 #[.agg #[v0, v1, v2], .slice (some ad) vars.length cv] w fun e w' => ∃ x0 x1 x2, e = .returned (.agg #[x0, x1, x2]) ∧ (if prjB vs rows ws vars = true then IT w' x0 x1 x2 vars (srt (rows.map (prjR vs vars))) (ones (srt (rows.map (prjR vs vars))).length) else IT w' x0 x1 x2 [] [] []) ∧ Below w.heap.size w w' := by
  obtain ⟨W1, hW1⟩ : ∃ W1, W1 = (w.alloc (.cells #[v0, v1, v2] 53)).alloc (.cells #[.slice none 0 0, .slice none 0 0, .slice none 0 0] 53) := ⟨_, rfl⟩
  have hB1 : Below w.heap.size w W1 := by rw [hW1]; exact ((Below.refl _ _).alloc (Nat.le_refl _) _).alloc (by simp) _
  have HT1 : Hid (TX W1 w.heap.size v0 v1 v2) := hid (by rw [hW1]; exact (TX.made _ _ _ _).below ((Below.refl _ _).alloc (Nat.le_refl _) _))
  have HR1 : Hid (TX W1 (w.heap.size + 1) (.slice none 0 0) (.slice none 0 0) (.slice none 0 0)) := hid (by
    rw [hW1]
    have := TX.made (w.alloc (.cells #[v0, v1, v2] 53)) (.slice none 0 0) (.slice none 0 0) (.slice none 0 0)
    rw [World.size_alloc] at this
    exact this)
  have HI : Hid (∀ W, Below W1.heap.size W1 W → IT W v0 v1 v2 vs rows ws ∧ IS W (.slice (some ad) vars.length cv) vars) := hid fun W hW => ⟨h.below (bt hB1 hW), hv.below (bt hB1 hW)⟩
  have KT := hid (sTableOK_calls W1 v0 v1 v2 vs rows ws (HI.out W1 (Below.refl _ _)).1 hls hS)
  have KV : Hid (∀ W, Below W1.heap.size W1 W → Calls Try.prog 44 #[.slice (some ad) vars.length cv, .int .i64 6] W fun e w' => e = .returned (.bool (setB vars)) ∧ w' = W) := hid fun W hW => l1SetOK_calls W _ vars (HI.out W hW).2 hlv
  have KP : Hid (∀ W, Below W1.heap.size W1 W → Calls Try.prog 69 #[.slice (some ad) vars.length cv, v0] W fun e w' => e = .returned (.bool (subQ vars vs)) ∧ w' = W) := hid fun W hW => subset_calls W _ v0 vars vs (HI.out W hW).2 hlv (HI.out W hW).1.vs hls
  have HB1 := hid hB1
  obtain ⟨a0, c0, e0, -⟩ := h.vs
  obtain ⟨a1, c1, e1, -⟩ := h.rows
  obtain ⟨a2, c2, e2, -⟩ := h.ws
  have d0 := HT1.out.c0
  have d1 := HT1.out.c1
  have d2 := HT1.out.c2
  subst e0 e1 e2
  have KPr : Hid (prjB vs rows ws vars = true → ∀ W, Below W1.heap.size W1 W → Calls Try.prog 70 #[.agg #[.slice a0 vs.length c0, .slice a1 rows.length c1, .slice a2 ws.length c2], .slice (some ad) vars.length cv] W fun e w' => ∃ x0 x1 x2, e = .returned (.agg #[x0, x1, x2]) ∧ IT w' x0 x1 x2 vars (srt (rows.map (prjR vs vars))) (ones (srt (rows.map (prjR vs vars))).length) ∧ (∀ g, x1.ownBlock = some g → W.heap.size ≤ g) ∧ Below W.heap.size W w') := hid fun hb W hW => by
    unfold prjB at hb
    simp only [Bool.and_eq_true] at hb
    obtain ⟨⟨h1, h2⟩, h3⟩ := hb
    obtain ⟨h4, h5, h6⟩ := tableB_rows h1
    have := setB_six h2
    have := setB_six h4
    exact (l2Project_calls W _ _ _ ad cv vs rows ws vars (HI.out W hW).1 (HI.out W hW).2 (by omega) (by omega) (by omega) h6).mono fun e w' ⟨x0, x1, x2, h1, h2, h3, h4, _⟩ => ⟨x0, x1, x2, h1, h2, h3, h4⟩
  clear h hB1 hlv hls hS HI hv
  unfold prjB at *
  cases ht : tableB vs rows ws
  · rw [ht] at KT
    clear KV KP KPr ht
    generalize vs.length = l0 at *
    generalize rows.length = l1 at *
    generalize ws.length = l2 at *
    generalize vars.length = l3 at *
    go_enter Try.func26, Try.ntmps26
    go_upto_region 1 with fail
    rw [← hW1]
    clear hW1
    go_wp2_with fail
    refine KT.out.mono ?_
    rintro e w2 ⟨rfl, hb2⟩
    have HR2 := hid (HR1.out.below hb2)
    have HT2 := hid (HT1.out.below hb2)
    have HQ2 := hid hb2
    have HB2 := hid (bt HB1.out hb2)
    have d0 := HT2.out.c0
    clear hb2 KT HR1 d1 d2 HB1 HT1
    have f0 := HR2.out.free 0
    have f1 := HR2.out.free 1
    have f2 := HR2.out.free 2
    have r0 := HR2.out.c0
    have r1 := HR2.out.c1
    have r2 := HR2.out.c2
    go_wp2_with fail
    refine bodyPost_ret (v := .agg #[.slice none 0 0, .slice none 0 0, .slice none 0 0]) (by simp [results, Try.results26, go_sem, r0, r1, r2]) rfl ⟨_, _, _, rfl, nil_it _, ((HB2.out.setCell (Nat.le_succ _) _).setCell (Nat.le_succ _) _).setCell (Nat.le_succ _) _⟩
  · cases hs : setB vars
    · rw [ht] at KT
      rw [hs] at KV
      clear KP KPr ht hs
      generalize vs.length = l0 at *
      generalize rows.length = l1 at *
      generalize ws.length = l2 at *
      generalize vars.length = l3 at *
      go_enter Try.func26, Try.ntmps26
      go_upto_region 1 with fail
      rw [← hW1]
      clear hW1
      go_wp2_with fail
      refine KT.out.mono ?_
      rintro e w2 ⟨rfl, hb2⟩
      have HR2 := hid (HR1.out.below hb2)
      have HT2 := hid (HT1.out.below hb2)
      have HQ2 := hid hb2
      have HB2 := hid (bt HB1.out hb2)
      have d0 := HT2.out.c0
      clear hb2 KT HR1 d1 d2 HB1 HT1
      go_wp2_with fail
      refine (KV.out w2 HQ2.out).mono ?_
      rintro e w3 ⟨rfl, hw3⟩
      subst w3
      have f0 := HR2.out.free 0
      have f1 := HR2.out.free 1
      have f2 := HR2.out.free 2
      have r0 := HR2.out.c0
      have r1 := HR2.out.c1
      have r2 := HR2.out.c2
      go_wp2_with fail
      refine bodyPost_ret (v := .agg #[.slice none 0 0, .slice none 0 0, .slice none 0 0]) (by simp [results, Try.results26, go_sem, r0, r1, r2]) rfl ⟨_, _, _, rfl, nil_it _, ((HB2.out.setCell (Nat.le_succ _) _).setCell (Nat.le_succ _) _).setCell (Nat.le_succ _) _⟩
    · cases hq : subQ vars vs
      · rw [ht] at KT
        rw [hs] at KV
        rw [hq] at KP
        clear KPr ht hs hq
        generalize vs.length = l0 at *
        generalize rows.length = l1 at *
        generalize ws.length = l2 at *
        generalize vars.length = l3 at *
        go_enter Try.func26, Try.ntmps26
        go_upto_region 1 with fail
        rw [← hW1]
        clear hW1
        go_wp2_with fail
        refine KT.out.mono ?_
        rintro e w2 ⟨rfl, hb2⟩
        have HR2 := hid (HR1.out.below hb2)
        have HT2 := hid (HT1.out.below hb2)
        have HQ2 := hid hb2
        have HB2 := hid (bt HB1.out hb2)
        have d0 := HT2.out.c0
        clear hb2 KT HR1 d1 d2 HB1 HT1
        go_wp2_with fail
        refine (KV.out w2 HQ2.out).mono ?_
        rintro e w3 ⟨rfl, hw3⟩
        subst w3
        go_wp2_with fail
        refine (KP.out w2 HQ2.out).mono ?_
        rintro e w3 ⟨rfl, hw3⟩
        subst w3
        have f0 := HR2.out.free 0
        have f1 := HR2.out.free 1
        have f2 := HR2.out.free 2
        have r0 := HR2.out.c0
        have r1 := HR2.out.c1
        have r2 := HR2.out.c2
        go_wp2_with fail
        refine bodyPost_ret (v := .agg #[.slice none 0 0, .slice none 0 0, .slice none 0 0]) (by simp [results, Try.results26, go_sem, r0, r1, r2]) rfl ⟨_, _, _, rfl, nil_it _, ((HB2.out.setCell (Nat.le_succ _) _).setCell (Nat.le_succ _) _).setCell (Nat.le_succ _) _⟩
      · have KPr' := hid (KPr.out (by rw [ht, hs, hq]; rfl))
        rw [ht] at KT
        rw [hs] at KV
        rw [hq] at KP
        clear KPr ht hs hq
        obtain ⟨R, hR⟩ : ∃ R, R = srt (rows.map (prjR vs vars)) := ⟨_, rfl⟩
        have HRe := hid hR
        rw [← hR] at KPr'
        clear hR
        generalize vs.length = l0 at *
        generalize rows.length = l1 at *
        generalize ws.length = l2 at *
        generalize hl3 : vars.length = l3 at *
        have HL3 := hid hl3
        clear hl3
        go_enter Try.func26, Try.ntmps26
        go_upto_region 1 with fail
        rw [← hW1]
        clear hW1
        go_wp2_with fail
        refine KT.out.mono ?_
        rintro e w2 ⟨rfl, hb2⟩
        have HR2 := hid (HR1.out.below hb2)
        have HT2 := hid (HT1.out.below hb2)
        have HQ2 := hid hb2
        have HB2 := hid (bt HB1.out hb2)
        have d0 := HT2.out.c0
        clear hb2 KT HR1 d1 d2 HB1 HT1
        go_wp2_with fail
        refine (KV.out w2 HQ2.out).mono ?_
        rintro e w3 ⟨rfl, hw3⟩
        subst w3
        go_wp2_with fail
        refine (KP.out w2 HQ2.out).mono ?_
        rintro e w3 ⟨rfl, hw3⟩
        subst w3
        have d1 := HT2.out.c1
        have d2 := HT2.out.c2
        go_wp2_with fail
        refine (KPr'.out w2 HQ2.out).mono ?_
        rintro e w4 ⟨x0, x1, x2, rfl, hI4, hN4, hb4⟩
        have HR4 := hid (HR2.out.below hb4)
        have HB4 := hid (bt HB2.out hb4)
        have HI4 := hid hI4
        have HNe : Hid (x1.ownBlock ≠ some (w.heap.size + 1)) := hid fun e => by
          have e1 := hN4 _ e
          have e2 := HR2.out.lt
          omega
        obtain ⟨b0, k0, e0, -⟩ := hI4.vs
        obtain ⟨b1, k1, e1, -⟩ := hI4.rows
        obtain ⟨b2, k2, e2, -⟩ := hI4.ws
        subst e0 e1 e2
        clear hI4 hb4 hN4 HR2 HB2 HQ2 HT2 KPr' d0 d1 d2
        have hlO := ones_len R.length
        have f0 := HR4.out.free 0
        have f1 := HR4.out.free 1
        have f2 := HR4.out.free 2
        have r0 := HR4.out.c0
        have r1 := HR4.out.c1
        have r2 := HR4.out.c2
        have hVL := HL3.out
        have HFin : Hid (∀ y0 y1 y2, IT (((w4.setCell ⟨w.heap.size + 1, 0, none⟩ y0).setCell ⟨w.heap.size + 1, 1, none⟩ y1).setCell ⟨w.heap.size + 1, 2, none⟩ y2) (.slice b0 vars.length k0) (.slice b1 R.length k1) (.slice b2 (ones R.length).length k2) vars R (ones R.length)) := hid fun y0 y1 y2 => ⟨is_set3 HI4.out.vs HR4.out _ _ _, iss_set3 HI4.out.rows HR4.out HNe.out _ _ _, is_set3 HI4.out.ws HR4.out _ _ _⟩
        rw [hlO, hVL] at HFin
        rw [hlO, hVL]
        clear hlO hVL HI4 HNe
        go_wp2_with fail
        refine bodyPost_ret (v := .agg #[.slice b0 l3 k0, .slice b1 R.length k1, .slice b2 R.length k2]) (by simp [results, Try.results26, go_sem, r0, r1, r2]) rfl ⟨_, _, _, rfl, ?_, ((HB4.out.setCell (Nat.le_succ _) _).setCell (Nat.le_succ _) _).setCell (Nat.le_succ _) _⟩
        rw [← HRe.out]
        exact HFin.out _ _ _

end Go.Proofs.Ytpdloenmplafiaa

/-
  laws.FnExactProject, walked.
-/
namespace Go.Proofs.Ytpdloenmplafiaa
open Go.RowKit

set_option maxHeartbeats 1000000 in
set_option maxRecDepth 1000000 in
theorem markTable_own (w : World) (B g0 g1 g2 : Nat) (vs : List Int) (rows : List (List Int)) (ws : List Int) (f : Nat → Nat) (h : OwnT w B g0 g1 g2 vs rows ws f) (ht : tot rows rows.length ≤ 1048576) (h3 : vs.length ≤ 1048576) (h4 : ws.length ≤ 1048576) :
    Calls Try.prog 30 #[.agg #[.slice (some ⟨g0, 0, none⟩) vs.length vs.length, .slice (some ⟨g1, 0, none⟩) rows.length rows.length, .slice (some ⟨g2, 0, none⟩) ws.length ws.length], .int .i64 1] w fun e w' => ∃ m : Int, 0 ≤ m ∧ m ≤ 8388608 ∧ e = .returned (.int .i64 m) ∧ Below B w w' ∧ ∀ q, g2 < q → q < w.heap.size → w'.heap[q]? = w.heap[q]? := by
  have hn0 := tot_le rows rows.length 0 (by omega)
  rw [tot_zero] at hn0
  have hl0 := h.lt0
  have hl1 := h.lt1
  have hl3 := h.lt3
  have HL2 := hid h.lt2
  have HGt := hid h.rw.gt
  have hg2 := h.wt.lt
  obtain ⟨W1, hW1⟩ : ∃ W1, W1 = w.alloc (.cells #[.slice (some ⟨g0, 0, none⟩) vs.length vs.length, .slice (some ⟨g1, 0, none⟩) rows.length rows.length, .slice (some ⟨g2, 0, none⟩) ws.length ws.length] 53) := ⟨_, rfl⟩
  have hb1 : Below w.heap.size w W1 := by rw [hW1]; exact (Below.refl _ _).alloc (Nat.le_refl _) _
  have HO1 := hid (h.below hb1)
  have HX1 : Hid (TX W1 w.heap.size (.slice (some ⟨g0, 0, none⟩) vs.length vs.length) (.slice (some ⟨g1, 0, none⟩) rows.length rows.length) (.slice (some ⟨g2, 0, none⟩) ws.length ws.length)) := hid (by rw [hW1]; exact TX.made _ _ _ _)
  have HB1 := hid hb1
  have d0 := HX1.out.c0
  have K1 := hid (markIntS_calls W1 g0 vs 1 HO1.out.vr (by omega) (by omega) (by omega))
  clear hb1 h
  go_enter Try.func30, Try.ntmps30
  go_upto_region 1 with fail
  rw [← hW1]
  clear hW1
  go_wp2_with fail
  refine K1.out.mono ?_
  rintro e w2 ⟨rfl, -, hog2⟩
  have HH2 : Hid (Half w2 g1 rows.length rows.length rows f) := hid (HO1.out.rw.move (hog2.block _ (by omega)) (fun i hi => hog2.block _ (by have := HGt.out i hi; omega)) (by rw [hog2.size]; exact Nat.le_refl _))
  have HW2 : Hid (OwnI w2 g2 ws) := hid (HO1.out.wt.move (hog2.block _ (by omega)) (by rw [hog2.size]; exact Nat.le_refl _))
  have HX2 : Hid (TX w2 w.heap.size (.slice (some ⟨g0, 0, none⟩) vs.length vs.length) (.slice (some ⟨g1, 0, none⟩) rows.length rows.length) (.slice (some ⟨g2, 0, none⟩) ws.length ws.length)) := hid ⟨(hog2.block _ (by omega)).trans HX1.out.blk⟩
  have HG2 := hid hog2
  have d1 := HX2.out.c1
  obtain ⟨s1, hs1⟩ : ∃ s : Int, s = 1 + (vs.length : Int) := ⟨_, rfl⟩
  rw [← hs1]
  have r1 : 0 ≤ s1 ∧ s1 ≤ 2000000 := by omega
  have K2 := hid (markIntSS_calls w2 g1 rows f s1 HH2.out ht (by omega) (by omega))
  clear hog2 K1 d0 hs1 HO1
  go_wp2_with fail
  refine K2.out.mono ?_
  rintro e w3 ⟨rfl, hos⟩
  have HW3 : Hid (OwnI w3 g2 ws) := hid (HW2.out.move (hos.block _ fun i hi e => by have := HL2.out i hi; omega) (by rw [hos.size]; exact Nat.le_refl _))
  have HX3 : Hid (TX w3 w.heap.size (.slice (some ⟨g0, 0, none⟩) vs.length vs.length) (.slice (some ⟨g1, 0, none⟩) rows.length rows.length) (.slice (some ⟨g2, 0, none⟩) ws.length ws.length)) := hid ⟨(hos.block _ fun i hi e => by have := HL2.out i hi; omega).trans HX2.out.blk⟩
  have HG3 := hid hos
  have d2 := HX3.out.c2
  obtain ⟨s2, hs2⟩ : ∃ s : Int, s = s1 + (tot rows rows.length - rows.length) := ⟨_, rfl⟩
  rw [← hs2]
  have r2 : 0 ≤ s2 ∧ s2 ≤ 4000000 := by omega
  have K3 := hid (markIntS_calls w3 g2 ws s2 HW3.out (by omega) (by omega) (by omega))
  clear hos K2 d1 hs2 HH2 HW2
  go_wp2_with fail
  refine K3.out.mono ?_
  rintro e w4 ⟨rfl, -, hog4⟩
  have HG4 := hid hog4
  obtain ⟨s3, hs3⟩ : ∃ s : Int, s = s2 + (ws.length : Int) := ⟨_, rfl⟩
  rw [← hs3]
  have r3 : 0 ≤ s3 ∧ s3 ≤ 8388608 := by omega
  clear hog4 K3 d2 hs3
  go_wp2_with fail
  go_ret
  refine ⟨s3, r3.1, r3.2, rfl, ?_, fun q hq hlt => ?_⟩
  · exact (((HB1.out.mono (by omega)).trans (HG2.out.below (by omega))).trans (HG3.out.below fun i hi => by have := HGt.out i hi; omega)).trans (HG4.out.below (by omega))
  · exact (((HG4.out.block q (by omega)).trans (HG3.out.block q fun i hi e => by have := HL2.out i hi; omega)).trans (HG2.out.block q (by omega))).trans (HB1.out.block q hlt)

/-- both sides give one table -/
structure AlkP (vs : List Int) (rows : List (List Int)) (ws vars : List Int) (A : List Int) (R : List (List Int)) (O : List Int) : Prop where
  spec : ∀ W v0 v1 v2 ad cv, IT W v0 v1 v2 vs rows ws → IS W (.slice (some ad) vars.length cv) vars → Calls Try.prog 26 #[.agg #[v0, v1, v2], .slice (some ad) vars.length cv] W fun e w' => ∃ x0 x1 x2, e = .returned (.agg #[x0, x1, x2]) ∧ IT w' x0 x1 x2 A R O ∧ Below W.heap.size W w'
  impl : ∀ W v0 v1 v2 vv, IT W v0 v1 v2 vs rows ws → IS W vv vars → Calls Try.prog 28 #[.agg #[v0, v1, v2], vv] W fun e w' => ∃ x0 x1 x2 us, e = .returned (.agg #[x0, x1, x2]) ∧ TQ w' W.heap.size x0 x1 x2 us A R O ∧ Below W.heap.size W w'
  b0 : Short R
  b1 : lenQ R R.length ≤ 1048576
  b2 : R.length ≤ 1048576
  b3 : A.length ≤ 1048576
  b4 : O.length ≤ 1048576

theorem lenQ_bound {ls : List (List Int)} {m : Nat} (h : ∀ i, (ls.getD i []).length ≤ m) : ∀ n, lenQ ls n ≤ n * m
  | 0 => Nat.zero_le _
  | n + 1 => by
    show lenQ ls n + _ ≤ _
    have := lenQ_bound h n
    have := h n
    rw [Nat.add_mul]
    omega

theorem alikeP (vs : List Int) (rows : List (List Int)) (ws vars : List Int) (hlv : vars.length ≤ 1099511627776) (hls : vs.length ≤ 1099511627776) (hS : Short rows) : ∃ A R O, AlkP vs rows ws vars A R O := by
  cases hc : prjB vs rows ws vars
  · refine ⟨[], [], [], fun W v0 v1 v2 ad cv h1 h2 => ?_, fun W v0 v1 v2 vv h1 h2 => ?_, ⟨by simp, fun j => by simp⟩, by simp [lenQ], by simp, by simp, by simp⟩
    · refine (sProject_calls W v0 v1 v2 ad cv vs rows ws vars h1 h2 hlv hls hS).mono ?_
      rintro e w' ⟨x0, x1, x2, rfl, hI, hb⟩
      rw [hc, if_neg (by simp)] at hI
      exact ⟨_, _, _, rfl, hI, hb⟩
    · refine (iProject_calls W v0 v1 v2 vv vs rows ws vars h1 h2 hlv hls hS).mono ?_
      rintro e w' ⟨x0, x1, x2, us, rfl, hI, hb⟩
      rw [hc, if_neg (by simp)] at hI
      exact ⟨_, _, _, us, rfl, hI, hb⟩
  · have hp : tableB vs rows ws = true ∧ setB vars = true := by
      unfold prjB at hc
      simp only [Bool.and_eq_true] at hc
      exact hc.1
    obtain ⟨h4, h5, h6⟩ := tableB_rows hp.1
    have hv6 := setB_six hp.2
    have hln := srt_len _ (rows.map (prjR vs vars)) (Nat.le_refl _)
    rw [List.length_map] at hln
    have hbl : ∀ i, ((srt (rows.map (prjR vs vars))).getD i []).length ≤ 6 := fun i => by
      rw [List.getD_eq_getElem?_getD]
      cases h : (srt (rows.map (prjR vs vars)))[i]? with
      | none => simp
      | some r =>
        have hm := ((srt_ok _ (rows.map (prjR vs vars)) (Nat.le_refl _)).2 r).1 (List.mem_of_getElem? h)
        obtain ⟨q, -, e⟩ := List.mem_map.1 hm
        show r.length ≤ 6
        rw [← e, prjR_len]; exact hv6
    have hlq := lenQ_bound hbl (srt (rows.map (prjR vs vars))).length
    refine ⟨vars, srt (rows.map (prjR vs vars)), ones (srt (rows.map (prjR vs vars))).length, fun W v0 v1 v2 ad cv h1 h2 => ?_, fun W v0 v1 v2 vv h1 h2 => ?_, ⟨by omega, fun j => by have := hbl j; omega⟩, by omega, by omega, by omega, by rw [ones_len]; omega⟩
    · refine (sProject_calls W v0 v1 v2 ad cv vs rows ws vars h1 h2 hlv hls hS).mono ?_
      rintro e w' ⟨x0, x1, x2, rfl, hI, hb⟩
      rw [hc, if_pos rfl] at hI
      exact ⟨_, _, _, rfl, hI, hb⟩
    · refine (iProject_calls W v0 v1 v2 vv vs rows ws vars h1 h2 hlv hls hS).mono ?_
      rintro e w' ⟨x0, x1, x2, us, rfl, hI, hb⟩
      rw [hc, if_pos rfl] at hI
      exact ⟨_, _, _, us, rfl, hI, hb⟩

theorem TQ.it {W : World} {B : Nat} {v0 v1 v2 : Value} {us : List Value} {vs ws : List Int} {rows : List (List Int)} (h : TQ W B v0 v1 v2 us vs rows ws) : IT W v0 v1 v2 vs rows ws := ⟨own_is h.o0, h.rq.rs.iss (Below.refl _ _), own_is h.o2⟩
theorem TQ.stay {W W' : World} {B : Nat} {v0 v1 v2 : Value} {us : List Value} {vs ws : List Int} {rows : List (List Int)} (h : TQ W B v0 v1 v2 us vs rows ws) (hb : ∀ q, B ≤ q → q < W.heap.size → W'.heap[q]? = W.heap[q]?) : TQ W' B v0 v1 v2 us vs rows ws :=
  ⟨own_move h.o0 fun g hg => hb g (h.o0.lt g hg).1 (h.o0.lt g hg).2, ⟨own_move h.rq.own fun g hg => hb g (h.rq.own.lt g hg).1 (h.rq.own.lt g hg).2, h.rq.len, fun i hi => own_move (h.rq.each i hi) fun g hg => hb g ((h.rq.each i hi).lt g hg).1 ((h.rq.each i hi).lt g hg).2, h.rq.ap⟩, own_move h.o2 fun g hg => hb g (h.o2.lt g hg).1 (h.o2.lt g hg).2, h.a02, h.a0, h.a2⟩

end Go.Proofs.Ytpdloenmplafiaa
