import Derived.Test.YtliggcbiiaegeabPj44
/-
  spec.Project.
-/
namespace Go.Proofs.Ytliggcbiiaegeab
open Go.RowKit

theorem nil_it (W : World) : IT W (.slice none 0 0) (.slice none 0 0) (.slice none 0 0) [] [] [] := ⟨⟨_, _, rfl, Or.inl rfl⟩, ⟨_, _, rfl, Or.inl rfl⟩, ⟨_, _, rfl, Or.inl rfl⟩⟩

set_option maxHeartbeats 1000000 in
set_option maxRecDepth 1000000 in
theorem sProject_calls (w : World) (v0 v1 v2 : Value) (ad : Addr) (cv : Nat) (vs : List Int) (rows : List (List Int)) (ws vars : List Int) (h : IT w v0 v1 v2 vs rows ws) (hv : IS w (.slice (some ad) vars.length cv) vars) (hlv : vars.length ≤ 1099511627776) (hls : vs.length ≤ 1099511627776) (hS : Short rows) :
    Calls Try.prog 42 #[.agg #[v0, v1, v2], .slice (some ad) vars.length cv] w fun e w' => ∃ x0 x1 x2, e = .returned (.agg #[x0, x1, x2]) ∧ (if prjB vs rows ws vars = true then IT w' x0 x1 x2 vars (srt (rows.map (prjR vs vars))) (ones (srt (rows.map (prjR vs vars))).length) else IT w' x0 x1 x2 [] [] []) ∧ Below w.heap.size w w' := by
  obtain ⟨W1, hW1⟩ : ∃ W1, W1 = (w.alloc (.cells #[v0, v1, v2] 62)).alloc (.cells #[.slice none 0 0, .slice none 0 0, .slice none 0 0] 62) := ⟨_, rfl⟩
  have hB1 : Below w.heap.size w W1 := by rw [hW1]; exact ((Below.refl _ _).alloc (Nat.le_refl _) _).alloc (by simp) _
  have HT1 : Hid (TX W1 w.heap.size v0 v1 v2) := hid (by rw [hW1]; exact (TX.made _ _ _ _).below ((Below.refl _ _).alloc (Nat.le_refl _) _))
  have HR1 : Hid (TX W1 (w.heap.size + 1) (.slice none 0 0) (.slice none 0 0) (.slice none 0 0)) := hid (by
    rw [hW1]
    have := TX.made (w.alloc (.cells #[v0, v1, v2] 62)) (.slice none 0 0) (.slice none 0 0) (.slice none 0 0)
    rw [World.size_alloc] at this
    exact this)
  have HI : Hid (∀ W, Below W1.heap.size W1 W → IT W v0 v1 v2 vs rows ws ∧ IS W (.slice (some ad) vars.length cv) vars) := hid fun W hW => ⟨h.below (bt hB1 hW), hv.below (bt hB1 hW)⟩
  have KT := hid (sTableOK_calls W1 v0 v1 v2 vs rows ws (HI.out W1 (Below.refl _ _)).1 hls hS)
  have KV : Hid (∀ W, Below W1.heap.size W1 W → Calls Try.prog 64 #[.slice (some ad) vars.length cv, .int .i64 6] W fun e w' => e = .returned (.bool (setB vars)) ∧ w' = W) := hid fun W hW => l1SetOK_calls W _ vars (HI.out W hW).2 hlv
  have KP : Hid (∀ W, Below W1.heap.size W1 W → Calls Try.prog 87 #[.slice (some ad) vars.length cv, v0] W fun e w' => e = .returned (.bool (subQ vars vs)) ∧ w' = W) := hid fun W hW => subset_calls W _ v0 vars vs (HI.out W hW).2 hlv (HI.out W hW).1.vs hls
  have HB1 := hid hB1
  obtain ⟨a0, c0, e0, -⟩ := h.vs
  obtain ⟨a1, c1, e1, -⟩ := h.rows
  obtain ⟨a2, c2, e2, -⟩ := h.ws
  have d0 := HT1.out.c0
  have d1 := HT1.out.c1
  have d2 := HT1.out.c2
  subst e0 e1 e2
  have KPr : Hid (prjB vs rows ws vars = true → ∀ W, Below W1.heap.size W1 W → Calls Try.prog 88 #[.agg #[.slice a0 vs.length c0, .slice a1 rows.length c1, .slice a2 ws.length c2], .slice (some ad) vars.length cv] W fun e w' => ∃ x0 x1 x2, e = .returned (.agg #[x0, x1, x2]) ∧ IT w' x0 x1 x2 vars (srt (rows.map (prjR vs vars))) (ones (srt (rows.map (prjR vs vars))).length) ∧ (∀ g, x1.ownBlock = some g → W.heap.size ≤ g) ∧ Below W.heap.size W w') := hid fun hb W hW => by
    unfold prjB at hb
    simp only [Bool.and_eq_true] at hb
    obtain ⟨⟨h1, h2⟩, h3⟩ := hb
    obtain ⟨h4, h5, h6⟩ := tableB_rows h1
    have := setB_six h2
    have := setB_six h4
    exact l2Project_calls W _ _ _ ad cv vs rows ws vars (HI.out W hW).1 (HI.out W hW).2 (by omega) (by omega) (by omega) h6
  clear h hB1 hlv hls hS HI hv
  unfold prjB at *
  cases ht : tableB vs rows ws
  · rw [ht] at KT
    clear KV KP KPr ht
    generalize vs.length = l0 at *
    generalize rows.length = l1 at *
    generalize ws.length = l2 at *
    generalize vars.length = l3 at *
    go_enter Try.func42, Try.ntmps42
    go_upto_region 1 with fail
    rw [← hW1]
    clear hW1
    go_wp2_with fail
    refine KT.out.mono ?_
    rintro e w2 ⟨rfl, hb2⟩
    have HR2 := hid (HR1.out.below hb2)
    have HT2 := hid (HT1.out.below hb2)
    have HQ2 := hid hb2
    have HB2 := hid (bt HB1.out hb2)
    have d0 := HT2.out.c0
    clear hb2 KT HR1 d1 d2 HB1 HT1
    have f0 := HR2.out.free 0
    have f1 := HR2.out.free 1
    have f2 := HR2.out.free 2
    have r0 := HR2.out.c0
    have r1 := HR2.out.c1
    have r2 := HR2.out.c2
    go_wp2_with fail
    refine bodyPost_ret (v := .agg #[.slice none 0 0, .slice none 0 0, .slice none 0 0]) (by simp [results, Try.results42, go_sem, r0, r1, r2]) rfl ⟨_, _, _, rfl, nil_it _, ((HB2.out.setCell (Nat.le_succ _) _).setCell (Nat.le_succ _) _).setCell (Nat.le_succ _) _⟩
  · cases hs : setB vars
    · rw [ht] at KT
      rw [hs] at KV
      clear KP KPr ht hs
      generalize vs.length = l0 at *
      generalize rows.length = l1 at *
      generalize ws.length = l2 at *
      generalize vars.length = l3 at *
      go_enter Try.func42, Try.ntmps42
      go_upto_region 1 with fail
      rw [← hW1]
      clear hW1
      go_wp2_with fail
      refine KT.out.mono ?_
      rintro e w2 ⟨rfl, hb2⟩
      have HR2 := hid (HR1.out.below hb2)
      have HT2 := hid (HT1.out.below hb2)
      have HQ2 := hid hb2
      have HB2 := hid (bt HB1.out hb2)
      have d0 := HT2.out.c0
      clear hb2 KT HR1 d1 d2 HB1 HT1
      go_wp2_with fail
      refine (KV.out w2 HQ2.out).mono ?_
      rintro e w3 ⟨rfl, hw3⟩
      subst w3
      have f0 := HR2.out.free 0
      have f1 := HR2.out.free 1
      have f2 := HR2.out.free 2
      have r0 := HR2.out.c0
      have r1 := HR2.out.c1
      have r2 := HR2.out.c2
      go_wp2_with fail
      refine bodyPost_ret (v := .agg #[.slice none 0 0, .slice none 0 0, .slice none 0 0]) (by simp [results, Try.results42, go_sem, r0, r1, r2]) rfl ⟨_, _, _, rfl, nil_it _, ((HB2.out.setCell (Nat.le_succ _) _).setCell (Nat.le_succ _) _).setCell (Nat.le_succ _) _⟩
    · cases hq : subQ vars vs
      · rw [ht] at KT
        rw [hs] at KV
        rw [hq] at KP
        clear KPr ht hs hq
        generalize vs.length = l0 at *
        generalize rows.length = l1 at *
        generalize ws.length = l2 at *
        generalize vars.length = l3 at *
        go_enter Try.func42, Try.ntmps42
        go_upto_region 1 with fail
        rw [← hW1]
        clear hW1
        go_wp2_with fail
        refine KT.out.mono ?_
        rintro e w2 ⟨rfl, hb2⟩
        have HR2 := hid (HR1.out.below hb2)
        have HT2 := hid (HT1.out.below hb2)
        have HQ2 := hid hb2
        have HB2 := hid (bt HB1.out hb2)
        have d0 := HT2.out.c0
        clear hb2 KT HR1 d1 d2 HB1 HT1
        go_wp2_with fail
        refine (KV.out w2 HQ2.out).mono ?_
        rintro e w3 ⟨rfl, hw3⟩
        subst w3
        go_wp2_with fail
        refine (KP.out w2 HQ2.out).mono ?_
        rintro e w3 ⟨rfl, hw3⟩
        subst w3
        have f0 := HR2.out.free 0
        have f1 := HR2.out.free 1
        have f2 := HR2.out.free 2
        have r0 := HR2.out.c0
        have r1 := HR2.out.c1
        have r2 := HR2.out.c2
        go_wp2_with fail
        refine bodyPost_ret (v := .agg #[.slice none 0 0, .slice none 0 0, .slice none 0 0]) (by simp [results, Try.results42, go_sem, r0, r1, r2]) rfl ⟨_, _, _, rfl, nil_it _, ((HB2.out.setCell (Nat.le_succ _) _).setCell (Nat.le_succ _) _).setCell (Nat.le_succ _) _⟩
      · have KPr' := hid (KPr.out (by rw [ht, hs, hq]; rfl))
        rw [ht] at KT
        rw [hs] at KV
        rw [hq] at KP
        clear KPr ht hs hq
        obtain ⟨R, hR⟩ : ∃ R, R = srt (rows.map (prjR vs vars)) := ⟨_, rfl⟩
        have HRe := hid hR
        rw [← hR] at KPr'
        clear hR
        generalize vs.length = l0 at *
        generalize rows.length = l1 at *
        generalize ws.length = l2 at *
        generalize hl3 : vars.length = l3 at *
        have HL3 := hid hl3
        clear hl3
        go_enter Try.func42, Try.ntmps42
        go_upto_region 1 with fail
        rw [← hW1]
        clear hW1
        go_wp2_with fail
        refine KT.out.mono ?_
        rintro e w2 ⟨rfl, hb2⟩
        have HR2 := hid (HR1.out.below hb2)
        have HT2 := hid (HT1.out.below hb2)
        have HQ2 := hid hb2
        have HB2 := hid (bt HB1.out hb2)
        have d0 := HT2.out.c0
        clear hb2 KT HR1 d1 d2 HB1 HT1
        go_wp2_with fail
        refine (KV.out w2 HQ2.out).mono ?_
        rintro e w3 ⟨rfl, hw3⟩
        subst w3
        go_wp2_with fail
        refine (KP.out w2 HQ2.out).mono ?_
        rintro e w3 ⟨rfl, hw3⟩
        subst w3
        have d1 := HT2.out.c1
        have d2 := HT2.out.c2
        go_wp2_with fail
        refine (KPr'.out w2 HQ2.out).mono ?_
        rintro e w4 ⟨x0, x1, x2, rfl, hI4, hN4, hb4⟩
        have HR4 := hid (HR2.out.below hb4)
        have HB4 := hid (bt HB2.out hb4)
        have HI4 := hid hI4
        have HNe : Hid (x1.ownBlock ≠ some (w.heap.size + 1)) := hid fun e => by
          have e1 := hN4 _ e
          have e2 := HR2.out.lt
          omega
        obtain ⟨b0, k0, e0, -⟩ := hI4.vs
        obtain ⟨b1, k1, e1, -⟩ := hI4.rows
        obtain ⟨b2, k2, e2, -⟩ := hI4.ws
        subst e0 e1 e2
        clear hI4 hb4 hN4 HR2 HB2 HQ2 HT2 KPr' d0 d1 d2
        have hlO := ones_len R.length
        have f0 := HR4.out.free 0
        have f1 := HR4.out.free 1
        have f2 := HR4.out.free 2
        have r0 := HR4.out.c0
        have r1 := HR4.out.c1
        have r2 := HR4.out.c2
        have hVL := HL3.out
        have HFin : Hid (∀ y0 y1 y2, IT (((w4.setCell ⟨w.heap.size + 1, 0, none⟩ y0).setCell ⟨w.heap.size + 1, 1, none⟩ y1).setCell ⟨w.heap.size + 1, 2, none⟩ y2) (.slice b0 vars.length k0) (.slice b1 R.length k1) (.slice b2 (ones R.length).length k2) vars R (ones R.length)) := hid fun y0 y1 y2 => ⟨is_set3 HI4.out.vs HR4.out _ _ _, iss_set3 HI4.out.rows HR4.out HNe.out _ _ _, is_set3 HI4.out.ws HR4.out _ _ _⟩
        rw [hlO, hVL] at HFin
        rw [hlO, hVL]
        clear hlO hVL HI4 HNe
        go_wp2_with fail
        refine bodyPost_ret (v := .agg #[.slice b0 l3 k0, .slice b1 R.length k1, .slice b2 R.length k2]) (by simp [results, Try.results42, go_sem, r0, r1, r2]) rfl ⟨_, _, _, rfl, ?_, ((HB4.out.setCell (Nat.le_succ _) _).setCell (Nat.le_succ _) _).setCell (Nat.le_succ _) _⟩
        rw [← HRe.out]
        exact HFin.out _ _ _

end Go.Proofs.Ytliggcbiiaegeab
