import Derived.Test.YtpdloenmplafiaaV28
/-
  impl.Project.
-/
namespace Go.Proofs.Ytpdloenmplafiaa
open Go.RowKit

theorem setB_okAt {l : List Int} (h : setB l = true) {i : Nat} (hi : i < l.length) : okAt l i = true := by
  unfold setB at h
  rw [List.all_eq_true] at h
  exact h i (by simpa using hi)
theorem setB_low {l : List Int} (h : setB l = true) : ∀ i, i < l.length → (i : Int) ≤ l.getD i 0 ∧ l.getD i 0 < 6
  | 0, hi => by
    have := setB_okAt h hi
    unfold okAt at this
    simp only [Bool.and_eq_true, decide_eq_true_eq] at this
    omega
  | i + 1, hi => by
    have := setB_okAt h hi
    have ih := setB_low h i (by omega)
    unfold okAt at this
    simp only [Bool.and_eq_true, Bool.or_eq_true, decide_eq_true_eq, Nat.add_sub_cancel] at this
    omega
theorem setB_six {l : List Int} (h : setB l = true) : l.length ≤ 6 := by
  rcases Nat.lt_or_ge 6 l.length with h1 | h1
  · have := setB_low h 6 h1
    omega
  · exact h1
theorem setB_pw {l : List Int} (h : setB l = true) : l.Pairwise (· < ·) := by
  have step : ∀ j, j < l.length → ∀ i, i < j → l.getD i 0 < l.getD j 0 := by
    intro j
    induction j with
    | zero => intro _ i hi; omega
    | succ j ih =>
      intro hj i hi
      have := setB_okAt h hj
      unfold okAt at this
      simp only [Bool.and_eq_true, Bool.or_eq_true, decide_eq_true_eq, Nat.add_sub_cancel] at this
      by_cases e : i = j
      · subst e; omega
      · have := ih (by omega) i (by omega); omega
  rw [List.pairwise_iff_getElem]
  intro i j hi hj hij
  have := step j hj i hij
  rw [List.getD_eq_getElem?_getD, List.getElem?_eq_getElem hi, List.getD_eq_getElem?_getD, List.getElem?_eq_getElem hj] at this
  exact this
theorem tableB_rows {vs : List Int} {rows : List (List Int)} {ws : List Int} (h : tableB vs rows ws = true) : setB vs = true ∧ rows.length ≤ 10000 ∧ ∀ r ∈ rows, r.length = vs.length := by
  unfold tableB at h
  simp only [Bool.and_eq_true, decide_eq_true_eq] at h
  refine ⟨h.1.1.1, h.1.1.2, fun r hr => ?_⟩
  obtain ⟨i, hi, e⟩ := List.getElem_of_mem hr
  have h1 := h.1.2
  unfold rowsB at h1
  rw [List.all_eq_true] at h1
  have h2 := h1 i (by simpa using hi)
  unfold rowAt at h2
  simp only [Bool.and_eq_true, decide_eq_true_eq] at h2
  rw [List.getD_eq_getElem?_getD, List.getElem?_eq_getElem hi, Option.getD_some, e] at h2
  omega
def prjB (vs : List Int) (rows : List (List Int)) (ws vars : List Int) : Bool := tableB vs rows ws && setB vars && subQ vars vs

/-- a table that a call has made -/
structure TQ (W : World) (B : Nat) (v0 v1 v2 : Value) (us : List Value) (vs : List Int) (rows : List (List Int)) (ws : List Int) : Prop where
  o0 : W.ownsRow B 3 1 v0 vs.length (vs.map (Value.int .i64))
  rq : RQ W B v1 us rows
  o2 : W.ownsRow B 3 1 v2 ws.length (ws.map (Value.int .i64))
  a02 : Ap' v0 v2
  a0 : ∀ i, i < rows.length → Ap' (us.getD i undef) v0
  a2 : ∀ i, i < rows.length → Ap' (us.getD i undef) v2
theorem TQ.nil (W : World) (B : Nat) : TQ W B (.slice none 0 0) (.slice none 0 0) (.slice none 0 0) [] [] [] [] :=
  ⟨World.ownsRow_nil _ _ _ _, ⟨World.ownsRow_nil _ _ _ _, rfl, fun i hi => by simp at hi, fun i j _ hj => by simp at hj⟩, World.ownsRow_nil _ _ _ _, fun g h => by simp [Value.ownBlock] at h, fun i hi => by simp at hi, fun i hi => by simp at hi⟩
theorem TQ.set {W : World} {B p off : Nat} {v0 v1 v2 y : Value} {us : List Value} {vs ws : List Int} {rows : List (List Int)} (h : TQ W B v0 v1 v2 us vs rows ws) (ht : ∃ cur, W.heap[p]? = some (.cells cur 53 (0, 0))) : TQ (W.setCell ⟨p, off, none⟩ y) B v0 v1 v2 us vs rows ws :=
  ⟨own_keep3 h.o0 ht (by decide), h.rq.set ht, own_keep3 h.o2 ht (by decide), h.a02, h.a0, h.a2⟩
theorem TQ.below {W W' : World} {B : Nat} {v0 v1 v2 : Value} {us : List Value} {vs ws : List Int} {rows : List (List Int)} (h : TQ W B v0 v1 v2 us vs rows ws) (hb : Below W.heap.size W W') : TQ W' B v0 v1 v2 us vs rows ws :=
  ⟨own_below h.o0 hb, h.rq.below hb, own_below h.o2 hb, h.a02, h.a0, h.a2⟩
def ones (n : Nat) : List Int := List.replicate n 1
theorem ones_vals (n : Nat) : (ones n).map (Value.int .i64) = List.replicate n (.int .i64 1) := by simp [ones]
theorem ones_len (n : Nat) : (ones n).length = n := by simp [ones]

set_option maxHeartbeats 600000 in
set_option maxRecDepth 1000000 in
theorem iProject_calls (w : World) (v0 v1 v2 vv : Value) (vs : List Int) (rows : List (List Int)) (ws vars : List Int) (h : IT w v0 v1 v2 vs rows ws) (hv : IS w vv vars) (hlv : vars.length ≤ 1099511627776) (hls : vs.length ≤ 1099511627776) (hS : Short rows) :
    Calls Try.prog 28 #[.agg #[v0, v1, v2], vv] w fun e w' => ∃ x0 x1 x2 us, e = .returned (.agg #[x0, x1, x2]) ∧ (if prjB vs rows ws vars = true then TQ w' w.heap.size x0 x1 x2 us vars (srt (rows.map (prjR vs vars))) (ones (srt (rows.map (prjR vs vars))).length) else TQ w' w.heap.size x0 x1 x2 us [] [] []) ∧ Below w.heap.size w w' := by
  obtain ⟨W1, hW1⟩ : ∃ W1, W1 = (w.alloc (.cells #[v0, v1, v2] 53)).alloc (.cells #[.slice none 0 0, .slice none 0 0, .slice none 0 0] 53) := ⟨_, rfl⟩
  have hB1 : Below w.heap.size w W1 := by rw [hW1]; exact ((Below.refl _ _).alloc (Nat.le_refl _) _).alloc (by simp) _
  have HT1 : Hid (TX W1 w.heap.size v0 v1 v2) := hid (by rw [hW1]; exact (TX.made _ _ _ _).below ((Below.refl _ _).alloc (Nat.le_refl _) _))
  have HR1 : Hid (TX W1 (w.heap.size + 1) (.slice none 0 0) (.slice none 0 0) (.slice none 0 0)) := hid (by
    rw [hW1]
    have := TX.made (w.alloc (.cells #[v0, v1, v2] 53)) (.slice none 0 0) (.slice none 0 0) (.slice none 0 0)
    rw [World.size_alloc] at this
    exact this)
  have HI : Hid (∀ W, Below W1.heap.size W1 W → IT W v0 v1 v2 vs rows ws ∧ IS W vv vars) := hid fun W hW => ⟨h.below (bt hB1 hW), hv.below (bt hB1 hW)⟩
  have KT := hid (tableOK_calls W1 v0 v1 v2 vs rows ws (HI.out W1 (Below.refl _ _)).1 hls hS)
  have KV : Hid (∀ W, Below W1.heap.size W1 W → Calls Try.prog 49 #[vv] W fun e w' => e = .returned (.bool (setB vars)) ∧ w' = W) := hid fun W hW => isVariableSet_calls W vv vars (HI.out W hW).2 hlv
  have KP : Hid (∀ W, Below W1.heap.size W1 W → Calls Try.prog 72 #[vv, v0] W fun e w' => ∃ v, e = .returned v ∧ w'.ownsRow W.heap.size 3 1 v (plc (fun i => decide (vars.getD i 0 ∈ vs)) vars.length).length ((plc (fun i => decide (vars.getD i 0 ∈ vs)) vars.length).map (Value.int .i64)) ∧ Below W.heap.size W w') := hid fun W hW => placesIn_calls W vv v0 vars vs (HI.out W hW).2 (HI.out W hW).1.vs hlv hls
  have hps := places_short vars vs
  have HB1 := hid hB1
  obtain ⟨a0, c0, e0, -⟩ := h.vs
  obtain ⟨a1, c1, e1, -⟩ := h.rows
  obtain ⟨a2, c2, e2, -⟩ := h.ws
  obtain ⟨av, cv, e3, -⟩ := hv
  have d0 := HT1.out.c0
  have d1 := HT1.out.c1
  have d2 := HT1.out.c2
  subst e0 e1 e2 e3
  have HG : Hid (prjB vs rows ws vars = true → (vars.length ≤ 6 ∧ vs.length ≤ 6 ∧ rows.length ≤ 10000 ∧ (∀ r ∈ rows, r.length = vs.length) ∧ prjL rows (plc (fun i => decide (vs.getD i 0 ∈ vars)) vs.length) = rows.map (prjR vs vars))) := hid fun hb => by
    unfold prjB at hb
    simp only [Bool.and_eq_true] at hb
    obtain ⟨⟨h1, h2⟩, h3⟩ := hb
    obtain ⟨h4, h5, h6⟩ := tableB_rows h1
    refine ⟨setB_six h2, setB_six h4, h5, h6, proj_rows (setB_pw h4) (setB_pw h2) fun x hx => ?_⟩
    unfold subQ at h3
    rw [List.all_eq_true] at h3
    simpa using h3 x hx
  have KPr : Hid (prjB vs rows ws vars = true → ∀ W, Below W1.heap.size W1 W → Calls Try.prog 74 #[.agg #[.slice a0 vs.length c0, .slice a1 rows.length c1, .slice a2 ws.length c2], .slice av vars.length cv] W fun e w' => ∃ v uo, e = .returned v ∧ RQ w' W.heap.size v uo (srt (rows.map (prjR vs vars))) ∧ Below W.heap.size W w') := hid fun hb W hW => by
    obtain ⟨g1, g2, g3, g4, g5⟩ := HG.out hb
    have := projectedRows_calls W _ _ _ _ vs rows ws vars (HI.out W hW).1 (HI.out W hW).2 (by omega) (by omega) (by omega) g4
    rw [g5] at this
    exact this
  have KPl : Hid (prjB vs rows ws vars = true → ∀ W vr, Below W1.heap.size W1 W → (∃ a c, vr = .slice a (srt (rows.map (prjR vs vars))).length c) → Calls Try.prog 73 #[.slice av vars.length cv, vr] W fun e w' => ∃ v0 v2, e = .returned (.agg #[v0, vr, v2]) ∧ w'.ownsRow W.heap.size 3 1 v0 vars.length (vars.map (Value.int .i64)) ∧ w'.ownsRow W.heap.size 3 1 v2 (srt (rows.map (prjR vs vars))).length (List.replicate (srt (rows.map (prjR vs vars))).length (.int .i64 1)) ∧ Ap' v0 v2 ∧ Below W.heap.size W w') := hid fun hb W vr hW hvr => by
    obtain ⟨g1, g2, g3, g4, g5⟩ := HG.out hb
    exact plainTable_calls W _ vr vars _ (HI.out W hW).2 hvr (by omega) (Nat.le_trans (srt_len _ _ (Nat.le_refl _)) (by rw [List.length_map]; omega))
  clear h hB1 hlv hls hS
  unfold prjB at *
  cases ht : tableB vs rows ws
  · rw [ht] at KT
    clear KV KP KPr KPl HG hps ht
    generalize vs.length = l0 at *
    generalize rows.length = l1 at *
    generalize ws.length = l2 at *
    generalize vars.length = l3 at *
    go_enter Try.func28, Try.ntmps28
    go_upto_region 1 with fail
    rw [← hW1]
    clear hW1
    go_wp2_with fail
    refine KT.out.mono ?_
    rintro e w2 ⟨rfl, hb2⟩
    have HR2 := hid (HR1.out.below hb2)
    have HT2 := hid (HT1.out.below hb2)
    have HQ2 := hid hb2
    have HB2 := hid (bt HB1.out hb2)
    clear hb2 KT HR1 d0 d1 d2 HB1
    have f0 := HR2.out.free 0
    have f1 := HR2.out.free 1
    have f2 := HR2.out.free 2
    have r0 := HR2.out.c0
    have r1 := HR2.out.c1
    have r2 := HR2.out.c2
    go_wp2_with fail
    refine bodyPost_ret (v := .agg #[.slice none 0 0, .slice none 0 0, .slice none 0 0]) (by simp [results, Try.results28, go_sem, r0, r1, r2]) rfl ⟨_, _, _, rfl, ⟨[], TQ.nil _ _⟩, ((HB2.out.setCell (Nat.le_succ _) _).setCell (Nat.le_succ _) _).setCell (Nat.le_succ _) _⟩
  · cases hs : setB vars
    · rw [ht] at KT
      rw [hs] at KV
      clear KP KPr KPl HG hps ht hs
      generalize vs.length = l0 at *
      generalize rows.length = l1 at *
      generalize ws.length = l2 at *
      generalize vars.length = l3 at *
      go_enter Try.func28, Try.ntmps28
      go_upto_region 1 with fail
      rw [← hW1]
      clear hW1
      go_wp2_with fail
      refine KT.out.mono ?_
      rintro e w2 ⟨rfl, hb2⟩
      have HR2 := hid (HR1.out.below hb2)
      have HT2 := hid (HT1.out.below hb2)
      have HQ2 := hid hb2
      have HB2 := hid (bt HB1.out hb2)
      clear hb2 KT HR1 d0 d1 d2 HB1
      go_wp2_with fail
      refine (KV.out w2 HQ2.out).mono ?_
      rintro e w3 ⟨rfl, hw3⟩
      subst w3
      have f0 := HR2.out.free 0
      have f1 := HR2.out.free 1
      have f2 := HR2.out.free 2
      have r0 := HR2.out.c0
      have r1 := HR2.out.c1
      have r2 := HR2.out.c2
      go_wp2_with fail
      refine bodyPost_ret (v := .agg #[.slice none 0 0, .slice none 0 0, .slice none 0 0]) (by simp [results, Try.results28, go_sem, r0, r1, r2]) rfl ⟨_, _, _, rfl, ⟨[], TQ.nil _ _⟩, ((HB2.out.setCell (Nat.le_succ _) _).setCell (Nat.le_succ _) _).setCell (Nat.le_succ _) _⟩
    · cases hq : subQ vars vs
      · rw [ht] at KT
        rw [hs] at KV
        rw [hq] at hps
        have i1 : ((plc (fun i => decide (vars.getD i 0 ∈ vs)) vars.length).length : Int) < (vars.length : Int) := by have := of_decide_eq_true (hps.trans rfl); omega
        clear KPr KPl HG hps ht hs hq
        generalize (plc (fun i => decide (vars.getD i 0 ∈ vs)) vars.length).length = lp at *
        generalize vs.length = l0 at *
        generalize rows.length = l1 at *
        generalize ws.length = l2 at *
        generalize vars.length = l3 at *
        go_enter Try.func28, Try.ntmps28
        go_upto_region 1 with fail
        rw [← hW1]
        clear hW1
        go_wp2_with fail
        refine KT.out.mono ?_
        rintro e w2 ⟨rfl, hb2⟩
        have HR2 := hid (HR1.out.below hb2)
        have HT2 := hid (HT1.out.below hb2)
        have HQ2 := hid hb2
        have HB2 := hid (bt HB1.out hb2)
        have d0 := HT2.out.c0
        clear hb2 KT HR1 d1 d2 HB1 HT1
        go_wp2_with fail
        refine (KV.out w2 HQ2.out).mono ?_
        rintro e w3 ⟨rfl, hw3⟩
        subst w3
        go_wp2_with fail
        refine (KP.out w2 HQ2.out).mono ?_
        rintro e w3 ⟨v3, rfl, ho3, hb3⟩
        obtain ⟨a3, c3, e3⟩ := own_shape ho3
        subst e3
        have HR3 := hid (HR2.out.below hb3)
        have HT3 := hid (HT2.out.below hb3)
        have HQ3 := hid (bt HQ2.out hb3)
        have HB3 := hid (bt HB2.out hb3)
        clear ho3 hb3 HR2 HT2 HQ2 HB2 KV KP d0
        have f0 := HR3.out.free 0
        have f1 := HR3.out.free 1
        have f2 := HR3.out.free 2
        have r0 := HR3.out.c0
        have r1 := HR3.out.c1
        have r2 := HR3.out.c2
        go_wp2_with fail
        refine bodyPost_ret (v := .agg #[.slice none 0 0, .slice none 0 0, .slice none 0 0]) (by simp [results, Try.results28, go_sem, r0, r1, r2]) rfl ⟨_, _, _, rfl, ⟨[], TQ.nil _ _⟩, ((HB3.out.setCell (Nat.le_succ _) _).setCell (Nat.le_succ _) _).setCell (Nat.le_succ _) _⟩
      · have KPr' := hid (KPr.out (by rw [ht, hs, hq]; rfl))
        have KPl' := hid (KPl.out (by rw [ht, hs, hq]; rfl))
        rw [ht] at KT
        rw [hs] at KV
        rw [hq] at hps
        have i1 : ¬ (((plc (fun i => decide (vars.getD i 0 ∈ vs)) vars.length).length : Int) < (vars.length : Int)) := by have := of_decide_eq_false (hps.trans rfl); omega
        clear KPr KPl HG hps ht hs hq
        generalize (plc (fun i => decide (vars.getD i 0 ∈ vs)) vars.length).length = lp at *
        obtain ⟨R, hR⟩ : ∃ R, R = srt (rows.map (prjR vs vars)) := ⟨_, rfl⟩
        have HRe := hid hR
        rw [← hR] at KPr' KPl'
        clear hR
        generalize vs.length = l0 at *
        generalize rows.length = l1 at *
        generalize ws.length = l2 at *
        generalize hl3 : vars.length = l3 at *
        have HL3 := hid hl3
        clear hl3
        go_enter Try.func28, Try.ntmps28
        go_upto_region 1 with fail
        rw [← hW1]
        clear hW1
        go_wp2_with fail
        refine KT.out.mono ?_
        rintro e w2 ⟨rfl, hb2⟩
        have HR2 := hid (HR1.out.below hb2)
        have HT2 := hid (HT1.out.below hb2)
        have HQ2 := hid hb2
        have HB2 := hid (bt HB1.out hb2)
        have d0 := HT2.out.c0
        clear hb2 KT HR1 d1 d2 HB1 HT1
        go_wp2_with fail
        refine (KV.out w2 HQ2.out).mono ?_
        rintro e w3 ⟨rfl, hw3⟩
        subst w3
        go_wp2_with fail
        refine (KP.out w2 HQ2.out).mono ?_
        rintro e w3 ⟨v3, rfl, ho3, hb3⟩
        obtain ⟨a3, c3, e3⟩ := own_shape ho3
        subst e3
        have HR3 := hid (HR2.out.below hb3)
        have HT3 := hid (HT2.out.below hb3)
        have HQ3 := hid (bt HQ2.out hb3)
        have HB3 := hid (bt HB2.out hb3)
        clear ho3 hb3 HR2 HT2 HQ2 HB2 KV KP d0
        have d0 := HT3.out.c0
        have d1 := HT3.out.c1
        have d2 := HT3.out.c2
        go_wp2_with fail
        refine (KPr'.out w3 HQ3.out).mono ?_
        rintro e w4 ⟨v4, us, rfl, hQ4, hb4⟩
        have HR4 := hid (HR3.out.below hb4)
        have HQ4 := hid (bt HQ3.out hb4)
        have HB4 := hid (bt HB3.out hb4)
        have HM4 := hid (hQ4.base HB3.out.size)
        have KPl4 := hid (KPl'.out w4 v4 HQ4.out hQ4.sl)
        obtain ⟨a4, c4, e4⟩ := hQ4.sl
        subst e4
        clear hQ4 hb4 KPr' KPl' d0 d1 d2 HT3 HR3 HQ3 HB3
        go_wp2_with fail
        refine KPl4.out.mono ?_
        rintro e w5 ⟨x0, x2, rfl, ho0, ho2, hap, hb5⟩
        have HR5 := hid (HR4.out.below hb5)
        have HB5 := hid (bt HB4.out hb5)
        have HTQ : Hid (TQ w5 w.heap.size x0 (.slice a4 R.length c4) x2 us vars R (ones R.length)) := hid ⟨own_base (by rw [HL3.out]; exact ho0) HB4.out.size, HM4.out.below hb5, own_base (by rw [ones_len, ones_vals]; exact ho2) HB4.out.size, hap, fun i hi g h1 h2 => by
          have e1 := ((HM4.out.each i hi).lt g h1).2
          have e2 := (ho0.lt g h2).1
          omega, fun i hi g h1 h2 => by
          have e1 := ((HM4.out.each i hi).lt g h1).2
          have e2 := (ho2.lt g h2).1
          omega⟩
        obtain ⟨b0, k0, e5⟩ := own_shape ho0
        obtain ⟨b2, k2, e6⟩ := own_shape ho2
        subst e5 e6
        clear ho0 ho2 hap hb5 KPl4 HR4 HB4 HM4
        have f0 := HR5.out.free 0
        have f1 := HR5.out.free 1
        have f2 := HR5.out.free 2
        have r0 := HR5.out.c0
        have r1 := HR5.out.c1
        have r2 := HR5.out.c2
        have HTy := hid HR5.out.typ
        go_wp2_with fail
        refine bodyPost_ret (v := .agg #[.slice b0 l3 k0, .slice a4 R.length c4, .slice b2 R.length k2]) (by simp [results, Try.results28, go_sem, r0, r1, r2]) rfl ⟨_, _, _, rfl, ⟨us, ?_⟩, ((HB5.out.setCell (Nat.le_succ _) _).setCell (Nat.le_succ _) _).setCell (Nat.le_succ _) _⟩
        rw [← HRe.out]
        exact ((HTQ.out.set HTy.out).set (typ_set HTy.out)).set (typ_set (typ_set HTy.out))

end Go.Proofs.Ytpdloenmplafiaa
