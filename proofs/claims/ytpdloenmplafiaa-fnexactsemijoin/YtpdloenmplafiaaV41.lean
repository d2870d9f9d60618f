import Derived.Test.YtpdloenmplafiaaV40
/-
  impl.Semijoin where both tables are right.
-/
namespace Go.Proofs.Ytpdloenmplafiaa
open Go.RowKit

set_option maxHeartbeats 8000000 in
set_option maxRecDepth 1000000 in
theorem iSemijoin_yes (w : World) (a0 a1 a2 b0 b1 b2 : Value) (va wa vb wb : List Int) (ra rb : List (List Int)) (hA : IT w a0 a1 a2 va ra wa) (hB : IT w b0 b1 b2 vb rb wb) (hla : va.length ≤ 1099511627776) (hSa : Short ra) (hlb : vb.length ≤ 1099511627776) (hSb : Short rb) (hta : tableB va ra wa = true) (htb : tableB vb rb wb = true) :
    Calls Try.prog 33 #[.agg #[a0, a1, a2], .agg #[b0, b1, b2]] w fun e w' => ∃ x0 x1 x2 us, e = .returned (.agg #[x0, x1, x2]) ∧ TQ w' w.heap.size x0 x1 x2 us va (kpR (semP va vb ra rb) ra ra.length) (kpW (semP va vb ra rb) wa ra.length) ∧ Below w.heap.size w w' := by
  obtain ⟨i0, hi, hz0, hz1, hz2⟩ := info_parts Try.infoInt
  obtain ⟨iS, hj, hy0, hy1, hy2⟩ := info_parts Try.infoIS
  obtain ⟨W1, hW1⟩ : ∃ W1, W1 = three w a0 a1 a2 b0 b1 b2 := ⟨_, rfl⟩
  obtain ⟨hB1, hTa, hTb, hTr⟩ := three_is w a0 a1 a2 b0 b1 b2
  rw [← hW1] at hB1 hTa hTb hTr
  have HTa := hid hTa
  have HTb := hid hTb
  have HTr := hid hTr
  have HB1 := hid hB1
  obtain ⟨hsa, hna, hra⟩ := tableB_rows hta
  obtain ⟨hsb, hnb, hrb⟩ := tableB_rows htb
  have h6a := setB_six hsa
  have h6b := setB_six hsb
  have hpa := setB_pw hsa
  have hpb := setB_pw hsb
  have hwa : wa.length = ra.length := by
    unfold tableB at hta
    simp only [Bool.and_eq_true, decide_eq_true_eq] at hta
    omega
  have KTa := hid (tableOK_calls W1 a0 a1 a2 va ra wa (hA.below hB1) hla hSa)
  have KTb : Hid (∀ W, Below W1.heap.size W1 W → Calls Try.prog 71 #[.agg #[b0, b1, b2]] W fun e w' => e = .returned (.bool (tableB vb rb wb)) ∧ Below W.heap.size W w') := hid fun W hW => tableOK_calls W b0 b1 b2 vb rb wb (hB.below (bt hB1 hW)) hlb hSb
  rw [hta] at KTa
  rw [htb] at KTb
  obtain ⟨sh, hsh⟩ : ∃ sh, sh = shr va vb := ⟨_, rfl⟩
  obtain ⟨pl, hpl⟩ : ∃ pl, pl = plc (fun i => decide (va.getD i 0 ∈ vb)) va.length := ⟨_, rfl⟩
  obtain ⟨keys, hkeys⟩ : ∃ keys, keys = semK va vb rb := ⟨_, rfl⟩
  have hsl : sh.length ≤ 6 := by have := shr_len va vb; rw [hsh]; omega
  have hpll : pl.length ≤ 6 := by rw [hpl]; have := plc_le (fun i => decide (va.getD i 0 ∈ vb)) va.length; omega
  have hkl : keys.length ≤ 10000 := by have := semK_le va vb rb; rw [hkeys]; omega
  have hkr : ∀ r ∈ keys, r.length = sh.length := by rw [hkeys, hsh]; exact semK_len
  have KP : Hid (∀ W, Below W1.heap.size W1 W → Calls Try.prog 72 #[a0, b0] W fun e w' => ∃ v, e = .returned v ∧ w'.ownsRow W.heap.size 3 1 v pl.length (pl.map (Value.int .i64)) ∧ Below W.heap.size W w') := hid fun W hW => by
    rw [hpl]
    exact placesIn_calls W a0 b0 va vb (hA.vs.below (bt hB1 hW)) (hB.vs.below (bt hB1 hW)) hla hlb
  have KV : Hid (∀ W u, Below W1.heap.size W1 W → IS W u pl → Calls Try.prog 81 #[a0, u] W fun e w' => ∃ v, e = .returned v ∧ w'.ownsRow W.heap.size 3 1 v sh.length (sh.map (Value.int .i64)) ∧ Below W.heap.size W w') := hid fun W u hW hu => by
    have h1 := valuesAt_calls W a0 u va pl (hA.vs.below (bt hB1 hW)) hu (by omega) (by rw [hpl]; exact plc_in va vb)
    have e : atP va pl = sh := by rw [hpl, hsh]; exact shr_places va vb
    rw [e] at h1
    exact h1
  have KPr : Hid (∀ W u, Below W1.heap.size W1 W → IS W u sh → Calls Try.prog 74 #[.agg #[b0, b1, b2], u] W fun e w' => ∃ v uo, e = .returned v ∧ RQ w' W.heap.size v uo keys ∧ Below W.heap.size W w') := hid fun W u hW hu => by
    have h1 := projectedRows_calls W b0 b1 b2 u vb rb wb sh (hB.below (bt hB1 hW)) hu (by omega) (by omega) (by omega) hrb
    rw [hsh] at h1
    rw [proj_rows hpb (shr_pw hpa) (fun x => shr_right)] at h1
    rw [hkeys]
    exact h1
  have KTr : Hid (∀ W u, ISS W u keys → Calls Try.prog 80 #[u] W fun e w' => ∃ c, e = .returned (.pointer c) ∧ TC W w' keys c ∧ Below W.heap.size W w') := hid fun W u hu =>
    trieOf_calls W u keys hu (by rw [hkeys]; exact semK_sl va vb rb) (by omega) (fun r hr => by have := hkr r hr; omega)
  have KCl : Hid (∀ W, Below W1.heap.size W1 W → Calls Try.prog 82 #[a0] W fun e w' => ∃ v, e = .returned v ∧ w'.ownsRow W.heap.size 3 1 v va.length (va.map (Value.int .i64)) ∧ Below W.heap.size W w') := hid fun W hW => cloneI_calls W a0 va (hA.vs.below (bt hB1 hW)) (by omega)
  have KVr : Hid (∀ W u up j, j < ra.length → IS W u (ra.getD j []) → IS W up pl → Calls Try.prog 81 #[u, up] W fun e w' => ∃ v, e = .returned v ∧ w'.ownsRow W.heap.size 3 1 v (prjR va sh (ra.getD j [])).length ((prjR va sh (ra.getD j [])).map (Value.int .i64)) ∧ Below W.heap.size W w') := hid fun W u up j hj' hu hup => by
    have hm : ra.getD j [] ∈ ra := by rw [List.getD_eq_getElem?_getD, List.getElem?_eq_getElem hj']; exact List.getElem_mem _
    have h1 := valuesAt_calls W u up (ra.getD j []) pl hu hup (by omega) (by rw [hra _ hm, hpl]; exact plc_in va vb)
    have e : atP (ra.getD j []) pl = prjR va sh (ra.getD j []) := by rw [hpl, hsh]; exact shr_row hpa
    rw [e] at h1
    exact h1
  have KH : Hid (∀ W3 w4 W c u j, TC W3 w4 keys c → Below w4.heap.size w4 W → IS W u (prjR va sh (ra.getD j [])) → Calls Try.prog 83 #[.pointer c, u] W fun e w' => e = .returned (.bool (semP va vb ra rb j)) ∧ Below W.heap.size W w') := hid fun W3 w4 W c u j hT hW hu => by
    have h1 := hT.has hW hkr (by omega) (by omega) hu (prjR_len _ _ _)
    unfold semP semB
    rw [← hkeys, ← hsh]
    exact h1
  have KCr : Hid (∀ W u j, j < ra.length → IS W u (ra.getD j []) → Calls Try.prog 82 #[u] W fun e w' => ∃ v, e = .returned v ∧ w'.ownsRow W.heap.size 3 1 v (ra.getD j []).length ((ra.getD j []).map (Value.int .i64)) ∧ Below W.heap.size W w') := hid fun W u j hj' hu => by
    have hm : ra.getD j [] ∈ ra := by rw [List.getD_eq_getElem?_getD, List.getElem?_eq_getElem hj']; exact List.getElem_mem _
    exact cloneI_calls W u _ hu (by rw [hra _ hm]; omega)
  obtain ⟨p0, k0, e0, -⟩ := hA.vs
  have hAr := hA.rows
  obtain ⟨p1, k1, e1, hc1⟩ := hA.rows
  obtain ⟨p2, k2, e2, hc2⟩ := hA.ws
  obtain ⟨q0, m0, f0, -⟩ := hB.vs
  obtain ⟨q1, m1, f1, -⟩ := hB.rows
  obtain ⟨q2, m2, f2, -⟩ := hB.ws
  have HCr : Hid (∀ W, Below w.heap.size w W → ∀ j, j < ra.length → ∃ (b o : Nat) (u : Value), p1 = some ⟨b, o, none⟩ ∧ W.cell? ⟨b, o + j, none⟩ = some u ∧ IS W u (ra.getD j [])) := hid fun W hW j hj => by
    rcases hc1 with h0 | ⟨b, o, rfl, h⟩
    · omega
    · obtain ⟨u, h1, h2⟩ := h j hj
      exact ⟨b, o, u, rfl, (hW.cell (World.block_lt_of_cell? w _ h1)).trans h1, h2.below hW⟩
  have HCw : Hid (∀ W, Below w.heap.size w W → ∀ j, j < ra.length → ∃ (b o : Nat), p2 = some ⟨b, o, none⟩ ∧ W.cell? ⟨b, o + j, none⟩ = some (.int .i64 (wa.getD j 0))) := hid fun W hW j hj => by
    rcases hc2 with h0 | ⟨b, o, rfl, h⟩
    · omega
    · exact ⟨b, o, rfl, (hW.cell (World.block_lt_of_cell? w _ (h j (by omega)))).trans (h j (by omega))⟩
  unfold three at hW1
  subst e0 e1 e2 f0 f1 f2
  rw [hwa] at *
  generalize semP va vb ra rb = P at *
  clear hA hB hAr hc1 hc2 hB1 hTa hTb hTr hla hSa hlb hSb hra hrb hkr hpa hpb hsa hsb hta htb hsh hpl hkeys hwa h6a h6b
  have d0 := HTa.out.c0
  have d1 := HTa.out.c1
  have d2 := HTa.out.c2
  generalize ra.length = n at *
  generalize hl0 : va.length = l0 at *
  have HL0 := hid hl0
  clear hl0
  generalize vb.length = n0 at *
  generalize rb.length = n1 at *
  generalize wb.length = n2 at *
  go_enter Try.func33, Try.ntmps33
  go_upto_region 1 with fail
  rw [← hW1]
  clear hW1
  go_wp2_with fail
  refine KTa.out.mono ?_
  rintro e w2 ⟨rfl, hb2⟩
  have HQ2 := hid hb2
  have KTb2 := hid (KTb.out w2 hb2)
  have d0 := (HTb.out.below hb2).c0
  have d1 := (HTb.out.below hb2).c1
  have d2 := (HTb.out.below hb2).c2
  clear hb2 KTa KTb
  go_wp2_with fail
  refine KTb2.out.mono ?_
  rintro e w3 ⟨rfl, hb3⟩
  have HQ3 := hid (bt HQ2.out hb3)
  clear hb3 KTb2 HQ2 d0 d1 d2
  have d0 := (HTa.out.below HQ3.out).c0
  have d1 := (HTb.out.below HQ3.out).c0
  have KP3 := hid (KP.out w3 HQ3.out)
  go_wp2_with fail
  refine KP3.out.mono ?_
  rintro e w4 ⟨v4, rfl, ho4, hb4⟩
  have HQ4 := hid (bt HQ3.out hb4)
  have HP4 := hid (own_is ho4)
  obtain ⟨a4, c4, e4⟩ := own_shape ho4
  subst e4
  clear ho4 hb4 KP KP3 HQ3 d0 d1
  go_upto_region 4 with fail
  go_cut [6] from 24 to 30 (fun v wx => ∃ c, v = .pointer c ∧ Hid (∃ W3, TC W3 wx keys c ∧ Below W1.heap.size W1 wx ∧ IS wx (.slice a4 pl.length c4) pl))
  case first =>
    have d0 := (HTa.out.below HQ4.out).c0
    have g0 := (HTb.out.below HQ4.out).c0
    have g1 := (HTb.out.below HQ4.out).c1
    have g2 := (HTb.out.below HQ4.out).c2
    go_region_law (first
      | (go_simp; go_at_call 81; (with_reducible refine (KV.out _ _ (HQ4.out.drew) (HP4.out.below (Below.refl _ _).drew)).mono ?_); rintro e w5 ⟨u5, rfl, ho5, hb5'⟩; have hb5 := drew_below2 hb5'; have HI5 := hid (own_is ho5); have HQ5 := hid (bt HQ4.out hb5); have g0b := (HTb.out.below HQ5.out).c0; have g1b := (HTb.out.below HQ5.out).c1; have g2b := (HTb.out.below HQ5.out).c2; obtain ⟨a5, c5, e5⟩ := own_shape ho5; subst e5; clear ho5 hb5')
      | (go_simp; go_at_call 74; (with_reducible refine (KPr.out _ _ HQ5.out HI5.out).mono ?_); rintro e w6 ⟨u6, uo6, rfl, hQ6, hb6⟩; have HI6 := hid (hQ6.rs.iss (Below.refl _ _)); have HQ6 := hid (bt HQ5.out hb6); obtain ⟨a6, c6, e6⟩ := hQ6.sl; subst e6; clear hQ6)
      | (go_simp; go_at_call 80; (with_reducible refine (KTr.out _ _ HI6.out).mono ?_); rintro e w7 ⟨c7, rfl, hT7, hb7⟩)
      | fail)
    all_goals
      go_wp2_with fail
      go_meet
      exact ⟨_, rfl, hid ⟨_, hT7, bt HQ6.out hb7, HP4.out.below (bt (bt hb5 hb6) hb7)⟩⟩
  case rest =>
    obtain ⟨c7, rfl, HT⟩ := hcut
    obtain ⟨W3, hT7, hQ7, hP7⟩ := HT.out
    have HT7 := hid hT7
    have HQ7 := hid hQ7
    have HP7 := hid hP7
    clear HT hT7 hQ7 hP7 KV KPr KTr HQ4 HP4
    generalize wc = w7 at *
    have d0 := (HTa.out.below HQ7.out).c0
    have KCl7 := hid (KCl.out w7 HQ7.out)
    go_wp2_with fail
    refine KCl7.out.mono ?_
    rintro e w8 ⟨v8, rfl, ho8, hb8⟩
    obtain ⟨a8, c8, e8⟩ := own_shape ho8
    subst e8
    have hB8 := hb8.size
    have HS9 : Hid (Below w7.heap.size w7 (w8.alloc (.cells #[.slice a8 l0 c8, .slice none 0 0, .slice none 0 0] 53)) ∧ KX (w8.alloc (.cells #[.slice a8 l0 c8, .slice none 0 0, .slice none 0 0] 53)) w7.heap.size w8.heap.size (.slice a8 l0 c8) (.slice none 0 0) (.slice none 0 0) [] va [] []) := hid ⟨hb8.alloc hB8 _, KX.made (by rw [HL0.out]; exact ho8) hB8⟩
    clear ho8 hb8 KCl KCl7 d0 HL0
    go_upto_region 6 with fail
    obtain ⟨pk, hpk⟩ : ∃ pk, pk = w8.heap.size := ⟨_, rfl⟩
    rw [← hpk] at HS9 hB8 ⊢
    generalize w8.alloc (.cells #[.slice a8 l0 c8, .slice none 0 0, .slice none 0 0] 53) = W9 at HS9 ⊢
    clear hpk
    have d1 := (HTa.out.below (bt HQ7.out HS9.out.1)).c1
    have HK0 : Hid (kpR P ra 0 = [] ∧ kpW P wa 0 = []) := hid ⟨rfl, rfl⟩
    go_wp2_with fail
    clear d1
    go_loopw [38] (fun t wr => ∃ i : Nat, i ≤ n ∧ t = .int .i64 i ∧ Hid (∃ vR vW us, Below w7.heap.size w7 wr ∧ KX wr w7.heap.size pk (.slice a8 l0 c8) vR vW us va (kpR P ra i) (kpW P wa i))) (fun t _ => n - (intOf t).toNat)
    case atStart => exact ⟨0, Nat.zero_le _, rfl, hid ⟨_, _, _, HS9.out.1, by rw [HK0.out.1, HK0.out.2]; exact HS9.out.2⟩⟩
    case round =>
      clear HS9 HK0
      obtain ⟨i, hin, rfl, HT⟩ := hrel
      obtain ⟨vR, vW, us, hB, hK⟩ := HT.out
      have HB := hid hB
      have HK := hid hK
      clear HT hB hK
      by_cases hlt : i < n
      · have i1 : (i : Int) < (n : Int) := by omega
        obtain ⟨b, o, u, ea, c1, hu⟩ := HCr.out wr (bt HB1.out (bt HQ7.out HB.out)) i hlt
        subst ea
        have HU := hid hu
        have KVr1 := hid (KVr.out wr u _ i hlt hu (HP7.out.below HB.out))
        have KCr1 : Hid (∀ W, IS W u (ra.getD i []) → Calls Try.prog 82 #[u] W fun e w' => ∃ v, e = .returned v ∧ w'.ownsRow W.heap.size 3 1 v (ra.getD i []).length ((ra.getD i []).map (Value.int .i64)) ∧ Below W.heap.size W w') := hid fun W hu => KCr.out W u i hlt hu
        have KH1 : Hid (∀ W v, Below w7.heap.size w7 W → IS W v (prjR va sh (ra.getD i [])) → Calls Try.prog 83 #[.pointer c7, v] W fun e w' => e = .returned (.bool (P i)) ∧ Below W.heap.size W w') := hid fun W v hW hv => KH.out W3 w7 W c7 v i HT7.out hW hv
        have HN1 : Hid (P i = true → kpR P ra (i + 1) = kpR P ra i ++ [ra.getD i []] ∧ kpW P wa (i + 1) = kpW P wa i ++ [wa.getD i 0]) := hid fun h => ⟨kpR_hit ra h, kpW_hit wa h⟩
        have HN0 : Hid (P i = false → kpR P ra (i + 1) = kpR P ra i ∧ kpW P wa (i + 1) = kpW P wa i) := hid fun h => ⟨kpR_miss ra h, kpW_miss wa h⟩
        have hlR := kpR_len P ra i
        have hlW := kpW_len P wa i
        obtain ⟨au, cu, rfl, -⟩ := hu
        generalize ra.getD i [] = row at *
        generalize hlr : row.length = lr at *
        have HLr := hid hlr
        clear hlr
        generalize prjR va sh row = prow at *
        go_wp2_with fail
        refine KVr1.out.mono ?_
        rintro e w10 ⟨v10, rfl, ho10, hb10⟩
        have HB10 := hid (bt HB.out hb10)
        have HK10 := hid (HK.out.below hb10)
        have HU10 := hid (HU.out.below hb10)
        have KH10 := hid (KH1.out w10 v10 HB10.out (own_is ho10))
        obtain ⟨a10, c10, e10⟩ := own_shape ho10
        subst e10
        clear KVr1 ho10 hb10 HB HK HU c1
        cases hP : P i
        · rw [hP] at KH10
          have HN := hid (HN0.out hP)
          clear hP
          go_wp2_with fail
          refine KH10.out.mono ?_
          rintro e w11 ⟨rfl, hb11⟩
          have HF : Hid (∃ vR vW us, Below w7.heap.size w7 w11 ∧ KX w11 w7.heap.size pk (.slice a8 l0 c8) vR vW us va (kpR P ra (i + 1)) (kpW P wa (i + 1))) := hid ⟨_, _, _, bt HB10.out hb11, by rw [HN.out.1, HN.out.2]; exact HK10.out.below hb11⟩
          clear hb11 KH10
          go_wp2_with fail
          go_roundw
          case rel => exact ⟨i + 1, by omega, by go_num, HF⟩
          case measure => simp [intOf]; omega
        · rw [hP] at KH10
          have HN := hid (HN1.out hP)
          clear hP HN0 HN1
          go_upto_region 10 with (first | (go_at_call 83; refine KH10.out.mono ?_; rintro e w11 ⟨rfl, hb11⟩) | fail)
          have HB11 := hid (bt HB10.out hb11)
          have HK11 := hid (HK10.out.below hb11)
          have HU11 := hid (HU10.out.below hb11)
          clear hb11 KH10 HB10 HK10 HU10
          go_cut [38] from 38 to 65 (fun t wx => t = .int .i64 i ∧ Hid (∃ vR us, Below w7.heap.size w7 wx ∧ KX wx w7.heap.size pk (.slice a8 l0 c8) vR vW us va (kpR P ra (i + 1)) (kpW P wa i)))
          case first =>
            have c1 := HK11.out.tx.c1
            go_region_law (first
              | (refine step_append_lies _ (by rfl) _ _ 23 (by rfl) w7.heap.size 22 iS (.slice none 0 0) 1 24 Try.underlying23 hj hy0 hy1 hy2 rfl (by decide) vR _ us (by rfl) (HK12.out.tq.rq.own.alloc _) ⟨w12.heap.size, 0, none⟩ 1 1 [.slice a12 lr c12] (by rfl) rfl (new1_cell _ _ _) (fun u hu => by simp at hu; subst hu; rfl) (by decide) (by unfold maxLen; omega) (by omega) (by have := HB12.out.size; simp; omega) _ rfl ?_; intro g13 cp13 w13 hown13 hgrow13 hat13 hlt13; have c1' := (HK12.out.tx.grown HK12.out.tq.rq.own (by decide) hgrow13).c1; have f1' := (HK12.out.tx.grown HK12.out.tq.rq.own (by decide) hgrow13).free 1)
              | (go_simp; go_at_call 82; (with_reducible refine (KCr1.out _ (HU11.out.below (Below.refl _ _).drew)).mono ?_); rintro e w12 ⟨u12, rfl, ho12, hb'⟩; have hb12 := drew_below2 hb'; have HB12 := hid (bt HB11.out hb12); have HK12 := hid (HK11.out.below hb12); have HO12 : Hid (w12.ownsRow w11.heap.size 3 1 u12 lr (row.map (Value.int .i64))) := hid ho12; have c1b := HK12.out.tx.c1; have c1c : ∀ ob, (w12.alloc ob).cell? ⟨pk, 1, none⟩ = some vR := fun ob => (HK12.out.below ((Below.refl _ _).alloc (Nat.le_refl _) ob)).tx.c1; obtain ⟨a12, c12, e12⟩ := own_shape ho12; subst e12; clear ho12 hb')
              | fail)
            all_goals
              go_wp2_with fail
              go_meet
              have hN := HK12.out.pushR (u := .slice a12 lr c12) (l := row) (own_base (by rw [HLr.out]; exact HO12.out) HB11.out.size) (fun q hq g h1 h2 => by
                have e1 := ((HK11.out.tq.rq.each q hq).lt g h1).2
                have e2 := (HO12.out.lt g h2).1
                omega) (fun g h1 h2 => by
                have e1 := (HO12.out.lt g h1).1
                have e2 := (HK11.out.tq.o0.lt g h2).2
                omega) (fun g h1 h2 => by
                have e1 := (HO12.out.lt g h1).1
                have e2 := (HK11.out.tq.o2.lt g h2).2
                omega) hown13 hgrow13
              rw [← HN.out.1] at hN
              exact ⟨rfl, hid ⟨_, _, ((HB12.out.alloc HB12.out.size _).grown hgrow13 (by have := HB12.out.size; simp; omega) (fun g hg => (HK12.out.tq.rq.own.lt g hg).1)).setCell HK12.out.lo _, hN⟩⟩
          case rest =>
            obtain ⟨rfl, HT⟩ := hcut
            obtain ⟨vR', us', hB14, hK14⟩ := HT.out
            have HB14 := hid hB14
            have HK14 := hid hK14
            clear HT hB14 hK14 HB11 HK11 HU11
            generalize wc = w14 at *
            obtain ⟨bw, ow, ew, cw⟩ := HCw.out w14 (bt HB1.out (bt HQ7.out HB14.out)) i hlt
            subst ew
            generalize wa.getD i 0 = x at *
            go_upto_region 11 with fail
            have c2 := HK14.out.tx.c2
            have ca := (HTa.out.below (bt HQ7.out HB14.out)).c2
            have c2c : ∀ ob, (w14.alloc ob).cell? ⟨pk, 2, none⟩ = some vW := fun ob => (HK14.out.below ((Below.refl _ _).alloc (Nat.le_refl _) ob)).tx.c2
            have HKd := hid (HK14.out.below (Below.refl w14.heap.size w14).drew)
            go_region_law (first
              | (refine step_append_lies _ (by rfl) _ _ 22 (by rfl) w7.heap.size 3 i0 (.int .i64 0) 1 8 Try.underlying22 hi hz0 hz1 hz2 rfl (by decide) vW _ ((kpW P wa i).map (Value.int .i64)) (by rfl) (HKd.out.tq.o2.alloc _) ⟨_, 0, none⟩ 1 1 [.int .i64 x] (by rfl) rfl (new1_cell _ _ _) (fun u hu => by simp at hu; subst hu; rfl) (by decide) (by unfold maxLen; omega) (by omega) (by have := HB14.out.size; simp; omega) _ rfl ?_; intro g15 cp15 w15 hown15 hgrow15 hat15 hlt15; have c2' := (HKd.out.tx.grown HKd.out.tq.o2 (by decide) hgrow15).c2; have f2' := (HKd.out.tx.grown HKd.out.tq.o2 (by decide) hgrow15).free 2)
              | fail)
            all_goals
              go_wp2_with fail
              go_roundw
              case rel =>
                have hN := HKd.out.pushW hown15 hgrow15 (fun g hg => by
                  simp only [Value.ownBlock, Option.some.injEq] at hg
                  subst hg
                  rcases hat15 with h | h
                  · exact Or.inl h
                  · exact Or.inr (by rw [h]; simp))
                rw [← HN.out.2] at hN
                exact ⟨i + 1, by omega, by go_num, hid ⟨_, _, _, (((HB14.out.drew).alloc (by have := HB14.out.size; simp; omega) _).grown hgrow15 (by have := HB14.out.size; simp; omega) (fun g hg => (HKd.out.tq.o2.lt g hg).1)).setCell HK14.out.lo _, hN⟩⟩
              case measure => simp [intOf]; omega
      · obtain rfl : i = n := by omega
        have i1 : ¬ ((i : Int) < (i : Int)) := by omega
        have HR9 := hid (HTr.out.below (bt HQ7.out HB.out))
        have HX9 := hid HK.out.tx
        have HB9 := hid (bt HB1.out (bt HQ7.out HB.out))
        have HTQ := hid (HK.out.tq.base (Nat.le_trans HB1.out.size HQ7.out.size))
        obtain ⟨aR, kR, eR⟩ := own_shape HK.out.tq.rq.own
        obtain ⟨aW, kW, eW⟩ := own_shape HK.out.tq.o2
        subst eR eW
        clear HK HB HCr HCw KVr KH KCr HP7 HT7 HQ7
        generalize (kpR P ra i).length = lR at *
        generalize (kpW P wa i).length = lW at *
        have d0 := HX9.out.c0
        have d1 := HX9.out.c1
        have d2 := HX9.out.c2
        have f0 := HR9.out.free 0
        have f1 := HR9.out.free 1
        have f2 := HR9.out.free 2
        have r0 := HR9.out.c0
        have r1 := HR9.out.c1
        have r2 := HR9.out.c2
        have HTy := hid HR9.out.typ
        go_wp2_with fail
        refine bodyPost_ret (v := .agg #[.slice a8 l0 c8, .slice aR lR kR, .slice aW lW kW]) (by simp [results, Try.results33, go_sem, r0, r1, r2]) rfl ⟨_, _, _, rfl, ⟨us, ?_⟩, ((HB9.out.setCell (Nat.le_add_right _ 2) _).setCell (Nat.le_add_right _ 2) _).setCell (Nat.le_add_right _ 2) _⟩
        exact ((HTQ.out.set HTy.out).set (typ_set HTy.out)).set (typ_set (typ_set HTy.out))

end Go.Proofs.Ytpdloenmplafiaa
