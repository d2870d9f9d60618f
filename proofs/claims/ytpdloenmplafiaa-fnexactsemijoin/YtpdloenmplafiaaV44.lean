import Derived.Deep.CutRange
import Derived.Deep.RegionLaw
import Derived.Test.YtpdloenmplafiaaV43
/-
  spec.Semijoin where both tables are right.
-/
namespace Go.Proofs.Ytpdloenmplafiaa
open Go.RowKit

set_option maxHeartbeats 8000000 in
set_option maxRecDepth 1000000 in
theorem sSemijoin_yes (w : World) (ad0 : Addr) (k0 : Nat) (a1 a2 b0 b1 b2 : Value) (va wa vb wb : List Int) (ra rb : List (List Int)) (hA : IT w (.slice (some ad0) va.length k0) a1 a2 va ra wa) (hs : ISSs w a1 ra) (hB : IT w b0 b1 b2 vb rb wb) (hla : va.length ≤ 1099511627776) (hSa : Short ra) (hlb : vb.length ≤ 1099511627776) (hSb : Short rb) (hta : tableB va ra wa = true) (htb : tableB vb rb wb = true) :
    Calls Try.prog 32 #[.agg #[.slice (some ad0) va.length k0, a1, a2], .agg #[b0, b1, b2]] w fun e w' => ∃ x0 x1 x2, e = .returned (.agg #[x0, x1, x2]) ∧ IT w' x0 x1 x2 va (kpR (semP va vb ra rb) ra ra.length) (kpW (semP va vb ra rb) wa ra.length) ∧ (∀ g, x1.ownBlock = some g → w.heap.size ≤ g) ∧ Below w.heap.size w w' := by
  obtain ⟨i0, hi, hz0, hz1, hz2⟩ := info_parts Try.infoInt
  obtain ⟨iS, hj, hy0, hy1, hy2⟩ := info_parts Try.infoIS
  obtain ⟨W1, hW1⟩ : ∃ W1, W1 = three w (.slice (some ad0) va.length k0) a1 a2 b0 b1 b2 := ⟨_, rfl⟩
  obtain ⟨hB1, hTa, hTb, hTr⟩ := three_is w (.slice (some ad0) va.length k0) a1 a2 b0 b1 b2
  rw [← hW1] at hB1 hTa hTb hTr
  have HTa := hid hTa
  have HTb := hid hTb
  have HTr := hid hTr
  have HB1 := hid hB1
  obtain ⟨hsa, hna, hra⟩ := tableB_rows hta
  obtain ⟨hsb, hnb, hrb⟩ := tableB_rows htb
  have h6a := setB_six hsa
  have h6b := setB_six hsb
  have hpa := setB_pw hsa
  have hpb := setB_pw hsb
  have hwa : wa.length = ra.length := by
    unfold tableB at hta
    simp only [Bool.and_eq_true, decide_eq_true_eq] at hta
    omega
  have KTa := hid (sTableOK_calls W1 _ a1 a2 va ra wa (hA.below hB1) hla hSa)
  have KTb : Hid (∀ W, Below W1.heap.size W1 W → Calls Try.prog 68 #[.agg #[b0, b1, b2]] W fun e w' => e = .returned (.bool (tableB vb rb wb)) ∧ Below W.heap.size W w') := hid fun W hW => sTableOK_calls W b0 b1 b2 vb rb wb (hB.below (bt hB1 hW)) hlb hSb
  rw [hta] at KTa
  rw [htb] at KTb
  obtain ⟨sh, hsh⟩ : ∃ sh, sh = shr va vb := ⟨_, rfl⟩
  obtain ⟨keys, hkeys⟩ : ∃ keys, keys = semK va vb rb := ⟨_, rfl⟩
  have hsl : sh.length ≤ 6 := by have := shr_len va vb; rw [hsh]; omega
  have hkl : keys.length ≤ 10000 := by have := semK_le va vb rb; rw [hkeys]; omega
  have hkr : ∀ r ∈ keys, r.length = sh.length := by rw [hkeys, hsh]; exact semK_len
  have hksl : SL keys := by rw [hkeys]; exact semK_sl va vb rb
  have KP : Hid (∀ W, Below W1.heap.size W1 W → Calls Try.prog 77 #[.slice (some ad0) va.length k0, b0] W fun e w' => ∃ g cap, e = .returned (.slice (some ⟨g, 0, none⟩) sh.length cap) ∧ w'.ownsRow W.heap.size 3 1 (.slice (some ⟨g, 0, none⟩) sh.length cap) sh.length (sh.map (Value.int .i64)) ∧ Below W.heap.size W w') := hid fun W hW => by
    rw [hsh]
    exact shared_calls W _ b0 va vb (hA.vs.below (bt hB1 hW)) hla (hB.vs.below (bt hB1 hW)) hlb
  have KPr : Hid (∀ W g c, Below W1.heap.size W1 W → IS W (.slice (some ⟨g, 0, none⟩) sh.length c) sh → Calls Try.prog 70 #[.agg #[b0, b1, b2], .slice (some ⟨g, 0, none⟩) sh.length c] W fun e w' => ∃ x0 a c x2, e = .returned (.agg #[x0, .slice a keys.length c, x2]) ∧ Below W.heap.size W w' ∧ ISSc w' (.slice a keys.length c) keys ∧ (∀ g, (Value.slice a keys.length c).ownBlock = some g → W.heap.size ≤ g)) := hid fun W g c hW hu => by
    refine (l2Project_calls W b0 b1 b2 ⟨g, 0, none⟩ c vb rb wb sh (hB.below (bt hB1 hW)) hu (by omega) (by omega) (by omega) hrb).mono ?_
    rintro e w' ⟨x0, x1, x2, rfl, -, hN, hb, hI⟩
    rw [hsh, show srt (rb.map (prjR vb (shr va vb))) = keys by rw [hkeys]; rfl] at hI
    obtain ⟨a, c, e, -⟩ := hI.iss
    subst e
    exact ⟨x0, a, c, x2, rfl, hb, hI, hN⟩
  have KVr : Hid (∀ W u up j, Below W1.heap.size W1 W → j < ra.length → IS W u (ra.getD j []) → IS W up sh → Calls Try.prog 79 #[.agg #[.slice (some ad0) va.length k0, a1, a2], u, up] W fun e w' => ∃ v, e = .returned v ∧ w'.ownsRow W.heap.size 3 1 v (prjR va sh (ra.getD j [])).length ((prjR va sh (ra.getD j [])).map (Value.int .i64)) ∧ Below W.heap.size W w') := hid fun W u up j hW hj' hu hup => by
    have hm : ra.getD j [] ∈ ra := by rw [List.getD_eq_getElem?_getD, List.getElem?_eq_getElem hj']; exact List.getElem_mem _
    obtain ⟨p1, k1, e1, -⟩ := hA.rows
    obtain ⟨p2, k2, e2, -⟩ := hA.ws
    exact l2Values_calls W _ a1 a2 u up va (ra.getD j []) sh ra.length wa.length ⟨_, _, e1⟩ ⟨_, _, e2⟩ (hA.vs.below (bt hB1 hW)) hu hup (by omega) (hra _ hm) (by omega)
  have KH : Hid (∀ W uk u j, ISSc W uk keys → IS W u (prjR va sh (ra.getD j [])) → Calls Try.prog 78 #[uk, u] W fun e w' => e = .returned (.bool (semP va vb ra rb j)) ∧ Below W.heap.size W w') := hid fun W uk u j hk hu => by
    have hlen := prjR_len va sh (ra.getD j [])
    refine (l2Begins_calls W uk u keys _ hk hu hksl (by omega) (fun r hr => by have := hkr r hr; omega)).mono ?_
    rintro e w' ⟨rfl, d, rfl⟩
    refine ⟨?_, below_drewN (Below.refl _ _) d⟩
    unfold semP semB
    rw [begB_mem (fun r hr => by rw [hkr r hr, hlen]), ← hkeys, ← hsh]
  obtain ⟨p1, k1, e1, -⟩ := hA.rows
  obtain ⟨p2, k2, e2, hc2⟩ := hA.ws
  obtain ⟨q0, m0, f0, -⟩ := hB.vs
  obtain ⟨q1, m1, f1, -⟩ := hB.rows
  obtain ⟨q2, m2, f2, -⟩ := hB.ws
  have HVs : Hid (∀ W, Below w.heap.size w W → IS W (.slice (some ad0) va.length k0) va) := hid fun W hW => hA.vs.below hW
  subst e1 e2 f0 f1 f2
  have HCr : Hid (∀ W, Below w.heap.size w W → ∀ j, j < ra.length → ∃ (b o : Nat) (ad : Addr) (c : Nat), p1 = some ⟨b, o, none⟩ ∧ W.cell? ⟨b, o + j, none⟩ = some (.slice (some ad) (ra.getD j []).length c) ∧ IS W (.slice (some ad) (ra.getD j []).length c) (ra.getD j []) ∧ (ra.getD j []).length ≤ 6) := hid fun W hW j hj => by
    have hm : ra.getD j [] ∈ ra := by rw [List.getD_eq_getElem?_getD, List.getElem?_eq_getElem hj]; exact List.getElem_mem _
    obtain ⟨a', c', e, h1⟩ := hs.below hW
    simp only [Value.slice.injEq] at e
    obtain ⟨rfl, -, rfl⟩ := e
    rcases h1 with h0 | ⟨b, o, rfl, h⟩
    · omega
    · obtain ⟨ad, c, h2, h3⟩ := h j hj
      exact ⟨b, o, ad, c, rfl, h2, h3, by rw [hra _ hm]; exact h6a⟩
  have HCw : Hid (∀ W, Below w.heap.size w W → ∀ j, j < ra.length → ∃ (b o : Nat), p2 = some ⟨b, o, none⟩ ∧ W.cell? ⟨b, o + j, none⟩ = some (.int .i64 (wa.getD j 0))) := hid fun W hW j hj => by
    rcases hc2 with h0 | ⟨b, o, rfl, h⟩
    · omega
    · exact ⟨b, o, rfl, (hW.cell (World.block_lt_of_cell? w _ (h j (by omega)))).trans (h j (by omega))⟩
  unfold three at hW1
  rw [hwa] at *
  generalize semP va vb ra rb = P at *
  clear hA hB hs hc2 hB1 hTa hTb hTr hla hSa hlb hSb hra hrb hkr hpa hpb hsa hsb hta htb hsh hkeys hwa h6b hksl
  have d0 := HTa.out.c0
  have d1 := HTa.out.c1
  have d2 := HTa.out.c2
  generalize ra.length = n at *
  generalize hl0 : va.length = l0 at *
  have HL0 := hid hl0
  clear hl0
  generalize vb.length = n0 at *
  generalize rb.length = n1 at *
  generalize wb.length = n2 at *
  go_enter Try.func32, Try.ntmps32
  go_upto_region 1 with fail
  rw [← hW1]
  clear hW1
  go_wp2_with fail
  refine KTa.out.mono ?_
  rintro e w2 ⟨rfl, hb2⟩
  have HQ2 := hid hb2
  have KTb2 := hid (KTb.out w2 hb2)
  have d0 := (HTb.out.below hb2).c0
  have d1 := (HTb.out.below hb2).c1
  have d2 := (HTb.out.below hb2).c2
  clear hb2 KTa KTb
  go_wp2_with fail
  refine KTb2.out.mono ?_
  rintro e w3 ⟨rfl, hb3⟩
  have HQ3 := hid (bt HQ2.out hb3)
  clear hb3 KTb2 HQ2 d0 d1 d2
  have d0 := (HTa.out.below HQ3.out).c0
  have d1 := (HTb.out.below HQ3.out).c0
  have KP3 := hid (KP.out w3 HQ3.out)
  go_wp2_with fail
  refine KP3.out.mono ?_
  rintro e w4 ⟨g4, c4, rfl, ho4, hb4⟩
  have HQ4 := hid (bt HQ3.out hb4)
  have HP4 := hid (own_is ho4)
  clear ho4 hb4 KP KP3 HQ3 d0 d1
  have d0 := (HTa.out.below HQ4.out).c0
  have hown : (w4.alloc (.cells #[] 3)).ownsRow w4.heap.size 3 1 (.slice (some ⟨w4.heap.size, 0, none⟩) 0 0) 0 [] := World.ownsRow_made w4 #[] 0 (Nat.le_refl _) (by decide) rfl
  have hbA : Below w4.heap.size w4 (w4.alloc (.cells #[] 3)) := (Below.refl _ _).alloc (Nat.le_refl _) _
  have HNW := hid (news_is (HVs.out _ (bt HB1.out (bt HQ4.out hbA))))
  have HOW := hid hown
  have HBA := hid hbA
  have hdx : (w4.alloc (.cells #[] 3)).cell? ⟨w.heap.size, 0, none⟩ = some (.slice (some ad0) l0 k0) := (HTa.out.below (bt HQ4.out hbA)).c0
  clear hown hbA
  go_upto_region 5 with (first | (at_builtin; refine wpList_append_own _ rfl _ _ 22 rfl w4.heap.size 3 i0 (.int .i64 0) 1 8 Try.underlying22 hi hz0 hz1 hz2 rfl (by decide) (.slice (some ⟨w4.heap.size, 0, none⟩) 0 0) 0 [] rfl HOW.out ad0 l0 k0 (va.map (Value.int .i64)) rfl (by rw [List.length_map, HL0.out]; omega) HNW.out (fun u hu => by obtain ⟨x, _, rfl⟩ := List.mem_map.1 hu; rfl) (by unfold maxLen; omega) (by omega) (by simp) ?_; intro v5 w5 hown5 hgrow5 _; rw [Nat.zero_add, List.nil_append] at hown5; obtain ⟨a5, c5, e5⟩ := own_shape hown5; subst e5) | fail)
  have hb5 : Below w4.heap.size w4 w5 := HBA.out.grown hgrow5 (by simp) (fun k hk => (HOW.out.lt k hk).1)
  have hB8 := hb5.size
  have HS9 : Hid (Below w4.heap.size w4 (w5.alloc (.cells #[.slice a5 l0 c5, .slice none 0 0, .slice none 0 0] 53)) ∧ KX (w5.alloc (.cells #[.slice a5 l0 c5, .slice none 0 0, .slice none 0 0] 53)) w4.heap.size w5.heap.size (.slice a5 l0 c5) (.slice none 0 0) (.slice none 0 0) [] va [] []) := hid ⟨hb5.alloc hB8 _, KX.made (by rw [HL0.out]; exact hown5) hB8⟩
  clear hb5 hown5 hgrow5 HOW HBA HNW hdx d0 HVs HL0
  have hW9 : w5.heap.size < (w5.alloc (.cells #[.slice a5 l0 c5, .slice none 0 0, .slice none 0 0] 53)).heap.size := by simp
  obtain ⟨pk, hpk⟩ : ∃ pk, pk = w5.heap.size := ⟨_, rfl⟩
  rw [← hpk] at HS9 hB8 hW9 ⊢
  generalize w5.alloc (.cells #[.slice a5 l0 c5, .slice none 0 0, .slice none 0 0] 53) = W9 at HS9 hW9 ⊢
  clear hpk
  have KPr9 := hid (KPr.out W9 g4 c4 (bt HQ4.out HS9.out.1) (HP4.out.below HS9.out.1))
  have d0 := (HTb.out.below (bt HQ4.out HS9.out.1)).c0
  have d1 := (HTb.out.below (bt HQ4.out HS9.out.1)).c1
  have d2 := (HTb.out.below (bt HQ4.out HS9.out.1)).c2
  have hfld := Try.fieldT1
  go_wp2_with fail
  refine KPr9.out.mono ?_
  rintro e w10 ⟨x0, ak, ck, x2, rfl, hb10, hk10, hN10⟩
  have hb410 := bt HS9.out.1 hb10
  have HQ10 := hid (bt HQ4.out hb410)
  have HX10 := hid (HS9.out.2.tx.below hb10)
  have HV10 := hid (own_is (own_below HS9.out.2.tq.o0 hb10))
  have HPs : Hid (W1.heap.size ≤ pk ∧ W1.heap.size ≤ w10.heap.size ∧ pk < w10.heap.size ∧ w.heap.size + 2 < W1.heap.size) := hid ⟨Nat.le_trans HQ4.out.size hB8, HQ10.out.size, HX10.out.lt, HTr.out.lt⟩
  have HKne : Hid ((Value.slice ak keys.length ck).ownBlock ≠ some pk) := hid fun e => by have := hN10 _ e; omega
  have HAll : Hid (∀ W, Kp pk w10 W → Below W1.heap.size W1 W ∧ TX W w.heap.size (.slice (some ad0) l0 k0) (.slice p1 n k1) (.slice p2 n k2) ∧ TX W (w.heap.size + 2) (.slice none 0 0) (.slice none 0 0) (.slice none 0 0) ∧ ISSc W (.slice ak keys.length ck) keys ∧ IS W (.slice (some ⟨g4, 0, none⟩) sh.length c4) sh ∧ IS W (.slice a5 l0 c5) va) := hid fun W hK => by
    obtain ⟨h1, h2, h3, h4⟩ := HPs.out
    exact ⟨HQ10.out.trans (hK.below h2 h1), (HTa.out.below HQ10.out).kp hK (by omega), (HTr.out.below HQ10.out).kp hK (by omega), hk10.kp HX10.out hK HKne.out, (HP4.out.below hb410).kp HX10.out hK, HV10.out.kp HX10.out hK⟩
  have HY10 : Hid (KY w10 w10.heap.size pk (.slice a5 l0 c5) (.slice none 0 0) (.slice none 0 0) [] [] []) := hid ⟨HX10.out, TQ.nil _ _⟩
  clear hb10 hk10 hN10 KPr KPr9 HS9 d0 d1 d2 hb410 HV10 HKne hB8 hW9 HX10
  have d1 := (HAll.out w10 (Kp.refl _ _)).2.1.c1
  have HK0 : Hid (kpR P ra 0 = [] ∧ kpW P wa 0 = []) := hid ⟨rfl, rfl⟩
  generalize keys.length = lk at *
  go_wp2_with fail
  clear d1 hfld
  go_loopw [36] (fun t wr => ∃ i : Nat, i ≤ n ∧ t = .int .i64 i ∧ Hid (∃ vR vW us, Kp pk w10 wr ∧ KY wr w10.heap.size pk (.slice a5 l0 c5) vR vW us (kpR P ra i) (kpW P wa i))) (fun t _ => n - (intOf t).toNat)
  case atStart => exact ⟨0, Nat.zero_le _, rfl, hid ⟨_, _, _, Kp.refl _ _, by rw [HK0.out.1, HK0.out.2]; exact HY10.out⟩⟩
  case round =>
    clear HY10 HK0
    obtain ⟨i, hin, rfl, HT⟩ := hrel
    obtain ⟨vR, vW, us, hB, hK⟩ := HT.out
    have HB := hid hB
    have HK := hid hK
    have HAr := hid (HAll.out wr hB)
    clear HT hB hK
    by_cases hlt : i < n
    · have i1 : (i : Int) < (n : Int) := by omega
      obtain ⟨b, o, ad, cu, ea, c1, hu, hl6⟩ := HCr.out wr (bt HB1.out HAr.out.1) i hlt
      subst ea
      have HU := hid hu
      have KVr1 := hid (KVr.out wr _ _ i HAr.out.1 hlt hu HAr.out.2.2.2.2.1)
      have KH1 : Hid (∀ W v, Kp pk w10 W → IS W v (prjR va sh (ra.getD i [])) → Calls Try.prog 78 #[.slice ak lk ck, v] W fun e w' => e = .returned (.bool (P i)) ∧ Below W.heap.size W w') := hid fun W v hW hv => KH.out W _ v i (HAll.out W hW).2.2.2.1 hv
      have HN1 : Hid (P i = true → kpR P ra (i + 1) = kpR P ra i ++ [ra.getD i []] ∧ kpW P wa (i + 1) = kpW P wa i ++ [wa.getD i 0]) := hid fun h => ⟨kpR_hit ra h, kpW_hit wa h⟩
      have HN0 : Hid (P i = false → kpR P ra (i + 1) = kpR P ra i ∧ kpW P wa (i + 1) = kpW P wa i) := hid fun h => ⟨kpR_miss ra h, kpW_miss wa h⟩
      have hlR := kpR_len P ra i
      have hlW := kpW_len P wa i
      have d0 := HAr.out.2.1.c0
      have d1 := HAr.out.2.1.c1
      have d2 := HAr.out.2.1.c2
      clear hu
      generalize ra.getD i [] = row at *
      generalize hlr : row.length = lr at *
      have HLr := hid hlr
      clear hlr
      generalize prjR va sh row = prow at *
      go_wp2_with fail
      refine KVr1.out.mono ?_
      rintro e w11 ⟨v11, rfl, ho11, hb11⟩
      have HB11 := hid (HB.out.step hb11)
      have HK11 := hid (HK.out.below hb11)
      have HU11 := hid (HU.out.below hb11)
      have KH11 := hid (KH1.out w11 v11 HB11.out (own_is ho11))
      obtain ⟨a11, c11, e11⟩ := own_shape ho11
      subst e11
      clear KVr1 ho11 hb11 HB HK HU c1 d0 d1 d2 HAr
      cases hP : P i
      · rw [hP] at KH11
        have HN := hid (HN0.out hP)
        clear hP
        go_wp2_with fail
        refine KH11.out.mono ?_
        rintro e w12 ⟨rfl, hb12⟩
        have HF : Hid (∃ vR vW us, Kp pk w10 w12 ∧ KY w12 w10.heap.size pk (.slice a5 l0 c5) vR vW us (kpR P ra (i + 1)) (kpW P wa (i + 1))) := hid ⟨_, _, _, HB11.out.step hb12, by rw [HN.out.1, HN.out.2]; exact HK11.out.below hb12⟩
        clear hb12 KH11
        go_wp2_with fail
        go_roundw
        case rel => exact ⟨i + 1, by omega, by go_num, HF⟩
        case measure => simp [intOf]; omega
      · rw [hP] at KH11
        have HN := hid (HN1.out hP)
        clear hP HN0 HN1
        go_upto_region 10 with (first | (go_at_call 78; refine KH11.out.mono ?_; rintro e w12 ⟨rfl, hb12⟩) | fail)
        have HB12 := hid (HB11.out.step hb12)
        have HK12 := hid (HK11.out.below hb12)
        have HU12 := hid (HU11.out.below hb12)
        clear hb12 KH11 HB11 HK11 HU11
        go_cut [36] from 36 to 65 (fun t wx => t = .int .i64 i ∧ Hid (∃ vR us, Kp pk w10 wx ∧ KY wx w10.heap.size pk (.slice a5 l0 c5) vR vW us (kpR P ra (i + 1)) (kpW P wa i)))
        case first =>
          have c1 := HK12.out.tx.c1
          have c1c : ∀ ob, (w12.alloc ob).cell? ⟨pk, 1, none⟩ = some vR := fun ob => (HK12.out.below ((Below.refl _ _).alloc (Nat.le_refl _) ob)).tx.c1
          have hbA : Below w12.heap.size w12 (w12.drew.alloc (.cells #[] 3)) := ((Below.refl w12.heap.size w12).drew).alloc (Nat.le_refl _) _
          have HOW : Hid ((w12.drew.alloc (.cells #[] 3)).ownsRow w12.heap.size 3 1 (.slice (some ⟨w12.heap.size, 0, none⟩) 0 0) 0 []) := hid (World.ownsRow_made w12.drew #[] 0 (Nat.le_refl _) (by decide) rfl)
          have HNW := hid (news_is (HU12.out.below hbA))
          have HBA := hid hbA
          clear hbA
          go_region_law (first
            | (refine step_append_own2 (by rfl) _ _ 22 (by rfl) w12.heap.size 3 i0 (.int .i64 0) 1 8 Try.underlying22 hi hz0 hz1 hz2 rfl (by decide) (.slice (some ⟨w12.heap.size, 0, none⟩) 0 0) 0 [] (by rfl) HOW.out ad lr cu (row.map (Value.int .i64)) (by rfl) (by rw [List.length_map, HLr.out]; omega) HNW.out (fun u hu => by obtain ⟨x, _, rfl⟩ := List.mem_map.1 hu; rfl) (by unfold maxLen; omega) (by omega) (by simp) ?_; intro v13 w13 hown13 hgrow13 _; rw [Nat.zero_add, List.nil_append] at hown13; have hb13 : Below w12.heap.size w12 w13 := HBA.out.grown hgrow13 (by simp) (fun q hq => (HOW.out.lt q hq).1); have HB13 := hid (HB12.out.step hb13); have HK13 := hid (HK12.out.below hb13); have HO13 := hid hown13; have c1b := HK13.out.tx.c1; have c1d : ∀ ob, (w13.alloc ob).cell? ⟨pk, 1, none⟩ = some vR := fun ob => (HK13.out.below ((Below.refl _ _).alloc (Nat.le_refl _) ob)).tx.c1; obtain ⟨a13, c13, e13⟩ := own_shape hown13; subst e13; clear hown13 hgrow13)
            | (refine step_append_lies _ (by rfl) _ _ 23 (by rfl) w10.heap.size 22 iS (.slice none 0 0) 1 24 Try.underlying23 hj hy0 hy1 hy2 rfl (by decide) vR _ us (by rfl) (HK13.out.tq.rq.own.alloc _) ⟨w13.heap.size, 0, none⟩ 1 1 [.slice a13 lr c13] (by rfl) rfl (new1_cell _ _ _) (fun u hu => by simp at hu; subst hu; rfl) (by decide) (by unfold maxLen; omega) (by omega) (by have := HB13.out.size; simp; omega) _ rfl ?_; intro g14 cp14 w14 hown14 hgrow14 hat14 hlt14; have c1' := (HK13.out.tx.grown HK13.out.tq.rq.own (by decide) hgrow14).c1; have f1' := (HK13.out.tx.grown HK13.out.tq.rq.own (by decide) hgrow14).free 1)
            | fail)
          all_goals
            go_wp2_with fail
            go_meet
            have hN := HK13.out.pushR (u := .slice a13 lr c13) (l := row) (own_base (by rw [HLr.out]; exact HO13.out) HB12.out.size) (fun q hq g h1 h2 => by
              have e1 := ((HK12.out.tq.rq.each q hq).lt g h1).2
              have e2 := (HO13.out.lt g h2).1
              omega) (fun g h1 h2 => by
              have e1 := (HO13.out.lt g h1).1
              have e2 := (HK12.out.tq.o2.lt g h2).2
              omega) hown14 hgrow14
            rw [← HN.out.1] at hN
            exact ⟨rfl, hid ⟨_, _, HB13.out.push hgrow14 (fun g hg => (HK13.out.tq.rq.own.lt g hg).1) _ _, hN⟩⟩
        case rest =>
          obtain ⟨rfl, HT⟩ := hcut
          obtain ⟨vR', us', hB14, hK14⟩ := HT.out
          have HB14 := hid hB14
          have HK14 := hid hK14
          have HAr := hid (HAll.out _ hB14)
          clear HT hB14 hK14 HB12 HK12 HU12
          generalize wc = w14 at *
          obtain ⟨bw, ow, ew, cw⟩ := HCw.out w14 (bt HB1.out HAr.out.1) i hlt
          subst ew
          generalize wa.getD i 0 = x at *
          go_upto_region 11 with fail
          have c2 := HK14.out.tx.c2
          have ca := HAr.out.2.1.c2
          have hsz14 := HB14.out.size
          have c2c : ∀ ob, (w14.alloc ob).cell? ⟨pk, 2, none⟩ = some vW := fun ob => (HK14.out.below ((Below.refl _ _).alloc (Nat.le_refl _) ob)).tx.c2
          have HKd := hid (HK14.out.below (Below.refl w14.heap.size w14).drew)
          have HBd := hid (HB14.out.step (Below.refl w14.heap.size w14).drew)
          go_region_law (first
            | (refine step_append_lies _ (by rfl) _ _ 22 (by rfl) w10.heap.size 3 i0 (.int .i64 0) 1 8 Try.underlying22 hi hz0 hz1 hz2 rfl (by decide) vW _ ((kpW P wa i).map (Value.int .i64)) (by rfl) (HKd.out.tq.o2.alloc _) ⟨_, 0, none⟩ 1 1 [.int .i64 x] (by rfl) rfl (new1_cell _ _ _) (fun u hu => by simp at hu; subst hu; rfl) (by decide) (by unfold maxLen; omega) (by omega) (by simp; omega) _ rfl ?_; intro g15 cp15 w15 hown15 hgrow15 hat15 hlt15; have c2' := (HKd.out.tx.grown HKd.out.tq.o2 (by decide) hgrow15).c2; have f2' := (HKd.out.tx.grown HKd.out.tq.o2 (by decide) hgrow15).free 2)
            | fail)
          all_goals
            go_wp2_with fail
            go_roundw
            case rel =>
              have hN := HKd.out.pushW hown15 hgrow15 (fun g hg => by
                simp only [Value.ownBlock, Option.some.injEq] at hg
                subst hg
                rcases hat15 with h | h
                · exact Or.inl h
                · exact Or.inr (by rw [h]; simp))
              rw [← HN.out.2] at hN
              exact ⟨i + 1, by omega, by go_num, hid ⟨_, _, _, HBd.out.push hgrow15 (fun g hg => (HKd.out.tq.o2.lt g hg).1) _ _, hN⟩⟩
            case measure => simp [intOf]; omega
    · obtain rfl : i = n := by omega
      have i1 : ¬ ((i : Int) < (i : Int)) := by omega
      have HR9 := hid HAr.out.2.2.1
      have HX9 := hid HK.out.tx
      have HB9 := hid (bt HB1.out HAr.out.1)
      have HTQ := hid HK.out.tq
      have HV9 := hid HAr.out.2.2.2.2.2
      have HNw : Hid (∀ g, vR.ownBlock = some g → w.heap.size ≤ g) := hid fun g hg => by
        have h1 := (HK.out.tq.rq.own.lt g hg).1
        have h2 := HB1.out.size
        have h3 := HPs.out
        omega
      obtain ⟨aR, kR, eR⟩ := own_shape HK.out.tq.rq.own
      obtain ⟨aW, kW, eW⟩ := own_shape HK.out.tq.o2
      subst eR eW
      clear HK HB HCr HCw KVr KH HAll HAr HQ10
      generalize (kpR P ra i).length = lR at *
      generalize (kpW P wa i).length = lW at *
      have d0 := HX9.out.c0
      have d1 := HX9.out.c1
      have d2 := HX9.out.c2
      have f0 := HR9.out.free 0
      have f1 := HR9.out.free 1
      have f2 := HR9.out.free 2
      have r0 := HR9.out.c0
      have r1 := HR9.out.c1
      have r2 := HR9.out.c2
      have HTy := hid HR9.out.typ
      go_wp2_with fail
      refine bodyPost_ret (v := .agg #[.slice a5 l0 c5, .slice aR lR kR, .slice aW lW kW]) (by simp [results, Try.results32, go_sem, r0, r1, r2]) rfl ⟨_, _, _, rfl, ?_, HNw.out, ((HB9.out.setCell (Nat.le_add_right _ 2) _).setCell (Nat.le_add_right _ 2) _).setCell (Nat.le_add_right _ 2) _⟩
      refine ⟨is_set3 HV9.out HR9.out _ _ _, ?_, ?_⟩
      · exact (((HTQ.out.set HTy.out).set (typ_set HTy.out)).set (typ_set (typ_set HTy.out))).it.rows
      · exact (((HTQ.out.set HTy.out).set (typ_set HTy.out)).set (typ_set (typ_set HTy.out))).it.ws

end Go.Proofs.Ytpdloenmplafiaa
