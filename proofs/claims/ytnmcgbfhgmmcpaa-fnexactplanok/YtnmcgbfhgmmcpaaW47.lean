import Derived.Test.YtnmcgbfhgmmcpaaW46
/-
  spec.PlanOK.
-/
namespace Go.Proofs.Ytnmcgbfhgmmcpaa
open Go.RowKit

/-- a bag and its parent, as spec.PlanOK asks them -/
def bpB (k : Int) (bs : List (List Int)) (ps : List Int) (i : Nat) : Bool := bagB k (bs.getD i []) && parB bs.length ps i

theorem planB_alt {k : Int} {es bs : List (List Int)} {ps hs : List Int} {ws : List (Int × Int)} {x : Int × Int} :
    planB k es bs ps hs ws x = (patB k es && decide (bs.length ≤ 12) && decide (ps.length = bs.length) && decide (hs.length = es.length) && decide (ws.length = bs.length) && (List.range bs.length).all (bpB k bs ps) && togB k bs ps &&
      ((List.range es.length).all fun i => homeB (hs.getD i 0) (es.getD i []) bs) && (List.range bs.length).all (widAt es bs ws) && decide (x = rp (mostN (fun i => wdR es (bs.getD i [])) bs.length))) := by
  unfold planB bagsB parsB homesB widB
  by_cases hp : ps.length = bs.length
  · have e1 : decide ((ps.length : Int) = (bs.length : Int)) = true := decide_eq_true (by omega)
    have e2 : (List.range bs.length).all (bpB k bs ps) = (bs.all (bagB k) && (List.range ps.length).all (parB bs.length ps)) := by
      rw [hp]
      have : bs.all (bagB k) = (List.range bs.length).all (fun i => bagB k (bs.getD i [])) := by
        cases hc : bs.all (bagB k)
        · rw [List.all_eq_false] at hc
          obtain ⟨b, hb, hb2⟩ := hc
          obtain ⟨j, hj, e⟩ := List.getElem_of_mem hb
          exact (range_all_false hj (by rw [List.getD_eq_getElem?_getD, List.getElem?_eq_getElem hj, Option.getD_some, e]; simpa using hb2)).symm
        · rw [List.all_eq_true] at hc
          exact (range_all_true (fun i hi => hc _ (by rw [List.getD_eq_getElem?_getD, List.getElem?_eq_getElem hi]; exact List.getElem_mem hi))).symm
      rw [this]
      generalize (List.range bs.length) = R
      induction R with
      | nil => rfl
      | cons r R ih =>
        simp only [List.all_cons, ih, bpB]
        cases bagB k (bs.getD r []) <;> cases parB bs.length ps r <;> simp
    rw [e1, decide_eq_true hp, e2]
    cases patB k es <;> cases decide (bs.length ≤ 12) <;> cases bs.all (bagB k) <;> cases (List.range ps.length).all (parB bs.length ps) <;> cases togB k bs ps <;> cases decide (hs.length = es.length) <;> cases decide (ws.length = bs.length) <;> simp [Bool.and_assoc]
  · rw [decide_eq_false (by omega : ¬ (ps.length : Int) = (bs.length : Int)), decide_eq_false hp]; simp

theorem parOk_bp {k : Int} {bs : List (List Int)} {ps : List Int} (hl : ps.length = bs.length) (h : ∀ i, i < bs.length → bpB k bs ps i = true) : ParOk ps bs.length := by
  refine ⟨hl, fun i hi => ?_⟩
  have := h i hi
  unfold bpB parB at this
  rw [Bool.and_eq_true, Bool.or_eq_true, Bool.and_eq_true, decide_eq_true_eq, decide_eq_true_eq, decide_eq_true_eq] at this
  omega

theorem good_bp {k : Int} {es bs : List (List Int)} {ps : List Int} (hp : patB k es = true) (h : ∀ i, i < bs.length → bpB k bs ps i = true) : ∀ i, i < bs.length → GoodBag es (bs.getD i []) ∧ 1 ≤ (bs.getD i []).length := by
  intro i hi
  have := h i hi
  unfold bpB bagB at this
  rw [Bool.and_eq_true, Bool.and_eq_true, Bool.and_eq_true] at this
  exact ⟨good_of hp this.1.1.2 this.1.2, by have := this.1.1.1; simp at this; exact List.length_pos_iff.2 (by simpa using this)⟩

set_option maxHeartbeats 40000000 in
set_option maxRecDepth 1000000 in
theorem sPlanOK_calls (w : World) (vb vp vh vw ve : Value) (k x0 y0 : Int) (es bs : List (List Int)) (ps hs : List Int) (ws : List (Int × Int)) (he : ISS w ve es) (hle : Short es) (hb : ISS w vb bs) (hl : Short bs)
    (hp : IS w vp ps) (hh : IS w vh hs) (hwv : IR w vw ws) :
    Calls Try.prog 24 #[.int .i64 k, ve, .agg #[vb, vp, vh, vw, .int .i64 x0, .int .i64 y0]] w fun e w' => e = .returned (.bool (planB k es bs ps hs ws (x0, y0))) ∧ Below w.heap.size w w' := by
  have HB0 : Hid (Below w.heap.size w (w.alloc (.cells #[vb, vp, vh, vw, .int .i64 x0, .int .i64 y0] 53))) := hid ((Below.refl _ _).alloc (Nat.le_refl _) _)
  have c0 : (w.alloc (.cells #[vb, vp, vh, vw, .int .i64 x0, .int .i64 y0] 53)).cell? ⟨w.heap.size, 0, none⟩ = some vb := by rw [World.cell?_alloc_at _ _ _ _ rfl]; rfl
  have c1 : (w.alloc (.cells #[vb, vp, vh, vw, .int .i64 x0, .int .i64 y0] 53)).cell? ⟨w.heap.size, 1, none⟩ = some vp := by rw [World.cell?_alloc_at _ _ _ _ rfl]; rfl
  have c2 : (w.alloc (.cells #[vb, vp, vh, vw, .int .i64 x0, .int .i64 y0] 53)).cell? ⟨w.heap.size, 2, none⟩ = some vh := by rw [World.cell?_alloc_at _ _ _ _ rfl]; rfl
  have c3 : (w.alloc (.cells #[vb, vp, vh, vw, .int .i64 x0, .int .i64 y0] 53)).cell? ⟨w.heap.size, 3, none⟩ = some vw := by rw [World.cell?_alloc_at _ _ _ _ rfl]; rfl
  have c4 : (w.alloc (.cells #[vb, vp, vh, vw, .int .i64 x0, .int .i64 y0] 53)).cell? ⟨w.heap.size, 4, none⟩ = some (.int .i64 x0) := by rw [World.cell?_alloc_at _ _ _ _ rfl]; rfl
  have c5 : (w.alloc (.cells #[vb, vp, vh, vw, .int .i64 x0, .int .i64 y0] 53)).cell? ⟨w.heap.size, 5, none⟩ = some (.int .i64 y0) := by rw [World.cell?_alloc_at _ _ _ _ rfl]; rfl
  obtain ⟨W, hW⟩ : ∃ W, W = w.alloc (.cells #[vb, vp, vh, vw, .int .i64 x0, .int .i64 y0] 53) := ⟨_, rfl⟩
  rw [← hW] at HB0 c0 c1 c2 c3 c4 c5
  have HE := hid (he.below HB0.out)
  have HBS := hid (hb.below HB0.out)
  have HP := hid (hp.below HB0.out)
  have HH := hid (hh.below HB0.out)
  have HWV := hid (hwv.below' HB0.out)
  have HL := hid hl
  have HLE := hid hle
  obtain ⟨ae, cape, rfl, -⟩ := he
  obtain ⟨ab, capb, rfl, -⟩ := hb
  obtain ⟨ap, capp, rfl, -⟩ := hp
  obtain ⟨ah, caph, rfl, -⟩ := hh
  obtain ⟨aw, capw, rfl, -⟩ := hwv
  have hbl := hl.1
  have hel := hle.1
  obtain ⟨res, hres⟩ : ∃ r, r = planB k es bs ps hs ws (x0, y0) := ⟨_, rfl⟩
  rw [← hres]
  rw [planB_alt] at hres
  have HR := hid hres
  clear hres hl hle
  have K1 := hid (l4Pattern_calls W _ k es HE.out HLE.out)
  cases hpat : patB k es
  · obtain rfl : res = false := by rw [HR.out, hpat]; simp
    rw [hpat] at K1
    go_enter Try.func24, Try.ntmps24
    go_upto_region 1 with fail
    rw [← hW]
    clear hW
    go_wp2_with fail
    refine K1.out.mono ?_
    rintro e w1 ⟨rfl, hw1⟩
    subst w1
    go_wp2_with fail
    go_ret
    exact ⟨rfl, HB0.out⟩
  rw [hpat] at K1 HR
  rw [Bool.true_and] at HR
  have hpp := pat_parts hpat
  have hk0 := hpp.1
  have hk6 := hpp.2.1
  have HEE := hid hpp.2.2
  have HPAT := hid hpat
  clear hpat hpp
  by_cases h12 : bs.length ≤ 12
  case neg =>
    obtain rfl : res = false := by rw [HR.out, decide_eq_false h12]; simp
    have i1 : (12 : Int) < (bs.length : Int) := by omega
    clear HBS HR
    generalize bs.length = n at *
    go_enter Try.func24, Try.ntmps24
    go_upto_region 1 with fail
    rw [← hW]
    clear hW
    go_wp2_with fail
    refine K1.out.mono ?_
    rintro e w1 ⟨rfl, hw1⟩
    subst w1
    go_wp2_with fail
    go_ret
    exact ⟨rfl, HB0.out⟩
  have d12 : ¬ ((12 : Int) < (bs.length : Int)) := by omega
  by_cases hq1 : ps.length = bs.length
  case neg =>
    obtain rfl : res = false := by rw [HR.out, decide_eq_false hq1]; simp
    have i1 : ((ps.length : Int) != (bs.length : Int)) = true := by simp; omega
    clear HBS HP HR
    generalize bs.length = n at *
    generalize ps.length = n1 at *
    go_enter Try.func24, Try.ntmps24
    go_upto_region 1 with fail
    rw [← hW]
    clear hW
    go_wp2_with fail
    refine K1.out.mono ?_
    rintro e w1 ⟨rfl, hw1⟩
    subst w1
    go_wp2_with fail
    go_ret
    exact ⟨rfl, HB0.out⟩
  by_cases hq2 : hs.length = es.length
  case neg =>
    obtain rfl : res = false := by rw [HR.out, decide_eq_false hq2]; simp
    have i1 : ((hs.length : Int) != (es.length : Int)) = true := by simp; omega
    have i0 : ((bs.length : Int) != (bs.length : Int)) = false := by simp
    rw [hq1] at hW c1 ⊢
    clear HBS HP HH HR hq1
    generalize bs.length = n at *
    generalize hs.length = n2 at *
    go_enter Try.func24, Try.ntmps24
    go_upto_region 1 with fail
    rw [← hW]
    clear hW
    go_wp2_with fail
    refine K1.out.mono ?_
    rintro e w1 ⟨rfl, hw1⟩
    subst w1
    go_wp2_with fail
    go_ret
    exact ⟨rfl, HB0.out⟩
  by_cases hq3 : ws.length = bs.length
  case neg =>
    obtain rfl : res = false := by rw [HR.out, decide_eq_false hq3]; simp
    have i1 : ((ws.length : Int) != (bs.length : Int)) = true := by simp; omega
    have i0 : ((bs.length : Int) != (bs.length : Int)) = false := by simp
    have i2 : ((es.length : Int) != (es.length : Int)) = false := by simp
    rw [hq1] at hW c1 ⊢
    rw [hq2] at hW c2 ⊢
    clear HBS HP HH HWV HR hq1 hq2
    generalize bs.length = n at *
    generalize ws.length = n3 at *
    go_enter Try.func24, Try.ntmps24
    go_upto_region 1 with fail
    rw [← hW]
    clear hW
    go_wp2_with fail
    refine K1.out.mono ?_
    rintro e w1 ⟨rfl, hw1⟩
    subst w1
    go_wp2_with fail
    go_ret
    exact ⟨rfl, HB0.out⟩
  rw [decide_eq_true h12, decide_eq_true hq1, decide_eq_true hq2, decide_eq_true hq3] at HR
  simp only [Bool.true_and] at HR
  have F1 : Hid (∀ i, i < bs.length → bpB k bs ps i = false → res = false) := hid fun i hi e => by rw [HR.out, range_all_false hi e]; simp
  have F2 : Hid (∀ v : Nat, v < k.toNat → decide (topsN (v : Int) bs ps bs.length = 1) = false → res = false) := hid fun v hv e => by
    rw [HR.out, show togB k bs ps = false from range_all_false hv e]; simp
  have F3 : Hid (∀ i, i < es.length → homeB (hs.getD i 0) (es.getD i []) bs = false → res = false) := hid fun i hi e => by
    rw [HR.out, range_all_false (p := fun i => homeB (hs.getD i 0) (es.getD i []) bs) hi e]; simp
  have F4 : Hid (∀ i, i < bs.length → widAt es bs ws i = false → res = false) := hid fun i hi e => by rw [HR.out, range_all_false hi e]; simp
  have F5 : Hid ((∀ i, i < bs.length → bpB k bs ps i = true) → (∀ v : Nat, v < k.toNat → decide (topsN (v : Int) bs ps bs.length = 1) = true) → (∀ i, i < es.length → homeB (hs.getD i 0) (es.getD i []) bs = true) → (∀ i, i < bs.length → widAt es bs ws i = true) → res = decide ((x0, y0) = rp (mostN (fun i => wdR es (bs.getD i [])) bs.length))) := hid fun h1 h2 h3 h4 => by
    rw [HR.out, range_all_true h1, show togB k bs ps = true from range_all_true h2, range_all_true (p := fun i => homeB (hs.getD i 0) (es.getD i []) bs) h3, range_all_true h4]; simp
  have GPO : Hid ((∀ i, i < bs.length → bpB k bs ps i = true) → ParOk ps bs.length) := hid (parOk_bp hq1)
  have GGB : Hid ((∀ i, i < bs.length → bpB k bs ps i = true) → ∀ i, i < bs.length → GoodBag es (bs.getD i []) ∧ 1 ≤ (bs.getD i []).length) := hid (good_bp HPAT.out)
  have HBP : Hid (∀ i, bpB k bs ps i = (!decide ((bs.getD i []).length = 0) && setKB k (bs.getD i []) && (decide (ps.getD i 0 = -1) || (decide ((i : Int) < ps.getD i 0) && decide (ps.getD i 0 < (bs.length : Int)))))) := hid fun i => by
    unfold bpB bagB parB
    rw [setKB_eq hk6, Bool.and_assoc (!decide _)]
  have HHB : Hid (∀ i, homeB (hs.getD i 0) (es.getD i []) bs = if (es.getD i []).length = 0 then decide (hs.getD i 0 = -1) else decide (0 ≤ hs.getD i 0) && decide (hs.getD i 0 < (bs.length : Int)) && subB (es.getD i []) (bs.getD (hs.getD i 0).toNat [])) := hid fun i => rfl
  have HWA : Hid (∀ i, widAt es bs ws i = decide (ws.getD i (0, 0) = rp (wdR es (bs.getD i [])))) := hid fun _ => rfl
  clear HR
  have hbs := HBS.out
  have hps := HP.out
  have hhs := HH.out
  have hws := HWV.out
  obtain ⟨_, _, ev1, hcb⟩ := hbs
  obtain ⟨_, _, ev2, hcp⟩ := hps
  obtain ⟨_, _, ev3, hch⟩ := hhs
  obtain ⟨_, _, ev4, hcw⟩ := hws
  simp only [Value.slice.injEq, true_and] at ev1 ev2 ev3 ev4
  obtain ⟨rfl, rfl⟩ := ev1
  obtain ⟨rfl, rfl⟩ := ev2
  obtain ⟨rfl, rfl⟩ := ev3
  obtain ⟨rfl, rfl⟩ := ev4
  have hes := HE.out
  obtain ⟨_, _, ev5, hce⟩ := hes
  simp only [Value.slice.injEq, true_and] at ev5
  obtain ⟨rfl, rfl⟩ := ev5
  have KT : Hid (∀ W' v, Below W.heap.size W W' → ParOk ps bs.length → Calls Try.prog 64 #[.agg #[.slice ab bs.length capb, .slice ap ps.length capp, .slice ah hs.length caph, .slice aw ws.length capw, .int .i64 x0, .int .i64 y0], .int .i64 v] W' fun e w' => e = .returned (.bool (decide (topsN v bs ps bs.length = 1))) ∧ Below W'.heap.size W' w') :=
    hid fun W' v hb hpo => l4Together_calls W' _ _ _ _ v x0 y0 bs ps (HBS.out.below hb) HL.out h12 (HP.out.below hb) hpo
  have KWI : Hid (∀ W', Below W.heap.size W W' → (∀ i, i < bs.length → bpB k bs ps i = true) → _) := hid fun W' hb h1 => l4Widths_calls W' (.slice ab bs.length capb) (.slice ae es.length cape) bs es (HBS.out.below hb) (by omega) (HE.out.below hb) HLE.out HEE.out (GGB.out h1)
  rw [hq1] at c1 KT hcp hW ⊢
  rw [hq2] at c2 KT hch hW ⊢
  rw [hq3] at c3 KT hcw hW ⊢
  obtain ⟨n, hn⟩ : ∃ n, n = bs.length := ⟨_, rfl⟩
  obtain ⟨m, hm⟩ : ∃ m, m = es.length := ⟨_, rfl⟩
  have HN := hid hn
  rw [← hn] at c0 c1 c3 KT KWI hcb hcp hcw hW F1 F2 F4 F5 GPO GGB HBP HHB h12 d12 hbl ⊢
  rw [← hm] at c2 KT KWI hch hce hW F3 F5 hel K1 ⊢
  have HCB := hid hcb
  have HCP := hid hcp
  have HCH := hid hch
  have HCW := hid hcw
  have HCE := hid hce
  have d1 : ((n : Int) != (n : Int)) = false := by simp
  have d2 : ((m : Int) != (m : Int)) = false := by simp
  have HLB := hid HL.out.2
  have HLL := hid HLE.out.2
  clear hcb hcp hch hcw hce hn hm hq1 hq2 hq3 HBS HP HH HWV HE HL HLE
  go_enter Try.func24, Try.ntmps24
  go_upto_region 1 with fail
  rw [← hW]
  clear hW
  go_wp2_with fail
  refine K1.out.mono ?_
  rintro e w1 ⟨rfl, hw1⟩
  subst w1
  clear K1
  go_wp2_with fail
  go_loop [52] (fun t => ∃ j : Nat, j ≤ n ∧ t = .int .i64 j ∧ Hid (∀ i, i < j → bpB k bs ps i = true)) (fun t => n - (intOf t).toNat)
  case atStart => exact ⟨0, Nat.zero_le _, rfl, hid (fun i hi => by omega)⟩
  case round =>
    obtain ⟨j, hj, rfl, hok⟩ := hrel
    by_cases hjn : j < n
    · have i1 : (j : Int) < (n : Int) := by omega
      rcases HCB.out with h0 | ⟨b, o, rfl, hcell⟩
      · omega
      rcases HCP.out with h0 | ⟨b2, o2, rfl, hcell2⟩
      · omega
      obtain ⟨u, e1, hu⟩ := hcell j hjn
      have e2 := hcell2 j hjn
      have HK := hid (l1SetOKk_calls W k hk0 hk6 u (bs.getD j []) hu (HLB.out j))
      obtain ⟨a1, cap1, rfl, -⟩ := hu
      have fin := F1.out j hjn
      have nxt : bpB k bs ps j = true → Hid (∀ i, i < j + 1 → bpB k bs ps i = true) := fun e i hi => by
        by_cases e2 : i = j
        · rw [e2]; exact e
        · exact hok.out i (by omega)
      have hbp := HBP.out j
      have hml := HLB.out j
      clear hcell hcell2 hok
      generalize bpB k bs ps j = y at *
      generalize (bs.getD j []).length = lj at *
      generalize setKB k (bs.getD j []) = y2 at *
      generalize ps.getD j 0 = x at *
      by_cases hm0 : lj = 0
      · subst hm0
        obtain rfl := fin (by rw [hbp]; rfl)
        clear nxt hbp
        go_wp2_with fail
        go_ret
        exact ⟨rfl, HB0.out⟩
      have hm1 : ¬ ((lj : Int) = 0) := by omega
      rw [decide_eq_false hm0, Bool.not_false, Bool.true_and] at hbp
      cases y2
      · obtain rfl := fin (by rw [hbp]; rfl)
        clear nxt hbp
        go_wp2_with fail
        refine HK.out.mono ?_
        rintro e w1 ⟨rfl, hw1⟩
        subst w1
        go_wp2_with fail
        go_ret
        exact ⟨rfl, HB0.out⟩
      rw [Bool.true_and] at hbp
      by_cases hx1 : x = -1
      · subst hx1
        have hf := nxt (by rw [hbp]; rfl)
        clear fin nxt hbp
        go_wp2_with fail
        refine HK.out.mono ?_
        rintro e w1 ⟨rfl, hw1⟩
        subst w1
        go_wp2_with fail
        go_round
        case rel => exact ⟨j + 1, by omega, by go_num, hf⟩
        case measure => simp [intOf]; omega
      have x1 : (x != -1) = true := by simpa using hx1
      rw [decide_eq_false hx1, Bool.false_or] at hbp
      by_cases h2 : x ≤ (j : Int)
      · obtain rfl := fin (by rw [hbp, decide_eq_false (by omega)]; rfl)
        clear nxt hbp
        go_wp2_with fail
        refine HK.out.mono ?_
        rintro e w1 ⟨rfl, hw1⟩
        subst w1
        go_wp2_with fail
        refine (between_no1 _ _ _ _ (by omega)).mono ?_
        rintro e w1 ⟨rfl, hw1⟩
        subst w1
        go_wp2_with fail
        go_ret
        exact ⟨rfl, HB0.out⟩
      rw [decide_eq_true (by omega : (j : Int) < x), Bool.true_and] at hbp
      by_cases h3 : (n : Int) ≤ x
      · obtain rfl := fin (by rw [hbp, decide_eq_false (by omega)])
        clear nxt hbp
        go_wp2_with fail
        refine HK.out.mono ?_
        rintro e w1 ⟨rfl, hw1⟩
        subst w1
        go_wp2_with fail
        refine (between_no2 _ _ _ _ (by omega) (by omega)).mono ?_
        rintro e w1 ⟨rfl, hw1⟩
        subst w1
        go_wp2_with fail
        go_ret
        exact ⟨rfl, HB0.out⟩
      have hf := nxt (by rw [hbp, decide_eq_true (by omega)])
      clear fin nxt hbp
      go_wp2_with fail
      refine HK.out.mono ?_
      rintro e w1 ⟨rfl, hw1⟩
      subst w1
      go_wp2_with fail
      refine (between_yes _ _ _ _ (by omega) (by omega)).mono ?_
      rintro e w1 ⟨rfl, hw1⟩
      subst w1
      go_wp2_with fail
      go_round
      case rel => exact ⟨j + 1, by omega, by go_num, hf⟩
      case measure => simp [intOf]; omega
    · obtain rfl : n = j := by omega
      have i1 : ¬ ((n : Int) < (n : Int)) := by omega
      have H1 := hid hok.out
      have HPO := hid (GPO.out hok.out)
      clear hok F1 HBP GPO
      obtain ⟨q, hq⟩ : ∃ q : Nat, q = k.toNat := ⟨_, rfl⟩
      have hkq : k = (q : Int) := by omega
      rw [← hq] at F2 F5
      have HKQ := hid hkq
      clear hq
      go_wp2_with fail
      go_loopw [10] (fun t wr => ∃ v : Nat, v ≤ q ∧ t = .int .i64 v ∧ Below W.heap.size W wr ∧ Hid (∀ i : Nat, i < v → decide (topsN (i : Int) bs ps n = 1) = true)) (fun t _ => q - (intOf t).toNat)
      case atStart => exact ⟨0, Nat.zero_le _, rfl, Below.refl _ _, hid (fun i hi => by omega)⟩
      case round =>
        obtain ⟨v, hv, rfl, hnx, hok⟩ := hrel
        by_cases hvq : v < q
        · have i2 : (v : Int) < k := by omega
          have z0 := bclp hnx c0
          have z1 := bclp hnx c1
          have z2 := bclp hnx c2
          have z3 := bclp hnx c3
          have z4 := bclp hnx c4
          have z5 := bclp hnx c5
          have KT1 := hid (KT.out wr (v : Int) hnx HPO.out)
          have fin := F2.out v hvq
          have nxt : decide (topsN (v : Int) bs ps n = 1) = true → Hid (∀ i : Nat, i < v + 1 → decide (topsN (i : Int) bs ps n = 1) = true) := fun e i hi => by
            by_cases e2 : i = v
            · rw [e2]; exact e
            · exact hok.out i (by omega)
          clear hok
          generalize decide (topsN (v : Int) bs ps n = 1) = y at *
          cases y
          · obtain rfl := fin rfl
            clear nxt
            go_wp2_with fail
            refine KT1.out.mono ?_
            rintro e w1 ⟨rfl, hb1⟩
            go_wp2_with fail
            go_ret
            exact ⟨rfl, bt HB0.out (bt hnx hb1)⟩
          · have hf := nxt rfl
            clear fin nxt
            go_wp2_with fail
            refine KT1.out.mono ?_
            rintro e w1 ⟨rfl, hb1⟩
            go_wp2_with fail
            go_roundw
            case rel => exact ⟨v + 1, by omega, by go_num, bt hnx hb1, hf⟩
            case measure => simp [intOf]; omega
        · obtain rfl : q = v := by omega
          have i2 : ¬ ((q : Int) < k) := by omega
          have H2 := hid hok.out
          generalize wr = W2 at *
          have HB2 := hid hnx
          clear hok hnx F2 KT
          go_wp2_with fail
          go_loopw [97] (fun t wr => ∃ j : Nat, j ≤ m ∧ t = .int .i64 j ∧ Below W2.heap.size W2 wr ∧ Hid (∀ i, i < j → homeB (hs.getD i 0) (es.getD i []) bs = true)) (fun t _ => m - (intOf t).toNat)
          case atStart => exact ⟨0, Nat.zero_le _, rfl, Below.refl _ _, hid (fun i hi => by omega)⟩
          case round =>
            obtain ⟨j, hj, rfl, hnx2, hok⟩ := hrel
            have hnx := bt HB2.out hnx2
            by_cases hjm : j < m
            · have i3 : (j : Int) < (m : Int) := by omega
              rcases HCE.out with h0 | ⟨b, o, rfl, hcell⟩
              · omega
              rcases HCH.out with h0 | ⟨b2, o2, rfl, hcell2⟩
              · omega
              obtain ⟨u, e1', hu⟩ := hcell j hjm
              have e1 := bclp hnx e1'
              have e2 := bclp hnx (hcell2 j hjm)
              have z0 := bclp hnx c0
              have z2 := bclp hnx c2
              have HU := hid (hu.below hnx)
              have hll := HLL.out j
              obtain ⟨a1, cap1, rfl, -⟩ := hu
              have fin := F3.out j hjm
              have nxt : homeB (hs.getD j 0) (es.getD j []) bs = true → Hid (∀ i, i < j + 1 → homeB (hs.getD i 0) (es.getD i []) bs = true) := fun e i hi => by
                by_cases e2 : i = j
                · rw [e2]; exact e
                · exact hok.out i (by omega)
              have hhb := HHB.out j
              clear hcell hcell2 hok e1'
              have hbr : Below wr.heap.size wr wr := Below.refl _ _
              generalize homeB (hs.getD j 0) (es.getD j []) bs = y at *
              generalize hs.getD j 0 = x at *
              generalize es.getD j [] = ej at *
              obtain ⟨lj, hlj⟩ : ∃ l, l = ej.length := ⟨_, rfl⟩
              rw [← hlj] at hhb e1 HU hll
              by_cases hm0 : lj = 0
              · rw [if_pos hm0] at hhb
                subst hm0
                clear hlj
                by_cases hx1 : x = -1
                · subst hx1
                  have hf := nxt (by rw [hhb]; rfl)
                  clear fin nxt hhb
                  go_wp2_with fail
                  go_roundw
                  case rel => exact ⟨j + 1, by omega, by go_num, hnx2, hf⟩
                  case measure => simp [intOf]; omega
                · obtain rfl := fin (by rw [hhb]; exact decide_eq_false hx1)
                  have x1 : (x != -1) = true := by simpa using hx1
                  clear nxt hhb
                  go_wp2_with fail
                  go_ret
                  exact ⟨rfl, bt HB0.out hnx⟩
              have hm1 : ¬ ((lj : Int) = 0) := by omega
              rw [if_neg hm0] at hhb
              by_cases hx0 : 0 ≤ x
              case neg =>
                obtain rfl := fin (by rw [hhb, decide_eq_false hx0]; rfl)
                clear nxt hhb hlj
                go_wp2_with fail
                go_quiet (first | (go_at_call 63; exact Calls.quiet_of_same (between_no1 _ _ _ _ (by omega))))
                go_wp2_with fail
                go_ret
                exact ⟨rfl, bt HB0.out (below_drewN hnx _)⟩
              by_cases hxn : x < (n : Int)
              case neg =>
                obtain rfl := fin (by rw [hhb, decide_eq_false hxn]; simp)
                clear nxt hhb hlj
                go_wp2_with fail
                go_quiet (first | (go_at_call 63; exact Calls.quiet_of_same (between_no2 _ _ _ _ (by omega) (by omega))))
                go_wp2_with fail
                go_ret
                exact ⟨rfl, bt HB0.out (below_drewN hnx _)⟩
              rw [decide_eq_true hx0, decide_eq_true hxn, Bool.true_and, Bool.true_and] at hhb
              obtain ⟨z, rfl⟩ : ∃ z : Nat, x = (z : Int) := ⟨x.toNat, by omega⟩
              rw [show ((z : Int)).toNat = z by omega] at hhb
              rcases HCB.out with h0 | ⟨b3, o3, rfl, hcell3⟩
              · omega
              obtain ⟨u3, e3', hu3⟩ := hcell3 z (by omega)
              have e3 := bclp hnx e3'
              have KSB : Hid (∀ W', Below wr.heap.size wr W' → Calls Try.prog 65 #[.slice a1 lj cap1, u3] W' fun e w' => e = .returned (.bool (subB ej (bs.getD z []))) ∧ w' = W') := hid fun W' hb =>
                l2Subset_calls W' _ _ ej (bs.getD z []) (HU.out.below hb) (by rw [← hlj]; exact hll) ((hu3.below hnx).below hb) (HLB.out z)
              obtain ⟨a3, cap3, rfl, -⟩ := hu3
              clear hcell3 e3' HU hlj
              generalize (bs.getD z []).length = lz at *
              generalize subB ej (bs.getD z []) = sb at *
              subst hhb
              cases y
              · obtain rfl := fin rfl
                clear nxt
                go_wp2_with fail
                go_quiet (first | (go_at_call 63; exact Calls.quiet_of_same (between_yes _ _ _ _ (by omega) (by omega))) | (go_at_call 65; exact Calls.quiet_of_same (KSB.out _ (below_drewN hbr _))) | (go_at_call 65; exact Calls.quiet_of_same (KSB.out _ hbr)))
                go_wp2_with fail
                go_ret
                exact ⟨rfl, bt HB0.out (below_drewN hnx _)⟩
              · have hf := nxt rfl
                clear fin nxt
                go_wp2_with fail
                go_quiet (first | (go_at_call 63; exact Calls.quiet_of_same (between_yes _ _ _ _ (by omega) (by omega))) | (go_at_call 65; exact Calls.quiet_of_same (KSB.out _ (below_drewN hbr _))) | (go_at_call 65; exact Calls.quiet_of_same (KSB.out _ hbr)))
                go_wp2_with fail
                go_roundw
                case rel => exact ⟨j + 1, by omega, by go_num, below_drewN hnx2 _, hf⟩
                case measure => simp [intOf]; omega
            · obtain rfl : m = j := by omega
              have i3 : ¬ ((m : Int) < (m : Int)) := by omega
              have H3 := hid hok.out
              have z0 := bclp hnx c0
              have KW1 := hid (KWI.out wr hnx H1.out)
              clear hok hnx2 F3 HHB
              generalize wr = W3 at *
              have HB3 := hid hnx
              clear hnx
              obtain ⟨MX, hMX⟩ : ∃ MX, MX = mostN (fun i => wdR es (bs.getD i [])) n := ⟨_, rfl⟩
              rw [← hMX] at KW1 F5
              clear hMX
              go_wp2_with fail
              refine KW1.out.mono ?_
              rintro e W4 ⟨v4, rfl, hown4, hb4⟩
              have hir := own_ir (l := prs n (fun i => wdR es (bs.getD i []))) (by rw [prs_length]; exact hown4)
              obtain ⟨a4, cap4, e4, hc4⟩ := hir
              rw [prs_length] at e4 hc4
              subst e4
              have HC4 := hid hc4
              have HB4 := hid (bt HB3.out hb4)
              clear hc4 hown4 hb4 KW1 z0
              have t5 := TRp.new W4 MX.num MX.den
              have hb5 : Below W.heap.size W (W4.alloc (.cells #[.int .i64 MX.num, .int .i64 MX.den] 28)) := HB4.out.alloc HB4.out.size _
              have HB45 : Hid (Below W4.heap.size W4 (W4.alloc (.cells #[.int .i64 MX.num, .int .i64 MX.den] 28))) := hid ((Below.refl _ _).alloc (Nat.le_refl _) _)
              have HT5 := hid t5
              have HB5 := hid hb5
              have hup5 : Hid (∀ (a : Addr) (v : Value), W4.cell? a = some v → (W4.alloc (.cells #[.int .i64 MX.num, .int .i64 MX.den] 28)).cell? a = some v) := hid fun a v h => bclp HB45.out h
              clear t5 hb5 HB45
              go_upto_region 27 with fail
              generalize W4.heap.size = G at *
              generalize W4.alloc (.cells #[.int .i64 MX.num, .int .i64 MX.den] 28) = W5 at *
              go_wp2_with fail
              go_loopw [144] (fun t wr => ∃ j : Nat, j ≤ n ∧ t = .int .i64 j ∧ Below W5.heap.size W5 wr ∧ Hid (∀ i, i < j → widAt es bs ws i = true)) (fun t _ => n - (intOf t).toNat)
              case atStart => exact ⟨0, Nat.zero_le _, rfl, Below.refl _ _, hid (fun i hi => by omega)⟩
              case round =>
                obtain ⟨j, hj, rfl, hnx5, hok⟩ := hrel
                have hnx := bt HB5.out hnx5
                by_cases hjn : j < n
                · have i4 : (j : Int) < (n : Int) := by omega
                  rcases HC4.out with h0 | ⟨b, o, rfl, hcell⟩
                  · omega
                  rcases HCW.out with h0 | ⟨b2, o2, rfl, hcell2⟩
                  · omega
                  obtain ⟨f1, f2⟩ := hcell j hjn
                  obtain ⟨g1, g2⟩ := hcell2 j hjn
                  rw [prs_get hjn] at f1 f2
                  have k1 := bclp hnx5 (hup5.out _ _ f1)
                  have k2 := bclp hnx5 (hup5.out _ _ f2)
                  have k3 := bclp hnx g1
                  have k4 := bclp hnx g2
                  have z3 := bclp hnx c3
                  have fin := F4.out j hjn
                  have nxt : widAt es bs ws j = true → Hid (∀ i, i < j + 1 → widAt es bs ws i = true) := fun e i hi => by
                    by_cases e2 : i = j
                    · rw [e2]; exact e
                    · exact hok.out i (by omega)
                  have hwa := HWA.out j
                  clear hcell hcell2 hok f1 f2 g1 g2
                  generalize widAt es bs ws j = y at *
                  generalize wdR es (bs.getD j []) = qq at *
                  unfold rp at hwa
                  generalize ws.getD j (0, 0) = p at *
                  obtain ⟨p1, p2⟩ := p
                  simp only at k1 k2 k3 k4
                  generalize qq.num = qn at *
                  generalize (qq.den : Int) = qd at *
                  by_cases e1 : qn = p1
                  · subst e1
                    by_cases e2 : qd = p2
                    · subst e2
                      have hf := nxt (by rw [hwa]; simp)
                      clear fin nxt hwa
                      go_wp2_with fail
                      go_quiet (fail)
                      go_wp2_with fail
                      go_roundw
                      case rel => exact ⟨j + 1, by omega, by go_num, below_drewN hnx5 _, hf⟩
                      case measure => simp [intOf]; omega
                    · obtain rfl := fin (by rw [hwa]; simp; exact fun h => e2 h.symm)
                      have x1 : (qd == p2) = false := by simpa using e2
                      clear nxt hwa
                      go_wp2_with fail
                      go_quiet (fail)
                      go_wp2_with fail
                      go_ret
                      exact ⟨rfl, bt HB0.out (below_drewN hnx _)⟩
                  · obtain rfl := fin (by rw [hwa]; simp; exact fun h => absurd h.symm e1)
                    have x1 : (qn == p1) = false := by simpa using e1
                    clear nxt hwa
                    go_wp2_with fail
                    go_quiet (fail)
                    go_wp2_with fail
                    go_ret
                    exact ⟨rfl, bt HB0.out (below_drewN hnx _)⟩
                · obtain rfl : n = j := by omega
                  have i4 : ¬ ((n : Int) < (n : Int)) := by omega
                  have hr := F5.out H1.out H2.out H3.out hok.out
                  have t5 := (HT5.out.below hnx5).two
                  have k1 := t5.1
                  have k2 := t5.2.1
                  have z4 := bclp hnx c4
                  have z5 := bclp hnx c5
                  clear hok t5
                  unfold rp at hr
                  generalize MX.num = qn at *
                  generalize (MX.den : Int) = qd at *
                  by_cases e1 : qn = x0
                  · subst e1
                    by_cases e2 : qd = y0
                    · subst e2
                      obtain rfl : res = true := by rw [hr]; simp
                      clear hr
                      go_wp2_with fail
                      go_ret
                      exact ⟨rfl, bt HB0.out hnx⟩
                    · obtain rfl : res = false := by rw [hr]; simp; exact fun h => e2 h.symm
                      have x1 : (qd == y0) = false := by simpa using e2
                      clear hr
                      go_wp2_with fail
                      go_ret
                      exact ⟨rfl, bt HB0.out hnx⟩
                  · obtain rfl : res = false := by rw [hr]; simp; exact fun h => absurd h.symm e1
                    have x1 : (qn == x0) = false := by simpa using e1
                    clear hr
                    go_wp2_with fail
                    go_ret
                    exact ⟨rfl, bt HB0.out hnx⟩


end Go.Proofs.Ytnmcgbfhgmmcpaa
