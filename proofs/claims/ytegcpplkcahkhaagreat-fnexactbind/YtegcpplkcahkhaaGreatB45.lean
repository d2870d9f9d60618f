import Derived.Deep.RegionHeld3
import Derived.Test.YtegcpplkcahkhaaGreatB36
/-
  spec.CheckQuery.
-/
namespace Go.Proofs.YtegcpplkcahkhaaGreat
open Go.RowKit

set_option maxHeartbeats 20000000 in
set_option maxRecDepth 1000000 in
theorem sCheckQuery_calls (w : World) (v vh va : Value) (ds : List RelV) (q : QV) (h : IRelS w v ds) (hr : OkRels ds) (hcap : ∀ a n cap, v = .slice a n cap → n ≤ cap) (hi : IQ w vh va q) (hq : OkQ q) :
    Calls Tryz.prog 20 #[.agg #[v], .agg #[.string q.name, vh, .int .i64 q.ring, va]] w fun e w' => e = .returned (.tuple #[.int .i64 (checkP ds q).1, .int .i64 (checkP ds q).2]) ∧ Below w.heap.size w w' := by
  have HOR := hid hr
  have hdl := hr.1
  have hal := hq.alen
  have hhl := hq.len
  have h' := h
  obtain ⟨a3, k3, e3, -⟩ := h'
  obtain ⟨a1, k1, e1, -⟩ := hi.head
  obtain ⟨a2, k2, e2, -⟩ := hi.atoms
  subst e1 e2 e3
  have HB1 : Hid (Below w.heap.size w (w.alloc (.cells #[.slice a3 ds.length k3] 35))) := hid ((Below.refl _ _).alloc (Nat.le_refl _) _)
  have c0 : (w.alloc (.cells #[.slice a3 ds.length k3] 35)).cell? ⟨w.heap.size, 0, none⟩ = some (.slice a3 ds.length k3) := by simp [go_sem]
  obtain ⟨W1, hW1⟩ : ∃ W, W = w.alloc (.cells #[.slice a3 ds.length k3] 35) := ⟨_, rfl⟩
  have hs1 : W1.heap.size = w.heap.size + 1 := by rw [hW1]; simp
  rw [← hW1] at HB1 c0
  have HB2 : Hid (Below W1.heap.size W1 (W1.alloc (.cells #[.string q.name, .slice a1 q.head.length k1, .int .i64 q.ring, .slice a2 q.atoms.length k2] 39))) := hid ((Below.refl _ _).alloc (Nat.le_refl _) _)
  obtain ⟨W0, hW0⟩ : ∃ W, W = W1.alloc (.cells #[.string q.name, .slice a1 q.head.length k1, .int .i64 q.ring, .slice a2 q.atoms.length k2] 39) := ⟨_, rfl⟩
  have q0 : W0.cell? ⟨W1.heap.size, 0, none⟩ = some (.string q.name) := by rw [hW0, World.cell?_alloc_at _ _ _ _ rfl]; rfl
  have q1 : W0.cell? ⟨W1.heap.size, 1, none⟩ = some (.slice a1 q.head.length k1) := by rw [hW0, World.cell?_alloc_at _ _ _ _ rfl]; rfl
  have q2 : W0.cell? ⟨W1.heap.size, 2, none⟩ = some (.int .i64 q.ring) := by rw [hW0, World.cell?_alloc_at _ _ _ _ rfl]; rfl
  have q3 : W0.cell? ⟨W1.heap.size, 3, none⟩ = some (.slice a2 q.atoms.length k2) := by rw [hW0, World.cell?_alloc_at _ _ _ _ rfl]; rfl
  rw [← hW0] at HB2
  have d0 := bcl' HB2.out c0
  have HBW := hid (bt HB1.out HB2.out)
  have HD := hid (h.below HBW.out)
  have HQ := hid (hi.below HBW.out)
  have HOQ := hid hq
  have KD := hid (sDataOK_calls W0 _ ds HD.out hr hcap)
  have KS : Hid (∀ W, Below W0.heap.size W0 W → Calls Tryz.prog 47 #[.agg #[.string q.name, .slice a1 q.head.length k1, .int .i64 q.ring, .slice a2 q.atoms.length k2]] W fun e w' => e = .returned (.bool (shapeB q)) ∧ Below W.heap.size W w') := hid (fun W hb => l3ShapeOK_calls W _ _ q (HQ.out.below hb) hq)
  have KL : Hid (∀ W s, Below W0.heap.size W0 W → Calls Tryz.prog 23 #[.agg #[.slice a3 ds.length k3], .string s] W fun e w' => ∃ z : Int, e = .returned (.int .i64 z) ∧ RelIx ds s z ∧ Below W.heap.size W w') := hid (fun W s hb => l2Rel_calls W _ ds s (HD.out.below hb) hdl)
  have KV : Hid (∀ W, Below W0.heap.size W0 W → Calls Tryz.prog 21 #[.agg #[.string q.name, .slice a1 q.head.length k1, .int .i64 q.ring, .slice a2 q.atoms.length k2]] W fun e w' => ∃ v, e = .returned v ∧ w'.ownsRow W.heap.size 9 1 v (VL q.atoms q.atoms.length).length ((VL q.atoms q.atoms.length).map Value.string) ∧ Below W.heap.size W w') := hid (fun W hb => l3Vars_calls W _ _ q (HQ.out.below hb) hq)
  have hs0 : W0.heap.size = W1.heap.size + 1 := by rw [hW0]; simp
  rw [hs1] at q0 q1 q2 q3
  clear hr hq h hi hcap
  obtain ⟨DB, hDB⟩ : ∃ b, b = dataB ds := ⟨_, rfl⟩
  obtain ⟨SB, hSB⟩ : ∃ b, b = shapeB q := ⟨_, rfl⟩
  have HDB := hid hDB
  have HSB := hid hSB
  rw [← hDB] at KD
  rw [← hSB] at KS
  clear hDB hSB
  go_enter Tryz.func20, Tryz.ntmps20
  go_upto_region 1 with fail
  rw [← hW1, ← hW0]
  clear hW1 hW0 HB1 HB2 c0 hs0 hs1
  generalize w.heap.size + 1 = B2 at *
  go_wp2_with fail
  refine KD.out.mono ?_
  rintro e w1 ⟨rfl, hb1⟩
  have HB1 := hid hb1
  clear hb1 KD
  cases DB
  case false =>
    have HR := hid (checkP_data (q := q) HDB.out.symm)
    go_wp2_with fail
    go_ret2
    exact ⟨by rw [HR.out]; rfl, bt HBW.out HB1.out⟩
  have x0 := bcl' HB1.out q0
  have x1 := bcl' HB1.out q1
  have x2 := bcl' HB1.out q2
  have x3 := bcl' HB1.out q3
  go_wp2_with fail
  refine (KS.out _ HB1.out).mono ?_
  rintro e w2 ⟨rfl, hb2⟩
  have HB2 := hid (bt HB1.out hb2)
  clear hb2 KS x0 x1 x2 x3 HB1
  cases SB
  case false =>
    have HR := hid (checkP_shape HDB.out.symm HSB.out.symm)
    go_wp2_with fail
    go_ret2
    exact ⟨by rw [HR.out]; rfl, bt HBW.out HB2.out⟩
  have x3 := bcl' HB2.out q3
  by_cases h7 : 7 < q.atoms.length
  · have i1 : (7 : Int) < (q.atoms.length : Int) := by omega
    have HR := hid (checkP_atoms HDB.out.symm HSB.out.symm h7)
    generalize q.atoms.length = an at *
    go_wp2_with fail
    go_ret2
    exact ⟨by rw [HR.out]; rfl, bt HBW.out HB2.out⟩
  have i1 : ¬ ((7 : Int) < (q.atoms.length : Int)) := by omega
  have h7' : q.atoms.length ≤ 7 := by omega
  have HDB' := hid HDB.out.symm
  have HSB' := hid HSB.out.symm
  have HPA : Hid (∀ i, i < q.atoms.length → (∀ j, j < i → atomCode ds (q.atoms.getD j noAt) = 0) → atomCode ds (q.atoms.getD i noAt) ≠ 0 → checkP ds q = (atomCode ds (q.atoms.getD i noAt), (i : Int))) := hid (fun i hi hb hc => checkP_atom HDB'.out HSB'.out h7' hi hb hc)
  have HPV : Hid ((∀ j, j < q.atoms.length → atomCode ds (q.atoms.getD j noAt) = 0) → 6 < (VL q.atoms q.atoms.length).length → checkP ds q = (6, 0)) := hid (fun hb h4 => checkP_vars HDB'.out HSB'.out h7' hb h4)
  have HPH : Hid ((∀ j, j < q.atoms.length → atomCode ds (q.atoms.getD j noAt) = 0) → (VL q.atoms q.atoms.length).length ≤ 6 → ∀ j, j < q.head.length → (∀ i, i < j → headBad q i = false) → headBad q j = true → checkP ds q = (7, (j : Int))) := hid (fun hb h4 j hj hh hc => checkP_head HDB'.out HSB'.out h7' hb h4 hj hh hc)
  have HPO : Hid ((∀ j, j < q.atoms.length → atomCode ds (q.atoms.getD j noAt) = 0) → (VL q.atoms q.atoms.length).length ≤ 6 → (∀ i, i < q.head.length → headBad q i = false) → checkP ds q = (0, 0)) := hid (fun hb h4 hh => checkP_ok HDB'.out HSB'.out h7' hb h4 hh)
  have HCB : Hid (∀ i, headBad q i = (!hasT (VL q.atoms q.atoms.length) (q.head.getD i noTx) || hasT (q.head.take i) (q.head.getD i noTx))) := hid (fun i => rfl)
  clear HDB HSB HDB' HSB' h7
  obtain ⟨ax, kx, ee, hca⟩ := HQ.out.atoms
  simp only [Value.slice.injEq] at ee
  obtain ⟨rfl, -, -⟩ := ee
  have HCA := hid hca
  obtain ⟨ay, ky, ee, hcd⟩ := HD.out
  simp only [Value.slice.injEq] at ee
  obtain ⟨rfl, -, -⟩ := ee
  have HCD := hid hcd
  obtain ⟨az, kz, ee, hch⟩ := HQ.out.head
  simp only [Value.slice.injEq] at ee
  obtain ⟨rfl, -, -⟩ := ee
  have HCH := hid hch
  clear hca hcd hch
  obtain ⟨an, han⟩ : ∃ n, n = q.atoms.length := ⟨_, rfl⟩
  obtain ⟨hn, hhn⟩ : ∃ n, n = q.head.length := ⟨_, rfl⟩
  obtain ⟨dn, hdn⟩ : ∃ n, n = ds.length := ⟨_, rfl⟩
  obtain ⟨VV, hVV⟩ : ∃ V, V = VL q.atoms q.atoms.length := ⟨_, rfl⟩
  have hvl : VV.length ≤ 7340032 := by
    have := VL_len q.atoms (fun j hj => (HOQ.out.atoms j hj).len) q.atoms.length (Nat.le_refl _)
    rw [hVV]; omega
  rw [← hVV] at KV HPV HPH HPO HCB
  rw [← han, ← hhn] at KV
  rw [← han] at HPA HPV HPH HPO HCA hal h7' i1 x3 q3
  rw [← hhn] at HPH HPO HCH hhl q1
  rw [← hdn] at KL HCD d0 hdl
  have HDN := hid hdn
  have HHN := hid hhn
  clear hVV han hhn hdn
  go_wp2_with fail
  clear x3
  go_loopw [24] (fun t wr => ∃ i : Nat, i ≤ an ∧ t = .int .i64 i ∧ Hid (Below W0.heap.size W0 wr ∧ ∀ p, p < i → atomCode ds (q.atoms.getD p noAt) = 0)) (fun t _ => an - (intOf t).toNat)
  case atStart => exact ⟨0, Nat.zero_le _, rfl, hid ⟨HB2.out, fun p hp => by omega⟩⟩
  case round =>
    clear HB2
    obtain ⟨i, hin, rfl, HH⟩ := hrel
    by_cases hlt : i < an
    · have i2 : (i : Int) < (an : Int) := by omega
      rcases HCA.out with h0 | ⟨b, o, rfl, hat⟩
      · omega
      · obtain ⟨u, g0, g1, hit⟩ := hat i hlt
        obtain ⟨ua, uc, eu, -⟩ := hit
        subst eu
        have e0 := bcl' HH.out.1 g0
        have e1 := bcl' HH.out.1 g1
        have HPI := hid (HPA.out i hlt HH.out.2)
        have HNX : Hid (atomCode ds (q.atoms.getD i noAt) = 0 → ∀ p, p < i + 1 → atomCode ds (q.atoms.getD p noAt) = 0) := hid (fun h p hp => by
          by_cases e : p = i
          · rw [e]; exact h
          · exact HH.out.2 p (by omega))
        have HNO : Hid (RelIx ds (q.atoms.getD i noAt).1 (-1) → atomCode ds (q.atoms.getD i noAt) = 4) := hid RelIx.code_no
        have HYE : Hid (∀ j : Nat, RelIx ds (q.atoms.getD i noAt).1 (j : Int) → j < dn ∧ atomCode ds (q.atoms.getD i noAt) = if (ds.getD j noRel).ar = ((q.atoms.getD i noAt).2.length : Int) then 0 else 5) := hid (fun j h => by rw [HDN.out]; exact RelIx.code_yes h)
        have HW : Hid (Below W0.heap.size W0 (wr.alloc (.cells #[.string (q.atoms.getD i noAt).1, .slice ua (q.atoms.getD i noAt).2.length uc] 56))) := hid (HH.out.1.alloc HH.out.1.size _)
        have f1 : (wr.alloc (.cells #[.string (q.atoms.getD i noAt).1, .slice ua (q.atoms.getD i noAt).2.length uc] 56)).cell? ⟨wr.heap.size, 0, none⟩ = some (.string (q.atoms.getD i noAt).1) := by rw [World.cell?_alloc_at _ _ _ _ rfl]; rfl
        have f2 : (wr.alloc (.cells #[.string (q.atoms.getD i noAt).1, .slice ua (q.atoms.getD i noAt).2.length uc] 56)).cell? ⟨wr.heap.size, 1, none⟩ = some (.slice ua (q.atoms.getD i noAt).2.length uc) := by rw [World.cell?_alloc_at _ _ _ _ rfl]; rfl
        have dd := bcl' HW.out d0
        clear hat g0 g1 HH HPA
        generalize atomCode ds (q.atoms.getD i noAt) = ac at *
        generalize q.atoms.getD i noAt = at1 at *
        generalize at1.2.length = tn at *
        generalize at1.1 = nm at *
        go_upto_region 10 with fail
        clear e0 e1
        generalize wr.alloc (.cells #[.string nm, .slice ua tn uc] 56) = Wr at *
        generalize wr.heap.size = B3 at *
        go_wp2_with fail
        refine (KL.out Wr nm HW.out).mono ?_
        rintro e w3 ⟨z, rfl, hz, hb3⟩
        have HB3 := hid (bt HW.out hb3)
        have f2' := bcl' hb3 f2
        clear f1 f2 dd hb3 HW
        by_cases hz0 : z < 0
        · obtain rfl : z = -1 := by
            rcases hz with ⟨e, -⟩ | ⟨j, e, -⟩
            · exact e
            · omega
          have hc := HNO.out hz
          subst hc
          have HR := hid (HPI.out (by decide))
          clear HPI HNX HNO HYE hz
          go_wp2_with fail
          go_ret2
          exact ⟨by rw [HR.out]; rfl, bt HBW.out HB3.out⟩
        · obtain ⟨j, rfl⟩ : ∃ j : Nat, z = j := ⟨z.toNat, by omega⟩
          obtain ⟨hjd, hc⟩ := HYE.out j hz
          have i3 : (j : Int) < (dn : Int) := by omega
          rcases HCD.out with h0 | ⟨b', o', rfl, hre⟩
          · omega
          · obtain ⟨vr, vw, -, g1, -⟩ := hre j hjd
            have r1 := bcl' HB3.out g1
            have dd := bcl' HB3.out d0
            clear hre g1 HNO HYE hz
            generalize (ds.getD j noRel).ar = ar at *
            by_cases hart : ar = (tn : Int)
            · subst hart
              rw [if_pos rfl] at hc
              have HN := hid (HNX.out hc)
              clear HNX HPI hc
              go_wp2_with fail
              go_quiet (fail)
              go_wp2_with fail
              go_roundw
              case rel => exact ⟨i + 1, by omega, by go_num, hid ⟨below_drewN HB3.out _, HN.out⟩⟩
              case measure => simp [intOf]; omega
            · rw [if_neg hart] at hc
              subst hc
              have HR := hid (HPI.out (by decide))
              clear HNX HPI
              go_wp2_with fail
              go_quiet (fail)
              go_wp2_with fail
              go_ret2
              exact ⟨by rw [HR.out]; rfl, below_drewN (bt HBW.out HB3.out) _⟩
    · obtain rfl : i = an := by omega
      have i2 : ¬ ((i : Int) < (i : Int)) := by omega
      have HB4 := hid HH.out.1
      have HPV2 := hid (HPV.out HH.out.2)
      have HPH2 := hid (HPH.out HH.out.2)
      have HPO2 := hid (HPO.out HH.out.2)
      clear HH HPV HPH HPO HPA HCA HCD KL
      generalize wr = w4 at *
      have x0 := bcl' HB4.out q0
      have x1 := bcl' HB4.out q1
      have x2 := bcl' HB4.out q2
      have x3 := bcl' HB4.out q3
      go_wp2_with fail
      refine (KV.out w4 HB4.out).mono ?_
      rintro e w5 ⟨vv, rfl, hv, hb5⟩
      have HB5 := hid (bt HB4.out hb5)
      obtain ⟨pa, pc, ev, -⟩ := own_st hv
      subst ev
      clear x0 x1 x2 x3 hb5 hv HB4
      by_cases h6 : 6 < VV.length
      · have i3 : (6 : Int) < (VV.length : Int) := by omega
        have HR := hid (HPV2.out h6)
        go_wp2_with fail
        go_ret2
        exact ⟨by rw [HR.out]; rfl, bt HBW.out HB5.out⟩
      have i3 : ¬ ((6 : Int) < (VV.length : Int)) := by omega
      have HPH3 := hid (HPH2.out (by omega))
      have HPO3 := hid (HPO2.out (by omega))
      have y1 := bcl' HB5.out q1
      clear HPV2 HPH2 HPO2
      go_wp2_with fail
      clear y1
      go_loopw [55] (fun t wr => ∃ j : Nat, j ≤ hn ∧ t = .int .i64 j ∧ Hid (Below W0.heap.size W0 wr ∧ ∀ p, p < j → headBad q p = false)) (fun t _ => hn - (intOf t).toNat)
      case atStart => exact ⟨0, Nat.zero_le _, rfl, hid ⟨HB5.out, fun p hp => by omega⟩⟩
      case round =>
        clear HB5
        obtain ⟨j, hjn, rfl, HH⟩ := hrel
        by_cases hlt : j < hn
        · have i4 : (j : Int) < (hn : Int) := by omega
          rcases HCH.out with h0 | ⟨b, o, rfl, hcell⟩
          · omega
          · have g0 := bcl' HH.out.1 (hcell j hlt)
            have x0 := bcl' HH.out.1 q0
            have x1 := bcl' HH.out.1 q1
            have x2 := bcl' HH.out.1 q2
            have x3 := bcl' HH.out.1 q3
            have HPJ := hid (HPH3.out j hlt HH.out.2)
            have HNX : Hid (headBad q j = false → ∀ p, p < j + 1 → headBad q p = false) := hid (fun h p hp => by
              by_cases e : p = j
              · rw [e]; exact h
              · exact HH.out.2 p (by omega))
            have HB := hid HH.out.1
            have HC := hid (HCB.out j)
            have HBE : Hid (∀ z, TxIx q.head (q.head.getD j noTx) z → decide (z < (j : Int)) = hasT (q.head.take j) (q.head.getD j noTx)) := hid (fun z hz => hz.before (by rw [← HHN.out]; exact hlt) (by simp))
            have KP : Hid (∀ W, Below W0.heap.size W0 W → Calls Tryz.prog 48 #[.slice (some ⟨b, o, none⟩) hn k1, .string (q.head.getD j noTx)] W fun e w' => ∃ z : Int, e = .returned (.int .i64 z) ∧ w' = W ∧ TxIx q.head (q.head.getD j noTx) z) := hid (fun W hb => by rw [HHN.out]; exact l3PlaceIx_calls W _ q.head _ (HQ.out.head.below hb) (by have := HOQ.out.len; omega))
            clear hcell HH
            generalize hasT (q.head.take j) (q.head.getD j noTx) = b2 at *
            generalize headBad q j = hbad at *
            generalize q.head.getD j noTx = s at *
            go_wp2_with fail
            refine (KV.out wr HB.out).mono ?_
            rintro e w6 ⟨vv, rfl, hv, hb6⟩
            have HB6 := hid (bt HB.out hb6)
            have x1' := bcl' HB6.out q1
            have HI6 := hid (own_st hv)
            clear x0 x1 x2 x3 g0 hv hb6 HB
            go_wp2_with fail
            refine (l3PlaceIx_calls w6 _ VV s HI6.out (by omega)).mono ?_
            rintro e w7 ⟨z, rfl, hw7, hz⟩
            subst w7
            have hzh := hz.has
            rw [← hzh] at HC
            clear hzh hz HI6
            by_cases hz0 : z < 0
            · rw [decide_eq_true hz0] at HC
              have HR := hid (HPJ.out (by rw [HC.out]; rfl))
              clear HPJ HNX HC KP HBE
              go_wp2_with fail
              go_ret2
              exact ⟨by rw [HR.out]; rfl, bt HBW.out HB6.out⟩
            · rw [decide_eq_false hz0, Bool.false_or] at HC
              go_wp2_with fail
              refine (KP.out w6 HB6.out).mono ?_
              rintro e w8 ⟨y, rfl, hw8, hy⟩
              subst w8
              have hyj := HBE.out y hy
              rw [← hyj] at HC
              clear hyj hy KP HBE
              by_cases hyl : y < (j : Int)
              · rw [decide_eq_true hyl] at HC
                have HR := hid (HPJ.out HC.out)
                clear HPJ HNX HC
                go_wp2_with fail
                go_ret2
                exact ⟨by rw [HR.out]; rfl, bt HBW.out HB6.out⟩
              · rw [decide_eq_false hyl] at HC
                have HN := hid (HNX.out HC.out)
                clear HPJ HNX HC
                go_wp2_with fail
                go_roundw
                case rel => exact ⟨j + 1, by omega, by go_num, hid ⟨HB6.out, HN.out⟩⟩
                case measure => simp [intOf]; omega
        · obtain rfl : j = hn := by omega
          have i4 : ¬ ((j : Int) < (j : Int)) := by omega
          have HR := hid (HPO3.out HH.out.2)
          have HB := hid HH.out.1
          clear HH
          go_wp2_with fail
          go_ret2
          exact ⟨by rw [HR.out]; rfl, bt HBW.out HB.out⟩

end Go.Proofs.YtegcpplkcahkhaaGreat
