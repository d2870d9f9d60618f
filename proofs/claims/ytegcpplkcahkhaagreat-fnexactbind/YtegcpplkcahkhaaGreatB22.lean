import Derived.Test.YtegcpplkcahkhaaGreatB21
/-
  spec.l3ShapeOK, walked.
-/
namespace Go.Proofs.YtegcpplkcahkhaaGreat
open Go.RowKit

set_option maxHeartbeats 20000000 in
set_option maxRecDepth 1000000 in
theorem l3ShapeOK_calls (w : World) (vh va : Value) (q : QV) (h : IQ w vh va q) (hq : OkQ q) :
    Calls Tryz.prog 47 #[.agg #[.string q.name, vh, .int .i64 q.ring, va]] w fun e w' => e = .returned (.bool (shapeB q)) ∧ Below w.heap.size w w' := by
  have hal := hq.alen
  have hhl := hq.len
  have HQ := hid hq
  have K1 : Hid (∀ W, Calls Tryz.prog 73 #[.string q.name] W fun e w' => e = .returned (.bool (nameB q.name)) ∧ w' = W) := hid (fun W => l2Name_calls W q.name (by have := hq.name; omega))
  have KB : Hid (∀ W, Calls Tryz.prog 74 #[.int .i64 q.ring, .int .i64 0, .int .i64 3] W fun e w' => e = .returned (.bool (decide (0 ≤ q.ring) && decide (q.ring ≤ 3))) ∧ w' = W) := hid (fun W => between_calls W q.ring 0 3)
  have HI := hid h
  obtain ⟨a1, k1, e1, -⟩ := h.head
  obtain ⟨a2, k2, e2, -⟩ := h.atoms
  subst e1 e2
  clear h hq
  obtain ⟨W1, hW1⟩ : ∃ W, W = w.alloc (.cells #[.string q.name, .slice a1 q.head.length k1, .int .i64 q.ring, .slice a2 q.atoms.length k2] 39) := ⟨_, rfl⟩
  have c0 : W1.cell? ⟨w.heap.size, 0, none⟩ = some (.string q.name) := by rw [hW1, World.cell?_alloc_at _ _ _ _ rfl]; rfl
  have c1 : W1.cell? ⟨w.heap.size, 1, none⟩ = some (.slice a1 q.head.length k1) := by rw [hW1, World.cell?_alloc_at _ _ _ _ rfl]; rfl
  have c2 : W1.cell? ⟨w.heap.size, 2, none⟩ = some (.int .i64 q.ring) := by rw [hW1, World.cell?_alloc_at _ _ _ _ rfl]; rfl
  have c3 : W1.cell? ⟨w.heap.size, 3, none⟩ = some (.slice a2 q.atoms.length k2) := by rw [hW1, World.cell?_alloc_at _ _ _ _ rfl]; rfl
  have HB1 : Hid (Below w.heap.size w W1) := hid (by rw [hW1]; exact (Below.refl _ _).alloc (Nat.le_refl _) _)
  have hs1 : w.heap.size < W1.heap.size := by rw [hW1]; simp
  obtain ⟨a1', k1', ee, hch⟩ := HI.out.head.below HB1.out
  simp only [Value.slice.injEq] at ee
  obtain ⟨rfl, -, -⟩ := ee
  obtain ⟨a2', k2', ee, hca⟩ := HI.out.atoms.below HB1.out
  simp only [Value.slice.injEq] at ee
  obtain ⟨rfl, -, -⟩ := ee
  have HCH := hid hch
  have HCA := hid hca
  have HSB : Hid (shapeB q = (nameB q.name && (decide (0 ≤ q.ring) && decide (q.ring ≤ 3)) && decide (1 ≤ q.atoms.length) && q.head.all nameB && q.atoms.all atomB)) := hid (by unfold shapeB; rw [Bool.and_assoc (nameB q.name)])
  clear hch hca HI
  generalize nameB q.name = b1 at *
  generalize (decide (0 ≤ q.ring) && decide (q.ring ≤ 3)) = b2 at *
  generalize q.name = nm at *
  generalize q.ring = rg at *
  go_enter Tryz.func47, Tryz.ntmps47
  go_upto_region 1 with fail
  rw [← hW1]
  clear hW1
  cases b1
  case false =>
    have HR : Hid (shapeB q = false) := hid (by rw [HSB.out]; simp)
    go_wp2_with (first | (go_at_call 73; refine (K1.out _).mono ?_; rintro e w' ⟨rfl, hw'⟩; subst w') | fail)
    go_ret
    exact ⟨ret_bool HR.out.symm, HB1.out⟩
  cases b2
  case false =>
    have HR : Hid (shapeB q = false) := hid (by rw [HSB.out]; simp)
    go_wp2_with (first | (go_at_call 73; refine (K1.out _).mono ?_; rintro e w' ⟨rfl, hw'⟩; subst w') | (go_at_call 74; refine (KB.out _).mono ?_; rintro e w' ⟨rfl, hw'⟩; subst w') | fail)
    go_ret
    exact ⟨ret_bool HR.out.symm, HB1.out⟩
  by_cases h1 : q.atoms.length < 1
  · have i1 : (q.atoms.length : Int) < 1 := by omega
    have HR : Hid (shapeB q = false) := hid (by rw [HSB.out, decide_eq_false (show ¬ 1 ≤ q.atoms.length by omega)]; simp)
    go_wp2_with (first | (go_at_call 73; refine (K1.out _).mono ?_; rintro e w' ⟨rfl, hw'⟩; subst w') | (go_at_call 74; refine (KB.out _).mono ?_; rintro e w' ⟨rfl, hw'⟩; subst w') | fail)
    go_ret
    exact ⟨ret_bool HR.out.symm, HB1.out⟩
  have i1 : ¬ ((q.atoms.length : Int) < 1) := by omega
  have HSB2 : Hid (q.head.all nameB = true → q.atoms.all atomB = true → shapeB q = true) := hid (fun h1' h2' => by rw [HSB.out, decide_eq_true (show 1 ≤ q.atoms.length by omega), h1', h2']; rfl)
  have HSH : Hid (∀ j, j < q.head.length → nameB (q.head.getD j noTx) = false → shapeB q = false) := hid (fun j hj h => shape_head hj h)
  have HSA : Hid (∀ j, j < q.atoms.length → atomB (q.atoms.getD j noAt) = false → shapeB q = false) := hid (fun j hj h => shape_atom hj h)
  have HNH : Hid (∀ j, j < q.head.length → (q.head.getD j noTx).size ≤ 9223372036854775807) := hid (fun j hj => by have := HQ.out.head j hj; omega)
  have HNA : Hid (∀ j, j < q.atoms.length → OkAt (q.atoms.getD j noAt)) := hid HQ.out.atoms
  clear HSB HQ
  generalize q.head = hd at *
  generalize q.atoms = ats at *
  obtain ⟨nh, hnh⟩ : ∃ n, n = hd.length := ⟨_, rfl⟩
  obtain ⟨na, hna⟩ : ∃ n, n = ats.length := ⟨_, rfl⟩
  have HNHD := hid hnh
  have HNAT := hid hna
  rw [← hnh] at HCH HSH HNH c1 hhl
  rw [← hna] at HCA HSA HNA c3 hal h1 i1
  clear hnh hna
  go_upto_region 3 with (first | (go_at_call 73; refine (K1.out _).mono ?_; rintro e w' ⟨rfl, hw'⟩; subst w') | (go_at_call 74; refine (KB.out _).mono ?_; rintro e w' ⟨rfl, hw'⟩; subst w') | fail)
  clear K1 KB
  go_wp2_with fail
  go_loopw [28] (fun t wr => ∃ j : Nat, j ≤ nh ∧ t = .int .i64 j ∧ wr = W1 ∧ Hid (∀ i, i < j → nameB (hd.getD i noTx) = true)) (fun t _ => nh - (intOf t).toNat)
  case atStart => exact ⟨0, Nat.zero_le _, rfl, rfl, hid (fun i hi => by omega)⟩
  case round =>
    obtain ⟨j, hj, rfl, hw, HH⟩ := hrel
    subst hw
    by_cases hjn : j < nh
    · have i2 : (j : Int) < (nh : Int) := by omega
      rcases HCH.out with h0 | ⟨b, o, rfl, hcell⟩
      · omega
      · have d1 := hcell j hjn
        have K := hid (l2Name_calls wr (hd.getD j noTx) (HNH.out j hjn))
        have HF := hid (HSH.out j hjn)
        have HT : Hid (nameB (hd.getD j noTx) = true → ∀ i, i < j + 1 → nameB (hd.getD i noTx) = true) := hid (fun h i hi => by
          by_cases e : i = j
          · rw [e]; exact h
          · exact HH.out i (by omega))
        clear hcell
        generalize nameB (hd.getD j noTx) = bx at *
        generalize hd.getD j noTx = x at *
        cases bx
        · have HR := hid (HF.out rfl)
          go_wp2_with (first | (go_at_call 73; refine K.out.mono ?_; rintro e w' ⟨rfl, hw'⟩; subst w') | fail)
          go_ret
          exact ⟨ret_bool HR.out.symm, HB1.out⟩
        · have HT2 := hid (HT.out rfl)
          go_wp2_with (first | (go_at_call 73; refine K.out.mono ?_; rintro e w' ⟨rfl, hw'⟩; subst w') | fail)
          go_roundw
          case rel => exact ⟨j + 1, by omega, by go_num, by trivial, HT2⟩
          case measure => simp [intOf]; omega
    · obtain rfl : j = nh := by omega
      have i2 : ¬ ((j : Int) < (j : Int)) := by omega
      have HHD : Hid (hd.all nameB = true) := hid (all_get nameB noTx hd (fun i hi => HH.out i (by rw [HNHD.out]; exact hi)))
      have HSB3 : Hid (ats.all atomB = true → shapeB q = true) := hid (HSB2.out HHD.out)
      clear HH HSB2 HHD HCH HSH HNH
      go_wp2_with fail
      clear c0 c1 c2 c3
      generalize wr = W1 at *
      go_loopw [39] (fun t wr => ∃ i : Nat, i ≤ na ∧ t = .int .i64 i ∧ Hid (Below W1.heap.size W1 wr ∧ ∀ p, p < i → atomB (ats.getD p noAt) = true)) (fun t _ => na - (intOf t).toNat)
      case atStart => exact ⟨0, Nat.zero_le _, rfl, hid ⟨Below.refl _ _, fun p hp => by omega⟩⟩
      case round =>
        obtain ⟨i, hin, rfl, HH⟩ := hrel
        by_cases hlt : i < na
        · have i3 : (i : Int) < (na : Int) := by omega
          rcases HCA.out with h0 | ⟨b, o, rfl, hrel⟩
          · omega
          · obtain ⟨u, d0, d1, hit⟩ := hrel i hlt
            have e0 := bcl' HH.out.1 d0
            have e1 := bcl' HH.out.1 d1
            obtain ⟨ua, uc, eu, hterm⟩ := hit
            subst eu
            have hok := HNA.out i hlt
            have HF := hid (HSA.out i hlt)
            have HTR : Hid (atomB (ats.getD i noAt) = true → ∀ p, p < i + 1 → atomB (ats.getD p noAt) = true) := hid (fun h p hp => by
              by_cases e : p = i
              · rw [e]; exact h
              · exact HH.out.2 p (by omega))
            have hm := hok.len
            have HBW : Hid (Below w.heap.size w wr) := hid (bt HB1.out HH.out.1)
            have HOK := hid hok
            have HTM := hid hterm
            have K : Hid (∀ W, Calls Tryz.prog 73 #[.string (ats.getD i noAt).1] W fun e w' => e = .returned (.bool (nameB (ats.getD i noAt).1)) ∧ w' = W) := hid (fun W => l2Name_calls W _ (by have := hok.rel; omega))
            have HAB : Hid (atomB (ats.getD i noAt) = (nameB (ats.getD i noAt).1 && decide (1 ≤ (ats.getD i noAt).2.length) && (ats.getD i noAt).2.all termB)) := hid rfl
            have HTF : Hid (∀ j, j < (ats.getD i noAt).2.length → termB ((ats.getD i noAt).2.getD j noTm) = false → atomB (ats.getD i noAt) = false) := hid (fun j hj h => atom_term hj h)
            clear hrel d0 d1 hterm hok
            generalize atomB (ats.getD i noAt) = AB at *
            generalize ats.getD i noAt = at1 at *
            generalize nameB at1.1 = bn at *
            generalize wr = Wr at *
            obtain ⟨m, hm'⟩ : ∃ m, m = at1.2.length := ⟨_, rfl⟩
            have HM := hid hm'
            rw [← hm'] at HTM HTF HAB e1 hm
            clear hm'
            cases bn
            case false =>
              have HR := hid (HF.out (by rw [HAB.out]; rfl))
              go_wp2_with (first | (go_at_call 73; refine (K.out _).mono ?_; rintro e w' ⟨rfl, hw'⟩; subst w') | fail)
              go_ret
              exact ⟨ret_bool HR.out.symm, bt HBW.out ((Below.refl _ _).alloc (Nat.le_refl _) _)⟩
            by_cases hm1 : m < 1
            · have i4 : (m : Int) < 1 := by omega
              have HR := hid (HF.out (by rw [HAB.out, decide_eq_false (show ¬ 1 ≤ m by omega)]; rfl))
              go_wp2_with (first | (go_at_call 73; refine (K.out _).mono ?_; rintro e w' ⟨rfl, hw'⟩; subst w') | fail)
              go_ret
              exact ⟨ret_bool HR.out.symm, bt HBW.out ((Below.refl _ _).alloc (Nat.le_refl _) _)⟩
            · have i4 : ¬ ((m : Int) < 1) := by omega
              have HAB2 : Hid (at1.2.all termB = true → AB = true) := hid (fun h => by rw [HAB.out, h, decide_eq_true (show 1 ≤ m by omega)]; rfl)
              go_upto_region 14 with (first | (go_at_call 73; refine (K.out _).mono ?_; rintro e w' ⟨rfl, hw'⟩; subst w') | fail)
              have HW : Hid (Below W1.heap.size W1 (Wr.alloc (.cells #[.string at1.1, .slice ua m uc] 56))) := hid (HH.out.1.alloc HH.out.1.size _)
              have f1 : (Wr.alloc (.cells #[.string at1.1, .slice ua m uc] 56)).cell? ⟨Wr.heap.size, 1, none⟩ = some (.slice ua m uc) := by rw [World.cell?_alloc_at _ _ _ _ rfl]; rfl
              clear e0 e1 K HBW HAB
              generalize Wr.alloc (.cells #[.string at1.1, .slice ua m uc] 56) = Ws at *
              go_wp2_with fail
              clear f1
              go_loopw [56] (fun t wr => ∃ p : Nat, p ≤ m ∧ t = .int .i64 p ∧ Hid (Below W1.heap.size W1 wr ∧ ∀ i, i < p → termB (at1.2.getD i noTm) = true)) (fun t _ => m - (intOf t).toNat)
              case atStart => exact ⟨0, Nat.zero_le _, rfl, hid ⟨HW.out, fun i hi => by omega⟩⟩
              case round =>
                clear HW
                obtain ⟨p, hpm, rfl, HG⟩ := hrel
                by_cases hlp : p < m
                · have i5 : (p : Int) < (m : Int) := by omega
                  rcases HTM.out with h0 | ⟨tb, to, rfl, hts⟩
                  · omega
                  · obtain ⟨g0', g1'⟩ := hts p hlp
                    have g0 := bcl' HG.out.1 g0'
                    have g1 := bcl' HG.out.1 g1'
                    have HTE : Hid (termB (at1.2.getD p noTm) = (if (at1.2.getD p noTm).1.toList.isEmpty then decide (0 ≤ (at1.2.getD p noTm).2) && decide ((at1.2.getD p noTm).2 ≤ 1000000) else nameB (at1.2.getD p noTm).1 && decide ((at1.2.getD p noTm).2 = 0))) := hid rfl
                    have HTT : Hid (termB (at1.2.getD p noTm) = true → ∀ i, i < p + 1 → termB (at1.2.getD i noTm) = true) := hid (fun h i hi => by
                      by_cases e : i = p
                      · rw [e]; exact h
                      · exact HG.out.2 i (by omega))
                    have HFF : Hid (termB (at1.2.getD p noTm) = false → shapeB q = false) := hid (fun h => HF.out (HTF.out p hlp h))
                    have KN : Hid (∀ W, Calls Tryz.prog 73 #[.string (at1.2.getD p noTm).1] W fun e w' => e = .returned (.bool (nameB (at1.2.getD p noTm).1)) ∧ w' = W) := hid (fun W => l2Name_calls W _ (by have := HOK.out.tx p (by rw [← HM.out]; exact hlp); omega))
                    have KB : Hid (∀ W, Calls Tryz.prog 74 #[.int .i64 (at1.2.getD p noTm).2, .int .i64 0, .int .i64 1000000] W fun e w' => e = .returned (.bool (decide (0 ≤ (at1.2.getD p noTm).2) && decide ((at1.2.getD p noTm).2 ≤ 1000000))) ∧ w' = W) := hid (fun W => between_calls W _ 0 1000000)
                    have HBW := hid (bt HB1.out HG.out.1)
                    have hsz := HG.out.1.size
                    clear hts g0' g1'
                    generalize termB (at1.2.getD p noTm) = TB at *
                    generalize at1.2.getD p noTm = t at *
                    generalize nameB t.1 = bn at *
                    generalize t.1 = x at *
                    generalize t.2 = y at *
                    cases hem : x.toList.isEmpty
                    · have hem2 : (!x.toList.isEmpty) = true := by rw [hem]; rfl
                      rw [hem, if_neg (by decide)] at HTE
                      cases bn
                      · have HR := hid (HFF.out (by rw [HTE.out]; rfl))
                        go_wp2_with (first | (go_at_call 73; refine (KN.out _).mono ?_; rintro e w' ⟨rfl, hw'⟩; subst w') | fail)
                        go_ret
                        exact ⟨ret_bool HR.out.symm, bt HBW.out ((Below.refl _ _).alloc (Nat.le_refl _) _)⟩
                      · by_cases hy : y = 0
                        · subst hy
                          have HTT2 := hid (HTT.out (by rw [HTE.out]; rfl))
                          go_wp2_with (first | (go_at_call 73; refine (KN.out _).mono ?_; rintro e w' ⟨rfl, hw'⟩; subst w') | (go_at_call 74; refine (KB.out _).mono ?_; rintro e w' ⟨rfl, hw'⟩; subst w') | fail)
                          go_roundw
                          case rel => exact ⟨p + 1, by omega, by go_num, hid ⟨HG.out.1.alloc hsz _, HTT2.out⟩⟩
                          case measure => simp [intOf]; omega
                        · have HR := hid (HFF.out (by rw [HTE.out, decide_eq_false hy]; rfl))
                          have hy2 : (y != 0) = true := by simpa using hy
                          go_wp2_with (first | (go_at_call 73; refine (KN.out _).mono ?_; rintro e w' ⟨rfl, hw'⟩; subst w') | fail)
                          go_ret
                          exact ⟨ret_bool HR.out.symm, bt HBW.out ((Below.refl _ _).alloc (Nat.le_refl _) _)⟩
                    · have hem2 : (!x.toList.isEmpty) = false := by rw [hem]; rfl
                      rw [hem, if_pos rfl] at HTE
                      generalize (decide (0 ≤ y) && decide (y ≤ 1000000)) = bb at *
                      cases bb
                      · have HR := hid (HFF.out HTE.out)
                        go_wp2_with (first | (go_at_call 74; refine (KB.out _).mono ?_; rintro e w' ⟨rfl, hw'⟩; subst w') | fail)
                        go_ret
                        exact ⟨ret_bool HR.out.symm, bt HBW.out ((Below.refl _ _).alloc (Nat.le_refl _) _)⟩
                      · have HTT2 := hid (HTT.out HTE.out)
                        go_wp2_with (first | (go_at_call 74; refine (KB.out _).mono ?_; rintro e w' ⟨rfl, hw'⟩; subst w') | fail)
                        go_roundw
                        case rel => exact ⟨p + 1, by omega, by go_num, hid ⟨HG.out.1.alloc hsz _, HTT2.out⟩⟩
                        case measure => simp [intOf]; omega
                · obtain rfl : p = m := by omega
                  have i5 : ¬ ((p : Int) < (p : Int)) := by omega
                  have HTR2 := hid (HTR.out (HAB2.out (all_get termB noTm at1.2 (fun j hj => HG.out.2 j (by rw [HM.out]; exact hj)))))
                  go_wp2
                  go_roundw
                  case rel => exact ⟨i + 1, by omega, by go_num, hid ⟨HG.out.1, HTR2.out⟩⟩
                  case measure => simp [intOf]; omega
        · obtain rfl : i = na := by omega
          have i3 : ¬ ((i : Int) < (i : Int)) := by omega
          have HR : Hid (shapeB q = true) := hid (HSB3.out (all_get atomB noAt ats (fun p hp => HH.out.2 p (by rw [HNAT.out]; exact hp))))
          go_wp2
          go_ret
          exact ⟨ret_bool HR.out.symm, bt HB1.out HH.out.1⟩

end Go.Proofs.YtegcpplkcahkhaaGreat
