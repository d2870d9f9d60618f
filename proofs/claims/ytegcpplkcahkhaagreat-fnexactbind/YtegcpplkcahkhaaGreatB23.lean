import Derived.Test.YtegcpplkcahkhaaGreatB22
/-
  impl.areTerms, hasGoodShape.
-/
namespace Go.Proofs.YtegcpplkcahkhaaGreat
open Go.RowKit

theorem nameB_emp {x : ByteArray} (h : x.toList.isEmpty = true) : nameB x = false := by
  by_cases h0 : x.size = 0
  · simp [nameB, h0]
  · rw [not_empty h0] at h; cases h

set_option maxHeartbeats 8000000 in
set_option maxRecDepth 1000000 in
theorem areTerms_calls (w : World) (v : Value) (l : List TermV) (h : ITm w v l) (hl : l.length ≤ 1048576) (hz : ∀ j, j < l.length → (l.getD j noTm).1.size ≤ 1048576) :
    Calls Tryz.prog 82 #[v] w fun e w' => e = .returned (.bool (l.all termB)) ∧ Below w.heap.size w w' := by
  obtain ⟨a, cap, rfl, hc⟩ := h
  have HTF : Hid (∀ j, j < l.length → termB (l.getD j noTm) = false → l.all termB = false) := hid (fun j hj h => all_miss termB noTm l hj h)
  have HTA : Hid ((∀ i, i < l.length → termB (l.getD i noTm) = true) → l.all termB = true) := hid (fun h => all_get termB noTm l h)
  obtain ⟨m, hm⟩ : ∃ n, n = l.length := ⟨_, rfl⟩
  have HC := hid hc
  have HZ := hid hz
  rw [← hm] at HC HZ HTF HTA hl ⊢
  clear hc hz hm
  go_enter Tryz.func82, Tryz.ntmps82
  go_wp2
  go_loopw [9] (fun t wr => ∃ p : Nat, p ≤ m ∧ t = .int .i64 p ∧ Hid (Below w.heap.size w wr ∧ ∀ i, i < p → termB (l.getD i noTm) = true)) (fun t _ => m - (intOf t).toNat)
  case atStart => exact ⟨0, Nat.zero_le _, rfl, hid ⟨Below.refl _ _, fun i hi => by omega⟩⟩
  case round =>
    obtain ⟨p, hpm, rfl, HG⟩ := hrel
    by_cases hlp : p < m
    · have i5 : (p : Int) < (m : Int) := by omega
      rcases HC.out with h0 | ⟨tb, to, rfl, hts⟩
      · omega
      · obtain ⟨g0', g1'⟩ := hts p hlp
        have g0 := bcl' HG.out.1 g0'
        have g1 := bcl' HG.out.1 g1'
        have HTE : Hid (termB (l.getD p noTm) = (if (l.getD p noTm).1.toList.isEmpty then decide (0 ≤ (l.getD p noTm).2) && decide ((l.getD p noTm).2 ≤ 1000000) else nameB (l.getD p noTm).1 && decide ((l.getD p noTm).2 = 0))) := hid rfl
        have HTT : Hid (termB (l.getD p noTm) = true → ∀ i, i < p + 1 → termB (l.getD i noTm) = true) := hid (fun h i hi => by
          by_cases e : i = p
          · rw [e]; exact h
          · exact HG.out.2 i (by omega))
        have HFF := hid (HTF.out p hlp)
        have HEM : Hid ((l.getD p noTm).1.toList.isEmpty = true → nameB (l.getD p noTm).1 = false) := hid (fun h => nameB_emp h)
        have KN : Hid (∀ W, Calls Tryz.prog 81 #[.string (l.getD p noTm).1] W fun e w' => e = .returned (.bool (nameB (l.getD p noTm).1)) ∧ w' = W) := hid (fun W => isName_calls W _ (by have := HZ.out p hlp; omega))
        have hsz := HG.out.1.size
        have HBW : Hid (∀ o', Below w.heap.size w (wr.alloc o')) := hid (fun o' => HG.out.1.alloc hsz o')
        clear hts g0' g1'
        generalize termB (l.getD p noTm) = TB at *
        generalize l.getD p noTm = t at *
        generalize nameB t.1 = bn at *
        generalize t.1 = x at *
        generalize t.2 = y at *
        cases hem : x.toList.isEmpty
        · rw [hem, if_neg (by decide)] at HTE
          cases bn
          · have HR := hid (HFF.out (by rw [HTE.out]; rfl))
            go_wp2_with (first | (go_at_call 81; refine (KN.out _).mono ?_; rintro e w' ⟨rfl, hw'⟩; subst w') | fail)
            go_ret
            exact ⟨ret_bool HR.out.symm, HBW.out _⟩
          · by_cases hy : y = 0
            · subst hy
              have HTT2 := hid (HTT.out (by rw [HTE.out]; rfl))
              go_wp2_with (first | (go_at_call 81; refine (KN.out _).mono ?_; rintro e w' ⟨rfl, hw'⟩; subst w') | fail)
              go_roundw
              case rel => exact ⟨p + 1, by omega, by go_num, hid ⟨HBW.out _, HTT2.out⟩⟩
              case measure => simp [intOf]; omega
            · have HR := hid (HFF.out (by rw [HTE.out, decide_eq_false hy]; rfl))
              have hy2 : (y == 0) = false := by simpa using hy
              go_wp2_with (first | (go_at_call 81; refine (KN.out _).mono ?_; rintro e w' ⟨rfl, hw'⟩; subst w') | fail)
              go_ret
              exact ⟨ret_bool HR.out.symm, HBW.out _⟩
        · rw [hem, if_pos rfl] at HTE
          obtain rfl : bn = false := HEM.out hem
          by_cases hy1 : 0 ≤ y
          · by_cases hy2 : y ≤ 1000000
            · have HTT2 := hid (HTT.out (by rw [HTE.out, decide_eq_true hy1, decide_eq_true hy2]; rfl))
              go_wp2_with (first | (go_at_call 81; refine (KN.out _).mono ?_; rintro e w' ⟨rfl, hw'⟩; subst w') | fail)
              go_roundw
              case rel => exact ⟨p + 1, by omega, by go_num, hid ⟨HBW.out _, HTT2.out⟩⟩
              case measure => simp [intOf]; omega
            · have HR := hid (HFF.out (by rw [HTE.out, decide_eq_true hy1, decide_eq_false hy2]; rfl))
              have dy : decide (y ≤ 1000000) = false := decide_eq_false hy2
              go_wp2_with (first | (go_at_call 81; refine (KN.out _).mono ?_; rintro e w' ⟨rfl, hw'⟩; subst w') | fail)
              go_ret
              exact ⟨ret_bool HR.out.symm, HBW.out _⟩
          · have HR := hid (HFF.out (by rw [HTE.out, decide_eq_false hy1]; rfl))
            go_wp2_with (first | (go_at_call 81; refine (KN.out _).mono ?_; rintro e w' ⟨rfl, hw'⟩; subst w') | fail)
            go_ret
            exact ⟨ret_bool HR.out.symm, HBW.out _⟩
    · obtain rfl : p = m := by omega
      have i5 : ¬ ((p : Int) < (p : Int)) := by omega
      have HR := hid (HTA.out HG.out.2)
      go_wp2
      go_ret
      exact ⟨ret_bool HR.out.symm, HG.out.1⟩

set_option maxHeartbeats 20000000 in
set_option maxRecDepth 1000000 in
theorem hasGoodShape_calls (w : World) (vh va : Value) (q : QV) (h : IQ w vh va q) (hq : OkQ q) :
    Calls Tryz.prog 53 #[.agg #[.string q.name, vh, .int .i64 q.ring, va]] w fun e w' => e = .returned (.bool (shapeB q)) ∧ Below w.heap.size w w' := by
  have hal := hq.alen
  have hhl := hq.len
  have HQ := hid hq
  have K1 : Hid (∀ W, Calls Tryz.prog 81 #[.string q.name] W fun e w' => e = .returned (.bool (nameB q.name)) ∧ w' = W) := hid (fun W => isName_calls W q.name (by have := hq.name; omega))
  have HI := hid h
  obtain ⟨a1, k1, e1, -⟩ := h.head
  obtain ⟨a2, k2, e2, -⟩ := h.atoms
  subst e1 e2
  clear h hq
  obtain ⟨W1, hW1⟩ : ∃ W, W = w.alloc (.cells #[.string q.name, .slice a1 q.head.length k1, .int .i64 q.ring, .slice a2 q.atoms.length k2] 39) := ⟨_, rfl⟩
  have c0 : W1.cell? ⟨w.heap.size, 0, none⟩ = some (.string q.name) := by rw [hW1, World.cell?_alloc_at _ _ _ _ rfl]; rfl
  have c1 : W1.cell? ⟨w.heap.size, 1, none⟩ = some (.slice a1 q.head.length k1) := by rw [hW1, World.cell?_alloc_at _ _ _ _ rfl]; rfl
  have c2 : W1.cell? ⟨w.heap.size, 2, none⟩ = some (.int .i64 q.ring) := by rw [hW1, World.cell?_alloc_at _ _ _ _ rfl]; rfl
  have c3 : W1.cell? ⟨w.heap.size, 3, none⟩ = some (.slice a2 q.atoms.length k2) := by rw [hW1, World.cell?_alloc_at _ _ _ _ rfl]; rfl
  have HB1 : Hid (Below w.heap.size w W1) := hid (by rw [hW1]; exact (Below.refl _ _).alloc (Nat.le_refl _) _)
  obtain ⟨a1', k1', ee, hch⟩ := HI.out.head.below HB1.out
  simp only [Value.slice.injEq] at ee
  obtain ⟨rfl, -, -⟩ := ee
  obtain ⟨a2', k2', ee, hca⟩ := HI.out.atoms.below HB1.out
  simp only [Value.slice.injEq] at ee
  obtain ⟨rfl, -, -⟩ := ee
  have HCH := hid hch
  have HCA := hid hca
  have HSB : Hid (shapeB q = (nameB q.name && decide (0 ≤ q.ring) && decide (q.ring ≤ 3) && decide (1 ≤ q.atoms.length) && q.head.all nameB && q.atoms.all atomB)) := hid rfl
  clear hch hca HI
  generalize nameB q.name = b1 at *
  generalize q.name = nm at *
  generalize q.ring = rg at *
  go_enter Tryz.func53, Tryz.ntmps53
  go_upto_region 1 with fail
  rw [← hW1]
  clear hW1
  cases b1
  case false =>
    have HR : Hid (shapeB q = false) := hid (by rw [HSB.out]; simp)
    go_wp2_with (first | (go_at_call 81; refine (K1.out _).mono ?_; rintro e w' ⟨rfl, hw'⟩; subst w') | fail)
    go_ret
    exact ⟨ret_bool HR.out.symm, HB1.out⟩
  by_cases hr1 : rg < 0
  · have HR : Hid (shapeB q = false) := hid (by rw [HSB.out, decide_eq_false (show ¬ 0 ≤ rg by omega)]; simp)
    go_wp2_with (first | (go_at_call 81; refine (K1.out _).mono ?_; rintro e w' ⟨rfl, hw'⟩; subst w') | fail)
    go_ret
    exact ⟨ret_bool HR.out.symm, HB1.out⟩
  by_cases hr2 : 3 < rg
  · have HR : Hid (shapeB q = false) := hid (by rw [HSB.out, decide_eq_false (show ¬ rg ≤ 3 by omega)]; simp)
    go_wp2_with (first | (go_at_call 81; refine (K1.out _).mono ?_; rintro e w' ⟨rfl, hw'⟩; subst w') | fail)
    go_ret
    exact ⟨ret_bool HR.out.symm, HB1.out⟩
  by_cases h1 : q.atoms.length < 1
  · have i1 : (q.atoms.length : Int) = 0 := by omega
    have i1' : ((q.atoms.length : Int) == 0) = true := by simpa using i1
    have HR : Hid (shapeB q = false) := hid (by rw [HSB.out, decide_eq_false (show ¬ 1 ≤ q.atoms.length by omega)]; simp)
    go_wp2_with (first | (go_at_call 81; refine (K1.out _).mono ?_; rintro e w' ⟨rfl, hw'⟩; subst w') | fail)
    go_ret
    exact ⟨ret_bool HR.out.symm, HB1.out⟩
  have i1 : ¬ ((q.atoms.length : Int) = 0) := by omega
  have i1' : ((q.atoms.length : Int) == 0) = false := by rw [beq_eq_false_iff_ne]; exact i1
  have HSB2 : Hid (q.head.all nameB = true → q.atoms.all atomB = true → shapeB q = true) := hid (fun h1' h2' => by rw [HSB.out, decide_eq_true (show 1 ≤ q.atoms.length by omega), decide_eq_true (show 0 ≤ rg by omega), decide_eq_true (show rg ≤ 3 by omega), h1', h2']; rfl)
  have HSH : Hid (∀ j, j < q.head.length → nameB (q.head.getD j noTx) = false → shapeB q = false) := hid (fun j hj h => shape_head hj h)
  have HSA : Hid (∀ j, j < q.atoms.length → atomB (q.atoms.getD j noAt) = false → shapeB q = false) := hid (fun j hj h => shape_atom hj h)
  have HNH : Hid (∀ j, j < q.head.length → (q.head.getD j noTx).size ≤ 9223372036854775807) := hid (fun j hj => by have := HQ.out.head j hj; omega)
  have HNA : Hid (∀ j, j < q.atoms.length → OkAt (q.atoms.getD j noAt)) := hid HQ.out.atoms
  clear HSB HQ
  generalize q.head = hd at *
  generalize q.atoms = ats at *
  obtain ⟨nh, hnh⟩ : ∃ n, n = hd.length := ⟨_, rfl⟩
  obtain ⟨na, hna⟩ : ∃ n, n = ats.length := ⟨_, rfl⟩
  have HNHD := hid hnh
  have HNAT := hid hna
  rw [← hnh] at HCH HSH HNH c1 hhl
  rw [← hna] at HCA HSA HNA c3 hal h1 i1 i1'
  clear hnh hna
  go_upto_region 3 with (first | (go_at_call 81; refine (K1.out _).mono ?_; rintro e w' ⟨rfl, hw'⟩; subst w') | fail)
  clear K1
  go_wp2_with fail
  go_loopw [30] (fun t wr => ∃ j : Nat, j ≤ nh ∧ t = .int .i64 j ∧ wr = W1 ∧ Hid (∀ i, i < j → nameB (hd.getD i noTx) = true)) (fun t _ => nh - (intOf t).toNat)
  case atStart => exact ⟨0, Nat.zero_le _, rfl, rfl, hid (fun i hi => by omega)⟩
  case round =>
    obtain ⟨j, hj, rfl, hw, HH⟩ := hrel
    subst hw
    by_cases hjn : j < nh
    · have i2 : (j : Int) < (nh : Int) := by omega
      rcases HCH.out with h0 | ⟨b, o, rfl, hcell⟩
      · omega
      · have d1 := hcell j hjn
        have K := hid (isName_calls wr (hd.getD j noTx) (HNH.out j hjn))
        have HF := hid (HSH.out j hjn)
        have HT : Hid (nameB (hd.getD j noTx) = true → ∀ i, i < j + 1 → nameB (hd.getD i noTx) = true) := hid (fun h i hi => by
          by_cases e : i = j
          · rw [e]; exact h
          · exact HH.out i (by omega))
        clear hcell
        generalize nameB (hd.getD j noTx) = bx at *
        generalize hd.getD j noTx = x at *
        cases bx
        · have HR := hid (HF.out rfl)
          go_wp2_with (first | (go_at_call 81; refine K.out.mono ?_; rintro e w' ⟨rfl, hw'⟩; subst w') | fail)
          go_ret
          exact ⟨ret_bool HR.out.symm, HB1.out⟩
        · have HT2 := hid (HT.out rfl)
          go_wp2_with (first | (go_at_call 81; refine K.out.mono ?_; rintro e w' ⟨rfl, hw'⟩; subst w') | fail)
          go_roundw
          case rel => exact ⟨j + 1, by omega, by go_num, by trivial, HT2⟩
          case measure => simp [intOf]; omega
    · obtain rfl : j = nh := by omega
      have i2 : ¬ ((j : Int) < (j : Int)) := by omega
      have HHD : Hid (hd.all nameB = true) := hid (all_get nameB noTx hd (fun i hi => HH.out i (by rw [HNHD.out]; exact hi)))
      have HSB3 : Hid (ats.all atomB = true → shapeB q = true) := hid (HSB2.out HHD.out)
      clear HH HSB2 HHD HCH HSH HNH
      go_wp2_with fail
      clear c0 c1 c2 c3
      generalize wr = W1 at *
      go_loopw [41] (fun t wr => ∃ i : Nat, i ≤ na ∧ t = .int .i64 i ∧ Hid (Below W1.heap.size W1 wr ∧ ∀ p, p < i → atomB (ats.getD p noAt) = true)) (fun t _ => na - (intOf t).toNat)
      case atStart => exact ⟨0, Nat.zero_le _, rfl, hid ⟨Below.refl _ _, fun p hp => by omega⟩⟩
      case round =>
        obtain ⟨i, hin, rfl, HH⟩ := hrel
        by_cases hlt : i < na
        · have i3 : (i : Int) < (na : Int) := by omega
          rcases HCA.out with h0 | ⟨b, o, rfl, hrel⟩
          · omega
          · obtain ⟨u, d0, d1, hit⟩ := (hrel i hlt).below HH.out.1
            have hok := HNA.out i hlt
            have KT := hid (fun (o' : Obj) => areTerms_calls (wr.alloc o') u (ats.getD i noAt).2 (hit.below ((Below.refl _ _).alloc (Nat.le_refl _) o')) hok.len hok.tx)
            obtain ⟨ua, uc, eu, -⟩ := hit
            subst eu
            have HF := hid (HSA.out i hlt)
            have HTR : Hid (atomB (ats.getD i noAt) = true → ∀ p, p < i + 1 → atomB (ats.getD p noAt) = true) := hid (fun h p hp => by
              by_cases e : p = i
              · rw [e]; exact h
              · exact HH.out.2 p (by omega))
            have hm := hok.len
            have HBW : Hid (∀ o', Below w.heap.size w (wr.alloc o')) := hid (fun o' => bt (bt HB1.out HH.out.1) ((Below.refl _ _).alloc (Nat.le_refl _) o'))
            have K : Hid (∀ W, Calls Tryz.prog 81 #[.string (ats.getD i noAt).1] W fun e w' => e = .returned (.bool (nameB (ats.getD i noAt).1)) ∧ w' = W) := hid (fun W => isName_calls W _ (by have := hok.rel; omega))
            have HAB : Hid (atomB (ats.getD i noAt) = (nameB (ats.getD i noAt).1 && decide (1 ≤ (ats.getD i noAt).2.length) && (ats.getD i noAt).2.all termB)) := hid rfl
            clear hrel hok
            generalize atomB (ats.getD i noAt) = AB at *
            generalize ats.getD i noAt = at1 at *
            generalize nameB at1.1 = bn at *
            generalize at1.2.all termB = bt1 at *
            generalize at1.2.length = m at *
            generalize at1.1 = rel at *
            cases bn
            case false =>
              have HR := hid (HF.out (by rw [HAB.out]; rfl))
              go_wp2_with (first | (go_at_call 81; refine (K.out _).mono ?_; rintro e w' ⟨rfl, hw'⟩; subst w') | fail)
              go_ret
              exact ⟨ret_bool HR.out.symm, HBW.out _⟩
            by_cases hm1 : m = 0
            · subst hm1
              have HR := hid (HF.out (by rw [HAB.out]; rfl))
              go_wp2_with (first | (go_at_call 81; refine (K.out _).mono ?_; rintro e w' ⟨rfl, hw'⟩; subst w') | fail)
              go_ret
              exact ⟨ret_bool HR.out.symm, HBW.out _⟩
            · have i4 : ¬ ((m : Int) = 0) := by omega
              have i4' : ((m : Int) == 0) = false := by simp; omega
              have HAB2 : Hid (AB = bt1) := hid (by rw [HAB.out, decide_eq_true (show 1 ≤ m by omega)]; rfl)
              have f1 : (wr.alloc (.cells #[.string rel, .slice ua m uc] 56)).cell? ⟨wr.heap.size, 1, none⟩ = some (.slice ua m uc) := by rw [World.cell?_alloc_at _ _ _ _ rfl]; rfl
              cases bt1
              · have HR := hid (HF.out HAB2.out)
                go_wp2_with (first | (go_at_call 81; refine (K.out _).mono ?_; rintro e w' ⟨rfl, hw'⟩; subst w') | (go_at_call 82; refine (KT.out _).mono ?_; rintro e w5 ⟨rfl, hb5⟩) | fail)
                go_ret
                exact ⟨ret_bool HR.out.symm, bt (HBW.out _) hb5⟩
              · have HTR2 := hid (HTR.out HAB2.out)
                go_wp2_with (first | (go_at_call 81; refine (K.out _).mono ?_; rintro e w' ⟨rfl, hw'⟩; subst w') | (go_at_call 82; refine (KT.out _).mono ?_; rintro e w5 ⟨rfl, hb5⟩) | fail)
                go_roundw
                case rel => exact ⟨i + 1, by omega, by go_num, hid ⟨bt (bt HH.out.1 ((Below.refl _ _).alloc (Nat.le_refl _) _)) hb5, HTR2.out⟩⟩
                case measure => simp [intOf]; omega
        · obtain rfl : i = na := by omega
          have i3 : ¬ ((i : Int) < (i : Int)) := by omega
          have HR : Hid (shapeB q = true) := hid (HSB3.out (all_get atomB noAt ats (fun p hp => HH.out.2 p (by rw [HNAT.out]; exact hp))))
          go_wp2
          go_ret
          exact ⟨ret_bool HR.out.symm, bt HB1.out HH.out.1⟩

end Go.Proofs.YtegcpplkcahkhaaGreat

/-
  spec.Variables.
-/
namespace Go.Proofs.YtegcpplkcahkhaaGreat
open Go.RowKit

/-- the answer -/
def varsQ (q : QV) : List ByteArray := if shapeB q then VL q.atoms q.atoms.length else []

end Go.Proofs.YtegcpplkcahkhaaGreat
