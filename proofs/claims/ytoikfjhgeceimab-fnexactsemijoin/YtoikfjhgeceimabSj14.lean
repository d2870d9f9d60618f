import Derived.Test.YtoikfjhgeceimabSj13
/-
  impl.Intersect, walked.
-/
namespace Go.Proofs.Ytoikfjhgeceimab
open Go.RowKit Meet

theorem common_no {ls : List (List Int)} (h : ¬ (1 ≤ ls.length ∧ ls.length ≤ 100 ∧ ls.all ascB = true)) : common ls = [] := if_neg h

set_option maxHeartbeats 8000000 in
set_option maxRecDepth 1000000 in
theorem inter_calls (w : World) (G : Nat) (ls : List (List Int)) (f : Nat → Nat) (h : Half w G ls.length ls.length ls f) (hG : G < w.heap.size) (ht : tot ls ls.length ≤ 1048576) (hm : ∀ k j, -9223372036854775808 ≤ (ls.getD k []).getD j 0) :
    Calls Try.prog 49 #[.slice (some ⟨G, 0, none⟩) ls.length ls.length] w fun e w' => ∃ v, e = .returned v ∧ w'.ownsRow w.heap.size 3 1 v (common ls).length ((common ls).map (Value.int .i64)) ∧ Below w.heap.size w w' := by
  obtain ⟨i0, hi, hz0, hz1, hz2⟩ := info_parts Try.infoCur
  obtain ⟨j0, hj, hy0, hy1, hy2⟩ := info_parts Try.infoInt
  have hshort := short_of_tot ht
  have hown0 : (w.alloc (.cells #[] 3)).ownsRow w.heap.size 3 1 (.slice (some ⟨w.heap.size, 0, none⟩) 0 0) 0 [] := World.ownsRow_made w #[] 0 (Nat.le_refl _) (Nat.zero_le _) rfl
  have hbel0 : Below w.heap.size w (w.alloc (.cells #[] 3)) := (Below.refl _ _).alloc (Nat.le_refl _) _
  have HO0 := hid hown0
  have HB0 := hid hbel0
  obtain ⟨n, hn⟩ : ∃ n, n = ls.length := ⟨_, rfl⟩
  obtain ⟨out, hout⟩ : ∃ o, o = common ls := ⟨_, rfl⟩
  rw [← hout]
  have K1 := hid (areAsc_calls (w.alloc (.cells #[] 3)) _ ls ((h.iss rfl).below hbel0) hshort)
  have hn7 : ls.length ≤ 1048576 := by have := tot_le ls ls.length 0 (by omega); rw [tot_zero] at this; omega
  have HH := hid h
  have HS := hid hshort
  have HM := hid hm
  have HN := hid hn
  have HE := hid hout
  rw [← hn] at HH K1 hn7 ⊢
  clear h hshort hm hown0 hbel0 hn hout
  by_cases c0 : n = 0
  · have e0 : Hid (out = []) := hid (HE.out.trans (common_no (by rw [← HN.out]; omega)))
    subst c0
    go_enter Try.func49, Try.ntmps49
    go_wp2
    go_ret
    rw [e0.out]
    exact ⟨_, rfl, HO0.out, HB0.out⟩
  by_cases c1 : 100 < n
  · have e0 : Hid (out = []) := hid (HE.out.trans (common_no (by rw [← HN.out]; omega)))
    have i1 : ¬ ((n : Int) < 1) := by omega
    have i2 : (100 : Int) < (n : Int) := by omega
    go_enter Try.func49, Try.ntmps49
    go_wp2
    go_ret
    rw [e0.out]
    exact ⟨_, rfl, HO0.out, HB0.out⟩
  have i1 : ¬ ((n : Int) < 1) := by omega
  have i2 : ¬ ((100 : Int) < (n : Int)) := by omega
  by_cases c2 : ls.all ascB = true
  case neg =>
    have e0 : Hid (out = []) := hid (HE.out.trans (common_no (fun hh => c2 hh.2.2)))
    have c3 : ls.all ascB = false := by simpa using c2
    rw [c3] at K1
    clear c2 c3
    go_enter Try.func49, Try.ntmps49
    go_wp2_with fail
    refine K1.out.mono ?_
    rintro e wA ⟨rfl, d, hwA⟩
    have HB1 : Hid (Below w.heap.size w wA) := hid (by rw [hwA]; exact below_drewN HB0.out _)
    have HO1 : Hid (wA.ownsRow w.heap.size 3 1 (.slice (some ⟨w.heap.size, 0, none⟩) 0 0) 0 []) := hid (by rw [hwA]; exact HO0.out)
    clear hwA
    go_wp2
    go_ret
    rw [e0.out]
    exact ⟨_, rfl, HO1.out, HB1.out⟩
  rw [c2] at K1
  have e0 : Hid (out = (ls.getD 0 []).filter (inAll ls)) := hid (HE.out.trans (if_pos ⟨by rw [← HN.out]; omega, by rw [← HN.out]; omega, c2⟩))
  have HA : Hid (∀ k, k < ls.length → Asc (ls.getD k [])) := hid (fun k hk => asc_of (by
    rw [List.all_eq_true] at c2
    rw [List.getD_eq_getElem?_getD, List.getElem?_eq_getElem hk]
    exact c2 _ (List.getElem_mem hk)))
  have hlen0 : (ls.getD 0 []).length ≤ 1048576 := by have := getD_le_tot ls 0; omega
  have hcell : ∀ W, Below w.heap.size w W → ∀ k, k < n → W.cell? ⟨G, k, none⟩ = some (.slice (some ⟨f k, 0, none⟩) (ls.getD k []).length (ls.getD k []).length) := fun W hW k hk => by
    have := HH.out.cell k hk
    rw [if_pos hk] at this
    exact (hW.cell (p := ⟨G, k, none⟩) hG).trans this
  have HC := hid hcell
  have hfc : ∀ W, Below w.heap.size w W → ∀ i, i < n → ∀ j, j < (ls.getD i []).length → W.cell? ⟨f i, j, none⟩ = some (.int .i64 ((ls.getD i []).getD j 0)) := fun W hW i hi j hj =>
    (hW.cell (p := ⟨f i, j, none⟩) (HH.out.own i hi).lt).trans ((HH.out.own i hi).cell j hj)
  have HFC := hid hfc
  have HFL : Hid (∀ i, i < n → f i < w.heap.size) := hid (fun i hi => (HH.out.own i hi).lt)
  clear c2 hcell hfc HE HH
  go_enter Try.func49, Try.ntmps49
  go_wp2_with fail
  refine K1.out.mono ?_
  rintro e wA ⟨rfl, d, hwA⟩
  have HB1 : Hid (Below w.heap.size w wA) := hid (by rw [hwA]; exact below_drewN HB0.out _)
  have HO1 : Hid (wA.ownsRow w.heap.size 3 1 (.slice (some ⟨w.heap.size, 0, none⟩) 0 0) 0 []) := hid (by rw [hwA]; exact HO0.out)
  have hszA := HB1.out.size
  clear hwA HO0 HB0 K1
  go_wp2_with (at_make; refine wpList_make_own _ rfl _ _ 114 rfl w.heap.size 119 i0 (.agg #[.pointer none, .int .i64 0]) 2 Try.underlying114 hi hz0 hz1 _ _ _ n rfl rfl rfl ?b2 ?b3 ?b4 ?_)
  case b2 => rw [hz2]; omega
  case b3 => unfold maxLen; omega
  case b4 => exact hszA
  intro w0 hown0 hgrow0
  have hb0 : Below w.heap.size w w0 := HB1.out.grown hgrow0 hszA (fun j hj => by cases hj)
  have HO2 := hid (own_grown HO1.out hgrow0 (fun k _ => by simp))
  have HL0 : Hid (∃ tb, Laid w0 w.heap.size (.slice (some ⟨wA.heap.size, 0, none⟩) 0 n) 0 f ls tb) := hid ⟨fun _ => 0, hown0, fun i hi => by omega⟩
  have HB2 := hid hb0
  clear hgrow0 hown0 hb0 HO1 HB1
  go_wp2
  go_loopw [4, 27] (fun v t wr => ∃ k : Nat, k ≤ n ∧ t = .int .i64 k ∧ Hid (Below w.heap.size w wr ∧ wr.ownsRow w.heap.size 3 1 (.slice (some ⟨w.heap.size, 0, none⟩) 0 0) 0 [] ∧ ∃ tb, Laid wr w.heap.size v k f ls tb)) (fun _ t _ => n - (intOf t).toNat)
  case atStart => exact ⟨0, Nat.zero_le _, rfl, hid ⟨HB2.out, HO2.out, HL0.out⟩⟩
  case round =>
    clear HB2 HO2 HL0
    obtain ⟨k, hk, rfl, hH⟩ := hrel
    obtain ⟨hnx, hoc, tb, hla⟩ := hH.out
    have hns := hnx.size
    by_cases hkn : k < n
    · have j1 : (k : Int) < (n : Int) := by omega
      have c3 := HC.out wr hnx k hkn
      have hown := hla.own
      have HLA := hid hla
      have HNX := hid hnx
      have HOC := hid hoc
      clear hH hla hnx hoc
      obtain ⟨m, hm⟩ : ∃ m, m = (ls.getD k []).length := ⟨_, rfl⟩
      rw [← hm] at c3
      have HMM := hid hm
      clear hm
      go_wp2_with (first
        | (at_builtin; refine wpList_append_own _ rfl _ _ 114 rfl w.heap.size 119 i0 (.agg #[.pointer none, .int .i64 0]) 2 16 Try.underlying114 hi hz0 hz1 hz2 rfl (by decide) _ _ _ rfl ((hown.alloc _).alloc _) ⟨wr.heap.size + 1, 0, none⟩ 1 1 [.pointer (some ⟨wr.heap.size, 0, none⟩), .int .i64 0] rfl rfl ?c1 ?c2 ?c3 ?c4 ?c5 ?_))
      case c1 =>
        intro j u hj
        match j, hj with
        | 0, hj => simp at hj; subst hj; simp [Addr.add]
        | 1, hj => simp at hj; subst hj; simp [Addr.add]
      case c2 => intro u hu; simp at hu; rcases hu with rfl | rfl <;> rfl
      case c3 => unfold maxLen; omega
      case c4 => omega
      case c5 => simp; omega
      intro v' w1 hown' hgrow _
      have hb : Below w.heap.size w w1 := own_grow2 (by simp; omega) (hown.alloc _) (HNX.out.alloc hns _) hgrow
      rw [HMM.out] at hgrow
      have hl2 : ∃ tb', Laid w1 w.heap.size v' (k + 1) f ls tb' := HLA.out.step hown' hgrow
      have hoc2 : w1.ownsRow w.heap.size 3 1 (.slice (some ⟨w.heap.size, 0, none⟩) 0 0) 0 [] := own_grown ((HOC.out.alloc _).alloc _) hgrow (fun q hq => by
        simp only [Value.ownBlock, Option.some.injEq] at hq
        subst hq
        refine own_ne hown (e' := 3) ?_ (by decide)
        rcases HOC.out.2 with ⟨h', _⟩ | ⟨g', cap', cur, h', _, hg, _⟩
        · simp at h'
        · simp only [Value.slice.injEq, Option.some.injEq, Addr.mk.injEq, and_true, true_and] at h'
          obtain ⟨rfl, rfl⟩ := h'
          exact ⟨cur, hg⟩)
      have HF := hid (And.intro hb (And.intro hoc2 hl2))
      clear hown' hgrow hown hb hl2 hoc2
      go_wp2
      go_roundw
      case rel => exact ⟨k + 1, by omega, by go_num, HF⟩
      case measure => simp [intOf]; omega
    · obtain rfl : k = n := by omega
      have j1 : ¬ ((k : Int) < (k : Int)) := by omega
      obtain ⟨c, cap, hcB, hv⟩ := hla.shape c0
      subst hv
      have HCU := hid (hla.curs HN.out hcB HFL.out (HFC.out wr hnx))
      have HNX := hid hnx
      have HOC := hid hoc
      clear hH hla hnx hoc hns
      go_wp2
      go_loopg [3] (ls.getD 0 []).length (fun g s wr => ∃ (p : Nat → Nat) (acc : List Int), (ls.getD 0 []).length - p 0 ≤ g ∧ acc.length ≤ 1048576 ∧ Hid (wr.ownsRow w.heap.size 3 1 s acc.length (acc.map (Value.int .i64)) ∧ Below w.heap.size w wr ∧ Got ls p acc ∧ Curs wr c tb f ls p))
      case atStart => exact ⟨fun _ => 0, [], by omega, by simp, hid ⟨HOC.out, HNX.out, Got.start ls, HCU.out⟩⟩
      case round =>
        clear HCU HNX HOC
        obtain ⟨p, acc, hg, hal, hH⟩ := hrel
        obtain ⟨hown, hnx, hgot, hcu⟩ := hH.out
        have K2 := hid (meet_calls wr c cap tb f ls p hcu (by rw [← HN.out]; omega) (by rw [← HN.out]; omega) HS.out.2 HA.out hgot.le HM.out)
        rw [← HN.out] at K2
        have HOW := hid hown
        have HNX := hid hnx
        have HGO := hid hgot
        have HTY := hid hcu.typ
        have hns := hnx.size
        clear hH hown hnx hgot hcu
        go_wp2_with fail
        refine K2.out.mono ?_
        rintro e w1 ⟨hog, hcase⟩
        have hown1 := own_og HOW.out hog HTY.out (by decide)
        have hnx1 : Below w.heap.size w w1 := HNX.out.trans (hog.below hcB)
        have HNX1 := hid hnx1
        clear HOW HTY hog K2
        rcases hcase with ⟨rfl, hno⟩ | ⟨rfl, p', goal, i, hI, hC'⟩
        · have e1 : Hid (acc = out) := hid ((HGO.out.done (by rw [← HN.out]; omega) hno).trans e0.out.symm)
          have HO1 := hid hown1
          clear hno hown1 hnx1
          go_wp2
          go_ret
          refine ⟨_, rfl, ?_, HNX1.out⟩
          have := HO1.out
          rw [e1.out] at this
          exact this
        · have hl0 : 0 < ls.length := by rw [← HN.out]; omega
          rw [HN.out] at hI
          obtain ⟨hlt, hval⟩ := hI.all 0 hl0
          have HGS := hid (HGO.out.step hl0 (HA.out 0 hl0) hI)
          have hcur0 : Cur w1 c 0 (tb 0) (f 0) (ls.getD 0 []) (p' 0) := by have := hC'.cur 0 hl0; simpa using this
          have K3 := hid (value_calls w1 c 0 (tb 0) (f 0) (ls.getD 0 []) (p' 0) hcur0 hlt)
          rw [hval] at K3
          have hp0 := (hI.le 0 hl0).1
          have HC1 := hid hC'
          clear hI hval hC' hcur0 HGO hnx1
          go_wp2_with fail
          refine K3.out.mono ?_
          rintro e w2 ⟨rfl, d2, hw2⟩
          have hown2 := own_drewN hown1 d2
          rw [← hw2] at hown2
          have HNX2 : Hid (Below w.heap.size w w2) := hid (by rw [hw2]; exact below_drewN HNX1.out _)
          have HC2 : Hid (Curs w2 c tb f ls p') := hid (by rw [hw2]; exact HC1.out.drewN _)
          have hns2 := HNX2.out.size
          clear hw2 hown1 HNX1 HC1 K3
          go_wp2_with (first
            | (at_builtin; refine wpList_append_own _ rfl _ _ 32 rfl w.heap.size 3 j0 (.int .i64 0) 1 8 Try.underlying32 hj hy0 hy1 hy2 rfl (by decide) _ _ _ rfl (hown2.alloc _) ⟨w2.heap.size, 0, none⟩ 1 1 [.int .i64 goal] rfl rfl ?c1 ?c2 ?c3 ?c4 ?c5 ?_))
          case c1 =>
            intro j u hj
            match j, hj with
            | 0, hj => simp at hj; subst hj; simp [Addr.add]
          case c2 => intro u hu; simp at hu; subst hu; rfl
          case c3 => unfold maxLen; omega
          case c4 => omega
          case c5 => simp; omega
          intro v' w3 hown3 hgrow _
          have HC3 := hid (HC2.out.grown (by rw [← HN.out]; exact HFL.out) hns2 hown2 hgrow)
          have HNX3 := hid (own_grow hns2 hown2 HNX2.out hgrow)
          have HO3 : Hid (w3.ownsRow w.heap.size 3 1 v' (acc ++ [goal]).length ((acc ++ [goal]).map (Value.int .i64))) := hid (by simpa using hown3)
          have hcur3 : Cur w3 c 0 (tb 0) (f 0) (ls.getD 0 []) (p' 0) := by have := HC3.out.cur 0 hl0; simpa using this
          have K4 := hid (next_calls w3 c 0 (tb 0) (f 0) (ls.getD 0 []) (p' 0) hcur3 (by omega))
          clear hown3 hgrow hcur3 hown2 HC2 HNX2 hns2
          go_wp2_with fail
          refine K4.out.mono ?_
          rintro e w4 ⟨⟨v4, rfl⟩, hw4⟩
          have HC4 : Hid (Curs w4 c tb f ls (upd p' 0 (p' 0 + 1))) := hid (by rw [hw4]; have := HC3.out.set 0 (p' 0 + 1); simpa using this)
          have hog4 : Og c w3 w4 := by rw [hw4]; exact (Og.refl _ _).set _ _
          have HO4 := hid (own_og HO3.out hog4 HC3.out.typ (by decide))
          have HNX4 : Hid (Below w.heap.size w w4) := hid (HNX3.out.trans (hog4.below hcB))
          clear hw4 hog4 HO3 HC3 HNX3 K4
          go_wp2
          go_roundg ((ls.getD 0 []).length - (p' 0 + 1))
          case measure => omega
          case rel => exact ⟨_, acc ++ [goal], by rw [upd_same]; exact Nat.le_refl _, Nat.le_trans (got_len HGS.out) hlen0, hid ⟨HO4.out, HNX4.out, HGS.out, HC4.out⟩⟩

end Go.Proofs.Ytoikfjhgeceimab
