import Derived.Test.YtnbbbbfamlmfpaaGreatJn33
import Derived.Test.YtnbbbbfamlmfpaaGreatJn36
import Derived.Test.YtnbbbbfamlmfpaaGreatJn47
import Derived.Test.YtnbbbbfamlmfpaaGreatJn49
/-
  spec.l5Vars, spec.Join.
-/
namespace Go.Proofs.YtnbbbbfamlmfpaaGreat
open Go.RowKit

set_option maxHeartbeats 4000000 in
set_option maxRecDepth 1000000 in
theorem l5Vars_calls (w : World) (vt : Value) (tl : List TbV) (h : ITs w vt tl) (hl : tl.length ≤ 1000) (hok : ∀ t ∈ tl, TvJ t) :
    Calls Tryz.prog 18 #[vt] w fun e w' => ∃ v, e = .returned v ∧ w'.ownsRow w.heap.size 3 1 v (vrJ tl).length ((vrJ tl).map (Value.int .i64)) ∧ Below w.heap.size w w' := by
  obtain ⟨at', ct, rfl, hc⟩ := h
  have HOK : Hid (∀ j, j < tl.length → TvJ (tl.getD j noTv)) := hid fun j hj => hok _ (by rw [List.getD_eq_getElem?_getD, List.getElem?_eq_getElem hj]; exact List.getElem_mem _)
  have HC : Hid (∀ W, Below w.heap.size w W → ∀ j, j < tl.length → ∃ b oo, at' = some ⟨b, oo, none⟩ ∧ TabAt W b (oo + j * 3) (tl.getD j noTv)) := hid fun W hW j hj => by
    rcases hc with h0 | ⟨b, oo, rfl, h⟩
    · omega
    · exact ⟨b, oo, rfl, (h j hj).below hW⟩
  have HV : Hid (∀ j, j < tl.length → plc (fun i : Nat => decide ((i : Int) ∈ vrJ (tl.take j)) || decide ((i : Int) ∈ (tl.getD j noTv).vs)) 6 = vrJ (tl.take (j + 1))) := hid fun j hj => vrJ_take hj
  have HVn : Hid (vrJ (tl.take tl.length) = vrJ tl) := hid (by rw [List.take_length])
  have HV0 : Hid (vrJ (tl.take 0) = []) := hid rfl
  obtain ⟨n, hn⟩ : ∃ n, n = tl.length := ⟨_, rfl⟩
  rw [← hn] at hl HC HOK HV HVn ⊢
  clear hn hc hok
  go_enter Tryz.func18, Tryz.ntmps18
  go_upto_region 2 with fail
  have HS1 : Hid (Below w.heap.size w (w.alloc (.cells #[] 3)) ∧ (w.alloc (.cells #[] 3)).ownsRow w.heap.size 3 1 (.slice (some ⟨w.heap.size, 0, none⟩) 0 0) 0 []) := hid ⟨(Below.refl _ _).alloc (Nat.le_refl _) _, World.ownsRow_made w #[] 0 (Nat.le_refl _) (by decide) rfl⟩
  generalize w.alloc (.cells #[] 3) = W1 at *
  go_wp2_with fail
  go_loopw [3, 9] (fun u t wr => ∃ (j : Nat) (vv : Value), j ≤ n ∧ t = .int .i64 j ∧ vv = u ∧ Hid (Below w.heap.size w wr ∧ wr.ownsRow w.heap.size 3 1 vv (vrJ (tl.take j)).length ((vrJ (tl.take j)).map (Value.int .i64)))) (fun _ t _ => n - (intOf t).toNat)
  case atStart => exact ⟨0, _, Nat.zero_le _, rfl, rfl, hid ⟨HS1.out.1, by rw [HV0.out]; exact HS1.out.2⟩⟩
  case round =>
    clear HS1
    obtain ⟨j, vv, hjn, rfl, rfl, HT⟩ := hrel
    by_cases hlt : j < n
    · have i1 : (j : Int) < (n : Int) := by omega
      obtain ⟨b, oo, ea, v0, v1, v2, c0, c1, c2, hI⟩ := HC.out wr HT.out.1 j hlt
      subst ea
      have HVj := hid (HV.out j hlt)
      have hvl := (HOK.out j hlt).vs
      obtain ⟨a0, k0, e0, h0⟩ := hI.vs
      obtain ⟨a1, k1, e1, -⟩ := hI.rows
      obtain ⟨a2, k2, e2, -⟩ := hI.ws
      have hIv := hI.vs
      subst e0 e1 e2
      generalize tl.getD j noTv = tb at *
      obtain ⟨W3, hW3⟩ : ∃ W3, W3 = wr.alloc (.cells #[.slice a0 tb.vs.length k0, .slice a1 tb.rows.length k1, .slice a2 tb.ws.length k2] 41) := ⟨_, rfl⟩
      have hB3 : Below wr.heap.size wr W3 := by rw [hW3]; exact (Below.refl _ _).alloc (Nat.le_refl _) _
      have d0 : W3.cell? ⟨wr.heap.size, 0, none⟩ = some (.slice a0 tb.vs.length k0) := by rw [hW3, World.cell?_alloc_at _ _ _ _ rfl]; rfl
      have KU := hid (union_calls W3 vv (.slice a0 tb.vs.length k0) (vrJ (tl.take j)) tb.vs (own_is (own_below HT.out.2 hB3)) (hIv.below hB3) (Nat.le_trans (vrJ_len _) (by decide)) (by omega))
      rw [HVj.out] at KU
      have HB3 := hid (bt HT.out.1 hB3)
      obtain ⟨av, kv, ev⟩ := own_shape HT.out.2
      subst ev
      clear hB3 hI hIv HT h0
      generalize tb.vs.length = n0 at *
      generalize (vrJ (tl.take j)).length = lv at *
      go_upto_region 5 with fail
      rw [← hW3]
      clear hW3 c0 c1 c2
      go_wp2_with fail
      refine KU.out.mono ?_
      rintro e w4 ⟨v4, rfl, ho4, hb4⟩
      have HN : Hid (Below w.heap.size w w4 ∧ w4.ownsRow w.heap.size 3 1 v4 (vrJ (tl.take (j + 1))).length ((vrJ (tl.take (j + 1))).map (Value.int .i64))) := hid ⟨bt HB3.out hb4, own_base ho4 HB3.out.size⟩
      clear ho4 hb4 KU
      go_wp2_with fail
      go_roundw
      case rel => exact ⟨j + 1, _, by omega, by go_num, rfl, HN⟩
      case measure => simp [intOf]; omega
    · obtain rfl : j = n := by omega
      have i1 : ¬ ((j : Int) < (j : Int)) := by omega
      rw [HVn.out] at HT
      clear HC HOK HV HVn
      go_wp2_with fail
      go_ret
      exact ⟨vv, rfl, HT.out.2, HT.out.1⟩

end Go.Proofs.YtnbbbbfamlmfpaaGreat

/-
  spec.Join.
-/
namespace Go.Proofs.YtnbbbbfamlmfpaaGreat
open Go.RowKit

set_option maxHeartbeats 4000000 in
set_option maxRecDepth 1000000 in
theorem sJoin_calls (w : World) (vt vo : Value) (tl : List TbV) (o : List Int) (h : ITs w vt tl) (ho : IS w vo o) (hl : tl.length ≤ 1048576) (hol : o.length ≤ 1048576) (hr : ∀ j, j < tl.length → TvS (tl.getD j noTv)) :
    Calls Tryz.prog 5 #[vt, vo] w fun e w' => ∃ v, e = .returned (.tuple #[v, .int .i64 (visJ tl o)]) ∧ ISS w' v (rowJ tl o) ∧ Below w.heap.size w w' := by
  have HITs := hid h
  have HO := hid ho
  have HR := hid hr
  obtain ⟨at', ct, rfl, hc⟩ := h
  obtain ⟨ao, co, rfl, -⟩ := ho
  have HC : Hid (∀ W, Below w.heap.size w W → ∀ j, j < tl.length → ∃ b oo, at' = some ⟨b, oo, none⟩ ∧ TabAt W b (oo + j * 3) (tl.getD j noTv)) := hid fun W hW j hj => by
    rcases hc with h0 | ⟨b, oo, rfl, h⟩
    · omega
    · exact ⟨b, oo, rfl, (h j hj).below hW⟩
  have HA : Hid (∀ j, j < tl.length → tabJ (tl.getD j noTv) = false → okJ tl o = false) := hid fun j hj hf => by
    unfold okJ
    have : tl.all tabJ = false := List.all_eq_false.2 ⟨tl.getD j noTv, by rw [List.getD_eq_getElem?_getD, List.getElem?_eq_getElem hj]; exact List.getElem_mem _, by rw [hf]; decide⟩
    rw [this, Bool.and_false, Bool.false_and]
  have HA8 : Hid (8 < tl.length → okJ tl o = false) := hid fun h8 => by unfold okJ; rw [decide_eq_false (by omega)]; rfl
  have HAll : Hid ((∀ j, j < tl.length → tabJ (tl.getD j noTv) = true) → tl.length ≤ 8 → (okJ tl o = ordJ tl o) ∧ ∀ t ∈ tl, TvJ t) := hid fun hj h8 => by
    have hall : ∀ t ∈ tl, tabJ t = true := fun t ht => by
      obtain ⟨i, hi, e⟩ := List.getElem_of_mem ht
      have := hj i hi
      rw [List.getD_eq_getElem?_getD, List.getElem?_eq_getElem hi] at this
      rw [← e]; exact this
    refine ⟨?_, fun t ht => tabJ_ok (hall t ht)⟩
    unfold okJ
    rw [decide_eq_true h8, List.all_eq_true.2 hall]
    rfl
  have HOrd : Hid (ordJ tl o = (decide (o.length = (vrJ tl).length) && subQ (vrJ tl) o)) := hid rfl
  have HRN : Hid (okJ tl o = false → rowJ tl o = [] ∧ visJ tl o = -1) := hid rowJ_no
  have HRY : Hid (okJ tl o = true → rowJ tl o = (if smJ tl o o.length then lvJ tl o o.length else []) ∧ visJ tl o = (if smJ tl o o.length then (viJ tl o o.length : Int) else -1)) := hid rowJ_yes
  have HCov : Hid (ordJ tl o = true → CovJ tl o) := hid ordJ_cov
  have HOl : Hid (ordJ tl o = true → o.length ≤ 6) := hid fun h => by have h1 := (ordJ_perm.1 h).length_eq; have := vrJ_len tl; omega
  have KJ : Hid (∀ W, Below w.heap.size w W → okJ tl o = true → Calls Tryz.prog 20 #[.slice at' tl.length ct, .slice ao o.length co] W fun e w' => ∃ v, e = .returned (.tuple #[v, .int .i64 (visJ tl o)]) ∧ ISS w' v (rowJ tl o) ∧ Below W.heap.size W w') := hid fun W hW hy => by
    have hy' := hy
    unfold okJ at hy'
    rw [Bool.and_eq_true, Bool.and_eq_true, decide_eq_true_eq, List.all_eq_true] at hy'
    have := l5Join_calls W _ _ tl o (HITs.out.below hW) (HO.out.below hW) (by omega) (by have := HOl.out hy'.2; omega) (fun t ht => tabJ_ok (hy'.1.2 t ht)) (HCov.out hy'.2)
    rw [← (HRY.out hy).1, ← (HRY.out hy).2] at this
    exact this
  have KV : Hid (∀ W, Below w.heap.size w W → tl.length ≤ 8 → (∀ t ∈ tl, TvJ t) → Calls Tryz.prog 18 #[.slice at' tl.length ct] W fun e w' => ∃ v, e = .returned v ∧ w'.ownsRow W.heap.size 3 1 v (vrJ tl).length ((vrJ tl).map (Value.int .i64)) ∧ Below W.heap.size W w') := hid fun W hW h8 h1 => l5Vars_calls W _ tl (HITs.out.below hW) (by omega) h1
  have KS : Hid (∀ W v, Below w.heap.size w W → IS W v (vrJ tl) → Calls Tryz.prog 19 #[v, .slice ao o.length co] W fun e w' => e = .returned (.bool (subQ (vrJ tl) o)) ∧ w' = W) := hid fun W v hW hv => subset_calls W v _ _ _ hv (Nat.le_trans (vrJ_len tl) (by decide)) (HO.out.below hW) (by omega)
  obtain ⟨n, hn⟩ : ∃ n, n = tl.length := ⟨_, rfl⟩
  rw [← hn] at hl HC HR HA HA8 HAll KJ KV ⊢
  clear hn hc hr HITs HO HRY HCov HOl
  obtain ⟨no, hno⟩ : ∃ no, no = o.length := ⟨_, rfl⟩
  rw [← hno] at hol HOrd KJ KS ⊢
  clear hno
  obtain ⟨RJ, hRJ⟩ : ∃ RJ, RJ = rowJ tl o := ⟨_, rfl⟩
  obtain ⟨VJ, hVJ⟩ : ∃ VJ, VJ = visJ tl o := ⟨_, rfl⟩
  rw [← hRJ, ← hVJ] at HRN KJ ⊢
  clear hRJ hVJ
  by_cases h8 : n ≤ 8
  · have q8 : ¬ ((8 : Int) < (n : Int)) := by omega
    go_enter Tryz.func5, Tryz.ntmps5
    go_upto_block 0 with fail
    go_wp2_with fail
    go_loopw [15] (fun t wr => ∃ (j : Nat), j ≤ n ∧ t = .int .i64 j ∧ Hid ((∀ i, i < j → tabJ (tl.getD i noTv) = true) ∧ Below w.heap.size w wr)) (fun t _ => n - (intOf t).toNat)
    case atStart => exact ⟨0, Nat.zero_le _, rfl, hid ⟨fun i hi => by omega, Below.refl _ _⟩⟩
    case round =>
      obtain ⟨j, hjn, rfl, HT⟩ := hrel
      by_cases hlt : j < n
      · have i1 : (j : Int) < (n : Int) := by omega
        obtain ⟨b, oo, ea, v0, v1, v2, c0, c1, c2, hI⟩ := HC.out wr HT.out.2 j hlt
        subst ea
        have HTs := hid (HR.out j hlt)
        have HAj := hid (HA.out j hlt)
        obtain ⟨W3, hW3⟩ : ∃ W3, W3 = wr.alloc (.cells #[v0, v1, v2] 41) := ⟨_, rfl⟩
        have hB3 : Below wr.heap.size wr W3 := by rw [hW3]; exact (Below.refl _ _).alloc (Nat.le_refl _) _
        have HX3 : Hid (TX W3 wr.heap.size v0 v1 v2) := hid (by rw [hW3]; exact TX.made _ _ _ _)
        have KT := hid (sTableOK_calls W3 v0 v1 v2 _ _ _ (hI.below hB3) HTs.out.vs HTs.out.rows)
        have HB3 := hid (bt HT.out.2 hB3)
        have HP := hid HT.out.1
        obtain ⟨a0, k0, e0, -⟩ := hI.vs
        obtain ⟨a1, k1, e1, -⟩ := hI.rows
        obtain ⟨a2, k2, e2, -⟩ := hI.ws
        subst e0 e1 e2
        have ey : tableB (tl.getD j noTv).vs (tl.getD j noTv).rows (tl.getD j noTv).ws = tabJ (tl.getD j noTv) := rfl
        rw [ey] at KT
        have HPj : Hid (tabJ (tl.getD j noTv) = true → ∀ i, i < j + 1 → tabJ (tl.getD i noTv) = true) := hid fun hy i hi => by
          by_cases e : i = j
          · rw [e]; exact hy
          · exact HP.out i (by omega)
        generalize tabJ (tl.getD j noTv) = y at KT HAj HPj
        generalize (tl.getD j noTv).rows.length = nr at *
        generalize (tl.getD j noTv).vs.length = n0 at *
        generalize (tl.getD j noTv).ws.length = n2 at *
        clear hB3 hI HT ey HTs
        have d0 := HX3.out.c0
        have d1 := HX3.out.c1
        have d2 := HX3.out.c2
        go_upto_region 6 with fail
        rw [← hW3]
        clear hW3 c0 c1 c2
        cases y
        · have HNo := hid (HRN.out (HAj.out rfl))
          go_wp2_with (first | (go_at_call 17; refine KT.out.mono ?_; rintro e w4 ⟨rfl, hb4⟩) | fail)
          go_ret2
          exact ⟨_, by rw [HNo.out.2]; rfl, by rw [HNo.out.1]; exact ⟨_, 0, rfl, Or.inl rfl⟩, bl_alloc' (bt HB3.out hb4) _⟩
        · go_wp2_with (first | (go_at_call 17; refine KT.out.mono ?_; rintro e w4 ⟨rfl, hb4⟩) | fail)
          have HN : Hid ((∀ i, i < j + 1 → tabJ (tl.getD i noTv) = true) ∧ Below w.heap.size w w4) := hid ⟨HPj.out (by trivial), bt HB3.out hb4⟩
          clear hb4 KT
          go_roundw
          case rel => exact ⟨j + 1, by omega, by go_num, HN⟩
          case measure => simp [intOf]; omega
      · obtain rfl : j = n := by omega
        have i1 : ¬ ((j : Int) < (j : Int)) := by omega
        obtain ⟨hok, htv⟩ := HAll.out HT.out.1 h8
        have KV1 := hid (KV.out wr HT.out.2 h8 htv)
        have HB := hid HT.out.2
        rw [HOrd.out] at hok
        have HOK := hid hok
        clear hok htv HT HAll HC HA HA8 KV HR HOrd
        obtain ⟨nv, hnv⟩ : ∃ nv, nv = (vrJ tl).length := ⟨_, rfl⟩
        rw [← hnv] at KV1 HOK
        have HNV := hid hnv
        clear hnv
        go_upto_region 10 with (first | (go_at_call 18; refine KV1.out.mono ?_; rintro e w5 ⟨v5, rfl, ho5, hb5⟩) | fail)
        obtain ⟨a5, k5, e5⟩ := own_shape ho5
        subst e5
        have HB5 := hid (bt HB.out hb5)
        have KS5 := hid (KS.out w5 _ HB5.out (own_is (by rw [← HNV.out]; exact ho5)))
        have KJ5 := hid (KJ.out w5 HB5.out)
        clear hb5 KS KJ KV1 ho5
        by_cases hle : no = nv
        · subst hle
          have q1 : ((no : Int) != (no : Int)) = false := by simp
          rw [decide_eq_true rfl, Bool.true_and] at HOK
          generalize subQ (vrJ tl) o = y at *
          cases y
          · have HNo := hid (HRN.out HOK.out)
            go_wp2_with (first | (go_at_call 19; refine KS5.out.mono ?_; rintro e w6 ⟨rfl, hw6⟩; subst w6) | fail)
            go_ret2
            exact ⟨_, by rw [HNo.out.2]; rfl, by rw [HNo.out.1]; exact ⟨_, 0, rfl, Or.inl rfl⟩, bl_alloc' HB5.out _⟩
          · have KJ6 := hid (KJ5.out HOK.out)
            clear KJ5
            go_wp2_with (first | (go_at_call 19; refine KS5.out.mono ?_; rintro e w6 ⟨rfl, hw6⟩; subst w6) | (go_at_call 20; refine KJ6.out.mono ?_; rintro e w7 ⟨v7, rfl, hI7, hb7⟩) | fail)
            go_ret2
            exact ⟨v7, rfl, hI7, bt HB5.out hb7⟩
        · have q1 : ((no : Int) != (nv : Int)) = true := by simp; omega
          rw [decide_eq_false hle, Bool.false_and] at HOK
          have HNo := hid (HRN.out HOK.out)
          go_wp2_with fail
          go_ret2
          exact ⟨_, by rw [HNo.out.2]; rfl, by rw [HNo.out.1]; exact ⟨_, 0, rfl, Or.inl rfl⟩, bl_alloc' HB5.out _⟩
  · have q8 : ((8 : Int) < (n : Int)) := by omega
    have HNo := hid (HRN.out (HA8.out (by omega)))
    clear HC HA HA8 HAll KJ KV KS
    go_enter Tryz.func5, Tryz.ntmps5
    go_wp2_with fail
    go_ret2
    exact ⟨_, by rw [HNo.out.2]; rfl, by rw [HNo.out.1]; exact ⟨_, 0, rfl, Or.inl rfl⟩, bl_alloc' (Below.refl _ _) _⟩

end Go.Proofs.YtnbbbbfamlmfpaaGreat
