import Derived.Test.YtnbbbbfamlmfpaaGreatJn36
/-
  spec.l5Join, walked.
-/
namespace Go.Proofs.YtnbbbbfamlmfpaaGreat
open Go.RowKit

set_option maxHeartbeats 4000000 in
set_option maxRecDepth 1000000 in
theorem l5Join_calls (w : World) (vt vo : Value) (tl : List TbV) (o : List Int) (h : ITs w vt tl) (ho : IS w vo o) (hl : tl.length ≤ 1000) (hol : o.length ≤ 1000) (hok : ∀ t ∈ tl, TvJ t) (hcov : CovJ tl o) :
    Calls Tryz.prog 20 #[vt, vo] w fun e w' => ∃ v, e = .returned (.tuple #[v, .int .i64 (if smJ tl o o.length then (viJ tl o o.length : Int) else -1)]) ∧ ISS w' v (if smJ tl o o.length then lvJ tl o o.length else []) ∧ Below w.heap.size w w' := by
  obtain ⟨i0, hi, hz0, hz1, hz2⟩ := info_parts Tryz.infoInt
  obtain ⟨iS, hj, hy0, hy1, hy2⟩ := info_parts Tryz.infoIS
  have KSd := hid (l5Sides_calls w vt vo tl o h ho hl hol hok)
  have HNL : Hid (∀ p, (nxJ tl o p).length ≤ 10000) := hid fun p => nxJ_len hok p
  have KNx : Hid (∀ W vS vp p k, Below w.heap.size w W → ISds W vS (tl.map (sdT o)) → IS W vp p → p ∈ lvJ tl o k → k < o.length → Calls Tryz.prog 34 #[vS, vo, vp] W fun e w' => ∃ g c, e = .returned (.slice (some ⟨g, 0, none⟩) (nxJ tl o p).length c) ∧ w'.ownsRow W.heap.size 3 1 (.slice (some ⟨g, 0, none⟩) (nxJ tl o p).length c) (nxJ tl o p).length ((nxJ tl o p).map (Value.int .i64)) ∧ Below W.heap.size W w') := hid fun W vS vp p k hW hS hp hm hk => by
    have hpk := lvJ_len p hm
    refine l5Next_calls W vS vo vp (tl.map (sdT o)) o p hS (ho.below hW) hp (by omega) hol (by rw [List.length_map]; exact hl) (fun s hs => ?_) (lvJ_hld p hm) (fstJ hcov (by omega)) (fun s hs => ?_)
    · obtain ⟨t, ht, rfl⟩ := List.mem_map.1 hs
      exact ⟨sdT_ok o t, Nat.le_trans (sdT_rows o t) (by have := (hok t ht).n; omega), Nat.le_trans (shr_len _ _) hol⟩
    · obtain ⟨t, ht, rfl⟩ := List.mem_map.1 hs
      exact cntJ (by omega)
  obtain ⟨at', ct, rfl, hc⟩ := h
  obtain ⟨ao, co, rfl, -⟩ := ho
  have HC : Hid (∀ W, Below w.heap.size w W → ∀ j, j < tl.length → ∃ b oo, at' = some ⟨b, oo, none⟩ ∧ TabAt W b (oo + j * 3) (tl.getD j noTv)) := hid fun W hW j hj => by
    rcases hc with h0 | ⟨b, oo, rfl, h⟩
    · omega
    · exact ⟨b, oo, rfl, (h j hj).below hW⟩
  have HEm : Hid (∀ j, j < tl.length → (tl.take (j + 1)).any (fun t => decide (t.rows.length = 0)) = ((tl.take j).any (fun t => decide (t.rows.length = 0)) || decide ((tl.getD j noTv).rows.length = 0))) := hid fun j hj => by
    rw [List.take_add_one, List.getElem?_eq_getElem hj, List.any_append, List.getD_eq_getElem?_getD, List.getElem?_eq_getElem hj]
    simp
  have HEn : Hid ((tl.take tl.length).any (fun t => decide (t.rows.length = 0)) = empJ tl) := hid (by rw [List.take_length]; rfl)
  have HE0 : Hid ((tl.take 0).any (fun t => decide (t.rows.length = 0)) = false) := hid rfl
  obtain ⟨EM, hEM⟩ : ∃ EM : Nat → Bool, EM = fun j => (tl.take j).any (fun t => decide (t.rows.length = 0)) := ⟨_, rfl⟩
  have HEM : Hid (EM 0 = false ∧ EM tl.length = empJ tl ∧ ∀ j, j < tl.length → EM (j + 1) = (EM j || decide ((tl.getD j noTv).rows.length = 0))) := hid (by rw [hEM]; exact ⟨HE0.out, HEn.out, HEm.out⟩)
  clear hEM HEm HEn HE0
  obtain ⟨n, hn⟩ : ∃ n, n = tl.length := ⟨_, rfl⟩
  rw [← hn] at hl HC HEM KSd ⊢
  clear hn hc hok hcov
  obtain ⟨no, hno⟩ : ∃ no, no = o.length := ⟨_, rfl⟩
  rw [← hno] at hol KNx KSd ⊢
  clear hno
  obtain ⟨AN, hAN⟩ : ∃ AN : Int, AN = (if smJ tl o no then (viJ tl o no : Int) else -1) := ⟨_, rfl⟩
  obtain ⟨AL, hAL⟩ : ∃ AL : List (List Int), AL = (if smJ tl o no then lvJ tl o no else []) := ⟨_, rfl⟩
  rw [← hAN, ← hAL]
  have HAN := hid hAN
  have HAL := hid hAL
  clear hAN hAL
  go_enter Tryz.func20, Tryz.ntmps20
  go_upto_region 2 with (first | (go_at_call 33; refine KSd.out.mono ?_; rintro e w1 ⟨vS, rfl, hS1, hb1⟩) | fail)
  have HS1 := hid hS1
  have HB1 := hid hb1
  obtain ⟨aS, cS, rfl, -⟩ := hS1
  have hsn : (tl.map (sdT o)).length = (tl.map (sdT o)).length := rfl
  generalize (tl.map (sdT o)).length = ns at *
  clear hb1 KSd hsn
  obtain ⟨W2, hW2⟩ : ∃ W2, W2 = (w1.alloc (.cells #[] 3)).alloc (.cells #[.slice (some ⟨w1.heap.size, 0, none⟩) 0 0] 23) := ⟨_, rfl⟩
  have hB2 : Below w1.heap.size w1 W2 := by rw [hW2]; exact bl_alloc' (bl_alloc' (Below.refl _ _) _) _
  have HN2 : Hid (ISSn W2 (.slice (some ⟨w1.heap.size + 1, 0, none⟩) 1 1) [[]]) := hid (by
    refine ⟨_, 1, rfl, Or.inr ⟨w1.heap.size + 1, 0, rfl, fun j hj => ?_⟩⟩
    obtain rfl : j = 0 := by simpa using hj
    refine ⟨⟨w1.heap.size, 0, none⟩, 0, ?_, ⟨_, 0, rfl, Or.inl rfl⟩⟩
    rw [hW2, World.cell?_alloc_at _ _ _ _ (by simp)]
    rfl)
  have HB2 := hid (bt HB1.out hB2)
  have HS2 := hid (HS1.out.below hB2)
  clear hB2 HS1 HB1
  go_upto_region 3 with fail
  rw [← hW2]
  clear hW2
  have HLv : Hid (∀ j, lvJ tl o (j + 1) = (lvJ tl o j).flatMap fun q => (nxJ tl o q).map fun v => q ++ [v]) := hid fun j => lvJ_succ tl o j
  have HL0 : Hid (empJ tl = true → lvJ tl o 0 = []) := hid fun h => by unfold lvJ; rw [if_pos h]
  have HL1 : Hid (empJ tl = false → lvJ tl o 0 = [[]]) := hid fun h => by unfold lvJ; rw [h]; rfl
  have HLl : Hid (∀ j, ∀ q ∈ lvJ tl o j, q.length = j) := hid fun j q hq => lvJ_len q hq
  have HSm : Hid (smJ tl o 0 = true ∧ (∀ j, smJ tl o (j + 1) = (smJ tl o j && decide ((lvJ tl o (j + 1)).length ≤ 10000))) ∧ (∀ j k, j < k → ¬ (lvJ tl o (j + 1)).length ≤ 10000 → smJ tl o k = false)) := hid ⟨rfl, fun j => smJ_succ tl o j, fun j k h1 h2 => smJ_false h1 h2⟩
  have HVi : Hid (viJ tl o 0 = 0 ∧ (∀ j, viJ tl o (j + 1) = viJ tl o j + (lvJ tl o (j + 1)).length) ∧ ∀ j, smJ tl o j = true → viJ tl o j ≤ j * 10000) := hid ⟨rfl, fun j => viJ_succ tl o j, fun j h => viJ_le h⟩
  go_upto_block 0 with fail
  go_cut [7] (fun v7 wx => ∃ vl, vl = v7 ∧ Hid (ISSn wx vl (lvJ tl o 0) ∧ Below W2.heap.size W2 wx))
  case first =>
    go_wp2_with fail
    go_loopw [7, 23] (fun v7 t wr => ∃ (j : Nat) (vl : Value), j ≤ n ∧ t = .int .i64 j ∧ vl = v7 ∧ Hid (vl = (if EM j then .slice none 0 0 else .slice (some ⟨w1.heap.size + 1, 0, none⟩) 1 1) ∧ Below W2.heap.size W2 wr)) (fun _ t _ => n - (intOf t).toNat)
    case atStart => exact ⟨0, _, Nat.zero_le _, rfl, rfl, hid ⟨by rw [HEM.out.1]; rfl, Below.refl _ _⟩⟩
    case round =>
      obtain ⟨j, vl, hjn, rfl, rfl, HT⟩ := hrel
      by_cases hlt : j < n
      · have i1 : (j : Int) < (n : Int) := by omega
        obtain ⟨b, oo, ea, v0, v1, v2, c0, c1, c2, hI⟩ := HC.out wr (bt HB2.out HT.out.2) j hlt
        subst ea
        have HE := hid (HEM.out.2.2 j hlt)
        obtain ⟨a0, k0, e0, -⟩ := hI.vs
        obtain ⟨a1, k1, e1, -⟩ := hI.rows
        obtain ⟨a2, k2, e2, -⟩ := hI.ws
        subst e0 e1 e2
        clear hI
        generalize (tl.getD j noTv).rows.length = nr at *
        generalize (tl.getD j noTv).vs.length = n0 at *
        generalize (tl.getD j noTv).ws.length = n2 at *
        obtain ⟨W3, hW3⟩ : ∃ W3, W3 = wr.alloc (.cells #[.slice a0 n0 k0, .slice a1 nr k1, .slice a2 n2 k2] 41) := ⟨_, rfl⟩
        have hB3 : Below wr.heap.size wr W3 := by rw [hW3]; exact (Below.refl _ _).alloc (Nat.le_refl _) _
        have d1 : W3.cell? ⟨wr.heap.size, 1, none⟩ = some (.slice a1 nr k1) := by rw [hW3, World.cell?_alloc_at _ _ _ _ rfl]; rfl
        have HB3 := hid (bt HT.out.2 hB3)
        have HV := hid HT.out.1
        clear hB3 HT
        go_upto_region 6 with fail
        rw [← hW3]
        clear hW3 c0 c1 c2
        by_cases hz : nr = 0
        · subst hz
          go_wp2_with fail
          go_roundw
          case rel => first | exact ⟨j + 1, _, by omega, by go_num, rfl, hid ⟨by rw [HE.out]; simp, HB3.out⟩⟩ | ((repeat apply Exists.intro); exact ⟨⟨j + 1, _, by omega, by go_num, rfl, hid ⟨by rw [HE.out]; simp, HB3.out⟩⟩, rfl⟩)
          case measure => simp [intOf]; omega
        · have q1 : ((nr : Int) == 0) = false := by simp; omega
          have HE2 : Hid (EM (j + 1) = EM j) := hid (by rw [HE.out, decide_eq_false hz, Bool.or_false])
          go_wp2_with fail
          go_roundw
          case rel => first | exact ⟨j + 1, _, by omega, by go_num, rfl, hid ⟨by rw [HE2.out]; exact HV.out, HB3.out⟩⟩ | ((repeat apply Exists.intro); exact ⟨⟨j + 1, _, by omega, by go_num, rfl, hid ⟨by rw [HE2.out]; exact HV.out, HB3.out⟩⟩, rfl⟩)
          case measure => simp [intOf]; omega
      · obtain rfl : j = n := by omega
        have i1 : ¬ (j : Int) < (j : Int) := by omega
        have HF : Hid (ISSn wr vl (lvJ tl o 0) ∧ Below W2.heap.size W2 wr) := hid ⟨by
          rw [HT.out.1, HEM.out.2.1]
          by_cases he : empJ tl = true
          · rw [if_pos he, HL0.out he]; exact ⟨none, 0, rfl, Or.inl rfl⟩
          · rw [if_neg he, HL1.out (by simpa using he)]; exact HN2.out.below HT.out.2, HT.out.2⟩
        clear HT
        go_wp2_with fail
        go_meet
        exact ⟨vl, rfl, HF⟩
  case rest =>
  obtain ⟨vl0, rfl, HL⟩ := hcut
  have HB4 := hid (bt HB2.out HL.out.2)
  have HS4 := hid (HS2.out.below HL.out.2)
  have HI4 := hid HL.out.1
  clear HL HB2 HS2 HN2 HEM HL0 HL1 HC
  generalize wc = W4 at *
  go_wp2_with fail
  go_loopw [7, 10, 34] (fun v7 v10 t wr => ∃ (k vis : Nat) (vl : Value), k ≤ no ∧ t = .int .i64 k ∧ v10 = .int .i64 vis ∧ vl = v7 ∧ Hid (smJ tl o k = true ∧ vis = viJ tl o k ∧ ISSn wr vl (lvJ tl o k) ∧ Below W4.heap.size W4 wr)) (fun _ _ t _ => no - (intOf t).toNat)
  case atStart => exact ⟨0, 0, _, Nat.zero_le _, rfl, rfl, rfl, hid ⟨HSm.out.1, HVi.out.1.symm, HI4.out, Below.refl _ _⟩⟩
  case round =>
    clear HI4
    obtain ⟨k, vis, vl, hk, rfl, rfl, rfl, HT⟩ := hrel
    by_cases hlt : k < no
    · have i1 : (k : Int) < (no : Int) := by omega
      obtain ⟨hsm, hvis, hIl, hBw⟩ := HT.out
      have hvb : vis ≤ k * 10000 := by rw [hvis]; exact HVi.out.2.2 k hsm
      have HSmk := hid hsm
      have HVik := hid hvis
      have HBw := hid (bt HB4.out hBw)
      have HB4w := hid hBw
      have HSd := hid (HS4.out.below hBw)
      have HIl := hid hIl
      obtain ⟨al, cl, rfl, -⟩ := hIl
      have hnlb : (lvJ tl o k).length ≤ 10000 := smJ_lv hsm
      clear HT hsm hvis hBw
      obtain ⟨L, hL⟩ : ∃ L, L = lvJ tl o k := ⟨_, rfl⟩
      have HLm : Hid (∀ i, i < L.length → L.getD i [] ∈ lvJ tl o k) := hid fun i hi => by rw [← hL, List.getD_eq_getElem?_getD, List.getElem?_eq_getElem hi]; exact List.getElem_mem _
      have HLn : Hid (lvJ tl o (k + 1) = nxL (nxJ tl o) L L.length) := hid (by rw [HLv.out, ← hL]; unfold nxL; rw [List.take_length])
      have HLle : Hid (∀ i, (nxL (nxJ tl o) L i).length ≤ (lvJ tl o (k + 1)).length) := hid fun i => by rw [HLv.out, ← hL]; exact nxL_le _ _ _
      have HLs : Hid (∀ i, i < L.length → nxL (nxJ tl o) L (i + 1) = nxL (nxJ tl o) L i ++ (nxJ tl o (L.getD i [])).map fun v => L.getD i [] ++ [v]) := hid fun i hi => nxL_succ _ hi
      have HLk : Hid (∀ i, i < L.length → (L.getD i []).length = k) := hid fun i hi => HLl.out k _ (HLm.out i hi)
      rw [← hL] at HIl hnlb ⊢
      clear hL
      obtain ⟨nl, hnl⟩ : ∃ nl, nl = L.length := ⟨_, rfl⟩
      have HNLe := hid hnl
      rw [← hnl] at HLm HLn HLs HLk HIl hnlb ⊢
      have HCl : Hid (∀ W, Below wr.heap.size wr W → ∀ i, i < nl → ∃ b oo ad c, al = some ⟨b, oo, none⟩ ∧ W.cell? ⟨b, oo + i, none⟩ = some (.slice (some ad) k c) ∧ IS W (.slice (some ad) k c) (L.getD i [])) := hid fun W hW i hi => by
        obtain ⟨a', c', e, hh⟩ := HIl.out
        simp only [Value.slice.injEq] at e
        obtain ⟨rfl, -, -⟩ := e
        rcases hh with h0 | ⟨b, oo, ea, hh⟩
        · omega
        · obtain ⟨ad, c, h1, h2⟩ := hh i (by omega)
          rw [HLk.out i hi] at h1 h2
          exact ⟨b, oo, ad, c, ea, upJ2 hW h1, h2.below hW⟩
      clear hnl HIl
      obtain ⟨W5, hW5⟩ : ∃ W5, W5 = wr.alloc (.cells #[] 23) := ⟨_, rfl⟩
      have HS5 : Hid (Below wr.heap.size wr W5 ∧ RQ W5 wr.heap.size (.slice (some ⟨wr.heap.size, 0, none⟩) 0 0) [] []) := hid (by
        rw [hW5]
        exact ⟨(Below.refl _ _).alloc (Nat.le_refl _) _, World.ownsRow_made wr #[] 0 (Nat.le_refl _) (by decide) rfl, rfl, fun i hi => by simp at hi, fun i j _ hj => by simp at hj⟩)
      go_upto_region 13 with fail
      rw [← hW5]
      clear hW5
      generalize wr = wo at *
      go_wp2_with fail
      go_loopw [11, 39] (fun v11 t wr => ∃ (i : Nat) (vn : Value), i ≤ nl ∧ t = .int .i64 i ∧ vn = v11 ∧ Hid (∃ un, Below wo.heap.size wo wr ∧ RQ wr wo.heap.size vn un (nxL (nxJ tl o) L i) ∧ (nxL (nxJ tl o) L i).length ≤ 10000)) (fun _ t _ => nl - (intOf t).toNat)
      case atStart => exact ⟨0, _, Nat.zero_le _, rfl, rfl, hid ⟨[], HS5.out.1, HS5.out.2, Nat.zero_le _⟩⟩
      case round =>
        clear HS5
        obtain ⟨i, vn, hin, rfl, rfl, HT⟩ := hrel
        obtain ⟨un, hBm, hQm, hlm⟩ := HT.out
        have HBm := hid hBm
        have HQm := hid hQm
        clear HT hBm hQm
        by_cases hlt2 : i < nl
        · have i2 : (i : Int) < (nl : Int) := by omega
          obtain ⟨b, oo, ad, c, ea, e0, hIq0⟩ := HCl.out wo (Below.refl _ _) i hlt2
          subst ea
          have e1 := upJ2 HBm.out e0
          have hIq := hIq0.below HBm.out
          have HIqW : Hid (∀ W, Below wo.heap.size wo W → IS W (.slice (some ad) k c) (L.getD i [])) := hid fun W hW => hIq0.below hW
          clear e0 hIq0
          have KN1 := hid (KNx.out wr _ _ (L.getD i []) k (bt HBw.out HBm.out) (HSd.out.below HBm.out) hIq (HLm.out i hlt2) hlt)
          have HLsi := hid (HLs.out i hlt2)
          have HQk := hid (HLk.out i hlt2)
          have hxl := HNL.out (L.getD i [])
          obtain ⟨q, hq⟩ : ∃ q, q = L.getD i [] := ⟨_, rfl⟩
          rw [← hq] at KN1 HIqW HLsi HQk hxl
          clear hq hIq
          obtain ⟨xs, hxs⟩ : ∃ xs, xs = nxJ tl o q := ⟨_, rfl⟩
          rw [← hxs] at KN1 HLsi hxl
          clear hxs
          obtain ⟨nx, hnx⟩ : ∃ nx, nx = xs.length := ⟨_, rfl⟩
          have HNX := hid hnx
          rw [← hnx] at KN1 hxl
          clear hnx
          generalize wr = wm at *
          go_upto_block 6 with (first | (go_at_call 34; refine KN1.out.mono ?_; rintro e w6 ⟨gx, cx, rfl, hox, hbx⟩) | fail)
          have HOx := hid hox
          have HB6 := hid (bt HBm.out hbx)
          have HQ6 := hid (HQm.out.below hbx)
          clear hox hbx KN1 e1 HQm
          go_wp2_with fail
          go_loopw [11, 48] (fun v11 t wr => ∃ (m : Nat) (vn' : Value), m ≤ nx ∧ t = .int .i64 m ∧ vn' = v11 ∧ Hid (∃ un', Below wo.heap.size wo wr ∧ RQ wr wo.heap.size vn' un' (nxL (nxJ tl o) L i ++ mxL q xs m) ∧ wr.ownsRow wm.heap.size 3 1 (.slice (some ⟨gx, 0, none⟩) nx cx) nx (xs.map (Value.int .i64)))) (fun _ t _ => nx - (intOf t).toNat)
          case atStart => exact ⟨0, vn, Nat.zero_le _, rfl, rfl, hid ⟨un, HB6.out, by show RQ _ _ _ _ (_ ++ []); rw [List.append_nil]; exact HQ6.out, HOx.out⟩⟩
          case round =>
            clear HOx HQ6
            obtain ⟨m, vn', hmx, rfl, rfl, HT⟩ := hrel
            obtain ⟨un', hBr, hQr, hXr⟩ := HT.out
            have HBr := hid hBr
            have HQr := hid hQr
            have HXr := hid hXr
            clear HT hBr hQr hXr
            have hlen : (nxL (nxJ tl o) L i ++ mxL q xs m).length = (nxL (nxJ tl o) L i).length + m := by rw [List.length_append, mxL_len (by rw [← HNX.out]; exact hmx)]
            by_cases hlt3 : m < nx
            · have i3 : (m : Int) < (nx : Int) := by omega
              have cx1 : wr.cell? ⟨gx, m, none⟩ = some (.int .i64 (xs.getD m 0)) := by
                rw [HXr.out.cellAt m (by omega), List.getElem?_map, List.getElem?_eq_getElem (by rw [← HNX.out]; exact hlt3), List.getD_eq_getElem?_getD, List.getElem?_eq_getElem (by rw [← HNX.out]; exact hlt3)]
                rfl
              have hIw := HIqW.out _ (bt HBr.out ((Below.refl _ wr).alloc (Nat.le_refl _) (.cells #[] 3)))
              have HNW := hid (newsN hIw)
              have hown0 : (wr.alloc (.cells #[] 3)).ownsRow wr.heap.size 3 1 (.slice (some ⟨wr.heap.size, 0, none⟩) 0 0) 0 [] := World.ownsRow_made wr #[] 0 (Nat.le_refl _) (by decide) rfl
              have HW0 := hid hown0
              have hwo : wo.heap.size ≤ wr.heap.size := HBr.out.size
              have hqk : q.length = k := HQk.out
              have HMX := hid (mxL_succ (q := q) (xs := xs) (m := m) (by rw [← HNX.out]; exact hlt3))
              have hkb : k ≤ 1000 := by omega
              generalize xs.getD m 0 = xv at *
              clear hIw hown0
              have HQk2 := hid hqk
              clear hqk
              go_wp2_with (first
                | (at_builtin; refine wpList_append_own _ rfl _ _ 23 rfl wr.heap.size 3 i0 (.int .i64 0) 1 8 Tryz.underlying23 hi hz0 hz1 hz2 rfl (by decide) (.slice (some ⟨wr.heap.size, 0, none⟩) 0 0) 0 [] rfl HW0.out ad k c (q.map (Value.int .i64)) rfl (by rw [List.length_map, HQk2.out]; omega) HNW.out (fun u hu => by obtain ⟨x, _, rfl⟩ := List.mem_map.1 hu; rfl) (by unfold maxLen; omega) (by omega) (by simp) ?_; intro v55 w55 hown55 hgrow55 _; have ho55 : w55.ownsRow wr.heap.size 3 1 v55 k (q.map (Value.int .i64)) := (by simpa using hown55); have hb55 : Below wr.heap.size wr w55 := ((Below.refl _ wr).alloc (Nat.le_refl _) (.cells #[] 3)).grown hgrow55 (by simp) (fun k hk => (HW0.out.lt k hk).1); have hs55 := hb55.size; clear hown55 hgrow55)
                | (at_builtin; refine wpList_append_lies _ rfl _ _ 23 rfl wr.heap.size 3 i0 (.int .i64 0) 1 8 Tryz.underlying23 hi hz0 hz1 hz2 rfl (by decide) v55 _ _ rfl (ho55.alloc _) ⟨_, 0, none⟩ 1 1 [.int .i64 xv] rfl rfl (new1_cell _ _ _) (fun u hu => by simp at hu; subst hu; rfl) (by decide) (by unfold maxLen; omega) (by omega) (by simp; omega) _ rfl ?_; intro g58 c58 w58 hown58 hgrow58 hat58 hlt58; have hb58 : Below wr.heap.size wr w58 := (hb55.alloc hs55 _).grown hgrow58 (by simp; omega) (fun k hk => (ho55.lt k hk).1); have hs58 := hb58.size; have ho58 : w58.ownsRow wo.heap.size 23 1 vn' ((nxL (nxJ tl o) L i).length + m) un' := by { have := (HQr.out.below hb58).own; rw [hlen] at this; exact this })
                | (at_builtin; refine wpList_append_lies _ rfl _ _ 25 rfl wo.heap.size 23 iS (.slice none 0 0) 1 24 Tryz.underlying25 hj hy0 hy1 hy2 rfl (by decide) vn' _ un' rfl (ho58.alloc _) ⟨_, 0, none⟩ 1 1 [.slice (some ⟨g58, 0, none⟩) (k + 1) c58] rfl rfl (new1_cell _ _ _) (fun u hu => by simp at hu; subst hu; rfl) (by decide) (by unfold maxLen; omega) (by omega) (by simp; omega) _ rfl ?_; intro g60 c60 w60 hown60 hgrow60 hat60 hlt60)
                | fail)
              have HN : Hid (∃ un'', Below wo.heap.size wo w60 ∧ RQ w60 wo.heap.size (.slice (some ⟨g60, 0, none⟩) ((nxL (nxJ tl o) L i).length + m + 1) c60) un'' (nxL (nxJ tl o) L i ++ mxL q xs (m + 1)) ∧ w60.ownsRow wm.heap.size 3 1 (.slice (some ⟨gx, 0, none⟩) nx cx) nx (xs.map (Value.int .i64))) := hid (by
                have hQ58 := HQr.out.below hb58
                have hrow : w58.ownsRow wo.heap.size 3 1 (.slice (some ⟨g58, 0, none⟩) (k + 1) c58) (q ++ [xv]).length ((q ++ [xv]).map (Value.int .i64)) := by
                  rw [List.length_append, List.length_singleton, HQk2.out, List.map_append]
                  exact own_base hown58 hwo
                have hap : ∀ j, j < (nxL (nxJ tl o) L i ++ mxL q xs m).length → ∀ g, (un'.getD j undef).ownBlock = some g → (Value.slice (some ⟨g58, 0, none⟩) (k + 1) c58).ownBlock ≠ some g := fun j hj g h1 h2 => by
                  have a1 := ((HQr.out.each j hj).lt g h1).2
                  have a2 := (hown58.lt g h2).1
                  omega
                refine ⟨un' ++ [.slice (some ⟨g58, 0, none⟩) (k + 1) c58], (bl_alloc' (bt HBr.out hb58) _).grown hgrow60 (by simp; omega) (fun q hq => (ho58.lt q hq).1), ?_, ?_⟩
                · rw [HMX.out, ← List.append_assoc]
                  have := hQ58.step hrow hap (by rw [hlen]; exact hown60) hgrow60
                  exact this
                · have hX58 := own_below HXr.out hb58
                  refine own_move hX58 fun g hg => ?_
                  obtain ⟨cur, hcur⟩ := own_typ hX58 hg
                  exact kept_of hgrow60 (hX58.lt g hg).2 (own_ne ho58 ⟨cur, hcur⟩ (by decide)))
              clear hown60 hgrow60 hat60 hlt60 hown58 hgrow58 hat58 hlt58 ho58 hb58 hb55 ho55
              go_roundw
              case rel => exact ⟨m + 1, _, by omega, by go_num, rfl, HN⟩
              case measure => simp [intOf]; omega
            · obtain rfl : m = nx := by omega
              have i3 : ¬ ((m : Int) < (m : Int)) := by omega
              have HQf : Hid (RQ wr wo.heap.size vn' un' (nxL (nxJ tl o) L (i + 1))) := hid (by
                rw [HLsi.out]
                have := HQr.out
                unfold mxL at this
                rw [HNX.out, List.take_length] at this
                exact this)
              have HLe := hid (HLle.out (i + 1))
              have hlf : (nxL (nxJ tl o) L (i + 1)).length = (nxL (nxJ tl o) L i).length + m := by rw [HLsi.out, List.length_append, List.length_map, ← HNX.out]
              obtain ⟨av, cv, ev, -, -⟩ := HQf.out.rs.sl
              rw [hlf] at ev
              subst ev
              clear HQr HXr hlen
              by_cases hbig : (nxL (nxJ tl o) L i).length + m ≤ 10000
              · have q9 : ¬ ((10000 : Int) < (((nxL (nxJ tl o) L i).length + m : Nat) : Int)) := by omega
                have HN : Hid (∃ un, Below wo.heap.size wo wr ∧ RQ wr wo.heap.size (.slice av ((nxL (nxJ tl o) L i).length + m) cv) un (nxL (nxJ tl o) L (i + 1)) ∧ (nxL (nxJ tl o) L (i + 1)).length ≤ 10000) := hid ⟨_, HBr.out, HQf.out, by omega⟩
                clear HQf hlf
                generalize (nxL (nxJ tl o) L i).length + m = tot at *
                go_wp2_with fail
                go_roundw
                case rel => exact ⟨i + 1, _, by omega, by go_num, rfl, HN⟩
                case measure => simp [intOf]; omega
              · have q9 : ((10000 : Int) < (((nxL (nxJ tl o) L i).length + m : Nat) : Int)) := by omega
                have hno : smJ tl o no = false := HSm.out.2.2 k no hlt (by have := HLe.out; omega)
                have HNO := hid hno
                clear hlf HQf hno
                generalize (nxL (nxJ tl o) L i).length + m = tot at *
                go_wp2_with fail
                go_ret2
                exact ⟨_, by rw [HAN.out, HNO.out]; rfl, by rw [HAL.out, HNO.out]; exact ⟨_, 0, rfl, Or.inl rfl⟩, bt HBw.out (bl_alloc' HBr.out _)⟩
        · obtain rfl : i = nl := by omega
          have i2 : ¬ ((i : Int) < (i : Int)) := by omega
          obtain ⟨av, cv, ev, -, -⟩ := HQm.out.rs.sl
          subst ev
          have HFl : Hid (ISSn wr (.slice av (nxL (nxJ tl o) L i).length cv) (lvJ tl o (k + 1))) := hid (by
            rw [HLn.out]
            exact HQm.out.issn fun j hj => by
              have hm : (nxL (nxJ tl o) L i).getD j [] ∈ lvJ tl o (k + 1) := by rw [HLn.out, List.getD_eq_getElem?_getD, List.getElem?_eq_getElem hj]; exact List.getElem_mem _
              have := HLl.out (k + 1) _ hm
              omega)
          have HFs : Hid (smJ tl o (k + 1) = true ∧ vis + (nxL (nxJ tl o) L i).length = viJ tl o (k + 1)) := hid ⟨by rw [HSm.out.2.1, HSmk.out, Bool.true_and]; exact decide_eq_true (by rw [HLn.out]; exact hlm), by rw [HVi.out.2.1, HVik.out, HLn.out]⟩
          have HBf := hid (bt HB4w.out HBm.out)
          clear HQm HBm HCl
          generalize (nxL (nxJ tl o) L i).length = tot at *
          have hvb2 : vis + tot ≤ 100000000 := by omega
          go_wp2_with fail
          go_roundw
          case rel => exact ⟨k + 1, vis + tot, _, by omega, by go_num, by first | rfl | go_num | (rw [Int.natCast_add]), rfl, hid ⟨HFs.out.1, HFs.out.2, HFl.out, HBf.out⟩⟩
          case measure => simp [intOf]; omega
    · obtain rfl : k = no := by omega
      have i1 : ¬ ((k : Int) < (k : Int)) := by omega
      obtain ⟨hsm, hvis, hIl, hBw⟩ := HT.out
      have HF : Hid (smJ tl o k = true ∧ vis = viJ tl o k ∧ ISS wr vl (lvJ tl o k) ∧ Below w.heap.size w wr) := hid ⟨hsm, hvis, hIl.iss, bt HB4.out hBw⟩
      clear HT hsm hvis hIl hBw
      go_wp2_with fail
      go_ret2
      obtain ⟨h1, h2, h3, h4⟩ := HF.out
      exact ⟨_, by rw [HAN.out, h1, if_pos rfl, ← h2]; rfl, by rw [HAL.out, h1, if_pos rfl]; exact h3, h4⟩

end Go.Proofs.YtnbbbbfamlmfpaaGreat
