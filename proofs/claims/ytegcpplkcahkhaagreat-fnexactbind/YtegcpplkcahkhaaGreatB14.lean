import Derived.Test.YtegcpplkcahkhaaGreatB11
/-
  spec.DataOK.
-/
namespace Go.Proofs.YtegcpplkcahkhaaGreat
open Go.RowKit

structure RB (w : World) (dB rB : Nat) (vd v0 v1 v2 v3 : Value) (W : World) : Prop where
  d0 : W.cell? ⟨dB, 0, none⟩ = some vd
  r0 : W.cell? ⟨rB, 0, none⟩ = some v0
  r1 : W.cell? ⟨rB, 1, none⟩ = some v1
  r2 : W.cell? ⟨rB, 2, none⟩ = some v2
  r3 : W.cell? ⟨rB, 3, none⟩ = some v3
  dl : dB < W.heap.size
  rl : rB < W.heap.size
  below : Below dB w W

theorem RB.step {w W W' : World} {dB rB : Nat} {vd v0 v1 v2 v3 : Value} (h : RB w dB rB vd v0 v1 v2 v3 W) (hb : Below W.heap.size W W') : RB w dB rB vd v0 v1 v2 v3 W' where
  d0 := (hb.cell (p := ⟨dB, 0, none⟩) h.dl).trans h.d0
  r0 := (hb.cell (p := ⟨rB, 0, none⟩) h.rl).trans h.r0
  r1 := (hb.cell (p := ⟨rB, 1, none⟩) h.rl).trans h.r1
  r2 := (hb.cell (p := ⟨rB, 2, none⟩) h.rl).trans h.r2
  r3 := (hb.cell (p := ⟨rB, 3, none⟩) h.rl).trans h.r3
  dl := Nat.lt_of_lt_of_le h.dl hb.size
  rl := Nat.lt_of_lt_of_le h.rl hb.size
  below := h.below.trans (hb.mono (Nat.le_of_lt h.dl))

theorem RB.drewN {w W : World} {dB rB : Nat} {vd v0 v1 v2 v3 : Value} (h : RB w dB rB vd v0 v1 v2 v3 W) (d : Nat) : RB w dB rB vd v0 v1 v2 v3 (W.drewN d) := h.step (below_drewN (Below.refl _ _) d)

theorem between_val (w : World) (x lo hi : Int) : Calls Tryz.prog 74 #[.int .i64 x, .int .i64 lo, .int .i64 hi] w fun e w' => e = .returned (.bool (decide (lo ≤ x) && decide (x ≤ hi))) ∧ w' = w := by
  by_cases h1 : lo ≤ x
  · by_cases h2 : x ≤ hi
    · rw [decide_eq_true h1, decide_eq_true h2]; exact between_yes x lo hi w h1 h2
    · rw [decide_eq_true h1, decide_eq_false h2]; exact between_no2 x lo hi w h1 (by omega)
  · rw [decide_eq_false h1]; exact between_no1 x lo hi w (by omega)

theorem named_hit {ds : List RelV} {k i : Nat} {s : ByteArray} (hi : i < k) (h : (ds.getD i noRel).name = s) : namedB ds k s = true :=
  List.any_eq_true.2 ⟨i, by simpa using hi, decide_eq_true h⟩
theorem named_miss {ds : List RelV} {k : Nat} {s : ByteArray} (h : ∀ i, i < k → (ds.getD i noRel).name ≠ s) : namedB ds k s = false :=
  List.any_eq_false.2 fun i hi => by simpa using h i (by simpa using hi)

theorem beq_names (a b : ByteArray) : (a.toList == b.toList) = decide (a = b) := by
  rw [ByteArray.toList_eq, ByteArray.toList_eq]
  by_cases h : a = b
  · subst h; simp
  · rw [decide_eq_false h]
    simp only [beq_eq_false_iff_ne, ne_eq]
    exact fun e => h (WideShapes.bytes_inj e)

set_option maxHeartbeats 8000000 in
set_option maxRecDepth 1000000 in
theorem sDataOK_calls (w : World) (v : Value) (ds : List RelV) (h : IRelS w v ds) (hr : OkRels ds) (hcap : ∀ a n cap, v = .slice a n cap → n ≤ cap) :
    Calls Tryz.prog 46 #[.agg #[v]] w fun e w' => e = .returned (.bool (dataB ds)) ∧ Below w.heap.size w w' := by
  have HB0 : Hid (Below w.heap.size w (w.alloc (.cells #[v] 35))) := hid ((Below.refl _ _).alloc (Nat.le_refl _) _)
  have HD0 : Hid ((w.alloc (.cells #[v] 35)).cell? ⟨w.heap.size, 0, none⟩ = some v) := hid (by simp [go_sem])
  have HR := hid hr.2
  have hr1 := hr.1
  obtain ⟨a, cap, rfl, hc⟩ := h
  have hcp := hcap _ _ _ rfl
  have HC := hid hc
  obtain ⟨n, hn⟩ : ∃ n, n = ds.length := ⟨_, rfl⟩
  obtain ⟨res, hres⟩ : ∃ r, r = dataB ds := ⟨_, rfl⟩
  rw [← hres]
  have HL : Hid (50 < n → res = false) := hid (fun h => hres.trans (dataB_long (by rw [← hn]; exact h)))
  have HT : Hid (n ≤ 50 → (∀ i, i < n → relAtB ds i = true) → res = true) := hid (fun h1 h2 => hres.trans (dataB_true (by rw [← hn]; exact h1) (by rw [← hn]; exact h2)))
  have HF : Hid (∀ i, i < n → relAtB ds i = false → res = false) := hid (fun i h1 h2 => hres.trans (dataB_false (by rw [← hn]; exact h1) h2))
  rw [← hn] at HC HB0 HD0 hr1 hcp ⊢
  clear hc hn hres hr hcap
  by_cases h50 : 50 < n
  · have hf := hid (HL.out h50)
    have i1 : (50 : Int) < (n : Int) := by omega
    go_enter Tryz.func46, Tryz.ntmps46
    go_wp2
    go_ret
    exact ⟨ret_bool (by rw [hf.out]), HB0.out⟩
  have i1 : ¬ ((50 : Int) < (n : Int)) := by omega
  go_enter Tryz.func46, Tryz.ntmps46
  go_wp2
  go_loopw [20] (fun t wr => ∃ k : Nat, k ≤ n ∧ t = .int .i64 k ∧ Hid (Below w.heap.size w wr ∧ wr.cell? ⟨w.heap.size, 0, none⟩ = some (.slice a n cap) ∧ ∀ i, i < k → relAtB ds i = true)) (fun t _ => n - (intOf t).toNat)
  case atStart => exact ⟨0, Nat.zero_le _, rfl, hid ⟨HB0.out, HD0.out, fun i hi => by omega⟩⟩
  case round =>
    obtain ⟨k, hk, rfl, hH⟩ := hrel
    obtain ⟨hnx, hd0, hok⟩ := hH.out
    have hns := hnx.size
    by_cases hkn : k < n
    · have j1 : (k : Int) < (n : Int) := by omega
      rcases HC.out with h0 | ⟨b, o, rfl, hrel⟩
      · omega
      · obtain ⟨vr, vw, c0, c1, c2, c3, hir⟩ := (hrel k hkn).below hnx
        have hokr := HR.out k
        have hat : relAtB ds k = (relB (ds.getD k noRel) && !namedB ds k (ds.getD k noRel).name) := rfl
        unfold relB relName at hat
        have hfin := HF.out k hkn
        have hnxt : relAtB ds k = true → Hid (∀ i, i < k + 1 → relAtB ds i = true) := fun e => hid (fun i hi => by
          by_cases e2 : i = k
          · rw [e2]; exact e
          · exact hok i (by omega))
        rw [hat] at hfin hnxt
        have hz := hokr.name
        have HS := hid hokr.rows
        have HW := hid hokr.ws
        have HY1 : Hid (∀ i, i < k → (ds.getD i noRel).name = (ds.getD k noRel).name → namedB ds k (ds.getD k noRel).name = true) := hid (fun i hi e => named_hit hi e)
        have HY0 : Hid ((∀ i, i < k → (ds.getD i noRel).name ≠ (ds.getD k noRel).name) → namedB ds k (ds.getD k noRel).name = false) := hid named_miss
        have hRB : RB w w.heap.size wr.heap.size (.slice (some ⟨b, o, none⟩) n cap) (.string (ds.getD k noRel).name) (.int .i64 (ds.getD k noRel).ar) vr vw (wr.alloc (.cells #[.string (ds.getD k noRel).name, .int .i64 (ds.getD k noRel).ar, vr, vw] 65)) :=
          ⟨by rw [World.cell?_alloc_past _ _ _ (World.block_lt_of_cell? wr _ hd0)]; exact hd0, by simp [go_sem], by simp [go_sem], by simp [go_sem], by simp [go_sem], by have := World.block_lt_of_cell? wr _ hd0; simp at this ⊢; omega, by simp, hnx.alloc hns _⟩
        have HIR : Hid (IRel (wr.alloc (.cells #[.string (ds.getD k noRel).name, .int .i64 (ds.getD k noRel).ar, vr, vw] 65)) vr vw (ds.getD k noRel)) := hid (hir.below ((Below.refl _ _).alloc (Nat.le_refl _) _))
        have HRB := hid hRB
        have KN := hid (l2Name_calls (wr.alloc (.cells #[.string (ds.getD k noRel).name, .int .i64 (ds.getD k noRel).ar, vr, vw] 65)) (ds.getD k noRel).name hz)
        have KA : Hid (Calls Tryz.prog 74 #[.int .i64 (ds.getD k noRel).ar, .int .i64 1, .int .i64 3] (wr.alloc (.cells #[.string (ds.getD k noRel).name, .int .i64 (ds.getD k noRel).ar, vr, vw] 65)) fun e w' => e = .returned (.bool (arityB (ds.getD k noRel).ar)) ∧ w' = wr.alloc (.cells #[.string (ds.getD k noRel).name, .int .i64 (ds.getD k noRel).ar, vr, vw] 65)) := hid (between_val _ _ _ _)
        have HREL := hid hrel
        obtain ⟨a1, k1, rfl, -⟩ := hir.rows
        obtain ⟨a2, k2, rfl, -⟩ := hir.ws
        have HI1 := hid HIR.out.rows
        have HI2 := hid HIR.out.ws
        have hrl1 := hokr.rows.1
        have hwl1 := hokr.ws
        have hdl := World.block_lt_of_cell? wr _ hd0
        clear hH hok hat hokr hir hRB hrel HIR
        generalize namedB ds k (ds.getD k noRel).name = y at *
        generalize (ds.getD k noRel).rows = rows at *
        generalize (ds.getD k noRel).ws = ws at *
        generalize (ds.getD k noRel).ar = ar at *
        generalize (ds.getD k noRel).name = nm at *
        generalize arityB ar = b3 at *
        generalize nameB nm = b1 at *
        cases b1
        case false =>
          have hf := hid (hfin (by simp))
          clear hfin hnxt
          go_wp2_with (first | (go_at_call 73; refine KN.out.mono ?_; rintro e w' ⟨rfl, hw'⟩; subst w') | (go_at_call 74; refine KA.out.mono ?_; rintro e w' ⟨rfl, hw'⟩; subst w'))
          go_ret
          exact ⟨ret_bool (by rw [hf.out]), HRB.out.below⟩
        cases hb2 : (nm.toList == [114, 101, 108])
        case true =>
          have hf := hid (hfin (by rw [hb2]; simp))
          clear hfin hnxt
          go_wp2_with (first | (go_at_call 73; refine KN.out.mono ?_; rintro e w' ⟨rfl, hw'⟩; subst w') | (go_at_call 74; refine KA.out.mono ?_; rintro e w' ⟨rfl, hw'⟩; subst w'))
          go_ret
          exact ⟨ret_bool (by rw [hf.out]), HRB.out.below⟩
        cases b3
        case false =>
          have hf := hid (hfin (by simp))
          clear hfin hnxt
          go_wp2_with (first | (go_at_call 73; refine KN.out.mono ?_; rintro e w' ⟨rfl, hw'⟩; subst w') | (go_at_call 74; refine KA.out.mono ?_; rintro e w' ⟨rfl, hw'⟩; subst w'))
          go_ret
          exact ⟨ret_bool (by rw [hf.out]), HRB.out.below⟩
        by_cases h2000 : 2000 < rows.length
        · have i2 : (2000 : Int) < (rows.length : Int) := by omega
          have hf := hid (hfin (by rw [decide_eq_false (show ¬ rows.length ≤ 2000 by omega)]; simp))
          clear hfin hnxt
          go_wp2_with (first | (go_at_call 73; refine KN.out.mono ?_; rintro e w' ⟨rfl, hw'⟩; subst w') | (go_at_call 74; refine KA.out.mono ?_; rintro e w' ⟨rfl, hw'⟩; subst w'))
          go_ret
          exact ⟨ret_bool (by rw [hf.out]), HRB.out.below⟩
        have i2 : ¬ ((2000 : Int) < (rows.length : Int)) := by omega
        rw [hb2, decide_eq_true (show rows.length ≤ 2000 by omega)] at hfin hnxt
        simp only [Bool.not_false, Bool.and_true, Bool.true_and] at hfin hnxt
        have i3 : (k : Int) ≤ (cap : Int) := by omega
        go_wp2_with (first | (go_at_call 73; refine KN.out.mono ?_; rintro e w' ⟨rfl, hw'⟩; subst w') | (go_at_call 74; refine KA.out.mono ?_; rintro e w' ⟨rfl, hw'⟩; subst w'))
        generalize wr.heap.size = rB at *
        generalize wr.alloc (.cells #[.string nm, .int .i64 ar, .slice a1 rows.length k1, .slice a2 ws.length k2] 65) = wB at *
        clear KN KA c0 c1 c2 c3 hd0 hdl hns hnx
        go_loopw [51] (fun t W => ∃ j : Nat, j ≤ k ∧ t = .int .i64 j ∧ Hid (Below wB.heap.size wB W ∧ ∀ i, i < j → (ds.getD i noRel).name ≠ nm)) (fun t _ => k - (intOf t).toNat)
        case atStart => exact ⟨0, Nat.zero_le _, rfl, hid ⟨Below.refl _ _, fun i hi => by omega⟩⟩
        case round =>
          obtain ⟨j, hj, rfl, hHj⟩ := hrel
          obtain ⟨hbj, hnj⟩ := hHj.out
          have hRBj := HRB.out.step hbj
          by_cases hjk : j < k
          · have q1 : (j : Int) < (k : Int) := by omega
            obtain ⟨ur, uw, e0, e1, e2, e3, hirj⟩ := (HREL.out j (by omega)).below hRBj.below
            have r0 := hRBj.r0
            have rl := hRBj.rl
            obtain ⟨x1, y1, rfl, -⟩ := hirj.rows
            obtain ⟨x2, y2, rfl, -⟩ := hirj.ws
            have HRJ := hid hRBj
            have HBJ := hid hbj
            have hy1 := HY1.out j hjk
            have hnx : (ds.getD j noRel).name ≠ nm → Hid (∀ i, i < j + 1 → (ds.getD i noRel).name ≠ nm) := fun e => hid (fun i hi => by
              by_cases e2 : i = j
              · rw [e2]; exact e
              · exact hnj i (by omega))
            clear hHj hbj hnj hRBj hirj
            generalize (ds.getD j noRel).rows.length = m1 at *
            generalize (ds.getD j noRel).ws.length = m2 at *
            generalize (ds.getD j noRel).ar = arj at *
            generalize (ds.getD j noRel).name = nj at *
            have hbq := beq_names nj nm
            by_cases he : nj = nm
            · have hf := hid (hfin (by rw [hy1 he]; simp))
              rw [decide_eq_true he] at hbq
              clear hfin hnxt hy1 hnx
              go_wp2
              go_ret
              exact ⟨ret_bool (by rw [hf.out]), (HRJ.out.step ((Below.refl _ _).alloc (Nat.le_refl _) _)).below⟩
            · have hf := hnx he
              rw [decide_eq_false he] at hbq
              clear hy1 hnx
              go_wp2
              go_roundw
              case rel => exact ⟨j + 1, by omega, by go_num, hid ⟨HBJ.out.alloc HBJ.out.size _, hf.out⟩⟩
              case measure => simp [intOf]; omega
          · obtain rfl : j = k := by omega
            have q1 : ¬ ((j : Int) < (j : Int)) := by omega
            rw [HY0.out hnj] at hfin hnxt
            simp only [Bool.not_false, Bool.and_true] at hfin hnxt
            have K4 := hid (l2SortedRows_calls wr _ rows ar (HI1.out.below hbj) HS.out)
            have r1 := hRBj.r1
            have r2 := hRBj.r2
            have r3 := hRBj.r3
            have HRJ := hid hRBj
            have HJ1 := hid (HI1.out.below hbj)
            have HJ2 := hid (HI2.out.below hbj)
            clear hHj hbj hnj hRBj HY0 HY1 HI1 HI2
            generalize rowsB rows ar = b4 at *
            cases b4
            case false =>
              have hf := hid (hfin (by simp))
              clear hfin hnxt
              go_wp2_with (first | (go_at_call 75; refine K4.out.mono ?_; rintro e w' ⟨rfl, q, hw'⟩; subst w'))
              go_ret
              exact ⟨ret_bool (by rw [hf.out]), (HRJ.out.drewN _).below⟩
            by_cases hlen : ws.length = rows.length
            case neg =>
              have hf := hid (hfin (by rw [decide_eq_false hlen]; simp))
              have q2 : ((ws.length : Int) != (rows.length : Int)) = true := by simp; omega
              clear hfin hnxt
              go_wp2_with (first | (go_at_call 75; refine K4.out.mono ?_; rintro e w' ⟨rfl, q, hw'⟩; subst w'))
              go_ret
              exact ⟨ret_bool (by rw [hf.out]), (HRJ.out.drewN _).below⟩
            have q2 : ((ws.length : Int) != (rows.length : Int)) = false := by simp; omega
            rw [decide_eq_true hlen] at hfin hnxt
            simp only [Bool.true_and, Bool.and_true] at hfin hnxt
            go_wp2_with fail
            refine K4.out.mono ?_
            rintro e W2 ⟨rfl, q, hW2⟩
            have HR2 : Hid (RB w w.heap.size rB (.slice (some ⟨b, o, none⟩) n cap) (.string nm) (.int .i64 ar) (.slice a1 rows.length k1) (.slice a2 ws.length k2) W2) := hid (by rw [hW2]; exact HRJ.out.drewN _)
            have HV2 : Hid (ISS W2 (.slice a1 rows.length k1) rows) := hid (by rw [hW2]; exact HJ1.out.below (below_drewN (Below.refl _ _) _))
            have HU2 : Hid (IS W2 (.slice a2 ws.length k2) ws) := hid (by rw [hW2]; exact HJ2.out.below (below_drewN (Below.refl _ _) _))
            clear hW2 r1 r2 r3 K4 HRJ HJ1 HJ2
            have r2 := HR2.out.r2
            have r3 := HR2.out.r3
            have HFA : Hid (∀ i, i < rows.length → (rows.getD i []).all valB = false → res = false) := hid (fun i hi e => hfin (by rw [all_getD_false (fun l => l.all valB) [] rows i hi e, Bool.false_and]))
            have HFB : Hid (∀ i, i < ws.length → wtB (ws.getD i 0) = false → res = false) := hid (fun i hi e => hfin (by rw [all_getD_false wtB 0 ws i hi e, Bool.and_false]))
            have HTT : Hid ((∀ i, i < rows.length → (rows.getD i []).all valB = true) → (∀ i, i < ws.length → wtB (ws.getD i 0) = true) → ∀ i, i < j + 1 → relAtB ds i = true) := hid (fun e1 e2 => (hnxt (by rw [all_getD (fun l => l.all valB) [] rows e1, all_getD wtB 0 ws e2]; rfl)).out)
            have KV : Hid (∀ x : Int, Calls Tryz.prog 74 #[.int .i64 x, .int .i64 0, .int .i64 1000000] W2 fun e w' => e = .returned (.bool (valB x)) ∧ w' = W2) := hid (fun x => between_val _ _ _ _)
            have KW : Hid (∀ x : Int, Calls Tryz.prog 74 #[.int .i64 x, .int .i64 (-1000000), .int .i64 1000000] W2 fun e w' => e = .returned (.bool (wtB x)) ∧ w' = W2) := hid (fun x => between_val _ _ _ _)
            clear hfin hnxt
            go_wp2
            go_loop [79] (fun t => ∃ i : Nat, i ≤ rows.length ∧ t = .int .i64 i ∧ Hid (∀ q, q < i → (rows.getD q []).all valB = true)) (fun t => rows.length - (intOf t).toNat)
            case atStart => exact ⟨0, Nat.zero_le _, rfl, hid (fun i hi => by omega)⟩
            case round =>
              obtain ⟨i, hi, rfl, hoi⟩ := hrel
              by_cases hin : i < rows.length
              · have q3 : (i : Int) < (rows.length : Int) := by omega
                obtain ⟨a3, k3, hv3, hcl0⟩ := HV2.out
                simp only [Value.slice.injEq] at hv3
                obtain ⟨rfl, -, rfl⟩ := hv3
                rcases hcl0 with h0 | ⟨b', o', rfl, hcl⟩
                · omega
                · obtain ⟨u, d1, hu⟩ := hcl i hin
                  have hml := HS.out.2 i
                  have HF3 : Hid (∀ q, q < (rows.getD i []).length → valB ((rows.getD i []).getD q 0) = false → res = false) := hid (fun q hq e => HFA.out i hin (all_getD_false valB 0 _ q hq e))
                  have HX3 : Hid ((∀ q, q < (rows.getD i []).length → valB ((rows.getD i []).getD q 0) = true) → ∀ q, q < i + 1 → (rows.getD q []).all valB = true) := hid (fun e q hq => by
                    by_cases e2 : q = i
                    · rw [e2]; exact all_getD valB 0 _ e
                    · exact hoi.out q (by omega))
                  obtain ⟨a4, k4, rfl, hu2⟩ := hu
                  have HU := hid hu2
                  clear hcl hoi hu2
                  generalize rows.getD i [] = l at *
                  obtain ⟨m, hm⟩ : ∃ m, m = l.length := ⟨_, rfl⟩
                  rw [← hm] at d1 hml HU HF3 HX3
                  clear hm
                  go_wp2
                  go_loop [85] (fun t => ∃ q : Nat, q ≤ m ∧ t = .int .i64 q ∧ Hid (∀ z, z < q → valB (l.getD z 0) = true)) (fun t => m - (intOf t).toNat)
                  case atStart => exact ⟨0, Nat.zero_le _, rfl, hid (fun i hi => by omega)⟩
                  case round =>
                    obtain ⟨q, hq, rfl, hoq⟩ := hrel
                    by_cases hqm : q < m
                    · have q4 : (q : Int) < (m : Int) := by omega
                      rcases HU.out with h0 | ⟨b4, o4, rfl, hc4⟩
                      · omega
                      · have d2 : W2.cell? ⟨b4, o4 + q, none⟩ = some (.int .i64 (l.getD q 0)) := hc4 q hqm
                        have fin := HF3.out q hqm
                        have nxt : valB (l.getD q 0) = true → Hid (∀ z, z < q + 1 → valB (l.getD z 0) = true) := fun e => hid (fun z hz => by
                          by_cases e2 : z = q
                          · rw [e2]; exact e
                          · exact hoq.out z (by omega))
                        clear hc4 hoq
                        generalize l.getD q 0 = x at *
                        have K5 := hid (KV.out x)
                        generalize valB x = bx at *
                        cases bx
                        · have hf := hid (fin rfl)
                          clear fin nxt
                          go_wp2_with (first | (go_at_call 74; refine K5.out.mono ?_; rintro e w' ⟨rfl, hw'⟩; subst w'))
                          go_ret
                          exact ⟨ret_bool (by rw [hf.out]), HR2.out.below⟩
                        · have hf := nxt rfl
                          clear fin nxt
                          go_wp2_with (first | (go_at_call 74; refine K5.out.mono ?_; rintro e w' ⟨rfl, hw'⟩; subst w'))
                          go_round
                          case rel => exact ⟨q + 1, by omega, by go_num, hf⟩
                          case measure => simp [intOf]; omega
                    · obtain rfl : q = m := by omega
                      have q4 : ¬ ((q : Int) < (q : Int)) := by omega
                      have hf := hid (HX3.out hoq.out)
                      clear hoq
                      go_wp2
                      go_round
                      case rel => exact ⟨i + 1, by omega, by go_num, hf⟩
                      case measure => simp [intOf]; omega
              · obtain rfl : i = rows.length := by omega
                have q3 : ¬ ((rows.length : Int) < (rows.length : Int)) := by omega
                have HOA := hid hoi.out
                clear hoi
                go_wp2
                go_loop [97] (fun t => ∃ q : Nat, q ≤ ws.length ∧ t = .int .i64 q ∧ Hid (∀ z, z < q → wtB (ws.getD z 0) = true)) (fun t => ws.length - (intOf t).toNat)
                case atStart => exact ⟨0, Nat.zero_le _, rfl, hid (fun i hi => by omega)⟩
                case round =>
                  obtain ⟨q, hq, rfl, hoq⟩ := hrel
                  by_cases hqm : q < ws.length
                  · have q4 : (q : Int) < (ws.length : Int) := by omega
                    obtain ⟨a3, k3, hv3, hcl0⟩ := HU2.out
                    simp only [Value.slice.injEq] at hv3
                    obtain ⟨rfl, -, rfl⟩ := hv3
                    rcases hcl0 with h0 | ⟨b4, o4, rfl, hc4⟩
                    · omega
                    · have d2 : W2.cell? ⟨b4, o4 + q, none⟩ = some (.int .i64 (ws.getD q 0)) := hc4 q hqm
                      have fin := HFB.out q hqm
                      have nxt : wtB (ws.getD q 0) = true → Hid (∀ z, z < q + 1 → wtB (ws.getD z 0) = true) := fun e => hid (fun z hz => by
                        by_cases e2 : z = q
                        · rw [e2]; exact e
                        · exact hoq.out z (by omega))
                      clear hc4 hoq
                      generalize ws.getD q 0 = x at *
                      have K5 := hid (KW.out x)
                      generalize wtB x = bx at *
                      cases bx
                      · have hf := hid (fin rfl)
                        clear fin nxt
                        go_wp2_with (first | (go_at_call 74; refine K5.out.mono ?_; rintro e w' ⟨rfl, hw'⟩; subst w'))
                        go_ret
                        exact ⟨ret_bool (by rw [hf.out]), HR2.out.below⟩
                      · have hf := nxt rfl
                        clear fin nxt
                        go_wp2_with (first | (go_at_call 74; refine K5.out.mono ?_; rintro e w' ⟨rfl, hw'⟩; subst w'))
                        go_round
                        case rel => exact ⟨q + 1, by omega, by go_num, hf⟩
                        case measure => simp [intOf]; omega
                  · obtain rfl : q = ws.length := by omega
                    have q4 : ¬ ((ws.length : Int) < (ws.length : Int)) := by omega
                    have hf := hid (HTT.out HOA.out hoq.out)
                    clear hoq
                    go_wp2
                    go_roundw
                    case rel => exact ⟨j + 1, by omega, by go_num, hid ⟨HR2.out.below, HR2.out.d0, hf.out⟩⟩
                    case measure => simp [intOf]; omega
    · obtain rfl : k = n := by omega
      have j1 : ¬ ((k : Int) < (k : Int)) := by omega
      have hf := hid (HT.out (by omega) hok)
      have HNX := hid hnx
      clear hH hok hnx
      go_wp2
      go_ret
      exact ⟨ret_bool (by rw [hf.out]), HNX.out⟩

end Go.Proofs.YtegcpplkcahkhaaGreat
