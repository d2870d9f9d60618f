import Derived.Test.YtcdfoephhjacdaaDoorQ47
/-
  spec.l2Line at a row's line.
-/
namespace Go.Proofs.YtcdfoephhjacdaaDoor
open Go.RowKit

/-- what may be put a row in -/
def DsOk (ds : List RelV) : Prop := ds.length ≤ 50 ∧ ∀ i, i < ds.length → (ds.getD i noRel).rows.length ≤ 2000 ∧ (∀ j, j < (ds.getD i noRel).rows.length → ((ds.getD i noRel).rows.getD j []).length ≤ 1000) ∧ ∃ ar : Nat, (ds.getD i noRel).ar = (ar : Int) ∧ 1 ≤ ar ∧ ar ≤ 3

set_option maxHeartbeats 8000000 in
set_option maxRecDepth 1000000 in
theorem l2Line_row (w : World) (B : Nat) (v : Value) (ds : List RelV) (vr vw : Nat → Value) (us : Nat → List Value) (h : SQ w B v ds vr vw us) (hB : B ≤ w.heap.size) (hds : DsOk ds) (vf : Value) (f : List (List UInt8)) (hf : FS w vf f) (hf1 : 1 ≤ f.length) (hf2 : f.length ≤ 1000000) (hfl : ∀ j, (f.getD j []).length ≤ 1000000) (hrel : f.getD 0 [] ≠ [114, 101, 108]) :
    Calls Tryd.prog 16 #[.agg #[v], vf] w (RowE w B ds f) := by
  obtain ⟨i0, hi, hz0, hz1, hz2⟩ := info_parts Tryd.infoIw
  obtain ⟨W1, hW1, hB1, hX1, hY1⟩ := two_boxes w v
  obtain ⟨a, c, rfl, hc, hcell⟩ := hf
  obtain ⟨g, o, rfl, hcs⟩ : ∃ g o, a = some ⟨g, o, none⟩ ∧ ∀ j, j < f.length → w.cell? ⟨g, o + j, none⟩ = some (.string ⟨(f.getD j []).toArray⟩) := by
    rcases hcell with e | e
    · omega
    · exact e
  have HCS := hid hcs
  have c0 : W1.cell? ⟨g, o, none⟩ = some (.string ⟨(f.getD 0 []).toArray⟩) := bclR hB1 (by have := hcs 0 (by omega); rw [Nat.add_zero] at this; exact this)
  have q0 : ((⟨(f.getD 0 []).toArray⟩ : ByteArray).toList == [114, 101, 108]) = false := by
    rw [ByteArray.toList_eq]
    simp only [beq_eq_false_iff_ne, ne_eq]
    exact fun e => hrel (by simpa using e)
  obtain ⟨aV, cV, rfl⟩ := own_shapeR h.own
  have HS := hid (h.below hB1)
  have HB1 := hid hB1
  have HX1 := hid hX1
  have HY1 := hid hY1
  have HOK := hid hds
  have d0 := hX1.cell
  have r0 := hY1.cell
  have rf := hY1.frozen
  have HFL := hid hfl
  have KR : Hid (∀ W, (W.cell? ⟨w.heap.size, 0, none⟩ = some (.slice aV ds.length cV) ∧ W.cell? ⟨g, o, none⟩ = some (.string ⟨(f.getD 0 []).toArray⟩) ∧ Below W1.heap.size W1 W) → Calls Tryd.prog 35 #[.agg #[.slice aV ds.length cV], .string ⟨(f.getD 0 []).toArray⟩] W fun e w' => ∃ z : Int, e = .returned (.int .i64 z) ∧ RelIx ds ⟨(f.getD 0 []).toArray⟩ z ∧ Below W1.heap.size W1 w') := hid fun W hW => by
    refine (l2Rel_calls W _ ds _ (HS.out.below hW.2.2).irels (by have := HOK.out.1; omega)).mono ?_
    rintro e w' ⟨z, rfl, hz, hb⟩
    exact ⟨z, rfl, hz, bt hW.2.2 hb⟩
  have HSS : Hid (∀ W, Below W1.heap.size W1 W → W.cell? ⟨w.heap.size, 0, none⟩ = some (.slice aV ds.length cV) ∧ W.cell? ⟨g, o, none⟩ = some (.string ⟨(f.getD 0 []).toArray⟩) ∧ Below W1.heap.size W1 W) := hid fun W hW => ⟨bclR hW d0, bclR hW c0, hW⟩
  have HNo : Hid (∀ w' x, SlV x → (namS ds ⟨(f.getD 0 []).toArray⟩ = false ∨ ∃ i ar : Nat, RelIx ds ⟨(f.getD 0 []).toArray⟩ i ∧ (ds.getD i noRel).ar = ar ∧ rowB ar f = false) → Below w.heap.size w w' → RowE w B ds f (.returned (.tuple #[.agg #[x], .bool false])) w') := hid fun w' x hx hd hb => ⟨x, false, rfl, hx, hb.mono hB, KeepU.below hb, Or.inl ⟨rfl, hd⟩⟩
  have HYe : Hid (∀ (i ar : Nat) ok w' x, SlV x → RelIx ds ⟨(f.getD 0 []).toArray⟩ i → (ds.getD i noRel).ar = ar → rowB ar f = true → RowP B ds f i ar ok w' x → Below B w w' → KeepU w w' → RowE w B ds f (.returned (.tuple #[.agg #[x], .bool ok])) w') := hid fun i ar ok w' x hx h1 h2 h3 h4 hb hk => ⟨x, ok, rfl, hx, hb, hk, Or.inr ⟨i, ar, h1, h2, h3, h4⟩⟩
  clear hcell hcs hrel hfl h hB1 hX1 hY1 hds
  obtain ⟨n, hn⟩ : ∃ n, n = f.length := ⟨_, rfl⟩
  have HN := hid hn
  rw [← hn] at hc hf1 hf2 ⊢
  clear hn
  have hn0 : (0 : Int) < (n : Int) := by omega
  have hn00 : 0 < n := by omega
  generalize (⟨(f.getD 0 []).toArray⟩ : ByteArray) = f0 at *
  go_enter Tryd.func16, Tryd.ntmps16
  go_upto_region 1 with fail
  rw [← hW1]
  clear hW1
  go_upto_region 7 with fail
  go_cut [8] from 72 to 76 (fun b wx => ∃ z : Int, b = .int .i64 z ∧ Hid (RelIx ds f0 z ∧ Below W1.heap.size W1 wx))
  case first =>
    first | go_region_held3 (fun W => W.cell? ⟨w.heap.size, 0, none⟩ = some (.slice aV ds.length cV) ∧ W.cell? ⟨g, o, none⟩ = some (.string f0) ∧ Below W1.heap.size W1 W)
        (first | exact HSS.out _ (Below.refl _ _).drew | exact HSS.out _ hb6 | (refine HSS.out _ ?_; assumption) | fail)
        (first | (go_at_call 35; refine (KR.out _ ?_).mono ?_; assumption; rintro e w6 ⟨z, rfl, hz6, hb6⟩) | fail) | fail
    all_goals (go_wp2_with fail; go_meet)
    all_goals exact ⟨_, rfl, hid ⟨hz6, hb6⟩⟩
  case rest =>
    obtain ⟨z, rfl, hcut⟩ := hcut
    have HZ := hid hcut.out.1
    have HBc := hid hcut.out.2
    clear hcut KR HSS
    have d1 := bclR HBc.out d0
    have r1 := bclR HBc.out r0
    have rf1 : wc.frozen? ⟨w.heap.size + 1, 0, none⟩ = false := by rw [World.frozen?_of_block (HBc.out.block _ (World.block_lt_of_cell? W1 _ r0))]; exact rf
    have HSc := hid (HS.out.below HBc.out)
    have HXc := hid (bx_below HX1.out HBc.out)
    have HYc := hid (bx_below HY1.out HBc.out)
    have HBw := hid (bt HB1.out HBc.out)
    clear d0 r0 rf c0 HS HX1 HY1 HBc HB1 q0
    generalize wc = wA at *
    rcases HZ.out with ⟨rfl, -⟩ | ⟨i, rfl, hil, -⟩
    · have HD : Hid (namS ds f0 = false) := hid (by rw [← relIx_no HZ.out]; rfl)
      clear HZ
      go_wp2_with fail
      refine bodyPost_ret (v := .tuple #[.agg #[.slice aV ds.length cV], .bool false]) (by simp [results, Tryd.results16, go_sem, r1]) rfl ?_
      exact HNo.out _ _ ⟨_, _, _, rfl⟩ (Or.inl HD.out) (HBw.out.setCell (by simp) _)
    · obtain ⟨hrow, hrl, ar, harE, har1, har3⟩ := HOK.out.2 i hil
      obtain ⟨gV, cV', eV, -⟩ := HSc.out.own.form (by omega)
      simp only [Value.slice.injEq, true_and] at eV
      obtain ⟨rfl, rfl⟩ := eV
      obtain ⟨k0, k1, k2, k3⟩ := HSc.out.cells hil
      rw [harE] at k1
      have hii : (i : Int) < (ds.length : Int) := by omega
      have HE := hid harE
      by_cases hlen : n = ar + 2
      · have q1 : ((n : Int) != (ar : Int) + 2) = false := by simp; omega
        obtain ⟨m, hm⟩ : ∃ m, m = ar + 1 := ⟨_, rfl⟩
        have he : (n : Int) - 1 = (m : Int) := by omega
        have m1 : (1 : Int) ≤ (m : Int) := by omega
        have m2 : (m : Int) ≤ (c : Int) := by omega
        have m3 : (m : Int) < (n : Int) := by omega
        have m4 : m < n := by omega
        have hc1 : ¬ c = 1 := by omega
        have hm1 : m - 1 = ar := by omega
        have HM := hid (And.intro hm hlen)
        clear hm hlen
        have hbA := HBw.out.size
        have HR0 : Hid ((wA.alloc (.cells #[] 3)).ownsRow wA.heap.size 3 1 (.slice (some ⟨wA.heap.size, 0, none⟩) 0 0) 0 ((rowF f 0).map (Value.int .i64))) := hid (World.ownsRow_made wA #[] 0 (Nat.le_refl _) (by decide) rfl)
        have KNu : Hid (∀ W j, Calls Tryd.prog 36 #[.string ⟨(f.getD j []).toArray⟩, .int .i64 0, .int .i64 1000000] W fun e w' => ∃ x : Int, e = .returned (.tuple #[.int .i64 x, .bool (okF (f.getD j []))]) ∧ (okF (f.getD j []) = true → x = numF (f.getD j [])) ∧ Below W.heap.size W w') := hid fun W j => (l2Number_calls W ⟨(f.getD j []).toArray⟩ 0 1000000 (by show (f.getD j []).toArray.size ≤ _; rw [List.size_toArray]; have := HFL.out j; omega)).mono fun e w' ⟨x, ok, h1, h2, h3⟩ => by
          obtain ⟨e1, e2⟩ := num_alike (most := 1000000) h2 (Nat.le_refl _)
          exact ⟨x, by rw [show okF (f.getD j []) = ok from e1.symm]; exact h1, by rw [show okF (f.getD j []) = ok from e1.symm]; exact e2, h3⟩
        go_upto_region 11 with fail
        have HBr : Hid (Below wA.heap.size wA (wA.alloc (.cells #[] 3))) := hid ((Below.refl _ _).alloc (Nat.le_refl _) _)
        generalize hWr : wA.alloc (.cells #[] 3) = Wr at *
        clear hWr
        go_wp2_with fail
        go_loopw [9, 99] (fun r t wr => ∃ j : Nat, j ≤ ar ∧ t = .int .i64 j ∧ Hid (wr.ownsRow wA.heap.size 3 1 r j ((rowF f j).map (Value.int .i64)) ∧ Below wA.heap.size wA wr ∧ ∀ q, q < j → okF (f.getD (q + 1) []) = true)) (fun _ t _ => ar - (intOf t).toNat)
        case atStart => exact ⟨0, Nat.zero_le _, rfl, hid ⟨HR0.out, HBr.out, fun q hq => by omega⟩⟩
        case round =>
          clear HR0 HBr
          obtain ⟨j, hja, rfl, HH⟩ := hrel
          obtain ⟨hR, hBr, hok⟩ := HH.out
          have HR := hid hR
          have HBr := hid hBr
          have HO := hid hok
          clear HH hR hBr hok
          have d2 := bclR HBr.out d1
          have r2 := bclR HBr.out r1
          have rf2 : wr.frozen? ⟨w.heap.size + 1, 0, none⟩ = false := by rw [World.frozen?_of_block (HBr.out.block _ (World.block_lt_of_cell? wA _ r1))]; exact rf1
          by_cases hlt : j < ar
          · have i1 : (j : Int) < (ar : Int) := by omega
            have cf : wr.cell? ⟨g, o + 1 + j, none⟩ = some (.string ⟨(f.getD (j + 1) []).toArray⟩) := bclR (bt HBw.out HBr.out) (by have := HCS.out (j + 1) (by have := HM.out; have := HN.out; omega); rw [show o + 1 + j = o + (j + 1) by omega]; exact this)
            have KNj := hid (KNu.out wr (j + 1))
            cases hg : okF (f.getD (j + 1) [])
            · have HD : Hid (rowB ar f = false) := hid (by
                unfold rowB
                have : (List.range ar).all (fun q => okF (f.getD (q + 1) [])) = false := by
                  rw [List.all_eq_false]
                  exact ⟨j, List.mem_range.2 hlt, by rw [hg]; simp⟩
                rw [this, Bool.and_false, Bool.false_and])
              rw [hg] at KNj
              clear hg
              generalize f.getD (j + 1) [] = fj at *
              go_wp2_with (first | (go_at_call 36; refine KNj.out.mono ?_; rintro e w5 ⟨x5, rfl, -, hb5⟩; have d5 := bclR hb5 d2; have r5 := bclR hb5 r2; have rf5 : w5.frozen? ⟨w.heap.size + 1, 0, none⟩ = false := (by rw [World.frozen?_of_block (hb5.block _ (World.block_lt_of_cell? wr _ r2))]; exact rf2)) | fail)
              refine bodyPost_ret (v := .tuple #[.agg #[.slice (some ⟨gV, 0, none⟩) ds.length cV], .bool false]) (by simp [results, Tryd.results16, go_sem, r5]) rfl ?_
              exact HNo.out _ _ ⟨_, _, _, rfl⟩ (Or.inr ⟨i, ar, HZ.out, HE.out, HD.out⟩) ((bt (bt HBw.out HBr.out) hb5).setCell (by simp) _)
            · rw [hg] at KNj
              have HO2 : Hid (∀ q, q < j + 1 → okF (f.getD (q + 1) []) = true) := hid fun q hq => by
                by_cases e : q = j
                · rw [e]; exact hg
                · exact HO.out q (by omega)
              have HNx : Hid (rowF f (j + 1) = rowF f j ++ [(numF (f.getD (j + 1) []) : Int)]) := hid (by unfold rowF; rw [List.range_succ, List.map_append]; rfl)
              clear hg
              generalize numF (f.getD (j + 1) []) = nj at *
              generalize f.getD (j + 1) [] = fj at *
              obtain ⟨aR, cR, rfl⟩ := own_shapeR HR.out
              go_wp2_with (first | (at_builtin; refine wpList_append_own _ rfl _ _ 75 rfl wA.heap.size 3 i0 (.int .i64 0) 1 8 Tryd.underlying75 hi hz0 hz1 hz2 rfl (by decide) (.slice aR j cR) j _ rfl ((own_below HR.out hb5).alloc _) ⟨w5.heap.size, 0, none⟩ 1 1 [.int .i64 nj] rfl rfl (new1_cellS _ _ _) (fun u hu => by simp at hu; subst hu; rfl) (by unfold maxLen; omega) (by omega) (by have := HBr.out.size; have := hb5.size; simp; omega) ?_; intro v6 w6 hown6 hgrow6 _) | (go_at_call 36; refine KNj.out.mono ?_; rintro e w5 ⟨x5, rfl, hx5, hb5⟩; have hx6 := hx5 rfl; subst hx6; clear hx5) | fail)
              go_roundw
              case rel =>
                refine ⟨j + 1, by omega, by go_num, hid ⟨?_, ?_, HO2.out⟩⟩
                · rw [HNx.out, List.map_append]; exact hown6
                · exact ((bt HBr.out hb5).alloc (by have := HBr.out.size; have := hb5.size; omega) _).grown hgrow6 (by have := HBr.out.size; have := hb5.size; simp; omega) (fun k e => (HR.out.lt k e).1)
              case measure => simp [intOf]; omega
          · obtain rfl : j = ar := by omega
            have i1 : ¬ ((j : Int) < (j : Int)) := by omega
            have HAll : Hid ((List.range j).all (fun q => okF (f.getD (q + 1) [])) = true) := hid (by rw [List.all_eq_true]; intro q hq; exact HO.out q (List.mem_range.1 hq))
            have cw : wr.cell? ⟨g, o + m, none⟩ = some (.string ⟨(f.getD (j + 1) []).toArray⟩) := bclR (bt HBw.out HBr.out) (by have := HCS.out (j + 1) (by have := HM.out; have := HN.out; omega); rw [show m = j + 1 from HM.out.1]; exact this)
            have KWt : Hid (∀ W, Calls Tryd.prog 36 #[.string ⟨(f.getD (j + 1) []).toArray⟩, .int .i64 (-1000000), .int .i64 1000000] W fun e w' => ∃ x : Int, e = .returned (.tuple #[.int .i64 x, .bool (okW (f.getD (j + 1) []))]) ∧ (okW (f.getD (j + 1) []) = true → x = wtF (f.getD (j + 1) [])) ∧ Below W.heap.size W w') := hid fun W => (l2Number_calls W ⟨(f.getD (j + 1) []).toArray⟩ (-1000000) 1000000 (by show (f.getD (j + 1) []).toArray.size ≤ _; rw [List.size_toArray]; have := HFL.out (j + 1); omega)).mono fun e w' ⟨x, ok, h1, h2, h3⟩ => by
              obtain ⟨e1, e2⟩ := wt_alike h2
              exact ⟨x, by rw [show okW (f.getD (j + 1) []) = ok from e1.symm]; exact h1, by rw [show okW (f.getD (j + 1) []) = ok from e1.symm]; exact e2, h3⟩
            have HRB : Hid (rowB j f = okW (f.getD (j + 1) [])) := hid (by unfold rowB; rw [HAll.out, decide_eq_true (by rw [← HN.out]; exact HM.out.2), Bool.true_and, Bool.true_and])
            clear KNu HAll HO
            cases hgw : okW (f.getD (j + 1) [])
            · rw [hgw] at KWt HRB
              have HD := HRB
              clear hgw HRB
              generalize f.getD (j + 1) [] = fj at *
              go_wp2_with (first | (go_at_call 36; refine (KWt.out _).mono ?_; rintro e w5 ⟨x5, rfl, -, hb5⟩; have d5 := bclR hb5 d2; have r5 := bclR hb5 r2; have rf5 : w5.frozen? ⟨w.heap.size + 1, 0, none⟩ = false := (by rw [World.frozen?_of_block (hb5.block _ (World.block_lt_of_cell? wr _ r2))]; exact rf2)) | fail)
              refine bodyPost_ret (v := .tuple #[.agg #[.slice (some ⟨gV, 0, none⟩) ds.length cV], .bool false]) (by simp [results, Tryd.results16, go_sem, r5]) rfl ?_
              exact HNo.out _ _ ⟨_, _, _, rfl⟩ (Or.inr ⟨i, j, HZ.out, HE.out, HD.out⟩) ((bt (bt HBw.out HBr.out) hb5).setCell (by simp) _)
            · rw [hgw] at KWt HRB
              clear hgw
              generalize hwv : wtF (f.getD (j + 1) []) = wv at *
              have HWV := hid hwv
              clear hwv
              generalize hfj : f.getD (j + 1) [] = fj at *
              obtain ⟨aR, cR, rfl⟩ := own_shapeR HR.out
              go_upto_region 22 with (first | (go_at_call 36; refine (KWt.out _).mono ?_; rintro e w7 ⟨x7, rfl, hx7, hb7⟩; have hx8 := hx7 rfl; subst hx8; clear hx7) | fail)
              have hb7A := bt HBr.out hb7
              have HS7 := hid (HSc.out.below hb7A)
              have HX7 := hid (bx_below HXc.out hb7A)
              have HY7 := hid (bx_below HYc.out hb7A)
              have HB7 := hid (bt HBw.out hb7A)
              have hlF : (rowF f j).length = j := by unfold rowF; rw [List.length_map, List.length_range]
              have HR7 : Hid (w7.ownsRow B 3 1 (.slice aR j cR) (rowF f j).length ((rowF f j).map (Value.int .i64))) := hid (by rw [hlF]; exact own_base (own_below HR.out hb7) (by omega))
              have d7 := bclR hb7A d1
              have e2 := bclR hb7A k2
              have e3 := bclR hb7A k3
              have r7 := HY7.out.cell
              have rf7 := HY7.out.frozen
              have hs7 := HB7.out.size
              have KP : Hid (∀ W x, (W.cell? ⟨w.heap.size, 0, none⟩ = some (.slice (some ⟨gV, 0, none⟩) ds.length cV) ∧ W.cell? ⟨gV, i * 4 + 2, none⟩ = some (vr i) ∧ W.cell? ⟨gV, i * 4 + 3, none⟩ = some (vw i) ∧ Below w7.heap.size w7 W) → Calls Tryd.prog 37 #[vr i, vw i, .slice aR j cR, .int .i64 x] W fun e w' => ∃ k there v1 v2, e = .returned (.tuple #[v1, v2]) ∧ FndA (ds.getD i noRel).rows (rowF f j) k there ∧ Pt w7 w' v1 v2 (putL (us i) k there (.slice aR j cR)).length (putL (us i) k there (.slice aR j cR)).length (putL (us i) k there (.slice aR j cR)) ((putL (ds.getD i noRel).ws k there x).map (Value.int .i64))) := hid fun W x hW => (l2Put_any (HS7.out.below hW.2.2.2) hil hrow (fun q hq => by have := hrl q hq; omega) (own_below HR7.out hW.2.2.2) (by rw [hlF]; omega) x).mono fun e w' ⟨k, there, v1, v2, h1, h2, h3⟩ => ⟨k, there, v1, v2, h2, h1, bt hW.2.2.2 h3.bel, own_base h3.own1 hW.2.2.2.size, own_base h3.own2 hW.2.2.2.size⟩
              have HSS : Hid (∀ W, Below w7.heap.size w7 W → W.cell? ⟨w.heap.size, 0, none⟩ = some (.slice (some ⟨gV, 0, none⟩) ds.length cV) ∧ W.cell? ⟨gV, i * 4 + 2, none⟩ = some (vr i) ∧ W.cell? ⟨gV, i * 4 + 3, none⟩ = some (vw i) ∧ Below w7.heap.size w7 W) := hid fun W hW => ⟨bclR hW d7, bclR hW e2, bclR hW e3, hW⟩
              obtain ⟨wx7, hwx⟩ : ∃ wx7, wx7 = wtF fj := ⟨_, rfl⟩
              have ewx := HWV.out
              rw [← hwx] at ewx
              subst ewx
              have HWX := hid hwx
              clear hwx HWV
              clear hb7 hb7A d1 d2 r1 r2 rf1 rf2 k0 k2 k3 cw HR HBr KWt HSc HXc HYc HBw
              go_cut [16, 17] from 129 to 146 (fun a b wx => ∃ k there, Hid (FndA (ds.getD i noRel).rows (rowF f j) k there ∧ Pt w7 wx a b (putL (us i) k there (.slice aR j cR)).length (putL (us i) k there (.slice aR j cR)).length (putL (us i) k there (.slice aR j cR)) ((putL (ds.getD i noRel).ws k there wx7).map (Value.int .i64))))
              case first =>
                first | go_region_held3 (fun W => W.cell? ⟨w.heap.size, 0, none⟩ = some (.slice (some ⟨gV, 0, none⟩) ds.length cV) ∧ W.cell? ⟨gV, i * 4 + 2, none⟩ = some (vr i) ∧ W.cell? ⟨gV, i * 4 + 3, none⟩ = some (vw i) ∧ Below w7.heap.size w7 W)
                    (first | exact HSS.out _ (Below.refl _ _).drew | exact HSS.out _ hp8.bel | (refine HSS.out _ ?_; assumption) | fail)
                    (first | (go_at_call 37; refine (KP.out _ _ ?_).mono ?_; assumption; rintro e w8 ⟨k8, t8, v18, v28, rfl, hf8, hp8⟩) | fail) | fail
                all_goals (go_wp2_with fail; go_meet)
                all_goals exact ⟨k8, t8, hid ⟨hf8, hp8⟩⟩
              case rest =>
                obtain ⟨k, there, hcut⟩ := hcut
                obtain ⟨hF, hP⟩ := hcut.out
                have HF := hid hF
                have HP := hid hP
                obtain ⟨L, hLe⟩ : ∃ L, L = (putL (us i) k there (.slice aR j cR)).length := ⟨_, rfl⟩
                have hRW := (HS7.out.rw i hil).putL (Nat.le_trans hB hs7) hF.1 HR7.out hP
                have hul := (HS7.out.rw i hil).len
                have hwl := HS7.out.eq i hil
                have hLr : (putL (ds.getD i noRel).rows k there (rowF f j)).length = L := by rw [putL_len (ds.getD i noRel).rows there (rowF f j) hF.1, hLe, putL_len (us i) there _ (by have := hF.1; omega), hul]
                have hLw : (putL (ds.getD i noRel).ws k there wx7).length = L := by rw [← hLr, putL_len (ds.getD i noRel).rows there (rowF f j) hF.1, putL_len (ds.getD i noRel).ws there wx7 (by have := hF.1; omega), hwl]
                have hWw : wc.ownsRow B 3 1 u17 (putL (ds.getD i noRel).ws k there wx7).length ((putL (ds.getD i noRel).ws k there wx7).map (Value.int .i64)) := by rw [hLw, hLe]; exact own_base hP.own2 (Nat.le_trans hB hs7)
                obtain ⟨a1, c1, e1⟩ := own_shapeR hP.own1
                obtain ⟨a2, c2, e2'⟩ := own_shapeR hP.own2
                rw [← hLe] at e1 e2'
                subst e1 e2'
                have hSc := HS7.out.below hP.bel
                have hXc := bx_below HX7.out hP.bel
                have hYc := bx_below HY7.out hP.bel
                have d8 := hXc.cell
                have r8 := hYc.cell
                have rf8 := hYc.frozen
                have e28 := bclR hP.bel e2
                have e38 := bclR hP.bel e3
                have f2 := hSc.own.frozenAt (i * 4 + 2)
                have f3 := hSc.own.frozenAt (i * 4 + 3)
                have hty : ∃ cur, wc.heap[gV]? = some (.cells cur 77 (0, 0)) := own_typ hSc.own rfl
                have hne : w.heap.size ≠ gV := fun e => by
                  obtain ⟨cur, hcu⟩ := hty
                  have hx : wc.heap[w.heap.size]? = _ := hXc
                  rw [e, hcu] at hx
                  simp only [Option.some.injEq, Obj.cells.injEq] at hx
                  exact absurd hx.2.1 (by decide)
                have hne1 : w.heap.size + 1 ≠ gV := fun e => by
                  obtain ⟨cur, hcu⟩ := hty
                  have hx : wc.heap[w.heap.size + 1]? = _ := hYc
                  rw [e, hcu] at hx
                  simp only [Option.some.injEq, Obj.cells.injEq] at hx
                  exact absurd hx.2.1 (by decide)
                have hgB := (hSc.own.lt gV rfl).1
                have hput := hSc.put (v1 := .slice a1 L c1) (v2 := .slice a2 L c2) hil hRW hWw (by rw [hLw, hLr]) (fun e => by have h1 := putL_len (ds.getD i noRel).rows there (rowF f j) hF.1; rw [e] at h1; simp at h1; omega)
                have HFIN : Hid (∀ ok : Bool, ok = decide (L ≤ 2000) → RowE w B ds f (.returned (.tuple #[.agg #[.slice (some ⟨gV, 0, none⟩) ds.length cV], .bool ok])) (((wc.setCell ⟨gV, i * 4 + 2, none⟩ (.slice a1 L c1)).setCell ⟨gV, i * 4 + 3, none⟩ (.slice a2 L c2)).setCell ⟨w.heap.size + 1, 0, none⟩ (.slice (some ⟨gV, 0, none⟩) ds.length cV))) := hid fun ok hok => by
                  have hYe : Boxed ((wc.setCell ⟨gV, i * 4 + 2, none⟩ (.slice a1 L c1)).setCell ⟨gV, i * 4 + 3, none⟩ (.slice a2 L c2)) (w.heap.size + 1) 24 (.slice none 0 0) := (Below.heap_setCell _ _ _ _ hne1).trans ((Below.heap_setCell _ _ _ _ hne1).trans hYc)
                  have hbw : Below B w wc := (bt HB7.out hP.bel).mono hB
                  have hSQ := hput.setD (p := w.heap.size + 1) (off := 0) (y := .slice (some ⟨gV, 0, none⟩) ds.length cV) ⟨_, hYe⟩
                  rw [HWX.out, ← hfj] at hSQ
                  have hoK : ok = decide ((putL (ds.getD i noRel).rows k there (rowF f j)).length ≤ 2000) := by rw [hLr]; exact hok
                  have hRP : RowP B ds f i j ok _ _ := ⟨k, there, HF.out, hoK, _, _, _, hSQ⟩
                  refine HYe.out i j ok _ _ ⟨_, _, _, rfl⟩ HZ.out HE.out HRB.out hRP (((hbw.setCell hgB _).setCell hgB _).setCell (by simp; omega) _) ?_
                  · refine KeepU.set ?_ (by omega)
                    intro q cur t ht hq
                    have hq0 := KeepU.below (bt HB7.out hP.bel) q cur t ht hq
                    have hqg : q ≠ gV := fun e => by
                      obtain ⟨cu2, hcu⟩ := hty
                      rw [hq] at hq0
                      rw [e, hcu] at hq0
                      simp only [Option.some.injEq, Obj.cells.injEq] at hq0
                      exact absurd hq0.2.1 (by rcases ht with rfl | rfl <;> decide)
                    rw [Below.heap_setCell _ _ _ _ hqg, Below.heap_setCell _ _ _ _ hqg, hq0]
                clear hcut hF hP hRW hWw hput hSc hXc hYc HS7 HX7 HY7 KP HSS HP HF HR7 d7 e2 e3 r7 rf7 hLe hLr hLw hty
                generalize us i = usi at *
                by_cases hL : L ≤ 2000
                · have hL1 : (L : Int) ≤ 2000 := by omega
                  go_upto_region 24 with fail
                  have x1 : (wc.setCell ⟨gV, i * 4 + 2, none⟩ (.slice a1 L c1)).cell? ⟨w.heap.size, 0, none⟩ = some (.slice (some ⟨gV, 0, none⟩) ds.length cV) := by rw [World.cell?_of_block (Below.heap_setCell _ _ _ _ hne)]; exact d8
                  have x2 : (wc.setCell ⟨gV, i * 4 + 2, none⟩ (.slice a1 L c1)).frozen? ⟨gV, i * 4 + 3, none⟩ = false := by rw [World.frozen?_setCell]; exact f3
                  have x3 : (wc.setCell ⟨gV, i * 4 + 2, none⟩ (.slice a1 L c1)).cell? ⟨gV, i * 4 + 3, none⟩ = some (vw i) := by rw [World.cell?_setCell_other _ _ _ _ (by simp)]; exact e38
                  have y1 : ((wc.setCell ⟨gV, i * 4 + 2, none⟩ (.slice a1 L c1)).setCell ⟨gV, i * 4 + 3, none⟩ (.slice a2 L c2)).cell? ⟨w.heap.size, 0, none⟩ = some (.slice (some ⟨gV, 0, none⟩) ds.length cV) := by rw [World.cell?_of_block (Below.heap_setCell _ _ _ _ hne)]; exact x1
                  have y2 : ((wc.setCell ⟨gV, i * 4 + 2, none⟩ (.slice a1 L c1)).setCell ⟨gV, i * 4 + 3, none⟩ (.slice a2 L c2)).cell? ⟨w.heap.size + 1, 0, none⟩ = some (.slice none 0 0) := by rw [World.cell?_of_block (Below.heap_setCell _ _ _ _ hne1), World.cell?_of_block (Below.heap_setCell _ _ _ _ hne1)]; exact r8
                  have y3 : ((wc.setCell ⟨gV, i * 4 + 2, none⟩ (.slice a1 L c1)).setCell ⟨gV, i * 4 + 3, none⟩ (.slice a2 L c2)).frozen? ⟨w.heap.size + 1, 0, none⟩ = false := by rw [World.frozen?_setCell, World.frozen?_setCell]; exact rf8
                  go_upto_region 25 with fail
                  generalize (wc.setCell ⟨gV, i * 4 + 2, none⟩ (.slice a1 L c1)).setCell ⟨gV, i * 4 + 3, none⟩ (.slice a2 L c2) = wE at *
                  clear x1 x2 x3
                  go_wp2_with fail
                  refine bodyPost_ret (v := .tuple #[.agg #[.slice (some ⟨gV, 0, none⟩) ds.length cV], .bool true]) (by simp [results, Tryd.results16, go_sem, y2]) rfl ?_
                  exact HFIN.out _ (by simp [hL])
                · have hL1 : ¬ (L : Int) ≤ 2000 := by omega
                  have hL2 : (2000 : Int) < (L : Int) := by omega
                  have hL3 : 2000 < L := by omega
                  go_upto_region 24 with fail
                  have x1 : (wc.setCell ⟨gV, i * 4 + 2, none⟩ (.slice a1 L c1)).cell? ⟨w.heap.size, 0, none⟩ = some (.slice (some ⟨gV, 0, none⟩) ds.length cV) := by rw [World.cell?_of_block (Below.heap_setCell _ _ _ _ hne)]; exact d8
                  have x2 : (wc.setCell ⟨gV, i * 4 + 2, none⟩ (.slice a1 L c1)).frozen? ⟨gV, i * 4 + 3, none⟩ = false := by rw [World.frozen?_setCell]; exact f3
                  have x3 : (wc.setCell ⟨gV, i * 4 + 2, none⟩ (.slice a1 L c1)).cell? ⟨gV, i * 4 + 3, none⟩ = some (vw i) := by rw [World.cell?_setCell_other _ _ _ _ (by simp)]; exact e38
                  have y1 : ((wc.setCell ⟨gV, i * 4 + 2, none⟩ (.slice a1 L c1)).setCell ⟨gV, i * 4 + 3, none⟩ (.slice a2 L c2)).cell? ⟨w.heap.size, 0, none⟩ = some (.slice (some ⟨gV, 0, none⟩) ds.length cV) := by rw [World.cell?_of_block (Below.heap_setCell _ _ _ _ hne)]; exact x1
                  have y2 : ((wc.setCell ⟨gV, i * 4 + 2, none⟩ (.slice a1 L c1)).setCell ⟨gV, i * 4 + 3, none⟩ (.slice a2 L c2)).cell? ⟨w.heap.size + 1, 0, none⟩ = some (.slice none 0 0) := by rw [World.cell?_of_block (Below.heap_setCell _ _ _ _ hne1), World.cell?_of_block (Below.heap_setCell _ _ _ _ hne1)]; exact r8
                  have y3 : ((wc.setCell ⟨gV, i * 4 + 2, none⟩ (.slice a1 L c1)).setCell ⟨gV, i * 4 + 3, none⟩ (.slice a2 L c2)).frozen? ⟨w.heap.size + 1, 0, none⟩ = false := by rw [World.frozen?_setCell, World.frozen?_setCell]; exact rf8
                  go_upto_region 25 with fail
                  generalize (wc.setCell ⟨gV, i * 4 + 2, none⟩ (.slice a1 L c1)).setCell ⟨gV, i * 4 + 3, none⟩ (.slice a2 L c2) = wE at *
                  clear x1 x2 x3
                  go_wp2_with fail
                  refine bodyPost_ret (v := .tuple #[.agg #[.slice (some ⟨gV, 0, none⟩) ds.length cV], .bool false]) (by simp [results, Tryd.results16, go_sem, y2]) rfl ?_
                  exact HFIN.out _ (by simp [hL])
      · have HD : Hid (rowB ar f = false) := hid (by unfold rowB; rw [decide_eq_false (by rw [← HN.out]; exact hlen)]; rfl)
        have q1 : ((n : Int) != (ar : Int) + 2) = true := by simp; omega
        go_wp2_with fail
        refine bodyPost_ret (v := .tuple #[.agg #[.slice (some ⟨gV, 0, none⟩) ds.length cV], .bool false]) (by simp [results, Tryd.results16, go_sem, r1]) rfl ?_
        exact HNo.out _ _ ⟨_, _, _, rfl⟩ (Or.inr ⟨i, ar, HZ.out, HE.out, HD.out⟩) (HBw.out.setCell (by simp) _)

end Go.Proofs.YtcdfoephhjacdaaDoor
