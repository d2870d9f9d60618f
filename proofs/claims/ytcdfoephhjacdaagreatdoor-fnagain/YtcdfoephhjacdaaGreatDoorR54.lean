import Derived.Deep.LoopGhost
import Derived.Test.YtcdfoephhjacdaaGreatDoorR51
import Derived.Test.YtcdfoephhjacdaaGreatDoorR53
/-
  laws.FnAgain, walked; what spec.DrawChecked does is a premise (DrwCA).
-/
namespace Go.Proofs.YtcdfoephhjacdaaGreatDoor
open Go.RowKit

theorem parse_text {ds : List RelV} {T : List UInt8} {st : List RdV} (h1 : prT (spl 10 T) (spl 10 T).length = some st) (h2 : DsOf st ds) (h3 : ∀ i, i < st.length → ((st.getD i noRd).rs.map Prod.fst).Nodup) (hl : T.length ≤ 60000) {w w' : World} {e : Ending} (hp : ParE w T e w') : ∃ a c, e = .returned (.tuple #[.agg #[.slice a ds.length c], .int .i64 0]) ∧ Below w.heap.size w w' ∧ IRelS w' (.slice a ds.length c) ds := by
  obtain ⟨hb, hp⟩ := hp
  rcases hp with ⟨h9, -⟩ | ⟨-, k, hk, -, h9, -⟩ | ⟨-, st', h4, v, ds', vr, vw, us, lo, hi, rfl, h5, h6⟩
  · omega
  · exfalso
    have hno : ∀ m, prT (spl 10 T) (k + 1 + m) = none := fun m => by
      induction m with
      | zero => exact h9
      | succ m ih => show (prT _ (k + 1 + m)).bind _ = none; rw [ih]; rfl
    have := hno ((spl 10 T).length - (k + 1))
    rw [show k + 1 + ((spl 10 T).length - (k + 1)) = (spl 10 T).length by omega, h1] at this
    cases this
  · rw [h1] at h4
    cases h4
    have e : ds' = ds := by
      refine List.ext_getElem (by rw [h5.1, h2.1]) fun i g1 g2 => ?_
      have hi1 : i < st.length := by rw [← h5.1]; exact g1
      have := relOf_uniq (h3 i hi1) (h5.2 i hi1) (h2.2 i hi1)
      rw [List.getD_eq_getElem?_getD, List.getElem?_eq_getElem g1, List.getD_eq_getElem?_getD, List.getElem?_eq_getElem g2] at this
      exact this
    subst e
    have hI := dq_irels h6
    obtain ⟨a, c, rfl, -⟩ := hI
    exact ⟨a, c, rfl, hb, dq_irels h6⟩
theorem AgS.later {d0 ds : List RelV} {T : List UInt8} {m : Nat} (h : AgS d0 ds T m) : AgS d0 ds T (m + 1) := ⟨h.txt, h.ok, h.len, h.same, by have := h.short; omega⟩
/-- d, and what is wanted, while the loop goes on: W2 is where d is made -/
structure AgW (W2 W : World) (b7 gW cW : Nat) (d0 ds : List RelV) (vr vw : Nat → Value) (us : Nat → List Value) : Prop where
  bel : Below W2.heap.size W2 W
  box : W.heap[b7]? = some (.cells #[.slice (some ⟨gW, 0, none⟩) d0.length cW] 25 (0, 0))
  sq : SQ W W2.heap.size (.slice (some ⟨gW, 0, none⟩) d0.length cW) ds vr vw us
theorem AgW.below {W2 W W' : World} {b7 gW cW : Nat} {d0 ds : List RelV} {vr vw : Nat → Value} {us : Nat → List Value} (h : AgW W2 W b7 gW cW d0 ds vr vw us) (hb : Below W.heap.size W W') : AgW W2 W' b7 gW cW d0 ds vr vw us :=
  ⟨bt h.bel hb, (hb.block _ (heap_ltF h.box)).trans h.box, h.sq.below hb⟩
/-- the place of a weight, and the weight stored -/
theorem AgW.store {W2 W : World} {b7 gW cW : Nat} {d0 ds : List RelV} {vr vw : Nat → Value} {us : Nat → List Value} (h : AgW W2 W b7 gW cW d0 ds vr vw us) (hl : ds.length = d0.length) (ha : ApD d0.length vw us) {i k : Nat} (hi : i < ds.length) (hk : k < (ds.getD i noRel).ws.length) (x : Int) :
    ∃ g c, W.cell? ⟨b7, 0, none⟩ = some (.slice (some ⟨gW, 0, none⟩) d0.length cW) ∧ W.cell? ⟨gW, i * 4 + 3, none⟩ = some (.slice (some ⟨g, 0, none⟩) (ds.getD i noRel).ws.length c) ∧ (∃ y, W.cell? ⟨g, k, none⟩ = some (.int .i64 y)) ∧ W.frozen? ⟨g, k, none⟩ = false ∧ AgW W2 (W.setCell ⟨g, k, none⟩ (.int .i64 x)) b7 gW cW d0 (ds.set i (setW (ds.getD i noRel) k x)) vr vw us := by
  obtain ⟨g, c, e, hy, hf, hB, ⟨cur, hcur⟩, hs⟩ := h.sq.setw (by rw [hl]; exact ha) hi hk x
  have hc := (show SQ W W2.heap.size (.slice (some ⟨gW, 0, none⟩) ds.length cW) ds vr vw us by rw [hl]; exact h.sq).cells hi
  refine ⟨g, c, by rw [cell_of_row _ _ _ _ _ _ h.box]; rfl, by rw [← e]; exact hc.2.2.2, hy, hf, ⟨h.bel.setCell (by exact hB) _, ?_, hs⟩⟩
  rw [Below.heap_setCell _ _ _ _ (fun e2 => by
    have e3 : b7 = g := e2
    have hb := h.box
    rw [e3, hcur] at hb
    simp at hb)]
  exact h.box

set_option maxHeartbeats 20000000 in
set_option maxRecDepth 1000000 in
theorem fnAgain_walk (K : DrwCA) (w : World) (a : Option Addr) (n cap : Nat) (L : Nat → Int) (a2 : Option Addr) (n2 cap2 : Nat) (L2 : Nat → Int) (hn : n ≤ 9223372036854775807) (hn2 : n2 ≤ 9223372036854775807) (hB : Cod w a L n) (hB2 : Cod w a2 L2 n2) (htab : Lib.TabIs Tryz.prog w "internal/strconv.uint64pow10" .u64 Lib.pow10Tab) (mx : Int) (hmx : w.cell? ⟨3, 0, none⟩ = some (.int .i64 mx)) :
    Calls Tryz.prog 4 #[.slice a n cap, .slice a2 n2 cap2] w fun e w' => e = .returned (.bool true) ∧ Below w.heap.size w w' := by
  by_cases hbig : 1048576 < n
  · have q1 : (1048576 : Int) < (n : Int) := by omega
    clear K hB hB2 htab hmx
    go_enter Tryz.func4, Tryz.ntmps4
    go_wp2
    go_ret
    exact ⟨rfl, Below.refl _ _⟩
  · have q1 : ¬ (1048576 : Int) < (n : Int) := by omega
    by_cases hbig2 : 1048576 < n2
    · have q2 : (1048576 : Int) < (n2 : Int) := by omega
      clear K hB hB2 htab hmx
      go_enter Tryz.func4, Tryz.ntmps4
      go_wp2
      go_ret
      exact ⟨rfl, Below.refl _ _⟩
    · have q2 : ¬ (1048576 : Int) < (n2 : Int) := by omega
      obtain ⟨hG, hM1, hM4⟩ := drawD_ok L n (0, 0)
      have hdat : dataB (dsC L n) = true := hG.ok (by omega)
      have hshort : (datT (dsC L n) (dsC L n).length).length ≤ 6000 := hG.short (by omega)
      have hlen : (dsC L n).length = numD L n (0, 0) := hG.len
      have hfew : ∀ i, i < (dsC L n).length → ((dsC L n).getD i noRel).rows.length ≤ 14 := fun i hi => hG.few i (by omega)
      have hokr := okr_of hdat
      have hprt : prtT (dsC L n) = datT (dsC L n) (dsC L n).length := if_pos hdat
      have KD : Hid (∀ W, Below w.heap.size w W → Calls Tryz.prog 5 #[.slice a n cap] W (DrwEA W (dsC L n) (qC L n))) := hid fun W hW => K W a n cap L (by omega) (hB.below hW)
      generalize dsC L n = ds at *
      generalize qC L n = q at *
      have KP : Hid (∀ W a0 c0, Below w.heap.size w W → IRelS W (.slice a0 ds.length c0) ds → Calls Tryz.prog 7 #[.agg #[.slice a0 ds.length c0]] W fun e w' => e = .returned (.string ⟨(datT ds ds.length).toArray⟩) ∧ Below W.heap.size W w') := hid fun W a0 c0 hW hI => by
        have := iPrintData_calls W (.slice a0 ds.length c0) ds hI hokr (tab_below htab hW)
        rw [hprt] at this
        exact this
      have KR : Hid (∀ W T ds' m, Below w.heap.size w W → AgS ds ds' T m → m ≤ 6 → Calls Tryz.prog 6 #[.string ⟨T.toArray⟩] W fun e w' => ∃ a c, e = .returned (.tuple #[.agg #[.slice a ds.length c], .int .i64 0]) ∧ Below W.heap.size W w' ∧ IRelS w' (.slice a ds.length c) ds') := hid fun W T ds' m hW hA hm => by
        have hTl := hA.short
        refine (iParse_calls W ⟨T.toArray⟩ mx (upc hW hmx) (by rw [show (⟨T.toArray⟩ : ByteArray).size = T.length from by simp [ByteArray.size]]; omega)).mono fun e w' h => ?_
        obtain ⟨ls, rfl, hr, hf⟩ := hA.txt
        obtain ⟨h2, h3⟩ := dsof_data hA.ok
        have := parse_text (ds := ds') (again_text hdat hf hr) h2 h3 (by omega) (by simpa using h)
        rw [hA.len] at this
        exact this
      have KH : Hid (∀ W a0 c0 a1 c1 ds', dataB ds' = true → ds'.length = ds.length → IRelS W (.slice a0 ds.length c0) ds' → IRelS W (.slice a1 ds.length c1) ds' → Calls Tryz.prog 10 #[.agg #[.slice a0 ds.length c0], .agg #[.slice a1 ds.length c1]] W fun e w' => e = .returned (.bool true) ∧ Below W.heap.size W w') := hid fun W a0 c0 a1 c1 ds' hd hl h1 h2 => hData_same W _ _ ds' h1 h2 (okr_of hd)
      have HAg := hid (AgS.start hdat hshort)
      have HB2 := hid hB2
      have HGR := hid (gr_of hdat).2
      have HFW := hid hfew
      have hnd4 : ds.length ≤ 4 := by omega
      have hnd1 : 0 < ds.length := by omega
      clear K hB hB2 htab hmx hG hdat hshort hokr hprt hfew hM1 hM4 hlen
      generalize datT ds ds.length = T0 at *
      obtain ⟨nd, hnd⟩ : ∃ nd, nd = ds.length := ⟨_, rfl⟩
      have HND := hid hnd
      go_enter Tryz.func4, Tryz.ntmps4
      go_upto_region 4 with (first | (go_at_call 5; refine (KD.out w (Below.refl _ _)).mono ?_; rintro e w1 ⟨a0, c0, gh, ch, a1, c1, vr0, vw0, us0, rfl, hb1, hS1, -, -, hgh1, hch1⟩) | fail)
      obtain ⟨hb2, d2, -, -, -, -⟩ := two_new w1 (.slice a0 ds.length c0) (.string q.name) (.slice (some ⟨gh, 0, none⟩) q.head.length ch) (.int .i64 q.ring) (.slice a1 q.atoms.length c1)
      have HBa := hid (bt hb1 hb2)
      have HIa := hid (hS1.irels.below hb2)
      generalize (w1.alloc (.cells #[.slice a0 ds.length c0] 25)).alloc (.cells #[.string q.name, .slice (some ⟨gh, 0, none⟩) q.head.length ch, .int .i64 q.ring, .slice a1 q.atoms.length c1] 29) = W2 at *
      clear hb1 hS1 hb2 hgh1 hch1
      generalize w1.heap.size = b5 at *
      have D2 := hid d2
      go_upto_region 5 with (first | (go_at_call 5; refine (KD.out W2 HBa.out).mono ?_; rintro e w3 ⟨a9, c9, gh9, ch9, a10, c10, vr, vw, us, rfl, hb3, hS3, hA3, -, hgh9, hch9⟩) | fail)
      obtain ⟨gW, cW, e9, -, -⟩ := hS3.own.form hnd1
      simp only [Value.slice.injEq, true_and] at e9
      obtain ⟨rfl, rfl⟩ := e9
      obtain ⟨hb4, -, -, -, -, -⟩ := two_new w3 (.slice (some ⟨gW, 0, none⟩) ds.length c9) (.string q.name) (.slice (some ⟨gh9, 0, none⟩) q.head.length ch9) (.int .i64 q.ring) (.slice a10 q.atoms.length c10)
      have HW4 : Hid (AgW W2 ((w3.alloc (.cells #[.slice (some ⟨gW, 0, none⟩) ds.length c9] 25)).alloc (.cells #[.string q.name, .slice (some ⟨gh9, 0, none⟩) q.head.length ch9, .int .i64 q.ring, .slice a10 q.atoms.length c10] 29)) w3.heap.size gW c9 ds ds vr vw us) := hid ⟨bt hb3 hb4, by rw [Below.heap_alloc _ _ _ (by simp)]; exact heap_alloc_new _ _, hS3.below hb4⟩
      have HAP := hid hA3
      generalize (w3.alloc (.cells #[.slice (some ⟨gW, 0, none⟩) ds.length c9] 25)).alloc (.cells #[.string q.name, .slice (some ⟨gh9, 0, none⟩) q.head.length ch9, .int .i64 q.ring, .slice a10 q.atoms.length c10] 29) = W4 at *
      clear hb3 hS3 hA3 hgh9 hch9 hb4
      generalize w3.heap.size = b7 at *
      have dd := upc HW4.out.bel d2
      go_upto_region 6 with (first | (go_at_call 7; refine (KP.out W4 _ _ (bt HBa.out HW4.out.bel) (HIa.out.below HW4.out.bel)).mono ?_; rintro e w5 ⟨rfl, hb5⟩) | fail)
      have HW5 := hid (HW4.out.below hb5)
      clear dd d2 hb5 HW4
      go_upto_block 0 with fail
      go_wp2_with fail
      go_loopg [9, 10] 6 (fun gk v9 v10 wr => ∃ (m : Nat) (T : List UInt8) (ds' : List RelV), v9 = .string ⟨T.toArray⟩ ∧ v10 = .int .i64 m ∧ m ≤ 6 ∧ gk = 6 - m ∧ Hid (AgW W2 wr b7 gW c9 ds ds' vr vw us ∧ AgS ds ds' T m))
      case atStart => exact ⟨0, T0, ds, rfl, rfl, by omega, rfl, hid ⟨HW5.out, HAg.out⟩⟩
      case round =>
        clear HW5 HAg
        obtain ⟨m, T, ds', rfl, rfl, hm, hgk, HH⟩ := hrel
        generalize wr = wo at *
        obtain ⟨hW, hA⟩ := HH.out
        have HW := hid hW
        have HA := hid hA
        have hTl := hA.short
        clear HH hW hA
        by_cases hm6 : m < 6
        · have m6 : (m : Int) < 6 := by omega
          obtain ⟨aR, cR, eR, hRw⟩ := HIa.out
          simp only [Value.slice.injEq] at eR
          obtain ⟨rfl, -, rfl⟩ := eR
          rcases hRw with h0 | ⟨bD, oD, rfl, hRw⟩
          · omega
          have HRw := hid hRw
          clear hRw
          have c5 : wo.cell? ⟨b5, 0, none⟩ = some (.slice (some ⟨bD, oD, none⟩) ds.length c0) := upc HW.out.bel D2.out
          have KPk : Hid (∀ W (i k : Nat), Below wo.heap.size wo W → i ≤ 1000 → k ≤ 100000 → Calls Tryz.prog 12 #[.slice a2 n2 cap2, .int .i64 (i : Int), .int .i64 (k : Int)] W fun e w' => ∃ z : Nat, e = .returned (.int .i64 (z : Int)) ∧ w' = W ∧ (0 < k → z < k) ∧ z ≤ 100000) := hid fun W i k hW hi hk => hPick_calls W a2 n2 cap2 L2 i k (HB2.out.below (bt HBa.out (bt HW.out.bel hW))) (by omega) hi hk
          have K1 : Hid (Calls Tryz.prog 12 #[.slice a2 n2 cap2, .int .i64 (3 * (m : Int)), .int .i64 (ds.length : Int)] wo fun e w' => ∃ z : Nat, e = .returned (.int .i64 (z : Int)) ∧ w' = wo ∧ (0 < ds.length → z < ds.length) ∧ z ≤ 100000) := hid (by
            have := KPk.out wo (3 * m) ds.length (Below.refl _ _) (by omega) (by omega)
            rw [show ((3 * m : Nat) : Int) = 3 * (m : Int) by omega] at this
            exact this)
          go_upto_region 10 with (first | (go_at_call 12; refine K1.out.mono ?_; rintro e w6 ⟨z, rfl, hw6, hz, -⟩; subst w6) | fail)
          have hz' := hz hnd1
          have z1 : (z : Int) < (ds.length : Int) := by omega
          obtain ⟨vr', vw', x0, x1, x2, x3, hir⟩ := HRw.out z hz'
          obtain ⟨ra, rc, rfl, hrows⟩ := hir.rows
          obtain ⟨wa, wcc, rfl, -⟩ := hir.ws
          have hgr := HGR.out z hz'
          have hfw := HFW.out z hz'
          obtain ⟨sm1, sm2, sm3⟩ := HA.out.same z
          have hz2 : z < ds'.length := by rw [HA.out.len]; exact hz'
          have hrg := (data_rg HA.out.ok hz2).2.1
          have hnm0 : nmL (ds'.getD z noRel) = nmL (ds.getD z noRel) := by unfold nmL; rw [sm1]
          rw [← nm_mk (ds.getD z noRel)] at x0
          have HNM := hid hnm0
          have HSM := hid sm3
          have hwl : (ds'.getD z noRel).ws.length = (ds.getD z noRel).rows.length := by rw [hrg.ws, sm3]
          replace x0 := upc HW.out.bel x0
          replace x1 := upc HW.out.bel x1
          replace x2 := upc HW.out.bel x2
          replace x3 := upc HW.out.bel x3
          clear hir sm1 sm2 sm3 hrg hnm0 K1 HRw
          have hnl : (nmL (ds.getD z noRel)).length ≤ 30 := hgr.nm
          generalize ds.getD z noRel = d at *
          generalize nmL d = nml at *
          obtain ⟨rl, hrl⟩ : ∃ rl, rl = d.rows.length := ⟨_, rfl⟩
          have HRL := hid hrl
          rw [← hrl] at x2 hwl hfw
          have hrl0 : d.rows.length = rl := hrl.symm
          clear hrl
          obtain ⟨W6, hW6⟩ : ∃ W6, W6 = wo.alloc (.cells #[.string ⟨nml.toArray⟩, .int .i64 d.ar, .slice ra rl rc, .slice wa d.ws.length wcc] 45) := ⟨_, rfl⟩
          have hb6 : Below wo.heap.size wo W6 := by rw [hW6]; exact (Below.refl _ _).alloc (Nat.le_refl _) _
          have hh6 : W6.heap[wo.heap.size]? = some (.cells #[.string ⟨nml.toArray⟩, .int .i64 d.ar, .slice ra rl rc, .slice wa d.ws.length wcc] 45 (0, 0)) := by rw [hW6]; exact heap_alloc_new _ _
          obtain ⟨e0, e1, e2, e3, -, -, -, -⟩ := boxq_cells hh6
          have HW6 := hid (HW.out.below hb6)
          have HB6 := hid hb6
          go_upto_region 11 with fail
          rw [← hW6]
          clear hW6 hb6 hh6 x0 x1 x2 x3 c5 e1 e3
          by_cases hr0 : rl = 0
          · have q3 : ((rl : Int) == 0) = true := by simp; omega
            clear hr0
            go_wp2_with fail
            go_roundg (6 - (m + 1))
            case measure => omega
            case rel => exact ⟨m + 1, T, ds', rfl, by go_num, by omega, rfl, hid ⟨HW6.out, HA.out.later⟩⟩
          · have q3 : ((rl : Int) == 0) = false := by simp; omega
            have K2 : Hid (Calls Tryz.prog 12 #[.slice a2 n2 cap2, .int .i64 (3 * (m : Int) + 1), .int .i64 (rl : Int)] W6 fun e w' => ∃ z : Nat, e = .returned (.int .i64 (z : Int)) ∧ w' = W6 ∧ (0 < rl → z < rl) ∧ z ≤ 100000) := hid (by
              have := KPk.out W6 (3 * m + 1) rl HB6.out (by omega) (by omega)
              rw [show ((3 * m + 1 : Nat) : Int) = 3 * (m : Int) + 1 by omega] at this
              exact this)
            have K3 : Hid (Calls Tryz.prog 12 #[.slice a2 n2 cap2, .int .i64 (3 * (m : Int) + 2), .int .i64 ((200 : Nat) : Int)] W6 fun e w' => ∃ z : Nat, e = .returned (.int .i64 (z : Int)) ∧ w' = W6 ∧ (0 < 200 → z < 200) ∧ z ≤ 100000) := hid (by
              have := KPk.out W6 (3 * m + 2) 200 HB6.out (by omega) (by omega)
              rw [show ((3 * m + 2 : Nat) : Int) = 3 * (m : Int) + 2 by omega] at this
              exact this)
            clear KPk
            go_upto_region 13 with (first | (go_at_call 12; refine K2.out.mono ?_; rintro e w7 ⟨kz, rfl, hw7, hkz, -⟩; subst w7) | fail)
            have hkz' := hkz (by omega)
            have k1 : (kz : Int) < (rl : Int) := by omega
            go_upto_region 14 with (first | (go_at_call 12; refine K3.out.mono ?_; rintro e w8 ⟨zz, rfl, hw8, hzz, -⟩; subst w8; have zz2 : (zz : Int) < 200 := (by have := hzz (by decide); omega)) | fail)
            obtain ⟨x, hx⟩ : ∃ x : Int, x = (zz : Int) - 100 := ⟨_, rfl⟩
            have hx1 : -100 ≤ x := by omega
            have hx2 : x ≤ 100 := by omega
            rw [← hx]
            clear hx
            obtain ⟨-, hrw1, hrw2⟩ := hgr.row kz (by omega)
            rcases hrows with h0 | ⟨bR, oR, rfl, hrows⟩
            · omega
            obtain ⟨u, hu, ua, uc, rfl, huc⟩ := hrows kz (by omega)
            replace hu := upc (bt HW.out.bel HB6.out) hu
            obtain ⟨row, hrow⟩ : ∃ row, row = d.rows.getD kz [] := ⟨_, rfl⟩
            rw [← hrow] at hu huc hrw1 hrw2
            have HROW := hid hrow
            rcases huc with h0 | ⟨bU, oU, rfl, huc⟩
            · omega
            have hr3 : row.length ≤ 3 := by have := (hgr.row kz (by omega)).1; rw [← hrow] at this; exact this
            have HUC : Hid (∀ W, Below W6.heap.size W6 W → ∀ j, j < row.length → W.cell? ⟨bU, oU + j, none⟩ = some (.int .i64 (row.getD j 0))) := hid fun W hW j hj => upc hW (upc (bt HW.out.bel HB6.out) (huc j hj))
            have HRV : Hid (∀ j, j < row.length → 0 ≤ row.getD j 0 ∧ row.getD j 0 ≤ 1000000) := hid fun j hj => hrw2 _ (getD_memF hj)
            clear hrows huc hrow hrw2 hgr
            obtain ⟨rn, hrn⟩ : ∃ rn, rn = row.length := ⟨_, rfl⟩
            have HRN := hid hrn
            rw [← hrn] at hu hr3 hrw1
            clear hrn
            have hcc1 : ¬ (9223372036854775807 < T.length + nml.length) := by omega
            go_upto_region 15 with fail
            rw [cat_bytes]
            obtain ⟨X0, hX0⟩ : ∃ X0, X0 = T ++ nml := ⟨_, rfl⟩
            have HX0 : Hid (X0 = T ++ nml ++ blk (row.take 0)) := hid (by rw [hX0]; simp [blk])
            have hXl : X0.length ≤ 7500 := by rw [hX0, List.length_append]; omega
            rw [← hX0]
            clear hcc1 hX0
            go_upto_block 2 with fail
            go_wp2_with fail
            go_loopg [9, 83] rn (fun gk v9 v83 wx => ∃ (t : Nat) (X : List UInt8), v9 = .string ⟨X.toArray⟩ ∧ v83 = .int .i64 t ∧ t ≤ rn ∧ gk = rn - t ∧ X.length ≤ 7500 + t * 10 ∧ Hid (Below W6.heap.size W6 wx ∧ X = T ++ nml ++ blk (row.take t)))
            case atStart => exact ⟨0, X0, rfl, rfl, Nat.zero_le _, rfl, by omega, hid ⟨Below.refl _ _, HX0.out⟩⟩
            case round =>
              clear HX0 hXl
              obtain ⟨t, X, rfl, rfl, ht, hgk2, hXl, HJ⟩ := hrel
              generalize wr = w9 at *
              have HBJ := hid HJ.out.1
              have HXJ := hid HJ.out.2
              clear HJ
              by_cases htl : t < rn
              · have t1 : (t : Int) < (rn : Int) := by omega
                have cU : w9.cell? ⟨bU, oU + t, none⟩ = some (.int .i64 (row.getD t 0)) := HUC.out w9 HBJ.out t (by have := HRN.out; omega)
                obtain ⟨v1, v2⟩ := HRV.out t (by have := HRN.out; omega)
                have hil := itoa_small (n := row.getD t 0) (by omega) v2
                have HXN : Hid (X ++ (32 :: Lib.itoa (row.getD t 0)) = T ++ nml ++ blk (row.take (t + 1))) := hid (by
                  have e : row.take (t + 1) = row.take t ++ [row.getD t 0] := by
                    rw [List.take_add_one, List.getElem?_eq_getElem (by have := HRN.out; omega), List.getD_eq_getElem?_getD, List.getElem?_eq_getElem (by have := HRN.out; omega)]
                    rfl
                  rw [e, blk_snoc, HXJ.out]
                  simp only [List.append_assoc])
                have KDc : Hid (Calls Tryz.prog 13 #[.int .i64 (row.getD t 0)] w9 fun e w' => e = .returned (.string ⟨(Lib.itoa (row.getD t 0)).toArray⟩) ∧ ∃ dq, w' = w9.drewN dq) := hid (hDec_calls _ w9 (by omega) (by omega))
                generalize row.getD t 0 = vt at *
                generalize Lib.itoa vt = it at *
                have hcc1 : ¬ (9223372036854775807 < 1 + it.length) := by omega
                have hcc2 : ¬ (9223372036854775807 < X.length + (1 + it.length)) := by omega
                have hcc3 : ¬ (9223372036854775807 < X.length + (it.length + 1)) := by omega
                have hcc4 : ¬ (9223372036854775807 < it.length + 1) := by omega
                go_wp2_with (first | (go_at_call 13; refine KDc.out.mono ?_; rintro e w10 ⟨rfl, dq, rfl⟩) | fail)
                go_roundg (rn - (t + 1))
                case measure => omega
                case rel => exact ⟨t + 1, X ++ (32 :: it), by rw [show (⟨#[32]⟩ : ByteArray) = ⟨[32].toArray⟩ from rfl, cat_bytes, cat_bytes]; rfl, by go_num, by omega, rfl, by rw [List.length_append, List.length_cons]; omega, hid ⟨below_drewN HBJ.out dq, HXN.out⟩⟩
              · obtain rfl : t = rn := by omega
                have t1 : ¬ (t : Int) < (t : Int) := by omega
                obtain ⟨g, c, s0, s1, ⟨y, s2⟩, s3, hN⟩ := (HW6.out.below HBJ.out).store HA.out.len HAP.out hz2 (show kz < (ds'.getD z noRel).ws.length by omega) x
                have HN := hid hN
                have HS : Hid (AgS ds (ds'.set z (setW (ds'.getD z noRel) kz x)) (X ++ (32 :: Lib.itoa x ++ [10])) (m + 1)) := hid (by
                  have h1 := HA.out.step hz2 (k := kz) (x := x) (by rw [HSM.out]; omega) ⟨by omega, by omega⟩
                  rw [HNM.out, HSM.out, ← HROW.out] at h1
                  rw [HXJ.out, HRN.out, List.take_length]
                  simp only [List.append_assoc] at h1 ⊢
                  exact h1)
                have hil := itoa_small (n := x) (by omega) (by omega)
                have KDc : Hid (Calls Tryz.prog 13 #[.int .i64 x] w9 fun e w' => e = .returned (.string ⟨(Lib.itoa x).toArray⟩) ∧ ∃ dq, w' = w9.drewN dq) := hid (hDec_calls _ w9 (by omega) (by omega))
                rw [hwl] at s1
                clear hN HUC HRV HXJ HROW HRN
                generalize Lib.itoa x = it at *
                have hcc1 : ¬ (9223372036854775807 < 1 + it.length) := by omega
                have hcc2 : ¬ (9223372036854775807 < 1 + it.length + 1) := by omega
                have hcc3 : ¬ (9223372036854775807 < X.length + (1 + it.length + 1)) := by omega
                have hcc4 : ¬ (9223372036854775807 < it.length + 1) := by omega
                have hcc5 : ¬ (9223372036854775807 < it.length + 1 + 1) := by omega
                have hcc6 : ¬ (9223372036854775807 < X.length + (it.length + 1 + 1)) := by omega
                go_wp2_with (first | (go_at_call 13; refine KDc.out.mono ?_; rintro e w10 ⟨rfl, dq, rfl⟩) | fail)
                go_roundg (6 - (m + 1))
                case measure => omega
                case rel => exact ⟨m + 1, X ++ (32 :: it ++ [10]), _, by rw [show (⟨#[32]⟩ : ByteArray) = ⟨[32].toArray⟩ from rfl, show (⟨#[10]⟩ : ByteArray) = ⟨[10].toArray⟩ from rfl, cat_bytes, cat_bytes, cat_bytes]; rfl, by go_num, by omega, rfl, hid ⟨HN.out.below (below_drewN (Below.refl _ _) dq), HS.out⟩⟩
        · obtain rfl : m = 6 := by omega
          have hlA := HA.out.len
          have hb7 := HW.out.box
          have HBw := hid (bt HBa.out HW.out.bel)
          have HOk := hid HA.out.ok
          have KR2 := hid (KR.out wo T ds' 6 HBw.out HA.out (Nat.le_refl _))
          clear KR KD KP
          go_upto_region 23 with (first | (go_at_call 6; refine KR2.out.mono ?_; rintro e w9 ⟨a4, c4, rfl, hb9, hI9⟩) | fail)
          obtain ⟨hb10, d10⟩ := one_new w9 (.slice a4 ds.length c4)
          have hbZ := bt hb9 hb10
          have HI10 := hid (hI9.below hb10)
          have HWZ := hid (HW.out.below hbZ)
          have HBZ := hid (bt HBw.out hbZ)
          have d7 : (w9.alloc (.cells #[.slice a4 ds.length c4] 25)).cell? ⟨b7, 0, none⟩ = some (.slice (some ⟨gW, 0, none⟩) ds.length c9) := by rw [cell_of_row _ _ _ _ _ _ HWZ.out.box]; rfl
          generalize w9.alloc (.cells #[.slice a4 ds.length c4] 25) = WZ at *
          generalize w9.heap.size = b17 at *
          have KH2 := hid (KH.out WZ a4 c4 (some ⟨gW, 0, none⟩) c9 ds' HOk.out hlA HI10.out HWZ.out.sq.irels)
          clear KH hb9 hI9 hb10 hbZ hb7
          go_wp2_with (first | (go_at_call 10; refine KH2.out.mono ?_; rintro e wA ⟨rfl, hbA⟩) | fail)
          go_ret
          exact ⟨rfl, bt HBZ.out hbA⟩

end Go.Proofs.YtcdfoephhjacdaaGreatDoor
