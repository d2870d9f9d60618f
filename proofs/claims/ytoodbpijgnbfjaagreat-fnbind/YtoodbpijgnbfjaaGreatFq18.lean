import Derived.Deep.RegionHeld3
import Derived.Test.YtoodbpijgnbfjaaGreatFq11
import Derived.Test.YtoodbpijgnbfjaaGreatFq16
import Derived.Test.YtoodbpijgnbfjaaGreatFq17
namespace Go.Proofs.YtoodbpijgnbfjaaGreat
open Go.RowKit Go.Maps

def BtE (w : World) (V : List ByteArray) (ts : List TermV) (r : RelV) (e : Ending) (w' : World) : Prop := ∃ v0 v1 v2 us rows ws, e = .returned (.agg #[v0, v1, v2]) ∧ TW w' w.heap.size v0 v1 v2 us (vrsI V ts) rows ws ∧ rows.length = ws.length ∧ (rows.zip ws).Perm (fndL V ts r.rows r.ws r.rows.length) ∧ (rows.Pairwise fun a b => ¬ cmpL b a < 0) ∧ Below w.heap.size w w'

set_option maxHeartbeats 16000000 in
set_option maxRecDepth 1000000 in
theorem boundTable_calls (w : World) (nm : ByteArray) (ar : Int) (vr vw vt : Value) (r : RelV) (ts : List TermV) (nb : Nat) (V : List ByteArray) (hI : IRel w vr vw r) (ht : ITm w vt ts) (hN : Numb w nb V) (H : BtH V ts r) :
    Calls Tryz.prog 24 #[.agg #[.string nm, .int .i64 ar, vr, vw], vt, .map (some nb)] w (BtE w V ts r) := by
  obtain ⟨iT, hi, hz0, hz1, hz2⟩ := info_parts Tryz.infoSI
  obtain ⟨W0, hW0⟩ : ∃ W, W = (w.alloc (.cells #[.string nm, .int .i64 ar, vr, vw] 53)).alloc (.cells #[.slice none 0 0, .slice none 0 0, .slice none 0 0] 71) := ⟨_, rfl⟩
  have HB0 : Hid (Below w.heap.size w W0) := hid (by rw [hW0]; exact ((Below.refl _ _).alloc (Nat.le_refl _) _).alloc (by simp) _)
  have HR0 : Hid (RX W0 w.heap.size (.string nm) (.int .i64 ar) vr vw) := hid (by rw [hW0]; exact (RX.made _ _ _ _ _).below ((Below.refl _ _).alloc (Nat.le_refl _) _))
  have HP0 : Hid (TbX W0 (w.heap.size + 1) (.slice none 0 0) (.slice none 0 0) (.slice none 0 0)) := hid (by
    have := TbX.made (w.alloc (.cells #[.string nm, .int .i64 ar, vr, vw] 53)) (.slice none 0 0) (.slice none 0 0) (.slice none 0 0)
    rw [World.size_alloc] at this
    rw [hW0]; exact this)
  have KV := hid (variablePlaces_calls W0 vt ts nb V (ht.below HB0.out) (hN.bel HB0.out) (by have := H.tl; omega) (by have := H.vl; omega) H.ne H.all H.sz)
  have HH := hid H
  have HI := hid hI
  have HT := hid ht
  obtain ⟨a1, k1, e1, -⟩ := hI.rows
  obtain ⟨a2, k2, e2, -⟩ := hI.ws
  obtain ⟨a3, k3, e3, -⟩ := ht
  subst e1 e2 e3
  clear hI hN H
  have KK : Hid (∀ (mb : Nat) W, Calls Tryz.prog 48 #[.map (some mb)] W fun e w' => e = .returned (.func (.func 72) #[] #[.pointer (some ⟨W.heap.size, 0, none⟩)]) ∧ w' = W.alloc (.cells #[.map (some mb)] 108)) := hid fun mb W => keysB_calls (some mb) W
  generalize hln : ts.length = nt at *
  generalize hrn : r.rows.length = nr at *
  generalize hwn : r.ws.length = nw at *
  go_enter Tryz.func24, Tryz.ntmps24
  go_upto_region 1 with fail
  rw [← hW0]
  clear hW0
  go_upto_region 2 with (first | (go_at_call 47; refine KV.out.mono ?_; rintro e W1 ⟨b1, rfl, hb1, ⟨D, nn, hvp⟩, hB1⟩) | fail)
  have HVp := hid hvp
  have KS := hid (sortedB_calls W1 b1 nn V ts D (by rw [hln]; exact hvp) (by rw [hln]; have := HH.out.tl; omega))
  have HB1 := hid hB1
  clear hvp KV hB1
  go_upto_region 3 with (first | (go_at_call 48; refine (KK.out b1 W1).mono ?_; rintro e w2 ⟨rfl, rfl⟩) | (go_at_call 33; refine KS.out.mono ?_; rintro e W2 ⟨v0, rfl, ho0, hB2⟩; obtain ⟨a0, k0, e0⟩ := own_shapeW ho0; subst e0) | fail)
  have HT8 : Hid (TbX (W2.alloc (.cells #[.slice a0 (vrsI V ts).length k0, .slice none 0 0, .slice none 0 0] 71)) W2.heap.size (.slice a0 (vrsI V ts).length k0) (.slice none 0 0) (.slice none 0 0)) := hid (TbX.made W2 _ _ _)
  have hA1 : Below W1.heap.size W1 (W1.alloc (.cells #[.map (some b1)] 108)) := (Below.refl _ _).alloc (Nat.le_refl _) _
  have hA2 : Below W2.heap.size W2 (W2.alloc (.cells #[.slice a0 (vrsI V ts).length k0, .slice none 0 0, .slice none 0 0] 71)) := (Below.refl _ _).alloc (Nat.le_refl _) _
  have HB13 := hid (bt (bt hA1 hB2) hA2)
  have HB03 := hid (bt HB1.out HB13.out)
  have HO0 := hid (own_base (own_below ho0 hA2) (show w.heap.size ≤ _ by have h1 := HB0.out.size; have h2 := HB1.out.size; simp; omega))
  have hP8 : w.heap.size + 1 < W2.heap.size := by have h1 := HP0.out.lt; have h2 := HB1.out.size; have h3 := hB2.size; simp at h3; omega
  clear KS KK ho0 hB2 hA1 hA2
  obtain ⟨P8, hp8⟩ : ∃ P, P = W2.heap.size := ⟨_, rfl⟩
  rw [← hp8] at HT8 hP8 ⊢
  clear hp8
  obtain ⟨nv, hnv⟩ : ∃ n, n = (vrsI V ts).length := ⟨_, rfl⟩
  have HNV := hid hnv
  rw [← hnv] at HT8 HB13 HB03 HO0 ⊢
  generalize W2.alloc (.cells #[.slice a0 nv k0, .slice none 0 0, .slice none 0 0] 71) = W3 at *
  have HBw3 := hid (bt HB0.out HB03.out)
  have HRx := hid (HR0.out.below HB03.out)
  have HP6 := hid (HP0.out.below HB03.out)
  have HV3 := hid (HVp.out.bel HB13.out)
  have HC0 : Hid (∀ W, Below W3.heap.size W3 W → ∀ p, p < nv → ∃ b o, a0 = some ⟨b, o, none⟩ ∧ W.cell? ⟨b, o + p, none⟩ = some (.int .i64 ((vrsI V ts).getD p 0))) := hid fun W hW p hp => by
    obtain ⟨a', c', e', h'⟩ := own_is (by rw [← hnv]; exact HO0.out)
    simp only [Value.slice.injEq] at e'
    obtain ⟨rfl, -, -⟩ := e'
    rcases h' with h0 | ⟨b, o, rfl, h⟩
    · omega
    · exact ⟨b, o, rfl, bcl' hW (h p (by omega))⟩
  have HCol : Hid (∀ p, p < nv → ∃ v q : Nat, (vrsI V ts).getD p 0 = (v : Int) ∧ v < V.length ∧ lastO ts nt (V.getD v noTx) = some q ∧ ((colP V ts).take (p + 1)).map (Value.int .i64) = ((colP V ts).take p).map (Value.int .i64) ++ [.int .i64 (q : Int)]) := hid fun p hp => by
    have := vrsI_get (V := V) (ts := ts) (p := p) (by omega)
    rw [hln] at this
    exact this
  have hnvl : nv ≤ 6 := by
    rw [hnv]
    have h1 : (vrsI V ts).length ≤ V.length := by unfold vrsI vrs; rw [List.length_map]; exact Nat.le_trans (List.length_filter_le _ _) (by simp)
    have := HH.out.vl
    omega
  have hvl := HH.out.vl
  clear hnv HB1 HB13 HR0 HP0 HVp
  have d0 := HT8.out.c0
  go_wp2_with fail
  clear d0
  go_loopw [9, 25] (fun x t wr => ∃ (p : Nat) (vC : Value), p ≤ nv ∧ t = .int .i64 p ∧ vC = x ∧ Hid (Below W3.heap.size W3 wr ∧ wr.ownsRow W3.heap.size 3 1 vC p (((colP V ts).take p).map (Value.int .i64)))) (fun _ t _ => nv - (intOf t).toNat)
  case atStart => exact ⟨0, _, Nat.zero_le _, rfl, rfl, hid ⟨Below.refl _ _, World.ownsRow_nil _ _ _ _⟩⟩
  case round =>
    obtain ⟨p, vC, hpn, rfl, rfl, HG⟩ := hrel
    by_cases hlp : p < nv
    · have i1 : (p : Int) < (nv : Int) := by omega
      obtain ⟨b, o, ea, g0⟩ := HC0.out wr HG.out.1 p hlp
      subst ea
      obtain ⟨v, q, hv, hvl2, hlast, hsucc⟩ := HCol.out p hlp
      rw [hv] at g0
      have HS := hid hsucc
      have hvp := HV3.out.bel HG.out.1
      have hown := hvp.own
      have hq : q < nt := lastO_lt hlast
      have hat : ∀ c : Int, D.atKey (.int .i64 (v : Int)) (.lit (.int .i64 0)) = .lit (.int .i64 c) → c = (q : Int) := fun c hc => by
        have := hvp.val v hvl2 q hlast (.lit (.int .i64 0))
        rw [hc] at this
        simpa using this
      have hsz := HG.out.1.size
      clear hvp hsucc hlast hv
      go_wp2_with (first | (at_lookup; refine wpList_lookup_own_int _ rfl _ _ 108 rfl 3 3 .i64 Tryz.lawI Tryz.underlying108 Tryz.underlying3 (Tryz.zeroN _) b1 nn D rfl hown _ _ rfl (keyOf_int_mk Tryz.underlying3 (WalkArith.wf_i64 (by omega))) ?_; intro cL hatk hwc; obtain rfl := hat cL hatk) | (at_builtin; refine wpList_append_lies _ rfl _ _ 33 rfl W3.heap.size 3 iT (.int .i64 0) 1 8 Tryz.underlying33 hi hz0 hz1 hz2 rfl (by decide) vC _ _ rfl (HG.out.2.alloc _) ⟨_, 0, none⟩ 1 1 [.int .i64 (q : Int)] rfl rfl (new1_cell _ _ _) (fun u hu => by simp at hu; subst hu; rfl) (by decide) (by unfold maxLen; omega) (by omega) (by simp; omega) _ rfl ?_; intro g8 cp8 w8 hown8 hgrow8 hat8 hlt8) | fail)
      have HN2 : Hid (Below W3.heap.size W3 w8 ∧ w8.ownsRow W3.heap.size 3 1 (.slice (some ⟨g8, 0, none⟩) (p + 1) cp8) (p + 1) (((colP V ts).take (p + 1)).map (Value.int .i64))) := hid ⟨(HG.out.1.alloc hsz _).grown hgrow8 (by simp; omega) (fun j hj => (HG.out.2.lt j hj).1), by rw [HS.out]; exact hown8⟩
      clear hown8 hgrow8 hat8 hlt8 hown hatk hwc
      go_wp2_with fail
      go_roundw
      case rel => exact ⟨p + 1, _, by omega, by go_num, rfl, HN2⟩
      case measure => simp [intOf]; omega
    · obtain rfl : p = nv := by omega
      have i1 : ¬ ((p : Int) < (p : Int)) := by omega
      obtain ⟨iW, hj, hy0, hy1, hy2⟩ := info_parts Tryz.infoWt
      obtain ⟨aC, kC, eC⟩ := own_shapeW HG.out.2
      subst eC
      have HB4 := hid HG.out.1
      have HOC : Hid (wr.ownsRow W3.heap.size 3 1 (.slice aC p kC) (colP V ts).length ((colP V ts).map (Value.int .i64))) := hid (by
        have := HG.out.2
        rw [HNV.out, colP_all] at this
        rw [HNV.out, show (colP V ts).length = (vrsI V ts).length by simp [colP, vrsI]]
        exact this)
      clear HG HC0 HCol
      have HBw4 := hid (bt HBw3.out HB4.out)
      have HRx4 := hid (HRx.out.below HB4.out)
      generalize wr = W4 at *
      have HI4 : Hid (∀ W, Below W4.heap.size W4 W → IRel W (.slice a1 nr k1) (.slice a2 nw k2) r) := hid fun W hW => HI.out.below (bt HBw4.out hW)
      have HRow : Hid (∀ W, Below W4.heap.size W4 W → ∀ i, i < nr → ∃ b o u, a1 = some ⟨b, o, none⟩ ∧ W.cell? ⟨b, o + i, none⟩ = some u ∧ IS W u (r.rows.getD i [])) := hid fun W hW i hi => by
        obtain ⟨a', c', e', h'⟩ := (HI4.out W hW).rows
        simp only [Value.slice.injEq] at e'
        obtain ⟨rfl, -, -⟩ := e'
        rcases h' with h0 | ⟨b, o, rfl, h⟩
        · omega
        · obtain ⟨u, h1, h2⟩ := h i (by omega)
          exact ⟨b, o, u, rfl, h1, h2⟩
      have hwl : nw = nr := by rw [← hwn, ← hrn]; exact HH.out.wl
      have HWt : Hid (∀ W, Below W4.heap.size W4 W → ∀ i, i < nr → ∃ b o, a2 = some ⟨b, o, none⟩ ∧ W.cell? ⟨b, o + i, none⟩ = some (.int .i64 (r.ws.getD i 0))) := hid fun W hW i hi => by
        obtain ⟨a', c', e', h'⟩ := (HI4.out W hW).ws
        simp only [Value.slice.injEq] at e'
        obtain ⟨rfl, -, -⟩ := e'
        rcases h' with h0 | ⟨b, o, rfl, h⟩
        · omega
        · exact ⟨b, o, rfl, h i (by omega)⟩
      have hrl : nr ≤ 2000 := by rw [← hrn]; exact HH.out.n
      have hntl : nt ≤ 3 := by rw [← hln]; exact HH.out.tl
      have HLen : Hid (∀ i, i < nr → (r.rows.getD i []).length = nt) := hid fun i hi => by rw [← hln]; exact HH.out.len i (by omega)
      have KF : Hid (∀ W u i, Below W4.heap.size W4 W → i < nr → IS W u (r.rows.getD i []) → Calls Tryz.prog 49 #[u, .slice a3 nt k3] W fun e w' => e = .returned (.bool (fitB ts (r.rows.getD i []))) ∧ Below W.heap.size W w') := hid fun W u i hW hi hu =>
        fits_calls W u _ (r.rows.getD i []) ts hu (HT.out.below (bt HBw4.out hW)) (by rw [HLen.out i hi]; omega) (by rw [HLen.out i hi]; omega) HH.out.hz
      have KVa : Hid (∀ W u i, Below W4.heap.size W4 W → i < nr → IS W u (r.rows.getD i []) → Calls Tryz.prog 50 #[u, .slice aC p kC] W fun e w' => ∃ v, e = .returned v ∧ w'.ownsRow W.heap.size 3 1 v (atP (r.rows.getD i []) (colP V ts)).length ((atP (r.rows.getD i []) (colP V ts)).map (Value.int .i64)) ∧ Below W.heap.size W w') := hid fun W u i hW hi hu =>
        valuesAt_calls W u _ (r.rows.getD i []) (colP V ts) hu (own_is (own_below HOC.out hW)) (by simp [colP]; have : (vrs V ts).length = p := (by rw [HNV.out]; simp [vrsI]); omega) (fun q hq => by have := colP_in (V := V) (ts := ts) (Nat.le_refl _) q hq; rw [HLen.out i hi]; omega)
      have hfl : ∀ i, (fndL V ts r.rows r.ws i).length ≤ i := fndL_len V ts r.rows r.ws
      have HFl := hid hfl
      clear hfl
      have d2 := HRx4.out.c2
      go_wp2_with fail
      clear d2
      go_loopw [12, 39] (fun x t wr => ∃ (i : Nat) (vF : Value), i ≤ nr ∧ t = .int .i64 i ∧ vF = x ∧ Hid (Below W4.heap.size W4 wr ∧ WF wr W4.heap.size vF (fndL V ts r.rows r.ws i))) (fun _ t _ => nr - (intOf t).toNat)
      case atStart => exact ⟨0, _, Nat.zero_le _, rfl, rfl, hid ⟨Below.refl _ _, WF.nil _ _⟩⟩
      case round =>
        obtain ⟨i, vF, hin, rfl, rfl, HF⟩ := hrel
        by_cases hil : i < nr
        · have i2 : (i : Int) < (nr : Int) := by omega
          obtain ⟨b, o, u, ea, g0, hu⟩ := HRow.out wr HF.out.1 i hil
          subst ea
          obtain ⟨au, cu, eu, hcu⟩ := hu
          have HU : Hid (IS wr u (r.rows.getD i [])) := hid ⟨au, cu, eu, hcu⟩
          rw [HLen.out i hil] at eu
          subst eu
          clear hcu
          have KF1 := hid (KF.out wr _ i HF.out.1 hil HU.out)
          cases hfit : fitB ts (r.rows.getD i [])
          · rw [hfit] at KF1
            have HFn := hid (fndL_no (V := V) (ws := r.ws) hfit)
            go_wp2_with fail
            refine KF1.out.mono ?_
            rintro e w5 ⟨rfl, hb5⟩
            have HF5 : Hid (Below W4.heap.size W4 w5 ∧ WF w5 W4.heap.size vF (fndL V ts r.rows r.ws (i + 1))) := hid ⟨bt HF.out.1 hb5, by rw [HFn.out]; exact HF.out.2.below hb5⟩
            clear hb5 KF1 HF HU g0
            go_wp2_with fail
            go_roundw
            case rel => exact ⟨i + 1, _, by omega, by go_num, rfl, HF5⟩
            case measure => simp [intOf]; omega
          · rw [hfit] at KF1
            have HFy := hid (fndL_yes (V := V) (ws := r.ws) hfit)
            go_upto_region 14 with (first | (go_at_call 49; refine KF1.out.mono ?_; rintro e w5 ⟨rfl, hb5⟩) | fail)
            have HB5 := hid (bt HF.out.1 hb5)
            have HF5 := hid (HF.out.2.below hb5)
            have HU5 := hid (HU.out.below hb5)
            have r3 := (HRx4.out.below HB5.out).c3
            obtain ⟨b4, o4, e4, r4⟩ := HWt.out w5 HB5.out i hil
            subst e4
            have KVb : Hid (Calls Tryz.prog 50 #[.slice au nt cu, .slice aC p kC] w5.drew fun e w' => ∃ v, e = .returned v ∧ w'.ownsRow w5.heap.size 3 1 v (atP (r.rows.getD i []) (colP V ts)).length ((atP (r.rows.getD i []) (colP V ts)).map (Value.int .i64)) ∧ Below w5.heap.size w5 w') := hid ((KVa.out w5.drew _ i HB5.out.drew hil (HU5.out.below (Below.refl _ _).drew)).mono fun e w' ⟨v, h1, h2, h3⟩ => ⟨v, h1, h2, ⟨h3.os, h3.tape, h3.output, h3.size, h3.block⟩⟩)
            obtain ⟨xs, hownF, hstep⟩ := HF5.out.row HB5.out.size
            have HOF := hid hownF
            have HSt := hid hstep
            have hll := HFl.out i
            have iw : (i : Int) < (nw : Int) := by omega
            clear hownF hstep KF1 HF HU g0 hb5 HF5 HU5
            generalize hll2 : (fndL V ts r.rows r.ws i).length = ll at *
            generalize hrow : atP (r.rows.getD i []) (colP V ts) = vals at *
            generalize hwt : r.ws.getD i 0 = wt at *
            have hs5 := HB5.out.size
            have HWb : Hid (∀ w7 : World, Below w5.heap.size w5 w7 → w7.cell? ⟨w.heap.size, 3, none⟩ = some (.slice (some ⟨b4, o4, none⟩) nw k2) ∧ w7.cell? ⟨b4, o4 + i, none⟩ = some (.int .i64 wt)) := hid fun w7 h7 => ⟨bcl' h7 r3, bcl' h7 r4⟩
            go_region_law (first
              | (go_simp; go_at_call 50; (with_reducible refine KVb.out.mono ?_); rintro e w7 ⟨vV, rfl, hoV, hb7⟩; have HB7 := hid hb7; have HOV := hid hoV; obtain ⟨r3b, r4b⟩ := HWb.out w7 hb7; obtain ⟨aV, kV, eV⟩ := own_shapeW hoV; subst eV; have hs7 : W4.heap.size ≤ w7.heap.size := Nat.le_trans hs5 hb7.size; clear hoV hb7)
              | (refine step_append_lies _ (by rfl) _ _ _ (by rfl) W4.heap.size 115 iW (.agg #[.slice none 0 0, .int .i64 0]) 2 32 Tryz.underlying111 hj hy0 hy1 hy2 rfl (by decide) vF ll xs (by rfl) ((own_below HOF.out HB7.out).alloc _) ⟨_, 0, none⟩ 1 1 [.slice aV vals.length kV, .int .i64 wt] (by rfl) (by rfl) (new2_cellB _ _ _ _) (fun u hu => by simp at hu; rcases hu with rfl | rfl <;> rfl) (by decide) (by unfold maxLen; omega) (by omega) (by simp; omega) _ rfl ?_; intro g8 cp8 w8 hown8 hgrow8 hat8 hlt8; have HZ : Hid (Below W4.heap.size W4 w8 ∧ WF w8 W4.heap.size (.slice (some ⟨g8, 0, none⟩) (ll + 1) cp8) (fndL V ts r.rows r.ws (i + 1))) := hid ⟨((bt HB5.out HB7.out).alloc hs7 _).grown hgrow8 (by simp; omega) (fun j hj => (HOF.out.lt j hj).1), by rw [HFy.out]; exact HSt.out w7 _ vals wt _ w8 _ HB7.out HOV.out hgrow8 hown8⟩; clear hown8 hgrow8 hat8 hlt8)
              | fail)
            all_goals
              clear r3 r4 KVb HWb HSt HOF
              go_wp2_with fail
              go_roundw
              case rel => exact ⟨i + 1, _, by omega, by go_num, rfl, HZ⟩
              case measure => simp [intOf]; omega
        · obtain rfl : i = nr := by omega
          have i2 : ¬ ((i : Int) < (i : Int)) := by omega
          obtain ⟨es, hq, hes⟩ := HF.out.2
          have hel : es.length ≤ 2000 := by
            have h1 := HFl.out i
            rw [← hes, List.length_map] at h1
            omega
          have KSo := hid (sortedRows_calls wr W4.heap.size vF es hq (fun e he => by
            have h1 : e.2 ∈ fndL V ts r.rows r.ws i := by rw [← hes]; exact List.mem_map.2 ⟨e, he, rfl⟩
            unfold fndL at h1
            obtain ⟨j, -, h2⟩ := List.mem_map.1 h1
            rw [← h2]
            have h3 : (vrs V ts).length = p := by rw [HNV.out]; simp [vrsI]
            show (atP (r.rows.getD j []) (colP V ts)).length ≤ _
            rw [atP_len, colP_len, h3]
            omega) hel HF.out.1.size)
          obtain ⟨aF, kF, eF⟩ := own_shapeW hq.own
          subst eF
          have HE := hid hes
          have HBr := hid HF.out.1
          clear HF hq hes KF KVa HRow HWt HI4 HFl
          generalize es.length = le at *
          go_upto_region 17 with (first | (go_at_call 51; refine KSo.out.mono ?_; rintro e w6 ⟨es', vR, vW, rfl, hp, hs, hRQ, hoW, hap, hb6⟩; obtain ⟨aR, kR, eR⟩ := own_shapeW hRQ.own; obtain ⟨aW, kW, eW⟩ := own_shapeW hoW; subst eR eW; have HB6 := hid (HBr.out.trans hb6); have HX8 := hid ((HT8.out.below HB4.out).below HB6.out); have c80 := HX8.out.c0; have c81 := HX8.out.c1; have c82 := HX8.out.c2; have f81 := HX8.out.free 1; have f82 := HX8.out.free 2) | fail)
          have HTW : Hid (TW w6 w.heap.size (.slice a0 p k0) (.slice aR (wls es').length kR) (.slice aW (wws es').length kW) (wus es') (vrsI V ts) (wls es') (wws es')) := hid (bt_end (by rw [← HNV.out]; exact HO0.out) HBw3.out.size HB4.out HB6.out hRQ hoW hap)
          have HBf := hid (bt HBw4.out HB6.out)
          have HFin : Hid ((wls es').length = (wws es').length ∧ ((wls es').zip (wws es')).Perm (fndL V ts r.rows r.ws i) ∧ ((wls es').Pairwise fun a b => ¬ cmpL b a < 0)) := hid ⟨by simp [wls, wws], by rw [zip_wt, ← HE.out]; exact hp.map _, List.pairwise_map.2 (hs.imp fun h => by omega)⟩
          have HX6 := hid ((HP6.out.below HB4.out).below HB6.out)
          clear hRQ hoW hap hp hs hb6 HP6 HT8 HE HBr HB6 KSo c80 c81 c82 f81 f82 HO0
          obtain ⟨P6, hp6⟩ : ∃ P, P = w.heap.size + 1 := ⟨_, rfl⟩
          have HP6 : Hid (w.heap.size ≤ P6) := hid (by omega)
          have hP8' : w.heap.size ≤ P8 := by omega
          rw [← hp6] at HX6 hP8 ⊢
          clear hp6
          have hne : P6 ≠ P8 := by omega
          generalize (wls es').length = lR at *
          generalize (wws es').length = lW at *
          have HY8 := hid ((HX8.out.set1 (.slice aR lR kR)).set2 (.slice aW lW kW))
          have HY6 := hid ((HX6.out.other (j := 1) hne (.slice aR lR kR)).other (j := 2) hne (.slice aW lW kW))
          have HTW7 := hid ((HTW.out.set (p := P8) (off := 1) (y := .slice aR lR kR) HX8.out.typ).set (p := P8) (off := 2) (y := .slice aW lW kW) (typ_setT HX8.out.typ))
          have HBf7 := hid ((HBf.out.setCell (p := ⟨P8, 1, none⟩) hP8' (.slice aR lR kR)).setCell (p := ⟨P8, 2, none⟩) hP8' (.slice aW lW kW))
          clear HX8 HX6 HTW HBf
          generalize (w6.setCell ⟨P8, 1, none⟩ (.slice aR lR kR)).setCell ⟨P8, 2, none⟩ (.slice aW lW kW) = W7 at *
          have e0 := HY8.out.c0
          have e1 := HY8.out.c1
          have e2 := HY8.out.c2
          have b0 := HY6.out.c0
          have b1' := HY6.out.c1
          have b2 := HY6.out.c2
          have f0 := HY6.out.free 0
          have f1 := HY6.out.free 1
          have f2 := HY6.out.free 2
          have HTy := hid HY6.out.typ
          go_wp2_with fail
          refine bodyPost_ret (v := .agg #[.slice a0 p k0, .slice aR lR kR, .slice aW lW kW]) (by simp [results, Tryz.results24, go_sem, b0, b1', b2]) rfl ⟨_, _, _, wus es', wls es', wws es', rfl, ?_, (by simp [wls, wws]), by rw [hrn]; exact HFin.out.2.1, HFin.out.2.2.imp fun h => Int.not_lt.2 h, ((HBf7.out.setCell HP6.out _).setCell HP6.out _).setCell HP6.out _⟩
          exact ((HTW7.out.set HTy.out).set (typ_setT HTy.out)).set (typ_setT (typ_setT HTy.out))

end Go.Proofs.YtoodbpijgnbfjaaGreat

namespace Go.Proofs.YtoodbpijgnbfjaaGreat
open Go.RowKit

theorem checkP_zero {ds : List RelV} {q : QV} (h : (checkP ds q).1 = 0) : dataB ds = true ∧ shapeB q = true ∧ q.atoms.length ≤ 7 ∧ (∀ j, j < q.atoms.length → atomCode ds (q.atoms.getD j noAt) = 0) ∧ (VL q.atoms q.atoms.length).length ≤ 6 := by
  cases hd : dataB ds
  · rw [checkP_data hd] at h; cases h
  cases hs : shapeB q
  · rw [checkP_shape hd hs] at h; cases h
  by_cases h7 : q.atoms.length ≤ 7
  · rcases first_or_all (fun i => decide (atomCode ds (q.atoms.getD i noAt) ≠ 0)) q.atoms.length with h1 | ⟨i, hi, h1, h2⟩
    · have hb : ∀ j, j < q.atoms.length → atomCode ds (q.atoms.getD j noAt) = 0 := fun j hj => by simpa using h1 j hj
      refine ⟨rfl, rfl, h7, hb, ?_⟩
      by_cases h6 : (VL q.atoms q.atoms.length).length ≤ 6
      · exact h6
      · rw [checkP_vars hd hs h7 hb (by omega)] at h; cases h
    · have hc : atomCode ds (q.atoms.getD i noAt) ≠ 0 := by simpa using h1
      rw [checkP_atom hd hs h7 hi (fun j hj => by simpa using h2 j hj) hc] at h
      exact absurd h hc
  · rw [checkP_atoms hd hs (by omega)] at h; cases h

theorem addV_mono {L : List ByteArray} {t : TermV} {x : ByteArray} (h : hasT L x = true) : hasT (addV L t) x = true := by
  unfold addV
  split
  · exact h
  · rw [hasT_app, h]; rfl
theorem addV_has {L : List ByteArray} {t : TermV} (h : t.1.toList.isEmpty = false) : hasT (addV L t) t.1 = true := by
  unfold addV
  rw [h, Bool.false_or]
  cases hh : hasT L t.1
  · rw [if_neg (by decide), hasT_app]; simp
  · rw [if_pos rfl]; exact hh
theorem fold_mono {x : ByteArray} : ∀ (l : List TermV) {L : List ByteArray}, hasT L x = true → hasT (l.foldl addV L) x = true
  | [], _, h => h
  | _ :: r, _, h => fold_mono r (addV_mono h)
theorem fold_has {t : TermV} (ht : t.1.toList.isEmpty = false) : ∀ (l : List TermV) {L : List ByteArray}, t ∈ l → hasT (l.foldl addV L) t.1 = true
  | [], _, h => by simp at h
  | a :: r, _, h => by
    rcases List.mem_cons.1 h with rfl | h
    · exact fold_mono r (addV_has ht)
    · exact fold_has ht r h
theorem folds_mono {x : ByteArray} : ∀ (l : List AtomV) {L : List ByteArray}, hasT L x = true → hasT (l.foldl (fun L a => a.2.foldl addV L) L) x = true
  | [], _, h => h
  | a :: r, _, h => folds_mono r (fold_mono a.2 h)
theorem folds_has {t : TermV} (ht : t.1.toList.isEmpty = false) {a : AtomV} (hta : t ∈ a.2) : ∀ (l : List AtomV) {L : List ByteArray}, a ∈ l → hasT (l.foldl (fun L a => a.2.foldl addV L) L) t.1 = true
  | [], _, h => by simp at h
  | b :: r, _, h => by
    rcases List.mem_cons.1 h with rfl | h
    · exact folds_mono r (fold_has ht a.2 hta)
    · exact folds_has ht hta r h
def NeT (L : List ByteArray) : Prop := ∀ y ∈ L, y.toList.isEmpty = false
theorem addV_ne {L : List ByteArray} {t : TermV} (h : NeT L) : NeT (addV L t) := by
  unfold addV
  split
  · exact h
  · rename_i h1
    intro y hy
    rcases List.mem_append.1 hy with hy | hy
    · exact h y hy
    · rw [List.mem_singleton.1 hy]
      cases he : t.1.toList.isEmpty
      · rfl
      · rw [he] at h1; simp at h1
theorem fold_ne : ∀ (l : List TermV) {L : List ByteArray}, NeT L → NeT (l.foldl addV L)
  | [], _, h => h
  | _ :: r, _, h => fold_ne r (addV_ne h)
theorem folds_ne : ∀ (l : List AtomV) {L : List ByteArray}, NeT L → NeT (l.foldl (fun L a => a.2.foldl addV L) L)
  | [], _, h => h
  | a :: r, _, h => folds_ne r (fold_ne a.2 h)
theorem VL_whole (ats : List AtomV) : VL ats ats.length = ats.foldl (fun L a => a.2.foldl addV L) [] := by unfold VL; rw [List.take_length]
theorem VL_ne (ats : List AtomV) {v : Nat} (hv : v < (VL ats ats.length).length) : ((VL ats ats.length).getD v noTx).toList.isEmpty = false := by
  have h := folds_ne ats (L := []) (fun y hy => by simp at hy)
  rw [← VL_whole] at h
  exact h _ (by rw [List.getD_eq_getElem?_getD, List.getElem?_eq_getElem hv]; exact List.getElem_mem _)
theorem getD_memG {α : Type} {l : List α} {d : α} {i : Nat} (h : i < l.length) : l.getD i d ∈ l := by rw [List.getD_eq_getElem?_getD, List.getElem?_eq_getElem h]; exact List.getElem_mem _
theorem VL_all (ats : List AtomV) {j i : Nat} (hj : j < ats.length) (hi : i < (ats.getD j noAt).2.length) (he : ((ats.getD j noAt).2.getD i noTm).1.toList.isEmpty = false) : hasT (VL ats ats.length) ((ats.getD j noAt).2.getD i noTm).1 = true := by
  rw [VL_whole]
  exact folds_has he (getD_memG hi) ats (getD_memG hj)

theorem rel_rows {ds : List RelV} (h : dataB ds = true) {k : Nat} (hk : k < ds.length) : (ds.getD k noRel).ar ≤ 3 ∧ (ds.getD k noRel).rows.length ≤ 2000 ∧ (ds.getD k noRel).ws.length = (ds.getD k noRel).rows.length ∧ rowsB (ds.getD k noRel).rows (ds.getD k noRel).ar = true := by
  unfold dataB at h
  simp only [Bool.and_eq_true, decide_eq_true_eq, List.all_eq_true] at h
  have h1 := h.2 k (List.mem_range.2 hk)
  unfold relAtB relB at h1
  generalize ds.getD k noRel = r at *
  simp only [Bool.and_eq_true, decide_eq_true_eq, List.all_eq_true] at h1
  obtain ⟨⟨⟨⟨⟨⟨⟨h2, h3⟩, h4⟩, h5⟩, h6⟩, h7⟩, h8⟩, -⟩ := h1
  unfold arityB at h3
  simp only [Bool.and_eq_true, decide_eq_true_eq] at h3
  exact ⟨h3.2, h4, h7, h5⟩

theorem btH_of {ds : List RelV} {q : QV} (h : (checkP ds q).1 = 0) (hq : OkQ q) {j k : Nat} (hj : j < q.atoms.length) (hk : RelIx ds (q.atoms.getD j noAt).1 (k : Int)) : k < ds.length ∧ BtH (VL q.atoms q.atoms.length) (q.atoms.getD j noAt).2 (ds.getD k noRel) := by
  obtain ⟨hd, hs, h7, hc, h6⟩ := checkP_zero h
  obtain ⟨hkl, hcode⟩ := hk.code_yes
  rw [hc j hj] at hcode
  have har : (ds.getD k noRel).ar = ((q.atoms.getD j noAt).2.length : Int) := by
    by_cases e : (ds.getD k noRel).ar = ((q.atoms.getD j noAt).2.length : Int)
    · exact e
    · rw [if_neg e] at hcode; omega
  obtain ⟨r1, r2, r3, r4⟩ := rel_rows hd hkl
  have hab : atomB (q.atoms.getD j noAt) = true := by
    cases hb : atomB (q.atoms.getD j noAt)
    · rw [shape_atom hj hb] at hs; cases hs
    · rfl
  have htb : ∀ i, i < (q.atoms.getD j noAt).2.length → termB ((q.atoms.getD j noAt).2.getD i noTm) = true := fun i hi => by
    cases hb : termB ((q.atoms.getD j noAt).2.getD i noTm)
    · rw [atom_term hi hb] at hab; cases hab
    · rfl
  refine ⟨hkl, ⟨fun i hi => ?_, by omega, r2, r3, fun i hi he => ?_, fun i hi he => VL_all q.atoms hj hi he, fun v hv => VL_ne q.atoms hv, h6, fun i hi => (hq.atoms j hj).tx i hi⟩⟩
  · unfold rowsB at r4
    rw [List.all_eq_true] at r4
    have h9 := r4 i (by simpa using hi)
    unfold rowAt at h9
    simp only [Bool.and_eq_true, decide_eq_true_eq] at h9
    omega
  · have := htb i hi
    unfold termB at this
    rw [he, if_neg (by decide)] at this
    simp only [Bool.and_eq_true, decide_eq_true_eq] at this
    exact this.2

end Go.Proofs.YtoodbpijgnbfjaaGreat

namespace Go.Proofs.YtoodbpijgnbfjaaGreat
open Go.RowKit

def TabOf (ds : List RelV) (V : List ByteArray) (a : AtomV) (t : TbR) : Prop := ∃ k : Nat, RelIx ds a.1 (k : Int) ∧ t.vs = vrsI V a.2 ∧ t.rows.length = t.ws.length ∧ (t.rows.zip t.ws).Perm (fndL V a.2 (ds.getD k noRel).rows (ds.getD k noRel).ws (ds.getD k noRel).rows.length) ∧ (t.rows.Pairwise fun a b => ¬ cmpL b a < 0)

def BndE (w : World) (ds : List RelV) (q : QV) (e : Ending) (w' : World) : Prop := ∃ v, e = .returned v ∧ ∃ tl, TBs w' w.heap.size v tl ∧ tl.length = (if (checkP ds q).1 = 0 then q.atoms.length else 0) ∧ (∀ j, j < tl.length → TabOf ds (VL q.atoms q.atoms.length) (q.atoms.getD j noAt) (tl.getD j noTb)) ∧ Below w.heap.size w w'

theorem RX.set0 {W : World} {p : Nat} {v0 v1 v2 v3 : Value} (h : RX W p v0 v1 v2 v3) (y : Value) : RX (W.setCell ⟨p, 0, none⟩ y) p y v1 v2 v3 := ⟨by rw [heap_setCell_same _ _ _ _ _ _ h.blk]; rfl⟩
theorem RX.set1 {W : World} {p : Nat} {v0 v1 v2 v3 : Value} (h : RX W p v0 v1 v2 v3) (y : Value) : RX (W.setCell ⟨p, 1, none⟩ y) p v0 y v2 v3 := ⟨by rw [heap_setCell_same _ _ _ _ _ _ h.blk]; rfl⟩
end Go.Proofs.YtoodbpijgnbfjaaGreat

namespace Go.Proofs.YtoodbpijgnbfjaaGreat
open Go.RowKit

theorem atP_col (row : List Int) (V : List ByteArray) (ts : List TermV) : atP row (colP V ts) = (vrs V ts).map fun v => row.getD ((lastO ts ts.length (V.getD v noTx)).getD 0) 0 := by
  unfold atP colP
  rw [List.map_map]
  refine List.map_congr_left fun v _ => ?_
  simp only [Function.comp_def, Int.toNat_natCast]

theorem fit_inj {V : List ByteArray} {ts : List TermV} {r1 r2 : List Int} (hall : ∀ i, i < ts.length → (ts.getD i noTm).1.toList.isEmpty = false → hasT V (ts.getD i noTm).1 = true) (h1 : fitB ts r1 = true) (h2 : fitB ts r2 = true) (l1 : r1.length = ts.length) (l2 : r2.length = ts.length) (h : atP r1 (colP V ts) = atP r2 (colP V ts)) : r1 = r2 := by
  rw [atP_col, atP_col] at h
  have hv := List.map_inj_left.1 h
  have key : ∀ i, i < ts.length → r1.getD i 0 = r2.getD i 0 := fun i hi => by
    cases he : (ts.getD i noTm).1.toList.isEmpty
    · obtain ⟨v, hvl, hvx⟩ := hasT_ix (hall i hi he)
      have hs : (lastO ts ts.length (ts.getD i noTm).1).isSome = true := lastO_some hi (by simp)
      obtain ⟨q, hq⟩ := Option.isSome_iff_exists.1 hs
      have hm : v ∈ vrs V ts := vrs_mem.2 ⟨hvl, by rw [hvx]; exact hs⟩
      have e := hv v hm
      rw [hvx, hq] at e
      simp only [Option.getD_some] at e
      have hql := lastO_lt hq
      have hqs := lastO_is hq
      rw [fitAt_same (fitB_at h1 hi) he hql hqs, fitAt_same (fitB_at h2 hi) he hql hqs, e]
    · have e1 := fitB_at h1 hi
      have e2 := fitB_at h2 hi
      rw [fitAt_const he, decide_eq_true_eq] at e1 e2
      rw [e1, e2]
  refine List.ext_getElem (by omega) fun i hi1 hi2 => ?_
  have := key i (by omega)
  rw [List.getD_eq_getElem?_getD, List.getElem?_eq_getElem hi1, List.getD_eq_getElem?_getD, List.getElem?_eq_getElem hi2] at this
  simpa using this

def LtL (a b : List Int) : Prop := cmpL a b < 0
theorem LtL.irr {a : List Int} (h : LtL a a) : False := by unfold LtL at h; rw [cmpL_self] at h; omega
theorem rows_strict {rows : List (List Int)} {q : Int} (h : rowsB rows q = true) : ∀ i j, i < j → j < rows.length → LtL (rows.getD i []) (rows.getD j []) := by
  have hs : ∀ j, j + 1 < rows.length → LtL (rows.getD j []) (rows.getD (j + 1) []) := fun j hj => by
    unfold rowsB at h
    rw [List.all_eq_true] at h
    have h9 := h (j + 1) (by simpa using hj)
    unfold rowAt at h9
    simp only [Bool.and_eq_true, decide_eq_true_eq] at h9
    unfold LtL
    simpa using h9.2
  intro i j hij hj
  induction j with
  | zero => omega
  | succ j ih =>
    rcases Nat.lt_or_ge i j with h1 | h1
    · exact cmpL_trans (ih h1 (by omega)) (hs j hj)
    · obtain rfl : i = j := by omega
      exact hs i hj

theorem fnd_nodup {V : List ByteArray} {ts : List TermV} {r : RelV} {q : Int} (hH : BtH V ts r) (hb : rowsB r.rows q = true) (i : Nat) (hi : i ≤ r.rows.length) : ((fndL V ts r.rows r.ws i).map Prod.fst).Nodup := by
  unfold fndL
  rw [List.map_map]
  refine List.pairwise_map.2 ?_
  refine (List.nodup_range.filter _).imp_of_mem fun {a b} ha hb' hne e => ?_
  obtain ⟨ha1, ha2⟩ := List.mem_filter.1 ha
  obtain ⟨hb1, hb2⟩ := List.mem_filter.1 hb'
  have ha3 : a < r.rows.length := by have := List.mem_range.1 ha1; omega
  have hb3 : b < r.rows.length := by have := List.mem_range.1 hb1; omega
  have e2 := fit_inj hH.all ha2 hb2 (hH.len a ha3) (hH.len b hb3) e
  rcases Nat.lt_trichotomy a b with h1 | h1 | h1
  · have := rows_strict hb a b h1 hb3
    rw [e2] at this
    exact this.irr
  · exact hne h1
  · have := rows_strict hb b a h1 ha3
    rw [e2] at this
    exact this.irr

theorem strict_ofL {rows : List (List Int)} (h : rows.Pairwise fun a b => ¬ cmpL b a < 0) (hn : rows.Nodup) : rows.Pairwise LtL := by
  refine (h.and hn).imp fun {a b} hab => ?_
  obtain ⟨h1, h2⟩ := hab
  unfold LtL
  have h3 := cmpL_neg a b
  have h4 : cmpL a b ≠ 0 := fun e => h2 (cmpL_eq e)
  omega
end Go.Proofs.YtoodbpijgnbfjaaGreat
