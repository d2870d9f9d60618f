import Derived.Deep.RegionHeldLaw
import Derived.Test.YtcdfoephhjacdaaGreatDoorR03
import Derived.Test.YtcdfoephhjacdaaGreatDoorR32
/-
  impl: (*reading).declare.
-/
namespace Go.Proofs.YtcdfoephhjacdaaGreatDoor
open Go.RowKit Go.Maps

theorem Tryz.infoPt : (Tryz.prog.info? 98).map (fun i => (i.zero, i.size, i.bytes)) = some (some (.pointer none), 1, 8) := by kernel_rfl

/-- whether a relation may be told of here -/
def decA (st : List RdV) (fs : List (List UInt8)) : Bool := decide (fs.length = 2) && !decide (st.length = 50) && !hasP (st.map RdV.nm) ⟨(fs.getD 0 []).toArray⟩ && numG ⟨(fs.getD 1 []).toArray⟩ 3 && arityB (numN ⟨(fs.getD 1 []).toArray⟩ 3) && relName ⟨(fs.getD 0 []).toArray⟩

/-- how declare ends -/
def DecE (w : World) (B R : Nat) (st : List RdV) (bP : Nat) (fs : List (List UInt8)) (e : Ending) (w' : World) : Prop := e = .returned (.bool (decA st fs)) ∧ (decA st fs = false → Below w.heap.size w w') ∧
  (decA st fs = true → ∃ vR' rb' mb' DD', RdI w' B R (st ++ [⟨⟨(fs.getD 0 []).toArray⟩, numN ⟨(fs.getD 1 []).toArray⟩ 3, []⟩]) vR' bP rb' mb' DD' ∧ Below B w w' ∧ KeepS w w')
theorem DecE.no {w w' : World} {B R : Nat} {st : List RdV} {bP : Nat} {fs : List (List UInt8)} {e : Ending} (h : decA st fs = false) (he : e = .returned (.bool false)) (hb : Below w.heap.size w w') : DecE w B R st bP fs e w' :=
  ⟨by rw [h]; exact he, fun _ => hb, fun h' => absurd (h.symm.trans h') (by decide)⟩

set_option maxHeartbeats 8000000 in
set_option maxRecDepth 1000000 in
theorem declare_calls (w : World) (B R : Nat) (st : List RdV) (vR : Value) (bP : Nat) (rb mb : Nat → Nat) (DD : Nat → DataW Unit) (h : RdI w B R st vR bP rb mb DD) (vf : Value) (fs : List (List UInt8)) (hf : FS w vf fs) (hfl : ∀ j, (fs.getD j []).length ≤ 1000000) (hst : st.length ≤ 50) :
    Calls Tryz.prog 39 #[.pointer (some ⟨R, 0, none⟩), vf] w (DecE w B R st bP fs) := by
  obtain ⟨i0, hi, hz0, hz1, hz2⟩ := info_parts Tryz.infoPt
  have hmm := @run_makeMap Tryz.prog
  obtain ⟨a, c, rfl, hc, hcell⟩ := hf
  obtain ⟨aR, cR, rfl⟩ := own_shapeR h.own
  have c0 : w.cell? ⟨R, 0, none⟩ = some (.slice aR st.length cR) := by rw [cell_of_row _ _ _ _ _ _ h.blk]; rfl
  have c1 : w.cell? ⟨R, 1, none⟩ = some (.map (some bP)) := by rw [cell_of_row _ _ _ _ _ _ h.blk]; rfl
  have HBw : Hid (B ≤ w.heap.size) := hid (Nat.le_trans h.lo.1 (Nat.le_of_lt (heap_lt h.blk)))
  have H := hid h
  clear h
  obtain ⟨n, hn⟩ : ∃ n, n = fs.length := ⟨_, rfl⟩
  by_cases h2 : n = 2
  · by_cases h50 : st.length = 50
    · have HF : Hid (decA st fs = false) := hid (by unfold decA; rw [decide_eq_true h50, decide_eq_true (hn.symm.trans h2)]; rfl)
      have q2 : ((st.length : Int) == 50) = true := by rw [h50]; rfl
      rw [← hn, h2]
      clear hcell hn h2 hc h50 hmm
      go_enter Tryz.func39, Tryz.ntmps39
      go_wp2_with fail
      go_ret
      exact DecE.no HF.out rfl (Below.refl _ _)
    · have q2 : ((st.length : Int) == 50) = false := by simp; omega
      have HC : Hid (∃ b o, a = some ⟨b, o, none⟩ ∧ w.cell? ⟨b, o, none⟩ = some (.string ⟨(fs.getD 0 []).toArray⟩) ∧ w.cell? ⟨b, o + 1, none⟩ = some (.string ⟨(fs.getD 1 []).toArray⟩)) := hid (by
        rcases hcell with h | ⟨b, o, e, h⟩
        · omega
        · exact ⟨b, o, e, by have := h 0 (by omega); rw [Nat.add_zero] at this; exact this, h 1 (by omega)⟩)
      have hsz : ∀ j, (⟨(fs.getD j []).toArray⟩ : ByteArray).size ≤ 1000000 := fun j => by show (fs.getD j []).toArray.size ≤ _; rw [List.size_toArray]; exact hfl j
      have HA : Hid (decA st fs = (!hasP (st.map RdV.nm) ⟨(fs.getD 0 []).toArray⟩ && numG ⟨(fs.getD 1 []).toArray⟩ 3 && arityB (numN ⟨(fs.getD 1 []).toArray⟩ 3) && relName ⟨(fs.getD 0 []).toArray⟩)) := hid (by unfold decA; rw [decide_eq_false h50, decide_eq_true (hn.symm.trans h2)]; rfl)
      have hs0 := hsz 0
      have KCl := hid (cloneTx_calls ⟨(fs.getD 0 []).toArray⟩ w (by have := hsz 0; omega))
      have KNu : Hid (∀ W, Calls Tryz.prog 63 #[.string ⟨(fs.getD 1 []).toArray⟩, .int .i64 3] W fun e w' => e = .returned (.tuple #[.int .i64 (numN ⟨(fs.getD 1 []).toArray⟩ 3 : Int), .bool (numG ⟨(fs.getD 1 []).toArray⟩ 3)]) ∧ w' = W) := hid fun W => readNumber_calls W _ 3 (by have := hsz 1; omega) (by decide)
      have KAr : Hid (∀ W, Calls Tryz.prog 64 #[.int .i64 (numN ⟨(fs.getD 1 []).toArray⟩ 3 : Int)] W fun e w' => e = .returned (.bool (arityB (numN ⟨(fs.getD 1 []).toArray⟩ 3))) ∧ w' = W) := hid fun W => isArity_calls W _
      have KRn : Hid (∀ W, Calls Tryz.prog 65 #[.string ⟨(fs.getD 0 []).toArray⟩] W fun e w' => e = .returned (.bool (relName ⟨(fs.getD 0 []).toArray⟩)) ∧ w' = W) := hid fun W => isRelationName_calls W _ (by have := hsz 0; omega)
      have hle3 := numN_le ⟨(fs.getD 1 []).toArray⟩ 3
      rw [← hn, h2] at hc ⊢
      obtain ⟨b, o, ea, d0, d1⟩ := HC.out
      subst ea
      have HE : Hid (∀ e w', decA st fs = false → e = .returned (.bool false) → Below w.heap.size w w' → DecE w B R st bP fs e w') := hid fun e w' => DecE.no
      have HY : Hid (∀ w' vR' rb' mb' DD', decA st fs = true → RdI w' B R (st ++ [⟨⟨(fs.getD 0 []).toArray⟩, numN ⟨(fs.getD 1 []).toArray⟩ 3, []⟩]) vR' bP rb' mb' DD' → Below B w w' → KeepS w w' → DecE w B R st bP fs (.returned (.bool true)) w') := hid fun w' vR' rb' mb' DD' ht hr hb hk => ⟨by rw [ht], fun hf => absurd (ht.symm.trans hf) (by decide), fun _ => ⟨_, _, _, _, hr, hb, hk⟩⟩
      clear hcell hn h2 h50 hsz hfl HC hc
      generalize decA st fs = dA at *
      generalize (⟨(fs.getD 0 []).toArray⟩ : ByteArray) = f0 at *
      generalize (⟨(fs.getD 1 []).toArray⟩ : ByteArray) = f1 at *
      generalize numN f1 3 = av at *
      generalize numG f1 3 = gd at *
      go_enter Tryz.func39, Tryz.ntmps39
      go_upto_region 5 with (first | (go_at_call 62; refine KCl.out.mono ?_; rintro e w1 ⟨rfl, hb1⟩; have d1' := bclR hb1 d1) | (go_at_call 63; refine (KNu.out _).mono ?_; rintro e w2 ⟨rfl, rfl⟩) | fail)
      have HB := hid hb1
      have H2 := hid (H.out.below hb1)
      have c0' := bclR hb1 c0
      have c1' := bclR hb1 c1
      clear hb1 c0 c1 d0 d1 d1' KCl KNu H
      obtain ⟨D, hownP, hhas, hsize, hat⟩ := H2.out.num
      have hh := hhas f0
      have hxs : f0.size ≤ 9223372036854775807 := by omega
      have HST : Hid (f0.size ≤ 9223372036854775807 → dA = true → ∃ w3 : World, (Instr.mapUpdate 59 (.map (some bP)) (.string f0) (.int .i64 (st.length : Int))).run Tryz.prog w2.drew = .ok () w3 ∧ w2.grownBy w3 (some bP) ∧ PlcM w3 bP (st.map RdV.nm ++ [f0])) := hid (fun hx hd => by
        have hno : hasP (st.map RdV.nm) f0 = false := by
          have e := HA.out
          rw [hd] at e
          cases hq : hasP (st.map RdV.nm) f0
          · rfl
          · rw [hq] at e; cases e
        obtain ⟨w3, hr, ho, hg⟩ := (show w2.drew.ownsMap Tryz.prog 9 (plainElem Tryz.prog 3) bP (st.map RdV.nm).length D from hownP).update Tryz.lawPl Tryz.underlying59 (by unfold maxLen; rw [List.length_map]; omega) (WideMaps.keyOf_string_mk Tryz.underlying9 hx) (plainElem_int Tryz.underlying3 (WalkArith.wf_i64 (by omega) : (Lit.int .i64 (st.length : Int)).wf = true))
        refine ⟨w3, hr, ⟨hg.os, hg.tape, hg.output, hg.size, hg.block⟩, PlcM.put hownP.isMap (hownP.tidy Tryz.lawPl) hhas hsize hat hno ?_⟩
        rw [show ((st.map RdV.nm).length : Int) = (st.length : Int) by rw [List.length_map]]
        exact ho)
      clear hhas hsize hat
      cases hk : hasP (st.map RdV.nm) f0
      · rw [hk] at hh HA
        cases gd
        · have HF : Hid (dA = false) := hid (by rw [HA.out]; rfl)
          go_wp2_with (first | (at_lookup; refine wpList_lookup_own_ok_int _ rfl _ _ 59 rfl 9 3 .i64 Tryz.lawPl Tryz.underlying59 Tryz.underlying3 (Tryz.zeroPl _) bP _ D rfl hownP _ _ rfl (WideMaps.keyOf_string_mk Tryz.underlying9 hxs) ?_; intro cL hatk hwc; rw [hh]) | fail)
          go_ret
          exact HE.out _ _ HF.out rfl HB.out
        · cases ha : arityB av
          · have HF : Hid (dA = false) := hid (by rw [HA.out, ha]; rfl)
            rw [ha] at KAr
            go_wp2_with (first | (at_lookup; refine wpList_lookup_own_ok_int _ rfl _ _ 59 rfl 9 3 .i64 Tryz.lawPl Tryz.underlying59 Tryz.underlying3 (Tryz.zeroPl _) bP _ D rfl hownP _ _ rfl (WideMaps.keyOf_string_mk Tryz.underlying9 hxs) ?_; intro cL hatk hwc; rw [hh]) | (go_at_call 64; refine (KAr.out _).mono ?_; rintro e w9 ⟨rfl, rfl⟩) | fail)
            go_ret
            exact HE.out _ _ HF.out rfl HB.out
          · rw [ha] at KAr
            cases hr : relName f0
            · have HF : Hid (dA = false) := hid (by rw [HA.out, ha, hr]; rfl)
              rw [hr] at KRn
              go_wp2_with (first | (at_lookup; refine wpList_lookup_own_ok_int _ rfl _ _ 59 rfl 9 3 .i64 Tryz.lawPl Tryz.underlying59 Tryz.underlying3 (Tryz.zeroPl _) bP _ D rfl hownP _ _ rfl (WideMaps.keyOf_string_mk Tryz.underlying9 hxs) ?_; intro cL hatk hwc; rw [hh]) | (go_at_call 64; refine (KAr.out _).mono ?_; rintro e w9 ⟨rfl, rfl⟩) | (go_at_call 65; refine (KRn.out _).mono ?_; rintro e w9 ⟨rfl, rfl⟩) | fail)
              go_ret
              exact HE.out _ _ HF.out rfl HB.out
            · have HT : Hid (dA = true) := hid (by rw [HA.out, ha, hr]; rfl)
              rw [hr] at KRn
              obtain ⟨w3, hrun, hg3, hp3⟩ := HST.out hxs HT.out
              have HG3 := hid hg3
              have HP3 := hid hp3
              clear HST hp3
              have hRb := H2.out.blk
              have hR3 : w3.heap[R]? = w2.heap[R]? := hg3.block R (heap_lt hRb) (fun e => by
                obtain ⟨es, cc, hm⟩ := H2.out.num.blk
                rw [Option.some.inj e] at hRb
                rw [hm] at hRb; cases hRb)
              have e0 : w3.cell? ⟨R, 0, none⟩ = some (.slice aR st.length cR) := by rw [World.cell?_of_block hR3]; exact c0'
              have e1 : w3.cell? ⟨R, 1, none⟩ = some (.map (some bP)) := by rw [World.cell?_of_block hR3]; exact c1'
              clear hRb hg3
              go_upto_region 8 with (first | (at_lookup; refine wpList_lookup_own_ok_int _ rfl _ _ 59 rfl 9 3 .i64 Tryz.lawPl Tryz.underlying59 Tryz.underlying3 (Tryz.zeroPl _) bP _ D rfl hownP _ _ rfl (WideMaps.keyOf_string_mk Tryz.underlying9 hxs) ?_; intro cL hatk hwc; rw [hh]) | (go_at_call 64; refine (KAr.out _).mono ?_; rintro e w9 ⟨rfl, rfl⟩) | (go_at_call 65; refine (KRn.out _).mono ?_; rintro e w9 ⟨rfl, rfl⟩) | fail)
              clear KAr KRn hownP hh
              go_region_held_law (fun W => W.cell? ⟨R, 0, none⟩ = some (.slice aR st.length cR) ∧ W.cell? ⟨R, 1, none⟩ = some (.map (some bP)))
                (first | exact ⟨c0', c1'⟩ | exact ⟨e0, e1⟩ | fail)
                (fail)
              have HO3 : Hid (w3.ownsRow B 98 1 (.slice aR st.length cR) st.length ((List.range st.length).map fun i => .pointer (some ⟨rb i, 0, none⟩))) := hid (own_keepH H2.out.own fun g ⟨cur, hc⟩ => HG3.out.block g (heap_lt hc) (fun e => by
                obtain ⟨es, cc, hm⟩ := H2.out.num.blk
                rw [Option.some.inj e] at hc
                rw [hm] at hc; cases hc))
              have HBs : Hid (B ≤ w3.heap.size) := hid (Nat.le_trans H2.out.lo.1 (Nat.le_trans (Nat.le_of_lt (heap_lt H2.out.blk)) HG3.out.size))
              have hRb3 : w3.heap[R]? = some (.cells #[.slice aR st.length cR, .map (some bP)] 62 (0, 0)) := hR3.trans H2.out.blk
              have HN4 : Hid (∀ j u, [Value.pointer (some ⟨w3.heap.size + 1, 0, none⟩)][j]? = some u → (((w3.alloc (.map #[] 0)).alloc (.cells #[.string f0, .int .i64 (av : Int), .map (some w3.heap.size)] 137)).alloc (.cells #[.pointer (some ⟨w3.heap.size + 1, 0, none⟩)] 98)).cell? ((⟨w3.heap.size + 1 + 1, 0, none⟩ : Addr).add j) = some u) := hid (by
                have := new1_cellS ((w3.alloc (.map #[] 0)).alloc (.cells #[.string f0, .int .i64 (av : Int), .map (some w3.heap.size)] 137)) (.pointer (some ⟨w3.heap.size + 1, 0, none⟩)) 98
                rw [World.size_alloc, World.size_alloc] at this
                exact this)
              have HRk : Hid (∀ w4, (((w3.alloc (.map #[] 0)).alloc (.cells #[.string f0, .int .i64 (av : Int), .map (some w3.heap.size)] 137)).alloc (.cells #[.pointer (some ⟨w3.heap.size + 1, 0, none⟩)] 98)).grownBy w4 (Value.slice aR st.length cR).ownBlock → w4.heap[R]? = some (.cells #[.slice aR st.length cR, .map (some bP)] 62 (0, 0))) := hid fun w4 hg4 => by
                have hRl := heap_lt hRb3
                rw [hg4.block R (by simp; omega) (own_ne HO3.out ⟨_, hRb3⟩ (by decide)), Below.heap_alloc _ _ R (by simp; omega), Below.heap_alloc _ _ R (by simp; omega), Below.heap_alloc _ _ R hRl]
                exact hRb3
              clear hRb3 hR3
              go_wp2_with (first | (at_builtin; refine wpList_append_own _ rfl _ _ 60 rfl B 98 i0 (.pointer none) 1 8 Tryz.underlying60 hi hz0 hz1 hz2 rfl (by decide) _ st.length ((List.range st.length).map fun i => .pointer (some ⟨rb i, 0, none⟩)) rfl (((HO3.out.alloc _).alloc _).alloc _) ⟨w3.heap.size + 1 + 1, 0, none⟩ 1 1 [.pointer (some ⟨w3.heap.size + 1, 0, none⟩)] rfl rfl HN4.out (fun u hu => by simp at hu; subst hu; rfl) (by unfold maxLen; omega) (by omega) (by have := HBs.out; simp; omega) ?_; intro v4 w4 hown4 hgrow4 _; have hk4 := HRk.out w4 hgrow4; have k4 : w4.cell? ⟨R, 0, none⟩ = some (.slice aR st.length cR) := (by rw [cell_of_row _ _ _ _ _ _ hk4]; rfl); have f4 : w4.frozen? ⟨R, 0, none⟩ = false := (by unfold World.frozen?; rw [hk4]; simp); obtain ⟨g4, cp4, e4⟩ := ownsRow_succ hown4; subst e4; clear hk4) | fail)
              go_ret
              obtain ⟨hr, hb⟩ := H2.out.add HG3.out HP3.out hown4 hgrow4
              exact HY.out _ _ _ _ _ HT.out hr ((HB.out.mono HBw.out).trans hb) ((KeepS.below HB.out).trans (H2.out.add_keep HG3.out hgrow4))
      · rw [hk] at hh HA
        have HF : Hid (dA = false) := hid (by rw [HA.out]; rfl)
        go_wp2_with (first | (at_lookup; refine wpList_lookup_own_ok_int _ rfl _ _ 59 rfl 9 3 .i64 Tryz.lawPl Tryz.underlying59 Tryz.underlying3 (Tryz.zeroPl _) bP _ D rfl hownP _ _ rfl (WideMaps.keyOf_string_mk Tryz.underlying9 hxs) ?_; intro cL hatk hwc; rw [hh]) | fail)
        go_ret
        exact HE.out _ _ HF.out rfl HB.out
  · have HF : Hid (decA st fs = false) := hid (by unfold decA; rw [decide_eq_false (by rw [← hn]; exact h2)]; rfl)
    have q1 : ((n : Int) != 2) = true := by simp; omega
    rw [← hn]
    clear hcell hn h2 hc hmm
    go_enter Tryz.func39, Tryz.ntmps39
    go_wp2_with fail
    go_ret
    exact DecE.no HF.out rfl (Below.refl _ _)

end Go.Proofs.YtcdfoephhjacdaaGreatDoor
