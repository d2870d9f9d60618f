import Derived.Deep.RegionHeld3
import Derived.Test.YtcdfoephhjacdaaDoorQ46
/-
  spec.l2Line at a line that tells of a relation.
-/
namespace Go.Proofs.YtcdfoephhjacdaaDoor
open Go.RowKit

theorem Tryd.infoReS : (Tryd.prog.info? 77).map (fun i => (i.zero, i.size, i.bytes)) = some (some (.agg #[.string ⟨#[]⟩, .int .i64 0, .slice none 0 0, .slice none 0 0]), 4, 72) := by kernel_rfl

/-- the argument and the result in their boxes -/
theorem two_boxes (w : World) (v : Value) : ∃ W1, W1 = (w.alloc (.cells #[v] 24)).alloc (.cells #[.slice none 0 0] 24) ∧ Below w.heap.size w W1 ∧ Boxed W1 w.heap.size 24 v ∧ Boxed W1 (w.heap.size + 1) 24 (.slice none 0 0) := by
  refine ⟨_, rfl, ((Below.refl _ _).alloc (Nat.le_refl _) _).alloc (by simp) _, (Boxed.new w _ _).alloc _, ?_⟩
  have := Boxed.new (w.alloc (.cells #[v] 24)) 24 (.slice none 0 0)
  rw [World.size_alloc] at this
  exact this

theorem KeepU.grown {w W w3 : World} {B n s : Nat} {e : TypeId} {v : Value} {xs : List Value} {o : Obj} (h : KeepU w W) (ho : W.ownsRow B e s v n xs) (he : e ≠ 9 ∧ e ≠ 24) (hg : (W.alloc o).grownBy w3 v.ownBlock) : KeepU w w3 := fun k cur t ht hk => by
  have h1 := h k cur t ht hk
  have hW : W.heap[k]? = some (.cells cur t (0, 0)) := h1.trans hk
  have hne : e ≠ t := by rcases ht with rfl | rfl; exact he.1; exact he.2
  rw [kept_of hg (heap_lt hW) (own_ne ho ⟨_, hW⟩ hne), h1]
theorem KeepU.set {w W : World} {p j : Nat} {y : Value} (h : KeepU w W) (hp : w.heap.size ≤ p) : KeepU w (W.setCell ⟨p, j, none⟩ y) := fun k cur t ht hk => by
  have := heap_lt hk
  rw [Below.heap_setCell _ _ _ _ (show k ≠ p by omega), h k cur t ht hk]
theorem SQ.setD {W : World} {B p off : Nat} {v y : Value} {ds : List RelV} {vr vw : Nat → Value} {us : Nat → List Value} (h : SQ W B v ds vr vw us) (ht : ∃ cur, W.heap[p]? = some (.cells cur 24 (0, 0))) : SQ (W.setCell ⟨p, off, none⟩ y) B v ds vr vw us :=
  ⟨own_keepR h.own ht (by decide), fun i hi => ⟨own_keepR (h.rw i hi).own ht (by decide), (h.rw i hi).len, fun j hj => own_keepR ((h.rw i hi).each j hj) ht (by decide)⟩, fun i hi => own_keepR (h.ow i hi) ht (by decide), h.eq, h.nil⟩

/-- what the line comes to -/
def DecP (B : Nat) (ds : List RelV) (f : List (List UInt8)) (w' : World) (v' : Value) : Prop := ∃ vr vw us, SQ w' B v' (ds ++ [⟨⟨(f.getD 1 []).toArray⟩, (numN ⟨(f.getD 2 []).toArray⟩ 3 : Int), [], []⟩]) vr vw us

set_option maxHeartbeats 8000000 in
set_option maxRecDepth 1000000 in
theorem l2Line_rel (w : World) (B : Nat) (v : Value) (ds : List RelV) (vr vw : Nat → Value) (us : Nat → List Value) (h : SQ w B v ds vr vw us) (hB : B ≤ w.heap.size) (hds : ds.length ≤ 50) (vf : Value) (f : List (List UInt8)) (hf : FS w vf f) (hf1 : 1 ≤ f.length) (hfl : ∀ j, (f.getD j []).length ≤ 1000000) (hrel : f.getD 0 [] = [114, 101, 108]) :
    Calls Tryd.prog 16 #[.agg #[v], vf] w (LinE w B (decS ds f) (DecP B ds f)) := by
  obtain ⟨i0, hi, hz0, hz1, hz2⟩ := info_parts Tryd.infoReS
  obtain ⟨W1, hW1, hB1, hX1, hY1⟩ := two_boxes w v
  obtain ⟨a, c, rfl, hc, hcell⟩ := hf
  obtain ⟨g, o, rfl, hcs⟩ : ∃ g o, a = some ⟨g, o, none⟩ ∧ ∀ j, j < f.length → w.cell? ⟨g, o + j, none⟩ = some (.string ⟨(f.getD j []).toArray⟩) := by
    rcases hcell with e | e
    · omega
    · exact e
  have HCS := hid hcs
  have c0 : W1.cell? ⟨g, o, none⟩ = some (.string ⟨(f.getD 0 []).toArray⟩) := bclR hB1 (by have := hcs 0 (by omega); rw [Nat.add_zero] at this; exact this)
  have q0 : ((⟨(f.getD 0 []).toArray⟩ : ByteArray).toList == [114, 101, 108]) = true := by rw [ByteArray.toList_eq, hrel]; rfl
  obtain ⟨aV, cV, rfl⟩ := own_shapeR h.own
  have HS := hid (h.below hB1)
  have HB1 := hid hB1
  have HX1 := hid hX1
  have HY1 := hid hY1
  have d0 := hX1.cell
  have r0 := hY1.cell
  have rf := hY1.frozen
  have hsz : ∀ j, (⟨(f.getD j []).toArray⟩ : ByteArray).size ≤ 1000000 := fun j => by show (f.getD j []).toArray.size ≤ _; rw [List.size_toArray]; exact hfl j
  have HSZ := hid hsz
  have HNo : Hid (∀ w' x, SlV x → decS ds f = false → Below w.heap.size w w' → LinE w B (decS ds f) (DecP B ds f) (.returned (.tuple #[.agg #[x], .bool false])) w') := hid fun w' x hx hd hb => ⟨x, by rw [hd], hx, hb.mono hB, KeepU.below hb, fun ht => absurd (hd.symm.trans ht) (by decide)⟩
  clear hcell hcs hrel hfl h hB1 hX1 hY1 hsz
  obtain ⟨n, hn⟩ : ∃ n, n = f.length := ⟨_, rfl⟩
  have HN := hid hn
  rw [← hn] at hc hf1 ⊢
  clear hn
  have hn0 : (0 : Int) < (n : Int) := by omega
  by_cases h3 : n = 3
  · subst h3
    have c1 : W1.cell? ⟨g, o + 1, none⟩ = some (.string ⟨(f.getD 1 []).toArray⟩) := bclR HB1.out (HCS.out 1 (by rw [← HN.out]; decide))
    have c2 : W1.cell? ⟨g, o + 2, none⟩ = some (.string ⟨(f.getD 2 []).toArray⟩) := bclR HB1.out (HCS.out 2 (by rw [← HN.out]; decide))
    have KN : Hid (∀ W, Calls Tryd.prog 34 #[.string ⟨(f.getD 1 []).toArray⟩] W fun e w' => e = .returned (.bool (nameB ⟨(f.getD 1 []).toArray⟩)) ∧ w' = W) := hid fun W => l2Name_calls W _ (by have := HSZ.out 1; omega)
    have HDn : Hid (decS ds f = (nameB ⟨(f.getD 1 []).toArray⟩ && !((⟨(f.getD 1 []).toArray⟩ : ByteArray).toList == [114, 101, 108]) && !namS ds ⟨(f.getD 1 []).toArray⟩ && !decide (ds.length = 50) && (numG ⟨(f.getD 2 []).toArray⟩ 3 && arityB (numN ⟨(f.getD 2 []).toArray⟩ 3)))) := hid (by unfold decS; rw [decide_eq_true HN.out.symm, Bool.true_and])
    cases hnm : nameB ⟨(f.getD 1 []).toArray⟩
    · have HD : Hid (decS ds f = false) := hid (by rw [HDn.out, hnm]; rfl)
      rw [hnm] at KN
      clear hnm HDn
      generalize (⟨(f.getD 0 []).toArray⟩ : ByteArray) = f0 at *
      generalize (⟨(f.getD 1 []).toArray⟩ : ByteArray) = f1 at *
      generalize ds.length = ld at *
      go_enter Tryd.func16, Tryd.ntmps16
      go_upto_region 1 with fail
      rw [← hW1]
      clear hW1
      go_upto_region 2 with fail
      go_quiet (first | (go_at_call 34; exact Calls.quiet_of_same (KN.out _)) | fail)
      have HBq := hid (bt HB1.out (below_drewN (Below.refl _ _) nq))
      have d0' := bclR (below_drewN (Below.refl _ _) nq) d0
      have r0' := bclR (below_drewN (Below.refl _ _) nq) r0
      have rf' : (W1.drewN nq).frozen? ⟨w.heap.size + 1, 0, none⟩ = false := rf
      generalize W1.drewN nq = wq at *
      go_wp2_with fail
      refine bodyPost_ret (v := .tuple #[.agg #[.slice aV ld cV], .bool false]) (by simp [results, Tryd.results16, go_sem, r0']) rfl ?_
      exact HNo.out _ _ ⟨_, _, _, rfl⟩ HD.out (HBq.out.setCell (by simp) _)
    · rw [hnm] at KN HDn
      cases hq : ((⟨(f.getD 1 []).toArray⟩ : ByteArray).toList == [114, 101, 108])
      · rw [hq] at HDn
        have KR0 : Hid (∀ W, (W.cell? ⟨w.heap.size, 0, none⟩ = some (.slice aV ds.length cV) ∧ W.cell? ⟨g, o + 1, none⟩ = some (.string ⟨(f.getD 1 []).toArray⟩) ∧ Below W1.heap.size W1 W) → Calls Tryd.prog 35 #[.agg #[.slice aV ds.length cV], .string ⟨(f.getD 1 []).toArray⟩] W fun e w' => (if namS ds ⟨(f.getD 1 []).toArray⟩ then ∃ j : Nat, e = .returned (.int .i64 (j : Int)) else e = .returned (.int .i64 (-1))) ∧ Below W1.heap.size W1 w') := hid fun W hW => by
          refine (l2Rel_calls W _ ds _ (HS.out.below hW.2.2).irels (by omega)).mono ?_
          rintro e w' ⟨z, rfl, hz, hb⟩
          refine ⟨?_, bt hW.2.2 hb⟩
          have e1 := relIx_no hz
          rcases hz with ⟨rfl, -⟩ | ⟨j, rfl, -⟩
          · rw [← e1]; rfl
          · rw [← e1, decide_eq_true (by omega : (0 : Int) ≤ (j : Int)), if_pos rfl]; exact ⟨j, rfl⟩
        have HSS : Hid (∀ W, Below W1.heap.size W1 W → W.cell? ⟨w.heap.size, 0, none⟩ = some (.slice aV ds.length cV) ∧ W.cell? ⟨g, o + 1, none⟩ = some (.string ⟨(f.getD 1 []).toArray⟩) ∧ Below W1.heap.size W1 W) := hid fun W hW => ⟨bclR hW d0, bclR hW c1, hW⟩
        cases hkn : namS ds ⟨(f.getD 1 []).toArray⟩
        · rw [hkn] at HDn
          have KR : Hid (∀ W, (W.cell? ⟨w.heap.size, 0, none⟩ = some (.slice aV ds.length cV) ∧ W.cell? ⟨g, o + 1, none⟩ = some (.string ⟨(f.getD 1 []).toArray⟩) ∧ Below W1.heap.size W1 W) → Calls Tryd.prog 35 #[.agg #[.slice aV ds.length cV], .string ⟨(f.getD 1 []).toArray⟩] W fun e w' => e = .returned (.int .i64 (-1)) ∧ Below W1.heap.size W1 w') := hid fun W hW => (KR0.out W hW).mono fun e w' h => by rw [hkn, if_neg (by decide)] at h; exact h
          have HSW : Hid (∀ W, (W.cell? ⟨w.heap.size, 0, none⟩ = some (.slice aV ds.length cV) ∧ W.cell? ⟨g, o + 1, none⟩ = some (.string ⟨(f.getD 1 []).toArray⟩) ∧ Below W1.heap.size W1 W) → Below W1.heap.size W1 W) := hid fun W hW => hW.2.2
          obtain ⟨b50, q5⟩ : ∃ b50, ((ds.length : Int) == 50) = b50 := ⟨_, rfl⟩
          have HQ5 := hid q5
          have KNu : Hid (∀ W, Calls Tryd.prog 36 #[.string ⟨(f.getD 2 []).toArray⟩, .int .i64 1, .int .i64 3] W fun e w' => ∃ x : Int, e = .returned (.tuple #[.int .i64 x, .bool (numG ⟨(f.getD 2 []).toArray⟩ 3 && arityB (numN ⟨(f.getD 2 []).toArray⟩ 3))]) ∧ ((numG ⟨(f.getD 2 []).toArray⟩ 3 && arityB (numN ⟨(f.getD 2 []).toArray⟩ 3)) = true → x = numN ⟨(f.getD 2 []).toArray⟩ 3) ∧ Below W.heap.size W w') := hid fun W => (l2Number_calls W ⟨(f.getD 2 []).toArray⟩ 1 3 (by have := HSZ.out 2; omega)).mono fun e w' ⟨x, ok, h1, h2, h3⟩ => by
            obtain ⟨e1, e2⟩ := num_alike1 h2
            exact ⟨x, by rw [← e1]; exact h1, by rw [← e1]; exact e2, h3⟩
          have HD5 : Hid (b50 = true → decS ds f = false) := hid fun hb => by
            have hl : ds.length = 50 := by
              have e := HQ5.out
              rw [hb] at e
              have := eq_of_beq e
              omega
            rw [HDn.out, decide_eq_true hl]; rfl
          have HD6 : Hid (b50 = false → decS ds f = (numG ⟨(f.getD 2 []).toArray⟩ 3 && arityB (numN ⟨(f.getD 2 []).toArray⟩ 3))) := hid fun hb => by
            have hl : ds.length ≠ 50 := fun e => by
              have e2 := HQ5.out
              rw [hb, e] at e2
              cases e2
            rw [HDn.out, decide_eq_false hl]; simp
          have HY : Hid (∀ w' x, SlV x → decS ds f = true → DecP B ds f w' x → Below B w w' → KeepU w w' → LinE w B (decS ds f) (DecP B ds f) (.returned (.tuple #[.agg #[x], .bool true])) w') := hid fun w' x hx hd hp hb hk => ⟨x, by rw [hd], hx, hb, hk, fun _ => hp⟩
          have HNB : Hid (∀ w' x, SlV x → decS ds f = false → Below B w w' → KeepU w w' → LinE w B (decS ds f) (DecP B ds f) (.returned (.tuple #[.agg #[x], .bool false])) w') := hid fun w' x hx hd hb hk => ⟨x, by rw [hd], hx, hb, hk, fun ht => absurd (hd.symm.trans ht) (by decide)⟩
          have HP : Hid (∀ w' x vr' vw' us', SQ w' B x (ds ++ [⟨⟨(f.getD 1 []).toArray⟩, (numN ⟨(f.getD 2 []).toArray⟩ 3 : Int), [], []⟩]) vr' vw' us' → DecP B ds f w' x) := hid fun w' x vr' vw' us' h => ⟨vr', vw', us', h⟩
          clear hnm HDn hkn KR0 HCS HSZ HN
          generalize hPP : DecP B ds f = PP at *
          clear hPP
          generalize decS ds f = dS at *
          generalize (⟨(f.getD 0 []).toArray⟩ : ByteArray) = f0 at *
          generalize (⟨(f.getD 1 []).toArray⟩ : ByteArray) = f1 at *
          generalize (⟨(f.getD 2 []).toArray⟩ : ByteArray) = f2 at *
          generalize (numG f2 3 && arityB (numN f2 3)) = gA at *
          generalize numN f2 3 = nA at *
          go_enter Tryd.func16, Tryd.ntmps16
          go_upto_region 1 with fail
          rw [← hW1]
          clear hW1
          go_upto_region 2 with fail
          go_cut [51] from 22 to 51 (fun b wx => b = .bool b50 ∧ Hid (Below W1.heap.size W1 wx))
          case first =>
            first | go_region_held3 (fun W => W.cell? ⟨w.heap.size, 0, none⟩ = some (.slice aV ds.length cV) ∧ W.cell? ⟨g, o + 1, none⟩ = some (.string f1) ∧ Below W1.heap.size W1 W)
                (first | exact HSS.out _ (Below.refl _ _).drew | exact HSS.out _ hb6 | (refine HSS.out _ ?_; assumption) | fail)
                (first | (go_at_call 34; refine (KN.out _).mono ?_; rintro e w5 ⟨rfl, rfl⟩) | (go_at_call 35; refine (KR.out _ ?_).mono ?_; assumption; rintro e w6 ⟨rfl, hb6⟩) | fail) | fail
            all_goals (go_wp2_with fail; go_meet)
            all_goals exact ⟨rfl, hid (HSW.out _ (by assumption))⟩
          case rest =>
            obtain ⟨rfl, hcut⟩ := hcut
            have HBc := hid hcut.out
            clear hcut KN KR HSS HSW q5
            have d1 := bclR HBc.out d0
            have r1 := bclR HBc.out r0
            have rf1 : wc.frozen? ⟨w.heap.size + 1, 0, none⟩ = false := by rw [World.frozen?_of_block (HBc.out.block _ (World.block_lt_of_cell? W1 _ r0))]; exact rf
            have c1' := bclR HBc.out c1
            have c2' := bclR HBc.out c2
            have HSc := hid (HS.out.below HBc.out)
            have HXc := hid (bx_below HX1.out HBc.out)
            have HYc := hid (bx_below HY1.out HBc.out)
            have HBw := hid (bt HB1.out HBc.out)
            clear d0 r0 rf c1 c2 c0 HS HX1 HY1 HBc HB1
            generalize wc = wA at *
            cases b50
            · have HD := hid (HD6.out rfl)
              clear HD5 HD6 HQ5 HNo
              go_upto_region 5 with (first | (go_at_call 36; refine (KNu.out _).mono ?_; rintro e w8 ⟨x8, rfl, hx8, hb8⟩) | fail)
              have HS8 := hid (HSc.out.below hb8)
              have HX8 := hid (bx_below HXc.out hb8)
              have HY8 := hid (bx_below HYc.out hb8)
              have HBw8 := hid (bt HBw.out hb8)
              have HX8v := hid hx8
              have c18 := bclR hb8 c1'
              have c18c : ∀ ob, (w8.alloc ob).cell? ⟨g, o + 1, none⟩ = some (.string f1) := fun ob => bclR ((Below.refl _ _).alloc (Nat.le_refl _) ob) c18
              have d8 := HX8.out.cell
              have d8c : ∀ ob, (w8.alloc ob).cell? ⟨w.heap.size, 0, none⟩ = some (.slice aV ds.length cV) := fun ob => (HX8.out.alloc ob).cell
              have HSd := hid (HS8.out.below (Below.refl w8.heap.size w8).drew)
              have HXd : Hid (Boxed w8.drew w.heap.size 24 (.slice aV ds.length cV)) := hid HX8.out
              have HYd : Hid (Boxed w8.drew (w.heap.size + 1) 24 (.slice none 0 0)) := hid HY8.out
              have HNW : Hid (∀ j u, (relS ⟨f1, x8, [], []⟩ (.slice none 0 0) (.slice none 0 0))[j]? = some u → (w8.drew.alloc (.cells #[.string f1, .int .i64 x8, .slice none 0 0, .slice none 0 0] 77)).cell? ((⟨w8.heap.size, 0, none⟩ : Addr).add j) = some u) := hid (World.news_of_block (World.alloc_heap_new w8.drew _))
              have HONE : Hid (∀ u ∈ relS ⟨f1, x8, [], []⟩ (.slice none 0 0) (.slice none 0 0), u.oneCell' = true) := hid (fun u hu => by simp [relS] at hu; rcases hu with rfl | rfl | rfl | rfl <;> rfl)
              have hb8s := HBw8.out.size
              clear hb8 hx8 c1' c2' d1 r1 rf1 HSc HXc HYc HBw KNu
              go_region_law (first
                | (refine step_append_lies _ (by rfl) _ _ 22 (by rfl) B 77 i0 (.agg #[.string ⟨#[]⟩, .int .i64 0, .slice none 0 0, .slice none 0 0]) 4 72 Tryd.underlying22 hi hz0 hz1 hz2 rfl (by decide) (.slice aV ds.length cV) _ _ (by rfl) (HSd.out.own.alloc _) ⟨w8.heap.size, 0, none⟩ 1 1 (relS ⟨f1, x8, [], []⟩ (.slice none 0 0) (.slice none 0 0)) (by rfl) rfl HNW.out HONE.out (by decide) (by unfold maxLen; omega) (by omega) (by simp; omega) _ rfl ?_; intro g9 cp9 w9 hown9 hgrow9 hat9 hlt9; have bX := bx_grown HXd.out HSd.out.own (by decide) hgrow9; have bY := bx_grown HYd.out HSd.out.own (by decide) hgrow9; have cX := bX.cell; have fX := bX.frozen)
                | fail)
              all_goals
                have bX2 := Boxed.set (Value.slice (some ⟨g9, 0, none⟩) (ds.length + 1) cp9) bX
                have bY2 := bx_set (q := w.heap.size) (y := Value.slice (some ⟨g9, 0, none⟩) (ds.length + 1) cp9) bY (by omega)
                have HN9 := hid (HSd.out.add (nm := f1) (ar := x8) hown9 hgrow9 ⟨_, bX⟩)
                have HB9 : Hid (Below B w (w9.setCell ⟨w.heap.size, 0, none⟩ (.slice (some ⟨g9, 0, none⟩) (ds.length + 1) cp9))) := hid (((((HBw8.out.mono hB).drew).alloc (by simp; omega) _).grown hgrow9 (by simp; omega) (fun k e => (HSd.out.own.lt k e).1)).setCell (by simp; omega) _)
                have HK9 : Hid (KeepU w (w9.setCell ⟨w.heap.size, 0, none⟩ (.slice (some ⟨g9, 0, none⟩) (ds.length + 1) cp9))) := hid (KeepU.set (KeepU.grown (KeepU.below HBw8.out.drew) HSd.out.own (by decide) hgrow9) (Nat.le_refl _))
                have x0 := bX2.cell
                have y0 := bY2.cell
                have y1 := bY2.frozen
                have HY2 := hid bY2
                clear cX fX bX bY hown9 hgrow9 hat9 hlt9 bX2 bY2
                generalize w9.setCell ⟨w.heap.size, 0, none⟩ (.slice (some ⟨g9, 0, none⟩) (ds.length + 1) cp9) = wB at *
                go_wp2_with fail
                refine bodyPost_ret (v := .tuple #[.agg #[.slice (some ⟨g9, 0, none⟩) (ds.length + 1) cp9], .bool gA]) (by simp [results, Tryd.results16, go_sem, y0]) rfl ?_
                have hBf := HB9.out.setCell (p := ⟨w.heap.size + 1, 0, none⟩) (by simp; omega) (.slice (some ⟨g9, 0, none⟩) (ds.length + 1) cp9)
                have hKf : KeepU w (wB.setCell ⟨w.heap.size + 1, 0, none⟩ (.slice (some ⟨g9, 0, none⟩) (ds.length + 1) cp9)) := HK9.out.set (by omega)
                cases gA
                · exact HNB.out _ _ ⟨_, _, _, rfl⟩ HD.out hBf hKf
                · have hx := HX8v.out rfl
                  subst hx
                  exact HY.out _ _ ⟨_, _, _, rfl⟩ HD.out (HP.out _ _ _ _ _ (HN9.out.setD ⟨_, HY2.out⟩)) hBf hKf
            · have HD := hid (HD5.out rfl)
              go_wp2_with fail
              refine bodyPost_ret (v := .tuple #[.agg #[.slice aV ds.length cV], .bool false]) (by simp [results, Tryd.results16, go_sem, r1]) rfl ?_
              exact HNo.out _ _ ⟨_, _, _, rfl⟩ HD.out (HBw.out.setCell (by simp) _)
        · have HD : Hid (decS ds f = false) := hid (by rw [HDn.out, hkn]; rfl)
          have KR : Hid (∀ W, (W.cell? ⟨w.heap.size, 0, none⟩ = some (.slice aV ds.length cV) ∧ W.cell? ⟨g, o + 1, none⟩ = some (.string ⟨(f.getD 1 []).toArray⟩) ∧ Below W1.heap.size W1 W) → Calls Tryd.prog 35 #[.agg #[.slice aV ds.length cV], .string ⟨(f.getD 1 []).toArray⟩] W fun e w' => (∃ j : Nat, e = .returned (.int .i64 (j : Int))) ∧ Below W1.heap.size W1 w') := hid fun W hW => (KR0.out W hW).mono fun e w' h => by rw [hkn, if_pos rfl] at h; exact h
          clear hnm HDn hkn KR0
          generalize (⟨(f.getD 0 []).toArray⟩ : ByteArray) = f0 at *
          generalize (⟨(f.getD 1 []).toArray⟩ : ByteArray) = f1 at *
          generalize ds.length = ld at *
          go_enter Tryd.func16, Tryd.ntmps16
          go_upto_region 1 with fail
          rw [← hW1]
          clear hW1
          go_upto_region 2 with fail
          first | go_region_law (first | (go_simp; go_at_call 34; refine (KN.out _).mono ?_; rintro e w5 ⟨rfl, rfl⟩) | (go_simp; go_at_call 35; refine (KR.out _ (HSS.out _ (Below.refl _ _).drew)).mono ?_; rintro e w6 ⟨⟨z, rfl⟩, hb6⟩; have HB6 := hid hb6; have d6 := bclR hb6 d0; have r6 := bclR hb6 r0; have f6 : w6.frozen? ⟨w.heap.size + 1, 0, none⟩ = false := (by rw [World.frozen?_of_block (hb6.block _ (World.block_lt_of_cell? W1 _ r0))]; exact rf); clear hb6) | fail) | fail
          all_goals
            go_wp2_with fail
            refine bodyPost_ret (v := .tuple #[.agg #[.slice aV ld cV], .bool false]) (by simp [results, Tryd.results16, go_sem, r6]) rfl ?_
            exact HNo.out _ _ ⟨_, _, _, rfl⟩ HD.out ((bt HB1.out HB6.out).setCell (by simp) _)
      · have HD : Hid (decS ds f = false) := hid (by rw [HDn.out, hq]; rfl)
        clear hnm HDn
        generalize (⟨(f.getD 0 []).toArray⟩ : ByteArray) = f0 at *
        generalize (⟨(f.getD 1 []).toArray⟩ : ByteArray) = f1 at *
        generalize ds.length = ld at *
        go_enter Tryd.func16, Tryd.ntmps16
        go_upto_region 1 with fail
        rw [← hW1]
        clear hW1
        go_upto_region 2 with fail
        go_quiet (first | (go_at_call 34; exact Calls.quiet_of_same (KN.out _)) | fail)
        have HBq := hid (bt HB1.out (below_drewN (Below.refl _ _) nq))
        have d0' := bclR (below_drewN (Below.refl _ _) nq) d0
        have r0' := bclR (below_drewN (Below.refl _ _) nq) r0
        have rf' : (W1.drewN nq).frozen? ⟨w.heap.size + 1, 0, none⟩ = false := rf
        generalize W1.drewN nq = wq at *
        go_wp2_with fail
        refine bodyPost_ret (v := .tuple #[.agg #[.slice aV ld cV], .bool false]) (by simp [results, Tryd.results16, go_sem, r0']) rfl ?_
        exact HNo.out _ _ ⟨_, _, _, rfl⟩ HD.out (HBq.out.setCell (by simp) _)
  · have HD : Hid (decS ds f = false) := hid (by unfold decS; rw [decide_eq_false (by rw [← HN.out]; exact h3)]; rfl)
    have q1 : ((n : Int) != 3) = true := by simp; omega
    generalize (⟨(f.getD 0 []).toArray⟩ : ByteArray) = f0 at *
    generalize ds.length = ld at *
    go_enter Tryd.func16, Tryd.ntmps16
    go_upto_region 1 with fail
    rw [← hW1]
    clear hW1
    go_upto_region 2 with fail
    go_quiet (fail)
    have HBq := hid (bt HB1.out (below_drewN (Below.refl _ _) nq))
    have d0' := bclR (below_drewN (Below.refl _ _) nq) d0
    have r0' := bclR (below_drewN (Below.refl _ _) nq) r0
    have rf' : (W1.drewN nq).frozen? ⟨w.heap.size + 1, 0, none⟩ = false := rf
    generalize W1.drewN nq = wq at *
    go_wp2_with fail
    refine bodyPost_ret (v := .tuple #[.agg #[.slice aV ld cV], .bool false]) (by simp [results, Tryd.results16, go_sem, r0']) rfl ?_
    exact HNo.out _ _ ⟨_, _, _, rfl⟩ HD.out (HBq.out.setCell (by simp) _)

end Go.Proofs.YtcdfoephhjacdaaDoor

/-
  spec.l2Put among the relations; what a row's line comes to.
-/
namespace Go.Proofs.YtcdfoephhjacdaaDoor
open Go.RowKit

theorem putL_two {α β : Type} {us : List α} {ls : List β} (hl : us.length = ls.length) {k : Nat} (hk : k ≤ ls.length) (there : Bool) (x : α) (y : β) (d1 : α) (d2 : β) {j : Nat} (hj : j < (putL ls k there y).length) :
    ((putL us k there x).getD j d1 = x ∧ (putL ls k there y).getD j d2 = y) ∨ ∃ j', j' < ls.length ∧ (putL us k there x).getD j d1 = us.getD j' d1 ∧ (putL ls k there y).getD j d2 = ls.getD j' d2 := by
  rw [putL_len ls there y hk] at hj
  have ht1 : (us.take k ++ [x]).length = k + 1 := by rw [List.length_append, List.length_take, List.length_singleton]; omega
  have ht2 : (ls.take k ++ [y]).length = k + 1 := by rw [List.length_append, List.length_take, List.length_singleton]; omega
  unfold putL
  by_cases h1 : j < k
  · refine Or.inr ⟨j, by omega, ?_, ?_⟩
    · rw [List.getD_eq_getElem?_getD, List.getElem?_append_left (by omega), List.getElem?_append_left (by rw [List.length_take]; omega), List.getElem?_take_of_lt h1, ← List.getD_eq_getElem?_getD]
    · rw [List.getD_eq_getElem?_getD, List.getElem?_append_left (by omega), List.getElem?_append_left (by rw [List.length_take]; omega), List.getElem?_take_of_lt h1, ← List.getD_eq_getElem?_getD]
  · by_cases h2 : j = k
    · subst h2
      refine Or.inl ⟨?_, ?_⟩
      · rw [List.getD_eq_getElem?_getD, List.getElem?_append_left (by omega), List.getElem?_append_right (by rw [List.length_take]; omega), List.length_take, show j - min j us.length = 0 by omega]; rfl
      · rw [List.getD_eq_getElem?_getD, List.getElem?_append_left (by omega), List.getElem?_append_right (by rw [List.length_take]; omega), List.length_take, show j - min j ls.length = 0 by omega]; rfl
    · refine Or.inr ⟨afterK k there + (j - (k + 1)), by omega, ?_, ?_⟩
      · rw [List.getD_eq_getElem?_getD, List.getElem?_append_right (by omega), ht1, List.getElem?_drop, ← List.getD_eq_getElem?_getD]
      · rw [List.getD_eq_getElem?_getD, List.getElem?_append_right (by omega), ht2, List.getElem?_drop, ← List.getD_eq_getElem?_getD]

theorem RWs.putL {W w' : World} {B : Nat} {v v1 v2 vrow : Value} {us : List Value} {ls : List (List Int)} {row : List Int} {k n2 : Nat} {there : Bool} {ys : List Value} (h : RWs W B v us ls) (hB : B ≤ W.heap.size) (hk : k ≤ ls.length) (hr : W.ownsRow B 3 1 vrow row.length (row.map (Value.int .i64))) (hp : Pt W w' v1 v2 (putL us k there vrow).length n2 (putL us k there vrow) ys) : RWs w' B v1 (Go.Proofs.YtcdfoephhjacdaaDoor.putL us k there vrow) (Go.Proofs.YtcdfoephhjacdaaDoor.putL ls k there row) := by
  have hl := h.len
  have e : (Go.Proofs.YtcdfoephhjacdaaDoor.putL us k there vrow).length = (Go.Proofs.YtcdfoephhjacdaaDoor.putL ls k there row).length := by rw [putL_len us there vrow (by omega), putL_len ls there row hk, hl]
  refine ⟨by rw [← e]; exact own_base hp.own1 hB, e, fun j hj => ?_⟩
  rcases putL_two hl hk there vrow row undef [] hj with ⟨h1, h2⟩ | ⟨j', hj', h1, h2⟩
  · rw [h1, h2]; exact own_below hr hp.bel
  · rw [h1, h2]; exact own_below (h.each j' hj') hp.bel

theorem l2Put_any {W : World} {B : Nat} {v : Value} {ds : List RelV} {vr vw : Nat → Value} {us : Nat → List Value} (h : SQ W B v ds vr vw us) {i : Nat} (hi : i < ds.length) (h2 : (ds.getD i noRel).rows.length ≤ 2000) (h3 : ∀ j, j < (ds.getD i noRel).rows.length → ((ds.getD i noRel).rows.getD j []).length ≤ 1099511627776) {vrow : Value} {row : List Int} (hr : W.ownsRow B 3 1 vrow row.length (row.map (Value.int .i64))) (hrl : row.length ≤ 1099511627776) (wt : Int) :
    Calls Tryd.prog 37 #[vr i, vw i, vrow, .int .i64 wt] W (PutE W (us i) (ds.getD i noRel).rows (ds.getD i noRel).ws row vrow wt) := by
  have hR := h.rw i hi
  have hW := h.ow i hi
  have hE := h.eq i hi
  have hone : vrow.oneCell' = true := by obtain ⟨a, c, rfl⟩ := own_shapeR hr; rfl
  by_cases he : (ds.getD i noRel).rows = []
  · obtain ⟨e1, e2⟩ := h.nil i hi he
    have hw0 : (ds.getD i noRel).ws = [] := List.eq_nil_of_length_eq_zero (by rw [hE, he]; rfl)
    have hu0 : us i = [] := List.eq_nil_of_length_eq_zero (by rw [hR.len, he]; rfl)
    rw [e1, e2, he, hw0, hu0]
    exact l2Put_first W vrow row wt (own_is hr) hrl
  · have hpos : 0 < (ds.getD i noRel).rows.length := List.length_pos_iff.2 he
    obtain ⟨g1, c1, e1, -, -⟩ := hR.own.form hpos
    obtain ⟨g2, c2, e2, -, -⟩ := hW.form (by omega)
    have hI := hR.iss
    have hc1 : (ds.getD i noRel).rows.length ≤ c1 := by
      rcases hR.own.2 with ⟨e, hz⟩ | ⟨g, cap, cur, e, -, -, hcap, -⟩
      · omega
      · rw [e1] at e; cases e; exact hcap
    have hc2 : (ds.getD i noRel).rows.length ≤ c2 := by
      rcases hW.2 with ⟨e, hz⟩ | ⟨g, cap, cur, e, -, -, hcap, -⟩
      · omega
      · rw [e2] at e; cases e; omega
    have ho1 := hR.own
    rw [e1] at ho1 hI ⊢
    rw [e2] at hW ⊢
    rw [hE] at hW ⊢
    refine l2Put_more W g1 _ c1 g2 c2 vrow (us i) _ _ row wt rfl hR.len hE hc1 hc2 h2 hI h3 (fun j u hj => ?_) (fun u hu => ?_) (fun j u hj => ?_) (own_is hr) hone hrl
    · have hjl := (List.getElem?_eq_some_iff.1 hj).1
      rw [ho1.cellAt j (by have := hR.len; omega)]; exact hj
    · obtain ⟨j, hj, e⟩ := List.getElem_of_mem hu
      have hx := hR.each j (by have := hR.len; omega)
      rw [List.getD_eq_getElem?_getD, List.getElem?_eq_getElem hj, Option.getD_some, e] at hx
      obtain ⟨a, c, rfl⟩ := own_shapeR hx
      rfl
    · have hjl := (List.getElem?_eq_some_iff.1 hj).1
      rw [List.length_map] at hjl
      rw [hW.cellAt j (by omega)]; exact hj

/-- the values of a row's fields -/
def rowF (f : List (List UInt8)) (n : Nat) : List Int := (List.range n).map fun j => (numF (f.getD (j + 1) []) : Int)
/-- whether a row's fields are right -/
def rowB (ar : Nat) (f : List (List UInt8)) : Bool := decide (f.length = ar + 2) && (List.range ar).all (fun j => okF (f.getD (j + 1) [])) && okW (f.getD (ar + 1) [])
/-- what a row's line comes to -/
def RowP (B : Nat) (ds : List RelV) (f : List (List UInt8)) (i ar : Nat) (ok : Bool) (w' : World) (v' : Value) : Prop :=
  ∃ k there, FndA (ds.getD i noRel).rows (rowF f ar) k there ∧ ok = decide ((putL (ds.getD i noRel).rows k there (rowF f ar)).length ≤ 2000) ∧
    ∃ vr vw us, SQ w' B v' (ds.set i ⟨(ds.getD i noRel).name, (ds.getD i noRel).ar, putL (ds.getD i noRel).rows k there (rowF f ar), putL (ds.getD i noRel).ws k there (wtF (f.getD (ar + 1) []))⟩) vr vw us
/-- how spec.l2Line ends at a row's line -/
def RowE (w : World) (B : Nat) (ds : List RelV) (f : List (List UInt8)) (e : Ending) (w' : World) : Prop :=
  ∃ v' ok, e = .returned (.tuple #[.agg #[v'], .bool ok]) ∧ SlV v' ∧ Below B w w' ∧ KeepU w w' ∧
    ((ok = false ∧ (namS ds ⟨(f.getD 0 []).toArray⟩ = false ∨ ∃ i ar : Nat, RelIx ds ⟨(f.getD 0 []).toArray⟩ i ∧ (ds.getD i noRel).ar = ar ∧ rowB ar f = false)) ∨
     ∃ i ar : Nat, RelIx ds ⟨(f.getD 0 []).toArray⟩ i ∧ (ds.getD i noRel).ar = ar ∧ rowB ar f = true ∧ RowP B ds f i ar ok w' v')

end Go.Proofs.YtcdfoephhjacdaaDoor
