import Derived.Test.YtcdfoephhjacdaaGreatDoorR20
import Derived.Test.YtcdfoephhjacdaaGreatDoorR21
/-
  spec.DrawChecked, walked.
-/
namespace Go.Proofs.YtcdfoephhjacdaaGreatDoor
open Go.RowKit

set_option maxHeartbeats 20000000 in
set_option maxRecDepth 1000000 in
theorem drawChecked_calls (KD : DrwDC) (KQ : DrwQC) : DrwCA := by
  intro w a n cap L hn hcod
  obtain ⟨iT, hi, hz0, hz1, hz2⟩ := info_parts Tryz.infoSt
  obtain ⟨W1, hW1⟩ : ∃ W1, W1 = ((w.alloc (.cells #[.slice none 0 0] 25)).alloc (.cells #[.string ⟨#[]⟩, .slice none 0 0, .int .i64 0, .slice none 0 0] 29)).alloc (.cells #[.slice a n cap, .int .i64 0, .int .i64 0] 50) := ⟨_, rfl⟩
  have hR1 : RdF W1 (w.heap.size + 2) a L n cap (0, 0) := by
    have := cod_start (cap := cap) ((hcod.below ((Below.refl _ _).alloc (Nat.le_refl _) (.cells #[.slice none 0 0] 25))).below ((Below.refl _ _).alloc (Nat.le_refl _) (.cells #[.string ⟨#[]⟩, .slice none 0 0, .int .i64 0, .slice none 0 0] 29)))
    simp only [World.size_alloc] at this
    rw [hW1]
    exact this
  have hB1 : Below w.heap.size w W1 := by rw [hW1]; exact (((Below.refl _ _).alloc (Nat.le_refl _) _).alloc (by simp) _).alloc (by simp; omega) _
  have hs1 : W1.heap.size = w.heap.size + 3 := by rw [hW1]; simp
  have hb0 : W1.heap[w.heap.size]? = some (.cells #[.slice none 0 0] 25 (0, 0)) := by
    rw [hW1, Below.heap_alloc _ _ _ (by simp; omega), Below.heap_alloc _ _ _ (by simp)]; exact heap_alloc_new _ _
  have hb1 : W1.heap[w.heap.size + 1]? = some (.cells #[.string ⟨#[]⟩, .slice none 0 0, .int .i64 0, .slice none 0 0] 29 (0, 0)) := by
    rw [hW1, Below.heap_alloc _ _ _ (by simp)]
    have := heap_alloc_new (w.alloc (.cells #[.slice none 0 0] 25)) (.cells #[.string ⟨#[]⟩, .slice none 0 0, .int .i64 0, .slice none 0 0] 29)
    simp only [World.size_alloc] at this
    exact this
  have K1 := hid (KD W1 (w.heap.size + 2) a L n cap (0, 0) hR1 hn (by decide))
  obtain ⟨hG, hM1, hM4⟩ := drawD_ok L n (0, 0)
  have hat := drawD_at L n (0, 0)
  have eD : (drawD L n (0, 0)).1 = dsC L n := rfl
  have eQ : chkQ (dsC L n) (drawQ L n (dsC L n) (drawD L n (0, 0)).2).1 = qC L n := rfl
  rw [eD] at K1 hG
  rw [← eQ]
  generalize dsC L n = ds at *
  have HAT : Hid ((drawD L n (0, 0)).2.1 ≤ 1000000) := hid (by have : (drawD L n (0, 0)).2.1 ≤ 0 + 404 := hat; omega)
  generalize (drawD L n (0, 0)).2 = sD at *
  generalize numD L n (0, 0) = M at *
  clear hat eD eQ hcod hR1 KD
  go_enter Tryz.func5, Tryz.ntmps5
  go_upto_region 2 with fail
  rw [← hW1]
  clear hW1
  go_upto_region 3 with (first | (go_at_call 14; refine K1.out.mono ?_; rintro e w2 ⟨v, vr, vw, us, rfl, hD2, hS2, hA2⟩; have HAP := hid hA2; obtain ⟨aV, cV, rfl⟩ := own_shapeR hS2.own) | fail)
  obtain ⟨hb3, d3⟩ := one_newF w2 (.slice aV ds.length cV)
  have hD3 := hD2.bel (hb3.mono hD2.kc.size)
  have hS3 := hS2.below hb3
  have hk3 : ∀ b, b < W1.heap.size → b ≠ w.heap.size + 2 → (w2.alloc (.cells #[.slice aV ds.length cV] 25)).heap[b]? = W1.heap[b]? := fun b h1 h2 => hD3.kc.block b h1 h2
  have hs3 : w2.heap.size < (w2.alloc (.cells #[.slice aV ds.length cV] 25)).heap.size := by simp
  have hs2 := hD2.kc.size
  have HDb : Hid ((w2.alloc (.cells #[.slice aV ds.length cV] 25)).heap[w2.heap.size]? = some (.cells #[.slice aV ds.length cV] 25 (0, 0))) := hid (heap_alloc_new _ _)
  generalize w2.alloc (.cells #[.slice aV ds.length cV] 25) = W3 at *
  generalize w2.heap.size = B5 at *
  have K3 := hid (KQ W3 (w.heap.size + 2) a L n cap sD M ds (.slice aV ds.length cV) hD3.rd hn HAT.out hG (by omega) hM4 hS3.irels (fun w' hk => (hS3.kc hk (by omega)).irels))
  have hQA := atsQ_ok hG (by omega) L n sD
  obtain ⟨p1, p2, p3, p4⟩ := drawQ_parts L n ds sD
  rw [← p1] at hQA
  have hHL : (drawQ L n ds sD).1.head.length ≤ 15 := by
    have h1 := hdQ_ok L n (VL (atsQ L n ds sD).1 (atsQ L n ds sD).1.length) (atsQ L n ds sD).2 _ (Nat.le_refl _)
    rw [← p4, ← p1] at h1
    have h2 := VL_few (ats := (drawQ L n ds sD).1.atoms) (fun a ha => (hQA.ok a ha).2) (drawQ L n ds sD).1.atoms.length
    have h3 := hQA.few
    omega
  have hHN : ∀ x ∈ (drawQ L n ds sD).1.head, nameB x = true := fun x hx => by
    have h1 := hdQ_ok L n (VL (atsQ L n ds sD).1 (atsQ L n ds sD).1.length) (atsQ L n ds sD).2 _ (Nat.le_refl _)
    rw [← p4, ← p1] at h1
    exact vl_name (fun a ha => (hQA.ok a ha).1) x (h1.2 x hx)
  have hQN : (drawQ L n ds sD).1.name.size ≤ 1048576 := by rw [p2]; decide
  clear p1 p2 p3 p4 KQ
  generalize (drawQ L n ds sD).1 = q at *
  have HKD : Hid (∀ w', Kc (w.heap.size + 2) W3 w' → Kc (w.heap.size + 2) W1 w' ∧ IRelS w' (.slice aV ds.length cV) ds ∧ w'.heap[B5]? = some (.cells #[.slice aV ds.length cV] 25 (0, 0))) := hid fun w' hk => ⟨hD3.kc.trans hk, (hS3.kc hk (by omega)).irels, heap_kc HDb.out hk (by omega)⟩
  have HDS : Hid (∀ w', (∀ b, W1.heap.size ≤ b → b < W3.heap.size → w'.heap[b]? = W3.heap[b]?) → SQ w' W1.heap.size (.slice aV ds.length cV) ds vr vw us) := hid fun w' hk => hS3.agree hk
  clear hD2 hS2 hA2 hD3 hS3 hk3 K1 HDb
  go_upto_region 4 with (first | (go_at_call 15; refine K3.out.mono ?_; rintro e w4 ⟨a1, c1, a2, c2, rfl, hc2, hK4, hI4, hN4⟩) | fail)
  have hgl4 : w.heap.size + 2 < W3.heap.size := by omega
  obtain ⟨hKW, hIr4, hDb4⟩ := HKD.out w4 hK4
  have hs4 := hK4.size
  have H0b : Hid (w4.heap[w.heap.size]? = some (.cells #[.slice none 0 0] 25 (0, 0))) := hid (heap_kc hb0 hKW (by omega))
  have H1b : Hid (w4.heap[w.heap.size + 1]? = some (.cells #[.string ⟨#[]⟩, .slice none 0 0, .int .i64 0, .slice none 0 0] 29 (0, 0))) := hid (heap_kc hb1 hKW (by omega))
  have HBw : Hid (∀ wx, Below w4.heap.size w4 wx → Below w.heap.size w wx) := hid fun wx hx => by
    refine hB1.trans ((⟨hKW.os, hKW.tape, hKW.output, hKW.size, fun b hb => hKW.block b (by omega) (by omega)⟩ : Below w.heap.size W1 w4).trans (hx.mono (by omega)))
  have HIK := hid hI4
  have HI4 := hid (hI4 w4 (fun _ _ _ => rfl))
  have HK4 := hid hK4
  have HIr := hid hIr4
  have HDb := hid hDb4
  have HN4 := hid hN4
  have HG := hid hG
  have HQA := hid hQA
  have HHN := hid hHN
  have hna := hQA.few
  clear hK4 hKW hI4 hIr4 hDb4 hN4 hG hQA hHN K3 HKD hb0 hb1 hB1 d3 hb3 hs3
  obtain ⟨aD, cD, eD, hcD⟩ := HIr.out
  simp only [Value.slice.injEq] at eD
  obtain ⟨rfl, -, rfl⟩ := eD
  rcases hcD with h0 | ⟨bD, oD, rfl, hrD⟩
  · have := HG.out.len; omega
  have HrD := hid hrD
  clear hrD
  obtain ⟨nd, hnd⟩ : ∃ nd, nd = ds.length := ⟨_, rfl⟩
  have hndM : nd ≤ 4 := by have := HG.out.len; omega
  obtain ⟨na, hna'⟩ : ∃ na, na = q.atoms.length := ⟨_, rfl⟩
  obtain ⟨nh, hnh'⟩ : ∃ nh, nh = q.head.length := ⟨_, rfl⟩
  have HND := hid hnd
  have HNA := hid hna'
  have HNH := hid hnh'
  rw [← hnd] at HDb HIr HDS ⊢
  rw [← hna'] at hc2 HI4 HIK hna ⊢
  rw [← hnh'] at hHL HI4 HIK ⊢
  clear hnd hna' hnh'
  obtain ⟨W5, hW5⟩ : ∃ W5, W5 = w4.alloc (.cells #[.string q.name, .slice a1 nh c1, .int .i64 q.ring, .slice a2 na c2] 29) := ⟨_, rfl⟩
  have hB5 : Below w4.heap.size w4 W5 := by rw [hW5]; exact (Below.refl _ _).alloc (Nat.le_refl _) _
  have hQb : W5.heap[w4.heap.size]? = some (.cells #[.string q.name, .slice a1 nh c1, .int .i64 q.ring, .slice a2 na c2] 29 (0, 0)) := by rw [hW5]; exact heap_alloc_new _ _
  have hs5 : W5.heap.size = w4.heap.size + 1 := by rw [hW5]; simp
  rw [← hW5]
  clear hW5
  have HB5 := hid hB5
  have HQb := hid hQb
  have z3 : W5.cell? ⟨w4.heap.size, 3, none⟩ = some (.slice a2 na c2) := by rw [cell_of_row _ _ _ _ _ _ hQb]; rfl
  clear hB5 hQb
  go_upto_block 0 with fail
  clear z3
  go_cut [] (fun wx => Hid (Kc w4.heap.size W5 wx ∧ wx.heap[w4.heap.size]? = some (.cells #[.string q.name, .slice a1 nh c1, .int .i64 q.ring, .slice a2 (cutK ds q.atoms) c2] 29 (0, 0))))
  case first =>
    go_wp2_with fail
    go_loopw [7, 24] (fun t7 t wr => ∃ i : Nat, i ≤ na ∧ t = .int .i64 i ∧ t7 = .int .i64 ((prodQ ds q.atoms i : Nat) : Int) ∧ Hid (Below W5.heap.size W5 wr ∧ prodQ ds q.atoms i ≤ 30000 ∧ ∀ j, j < i → ¬ 30000 < prodQ ds q.atoms (j + 1))) (fun _ t _ => na - (intOf t).toNat)
    case atStart => exact ⟨0, Nat.zero_le _, rfl, rfl, hid ⟨Below.refl _ _, (by show 1 ≤ 30000; decide), fun j hj => by omega⟩⟩
    case round =>
      obtain ⟨i, hin, rfl, rfl, HH⟩ := hrel
      obtain ⟨hbr, hpr, hno⟩ := HH.out
      have hb4r := bt HB5.out hbr
      have HR := hid hbr
      have HPR := hid hpr
      have HNO := hid hno
      clear HH hbr hpr hno
      by_cases hlt : i < na
      · have i1 : (i : Int) < (na : Int) := by omega
        obtain ⟨aA, cA, eA, hcA⟩ := HI4.out.atoms
        simp only [Value.slice.injEq] at eA
        obtain ⟨rfl, -, rfl⟩ := eA
        rcases hcA with h0 | ⟨bA, oA, rfl, hcA⟩
        · have := HNA.out; omega
        · obtain ⟨u, k0, k1, hit⟩ := hcA i (by have := HNA.out; omega)
          obtain ⟨t1, tc, rfl, -⟩ := hit
          have hmem : q.atoms.getD i noAt ∈ q.atoms := by rw [List.getD_eq_getElem?_getD, List.getElem?_eq_getElem (by have := HNA.out; omega)]; exact List.getElem_mem _
          have HE := hid (HN4.out _ hmem)
          have hP1 := prodQ_lt HG.out q.atoms (i := i) HPR.out
          have hprod : prodQ ds q.atoms (i + 1) = prodQ ds q.atoms i * (rwsQ ds (q.atoms.getD i noAt).1 + 1) := rfl
          have hP0 := HPR.out
          have k0r := upcF hb4r k0
          have k1r := upcF hb4r k1
          clear hmem k0 k1 hcA
          generalize (q.atoms.getD i noAt).2.length = tn at *
          generalize (q.atoms.getD i noAt).1 = nm at *
          obtain ⟨W7, hW7⟩ : ∃ W7, W7 = wr.alloc (.cells #[.string nm, .slice t1 tn tc] 55) := ⟨_, rfl⟩
          have hb7 : Below wr.heap.size wr W7 := by rw [hW7]; exact (Below.refl _ _).alloc (Nat.le_refl _) _
          have hb47 := bt hb4r hb7
          have aB : W7.cell? ⟨wr.heap.size, 0, none⟩ = some (.string nm) := by rw [hW7, World.cell?_alloc_at _ _ _ _ rfl]; rfl
          have dB : W7.cell? ⟨B5, 0, none⟩ = some (.slice (some ⟨bD, oD, none⟩) nd cV) := upcF hb47 (by rw [cell_of_row _ _ _ _ _ _ HDb.out]; rfl)
          have KL : Hid (∀ W, Below W7.heap.size W7 W → Calls Tryz.prog 16 #[.agg #[.slice (some ⟨bD, oD, none⟩) nd cV], .string nm] W fun e w' => ∃ k : Nat, e = .returned (.int .i64 (k : Int)) ∧ k < nd ∧ (ds.getD k noRel).rows.length = rwsQ ds nm ∧ Below W7.heap.size W7 w') := hid fun W hW => by
            refine (l2Rel_calls W _ ds nm (HIr.out.below (bt hb47 hW)) (by have := HND.out; omega)).mono ?_
            rintro e w' ⟨z, rfl, hz, hb⟩
            obtain ⟨k, rfl, hk, hrows⟩ := rel_ix hz HE.out
            exact ⟨k, rfl, by have := HND.out; omega, hrows, bt hW hb⟩
          obtain ⟨fa, fc, hf⟩ : ∃ (fa : Nat → Option Addr) (fc : Nat → Nat), ∀ k, k < nd → W7.cell? ⟨bD, oD + k * 4 + 2, none⟩ = some (.slice (fa k) (ds.getD k noRel).rows.length (fc k)) := by
            have hx : ∀ k, ∃ (ra : Option Addr) (rc : Nat), k < nd → W7.cell? ⟨bD, oD + k * 4 + 2, none⟩ = some (.slice ra (ds.getD k noRel).rows.length rc) := fun k => by
              by_cases hk : k < nd
              · obtain ⟨vr', vw', x0, x1, x2, x3, hir⟩ := (HrD.out k (by have := HND.out; omega)).below hb47
                obtain ⟨ra, rc, rfl, -⟩ := hir.rows
                exact ⟨ra, rc, fun _ => x2⟩
              · exact ⟨none, 0, fun h => absurd h hk⟩
            exact ⟨fun k => (hx k).choose, fun k => (hx k).choose_spec.choose, fun k hk => (hx k).choose_spec.choose_spec hk⟩
          generalize hfr : (fun k => (ds.getD k noRel).rows.length) = fr at *
          have hfr' : ∀ k, (ds.getD k noRel).rows.length = fr k := fun k => by rw [← hfr]
          simp only [hfr'] at hf KL
          clear hfr hfr'
          have hR : rwsQ ds nm ≤ 14 := rwsQ_le HG.out nm
          generalize rwsQ ds nm = R at *
          have hPm : ((prodQ ds q.atoms i : Nat) : Int) * ((R : Int) + 1) = ((prodQ ds q.atoms (i + 1) : Nat) : Int) := by rw [hprod]; simp
          have HSS : Hid (∀ W, Below W7.heap.size W7 W → W.cell? ⟨B5, 0, none⟩ = some (.slice (some ⟨bD, oD, none⟩) nd cV) ∧ W.cell? ⟨wr.heap.size, 0, none⟩ = some (.string nm) ∧ (∀ k, k < nd → W.cell? ⟨bD, oD + k * 4 + 2, none⟩ = some (.slice (fa k) (fr k) (fc k))) ∧ Below W7.heap.size W7 W) := hid fun W hW => ⟨upcF hW dB, upcF hW aB, fun k hk => upcF hW (hf k hk), hW⟩
          clear hf
          have HB7 := hid hb7
          have HB47 := hid hb47
          generalize hPa : prodQ ds q.atoms i = P0 at *
          generalize hPb : prodQ ds q.atoms (i + 1) = P1 at *
          clear hprod
          have hw1 : IntKind.i64.wrap ((R : Int) + 1) = (R : Int) + 1 := by simp [IntKind.wrap, IntKind.bits, IntKind.signed]; omega
          have hw2 : IntKind.i64.wrap ((P0 : Int) * ((R : Int) + 1)) = (P1 : Int) := by rw [hPm]; simp [IntKind.wrap, IntKind.bits, IntKind.signed]; omega
          have HW3 : Hid (IntKind.i64.wrap (P1 : Int) = (P1 : Int)) := hid (by simp [IntKind.wrap, IntKind.bits, IntKind.signed]; omega)
          have z3 : ∀ wx, Below W7.heap.size W7 wx → wx.cell? ⟨w4.heap.size, 3, none⟩ = some (.slice (some ⟨bA, oA, none⟩) na c2) ∧ wx.frozen? ⟨w4.heap.size, 3, none⟩ = false ∧ wx.heap[w4.heap.size]? = some (.cells #[.string q.name, .slice a1 nh c1, .int .i64 q.ring, .slice (some ⟨bA, oA, none⟩) na c2] 29 (0, 0)) := fun wx hx => by
            have hh : wx.heap[w4.heap.size]? = some (.cells #[.string q.name, .slice a1 nh c1, .int .i64 q.ring, .slice (some ⟨bA, oA, none⟩) na c2] 29 (0, 0)) := ((bt HR.out (bt HB7.out hx)).block _ (by omega)).trans HQb.out
            exact ⟨by rw [cell_of_row _ _ _ _ _ _ hh]; rfl, by unfold World.frozen?; rw [show wx.heap[w4.heap.size]? = _ from hh]; simp, hh⟩
          have HZ3 := hid z3
          clear z3 hb7 hb47
          go_upto_region 8 with fail
          rw [← hW7]
          clear hW7 k0r k1r
          go_cut [7] from 25 to 49 (fun u wx => u = .int .i64 (P1 : Int) ∧ Hid (Below W7.heap.size W7 wx))
          case first =>
            first | go_region_held3 (fun W => W.cell? ⟨B5, 0, none⟩ = some (.slice (some ⟨bD, oD, none⟩) nd cV) ∧ W.cell? ⟨wr.heap.size, 0, none⟩ = some (.string nm) ∧ (∀ k, k < nd → W.cell? ⟨bD, oD + k * 4 + 2, none⟩ = some (.slice (fa k) (fr k) (fc k))) ∧ Below W7.heap.size W7 W)
                (first | with_reducible exact HSS.out _ (Below.refl _ _).drew | with_reducible exact HSS.out _ hb8 | fail)
                (first | (go_at_call 16; refine (KL.out _ (Below.refl _ _).drew).mono ?_; rintro e w8 ⟨k, rfl, hkn, hck, hb8⟩; have hk1 : (k : Int) < (nd : Int) := (by omega)) | fail) | fail
            all_goals (go_wp2_with fail; go_meet)
            all_goals exact ⟨by first | rfl | rw [HW3.out], hid hb8⟩
          case rest =>
          obtain ⟨rfl, hcut⟩ := hcut
          obtain ⟨z3, z3f, z3h⟩ := HZ3.out _ hcut.out
          have hbW : Below W5.heap.size W5 wc := bt HR.out (bt HB7.out hcut.out)
          have HbW := hid hbW
          clear hcut hbW HSS KL dB aB HB7 HB47 HZ3
          by_cases hbg : 30000 < P1
          · have j1 : (30000 : Int) < (P1 : Int) := by omega
            have ic : (i : Int) ≤ (c2 : Int) := by omega
            have hce : cutK ds q.atoms = i := cutK_at (by have := HNA.out; omega) HNO.out (by rw [hPb]; exact hbg)
            have HH2 : Hid ((wc.setCell ⟨w4.heap.size, 3, none⟩ (.slice (some ⟨bA, oA, none⟩) i c2)).heap[w4.heap.size]? = some (.cells #[.string q.name, .slice a1 nh c1, .int .i64 q.ring, .slice (some ⟨bA, oA, none⟩) i c2] 29 (0, 0))) := hid (by rw [heap_setCell_same _ _ _ _ _ _ z3h]; rfl)
            clear z3h
            go_wp2_with fail
            go_meet
            rw [hce]
            exact hid ⟨(Kc.ofBelow HbW.out).set _ _, HH2.out⟩
          · have j1 : ¬ (30000 : Int) < (P1 : Int) := by omega
            have HNX : Hid (Below W5.heap.size W5 wc ∧ prodQ ds q.atoms (i + 1) ≤ 30000 ∧ ∀ j, j < i + 1 → ¬ 30000 < prodQ ds q.atoms (j + 1)) := hid ⟨HbW.out, by rw [hPb]; omega, fun j hj => by
              by_cases e : j < i
              · exact HNO.out j e
              · obtain rfl : j = i := by omega
                rw [hPb]; exact hbg⟩
            go_wp2_with fail
            go_roundw
            case rel => first | exact ⟨i + 1, by omega, by go_num, by rw [hPb], HNX⟩ | ((repeat apply Exists.intro); exact ⟨⟨i + 1, by omega, by go_num, by rw [hPb], HNX⟩, rfl⟩)
            case measure => simp [intOf]; omega
      · obtain rfl : i = na := by omega
        have i1 : ¬ (i : Int) < (i : Int) := by omega
        have hce : cutK ds q.atoms = i := by
          have := cutK_end (ds := ds) (ats := q.atoms) (fun j hj => HNO.out j (by have := HNA.out; omega))
          have := HNA.out
          omega
        go_wp2_with fail
        go_meet
        refine hid ⟨Kc.ofBelow HR.out, ?_⟩
        rw [hce]
        exact (HR.out.block _ (by omega)).trans HQb.out
  case rest =>
  obtain ⟨hKc, hQc⟩ := hcut.out
  have hB4c : Below w4.heap.size w4 wc := HB5.out.trans ⟨hKc.os, hKc.tape, hKc.output, hKc.size, fun b hb => hKc.block b (by omega) (by omega)⟩
  have hcut1 := (cutK_ok HG.out HQA.out.pos)
  have HCU := hid hcut1
  have hck : cutK ds q.atoms ≤ na := by have := HNA.out; omega
  obtain ⟨ck, hck'⟩ : ∃ ck, ck = cutK ds q.atoms := ⟨_, rfl⟩
  have HCK := hid hck'
  rw [← hck'] at hQc hck
  have hI' : IQ wc (.slice a1 nh c1) (.slice a2 ck c2) ⟨q.name, q.head, q.ring, q.atoms.take ck⟩ := ⟨(HI4.out.head).below hB4c, by
    have h1 := HI4.out.atoms
    have h2 := HNA.out
    rw [h2] at h1
    exact (h1.take (k := ck) (by omega) c2).below hB4c⟩
  have HI5 := hid hI'
  have HB4c := hid hB4c
  have HQc := hid hQc
  have hszc := hB4c.size
  have hlc : w4.heap.size < wc.heap.size := heap_ltF hQc
  have z1 : wc.cell? ⟨w4.heap.size, 1, none⟩ = some (.slice a1 nh c1) := by rw [cell_of_row _ _ _ _ _ _ hQc]; rfl
  have hGt : AtsG (q.atoms.take ck) := ⟨by rw [List.length_take]; have := HQA.out.pos; omega, by rw [List.length_take]; have := HQA.out.few; omega, fun a ha => HQA.out.ok a (List.mem_of_mem_take ha)⟩
  have HGt := hid hGt
  clear hcut hKc hQc hB4c hI' hcut1 hck' hGt
  generalize wc = W6 at *
  have HO0 : Hid ((W6.alloc (.cells #[] 9)).ownsRow W6.heap.size 9 1 (.slice (some ⟨W6.heap.size, 0, none⟩) 0 0) 0 []) := hid (World.ownsRow_made W6 #[] 0 (Nat.le_refl _) (by decide) rfl)
  have HB6 : Hid (Below W6.heap.size W6 (W6.alloc (.cells #[] 9))) := hid ((Below.refl _ _).alloc (Nat.le_refl _) _)
  have z1a : ∀ o, (W6.alloc o).cell? ⟨w4.heap.size, 1, none⟩ = some (.slice a1 nh c1) := fun o => upcF ((Below.refl _ _).alloc (Nat.le_refl _) _) z1
  have hOq : OkQ ⟨q.name, q.head, q.ring, q.atoms.take ck⟩ := okq_gen hQN HHN.out HGt.out (by have := HNH.out; show q.head.length ≤ 15; omega)
  have KV : Hid (∀ W, Below W6.heap.size W6 W → Calls Tryz.prog 18 #[.agg #[.string q.name, .slice a1 nh c1, .int .i64 q.ring, .slice a2 ck c2]] W fun e w' => ∃ v, e = .returned v ∧ ISt w' v (VL (q.atoms.take ck) (q.atoms.take ck).length) ∧ Below W6.heap.size W6 w' ∧ Below W.heap.size W w') := hid fun W hW => (l3Vars_calls W _ _ ⟨q.name, q.head, q.ring, q.atoms.take ck⟩ (HI5.out.below hW) hOq).mono fun e w' ⟨v, h1, h2, h3⟩ => ⟨v, h1, own_st h2, bt hW h3, h3⟩
  have hVl : (VL (q.atoms.take ck) (q.atoms.take ck).length).length ≤ 15 := by
    have h1 := VL_few (ats := q.atoms.take ck) (fun a ha => (HGt.out.ok a ha).2) (q.atoms.take ck).length
    have h2 := HGt.out.few
    omega
  have HCQ : Hid (chkQ ds q = ⟨q.name, q.head.filter (fun h => hasT (VL (q.atoms.take ck) (q.atoms.take ck).length) h), q.ring, q.atoms.take ck⟩) := hid (by rw [HCK.out]; rfl)
  generalize VL (q.atoms.take ck) (q.atoms.take ck).length = V at *
  have KPl : Hid (∀ W v s, ISt W v V → Calls Tryz.prog 17 #[v, .string s] W fun e w' => ∃ z : Int, e = .returned (.int .i64 z) ∧ w' = W ∧ (hasT V s = true → 0 ≤ z) ∧ (hasT V s = false → z = -1)) := hid fun W v s h => l3Place_calls W v V s h (by omega)
  go_upto_block 2 with fail
  clear z1 z1a
  go_wp2_with fail
  go_loopw [10, 54] (fun h t wr => ∃ (i gh ch : Nat), i ≤ nh ∧ t = .int .i64 i ∧ h = .slice (some ⟨gh, 0, none⟩) ((q.head.take i).filter (hasT V)).length ch ∧ Hid (Below W6.heap.size W6 wr ∧ wr.ownsRow W6.heap.size 9 1 (.slice (some ⟨gh, 0, none⟩) ((q.head.take i).filter (hasT V)).length ch) ((q.head.take i).filter (hasT V)).length (((q.head.take i).filter (hasT V)).map Value.string))) (fun _ t _ => nh - (intOf t).toNat)
  case atStart => exact ⟨0, W6.heap.size, 0, Nat.zero_le _, rfl, rfl, hid ⟨HB6.out, HO0.out⟩⟩
  case round =>
    clear HO0 HB6
    obtain ⟨i, gh, ch, hin, rfl, rfl, HH⟩ := hrel
    obtain ⟨hbr, hor⟩ := HH.out
    have HR := hid hbr
    have HOR := hid hor
    have hq : ∀ W, Below W6.heap.size W6 W → W.cell? ⟨w4.heap.size, 0, none⟩ = some (.string q.name) ∧ W.cell? ⟨w4.heap.size, 1, none⟩ = some (.slice a1 nh c1) ∧ W.cell? ⟨w4.heap.size, 2, none⟩ = some (.int .i64 q.ring) ∧ W.cell? ⟨w4.heap.size, 3, none⟩ = some (.slice a2 ck c2) ∧ W.heap[w4.heap.size]? = some (.cells #[.string q.name, .slice a1 nh c1, .int .i64 q.ring, .slice a2 ck c2] 29 (0, 0)) := fun W hW => by
      have hh := (hW.block _ (heap_ltF HQc.out)).trans HQc.out
      exact ⟨by rw [cell_of_row _ _ _ _ _ _ hh]; rfl, by rw [cell_of_row _ _ _ _ _ _ hh]; rfl, by rw [cell_of_row _ _ _ _ _ _ hh]; rfl, by rw [cell_of_row _ _ _ _ _ _ hh]; rfl, hh⟩
    have HQ := hid hq
    clear hq HH hbr hor
    have hfl : ((q.head.take i).filter (hasT V)).length ≤ 15 := Nat.le_trans (List.length_filter_le _ _) (by rw [List.length_take]; omega)
    by_cases hlt : i < nh
    · have i1 : (i : Int) < (nh : Int) := by omega
      have HFT : Hid ((q.head.take (i + 1)).filter (hasT V) = (q.head.take i).filter (hasT V) ++ (if hasT V (q.head.getD i noTx) then [q.head.getD i noTx] else [])) := hid (filter_take _ _ _ (by have := HNH.out; omega))
      obtain ⟨aH, cH, eH, hcH⟩ := HI5.out.head
      simp only [Value.slice.injEq] at eH
      obtain ⟨rfl, -, rfl⟩ := eH
      rcases hcH with h0 | ⟨bH, oH, rfl, hcH⟩
      · have h9 : q.head.length = 0 := h0; have := HNH.out; omega
      · have kH : wr.cell? ⟨bH, oH + i, none⟩ = some (.string (q.head.getD i noTx)) := upcF HR.out (hcH i (by have := HNH.out; show i < q.head.length; omega))
        obtain ⟨y0, y1, y2, y3, -⟩ := HQ.out wr HR.out
        generalize q.head.getD i noTx = x at *
        generalize hLL : (q.head.take i).filter (hasT V) = LL at *
        clear hcH
        generalize hln : LL.length = ln at *
        cases hhas : hasT V x
        · rw [hhas] at HFT
          have KPf : Hid (∀ W v, ISt W v V → Calls Tryz.prog 17 #[v, .string x] W fun e w' => e = .returned (.int .i64 (-1)) ∧ w' = W) := hid fun W v h => (KPl.out W v x h).mono fun e w' ⟨z, h1, h2, _, h4⟩ => by rw [h4 hhas] at h1; exact ⟨h1, h2⟩
          clear hhas
          go_wp2_with (first | (go_at_call 18; refine (KV.out wr HR.out).mono ?_; rintro e w8 ⟨vv, rfl, hIv, hB8, hb8⟩; have HIv := hid hIv; obtain ⟨av, cv, rfl, -⟩ := hIv) | (go_at_call 17; refine (KPf.out w8 _ HIv.out).mono ?_; rintro e w9 ⟨rfl, rfl⟩) | fail)
          have HNX : Hid (Below W6.heap.size W6 w9 ∧ w9.ownsRow W6.heap.size 9 1 (.slice (some ⟨gh, 0, none⟩) ((q.head.take (i + 1)).filter (hasT V)).length ch) ((q.head.take (i + 1)).filter (hasT V)).length (((q.head.take (i + 1)).filter (hasT V)).map Value.string)) := hid (by rw [HFT.out]; simp only [Bool.false_eq_true, if_false, List.append_nil]; rw [hln]; exact ⟨hB8, own_below HOR.out hb8⟩)
          have HLN : Hid (((q.head.take (i + 1)).filter (hasT V)).length = ln) := hid (by rw [HFT.out]; simp only [Bool.false_eq_true, if_false, List.append_nil]; exact hln)
          go_roundw
          case rel => first | exact ⟨i + 1, gh, ch, by omega, by go_num, by rw [HLN.out], HNX⟩ | ((repeat apply Exists.intro); exact ⟨⟨i + 1, gh, ch, by omega, by go_num, by rw [HLN.out], HNX⟩, rfl⟩)
          case measure => simp [intOf]; omega
        · rw [hhas] at HFT
          have KPt : Hid (∀ W v, ISt W v V → Calls Tryz.prog 17 #[v, .string x] W fun e w' => ∃ z : Int, e = .returned (.int .i64 z) ∧ w' = W ∧ 0 ≤ z) := hid fun W v h => (KPl.out W v x h).mono fun e w' ⟨z, h1, h2, h3, _⟩ => ⟨z, h1, h2, h3 hhas⟩
          clear hhas
          go_wp2_with (first
            | (go_at_call 18; refine (KV.out wr HR.out).mono ?_; rintro e w8 ⟨vv, rfl, hIv, hB8, hb8⟩; have HIv := hid hIv; obtain ⟨av, cv, rfl, -⟩ := hIv)
            | (go_at_call 17; refine (KPt.out w8 _ HIv.out).mono ?_; rintro e w9 ⟨z, rfl, rfl, hzz⟩; have HO9 := hid (own_below HOR.out hb8); have hs9 := hB8.size)
            | (at_builtin; refine wpList_append_lies _ rfl _ _ 26 rfl W6.heap.size 9 iT (.string ⟨#[]⟩) 1 16 Tryz.underlying26 hi hz0 hz1 hz2 rfl (by decide) (.slice (some ⟨gh, 0, none⟩) ln ch) _ _ rfl (HO9.out.alloc _) ⟨_, 0, none⟩ 1 1 [.string x] rfl rfl (new1_cellT _ _ _) (fun u hu => by simp at hu; subst hu; rfl) (by decide) (by unfold maxLen; omega) (by omega) (by simp; omega) _ rfl ?_; intro g10 cp10 w10 hown10 hgrow10 hat10 hlt10)
            | fail)
          have hbX : Below W6.heap.size W6 w10 := hB8.trans (((Below.refl _ _).alloc hB8.size _).grown hgrow10 (by simp; omega) (fun c hc => (HO9.out.lt c hc).1))
          have HNX : Hid (Below W6.heap.size W6 w10 ∧ w10.ownsRow W6.heap.size 9 1 (.slice (some ⟨g10, 0, none⟩) ((q.head.take (i + 1)).filter (hasT V)).length cp10) ((q.head.take (i + 1)).filter (hasT V)).length (((q.head.take (i + 1)).filter (hasT V)).map Value.string)) := hid (by rw [HFT.out]; simp only [if_true]; rw [List.length_append, hln, List.map_append]; exact ⟨hbX, hown10⟩)
          have HLN : Hid (((q.head.take (i + 1)).filter (hasT V)).length = ln + 1) := hid (by rw [HFT.out]; simp only [if_true]; rw [List.length_append, hln]; rfl)
          clear hbX hown10 hgrow10
          go_roundw
          case rel => first | exact ⟨i + 1, g10, cp10, by omega, by go_num, by rw [HLN.out], HNX⟩ | ((repeat apply Exists.intro); exact ⟨⟨i + 1, g10, cp10, by omega, by go_num, by rw [HLN.out], HNX⟩, rfl⟩)
          case measure => simp [intOf]; omega
    · obtain rfl : i = nh := by omega
      have i1 : ¬ (i : Int) < (i : Int) := by omega
      have eF : (q.head.take i).filter (hasT V) = q.head.filter (hasT V) := by rw [HNH.out, List.take_length]
      rw [eF] at HOR hfl ⊢
      obtain ⟨y0, y1, y2, y3, hh⟩ := HQ.out wr HR.out
      have yf : wr.frozen? ⟨w4.heap.size, 1, none⟩ = false := by unfold World.frozen?; rw [show wr.heap[w4.heap.size]? = _ from hh]; simp
      generalize hln : (q.head.filter (hasT V)).length = ln at *
      have hb4r : Below w4.heap.size w4 wr := bt HB4c.out HR.out
      have hch : ln ≤ ch := by
        rcases HOR.out.2 with ⟨e, hz⟩ | ⟨g', cap', cur', e, -, -, hcap, -⟩
        · simp at e
        · simp only [Value.slice.injEq] at e; omega
      have hgl : gh < wr.heap.size := (HOR.out.lt gh rfl).2
      have hgB : W6.heap.size ≤ gh := (HOR.out.lt gh rfl).1
      obtain ⟨WZ, hWZ⟩ : ∃ WZ, WZ = wr.setCell ⟨w4.heap.size, 1, none⟩ (.slice (some ⟨gh, 0, none⟩) ln ch) := ⟨_, rfl⟩
      have hhZ : WZ.heap[w4.heap.size]? = some (.cells #[.string q.name, .slice (some ⟨gh, 0, none⟩) ln ch, .int .i64 q.ring, .slice a2 ck c2] 29 (0, 0)) := by rw [hWZ, heap_setCell_same _ _ _ _ _ _ hh]; rfl
      have hkZ : ∀ b, b ≠ w4.heap.size → WZ.heap[b]? = wr.heap[b]? := fun b hb => by rw [hWZ]; exact Below.heap_setCell _ _ _ _ hb
      have hbZ : Below w4.heap.size w4 WZ := by rw [hWZ]; exact hb4r.setCell (by show w4.heap.size ≤ w4.heap.size; omega) _
      have hB5 : B5 < w4.heap.size := heap_ltF HDb.out
      have hh5 : WZ.heap[B5]? = some (.cells #[.slice (some ⟨bD, oD, none⟩) nd cV] 25 (0, 0)) := (hbZ.block _ hB5).trans HDb.out
      have hhr : WZ.heap[w.heap.size]? = some (.cells #[.slice none 0 0] 25 (0, 0)) := (hbZ.block _ (heap_ltF H0b.out)).trans H0b.out
      have hhs : WZ.heap[w.heap.size + 1]? = some (.cells #[.string ⟨#[]⟩, .slice none 0 0, .int .i64 0, .slice none 0 0] 29 (0, 0)) := (hbZ.block _ (heap_ltF H1b.out)).trans H1b.out
      have dz : WZ.cell? ⟨B5, 0, none⟩ = some (.slice (some ⟨bD, oD, none⟩) nd cV) := by rw [cell_of_row _ _ _ _ _ _ hh5]; rfl
      have rz : WZ.cell? ⟨w.heap.size, 0, none⟩ = some (.slice none 0 0) := by rw [cell_of_row _ _ _ _ _ _ hhr]; rfl
      have rf : WZ.frozen? ⟨w.heap.size, 0, none⟩ = false := by unfold World.frozen?; rw [show WZ.heap[w.heap.size]? = _ from hhr]; simp
      obtain ⟨s0, s1, s2, s3, f0, f1, f2, f3⟩ := boxq_cells hhs
      obtain ⟨x0, x1, x2, x3, -, -, -, -⟩ := boxq_cells hhZ
      have n1 : ¬ w.heap.size = B5 := by omega
      have n2 : ¬ w.heap.size = w4.heap.size := by omega
      have n3 : ¬ w.heap.size + 1 = B5 := by omega
      have n4 : ¬ w.heap.size + 1 = w4.heap.size := by omega
      go_upto_region 20 with fail
      rw [← hWZ]
      have HZZ := hid (And.intro hhZ (And.intro hh5 (And.intro hhr hhs)))
      have HbZ := hid hbZ
      have HkZ := hid hkZ
      have HHh := hid hh
      clear y0 y1 y2 y3 yf hWZ hhZ hkZ hbZ hh5 hhr hhs hh hb4r
      obtain ⟨WF, hWF⟩ : ∃ WF, WF = (((((WZ.setCell ⟨w.heap.size, 0, none⟩ (.slice (some ⟨bD, oD, none⟩) nd cV)).setCell ⟨w.heap.size + 1, 0, none⟩ (.string q.name)).setCell ⟨w.heap.size + 1, 1, none⟩ (.slice (some ⟨gh, 0, none⟩) ln ch)).setCell ⟨w.heap.size + 1, 2, none⟩ (.int .i64 q.ring)).setCell ⟨w.heap.size + 1, 3, none⟩ (.slice a2 ck c2)).drew := ⟨_, rfl⟩
      obtain ⟨hhZ, hh5, hhr, hhs⟩ := HZZ.out
      have hF0 : WF.heap[w.heap.size]? = some (.cells #[.slice (some ⟨bD, oD, none⟩) nd cV] 25 (0, 0)) := by
        rw [hWF]
        show ((((World.setCell (WZ.setCell ⟨w.heap.size, 0, none⟩ (.slice (some ⟨bD, oD, none⟩) nd cV)) ⟨w.heap.size + 1, 0, none⟩ (.string q.name)).setCell ⟨w.heap.size + 1, 1, none⟩ (.slice (some ⟨gh, 0, none⟩) ln ch)).setCell ⟨w.heap.size + 1, 2, none⟩ (.int .i64 q.ring)).setCell ⟨w.heap.size + 1, 3, none⟩ (.slice a2 ck c2)).heap[w.heap.size]? = _
        rw [Below.heap_setCell _ _ _ _ (show w.heap.size ≠ w.heap.size + 1 by omega), Below.heap_setCell _ _ _ _ (show w.heap.size ≠ w.heap.size + 1 by omega), Below.heap_setCell _ _ _ _ (show w.heap.size ≠ w.heap.size + 1 by omega), Below.heap_setCell _ _ _ _ (show w.heap.size ≠ w.heap.size + 1 by omega), heap_setCell_same _ _ _ _ _ _ hhr]
        rfl
      have hF1 : WF.heap[w.heap.size + 1]? = some (.cells #[.string q.name, .slice (some ⟨gh, 0, none⟩) ln ch, .int .i64 q.ring, .slice a2 ck c2] 29 (0, 0)) := by
        rw [hWF]
        exact (q4_set (W := WZ.setCell ⟨w.heap.size, 0, none⟩ (.slice (some ⟨bD, oD, none⟩) nd cV)) (by rw [Below.heap_setCell _ _ _ _ (show w.heap.size + 1 ≠ w.heap.size by omega)]; exact hhs)).1
      have hFo : ∀ b, w.heap.size + 2 ≤ b → WF.heap[b]? = WZ.heap[b]? := fun b hb => by
        rw [hWF]
        show ((((World.setCell (WZ.setCell ⟨w.heap.size, 0, none⟩ (.slice (some ⟨bD, oD, none⟩) nd cV)) ⟨w.heap.size + 1, 0, none⟩ (.string q.name)).setCell ⟨w.heap.size + 1, 1, none⟩ (.slice (some ⟨gh, 0, none⟩) ln ch)).setCell ⟨w.heap.size + 1, 2, none⟩ (.int .i64 q.ring)).setCell ⟨w.heap.size + 1, 3, none⟩ (.slice a2 ck c2)).heap[b]? = _
        rw [Below.heap_setCell _ _ _ _ (show b ≠ w.heap.size + 1 by omega), Below.heap_setCell _ _ _ _ (show b ≠ w.heap.size + 1 by omega), Below.heap_setCell _ _ _ _ (show b ≠ w.heap.size + 1 by omega), Below.heap_setCell _ _ _ _ (show b ≠ w.heap.size + 1 by omega), Below.heap_setCell _ _ _ _ (show b ≠ w.heap.size by omega)]
      have hsr := HR.out.size
      have hs64 := HB4c.out.size
      have hsF : wr.heap.size ≤ WF.heap.size := by
        have h1 := heap_ltF (show WF.heap[gh]? = _ from (hFo gh (by omega)).trans ((HkZ.out gh (by omega)).trans (Array.getElem?_eq_getElem hgl)))
        rcases Nat.lt_or_ge WF.heap.size wr.heap.size with h9 | h9
        · exfalso
          have h2 := (hFo WF.heap.size (by omega)).trans ((HkZ.out WF.heap.size (by omega)).trans (Array.getElem?_eq_getElem h9))
          rw [Array.getElem?_eq_none (Nat.le_refl _)] at h2
          cases h2
        · exact h9
      have hBF : Below w.heap.size w WF := by
        have h1 := HBw.out WZ HbZ.out
        rw [hWF]
        exact (((((h1.setCell (show w.heap.size ≤ w.heap.size by omega) _).setCell (show w.heap.size ≤ w.heap.size + 1 by omega) _).setCell (show w.heap.size ≤ w.heap.size + 1 by omega) _).setCell (show w.heap.size ≤ w.heap.size + 1 by omega) _).setCell (show w.heap.size ≤ w.heap.size + 1 by omega) _).drew
      have hto4 : ∀ b, w.heap.size + 2 ≤ b → b < w4.heap.size → WF.heap[b]? = w4.heap[b]? := fun b h1 h2 => (hFo b h1).trans ((HkZ.out b (by omega)).trans ((HR.out.block b (by omega)).trans (HB4c.out.block b h2)))
      have hRF : SQ WF W1.heap.size (.slice (some ⟨bD, oD, none⟩) nd cV) ds vr vw us := HDS.out WF fun b h1 h2 => (hto4 b (by omega) (by have := HK4.out.size; omega)).trans (HK4.out.block b h2 (by omega))
      have hQF := HIK.out WF fun b h1 h2 => hto4 b (by omega) h2
      have hHd : ISt WF (.slice (some ⟨gh, 0, none⟩) ln ch) (q.head.filter (hasT V)) := own_st (by
        rw [hln]
        exact own_move HOR.out fun c hc => (hFo c (by have := (HOR.out.lt c hc).1; omega)).trans (HkZ.out c (by have := (HOR.out.lt c hc).1; omega)))
      have hAt : IAt WF (.slice a2 ck c2) (q.atoms.take ck) := by
        have h1 := hQF.atoms
        have h2 := HNA.out
        rw [h2] at h1
        exact h1.take (k := ck) (by omega) c2
      have hck2 : (q.atoms.take ck).length = ck := by rw [List.length_take]; have := HNA.out; omega
      have HFin : Hid (DrwEA w ds (chkQ ds q) (.returned (.tuple #[.agg #[.slice (some ⟨bD, oD, none⟩) nd cV], .agg #[.string q.name, .slice (some ⟨gh, 0, none⟩) ln ch, .int .i64 q.ring, .slice a2 ck c2]])) WF) := hid (by
        rw [HCQ.out]
        refine ⟨some ⟨bD, oD, none⟩, cV, gh, ch, a2, c2, vr, vw, us, ?_, hBF, ?_, HAP.out, ⟨?_, ?_⟩, by omega, ?_⟩
        · rw [← HND.out]
          show _ = Ending.returned (.tuple #[.agg #[.slice (some ⟨bD, oD, none⟩) nd cV], .agg #[.string q.name, .slice (some ⟨gh, 0, none⟩) (q.head.filter (hasT V)).length ch, .int .i64 q.ring, .slice a2 (q.atoms.take ck).length c2]])
          rw [hln, hck2]
        · rw [← HND.out]; exact hRF.baseC (by omega)
        · show ISt WF (.slice (some ⟨gh, 0, none⟩) (q.head.filter (hasT V)).length ch) (q.head.filter (hasT V))
          rw [hln]; exact hHd
        · show IAt WF (.slice a2 (q.atoms.take ck).length c2) (q.atoms.take ck)
          rw [hck2]; exact hAt
        · show (q.head.filter (hasT V)).length ≤ ch
          rw [hln]; exact hch)
      have r0 : WF.cell? ⟨w.heap.size, 0, none⟩ = some (.slice (some ⟨bD, oD, none⟩) nd cV) := by rw [cell_of_row _ _ _ _ _ _ hF0]; rfl
      obtain ⟨r1, r2, r3, r4, -, -, -, -⟩ := boxq_cells hF1
      go_region
      rw [← hWF]
      clear hWF hF0 hF1 hFo hsF hBF hto4 hRF hQF hHd hAt hhZ hh5 hhr hhs rz rf s0 s1 s2 s3 f0 f1 f2 f3 x0 x1 x2 x3 dz
      go_wp2_with fail
      refine bodyPost_ret (v := .tuple #[.agg #[.slice (some ⟨bD, oD, none⟩) nd cV], .agg #[.string q.name, .slice (some ⟨gh, 0, none⟩) ln ch, .int .i64 q.ring, .slice a2 ck c2]]) (by simp [results, Tryz.results5, go_sem, r0, r1, r2, r3, r4]) rfl ?_
      exact HFin.out

end Go.Proofs.YtcdfoephhjacdaaGreatDoor
