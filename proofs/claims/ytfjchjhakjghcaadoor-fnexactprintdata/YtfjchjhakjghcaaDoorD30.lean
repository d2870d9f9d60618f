import Derived.Laws.BytesArg
import Derived.Test.YtfjchjhakjghcaaDoorD29
/-
  spec.PrintData, walked.
-/
namespace Go.Proofs.YtfjchjhakjghcaaDoor
open Go.RowKit

theorem OB.conv {w W : World} {a : Option Addr} {n cap : Nat} {l : List UInt8} (h : OB w W (.slice a n cap) l) : (convert 50 9 (.slice a n cap)).run Tryd.prog W = .ok (.string ⟨l.toArray⟩) W := by
  rcases h.own.2 with ⟨e, hn⟩ | ⟨g, c, cur, e, -, hg, hnc, -, -, ht⟩
  · simp only [Value.slice.injEq] at e
    obtain ⟨rfl, rfl, rfl⟩ := e
    rw [run_convert_bytes_nil W 50 5 Tryd.underlying50 Tryd.underlying5 0 0 9 Tryd.underlying9]
    rw [List.length_eq_zero_iff.1 hn]
    rfl
  · simp only [Value.slice.injEq] at e
    obtain ⟨rfl, rfl, rfl⟩ := e
    rw [run_convert_bytes_arg W 50 5 Tryd.underlying50 Tryd.underlying5 g 0 l.length cap (l.map fun b => (b.toNat : Int)) (by simp) (fun i hi => ?_) 9 Tryd.underlying9]
    · congr 1
      unfold strOfNums
      simp only [List.map_map]
      congr 3
      conv => rhs; rw [← List.map_id l]
      exact List.map_congr_left fun b _ => by simp
    · have hl : (Lib.byteCells l)[i]? = some (.int .u8 (l[i].toNat : Int)) := by unfold Lib.byteCells; rw [List.getElem?_map, List.getElem?_eq_getElem hi]; rfl
      rw [Nat.zero_add, cell_of_row _ _ _ _ _ _ hg, ← Array.getElem?_toList, ← List.getElem?_take_of_lt (i := i) (j := l.length * 1) (by omega), ht, hl, List.getD_eq_getElem?_getD, List.getElem?_map, List.getElem?_eq_getElem hi]
      rfl

def prtT (ds : List RelV) : List UInt8 := if dataB ds = true then datT ds ds.length else []

set_option maxHeartbeats 4000000 in
set_option maxRecDepth 1000000 in
theorem sPrintData_calls (w : World) (v : Value) (ds : List RelV) (h : IRelS w v ds) (hr : OkRels ds) (hcap : ∀ a n cap, v = .slice a n cap → n ≤ cap) :
    Calls Tryd.prog 7 #[.agg #[v]] w fun e w' => e = .returned (.string ⟨(prtT ds).toArray⟩) ∧ Below w.heap.size w w' := by
  obtain ⟨iB, hi, hz0, hz1, hz2⟩ := info_parts Tryd.infoByte
  obtain ⟨W1, hW1⟩ : ∃ W1, W1 = w.alloc (.cells #[v] 29) := ⟨_, rfl⟩
  have hB1 : Below w.heap.size w W1 := by rw [hW1]; exact (Below.refl _ _).alloc (Nat.le_refl _) _
  have HB1 := hid hB1
  have hx : W1.cell? ⟨w.heap.size, 0, none⟩ = some v := by rw [hW1]; simp [go_sem]
  have hs1 : w.heap.size < W1.heap.size := by rw [hW1]; simp
  have KD := hid (sDataOK_calls W1 v ds (h.below hB1) hr hcap)
  obtain ⟨a, cap, rfl, hc⟩ := h
  unfold prtT
  cases hd : dataB ds
  · rw [hd] at KD
    rw [if_neg (by simp)]
    clear hc
    generalize ds.length = n at *
    go_enter Tryd.func7, Tryd.ntmps7
    go_upto_region 1 with fail
    rw [← hW1]
    clear hW1
    go_wp2_with fail
    refine KD.out.mono ?_
    rintro e w2 ⟨rfl, hb2⟩
    go_wp2_with fail
    go_ret
    exact ⟨rfl, bt HB1.out hb2⟩
  · rw [hd] at KD
    rw [if_pos rfl]
    obtain ⟨h50, hgr⟩ := gr_of hd
    have HG := hid hgr
    have HL := hid (dat_len hgr)
    have HC : Hid (∀ j, j < ds.length → ∃ b o vr vw, a = some ⟨b, o, none⟩ ∧ (∀ W, Below w.heap.size w W → W.cell? ⟨b, o + j * 4, none⟩ = some (.string (ds.getD j noRel).name) ∧ W.cell? ⟨b, o + j * 4 + 1, none⟩ = some (.int .i64 (ds.getD j noRel).ar) ∧ W.cell? ⟨b, o + j * 4 + 2, none⟩ = some vr ∧ W.cell? ⟨b, o + j * 4 + 3, none⟩ = some vw) ∧ IRel w vr vw (ds.getD j noRel)) := hid fun j hj => by
      rcases hc with h0 | ⟨b, o, rfl, hh⟩
      · omega
      · obtain ⟨vr, vw, c0, c1, c2, c3, hI⟩ := hh j hj
        have cc : ∀ {p : Addr} {x : Value} (W : World), Below w.heap.size w W → w.cell? p = some x → W.cell? p = some x := fun W hW h => (hW.cell (World.block_lt_of_cell? w _ h)).trans h
        exact ⟨b, o, vr, vw, rfl, fun W hW => ⟨cc W hW c0, cc W hW c1, cc W hW c2, cc W hW c3⟩, hI⟩
    have HDs : Hid (∀ j, datT ds (j + 1) = datT ds j ++ relT (ds.getD j noRel) (ds.getD j noRel).rows.length) := hid fun j => rfl
    have HD0 : Hid (datT ds 0 = []) := hid rfl
    clear hc hgr hd hr hcap
    obtain ⟨n, hn⟩ : ∃ n, n = ds.length := ⟨_, rfl⟩
    rw [← hn] at HG HL HC h50 hW1 hx KD ⊢
    clear hn
    go_enter Tryd.func7, Tryd.ntmps7
    go_upto_region 1 with fail
    rw [← hW1]
    clear hW1
    go_wp2_with fail
    refine KD.out.mono ?_
    rintro e w2 ⟨rfl, hb2⟩
    have hx2 : w2.cell? ⟨w.heap.size, 0, none⟩ = some (.slice a n cap) := (hb2.cell (p := ⟨w.heap.size, 0, none⟩) hs1).trans hx
    have HB2 := hid (bt HB1.out hb2)
    clear hb2 KD hx HB1
    have HS0 : Hid (OB w (w2.alloc (.cells #[] 5)) (.slice (some ⟨w2.heap.size, 0, none⟩) 0 0) []) := hid ⟨HB2.out.alloc HB2.out.size _, World.ownsRow_made w2 #[] 0 HB2.out.size (by decide) rfl⟩
    go_upto_region 4 with fail
    have hx3 : (w2.alloc (.cells #[] 5)).cell? ⟨w.heap.size, 0, none⟩ = some (.slice a n cap) := by rw [World.cell?_alloc_past _ _ _ (World.block_lt_of_cell? w2 _ hx2)]; exact hx2
    clear hx2 HB2
    generalize w2.alloc (.cells #[] 5) = W3 at *
    generalize (Value.slice (some ⟨w2.heap.size, 0, none⟩) 0 0) = v3 at *
    go_wp2_with fail
    clear hx3
    go_loopw [3, 15] (fun u t wr => ∃ (j : Nat) (vo : Value), j ≤ n ∧ t = .int .i64 j ∧ vo = u ∧ Hid (OB w wr vo (datT ds j))) (fun _ t _ => n - (intOf t).toNat)
    case atStart => exact ⟨0, v3, Nat.zero_le _, rfl, rfl, hid (by rw [HD0.out]; exact HS0.out)⟩
    case round =>
      clear HS0 HD0
      obtain ⟨j, vo, hjn, rfl, rfl, HT⟩ := hrel
      by_cases hlt : j < n
      · have i1 : (j : Int) < (n : Int) := by omega
        obtain ⟨b, o, vr, vw, ea, hcs, hir⟩ := HC.out j hlt
        obtain ⟨c0, c1, c2, c3⟩ := hcs wr HT.out.bw
        subst ea
        have hG := HG.out j hlt
        have HGr := hid hG
        have hz := hG.nz
        have hDl := HL.out j (by omega)
        have HDj := hid (HDs.out j)
        obtain ⟨a1, k1, rfl, hc1⟩ := hir.rows
        obtain ⟨a2, k2, rfl, hc2⟩ := hir.ws
        generalize ds.getD j noRel = r at *
        clear hir HG HL hcs
        have HCr : Hid (∀ W, Below w.heap.size w W → ∀ i, i < r.rows.length → ∃ (b o : Nat) (u : Value), a1 = some ⟨b, o, none⟩ ∧ W.cell? ⟨b, o + i, none⟩ = some u ∧ IS W u (r.rows.getD i [])) := hid fun W hW i hi => by
          rcases hc1 with h0 | ⟨b, o, rfl, h⟩
          · omega
          · obtain ⟨u, h1, h2⟩ := h i hi
            exact ⟨b, o, u, rfl, (hW.cell (World.block_lt_of_cell? w _ h1)).trans h1, h2.below hW⟩
        have HCw : Hid (∀ W, Below w.heap.size w W → ∀ i, i < r.rows.length → ∃ (b o : Nat), a2 = some ⟨b, o, none⟩ ∧ W.cell? ⟨b, o + i, none⟩ = some (.int .i64 (r.ws.getD i 0))) := hid fun W hW i hi => by
          have := hG.wl
          rcases hc2 with h0 | ⟨b, o, rfl, h⟩
          · omega
          · exact ⟨b, o, rfl, (hW.cell (World.block_lt_of_cell? w _ (h i (by omega)))).trans (h i (by omega))⟩
        have hwl := hG.wl
        rw [hwl] at c3
        clear hc1 hc2 hG hwl
        obtain ⟨m, hm⟩ : ∃ m, m = r.rows.length := ⟨_, rfl⟩
        have HM := hid hm
        rw [← hm] at c2 c3 HCr HCw HDj
        clear hm
        go_upto_region 7 with fail
        have HX := hid (RXp.made wr r.name r.ar (.slice a1 m k1) (.slice a2 m k2))
        have HAl : Hid (Below wr.heap.size wr (wr.alloc (.cells #[.string r.name, .int .i64 r.ar, .slice a1 m k1, .slice a2 m k2] 54))) := hid ((Below.refl _ _).alloc (Nat.le_refl _) _)
        have HO := hid (HT.out.below HAl.out)
        clear HT c0 c1 c2 c3
        obtain ⟨p5, hp5⟩ : ∃ p, p = wr.heap.size := ⟨_, rfl⟩
        rw [← hp5] at HX ⊢
        clear hp5
        generalize wr.alloc (.cells #[.string r.name, .int .i64 r.ar, .slice a1 m k1, .slice a2 m k2] 54) = W4 at *
        clear HAl
        go_cut [3, 15] from 15 to 56 (fun u t wx => t = .int .i64 j ∧ ∃ vn, vn = u ∧ Hid (OB w wx vn (datT ds j ++ lineR r) ∧ RXp wx p5 r.name r.ar (.slice a1 m k1) (.slice a2 m k2)))
        case first =>
          have hG := HGr.out
          have d0 := HX.out.c0
          have d1 := HX.out.c1
          have hI := itoa_len r.ar
          have ha1 := hG.a1
          have ha3 := hG.a3
          have hLR := hG.lR
          have HLe := hid (lineR_eq r)
          have hsz : ((⟨#[114, 101, 108, 32]⟩ : ByteArray) ++ r.name ++ ⟨#[32]⟩ ++ ⟨(Lib.itoa r.ar).toArray⟩ ++ ⟨#[10]⟩).size = (lineR r).length := by rw [HLe.out]; show (lineR r).toArray.size = _; simp
          have KD : Hid (∀ W, Calls Tryd.prog 20 #[.int .i64 r.ar] W fun e w' => e = .returned (.string ⟨(Lib.itoa r.ar).toArray⟩) ∧ ∃ d, w' = W.drewN d) := hid fun W => l2DecI_calls r.ar W (by omega) (by omega)
          have hi1 : (Lib.itoa r.ar).length ≤ 5 := by omega
          clear hI hG
          generalize Lib.itoa r.ar = it at *
          have q1 : ¬ (9223372036854775807 < 4 + r.name.size) := by omega
          have q2 : ¬ (9223372036854775807 < 4 + r.name.size + 1) := by omega
          have q3 : ¬ (9223372036854775807 < 4 + r.name.size + 1 + it.length) := by omega
          have q4 : ¬ (9223372036854775807 < 4 + r.name.size + 1 + it.length + 1) := by omega
          go_region_law (first
            | (refine step_append_str (by rfl) _ _ 50 9 (by rfl) w.heap.size 5 iB Tryd.underlying50 Tryd.underlying9 hi hz0 hz1 hz2 vo _ _ (by rfl) HO7.out.own _ (by rfl) (by rw [hsz]; unfold maxLen; omega) (by rw [hsz]; omega) HO7.out.bw.size ?_; intro v8 w8 hown8 hgrow8)
            | (go_simp; go_at_call 20; (with_reducible refine (KD.out _).mono ?_); rintro e w7 ⟨rfl, d7, hw7⟩; have HO7 : Hid (OB w w7 vo (datT ds j)) := hid (by rw [hw7]; exact HO.out.below (below_drewN (Below.refl _ _).drew _)); have HX7 : Hid (RXp w7 p5 r.name r.ar (.slice a1 m k1) (.slice a2 m k2)) := hid (by rw [hw7]; exact HX.out.below (below_drewN (Below.refl _ _).drew _)); have d0b := HX7.out.c0; have d1b := HX7.out.c1; clear hw7)
            | fail)
          all_goals
            go_wp2_with fail
            go_meet
            exact ⟨rfl, v8, rfl, hid ⟨HO7.out.push HLe.out hown8 hgrow8, HX7.out.grown HO7.out.own (by decide) hgrow8⟩⟩
        case rest =>
          obtain ⟨rfl, vn, rfl, HT⟩ := hcut
          have HT4 := hid HT.out
          clear HT HX HO
          generalize wc = W5 at *
          have d2 := HT4.out.2.c2
          have HT0 : Hid (OB w W5 vn (datT ds j ++ relT r 0) ∧ RXp W5 p5 r.name r.ar (.slice a1 m k1) (.slice a2 m k2)) := hid HT4.out
          clear HT4
          have hm2 : m ≤ 2000 := by rw [HM.out]; exact HGr.out.n
          have HRl : Hid (∀ i, i ≤ m → (relT r i).length ≤ 1000 + i * 5000000) := hid fun i hi => HGr.out.lT i (by rw [← HM.out]; exact hi)
          have KR : Hid (∀ W u i, i < m → IS W u (r.rows.getD i []) → Calls Tryd.prog 21 #[u] W fun e w' => e = .returned (.string ⟨(rowT (r.rows.getD i [])).toArray⟩) ∧ ∃ d, w' = W.drewN d) := hid fun W u i hi hu => by
            obtain ⟨h1, -, h2⟩ := HGr.out.row i (by rw [← HM.out]; exact hi)
            exact l2RowText_calls W u _ hu (by omega) (fun x hx => by have := h2 x hx; omega)
          have KD : Hid (∀ W i, i < m → Calls Tryd.prog 20 #[.int .i64 (r.ws.getD i 0)] W fun e w' => e = .returned (.string ⟨(Lib.itoa (r.ws.getD i 0)).toArray⟩) ∧ ∃ d, w' = W.drewN d) := hid fun W i hi => by
            have h5 := HGr.out.wt i (by rw [← HM.out]; exact hi)
            exact l2DecI_calls _ W (by omega) (by omega)
          have HLW : Hid (∀ i, i < m → (lineW r i).length ≤ 5000000 ∧ (rowT (r.rows.getD i [])).length ≤ 5000000 ∧ (Lib.itoa (r.ws.getD i 0)).length ≤ 5000000) := hid fun i hi => by
            have h1 := HGr.out.lW (i := i) (by rw [← HM.out]; exact hi)
            refine ⟨h1, ?_, ?_⟩ <;> (unfold lineW at h1; simp only [List.length_append, List.length_cons, List.length_nil] at h1; omega)
          have HLe : Hid (∀ i, r.name ++ (⟨#[32]⟩ : ByteArray) ++ ⟨(rowT (r.rows.getD i [])).toArray⟩ ++ ⟨#[32]⟩ ++ ⟨(Lib.itoa (r.ws.getD i 0)).toArray⟩ ++ ⟨#[10]⟩ = ⟨(lineW r i).toArray⟩) := hid fun i => lineW_eq r i
          have HRs : Hid (∀ i, relT r (i + 1) = relT r i ++ lineW r i) := hid fun i => rfl
          clear HGr
          go_wp2_with fail
          clear d2
          go_loopw [3, 33] (fun u t wr => ∃ (i : Nat) (vo : Value), i ≤ m ∧ t = .int .i64 i ∧ vo = u ∧ Hid (OB w wr vo (datT ds j ++ relT r i) ∧ RXp wr p5 r.name r.ar (.slice a1 m k1) (.slice a2 m k2))) (fun _ t _ => m - (intOf t).toNat)
          case atStart => exact ⟨0, vn, Nat.zero_le _, rfl, rfl, HT0⟩
          case round =>
            clear HT0
            obtain ⟨i, vo, him, rfl, rfl, HT⟩ := hrel
            by_cases hil : i < m
            · have i2 : (i : Int) < (m : Int) := by omega
              obtain ⟨b2, o2, u2, ea, e1, hu⟩ := HCr.out wr HT.out.1.bw i hil
              obtain ⟨b3, o3, eb, e2⟩ := HCw.out wr HT.out.1.bw i hil
              subst ea eb
              have KR1 : Hid (∀ W, IS W u2 (r.rows.getD i []) → Calls Tryd.prog 21 #[u2] W fun e w' => e = .returned (.string ⟨(rowT (r.rows.getD i [])).toArray⟩) ∧ ∃ d, w' = W.drewN d) := hid fun W hW => KR.out W u2 i hil hW
              have KD1 : Hid (∀ W, Calls Tryd.prog 20 #[.int .i64 (r.ws.getD i 0)] W fun e w' => e = .returned (.string ⟨(Lib.itoa (r.ws.getD i 0)).toArray⟩) ∧ ∃ d, w' = W.drewN d) := hid fun W => KD.out W i hil
              obtain ⟨hl1, hl2, hl3⟩ := HLW.out i hil
              have HLei := hid (HLe.out i)
              have HRsi := hid (HRs.out i)
              have hRl := HRl.out i (by omega)
              have hsz : (r.name ++ (⟨#[32]⟩ : ByteArray) ++ ⟨(rowT (r.rows.getD i [])).toArray⟩ ++ ⟨#[32]⟩ ++ ⟨(Lib.itoa (r.ws.getD i 0)).toArray⟩ ++ ⟨#[10]⟩).size = (lineW r i).length := by rw [HLei.out]; show (lineW r i).toArray.size = _; simp
              have HU := hid hu
              obtain ⟨au, cu, rfl, -⟩ := hu
              have hlen : (datT ds j ++ relT r i).length = (datT ds j).length + (relT r i).length := List.length_append
              generalize (r.rows.getD i []).length = lr at *
              generalize rowT (r.rows.getD i []) = rt at *
              generalize r.rows.getD i [] = row at *
              generalize Lib.itoa (r.ws.getD i 0) = it at *
              generalize r.ws.getD i 0 = x at *
              have q1 : ¬ (9223372036854775807 < r.name.size + 1) := by omega
              have q2 : ¬ (9223372036854775807 < r.name.size + 1 + rt.length) := by omega
              have q3 : ¬ (9223372036854775807 < r.name.size + 1 + rt.length + 1) := by omega
              have q4 : ¬ (9223372036854775807 < r.name.size + 1 + rt.length + 1 + it.length) := by omega
              have q5 : ¬ (9223372036854775807 < r.name.size + 1 + rt.length + 1 + it.length + 1) := by omega
              go_upto_region 11 with fail
              have d0 := HT.out.2.c0
              have d3 := HT.out.2.c3
              go_region_law (first
                | (refine step_append_str (by rfl) _ _ 50 9 (by rfl) w.heap.size 5 iB Tryd.underlying50 Tryd.underlying9 hi hz0 hz1 hz2 vo _ _ (by rfl) HO9.out.own _ (by rfl) (by rw [hsz]; unfold maxLen; omega) (by rw [hsz]; omega) HO9.out.bw.size ?_; intro v8 w8 hown8 hgrow8)
                | (go_simp; go_at_call 21; (with_reducible refine (KR1.out _ (HU.out.below (Below.refl _ _).drew)).mono ?_); rintro e w7 ⟨rfl, d7, hw7⟩; have HO7 : Hid (OB w w7 vo (datT ds j ++ relT r i)) := hid (by rw [hw7]; exact HT.out.1.below (below_drewN (Below.refl _ _).drew _)); have HX7 : Hid (RXp w7 p5 r.name r.ar (.slice (some ⟨b2, o2, none⟩) m k1) (.slice (some ⟨b3, o3, none⟩) m k2)) := hid (by rw [hw7]; exact HT.out.2.below (below_drewN (Below.refl _ _).drew _)); have e2b : w7.cell? ⟨b3, o3 + i, none⟩ = some (.int .i64 x) := (by rw [hw7]; exact e2); have d0b := HX7.out.c0; have d3b := HX7.out.c3; clear hw7)
                | (go_simp; go_at_call 20; (with_reducible refine (KD1.out _).mono ?_); rintro e w9 ⟨rfl, d9, hw9⟩; have HO9 : Hid (OB w w9 vo (datT ds j ++ relT r i)) := hid (by rw [hw9]; exact HO7.out.below (below_drewN (Below.refl _ _) _)); have HX9 : Hid (RXp w9 p5 r.name r.ar (.slice (some ⟨b2, o2, none⟩) m k1) (.slice (some ⟨b3, o3, none⟩) m k2)) := hid (by rw [hw9]; exact HX7.out.below (below_drewN (Below.refl _ _) _)); have d0c := HX9.out.c0; clear hw9)
                | fail)
              all_goals
                go_wp2_with fail
                go_roundw
                case rel => exact ⟨i + 1, v8, by omega, by go_num, rfl, hid ⟨by rw [HRsi.out, ← List.append_assoc]; exact HO9.out.push HLei.out hown8 hgrow8, HX9.out.grown HO9.out.own (by decide) hgrow8⟩⟩
                case measure => simp [intOf]; omega
            · obtain rfl : i = m := by omega
              have i2 : ¬ ((i : Int) < (i : Int)) := by omega
              have HF : Hid (OB w wr vo (datT ds (j + 1))) := hid (by rw [HDj.out]; exact HT.out.1)
              clear HT HCr HCw KR KD HLW HLe HRs HRl
              go_wp2_with fail
              go_roundw
              case rel => exact ⟨j + 1, vo, by omega, by go_num, rfl, HF⟩
              case measure => simp [intOf]; omega
      · obtain rfl : j = n := by omega
        have i1 : ¬ ((j : Int) < (j : Int)) := by omega
        obtain ⟨av, kv, ev⟩ : ∃ a c, vo = .slice a (datT ds j).length c := by
          rcases HT.out.own.2 with ⟨e, hn⟩ | ⟨g, cap, cur, e, _⟩
          · exact ⟨none, 0, by rw [e, hn]⟩
          · exact ⟨_, cap, e⟩
        subst ev
        have hcv := HT.out.conv
        have HBf := hid HT.out.bw
        clear HT HC HDs HG HL
        generalize (datT ds j).length = ln at *
        go_wp2_with fail
        go_ret
        exact ⟨rfl, HBf.out⟩

end Go.Proofs.YtfjchjhakjghcaaDoor
