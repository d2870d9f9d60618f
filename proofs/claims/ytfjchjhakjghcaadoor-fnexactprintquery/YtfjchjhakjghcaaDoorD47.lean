import Derived.Laws.MakeOwn
import Derived.Test.YtfjchjhakjghcaaDoorD31
import Derived.Test.YtfjchjhakjghcaaDoorD46
/-
  impl.printedAtom.
-/
namespace Go.Proofs.YtfjchjhakjghcaaDoor
open Go.RowKit

theorem tabQ_below {w W : World} (h : Lib.TabIs Tryd.prog w "internal/strconv.uint64pow10" .u64 Lib.pow10Tab) (hb : Below w.heap.size w W) : Lib.TabIs Tryd.prog W "internal/strconv.uint64pow10" .u64 Lib.pow10Tab := by
  unfold Lib.TabIs World.var? at *
  cases hg : Tryd.prog.globalNamed "internal/strconv.uint64pow10" with
  | none => rw [hg] at h; simp at h
  | some g =>
    rw [hg] at h
    simp only [Option.bind_some] at h ⊢
    have hlt : g < w.heap.size := by
      rcases Nat.lt_or_ge g w.heap.size with h1 | h1
      · exact h1
      · rw [Array.getElem?_eq_none h1] at h; simp at h
    rw [hb.block g hlt]
    exact h

theorem own_joins {W : World} {B : Nat} {v : Value} {L : List ByteArray} (h : W.ownsRow B 9 1 v L.length (L.map Value.string)) (hn : ∃ g c, v = .slice (some ⟨g, 0, none⟩) L.length c) (hl : L.length ≤ 1048576) (hJ : (jn (L.map bts)).length ≤ 140737488355328) :
    Calls Tryd.prog 37 #[v, .string ⟨#[44, 32]⟩] W fun e w' => e = .returned (.string ⟨(jn (L.map bts)).toArray⟩) ∧ Below W.heap.size W w' := by
  obtain ⟨g, c, rfl⟩ := hn
  rcases h.2 with ⟨h1, -⟩ | ⟨g', cap, cur, h1, h2, h3, h4, h5, h6, h7⟩
  · simp at h1
  · simp only [Value.slice.injEq, Option.some.injEq, Addr.mk.injEq] at h1
    obtain ⟨⟨rfl, -⟩, -, rfl⟩ := h1
    have hlt : g < W.heap.size := by
      rcases Nat.lt_or_ge g W.heap.size with h1 | h1
      · exact h1
      · rw [Array.getElem?_eq_none h1] at h3; cases h3
    exact Tryd.c_Join g 0 c L ⟨#[44, 32]⟩ W (fun j x hj => by
      have hjl : j < L.length := (List.getElem?_eq_some_iff.1 hj).1
      have := h.cellAt j (by omega)
      rw [Nat.zero_add, this, List.getElem?_map, hj]
      rfl) hlt (by omega) h4 hJ

set_option maxHeartbeats 8000000 in
set_option maxRecDepth 1000000 in
theorem printedAtom_calls (w : World) (v : Value) (rel : ByteArray) (ts : List TermV) (hit : ITm w v ts) (hab : atomB (rel, ts) = true) (hm : ts.length ≤ 1048576) (htab : Lib.TabIs Tryd.prog w "internal/strconv.uint64pow10" .u64 Lib.pow10Tab) :
    Calls Tryd.prog 38 #[.agg #[.string rel, v]] w fun e w' => e = .returned (.string ⟨(atomT (rel, ts)).toArray⟩) ∧ Below w.heap.size w w' := by
  obtain ⟨iT, hi, hz0, hz1, hz2⟩ := info_parts Tryd.infoSt
  have htl := terms_len hab hm
  dsimp only at htl
  obtain ⟨rb, rfl⟩ : ∃ rb : List UInt8, rel = ⟨rb.toArray⟩ := ⟨bts rel, (bts_mk rel).symm⟩
  unfold atomB at hab
  simp only [Bool.and_eq_true, decide_eq_true_eq] at hab
  have hrb : rb.length ≤ 30 := by have h' : rb.toArray.size ≤ 30 := name_len hab.1.1; simpa using h'
  have HTb : Hid (∀ p, p < ts.length → termB (ts.getD p noTm) = true) := hid fun p hp => List.all_eq_true.1 hab.2 _ (by rw [List.getD_eq_getElem?_getD, List.getElem?_eq_getElem hp]; exact List.getElem_mem _)
  rw [show atomT ((⟨rb.toArray⟩ : ByteArray), ts) = rb ++ [40] ++ jn (ts.map termT) ++ [41] by unfold atomT; rw [bts_of]]
  have KJt : Hid (∀ (W : World) B v, W.ownsRow B 9 1 v ts.length ((ML termT ts ts.length).map Value.string) → (∃ g c, v = .slice (some ⟨g, 0, none⟩) ts.length c) → Calls Tryd.prog 37 #[v, .string ⟨#[44, 32]⟩] W fun e w' => e = .returned (.string ⟨(jn (ts.map termT)).toArray⟩) ∧ Below W.heap.size W w') := hid fun W B v hv hn => by
    have := own_joins (L := ML termT ts ts.length) (by rw [ML_len _ (Nat.le_refl _)]; exact hv) (by rw [ML_len _ (Nat.le_refl _)]; exact hn) (by rw [ML_len _ (Nat.le_refl _)]; exact hm) (by rw [ML_bts]; omega)
    rwa [ML_bts] at this
  have KI : Hid (∀ W n, Below w.heap.size w W → 0 ≤ n → n ≤ 1000000 → Calls Tryd.prog 25 #[.int .i64 n] W fun e w' => e = .returned (.string ⟨(Lib.itoa n).toArray⟩) ∧ Below W.heap.size W w') := hid fun W n hW h0 h1 => Tryd.c_Itoa n (by omega) (by omega) W (tabQ_below htab hW)
  generalize jn (ts.map termT) = jm at *
  clear hab htab
  obtain ⟨ua, uc, rfl, hterm⟩ := hit
  have HCt : Hid (∀ W, Below w.heap.size w W → ∀ p, p < ts.length → ∃ b o, ua = some ⟨b, o, none⟩ ∧ W.cell? ⟨b, o + p * 2, none⟩ = some (.string (ts.getD p noTm).1) ∧ W.cell? ⟨b, o + p * 2 + 1, none⟩ = some (.int .i64 (ts.getD p noTm).2)) := hid fun W hW p hp => by
    rcases hterm with h0 | ⟨b, o, rfl, hh⟩
    · omega
    · exact ⟨b, o, rfl, bcl' hW (hh p hp).1, bcl' hW (hh p hp).2⟩
  clear hterm
  obtain ⟨m, hm'⟩ : ∃ m, m = ts.length := ⟨_, rfl⟩
  have HM := hid hm'
  rw [← hm'] at hm HTb KJt HCt ⊢
  clear hm'
  go_enter Tryd.func38, Tryd.ntmps38
  go_upto_region 1 with fail
  obtain ⟨Wx, hWx⟩ : ∃ Wx, Wx = w.alloc (.cells #[.string ⟨rb.toArray⟩, .slice ua m uc] 72) := ⟨_, rfl⟩
  have f0 : Wx.cell? ⟨w.heap.size, 0, none⟩ = some (.string ⟨rb.toArray⟩) := by rw [hWx, World.cell?_alloc_at _ _ _ _ rfl]; rfl
  have f1 : Wx.cell? ⟨w.heap.size, 1, none⟩ = some (.slice ua m uc) := by rw [hWx, World.cell?_alloc_at _ _ _ _ rfl]; rfl
  have HX : Hid (Below w.heap.size w Wx) := hid (by rw [hWx]; exact (Below.refl _ _).alloc (Nat.le_refl _) _)
  rw [← hWx]
  clear hWx
  obtain ⟨Wm, hmk', hownm, hgrm⟩ := run_makeSlice_owned (P := Tryd.prog) Wx Wx.heap.size 33 9 iT (.string ⟨#[]⟩) 1 Tryd.underlying33 hi hz0 hz1 .i64 .i64 m (by omega) (by rw [hz2]; omega) (by unfold maxLen; omega) (Nat.le_refl _)
  have hmk : Sem.run Tryd.prog (Instr.makeSlice 33 (.int .i64 0) (.int .i64 (m : Int))) Wx = .ok (.slice (some ⟨Wx.heap.size, 0, none⟩) 0 m) Wm := hmk'
  have hbm : Below Wx.heap.size Wx Wm := (Below.refl _ _).grown hgrm (Nat.le_refl _) (fun j hj => by simp at hj)
  have f0m := bcl' hbm f0
  have f1m := bcl' hbm f1
  have HM0 : Hid (Below Wx.heap.size Wx Wm ∧ Wm.ownsRow Wx.heap.size 9 1 (.slice (some ⟨Wx.heap.size, 0, none⟩) 0 m) 0 ((ML termT ts 0).map Value.string)) := hid ⟨hbm, hownm⟩
  clear hmk' hownm hgrm hbm
  go_wp2_with fail
  clear hmk f1 f1m f0m
  go_loopw [3, 13] (fun v t wr => ∃ (p : Nat) (g c : Nat), p ≤ m ∧ t = .int .i64 p ∧ v = .slice (some ⟨g, 0, none⟩) p c ∧ Hid (Below Wx.heap.size Wx wr ∧ wr.ownsRow Wx.heap.size 9 1 (.slice (some ⟨g, 0, none⟩) p c) p ((ML termT ts p).map Value.string))) (fun _ t _ => m - (intOf t).toNat)
  case atStart => exact ⟨0, _, _, Nat.zero_le _, rfl, rfl, HM0⟩
  case round =>
    clear HM0
    obtain ⟨p, g, c, hpm, rfl, rfl, HG⟩ := hrel
    by_cases hlp : p < m
    · have i2 : (p : Int) < (m : Int) := by omega
      have HBw := hid (bt HX.out HG.out.1)
      obtain ⟨tb, to', ea, g0, g1⟩ := HCt.out wr HBw.out p hlp
      subst ea
      have htb := HTb.out p hlp
      have HS := hid (ML_succ termT noTm (l := ts) (p := p) (by rw [← HM.out]; exact hlp))
      generalize ts.getD p noTm = t at *
      obtain ⟨x, y⟩ := t
      unfold termB at htb
      rw [show termT ((x, y) : TermV) = if x.toList.isEmpty then Lib.itoa y else bts x from rfl] at HS
      dsimp only at *
      generalize wr = Wt at *
      go_upto_region 5 with fail
      obtain ⟨W5, hW5⟩ : ∃ W5, W5 = Wt.alloc (.cells #[.string x, .int .i64 y] 74) := ⟨_, rfl⟩
      have t0 : W5.cell? ⟨Wt.heap.size, 0, none⟩ = some (.string x) := by rw [hW5, World.cell?_alloc_at _ _ _ _ rfl]; rfl
      have t1 : W5.cell? ⟨Wt.heap.size, 1, none⟩ = some (.int .i64 y) := by rw [hW5, World.cell?_alloc_at _ _ _ _ rfl]; rfl
      have HG5 : Hid (Below Wx.heap.size Wx W5 ∧ W5.ownsRow Wx.heap.size 9 1 (.slice (some ⟨g, 0, none⟩) p c) p ((ML termT ts p).map Value.string)) := hid ⟨by rw [hW5]; exact HG.out.1.alloc HG.out.1.size _, by rw [hW5]; exact HG.out.2.alloc _⟩
      rw [← hW5]
      clear hW5 HG g0 g1 HBw
      generalize Wt.heap.size = tp at *
      cases hem : x.toList.isEmpty
      · rw [hem, if_neg (by decide), bts_mk] at HS
        have hs5 := HG5.out.1.size
        clear htb
        go_wp2_with (first | (at_builtin; refine wpList_append_lies _ rfl _ _ 33 rfl Wx.heap.size 9 iT (.string ⟨#[]⟩) 1 16 Tryd.underlying33 hi hz0 hz1 hz2 rfl (by decide) _ _ _ rfl (HG5.out.2.alloc _) ⟨_, 0, none⟩ 1 1 [.string x] rfl rfl (new1_cellQ _ _ _) (fun u hu => by simp at hu; subst hu; rfl) (by decide) (by unfold maxLen; omega) (by omega) (by simp; omega) _ rfl ?_; intro g8 cp8 w8 hown8 hgrow8 hat8 hlt8) | fail)
        have HN2 : Hid (Below Wx.heap.size Wx w8 ∧ w8.ownsRow Wx.heap.size 9 1 (.slice (some ⟨g8, 0, none⟩) (p + 1) cp8) (p + 1) ((ML termT ts (p + 1)).map Value.string)) := hid ⟨(HG5.out.1.alloc hs5 _).grown hgrow8 (by simp; omega) (fun j hj => (HG5.out.2.lt j hj).1), by rw [HS.out, List.map_append]; exact hown8⟩
        clear hown8 hgrow8 hat8 hlt8
        go_wp2_with fail
        go_roundw
        case rel => exact ⟨p + 1, _, _, by omega, by go_num, rfl, HN2⟩
        case measure => simp [intOf]; omega
      · rw [hem, if_pos rfl] at HS htb
        simp only [Bool.and_eq_true, decide_eq_true_eq] at htb
        have KD := hid (KI.out W5 y (bt HX.out HG5.out.1) htb.1 htb.2)
        generalize Lib.itoa y = it at *
        go_wp2_with fail
        refine KD.out.mono ?_
        rintro e w6 ⟨rfl, hb6⟩
        have HG6 : Hid (Below Wx.heap.size Wx w6 ∧ w6.ownsRow Wx.heap.size 9 1 (.slice (some ⟨g, 0, none⟩) p c) p ((ML termT ts p).map Value.string)) := hid ⟨bt HG5.out.1 hb6, own_belowQ HG5.out.2 hb6⟩
        have hs6 := HG6.out.1.size
        clear hb6 KD HG5 t0 t1
        go_wp2_with (first | (at_builtin; refine wpList_append_lies _ rfl _ _ 33 rfl Wx.heap.size 9 iT (.string ⟨#[]⟩) 1 16 Tryd.underlying33 hi hz0 hz1 hz2 rfl (by decide) _ _ _ rfl (HG6.out.2.alloc _) ⟨_, 0, none⟩ 1 1 [.string ⟨it.toArray⟩] rfl rfl (new1_cellQ _ _ _) (fun u hu => by simp at hu; subst hu; rfl) (by decide) (by unfold maxLen; omega) (by omega) (by simp; omega) _ rfl ?_; intro g8 cp8 w8 hown8 hgrow8 hat8 hlt8) | fail)
        have HN2 : Hid (Below Wx.heap.size Wx w8 ∧ w8.ownsRow Wx.heap.size 9 1 (.slice (some ⟨g8, 0, none⟩) (p + 1) cp8) (p + 1) ((ML termT ts (p + 1)).map Value.string)) := hid ⟨(HG6.out.1.alloc hs6 _).grown hgrow8 (by simp; omega) (fun j hj => (HG6.out.2.lt j hj).1), by rw [HS.out, List.map_append]; exact hown8⟩
        clear hown8 hgrow8 hat8 hlt8
        go_wp2_with fail
        go_roundw
        case rel => exact ⟨p + 1, _, _, by omega, by go_num, rfl, HN2⟩
        case measure => simp [intOf]; omega
    · obtain rfl : p = m := by omega
      have i2 : ¬ ((p : Int) < (p : Int)) := by omega
      have KJ2 : Hid (∀ W, Below wr.heap.size wr W → Calls Tryd.prog 37 #[.slice (some ⟨g, 0, none⟩) p c, .string ⟨#[44, 32]⟩] W fun e w' => e = .returned (.string ⟨jm.toArray⟩) ∧ Below W.heap.size W w') := hid fun W hW => KJt.out W _ _ (own_belowQ HG.out.2 hW) ⟨_, _, rfl⟩
      have f0a := bcl' HG.out.1 f0
      have HB := hid (bt HX.out HG.out.1)
      have hcc1 : ¬ (9223372036854775807 < rb.length + 1) := by omega
      have hcc2 : ¬ (9223372036854775807 < rb.length + 1 + jm.length) := by omega
      have hcc3 : ¬ (9223372036854775807 < rb.length + 1 + jm.length + 1) := by omega
      clear HG HX f0 KJt
      generalize wr = Wt at *
      go_upto_region 9 with fail
      go_region_law (first
        | (go_simp; go_at_call 37; (with_reducible refine (KJ2.out _ (Below.refl _ _).drew).mono ?_); rintro e w6 ⟨rfl, hb6'⟩; have hb6 : Below Wt.heap.size Wt w6 := ⟨hb6'.os, hb6'.tape, hb6'.output, hb6'.size, hb6'.block⟩; have f0b := bcl' hb6 f0a; have HB6 := hid (bt HB.out hb6); clear hb6 hb6')
        | fail)
      all_goals
        go_wp2_with fail
        go_ret
        refine ⟨?_, HB6.out⟩
        rw [show rb ++ 40 :: (jm ++ [41]) = rb ++ [40] ++ jm ++ [41] by simp, ← atom_cat]
        try rfl
end Go.Proofs.YtfjchjhakjghcaaDoor
