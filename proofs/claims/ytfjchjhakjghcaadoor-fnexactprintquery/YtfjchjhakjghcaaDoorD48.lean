import Derived.Test.YtfjchjhakjghcaaDoorD47
/-
  impl.PrintQuery.
-/
namespace Go.Proofs.YtfjchjhakjghcaaDoor
open Go.RowKit

/-- the words of the rings lie in their variable -/
def RgW (W : World) : Prop := ∀ k : Nat, 1 ≤ k → k ≤ 3 → W.cell? ⟨0, k, none⟩ = some (.string (ringB (k : Int)))
theorem RgW.below {W W' : World} (h : RgW W) (hb : Below W.heap.size W W') : RgW W' := fun k h1 h3 => bcl' hb (h k h1 h3)

theorem query_cat (nb s ja : List UInt8) : ((((((⟨nb.toArray⟩ : ByteArray) ++ ⟨#[40]⟩) ++ ⟨s.toArray⟩) ++ ⟨#[41, 32, 58, 45, 32]⟩) ++ ⟨ja.toArray⟩) ++ ⟨#[46]⟩) = ⟨(nb ++ [40] ++ s ++ [41, 32, 58, 45, 32] ++ ja ++ [46]).toArray⟩ := by
  rw [show (⟨#[40]⟩ : ByteArray) = ⟨[40].toArray⟩ from rfl, show (⟨#[41, 32, 58, 45, 32]⟩ : ByteArray) = ⟨[41, 32, 58, 45, 32].toArray⟩ from rfl, show (⟨#[46]⟩ : ByteArray) = ⟨[46].toArray⟩ from rfl, cat_bytes, cat_bytes, cat_bytes, cat_bytes, cat_bytes]

set_option maxHeartbeats 8000000 in
set_option maxRecDepth 1000000 in
theorem iPrintQuery_cap (w : World) (gh ch : Nat) (va : Value) (q : QV) (hch : q.head.length ≤ ch) (h : IQ w (.slice (some ⟨gh, 0, none⟩) q.head.length ch) va q) (hgh : gh < w.heap.size) (hq : OkQ q) (htab : Lib.TabIs Tryd.prog w "internal/strconv.uint64pow10" .u64 Lib.pow10Tab) (hrg : RgW w) :
    Calls Tryd.prog 14 #[.agg #[.string q.name, .slice (some ⟨gh, 0, none⟩) q.head.length ch, .int .i64 q.ring, va]] w fun e w' => e = .returned (.string ⟨(prqT q).toArray⟩) ∧ Below w.heap.size w w' := by
  obtain ⟨iT, hi, hz0, hz1, hz2⟩ := info_parts Tryd.infoSt
  obtain ⟨vh, hvh⟩ : ∃ vh, vh = Value.slice (some ⟨gh, 0, none⟩) q.head.length ch := ⟨_, rfl⟩
  rw [← hvh] at h ⊢
  obtain ⟨W1, hW1⟩ : ∃ W1, W1 = w.alloc (.cells #[.string q.name, vh, .int .i64 q.ring, va] 41) := ⟨_, rfl⟩
  have c0 : W1.cell? ⟨w.heap.size, 0, none⟩ = some (.string q.name) := by rw [hW1, World.cell?_alloc_at _ _ _ _ rfl]; rfl
  have c1 : W1.cell? ⟨w.heap.size, 1, none⟩ = some vh := by rw [hW1, World.cell?_alloc_at _ _ _ _ rfl]; rfl
  have c2 : W1.cell? ⟨w.heap.size, 2, none⟩ = some (.int .i64 q.ring) := by rw [hW1, World.cell?_alloc_at _ _ _ _ rfl]; rfl
  have c3 : W1.cell? ⟨w.heap.size, 3, none⟩ = some va := by rw [hW1, World.cell?_alloc_at _ _ _ _ rfl]; rfl
  have hs1 : w.heap.size < W1.heap.size := by rw [hW1]; simp
  have HB1 : Hid (Below w.heap.size w W1) := hid (by rw [hW1]; exact (Below.refl _ _).alloc (Nat.le_refl _) _)
  have KS := hid (hasGoodShape_calls W1 vh va q (h.below HB1.out) hq)
  have HI := hid h
  unfold prqT
  cases hsh : shapeB q
  · rw [hsh] at KS
    rw [if_neg (by simp)]
    obtain ⟨a2, k2, e2, -⟩ := h.atoms
    subst e2 hvh
    clear h hq HI
    generalize q.name = nm at *
    generalize q.ring = rg at *
    generalize q.head.length = n1 at *
    generalize q.atoms.length = n2 at *
    go_enter Tryd.func14, Tryd.ntmps14
    go_upto_region 1 with fail
    rw [← hW1]
    clear hW1
    go_wp2_with fail
    refine KS.out.mono ?_
    rintro e w2 ⟨rfl, hb2⟩
    go_wp2_with fail
    go_ret
    exact ⟨rfl, bt HB1.out hb2⟩
  · rw [hsh] at KS
    rw [if_pos rfl]
    have G := gq_of hsh hq
    have HJl : Hid ((jn (q.head.map bts)).length ≤ 100000000) := hid (by
      have := jn_len 30 (q.head.map bts) fun x hx => by
        obtain ⟨t, ht, rfl⟩ := List.mem_map.1 hx
        rw [bts_len]; exact G.hd t ht
      rw [List.length_map] at this
      have := G.hl
      omega)
    have KJ : Hid (∀ W, Below w.heap.size w W → Calls Tryd.prog 37 #[vh, .string ⟨#[44, 32]⟩] W fun e w' => e = .returned (.string ⟨(jn (q.head.map bts)).toArray⟩) ∧ Below W.heap.size W w') := hid fun W hW => by
      rw [hvh]
      obtain ⟨a, cp, ee, hc⟩ := HI.out.head
      rw [hvh] at ee
      simp only [Value.slice.injEq] at ee
      obtain ⟨rfl, -, -⟩ := ee
      exact Tryd.c_Join gh 0 ch q.head ⟨#[44, 32]⟩ W (fun j x hj => by
        have hjl : j < q.head.length := (List.getElem?_eq_some_iff.1 hj).1
        rcases hc with h0 | ⟨b, o, eb, hh⟩
        · omega
        · simp only [Option.some.injEq, Addr.mk.injEq] at eb
          obtain ⟨rfl, rfl, -⟩ := eb
          have := bcl' hW (hh j hjl)
          rw [this, List.getD_eq_getElem?_getD, hj]
          rfl) (Nat.lt_of_lt_of_le hgh hW.size) (by have := G.hl; omega) hch (Nat.le_trans HJl.out (by omega))
    obtain ⟨a2, k2, e2, hca⟩ := h.atoms
    subst e2
    have hnm := G.nm
    have hr0 := G.r0
    have hr3 := G.r3
    have hal := G.al
    have HAt := hid G.at'
    clear h hq hsh G
    subst hvh
    unfold headT
    obtain ⟨nm, hd, rg, ats⟩ := q
    obtain ⟨nb, rfl⟩ : ∃ nb : List UInt8, nm = ⟨nb.toArray⟩ := ⟨bts nm, (bts_mk nm).symm⟩
    obtain ⟨k, rfl⟩ : ∃ k : Nat, rg = k := ⟨rg.toNat, by dsimp only at hr0; omega⟩
    dsimp only at *
    rw [bts_of]
    have hnb : nb.length ≤ 30 := by have h' : nb.toArray.size ≤ 30 := hnm; simpa using h'
    have hjl := HJl.out
    generalize jn (hd.map bts) = jt at *
    have hk3 : k ≤ 3 := by omega
    clear hnm hr0 hr3 HI HJl
    have HC : Hid (∀ W, Below w.heap.size w W → ∀ j, j < ats.length → ∃ b o u, a2 = some ⟨b, o, none⟩ ∧ W.cell? ⟨b, o + j * 2, none⟩ = some (.string (ats.getD j noAt).1) ∧ W.cell? ⟨b, o + j * 2 + 1, none⟩ = some u ∧ ITm w u (ats.getD j noAt).2) := hid fun W hW j hj => by
      rcases hca with h0 | ⟨b, o, rfl, hh⟩
      · omega
      · obtain ⟨u, d0, d1, hi⟩ := hh j hj
        exact ⟨b, o, u, rfl, bcl' hW d0, bcl' hW d1, hi⟩
    clear hca
    have hAL : ∀ x ∈ ats, (atomT x).length ≤ 33554464 := get_all noAt fun j hj => atomT_len (HAt.out j hj).1 (HAt.out j hj).2
    have hJa : (jn (ats.map atomT)).length ≤ 100000000000000 := by
      have := jn_len 33554464 (ats.map atomT) fun x hx => by
        obtain ⟨t, ht, rfl⟩ := List.mem_map.1 hx
        exact hAL t ht
      rw [List.length_map] at this
      have h3 := Nat.mul_le_mul_right (33554464 + 2) hal
      omega
    have KJa : Hid (∀ (W : World) B v, W.ownsRow B 9 1 v ats.length ((ML atomT ats ats.length).map Value.string) → (∃ g c, v = .slice (some ⟨g, 0, none⟩) ats.length c) → Calls Tryd.prog 37 #[v, .string ⟨#[44, 32]⟩] W fun e w' => e = .returned (.string ⟨(jn (ats.map atomT)).toArray⟩) ∧ Below W.heap.size W w') := hid fun W B v hv hn => by
      have := own_joins (L := ML atomT ats ats.length) (by rw [ML_len _ (Nat.le_refl _)]; exact hv) (by rw [ML_len _ (Nat.le_refl _)]; exact hn) (by rw [ML_len _ (Nat.le_refl _)]; exact hal) (by rw [ML_bts]; omega)
      rwa [ML_bts] at this
    have KP : Hid (∀ W u j, Below w.heap.size w W → j < ats.length → ITm w u (ats.getD j noAt).2 → Calls Tryd.prog 38 #[.agg #[.string (ats.getD j noAt).1, u]] W fun e w' => e = .returned (.string ⟨(atomT (ats.getD j noAt)).toArray⟩) ∧ Below W.heap.size W w') := hid fun W u j hW hj hu => printedAtom_calls W u _ _ (hu.below hW) (HAt.out j hj).1 (HAt.out j hj).2 (tabQ_below htab hW)
    generalize jn (ats.map atomT) = ja at *
    obtain ⟨hT, hhT⟩ : ∃ hT, hT = jt ++ (if 0 < (k : Int) then [59, 32] ++ bts (ringB (k : Int)) else []) := ⟨_, rfl⟩
    have H0 : Hid (k = 0 → hT = jt) := hid fun h => by rw [hhT, if_neg (by omega), List.append_nil]
    have H1 : Hid (1 ≤ k → hT = jt ++ ([59, 32] ++ bts (ringB (k : Int)))) := hid fun h => by rw [hhT, if_pos (by omega)]
    have hTl : hT.length ≤ 100000100 := by
      by_cases hk : k = 0
      · rw [H0.out hk]; omega
      · rw [H1.out (by omega), List.length_append, List.length_append, bts_len]
        have := ring_size k hk3
        simp only [List.length_cons, List.length_nil]
        omega
    rw [← hhT]
    clear hhT hAL
    have HRg := hid hrg
    obtain ⟨n, hn⟩ : ∃ n, n = ats.length := ⟨_, rfl⟩
    have HN := hid hn
    rw [← hn] at c3 KS hW1 hal HAt HC KJa KP ⊢
    clear hn htab hrg
    generalize hd.length = nh at *
    go_enter Tryd.func14, Tryd.ntmps14
    go_upto_region 1 with fail
    rw [← hW1]
    clear hW1
    go_wp2_with fail
    refine KS.out.mono ?_
    rintro e w2 ⟨rfl, hb2⟩
    have KJ1 := hid (KJ.out w2 (bt HB1.out hb2))
    have d1 := bcl' hb2 c1
    clear KS KJ
    go_wp2_with fail
    refine KJ1.out.mono ?_
    rintro e w3 ⟨rfl, hb3⟩
    have HT := hid (bt hb2 hb3)
    have d2 := bcl' HT.out c2
    have HRg3 := hid (HRg.out.below (bt HB1.out HT.out))
    clear KJ1 d1 hb2 hb3 HRg c1
    go_upto_if 15 with fail
    go_cut [3] from 7 (fun v wx => ∃ s : List UInt8, v = .string ⟨s.toArray⟩ ∧ Hid (s = hT ∧ wx = w3))
    case first =>
      by_cases hk : k = 0
      · subst hk
        have HE := hid (H0.out rfl)
        go_wp2_with fail
        go_meet
        exact ⟨jt, rfl, hid ⟨HE.out.symm, by trivial⟩⟩
      · have i1 : ((k : Int) != 0) = true := by simp; omega
        have i2 : (k : Int) < 4 := by omega
        have i3 : ¬ ((k : Int) < 0) := by omega
        have HE := hid (H1.out (by omega))
        have hkb := ring_size k hk3
        have e3 : w3.cell? ⟨0, k, none⟩ = some (.string ⟨(bts (ringB (k : Int))).toArray⟩) := by rw [bts_mk]; exact HRg3.out k (by omega) hk3
        rw [← bts_len] at hkb
        generalize bts (ringB (k : Int)) = kb at *
        have hcc1 : ¬ (9223372036854775807 < 2 + kb.length) := by omega
        have hcc2 : ¬ (9223372036854775807 < jt.length + (2 + kb.length)) := by omega
        go_wp2_with fail
        go_meet
        refine ⟨jt ++ ([59, 32] ++ kb), ?_, hid ⟨HE.out.symm, by trivial⟩⟩
        rw [← cat_bytes, ← cat_bytes]
    case rest =>
      obtain ⟨s2, rfl, HT'⟩ := hcut
      obtain ⟨hs2, hw3⟩ := HT'.out
      subst wc
      have hl2 : s2.length ≤ 100000100 := by rw [hs2]; exact hTl
      have HS2 := hid hs2
      clear H0 H1 d2 HT' c2 hTl hjl HRg3 hs2
      have d3 := bcl' HT.out c3
      have d0 := bcl' HT.out c0
      obtain ⟨Wm, hmk', hownm, hgrm⟩ := run_makeSlice_owned (P := Tryd.prog) w3 W1.heap.size 33 9 iT (.string ⟨#[]⟩) 1 Tryd.underlying33 hi hz0 hz1 .i64 .i64 n (by omega) (by rw [hz2]; omega) (by unfold maxLen; omega) HT.out.size
      have hmk : Sem.run Tryd.prog (Instr.makeSlice 33 (.int .i64 0) (.int .i64 (n : Int))) w3 = .ok (.slice (some ⟨w3.heap.size, 0, none⟩) 0 n) Wm := hmk'
      have hbm : Below w3.heap.size w3 Wm := (Below.refl _ _).grown hgrm (Nat.le_refl _) (fun j hj => by simp at hj)
      have d3m := bcl' hbm d3
      have HM0 : Hid (Below W1.heap.size W1 Wm ∧ Wm.ownsRow W1.heap.size 9 1 (.slice (some ⟨w3.heap.size, 0, none⟩) 0 n) 0 ((ML atomT ats 0).map Value.string)) := hid ⟨bt HT.out hbm, hownm⟩
      clear hmk' hownm hgrm hbm HT
      go_wp2_with fail
      clear hmk d3 d3m d0
      go_loopw [4, 30] (fun v t wr => ∃ (i : Nat) (g c : Nat), i ≤ n ∧ t = .int .i64 i ∧ v = .slice (some ⟨g, 0, none⟩) i c ∧ Hid (Below W1.heap.size W1 wr ∧ wr.ownsRow W1.heap.size 9 1 (.slice (some ⟨g, 0, none⟩) i c) i ((ML atomT ats i).map Value.string))) (fun _ t _ => n - (intOf t).toNat)
      case atStart => exact ⟨0, _, _, Nat.zero_le _, rfl, rfl, HM0⟩
      case round =>
        clear HM0
        obtain ⟨i, g, c, hin, rfl, rfl, HH⟩ := hrel
        by_cases hlt : i < n
        · have i1 : (i : Int) < (n : Int) := by omega
          have HBw := hid (bt HB1.out HH.out.1)
          obtain ⟨b, o, u, ea, e0, e1, hit⟩ := HC.out wr HBw.out i hlt
          subst ea
          have HMs := hid (ML_succ atomT noAt (l := ats) (p := i) (by rw [← HN.out]; exact hlt))
          have KP1 : Hid (∀ W, Below w.heap.size w W → Calls Tryd.prog 38 #[.agg #[.string (ats.getD i noAt).1, u]] W fun e w' => e = .returned (.string ⟨(atomT (ats.getD i noAt)).toArray⟩) ∧ Below W.heap.size W w') := hid fun W hW => KP.out W u i hW hlt hit
          generalize atomT (ats.getD i noAt) = aT at *
          obtain ⟨ua, uc, rfl, -⟩ := hit
          generalize (ats.getD i noAt).1 = rel at *
          generalize (ats.getD i noAt).2.length = m at *
          generalize wr = Wr at *
          go_upto_region 10 with fail
          obtain ⟨Wx, hWx⟩ : ∃ Wx, Wx = Wr.alloc (.cells #[.string rel, .slice ua m uc] 72) := ⟨_, rfl⟩
          have f0 : Wx.cell? ⟨Wr.heap.size, 0, none⟩ = some (.string rel) := by rw [hWx, World.cell?_alloc_at _ _ _ _ rfl]; rfl
          have f1 : Wx.cell? ⟨Wr.heap.size, 1, none⟩ = some (.slice ua m uc) := by rw [hWx, World.cell?_alloc_at _ _ _ _ rfl]; rfl
          have HX : Hid (Below W1.heap.size W1 Wx ∧ Wx.ownsRow W1.heap.size 9 1 (.slice (some ⟨g, 0, none⟩) i c) i ((ML atomT ats i).map Value.string)) := hid ⟨by rw [hWx]; exact HH.out.1.alloc HH.out.1.size _, by rw [hWx]; exact HH.out.2.alloc _⟩
          rw [← hWx]
          clear hWx HH e0 e1 HBw
          have KP2 := hid (KP1.out Wx (bt HB1.out HX.out.1))
          generalize Wr.heap.size = bp at *
          go_wp2_with fail
          refine KP2.out.mono ?_
          rintro e w6 ⟨rfl, hb6⟩
          have HG6 : Hid (Below W1.heap.size W1 w6 ∧ w6.ownsRow W1.heap.size 9 1 (.slice (some ⟨g, 0, none⟩) i c) i ((ML atomT ats i).map Value.string)) := hid ⟨bt HX.out.1 hb6, own_belowQ HX.out.2 hb6⟩
          have hs6 := HG6.out.1.size
          clear hb6 KP2 KP1 HX f0 f1
          go_wp2_with (first | (at_builtin; refine wpList_append_lies _ rfl _ _ 33 rfl W1.heap.size 9 iT (.string ⟨#[]⟩) 1 16 Tryd.underlying33 hi hz0 hz1 hz2 rfl (by decide) _ _ _ rfl (HG6.out.2.alloc _) ⟨_, 0, none⟩ 1 1 [.string ⟨aT.toArray⟩] rfl rfl (new1_cellQ _ _ _) (fun u hu => by simp at hu; subst hu; rfl) (by decide) (by unfold maxLen; omega) (by omega) (by simp; omega) _ rfl ?_; intro g8 cp8 w8 hown8 hgrow8 hat8 hlt8) | fail)
          have HN2 : Hid (Below W1.heap.size W1 w8 ∧ w8.ownsRow W1.heap.size 9 1 (.slice (some ⟨g8, 0, none⟩) (i + 1) cp8) (i + 1) ((ML atomT ats (i + 1)).map Value.string)) := hid ⟨(HG6.out.1.alloc hs6 _).grown hgrow8 (by simp; omega) (fun j hj => (HG6.out.2.lt j hj).1), by rw [HMs.out, List.map_append]; exact hown8⟩
          clear hown8 hgrow8 hat8 hlt8
          go_wp2_with fail
          go_roundw
          case rel => exact ⟨i + 1, _, _, by omega, by go_num, rfl, HN2⟩
          case measure => simp [intOf]; omega
        · obtain rfl : i = n := by omega
          have i1 : ¬ ((i : Int) < (i : Int)) := by omega
          have KJ2 : Hid (∀ W, Below wr.heap.size wr W → Calls Tryd.prog 37 #[.slice (some ⟨g, 0, none⟩) i c, .string ⟨#[44, 32]⟩] W fun e w' => e = .returned (.string ⟨ja.toArray⟩) ∧ Below W.heap.size W w') := hid fun W hW => KJa.out W _ _ (own_belowQ HH.out.2 hW) ⟨_, _, rfl⟩
          have f0a := bcl' HH.out.1 c0
          have HB := hid (bt HB1.out HH.out.1)
          have hcc1 : ¬ (9223372036854775807 < nb.length + 1) := by omega
          have hcc2 : ¬ (9223372036854775807 < nb.length + 1 + s2.length) := by omega
          have hcc3 : ¬ (9223372036854775807 < nb.length + 1 + s2.length + 5) := by omega
          have hcc4 : ¬ (9223372036854775807 < nb.length + 1 + s2.length + 5 + ja.length) := by omega
          have hcc5 : ¬ (9223372036854775807 < nb.length + 1 + s2.length + 5 + ja.length + 1) := by omega
          clear HH KJa
          generalize wr = Wt at *
          go_upto_region 12 with fail
          go_region_law (first
            | (go_simp; go_at_call 37; (with_reducible refine (KJ2.out _ (Below.refl _ _).drew).mono ?_); rintro e w6 ⟨rfl, hb6'⟩; have hb6 : Below Wt.heap.size Wt w6 := ⟨hb6'.os, hb6'.tape, hb6'.output, hb6'.size, hb6'.block⟩; have f0b := bcl' hb6 f0a; have HB6 := hid (bt HB.out hb6); clear hb6 hb6')
            | fail)
          all_goals
            go_wp2_with fail
            go_ret
            refine ⟨?_, HB6.out⟩
            rw [← HS2.out]
            exact congrArg (fun x => Ending.returned (Value.string x)) ((query_cat nb s2 ja).trans (by simp))
theorem iPrintQuery_calls (w : World) (gh : Nat) (va : Value) (q : QV) (h : IQ w (.slice (some ⟨gh, 0, none⟩) q.head.length q.head.length) va q) (hgh : gh < w.heap.size) (hq : OkQ q) (htab : Lib.TabIs Tryd.prog w "internal/strconv.uint64pow10" .u64 Lib.pow10Tab) (hrg : RgW w) :
    Calls Tryd.prog 14 #[.agg #[.string q.name, .slice (some ⟨gh, 0, none⟩) q.head.length q.head.length, .int .i64 q.ring, va]] w fun e w' => e = .returned (.string ⟨(prqT q).toArray⟩) ∧ Below w.heap.size w w' :=
  iPrintQuery_cap w gh q.head.length va q (Nat.le_refl _) h hgh hq htab hrg

end Go.Proofs.YtfjchjhakjghcaaDoor
