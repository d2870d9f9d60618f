import Derived.Test.YtfjchjhakjghcaaDoorD46
/-
  spec.PrintQuery.
-/
namespace Go.Proofs.YtfjchjhakjghcaaDoor
open Go.RowKit

set_option maxHeartbeats 8000000 in
set_option maxRecDepth 1000000 in
theorem sPrintQuery_calls (w : World) (vh va : Value) (q : QV) (h : IQ w vh va q) (hq : OkQ q) :
    Calls Tryd.prog 12 #[.agg #[.string q.name, vh, .int .i64 q.ring, va]] w fun e w' => e = .returned (.string ⟨(prqT q).toArray⟩) ∧ Below w.heap.size w w' := by
  obtain ⟨iT, hi, hz0, hz1, hz2⟩ := info_parts Tryd.infoSt
  obtain ⟨W1, hW1⟩ : ∃ W1, W1 = w.alloc (.cells #[.string q.name, vh, .int .i64 q.ring, va] 41) := ⟨_, rfl⟩
  have c0 : W1.cell? ⟨w.heap.size, 0, none⟩ = some (.string q.name) := by rw [hW1, World.cell?_alloc_at _ _ _ _ rfl]; rfl
  have c1 : W1.cell? ⟨w.heap.size, 1, none⟩ = some vh := by rw [hW1, World.cell?_alloc_at _ _ _ _ rfl]; rfl
  have c2 : W1.cell? ⟨w.heap.size, 2, none⟩ = some (.int .i64 q.ring) := by rw [hW1, World.cell?_alloc_at _ _ _ _ rfl]; rfl
  have c3 : W1.cell? ⟨w.heap.size, 3, none⟩ = some va := by rw [hW1, World.cell?_alloc_at _ _ _ _ rfl]; rfl
  have hs1 : w.heap.size < W1.heap.size := by rw [hW1]; simp
  have HB1 : Hid (Below w.heap.size w W1) := hid (by rw [hW1]; exact (Below.refl _ _).alloc (Nat.le_refl _) _)
  have KS := hid (l3ShapeOK_calls W1 vh va q (h.below HB1.out) hq)
  have HI := hid h
  unfold prqT
  cases hsh : shapeB q
  · rw [hsh] at KS
    rw [if_neg (by simp)]
    obtain ⟨a1, k1, e1, -⟩ := h.head
    obtain ⟨a2, k2, e2, -⟩ := h.atoms
    subst e1 e2
    clear h hq HI
    generalize q.name = nm at *
    generalize q.ring = rg at *
    generalize q.head.length = n1 at *
    generalize q.atoms.length = n2 at *
    go_enter Tryd.func12, Tryd.ntmps12
    go_upto_region 1 with fail
    rw [← hW1]
    clear hW1
    go_wp2_with fail
    refine KS.out.mono ?_
    rintro e w2 ⟨rfl, hb2⟩
    go_wp2_with fail
    go_ret
    exact ⟨rfl, bt HB1.out hb2⟩
  · rw [hsh] at KS
    rw [if_pos rfl]
    have G := gq_of hsh hq
    have KJ : Hid (∀ W, Below W1.heap.size W1 W → Calls Tryd.prog 32 #[vh] W fun e w' => e = .returned (.string ⟨(jn (q.head.map bts)).toArray⟩) ∧ w' = W) := hid fun W hW => l3Join_calls W vh q.head ((HI.out.head.below HB1.out).below hW) G.hl fun x hx => by have := G.hd x hx; omega
    have HJl : Hid ((jn (q.head.map bts)).length ≤ 100000000) := hid (by
      have := jn_len 30 (q.head.map bts) fun x hx => by
        obtain ⟨t, ht, rfl⟩ := List.mem_map.1 hx
        rw [bts_len]; exact G.hd t ht
      rw [List.length_map] at this
      have := G.hl
      omega)
    obtain ⟨a1, k1, e1, -⟩ := h.head
    obtain ⟨a2, k2, e2, hca⟩ := h.atoms
    subst e1 e2
    have hnm := G.nm
    have hr0 := G.r0
    have hr3 := G.r3
    have hal := G.al
    have HAt := hid G.at'
    clear h hq hsh G
    unfold headT
    obtain ⟨nm, hd, rg, ats⟩ := q
    obtain ⟨nb, rfl⟩ : ∃ nb : List UInt8, nm = ⟨nb.toArray⟩ := ⟨bts nm, (bts_mk nm).symm⟩
    obtain ⟨k, rfl⟩ : ∃ k : Nat, rg = k := ⟨rg.toNat, by dsimp only at hr0; omega⟩
    dsimp only at *
    rw [bts_of]
    have hnb : nb.length ≤ 30 := by have h' : nb.toArray.size ≤ 30 := hnm; simpa using h'
    have hjl := HJl.out
    generalize jn (hd.map bts) = jt at *
    have hk3 : k ≤ 3 := by omega
    clear hnm hr0 hr3 HI HJl
    have HC : Hid (∀ W, Below W1.heap.size W1 W → ∀ j, j < ats.length → ∃ b o u, a2 = some ⟨b, o, none⟩ ∧ W.cell? ⟨b, o + j * 2, none⟩ = some (.string (ats.getD j noAt).1) ∧ W.cell? ⟨b, o + j * 2 + 1, none⟩ = some u ∧ ITm w u (ats.getD j noAt).2) := hid fun W hW j hj => by
      rcases hca with h0 | ⟨b, o, rfl, hh⟩
      · omega
      · obtain ⟨u, d0, d1, hi⟩ := hh j hj
        have hb := bt HB1.out hW
        exact ⟨b, o, u, rfl, bcl' hb d0, bcl' hb d1, hi⟩
    clear hca
    have hAL : ∀ x ∈ ats, (atomT x).length ≤ 33554464 := get_all noAt fun j hj => atomT_len (HAt.out j hj).1 (HAt.out j hj).2
    have KJa : Hid (∀ W v, ISt W v (ML atomT ats ats.length) → Calls Tryd.prog 32 #[v] W fun e w' => e = .returned (.string ⟨(jn (ats.map atomT)).toArray⟩) ∧ w' = W) := hid fun W v hv => by
      have := l3Join_calls W v _ hv (by rw [ML_len _ (Nat.le_refl _)]; exact hal) (ML_size atomT 33554464 hAL)
      rwa [ML_bts] at this
    have hJa : (jn (ats.map atomT)).length ≤ 100000000000000 := by
      have := jn_len 33554464 (ats.map atomT) fun x hx => by
        obtain ⟨t, ht, rfl⟩ := List.mem_map.1 hx
        exact hAL t ht
      rw [List.length_map] at this
      have h3 := Nat.mul_le_mul_right (33554464 + 2) hal
      omega
    generalize jn (ats.map atomT) = ja at *
    clear hAL
    obtain ⟨hT, hhT⟩ : ∃ hT, hT = jt ++ (if 0 < (k : Int) then [59, 32] ++ bts (ringB (k : Int)) else []) := ⟨_, rfl⟩
    have H0 : Hid (k = 0 → hT = jt) := hid fun h => by rw [hhT, if_neg (by omega), List.append_nil]
    have H1 : Hid (1 ≤ k → hT = jt ++ [59, 32] ++ bts (ringB (k : Int))) := hid fun h => by rw [hhT, if_pos (by omega), ← List.append_assoc]
    have hTl : hT.length ≤ 100000100 := by
      by_cases hk : k = 0
      · rw [H0.out hk]; omega
      · rw [H1.out (by omega), List.length_append, List.length_append, bts_len]
        have := ring_size k hk3
        simp only [List.length_cons, List.length_nil]
        omega
    rw [← hhT]
    clear hhT
    obtain ⟨n, hn⟩ : ∃ n, n = ats.length := ⟨_, rfl⟩
    have HN := hid hn
    rw [← hn] at c3 KS hW1 hal HAt HC KJa ⊢
    clear hn
    generalize hd.length = nh at *
    go_enter Tryd.func12, Tryd.ntmps12
    go_upto_region 1 with fail
    rw [← hW1]
    clear hW1
    go_wp2_with fail
    refine KS.out.mono ?_
    rintro e w2 ⟨rfl, hb2⟩
    have HB2 := hid hb2
    have d0 := bcl' hb2 c0
    have d1 := bcl' hb2 c1
    clear KS hb2 c0 c1
    go_upto_region 3 with fail
    have hcc1 : ¬ (9223372036854775807 < nb.length + 1) := by omega
    have hcc2 : ¬ (9223372036854775807 < nb.length + 1 + jt.length) := by omega
    go_cut [3] from 10 (fun v wx => ∃ s : List UInt8, v = .string ⟨s.toArray⟩ ∧ Hid (s = nb ++ [40] ++ jt ∧ Below W1.heap.size W1 wx))
    case first =>
      go_region_law (first | (go_simp; go_at_call 32; (with_reducible refine (KJ.out _ (bt HB2.out (Below.refl _ _).drew)).mono ?_); rintro e w3 ⟨rfl, hw3⟩; subst w3) | fail)
      all_goals
        go_wp2_with fail
        go_meet
        refine ⟨nb ++ [40] ++ jt, ?_, hid ⟨rfl, bt HB2.out (Below.refl _ _).drew⟩⟩
        rw [← cat_bytes, ← cat_bytes]
    case rest =>
      obtain ⟨s, rfl, HT'⟩ := hcut
      have hsl : s.length ≤ 100000040 := by
        rw [HT'.out.1, List.length_append, List.length_append]
        simp only [List.length_cons, List.length_nil]
        omega
      have HT := hid HT'.out.2
      have HS := hid HT'.out.1
      clear HB2 d0 d1 KJ hcc1 hcc2 HT'
      have d2 := bcl' HT.out c2
      go_upto_if 22 with fail
      go_cut [3] from 10 (fun v wx => ∃ s : List UInt8, v = .string ⟨s.toArray⟩ ∧ Hid (s = nb ++ [40] ++ hT ∧ Below W1.heap.size W1 wx))
      case first =>
        by_cases hk : k = 0
        · subst hk
          have HE := hid (H0.out rfl)
          go_wp2_with fail
          go_meet
          exact ⟨s, rfl, hid ⟨by rw [HE.out]; exact HS.out, HT.out⟩⟩
        · have i1 : (0 : Int) < (k : Int) := by omega
          have i2 : (k : Int) < 4 := by omega
          have HE := hid (H1.out (by omega))
          have hkb := ring_size k hk3
          have HK : Hid (∀ W, Calls Tryd.prog 33 #[] W fun e w' => ∃ g : Nat, e = .returned (.slice (some ⟨g, 0, none⟩) 4 4) ∧ Below W.heap.size W w' ∧ w'.cell? ⟨g, k, none⟩ = some (.string ⟨(bts (ringB (k : Int))).toArray⟩)) := hid fun W => (l3Rings_calls W).mono fun e w' ⟨g, h1, h2, h3⟩ => ⟨g, h1, h2, by rw [bts_mk]; exact h3 k (by omega) hk3⟩
          rw [← bts_len] at hkb
          generalize bts (ringB (k : Int)) = kb at *
          have hcc1 : ¬ (9223372036854775807 < 2 + kb.length) := by omega
          have hcc2 : ¬ (9223372036854775807 < s.length + (2 + kb.length)) := by omega
          go_upto_region 5 with fail
          go_region_law (first | (go_simp; go_at_call 33; (with_reducible refine (HK.out _).mono ?_); rintro e w3 ⟨g, rfl, hb3', e3⟩; have hb3 : Below wc.heap.size wc w3 := ⟨hb3'.os, hb3'.tape, hb3'.output, hb3'.size, hb3'.block⟩; have d2b := bcl' hb3 d2; have HB3 := hid (bt HT.out hb3); clear hb3 hb3') | fail)
          all_goals
            go_wp2_with fail
            go_meet
            refine ⟨s ++ ([59, 32] ++ kb), ?_, hid ⟨?_, HB3.out⟩⟩
            · rw [← cat_bytes, ← cat_bytes]
            · rw [HE.out, HS.out]; simp
      case rest =>
        obtain ⟨s2, rfl, HT'⟩ := hcut
        have hs2 : s2.length ≤ 100000140 := by
          rw [HT'.out.1, List.length_append, List.length_append]
          simp only [List.length_cons, List.length_nil]
          omega
        have HT := hid HT'.out.2
        have HS2 := hid HT'.out.1
        clear H0 H1 d2 HT' hsl c2 hTl hjl HS
        have d3 := bcl' HT.out c3
        have d3a : ∀ o', (wc.alloc o').cell? ⟨w.heap.size, 3, none⟩ = some (.slice a2 n k2) := fun o' => bcl' ((Below.refl _ _).alloc (Nat.le_refl _) o') d3
        clear c3 d3
        generalize wc = W2 at *
        go_wp2_with fail
        clear d3a
        go_loopw [4, 35] (fun v t wr => ∃ (i : Nat) (vs : Value), i ≤ n ∧ t = .int .i64 i ∧ vs = v ∧ Hid (Below W1.heap.size W1 wr ∧ wr.ownsRow W1.heap.size 9 1 vs i ((ML atomT ats i).map Value.string))) (fun _ t _ => n - (intOf t).toNat)
        case atStart => exact ⟨0, _, Nat.zero_le _, rfl, rfl, hid ⟨HT.out.alloc HT.out.size _, World.ownsRow_made W2 #[] 0 HT.out.size (by decide) rfl⟩⟩
        case round =>
          clear HT
          obtain ⟨i, vs, hin, rfl, rfl, HH⟩ := hrel
          by_cases hlt : i < n
          · have i1 : (i : Int) < (n : Int) := by omega
            obtain ⟨b, o, u, ea, e0, e1, hit⟩ := HC.out wr HH.out.1 i hlt
            subst ea
            obtain ⟨hab, hm⟩ := HAt.out i hlt
            have HMs := hid (ML_succ atomT noAt (l := ats) (p := i) (by rw [← HN.out]; exact hlt))
            have htl := terms_len hab hm
            generalize ats.getD i noAt = at' at *
            obtain ⟨rel, ts⟩ := at'
            dsimp only at *
            obtain ⟨rb, rfl⟩ : ∃ rb : List UInt8, rel = ⟨rb.toArray⟩ := ⟨bts rel, (bts_mk rel).symm⟩
            unfold atomB at hab
            simp only [Bool.and_eq_true, decide_eq_true_eq] at hab
            have hrb : rb.length ≤ 30 := by have h' : rb.toArray.size ≤ 30 := name_len hab.1.1; simpa using h'
            have HTb : Hid (∀ p, p < ts.length → termB (ts.getD p noTm) = true) := hid fun p hp => List.all_eq_true.1 hab.2 _ (by rw [List.getD_eq_getElem?_getD, List.getElem?_eq_getElem hp]; exact List.getElem_mem _)
            rw [show atomT ((⟨rb.toArray⟩ : ByteArray), ts) = rb ++ [40] ++ jn (ts.map termT) ++ [41] by unfold atomT; rw [bts_of]] at HMs
            have KJt : Hid (∀ W v, ISt W v (ML termT ts ts.length) → Calls Tryd.prog 32 #[v] W fun e w' => e = .returned (.string ⟨(jn (ts.map termT)).toArray⟩) ∧ w' = W) := hid fun W v hv => by
              have := l3Join_calls W v _ hv (by rw [ML_len _ (Nat.le_refl _)]; exact hm) (ML_size termT 33554464 (get_all noTm fun p hp => by have := termT_len (HTb.out p hp); omega))
              rwa [ML_bts] at this
            generalize jn (ts.map termT) = jm at *
            clear hab
            obtain ⟨ua, uc, rfl, hterm⟩ := hit
            have HCt : Hid (∀ W, Below w.heap.size w W → ∀ p, p < ts.length → ∃ b o, ua = some ⟨b, o, none⟩ ∧ W.cell? ⟨b, o + p * 2, none⟩ = some (.string (ts.getD p noTm).1) ∧ W.cell? ⟨b, o + p * 2 + 1, none⟩ = some (.int .i64 (ts.getD p noTm).2)) := hid fun W hW p hp => by
              rcases hterm with h0 | ⟨b, o, rfl, hh⟩
              · omega
              · exact ⟨b, o, rfl, bcl' hW (hh p hp).1, bcl' hW (hh p hp).2⟩
            clear hterm
            obtain ⟨m, hm'⟩ : ∃ m, m = ts.length := ⟨_, rfl⟩
            have HM := hid hm'
            rw [← hm'] at e1 hm HTb KJt HCt
            clear hm'
            generalize wr = Wr at *
            go_upto_region 10 with fail
            obtain ⟨Wx, hWx⟩ : ∃ Wx, Wx = Wr.alloc (.cells #[.string ⟨rb.toArray⟩, .slice ua m uc] 72) := ⟨_, rfl⟩
            have f0 : Wx.cell? ⟨Wr.heap.size, 0, none⟩ = some (.string ⟨rb.toArray⟩) := by rw [hWx, World.cell?_alloc_at _ _ _ _ rfl]; rfl
            have f1 : Wx.cell? ⟨Wr.heap.size, 1, none⟩ = some (.slice ua m uc) := by rw [hWx, World.cell?_alloc_at _ _ _ _ rfl]; rfl
            have HX : Hid (Below W1.heap.size W1 Wx ∧ Wx.ownsRow W1.heap.size 9 1 vs i ((ML atomT ats i).map Value.string)) := hid ⟨by rw [hWx]; exact HH.out.1.alloc HH.out.1.size _, by rw [hWx]; exact HH.out.2.alloc _⟩
            rw [← hWx]
            clear hWx HH e0 e1
            generalize Wr.heap.size = bp at *
            have f1a : ∀ o', (Wx.alloc o').cell? ⟨bp, 1, none⟩ = some (.slice ua m uc) := fun o' => bcl' ((Below.refl _ _).alloc (Nat.le_refl _) o') f1
            go_wp2_with fail
            clear f1a f1
            go_loopw [7, 43] (fun v t wr => ∃ (p : Nat) (vt : Value), p ≤ m ∧ t = .int .i64 p ∧ vt = v ∧ Hid (Below Wx.heap.size Wx wr ∧ wr.ownsRow Wx.heap.size 9 1 vt p ((ML termT ts p).map Value.string))) (fun _ t _ => m - (intOf t).toNat)
            case atStart => exact ⟨0, _, Nat.zero_le _, rfl, rfl, hid ⟨(Below.refl _ _).alloc (Nat.le_refl _) _, World.ownsRow_made Wx #[] 0 (Nat.le_refl _) (by decide) rfl⟩⟩
            case round =>
              obtain ⟨p, vt, hpm, rfl, rfl, HG⟩ := hrel
              by_cases hlp : p < m
              · have i2 : (p : Int) < (m : Int) := by omega
                obtain ⟨tb, to', ea, g0, g1⟩ := HCt.out wr (bt (bt HB1.out HX.out.1) HG.out.1) p hlp
                subst ea
                have htb := HTb.out p hlp
                have HS := hid (ML_succ termT noTm (l := ts) (p := p) (by rw [← HM.out]; exact hlp))
                generalize ts.getD p noTm = t at *
                obtain ⟨x, y⟩ := t
                unfold termB at htb
                rw [show termT ((x, y) : TermV) = if x.toList.isEmpty then Lib.itoa y else bts x from rfl] at HS
                dsimp only at *
                generalize wr = Wt at *
                go_upto_region 14 with fail
                obtain ⟨W5, hW5⟩ : ∃ W5, W5 = Wt.alloc (.cells #[.string x, .int .i64 y] 74) := ⟨_, rfl⟩
                have t0 : W5.cell? ⟨Wt.heap.size, 0, none⟩ = some (.string x) := by rw [hW5, World.cell?_alloc_at _ _ _ _ rfl]; rfl
                have t1 : W5.cell? ⟨Wt.heap.size, 1, none⟩ = some (.int .i64 y) := by rw [hW5, World.cell?_alloc_at _ _ _ _ rfl]; rfl
                have HG5 : Hid (Below Wx.heap.size Wx W5 ∧ W5.ownsRow Wx.heap.size 9 1 vt p ((ML termT ts p).map Value.string)) := hid ⟨by rw [hW5]; exact HG.out.1.alloc HG.out.1.size _, by rw [hW5]; exact HG.out.2.alloc _⟩
                rw [← hW5]
                clear hW5 HG g0 g1
                generalize Wt.heap.size = tp at *
                cases hem : x.toList.isEmpty
                · rw [hem, if_neg (by decide), bts_mk] at HS
                  have hs5 := HG5.out.1.size
                  clear htb
                  go_wp2_with (first | (at_builtin; refine wpList_append_lies _ rfl _ _ 33 rfl Wx.heap.size 9 iT (.string ⟨#[]⟩) 1 16 Tryd.underlying33 hi hz0 hz1 hz2 rfl (by decide) vt _ _ rfl (HG5.out.2.alloc _) ⟨_, 0, none⟩ 1 1 [.string x] rfl rfl (new1_cellQ _ _ _) (fun u hu => by simp at hu; subst hu; rfl) (by decide) (by unfold maxLen; omega) (by omega) (by simp; omega) _ rfl ?_; intro g8 cp8 w8 hown8 hgrow8 hat8 hlt8) | fail)
                  have HN2 : Hid (Below Wx.heap.size Wx w8 ∧ w8.ownsRow Wx.heap.size 9 1 (.slice (some ⟨g8, 0, none⟩) (p + 1) cp8) (p + 1) ((ML termT ts (p + 1)).map Value.string)) := hid ⟨(HG5.out.1.alloc hs5 _).grown hgrow8 (by simp; omega) (fun j hj => (HG5.out.2.lt j hj).1), by rw [HS.out, List.map_append]; exact hown8⟩
                  clear hown8 hgrow8 hat8 hlt8
                  go_wp2_with fail
                  go_roundw
                  case rel => exact ⟨p + 1, _, by omega, by go_num, rfl, HN2⟩
                  case measure => simp [intOf]; omega
                · rw [hem, if_pos rfl] at HS htb
                  simp only [Bool.and_eq_true, decide_eq_true_eq] at htb
                  have KD : Hid (Calls Tryd.prog 20 #[.int .i64 y] W5 fun e w' => e = .returned (.string ⟨(Lib.itoa y).toArray⟩) ∧ Below W5.heap.size W5 w') := hid ((l2DecI_calls y W5 (by omega) (by omega)).mono fun e w' ⟨h1, d, h2⟩ => ⟨h1, by rw [h2]; exact ⟨rfl, rfl, rfl, Nat.le_refl _, fun _ _ => rfl⟩⟩)
                  generalize Lib.itoa y = it at *
                  go_wp2_with fail
                  refine KD.out.mono ?_
                  rintro e w6 ⟨rfl, hb6⟩
                  have HG6 : Hid (Below Wx.heap.size Wx w6 ∧ w6.ownsRow Wx.heap.size 9 1 vt p ((ML termT ts p).map Value.string)) := hid ⟨bt HG5.out.1 hb6, own_belowQ HG5.out.2 hb6⟩
                  have hs6 := HG6.out.1.size
                  clear hb6 KD HG5 t0 t1
                  go_wp2_with (first | (at_builtin; refine wpList_append_lies _ rfl _ _ 33 rfl Wx.heap.size 9 iT (.string ⟨#[]⟩) 1 16 Tryd.underlying33 hi hz0 hz1 hz2 rfl (by decide) vt _ _ rfl (HG6.out.2.alloc _) ⟨_, 0, none⟩ 1 1 [.string ⟨it.toArray⟩] rfl rfl (new1_cellQ _ _ _) (fun u hu => by simp at hu; subst hu; rfl) (by decide) (by unfold maxLen; omega) (by omega) (by simp; omega) _ rfl ?_; intro g8 cp8 w8 hown8 hgrow8 hat8 hlt8) | fail)
                  have HN2 : Hid (Below Wx.heap.size Wx w8 ∧ w8.ownsRow Wx.heap.size 9 1 (.slice (some ⟨g8, 0, none⟩) (p + 1) cp8) (p + 1) ((ML termT ts (p + 1)).map Value.string)) := hid ⟨(HG6.out.1.alloc hs6 _).grown hgrow8 (by simp; omega) (fun j hj => (HG6.out.2.lt j hj).1), by rw [HS.out, List.map_append]; exact hown8⟩
                  clear hown8 hgrow8 hat8 hlt8
                  go_wp2_with fail
                  go_roundw
                  case rel => exact ⟨p + 1, _, by omega, by go_num, rfl, HN2⟩
                  case measure => simp [intOf]; omega
              · obtain rfl : p = m := by omega
                have i2 : ¬ ((p : Int) < (p : Int)) := by omega
                have HI : Hid (ISt wr vt (ML termT ts p)) := hid (own_st (by rw [ML_len _ (by rw [← HM.out]; exact Nat.le_refl _)]; exact HG.out.2))
                have KJ2 : Hid (∀ W, Below wr.heap.size wr W → Calls Tryd.prog 32 #[vt] W fun e w' => e = .returned (.string ⟨jm.toArray⟩) ∧ Below W.heap.size W w') := hid fun W hW => (KJt.out W vt (HI.out.below hW)).mono fun e w' ⟨h1, h2⟩ => ⟨h1, by rw [h2]; exact Below.refl _ _⟩
                have HO := hid (own_belowQ HX.out.2 HG.out.1)
                have f0a := bcl' HG.out.1 f0
                have HB := hid (bt HX.out.1 HG.out.1)
                have hcc1 : ¬ (9223372036854775807 < rb.length + 1) := by omega
                have hcc2 : ¬ (9223372036854775807 < rb.length + 1 + jm.length) := by omega
                have hcc3 : ¬ (9223372036854775807 < rb.length + 1 + jm.length + 1) := by omega
                clear HG HX f0 HI KJt
                generalize wr = Wt at *
                go_upto_region 18 with fail
                go_region_law (first
                  | (go_simp; go_at_call 32; (with_reducible refine (KJ2.out _ (Below.refl _ _).drew).mono ?_); rintro e w6 ⟨rfl, hb6'⟩; have hb6 : Below Wt.heap.size Wt w6 := ⟨hb6'.os, hb6'.tape, hb6'.output, hb6'.size, hb6'.block⟩; have f0b := bcl' hb6 f0a; have HO6 := hid (own_belowQ HO.out hb6); have HB6 := hid (bt HB.out hb6); have hs6 := HB6.out.size; clear hb6 hb6')
                  | (refine step_append_lies _ (by rfl) _ _ 33 (by rfl) W1.heap.size 9 iT (.string ⟨#[]⟩) 1 16 Tryd.underlying33 hi hz0 hz1 hz2 rfl (by decide) vs _ _ (by rfl) (HO6.out.alloc _) ⟨_, 0, none⟩ 1 1 [_] (by rfl) rfl (new1_cellQ _ _ _) (fun u hu => by simp at hu; subst hu; rfl) (by decide) (by unfold maxLen; omega) (by omega) (by simp; omega) _ rfl ?_; intro g7 cp7 w7 hown7 hgrow7 hat7 hlt7)
                  | fail)
                all_goals
                  have HN2 : Hid (Below W1.heap.size W1 w7 ∧ w7.ownsRow W1.heap.size 9 1 (.slice (some ⟨g7, 0, none⟩) (i + 1) cp7) (i + 1) ((ML atomT ats (i + 1)).map Value.string)) := hid ⟨(HB6.out.alloc hs6 _).grown hgrow7 (by simp; omega) (fun j hj => (HO6.out.lt j hj).1), by rw [HMs.out, List.map_append, List.map_cons, List.map_nil, ← atom_cat]; exact hown7⟩
                  clear hown7 hgrow7 hat7 hlt7
                  go_wp2_with fail
                  go_roundw
                  case rel => exact ⟨i + 1, _, by omega, by go_num, rfl, HN2⟩
                  case measure => simp [intOf]; omega
          · obtain rfl : i = n := by omega
            have i1 : ¬ ((i : Int) < (i : Int)) := by omega
            have KJ2 := hid (KJa.out wr vs (own_st (by rw [ML_len _ (by rw [← HN.out]; exact Nat.le_refl _)]; exact HH.out.2)))
            have hcc1 : ¬ (9223372036854775807 < s2.length + 5) := by omega
            have hcc2 : ¬ (9223372036854775807 < s2.length + 5 + ja.length) := by omega
            have hcc3 : ¬ (9223372036854775807 < s2.length + 5 + ja.length + 1) := by omega
            go_wp2_with fail
            refine KJ2.out.mono ?_
            rintro e w6 ⟨rfl, hw6⟩
            subst w6
            go_wp2_with fail
            go_ret
            refine ⟨?_, bt HB1.out HH.out.1⟩
            rw [← HS2.out, ← cat_bytes, ← cat_bytes, ← cat_bytes]
            rfl
end Go.Proofs.YtfjchjhakjghcaaDoor
