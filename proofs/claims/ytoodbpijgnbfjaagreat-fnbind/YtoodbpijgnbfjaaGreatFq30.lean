import Derived.Deep.DeepCutAuto
import Derived.Test.YtoodbpijgnbfjaaGreatFq10
namespace Go.Proofs.YtoodbpijgnbfjaaGreat
open Go.RowKit

theorem bl_af {A X : World} (h : Below A.heap.size A X) (o : Obj) : Below A.heap.size A (X.alloc o) := h.alloc h.size o
theorem newsF {w : World} {ad : Addr} {n c : Nat} {l : List Int} (h : IS w (.slice (some ad) n c) l) : ∀ j u, (l.map (Value.int .i64))[j]? = some u → w.cell? (ad.add j) = some u := fun j u hu => by
  have hj : j < l.length := by
    rcases Nat.lt_or_ge j l.length with h | h
    · exact h
    · rw [List.getElem?_eq_none (by simpa using h)] at hu; cases hu
  obtain ⟨a', c', e, hh⟩ := h
  simp only [Value.slice.injEq] at e
  rcases hh with h0 | ⟨b, o, ea, hh⟩
  · omega
  · have e2 : ad = ⟨b, o, none⟩ := Option.some.inj (e.1.trans ea)
    rw [e2, show ((⟨b, o, none⟩ : Addr).add j) = ⟨b, o + j, none⟩ by unfold Addr.add; split <;> simp_all, hh j hj, ← hu, List.getElem?_map, List.getD_eq_getElem?_getD, List.getElem?_eq_getElem hj]
    rfl

theorem own_oneI (W : World) (B : Nat) (hB : B ≤ W.heap.size) (x : Value) : (W.alloc (.cells #[x] 3)).ownsRow B 3 1 (.slice (some ⟨W.heap.size, 0, none⟩) 1 1) 1 [x] :=
  ⟨rfl, Or.inr ⟨W.heap.size, 1, #[x], rfl, hB, heap_alloc_new _ _, Nat.le_refl _, by decide, rfl, rfl⟩⟩

set_option maxHeartbeats 4000000 in
set_option maxRecDepth 1000000 in
theorem hBrute_calls (w : World) (v vh va : Value) (ds : List RelV) (q : QV) (h : IRelS w v ds) (hi : IQ w vh va q) (hq : OkQ q) (hl : ds.length ≤ 100000) (hV : (varsQ q).length ≤ 6)
    (hok : ∀ j, j < q.atoms.length → (q.atoms.getD j noAt).2.length ≤ 100000 ∧ ∀ k, k < ds.length → ((ds.getD k noRel).name.toList == (q.atoms.getD j noAt).1.toList) = true → (ds.getD k noRel).rows.length ≤ 100000 ∧ (ds.getD k noRel).ws.length = (ds.getD k noRel).rows.length ∧ ∀ i, i < (ds.getD k noRel).rows.length → ((ds.getD k noRel).rows.getD i []).length = (q.atoms.getD j noAt).2.length) :
    Calls Tryz.prog 5 #[.agg #[v], .agg #[.string q.name, vh, .int .i64 q.ring, va]] w fun e w' => ∃ x0 x1 x2, e = .returned (.tuple #[x0, x1, x2]) ∧ ISS w' x0 (brL ds q.atoms (varsQ q) (7 ^ (varsQ q).length)) ∧ Below w.heap.size w w' := by
  obtain ⟨i0, hj0, hz0, hz1, hz2⟩ := info_parts Tryz.infoInt
  obtain ⟨iS, hjS, hy0, hy1, hy2⟩ := info_parts Tryz.infoIS
  obtain ⟨W1, hW1⟩ : ∃ W1, W1 = (w.alloc (.cells #[v] 25)).alloc (.cells #[.string q.name, vh, .int .i64 q.ring, va] 29) := ⟨_, rfl⟩
  have HB1 : Hid (Below w.heap.size w W1) := hid (by rw [hW1]; exact ((Below.refl _ _).alloc (Nat.le_refl _) _).alloc (by simp) _)
  have hd0 : W1.cell? ⟨w.heap.size, 0, none⟩ = some v := by
    rw [hW1]
    exact bclF ((Below.refl _ _).alloc (Nat.le_refl _) _) (by rw [World.cell?_alloc_at _ _ _ _ rfl]; rfl)
  have hx := cells4 (w.alloc (.cells #[v] 25)) (.string q.name) vh (.int .i64 q.ring) va 29
  rw [World.size_alloc, ← hW1] at hx
  have HIT : Hid (∀ W, Below w.heap.size w W → IRelS W v ds ∧ IAt W va q.atoms) := hid fun W hW => ⟨h.below hW, (hi.below hW).atoms⟩
  have KV : Hid (Calls Tryz.prog 6 #[.agg #[.string q.name, vh, .int .i64 q.ring, va]] W1 fun e w' => ∃ v, e = .returned v ∧ ISt w' v (varsQ q) ∧ Below W1.heap.size W1 w') := hid (sVariables_calls W1 vh va q (hi.below HB1.out) hq)
  have KA : Hid (∀ W vt vn vals vv j, Below w.heap.size w W → j < q.atoms.length → ITm W vt (q.atoms.getD j noAt).2 → ISt W vn (varsQ q) → IS W vv vals → (varsQ q).length = vals.length → Calls Tryz.prog 16 #[.agg #[v], .agg #[.string (q.atoms.getD j noAt).1, vt], vn, vv] W fun e w' => ∃ z : Int, e = .returned (.tuple #[.int .i64 z, .bool (atB ds (varsQ q) vals (q.atoms.getD j noAt))]) ∧ Below W.heap.size W w') := hid fun W vt vn vals vv j hW hj h1 h2 h3 h4 => hAtom_calls W v vt vn vv ds _ _ (varsQ q) vals (h.below hW) h1 h2 h3 hl (hok j hj).1 (by omega) h4 (hok j hj).2
  generalize hVq : varsQ q = V at *
  have HBs : Hid (∀ m, brL ds q.atoms V (m + 1) = brL ds q.atoms V m ++ (if allB ds q.atoms V (dgs m V.length) then [dgs m V.length] else [])) := hid fun m => brL_succ _ _ _ m
  have HB0 : Hid (brL ds q.atoms V 0 = []) := hid rfl
  have HBl : Hid (∀ m, (brL ds q.atoms V m).length ≤ m) := hid fun m => brL_le _ _ _ m
  have HAy : Hid (∀ vals, (∀ i, i < q.atoms.length → atB ds V vals (q.atoms.getD i noAt) = true) → allB ds q.atoms V vals = true) := hid fun vals h => allB_yes h
  have HAn : Hid (∀ vals i, i < q.atoms.length → atB ds V vals (q.atoms.getD i noAt) = false → allB ds q.atoms V vals = false) := hid fun vals i hi h => allB_no hi h
  obtain ⟨ah, ch, eh, -⟩ := id hi.head
  obtain ⟨aa, ca, ea, -⟩ := id hi.atoms
  obtain ⟨ad, cd, ed, -⟩ := id h
  subst eh ea ed
  generalize ds.length = nd at *
  generalize q.head.length = nh at *
  generalize q.name = nm at *
  generalize q.ring = rg at *
  obtain ⟨na, hna⟩ : ∃ na, na = q.atoms.length := ⟨_, rfl⟩
  have HNA := hid hna
  rw [← hna] at hx KV KA HAy HAn hW1 ⊢
  have HAt : Hid (∀ W, Below w.heap.size w W → ∀ j, j < na → ∃ b o, aa = some ⟨b, o, none⟩ ∧ AtAt W b (o + j * 2) (q.atoms.getD j noAt)) := hid fun W hW j hj => by
    obtain ⟨a', c', e, hh⟩ := (HIT.out W hW).2
    simp only [Value.slice.injEq] at e
    obtain ⟨rfl, -, -⟩ := e
    rcases hh with h0 | ⟨b, o, ea, hh⟩
    · omega
    · exact ⟨b, o, ea, hh j (by omega)⟩
  have hnb : na ≤ 1048576 := by rw [hna]; exact hq.alen
  clear hna h hi hq hok HIT hVq
  generalize q.atoms = ats at *
  obtain ⟨nv, hnv⟩ : ∃ nv, nv = V.length := ⟨_, rfl⟩
  have HNV := hid hnv
  rw [← hnv] at hV KA HBs ⊢
  clear hnv
  have h7 := pow7 hV
  have HX : Hid (∀ W, Below W1.heap.size W1 W → W.cell? ⟨w.heap.size, 0, none⟩ = some (.slice ad nd cd) ∧ W.cell? ⟨w.heap.size + 1, 3, none⟩ = some (.slice aa na ca)) := hid fun W hW => ⟨bclF hW hd0, bclF hW hx.2.2.2⟩
  obtain ⟨q0, q1, q2, q3⟩ := hx
  go_enter Tryz.func5, Tryz.ntmps5
  go_upto_region 1 with fail
  rw [← hW1]
  clear hW1 hd0
  go_upto_region 2 with (first | (go_at_call 6; refine KV.out.mono ?_; rintro e w2 ⟨vn, rfl, hn2, hb2⟩) | fail)
  have HN2 := hid hn2
  have HB2 := hid hb2
  obtain ⟨an, cn, rfl, -⟩ := hn2
  rw [← HNV.out] at HN2 ⊢
  clear hb2 q0 q1 q2 q3 KV
  obtain ⟨W3, hW3⟩ : ∃ W3, W3 = ((w2.alloc (.cells #[] 33)).alloc (.cells #[] 3)).alloc (.cells #[] 3) := ⟨_, rfl⟩
  have HS3 : Hid (Below w2.heap.size w2 W3 ∧ TW W3 w2.heap.size (.slice (some ⟨w2.heap.size + 1, 0, none⟩) 0 0) (.slice (some ⟨w2.heap.size, 0, none⟩) 0 0) (.slice (some ⟨w2.heap.size + 1 + 1, 0, none⟩) 0 0) [] [] [] []) := hid (by
    have b1 : Below w2.heap.size w2 (w2.alloc (.cells #[] 33)) := bl_af (Below.refl _ _) _
    have b2 : Below (w2.alloc (.cells #[] 33)).heap.size (w2.alloc (.cells #[] 33)) ((w2.alloc (.cells #[] 33)).alloc (.cells #[] 3)) := bl_af (Below.refl _ _) _
    have b3 : Below ((w2.alloc (.cells #[] 33)).alloc (.cells #[] 3)).heap.size ((w2.alloc (.cells #[] 33)).alloc (.cells #[] 3)) (((w2.alloc (.cells #[] 33)).alloc (.cells #[] 3)).alloc (.cells #[] 3)) := bl_af (Below.refl _ _) _
    have o1 := World.ownsRow_made w2 (e := 33) (size := 1) (base := w2.heap.size) #[] 0 (Nat.le_refl _) (by decide) rfl
    have o2 := World.ownsRow_made (w2.alloc (.cells #[] 33)) (e := 3) (size := 1) (base := w2.heap.size) #[] 0 (by simp) (by decide) rfl
    have o3 := World.ownsRow_made ((w2.alloc (.cells #[] 33)).alloc (.cells #[] 3)) (e := 3) (size := 1) (base := w2.heap.size) #[] 0 (by simp; omega) (by decide) rfl
    rw [World.size_alloc] at o2
    rw [World.size_alloc, World.size_alloc] at o3
    rw [hW3]
    refine ⟨bt b1 (bt b2 b3), own_below o2 b3, ⟨own_below (own_below o1 b2) b3, rfl, fun i hi => by simp at hi, fun i j _ hj => by simp at hj⟩, o3, fun g h1 h2 => ?_, fun i hi => by simp at hi, fun i hi => by simp at hi⟩
    simp only [Value.ownBlock, Option.some.injEq] at h1 h2
    omega)
  go_upto_region 5 with fail
  rw [← hW3]
  clear hW3
  go_upto_block 0 with fail
  go_cut [11] (fun v11 wx => v11 = .int .i64 ((7 ^ nv : Nat) : Int) ∧ wx = W3)
  case first =>
    clear HS3 HBs HB0 HBl HAy HAn HAt KA
    go_wp2_with fail
    go_loopw [11, 29] (fun s t wr => ∃ (j P : Nat), j ≤ nv ∧ t = .int .i64 j ∧ s = .int .i64 (P : Int) ∧ P ≤ 117649 ∧ Hid (P = 7 ^ j ∧ wr = W3)) (fun _ t _ => nv - (intOf t).toNat)
    case atStart => exact ⟨0, 1, Nat.zero_le _, rfl, rfl, by decide, hid ⟨rfl, rfl⟩⟩
    case round =>
      obtain ⟨j, P, hjn, rfl, rfl, hPb, HP⟩ := hrel
      by_cases hlt : j < nv
      · have i1 : (j : Int) < (nv : Int) := by omega
        have HP2 : Hid (P * 7 = 7 ^ (j + 1) ∧ P * 7 ≤ 117649) := hid (by
          have e : P * 7 = 7 ^ (j + 1) := by rw [Nat.pow_succ, ← HP.out.1]
          exact ⟨e, by rw [e]; exact pow7 (by omega)⟩)
        have HW := hid HP.out.2
        clear HP
        go_wp2
        go_roundw
        case rel => exact ⟨j + 1, P * 7, by omega, by go_num, by go_num, HP2.out.2, hid ⟨HP2.out.1, HW.out⟩⟩
        case measure => simp [intOf]; omega
      · obtain rfl : j = nv := by omega
        have i1 : ¬ ((j : Int) < (j : Int)) := by omega
        go_wp2
        go_meet
        exact ⟨by rw [HP.out.1], HP.out.2⟩
  case rest =>
  obtain ⟨rfl, hwc⟩ := hcut
  subst wc
  have HBt : Hid (brL ds ats V (7 ^ nv) = brL ds ats V (7 ^ nv)) := hid rfl
  obtain ⟨TT, hTT⟩ : ∃ TT, TT = 7 ^ nv := ⟨_, rfl⟩
  have HTT := hid hTT
  rw [← hTT] at h7 ⊢
  clear HBt hTT
  go_wp2_with fail
  go_loopw [8, 9, 10, 12] (fun v8 v9 v10 t wr => ∃ (m : Nat) (x0 x1 x2 : Value), m ≤ TT ∧ t = .int .i64 m ∧ x1 = v8 ∧ x0 = v9 ∧ x2 = v10 ∧ Hid (∃ us ps ss, Below w2.heap.size w2 wr ∧ TW wr w2.heap.size x0 x1 x2 us ps (brL ds ats V m) ss ∧ ps.length ≤ m ∧ ss.length ≤ m)) (fun _ _ _ t _ => TT - (intOf t).toNat)
  case atStart => exact ⟨0, _, _, _, Nat.zero_le _, rfl, rfl, rfl, rfl, hid ⟨[], [], [], HS3.out.1, by rw [HB0.out]; exact HS3.out.2, Nat.le_refl _, Nat.le_refl _⟩⟩
  case round =>
    clear HS3 HB0
    obtain ⟨m, x0, x1, x2, hmT, rfl, rfl, rfl, rfl, HT⟩ := hrel
    obtain ⟨us, ps, ss, hB, hTw, hps, hss⟩ := HT.out
    have HB := hid hB
    have HTw := hid hTw
    clear HT hB hTw
    by_cases hlt : m < TT
    · have i1 : (m : Int) < (TT : Int) := by omega
      have HBm := hid (HBs.out m)
      have hbl := HBl.out m
      have hs2 : w2.heap.size ≤ wr.heap.size := HB.out.size
      generalize hBL : brL ds ats V m = BL at *
      clear hBL HBs HBl
      obtain ⟨W4, hW4⟩ : ∃ W4, W4 = wr.alloc (.cells #[] 3) := ⟨_, rfl⟩
      have HS4 : Hid (Below wr.heap.size wr W4 ∧ W4.ownsRow wr.heap.size 3 1 (.slice (some ⟨wr.heap.size, 0, none⟩) 0 0) 0 []) := hid (by
        rw [hW4]
        exact ⟨(Below.refl _ _).alloc (Nat.le_refl _) _, World.ownsRow_made wr #[] 0 (Nat.le_refl _) (by decide) rfl⟩)
      go_upto_region 14 with fail
      rw [← hW4]
      clear hW4
      generalize wr = wm at *
      go_upto_block 4 with fail
      go_cut [13, 14] (fun v13 v14 wx => ∃ (g c : Nat) (z : Int), v13 = .slice (some ⟨g, 0, none⟩) nv c ∧ v14 = .int .i64 z ∧ Hid (Below wm.heap.size wm wx ∧ wx.ownsRow wm.heap.size 3 1 (.slice (some ⟨g, 0, none⟩) nv c) nv ((dgs m nv).map (Value.int .i64))))
      case first =>
        clear HBm HAy HAn HAt KA HTw HB
        go_wp2_with fail
        go_loopw [13, 14, 43] (fun v13 v14 t wr => ∃ (i g c r : Nat), i ≤ nv ∧ t = .int .i64 i ∧ v13 = .slice (some ⟨g, 0, none⟩) i c ∧ v14 = .int .i64 (r : Int) ∧ r ≤ m ∧ Hid (r = m / 7 ^ i ∧ Below wm.heap.size wm wr ∧ wr.ownsRow wm.heap.size 3 1 (.slice (some ⟨g, 0, none⟩) i c) i ((dgs m i).map (Value.int .i64)))) (fun _ _ t _ => nv - (intOf t).toNat)
        case atStart => exact ⟨0, _, _, m, Nat.zero_le _, rfl, rfl, rfl, Nat.le_refl _, hid ⟨by simp, HS4.out.1, HS4.out.2⟩⟩
        case round =>
          clear HS4
          obtain ⟨i, g, c, r, hin, rfl, rfl, rfl, hrm, HR⟩ := hrel
          by_cases hli : i < nv
          · have i2 : (i : Int) < (nv : Int) := by omega
            have HD : Hid (dgs m (i + 1) = ((r % 7 : Nat) : Int) :: dgs m i) := hid (by rw [HR.out.1]; rfl)
            have HQ : Hid (r / 7 = m / 7 ^ (i + 1)) := hid (by rw [HR.out.1, Nat.div_div_eq_div_mul, Nat.pow_succ])
            have hs := HR.out.2.1.size
            have hr1 : ((r : Int)).tmod 7 = ((r % 7 : Nat) : Int) := (Int.ofNat_tmod r 7).symm
            have hr2 : ((r : Int)).tdiv 7 = ((r / 7 : Nat) : Int) := (Int.ofNat_tdiv r 7).symm
            have HW0 : Hid ((wr.alloc (.cells #[.int .i64 ((r % 7 : Nat) : Int)] 3)).ownsRow wm.heap.size 3 1 (.slice (some ⟨wr.heap.size, 0, none⟩) 1 1) 1 [.int .i64 ((r % 7 : Nat) : Int)]) := hid (own_oneI wr _ hs _)
            have HNW : Hid (∀ j u, ((dgs m i).map (Value.int .i64))[j]? = some u → (wr.alloc (.cells #[.int .i64 ((r % 7 : Nat) : Int)] 3)).cell? ((⟨g, 0, none⟩ : Addr).add j) = some u) := hid (newsF (l := dgs m i) ((own_is (l := dgs m i) (by rw [dgs_len]; exact HR.out.2.2)).below (bl_af (Below.refl _ _) _)))
            go_wp2_with (first | (at_builtin; refine wpList_append_own _ rfl _ _ 33 rfl wm.heap.size 3 i0 (.int .i64 0) 1 8 Tryz.underlying33 hj0 hz0 hz1 hz2 rfl (by decide) (.slice (some ⟨wr.heap.size, 0, none⟩) 1 1) 1 [.int .i64 ((r % 7 : Nat) : Int)] rfl HW0.out ⟨g, 0, none⟩ i c ((dgs m i).map (Value.int .i64)) rfl (by rw [List.length_map, dgs_len]; omega) HNW.out (fun u hu => by obtain ⟨x, _, rfl⟩ := List.mem_map.1 hu; rfl) (by unfold maxLen; omega) (by omega) (by simp; omega) ?_; intro v6 w6 hown6 hgrow6 _) | fail)
            have HO6 : Hid (w6.ownsRow wm.heap.size 3 1 v6 (i + 1) ((dgs m (i + 1)).map (Value.int .i64))) := hid (by rw [HD.out, Nat.add_comm i 1]; exact hown6)
            have HB6 : Hid (Below wm.heap.size wm w6) := hid ((bl_af HR.out.2.1 _).grown hgrow6 (by simp; omega) (fun q hq => (HW0.out.lt q hq).1))
            obtain ⟨g6, c6, e6⟩ := own_someF HO6.out (by omega)
            subst e6
            have HN : Hid (r / 7 = m / 7 ^ (i + 1) ∧ Below wm.heap.size wm w6 ∧ w6.ownsRow wm.heap.size 3 1 (.slice (some ⟨g6, 0, none⟩) (i + 1) c6) (i + 1) ((dgs m (i + 1)).map (Value.int .i64))) := hid ⟨HQ.out, HB6.out, HO6.out⟩
            have hrq : r / 7 ≤ m := by omega
            clear hown6 hgrow6 HO6 HB6 HW0 HNW HR HD HQ
            go_wp2_with fail
            go_roundw
            case rel => exact ⟨i + 1, g6, c6, r / 7, by omega, by go_num, by first | rfl | (rw [Nat.add_comm]), by first | rfl | (rw [hr2]) | go_num, hrq, HN⟩
            case measure => simp [intOf]; omega
          · obtain rfl : i = nv := by omega
            have i2 : ¬ ((i : Int) < (i : Int)) := by omega
            have HF := hid (And.intro HR.out.2.1 HR.out.2.2)
            clear HR
            go_wp2_with fail
            go_meet
            exact ⟨g, c, r, rfl, rfl, HF⟩
      case rest =>
        obtain ⟨g, c, z, rfl, rfl, HV⟩ := hcut
        generalize wc = w5 at *
        have HB5 := hid HV.out.1
        have HO5 := hid HV.out.2
        have HI5 : Hid (∀ W, Below w5.heap.size w5 W → IS W (.slice (some ⟨g, 0, none⟩) nv c) (dgs m nv)) := hid fun W hW => (own_is (l := dgs m nv) (by rw [dgs_len]; exact HO5.out)).below hW
        have HW5 : Hid (∀ W, Below w5.heap.size w5 W → Below w.heap.size w W ∧ Below W1.heap.size W1 W ∧ Below w2.heap.size w2 W) := hid fun W hW => ⟨bt HB1.out (bt HB2.out (bt HB.out (bt HB5.out hW))), bt HB2.out (bt HB.out (bt HB5.out hW)), bt HB.out (bt HB5.out hW)⟩
        clear HV HS4
        obtain ⟨-, y3⟩ := HX.out w5 (HW5.out w5 (Below.refl _ _)).2.1
        have HDl : Hid ((dgs m nv).length = nv) := hid (dgs_len m nv)
        go_upto_block 6 with fail
        go_cut [15, 16, 17] (fun v15 v16 v17 wx => ∃ z5 z6 : Int, v15 = .int .i64 z5 ∧ v16 = .int .i64 z6 ∧ v17 = .bool (allB ds ats V (dgs m nv)) ∧ Hid (Below w5.heap.size w5 wx))
        case first =>
          clear HBm HTw HO5
          go_wp2_with fail
          clear y3
          go_loopw [15, 16, 17, 56] (fun a5 a6 a7 t wr => ∃ (p : Nat) (z5 z6 : Int), p ≤ na ∧ t = .int .i64 p ∧ a5 = .int .i64 z5 ∧ a6 = .int .i64 z6 ∧ a7 = .bool true ∧ Hid (Below w5.heap.size w5 wr ∧ ∀ i, i < p → atB ds V (dgs m nv) (ats.getD i noAt) = true)) (fun _ _ _ t _ => na - (intOf t).toNat)
          case atStart => exact ⟨0, 1, 0, Nat.zero_le _, rfl, rfl, rfl, rfl, hid ⟨Below.refl _ _, fun i hi => by omega⟩⟩
          case round =>
            obtain ⟨p, z5, z6, hpn, rfl, rfl, rfl, rfl, HP⟩ := hrel
            by_cases hlp : p < na
            · have i2 : (p : Int) < (na : Int) := by omega
              obtain ⟨b, o, ea, u, c0, c1, hit⟩ := HAt.out wr (HW5.out wr HP.out.1).1 p hlp
              subst ea
              have HNo : Hid (atB ds V (dgs m nv) (ats.getD p noAt) = false → allB ds ats V (dgs m nv) = false) := hid fun h => HAn.out _ p hlp h
              have HPn : Hid (atB ds V (dgs m nv) (ats.getD p noAt) = true → ∀ i, i < p + 1 → atB ds V (dgs m nv) (ats.getD i noAt) = true) := hid fun h i hi => by
                by_cases e : i = p
                · rw [e]; exact h
                · exact HP.out.2 i (by omega)
              obtain ⟨W6, hW6⟩ : ∃ W6, W6 = wr.alloc (.cells #[.string (ats.getD p noAt).1, u] 51) := ⟨_, rfl⟩
              have hB6 : Below wr.heap.size wr W6 := by rw [hW6]; exact bl_af (Below.refl _ _) _
              have hx6 := cells2 wr (.string (ats.getD p noAt).1) u 51
              rw [← hW6] at hx6
              have hb56 := bt HP.out.1 hB6
              have KA1 := hid (KA.out W6 u (.slice an nv cn) (dgs m nv) (.slice (some ⟨g, 0, none⟩) nv c) p (HW5.out W6 hb56).1 hlp (hit.below hB6) (HN2.out.below (HW5.out W6 hb56).2.2) (HI5.out W6 hb56) HDl.out.symm)
              obtain ⟨y0, -⟩ := HX.out W6 (HW5.out W6 hb56).2.1
              obtain ⟨y4, y5⟩ := hx6
              have HB6 := hid hb56
              obtain ⟨au, cu, rfl, -⟩ := hit
              generalize atB ds V (dgs m nv) (ats.getD p noAt) = bb at *
              generalize (ats.getD p noAt).2.length = lt at *
              generalize (ats.getD p noAt).1 = anm at *
              clear hB6 hb56 HP
              go_upto_region 26 with fail
              rw [← hW6]
              clear hW6 c0 c1
              cases bb
              · have HZ := hid (HNo.out rfl)
                go_wp2_with (first | (go_at_call 16; refine KA1.out.mono ?_; rintro e w7 ⟨z7, rfl, hb7⟩) | fail)
                go_meet
                exact ⟨z5, z6, rfl, rfl, by rw [HZ.out], hid (bt HB6.out hb7)⟩
              · have HZ := hid (HPn.out rfl)
                go_wp2_with (first | (go_at_call 16; refine KA1.out.mono ?_; rintro e w7 ⟨z7, rfl, hb7⟩) | fail)
                go_roundw
                case rel => exact ⟨p + 1, _, _, by omega, by go_num, rfl, rfl, rfl, hid ⟨bt HB6.out hb7, HZ.out⟩⟩
                case measure => simp [intOf]; omega
            · obtain rfl : p = na := by omega
              have i2 : ¬ ((p : Int) < (p : Int)) := by omega
              have HZ := hid (HAy.out _ HP.out.2)
              go_wp2_with fail
              go_meet
              exact ⟨z5, z6, rfl, rfl, by rw [HZ.out], hid HP.out.1⟩
        case rest =>
          obtain ⟨z5, z6, rfl, rfl, rfl, H7⟩ := hcut
          generalize wc = w7 at *
          clear y3 KA HAy HAn HAt HI5
          have HB7 := hid (bt HB5.out H7.out)
          have HO7 := hid (own_below HO5.out H7.out)
          clear H7 HO5 HB5
          have hs7 : wm.heap.size ≤ w7.heap.size := HB7.out.size
          cases hab : allB ds ats V (dgs m nv) with
          | false =>
            rw [hab, if_neg (by decide), List.append_nil] at HBm
            have HN : Hid (∃ us ps ss, Below w2.heap.size w2 w7 ∧ TW w7 w2.heap.size x0 x1 x2 us ps (brL ds ats V (m + 1)) ss ∧ ps.length ≤ m + 1 ∧ ss.length ≤ m + 1) := hid ⟨us, ps, ss, bt HB.out HB7.out, by rw [HBm.out]; exact TW.below HTw.out HB7.out, by omega, by omega⟩
            clear HTw HB HB7 HO7
            go_wp2_with fail
            go_roundw
            case rel => exact ⟨m + 1, x0, x1, x2, by omega, by go_num, rfl, rfl, rfl, HN⟩
            case measure => simp [intOf]; omega
          | true =>
            rw [hab, if_pos rfl] at HBm
            have HT7 := hid (TW.below HTw.out HB7.out)
            have hul := HTw.out.rq.len
            go_wp2_with (first
              | (at_builtin; refine wpList_append_lies _ rfl _ _ 33 rfl w2.heap.size 3 i0 (.int .i64 0) 1 8 Tryz.underlying33 hj0 hz0 hz1 hz2 rfl (by decide) x2 ss.length _ rfl (HT9.out.o2.alloc _) ⟨_, 0, none⟩ 1 1 [.int .i64 z6] rfl rfl (new1_cell _ _ _) (fun u hu => by simp at hu; subst hu; rfl) (by decide) (by unfold maxLen; omega) (by omega) (by have := hb9.size; simp; omega) _ rfl ?_; intro g10 c10 w10 hown10 hgrow10 hat10 _; have HT10 := hid (HT9.out.push2 hgrow10 hat10 hown10); have hb10 : Below w2.heap.size w2 w10 := (bl_af hb9 _).grown hgrow10 (by have := hb9.size; simp; omega) (fun q hq => (HT9.out.o2.lt q hq).1))
              | (at_builtin; refine wpList_append_lies _ rfl _ _ 33 rfl w2.heap.size 3 i0 (.int .i64 0) 1 8 Tryz.underlying33 hj0 hz0 hz1 hz2 rfl (by decide) x0 ps.length _ rfl (HT8.out.o0.alloc _) ⟨_, 0, none⟩ 1 1 [.int .i64 z5] rfl rfl (new1_cell _ _ _) (fun u hu => by simp at hu; subst hu; rfl) (by decide) (by unfold maxLen; omega) (by omega) (by have := hb8.size; simp; omega) _ rfl ?_; intro g9 c9 w9 hown9 hgrow9 hat9 _; have HT9 := hid (HT8.out.push0 hgrow9 hat9 hown9); have hb9 : Below w2.heap.size w2 w9 := (bl_af hb8 _).grown hgrow9 (by have := hb8.size; simp; omega) (fun q hq => (HT8.out.o0.lt q hq).1))
              | (at_builtin; refine wpList_append_lies _ rfl _ _ 32 rfl w2.heap.size 33 iS (.slice none 0 0) 1 24 Tryz.underlying32 hjS hy0 hy1 hy2 rfl (by decide) x1 BL.length us rfl (HT7.out.rq.own.alloc _) ⟨_, 0, none⟩ 1 1 [.slice (some ⟨g, 0, none⟩) nv c] rfl rfl (new1_cell _ _ _) (fun u hu => by simp at hu; subst hu; rfl) (by decide) (by unfold maxLen; omega) (by omega) (by simp; omega) _ rfl ?_; intro g8 c8 w8 hown8 hgrow8 hat8 _; have HT8 := hid (TW.push1 (r := dgs m nv) HTw.out hs2 HB7.out (by rw [HDl.out]; exact HO7.out) hgrow8 hown8); have hb8 : Below w2.heap.size w2 w8 := (bl_af (bt HB.out HB7.out) _).grown hgrow8 (by simp; omega) (fun q hq => (HT7.out.rq.own.lt q hq).1))
              | fail)
            have HN : Hid (∃ us ps' ss', Below w2.heap.size w2 w10 ∧ TW w10 w2.heap.size (.slice (some ⟨g9, 0, none⟩) (ps.length + 1) c9) (.slice (some ⟨g8, 0, none⟩) (BL.length + 1) c8) (.slice (some ⟨g10, 0, none⟩) (ss.length + 1) c10) us ps' (brL ds ats V (m + 1)) ss' ∧ ps'.length ≤ m + 1 ∧ ss'.length ≤ m + 1) := hid ⟨_, _, _, hb10, by rw [HBm.out]; exact HT10.out, by simp; omega, by simp; omega⟩
            clear HTw HB HB7 HO7 HT7 HT8 HT9 HT10 hown8 hown9 hown10 hgrow8 hgrow9 hgrow10 hat8 hat9 hat10 hb8 hb9 hb10
            go_wp2_with fail
            go_roundw
            case rel => exact ⟨m + 1, _, _, _, by omega, by go_num, rfl, rfl, rfl, HN⟩
            case measure => simp [intOf]; omega
    · obtain rfl : m = TT := by omega
      have i1 : ¬ ((m : Int) < (m : Int)) := by omega
      have HF := hid (And.intro (HTw.out.rq.rs.iss (Below.refl _ _)) (bt HB1.out (bt HB2.out HB.out)))
      clear HTw HB
      go_wp2_with fail
      refine bodyPost_ret (v := .tuple #[x1, x0, x2]) (by simp [results, Tryz.results5, go_sem]) rfl ?_
      exact ⟨x1, ⟨x0, x2, rfl⟩, by rw [← HTT.out]; exact HF.out.1, HF.out.2⟩

end Go.Proofs.YtoodbpijgnbfjaaGreat
