import Derived.Test.YtcdfoephhjacdaaDoorQ72
/-
  The program's parser: head, walked.
-/
namespace Go.Proofs.YtcdfoephhjacdaaDoor
open Go.RowKit

set_option maxHeartbeats 16000000 in
set_option maxRecDepth 1000000 in
theorem pHead_calls (w : World) (g tb p : Nat) (ts : List TkV) (h : PaP w g tb ts p) (htb : tb < w.heap.size) (hrg : RgV w) (hVg : 5 ≠ g) (hok : ∀ j, j < ts.length → TkOk (ts.getD j noTk)) (hl : ts.length ≤ 100000) :
    Calls Tryd.prog 112 #[.pointer (some ⟨g, 0, none⟩)] w (HdE w g tb p ts) := by
  obtain ⟨iS, si, sz0, sz1, sz2⟩ := info_parts Tryd.infoStrQ
  obtain ⟨W1, hW1⟩ : ∃ W, W = w.alloc (.cells #[] 9) := ⟨_, rfl⟩
  have hB1 : Below w.heap.size w W1 := by rw [hW1]; exact (Below.refl _ _).alloc (Nat.le_refl _) _
  have hO1 : W1.ownsRow w.heap.size 9 1 (.slice (some ⟨w.heap.size, 0, none⟩) 0 0) 0 [] := by rw [hW1]; exact World.ownsRow_made w #[] 0 (Nat.le_refl _) (by unfold maxLen; omega) rfl
  have hs1 : w.heap.size < W1.heap.size := by rw [hW1]; simp
  have hglt := h.lt
  have HX1 : Hid (Ex g w W1) := hid (Ex.bel hB1)
  have HO1 := hid hO1
  have HP1 := hid (h.below hB1)
  have TA : Hid (TkC g tb ts [97, 59, 41] #[.string ⟨#[97]⟩, .string ⟨#[59]⟩, .string ⟨#[41]⟩] 3) := hid (TkC.mk' [97, 59, 41] rfl rfl (by decide) (by simp) hok hl)
  have TB : Hid (TkC g tb ts [44, 59, 41] #[.string ⟨#[44]⟩, .string ⟨#[59]⟩, .string ⟨#[41]⟩] 3) := hid (TkC.mk' [44, 59, 41] rfl rfl (by decide) (by simp) hok hl)
  have T97 : Hid (TkC g tb ts [97] #[.string ⟨#[97]⟩] 1) := hid (TkC.mk' [97] rfl rfl (by decide) (by simp) hok hl)
  have T41 : Hid (TkC g tb ts [41] #[.string ⟨#[41]⟩] 1) := hid (TkC.mk' [41] rfl rfl (by decide) (by simp) hok hl)
  have KR : Hid (∀ W q, Ex g w W → PaP W g tb ts q → Calls Tryd.prog 132 #[.pointer (some ⟨g, 0, none⟩)] W (RgE W g tb q ts)) := hid fun W q h1 h2 => pRing_calls W g tb q ts h2 (hrg.ex h1 hVg) hVg hok hl
  have HKd : Hid (∀ t : TkV, TkOk t → ((kdT t.k).toList == [44]) = decide (t.k = 44) ∧ ((kdT t.k).toList == [97]) = decide (t.k = 97) ∧ ((kdT t.k).toList == [41]) = decide (t.k = 41)) := hid fun t ht => by
    have e44 : (kdT 44).toList = [44] := by unfold kdT; simp only [ByteArray.toList_eq]; rfl
    have e97 : (kdT 97).toList = [97] := by unfold kdT; simp only [ByteArray.toList_eq]; rfl
    have e41 : (kdT 41).toList = [41] := by unfold kdT; simp only [ByteArray.toList_eq]; rfl
    have h1 := kd_eq ht (show 44 < 256 by decide)
    have h2 := kd_eq ht (show 97 < 256 by decide)
    have h3 := kd_eq ht (show 41 < 256 by decide)
    rw [e44] at h1
    rw [e97] at h2
    rw [e41] at h3
    exact ⟨h1, h2, h3⟩
  have HOk := hid hok
  obtain ⟨R, hR⟩ : ∃ R, R = headF ts p := ⟨_, rfl⟩
  have HA1 : Hid (¬ isK ts [97, 59, 41] p → R = .error p) := hid fun hk => by rw [hR]; exact headJ_no hk
  have HA2 : Hid (isK ts [97, 59, 41] p → HdJ ts R (p + 1) (ts.getD p noTk) []) := hid fun hk => by rw [hR]; exact headJ_yes hk
  generalize hE : HdE w g tb p ts = E
  have HNo : Hid (∀ pe w', R = .error pe → Ex g w w' → E (.panicked (flt (offZ ts pe))) w') := hid fun pe w' h1 h2 => by rw [← hE]; exact Or.inr ⟨pe, by rw [← hR]; exact h1, rfl, h2⟩
  have HYes : Hid (∀ hd r p' x w', R = .ok (hd, r, p') → w'.ownsRow w.heap.size 9 1 x hd.length (hd.map Value.string) → PaP w' g tb ts p' → Ex g w w' → E (.returned (.tuple #[x, .int .i64 (r : Int)])) w') := hid fun hd r p' x w' h1 h2 h3 h4 => by rw [← hE]; exact Or.inl ⟨hd, r, p', x, by rw [← hR]; exact h1, rfl, h2, h3, h4⟩
  clear hE hR h hok hrg hVg hB1 hO1
  by_cases k1 : isK ts [97, 59, 41] p
  case neg =>
    have hRe := HA1.out k1
    have K1 := hid (TA.out.2 W1 p HP1.out k1)
    have HE := hid (fun w' h2 => HNo.out p w' hRe h2)
    clear HA1 HA2 HYes HNo hRe k1 TA TB T97 T41 HKd HP1 KR HOk HO1
    generalize offZ ts p = z at *
    go_enter Tryd.func112, Tryd.ntmps112
    go_upto_region 2 with fail
    rw [← hW1]
    clear hW1
    go_wp2_with fail
    refine K1.out.mono ?_
    rintro e w2 ⟨rfl, hx2⟩
    go_wp2_with fail
    exact ⟨rfl, HE.out _ (HX1.out.trans hx2)⟩
  case pos =>
  obtain ⟨k, nm, v1, a1, e1, e2, e3, e4, hK1⟩ := TA.out.1 W1 p HP1.out k1
  have K1 := hid hK1
  have HT : Hid ((⟨k, nm, v1, a1⟩ : TkV) = ts.getD p noTk) := hid (by rw [e1, e2, e3, e4])
  have HJ0 : Hid (HdJ ts R (p + 1) ⟨k, nm, v1, a1⟩ [] ∧ TkOk ⟨k, nm, v1, a1⟩) := hid (by rw [HT.out]; exact ⟨HA2.out k1, HOk.out p k1.1⟩)
  obtain ⟨N, hN⟩ : ∃ N, N = ts.length := ⟨_, rfl⟩
  have HN := hid hN
  have hp1 : p + 1 ≤ N := by have := k1.1; omega
  have hle : N ≤ 100000 := by omega
  clear hK1 e1 e2 e3 e4 HT HA1 HA2 k1 TA hN hl
  go_enter Tryd.func112, Tryd.ntmps112
  go_upto_region 2 with fail
  rw [← hW1]
  clear hW1
  go_wp2_with fail
  refine K1.out.mono ?_
  rintro e w2 ⟨rfl, hpp2, hx2⟩
  have HO2 : Hid (w2.ownsRow w.heap.size 9 1 (.slice (some ⟨w.heap.size, 0, none⟩) 0 0) 0 []) := hid (own_ex HO1.out hx2 hglt)
  have HX2 := hid (HX1.out.trans hx2)
  have HP2 := hid hpp2
  clear hpp2 hx2 K1 HO1 HX1 HP1
  go_wp2_with fail
  obtain ⟨W3, hW3⟩ : ∃ W, W = w2.alloc (.cells #[.string (kdT k), .string nm, .int .i64 (v1 : Int), .int .i64 (a1 : Int)] 151) := ⟨_, rfl⟩
  have hb3 : Below w2.heap.size w2 W3 := by rw [hW3]; exact (Below.refl _ _).alloc (Nat.le_refl _) _
  have hbl : W3.heap[w2.heap.size]? = some (.cells #[.string (kdT k), .string nm, .int .i64 (v1 : Int), .int .i64 (a1 : Int)] 151 (0, 0)) := by rw [hW3]; exact heap_alloc_new _ _
  have HW3 : Hid (HdW w W3 g tb ts w2.heap.size (p + 1) ⟨k, nm, v1, a1⟩ (.slice (some ⟨w.heap.size, 0, none⟩) 0 0) []) := hid ⟨HP2.out.below hb3, hbl, own_below HO2.out hb3, HX2.out.trans (Ex.bel hb3), HX2.out.size, hglt, htb⟩
  rw [← hW3]
  obtain ⟨L, hL⟩ : ∃ L, L = w2.heap.size := ⟨_, rfl⟩
  rw [← hL] at HW3 ⊢
  clear hW3 hb3 hbl HP2 HO2 HX2 hL
  go_loopw [4] (fun x wr => ∃ (q : Nat) (t : TkV) (acc : List ByteArray) (vx : Value), vx = x ∧ q ≤ N ∧ acc.length ≤ q ∧ Hid (HdJ ts R q t acc ∧ TkOk t ∧ HdW w wr g tb ts L q t vx acc)) (fun _ wr => remOf wr g)
  case atStart => exact ⟨p + 1, _, [], _, rfl, hp1, Nat.zero_le _, hid ⟨HJ0.out.1, HJ0.out.2, HW3.out⟩⟩
  case round =>
    clear HJ0 HW3 hp1
    obtain ⟨q, ⟨k, nm, v1, a1⟩, acc, vx, rfl, hq, hal, HS⟩ := hrel
    have HJ := hid HS.out.1
    have HW := hid HS.out.2.2
    obtain ⟨-, x97, x41⟩ := HKd.out _ HS.out.2.1
    have m97 : ((kdT k).toList == [97]) = decide (k = 97) := x97
    have m41 : ((kdT k).toList == [41]) = decide (k = 41) := x41
    clear x97 x41
    have hrem := HW.out.pa.rem
    rw [← HN.out] at hrem
    have c0 : wr.cell? ⟨L, 0, none⟩ = some (.string (kdT k)) := HW.out.c0
    have c1 : wr.cell? ⟨L, 1, none⟩ = some (.string nm) := HW.out.c1
    clear HS
    by_cases h97 : k = 97
    case neg =>
      rw [decide_eq_false h97] at m97
      obtain ⟨ax, cx, ex⟩ := own_shapeT2 HW.out.own
      by_cases h41 : k = 41
      · rw [decide_eq_true h41] at m41
        have HE := hid (HYes.out acc 0 q vx wr (HJ.out.end41 h41) HW.out.own HW.out.pa HW.out.ex)
        clear HYes HNo HJ HW KR TB T97 T41 HKd HN HOk h97 h41 ex
        generalize kdT k = kd at *
        go_wp2_with fail
        first | exact HE.out | (go_ret2; exact HE.out)
      · rw [decide_eq_false h41] at m41
        have hRK := HJ.out.end59 h97 h41
        have HRK := hid hRK
        have K5 := hid (KR.out wr q HW.out.ex HW.out.pa)
        clear hRK HJ KR TB T97 HKd h97 h41 ex
        generalize kdT k = kd at *
        go_wp2_with fail
        refine K5.out.mono ?_
        rintro e w5 (⟨hr0, rfl, hpp5, hx5⟩ | ⟨hr0, rfl, hx5⟩)
        · have HW5 := hid (HW.out.next hx5 hpp5)
          have HR5 := hid hr0
          have HX5 := hid (HW.out.ex.trans hx5)
          clear hpp5 hx5 K5 HW c0 c1 hr0
          by_cases j1 : isK ts [41] (q + 1)
          case neg =>
            have K6 := hid (T41.out.2 w5 (q + 1) HW5.out.pa j1)
            have HE := hid (fun w' h2 => HNo.out (q + 1) w' (by rw [HRK.out]; exact rngK_bad HR5.out j1) h2)
            clear HYes HNo T41 HRK HR5 j1 HW5 HOk HN
            generalize offZ ts (q + 1) = z at *
            generalize rgI ts q = rr at *
            go_wp2_with fail
            refine K6.out.mono ?_
            rintro e w6 ⟨rfl, hx6⟩
            go_wp2_with fail
            exact ⟨rfl, HE.out _ (HX5.out.trans hx6)⟩
          case pos =>
            obtain ⟨k6, nm6, v6, a6, -, -, -, -, hK6⟩ := T41.out.1 w5 (q + 1) HW5.out.pa j1
            have K6 := hid hK6
            have HE : Hid (∀ w', w'.ownsRow w.heap.size 9 1 vx acc.length (acc.map Value.string) → PaP w' g tb ts (q + 1 + 1) → Ex g w w' → E (.returned (.tuple #[vx, .int .i64 (rgI ts q : Int)])) w') := hid fun w' h1 h2 h3 => HYes.out acc (rgI ts q) (q + 1 + 1) vx w' (by rw [HRK.out]; exact rngK_ok HR5.out j1) h1 h2 h3
            have HO5 := hid HW5.out.own
            clear HYes HNo T41 HRK HR5 j1 HW5 HOk HN hK6
            generalize rgI ts q = rr at *
            go_wp2_with fail
            refine K6.out.mono ?_
            rintro e w6 ⟨rfl, hpp6, hx6⟩
            have HE6 := hid (HE.out w6 (own_ex HO5.out hx6 hglt) hpp6 (HX5.out.trans hx6))
            clear HE hpp6 hx6 K6
            go_wp2_with fail
            first | exact HE6.out | (go_ret2; exact HE6.out)
        · have HE := hid (HNo.out q w5 (by rw [HRK.out]; exact rngK_no hr0) (HW.out.ex.trans hx5))
          clear HYes HNo HRK hr0 hx5 K5 HW
          generalize offZ ts q = z at *
          go_wp2_with fail
          exact ⟨rfl, HE.out⟩
    case pos =>
      rw [decide_eq_true h97] at m97
      obtain ⟨ax, cx, ex⟩ := own_shapeT2 HW.out.own
      obtain ⟨n', hn'⟩ : ∃ n, n = acc.length := ⟨_, rfl⟩
      rw [← hn'] at ex
      subst ex
      have HOA : Hid (wr.ownsRow w.heap.size 9 1 (.slice ax n' cx) n' (acc.map Value.string)) := hid (by have h := HW.out.own; rw [← hn'] at h; exact h)
      have HSz := hid HW.out.ex.size
      have HPush : Hid (∀ (w6 : World) (o : Obj) (x' : Value), (wr.alloc o).grownBy w6 (Value.slice ax n' cx).ownBlock → w6.ownsRow w.heap.size 9 1 x' (n' + 1) (acc.map Value.string ++ [.string nm]) → HdW w w6 g tb ts L q ⟨k, nm, v1, a1⟩ x' (acc ++ [nm])) := hid fun w6 o x' h2 h3 => HW.out.app h2 (by rw [← hn']; exact h3)
      have hnl : n' ≤ 100001 := by omega
      have HAcc : Hid ((acc ++ [nm]).length = n' + 1) := hid (by rw [List.length_append, List.length_singleton, hn'])
      have hal' : n' ≤ q := by omega
      clear hn' HYes KR T41 m41
      have c1a : ∀ o', (wr.alloc o').cell? ⟨L, 1, none⟩ = some (.string nm) := fun o' => (World.cell?_alloc_past _ _ _ HW.out.lt).trans c1
      generalize hkd : kdT k = kd at *
      go_upto_region 5 with (first | (at_builtin; refine wpList_append_lies _ rfl _ _ 30 rfl w.heap.size 9 iS (.string ⟨#[]⟩) 1 16 Tryd.underlying30 si sz0 sz1 sz2 rfl (by decide) (.slice ax n' cx) n' (acc.map Value.string) rfl (HOA.out.alloc _) ⟨_, 0, none⟩ 1 1 [.string nm] rfl rfl (new1_cellT _ _ _) (fun u hu => by simp at hu; subst hu; rfl) (by decide) (by unfold maxLen; omega) (by omega) (by have := HSz.out; simp; omega) _ rfl ?_; intro g6 cp6 w6 hown6 hgrow6 hat6 hlt6; have HW6 := hid (HPush.out w6 _ (.slice (some ⟨g6, 0, none⟩) (n' + 1) cp6) hgrow6 hown6); clear hown6 hgrow6 hat6 hlt6) | fail)
      clear c0 c1 c1a m97 hkd HPush HOA HSz HW
      have HB1 : Hid (¬ isK ts [44, 59, 41] q → R = .error q) := hid fun j => HJ.out.bad1 h97 j
      have HB2 : Hid (isK ts [44] q → ¬ isK ts [97] (q + 1) → R = .error (q + 1)) := hid fun j j2 => HJ.out.bad2 h97 j j2
      have HB3 : Hid (isK ts [44] q → isK ts [97] (q + 1) → HdJ ts R (q + 1 + 1) (ts.getD (q + 1) noTk) (acc ++ [nm])) := hid fun j j2 => HJ.out.next h97 j j2
      have HB4 : Hid (isK ts [44, 59, 41] q → (ts.getD q noTk).k ≠ 44 → HdJ ts R (q + 1) (ts.getD q noTk) (acc ++ [nm])) := hid fun j j2 => HJ.out.last h97 j j2
      clear HJ h97
      generalize acc ++ [nm] = acc' at *
      by_cases j1 : isK ts [44, 59, 41] q
      case neg =>
        have K7 := hid (TB.out.2 w6 q HW6.out.pa j1)
        have HE := hid (fun w' h2 => HNo.out q w' (HB1.out j1) h2)
        have HX6 := hid HW6.out.ex
        clear HB1 HB2 HB3 HB4 TB T97 HKd HN HOk HNo j1 HW6
        generalize offZ ts q = z at *
        go_wp2_with fail
        refine K7.out.mono ?_
        rintro e w7 ⟨rfl, hx7⟩
        go_wp2_with fail
        exact ⟨rfl, HE.out _ (HX6.out.trans hx7)⟩
      case pos =>
        obtain ⟨k7, nm7, v7, a7, e1, e2, e3, e4, hK7⟩ := TB.out.1 w6 q HW6.out.pa j1
        have K7 := hid hK7
        have HT : Hid ((⟨k7, nm7, v7, a7⟩ : TkV) = ts.getD q noTk) := hid (by rw [e1, e2, e3, e4])
        have hu := HOk.out q j1.1
        rw [← HT.out] at hu
        have m44 : ((kdT k7).toList == [44]) = decide (k7 = 44) := (HKd.out _ hu).1
        have HU := hid hu
        have hq1 : q + 1 ≤ N := by have := j1.1; have := HN.out; omega
        clear hK7 e1 e2 e3 e4 HB1 TB hu
        go_wp2_with fail
        refine K7.out.mono ?_
        rintro e w7 ⟨rfl, hpp7, hx7⟩
        have HW7 := hid (HW6.out.next hx7 hpp7)
        have c0 := HW7.out.c0
        have c1 := HW7.out.c1
        obtain ⟨c2, c3, fr⟩ := HW7.out.face
        have f0 := fr 0
        have f1 := fr 1
        have f2 := fr 2
        have f3 := fr 3
        clear hpp7 hx7 K7 HW6 fr
        go_upto_region 6 with fail
        have HW8 : Hid (HdW w (put4 w7 L ⟨k7, nm7, v7, a7⟩) g tb ts L (q + 1) ⟨k7, nm7, v7, a7⟩ (.slice (some ⟨g6, 0, none⟩) (n' + 1) cp6) acc') := hid (HW7.out.put _)
        have HW8' : Hid (HdW w ((((w7.setCell ⟨L, 0, none⟩ (.string (kdT k7))).setCell ⟨L, 1, none⟩ (.string nm7)).setCell ⟨L, 2, none⟩ (.int .i64 (v7 : Int))).setCell ⟨L, 3, none⟩ (.int .i64 (a7 : Int))) g tb ts L (q + 1) ⟨k7, nm7, v7, a7⟩ (.slice (some ⟨g6, 0, none⟩) (n' + 1) cp6) acc') := hid HW8.out
        clear c0 c1 c2 c3 f0 f1 f2 f3 HW7 HW8
        generalize (((w7.setCell ⟨L, 0, none⟩ (.string (kdT k7))).setCell ⟨L, 1, none⟩ (.string nm7)).setCell ⟨L, 2, none⟩ (.int .i64 (v7 : Int))).setCell ⟨L, 3, none⟩ (.int .i64 (a7 : Int)) = W8 at *
        have hrem8 := HW8'.out.pa.rem
        rw [← HN.out] at hrem8
        have d0 : W8.cell? ⟨L, 0, none⟩ = some (.string (kdT k7)) := HW8'.out.c0
        by_cases h44 : k7 = 44
        case neg =>
          rw [decide_eq_false h44] at m44
          have HJ8 : Hid (HdJ ts R (q + 1) ⟨k7, nm7, v7, a7⟩ acc') := hid (by rw [HT.out]; exact HB4.out j1 (by rw [← HT.out]; exact h44))
          clear HB2 HB3 HB4 HT HNo T97 HKd HOk h44 j1
          generalize hkd : kdT k7 = kd at *
          clear hkd
          go_wp2_with fail
          go_roundw
          case rel => exact ⟨q + 1, _, _, _, rfl, hq1, by rw [HAcc.out]; omega, hid ⟨HJ8.out, HU.out, HW8'.out⟩⟩
          case measure => rw [hrem8, hrem]; omega
        case pos =>
          rw [decide_eq_true h44] at m44
          have j44 : isK ts [44] q := ⟨j1.1, by rw [← HT.out]; simpa using h44⟩
          clear HB4 HT h44 j1
          by_cases j2 : isK ts [97] (q + 1)
          case neg =>
            have K9 := hid (T97.out.2 W8 (q + 1) HW8'.out.pa j2)
            have HE := hid (fun w' h2 => HNo.out (q + 1) w' (HB2.out j44 j2) h2)
            have HX8 := hid HW8'.out.ex
            clear HB2 HB3 T97 HKd HN HOk HNo j2 HW8' j44
            generalize offZ ts (q + 1) = z at *
            generalize kdT k7 = kd at *
            go_wp2_with fail
            refine K9.out.mono ?_
            rintro e w9 ⟨rfl, hx9⟩
            go_wp2_with fail
            exact ⟨rfl, HE.out _ (HX8.out.trans hx9)⟩
          case pos =>
            obtain ⟨k9, nm9, v9, a9, e1, e2, e3, e4, hK9⟩ := T97.out.1 W8 (q + 1) HW8'.out.pa j2
            have K9 := hid hK9
            have HT : Hid ((⟨k9, nm9, v9, a9⟩ : TkV) = ts.getD (q + 1) noTk) := hid (by rw [e1, e2, e3, e4])
            have HU9 : Hid (TkOk ⟨k9, nm9, v9, a9⟩) := hid (by rw [HT.out]; exact HOk.out (q + 1) j2.1)
            have HJ9 : Hid (HdJ ts R (q + 1 + 1) ⟨k9, nm9, v9, a9⟩ acc') := hid (by rw [HT.out]; exact HB3.out j44 j2)
            have hq2 : q + 1 + 1 ≤ N := by have := j2.1; have := HN.out; omega
            clear hK9 e1 e2 e3 e4 HT HB2 HB3 T97 HKd HOk HNo j2 j44 HU
            generalize hkd : kdT k7 = kd at *
            go_wp2_with fail
            refine K9.out.mono ?_
            rintro e w9 ⟨rfl, hpp9, hx9⟩
            have HW9 := hid (HW8'.out.next hx9 hpp9)
            have c0 := HW9.out.c0
            have c1 := HW9.out.c1
            obtain ⟨c2, c3, fr⟩ := HW9.out.face
            have f0 := fr 0
            have f1 := fr 1
            have f2 := fr 2
            have f3 := fr 3
            have HW10 : Hid (HdW w (put4 w9 L ⟨k9, nm9, v9, a9⟩) g tb ts L (q + 1 + 1) ⟨k9, nm9, v9, a9⟩ (.slice (some ⟨g6, 0, none⟩) (n' + 1) cp6) acc') := hid (HW9.out.put _)
            have hrem10 := HW10.out.pa.rem
            rw [← HN.out] at hrem10
            have HRem := hid hrem10
            clear hpp9 hx9 K9 HW8' fr HW9 d0 hrem8 hkd hrem10
            go_wp2_with fail
            go_roundw
            case rel => exact ⟨q + 1 + 1, _, _, _, rfl, hq2, by rw [HAcc.out]; omega, hid ⟨HJ9.out, HU9.out, HW10.out⟩⟩
            case measure => rw [hrem]; exact (show remOf (put4 w9 L ⟨k9, nm9, v9, a9⟩) g < N - q by rw [HRem.out]; omega)

end Go.Proofs.YtcdfoephhjacdaaDoor

/-
  The program's parser: query, its parts.
-/
namespace Go.Proofs.YtcdfoephhjacdaaDoor
open Go.RowKit

/-- inside the atoms -/
def QaJ (ts : List TkV) (R : Except Nat QV) (nm : ByteArray) (hd : List ByteArray) (r : Int) (q : Nat) (more : Bool) (acc : List AtomV) : Prop := if more then ∃ f, ts.length ≤ q + f ∧ R = fin5 ts nm hd r (atsF ts f q acc) else R = fin5 ts nm hd r (.ok (acc, q))
section
variable {ts : List TkV} {R : Except Nat QV} {nm : ByteArray} {hd : List ByteArray} {r : Int} {q : Nat} {acc : List AtomV}
theorem QaJ.bad1 {e : Nat} (h : QaJ ts R nm hd r q true acc) (hk : atmF ts q = .error e) : R = .error e := by
  obtain ⟨f, hf, e2⟩ := h
  rw [e2]
  cases f with
  | zero =>
    rw [atm_far (by omega)] at hk
    rw [← Except.error.inj hk]
    rfl
  | succ f => rw [atsF, hk]; rfl
theorem QaJ.bad2 {a : AtomV} {p1 : Nat} (h : QaJ ts R nm hd r q true acc) (hk : atmF ts q = .ok (a, p1)) (h2 : ¬ isK ts [44, 46] p1) : R = .error p1 := by
  obtain ⟨f, hf, e2⟩ := h
  have hp := atm_pos hk
  rw [e2]
  cases f with
  | zero => omega
  | succ f => rw [atsF, hk]; simp only; rw [tk_isnt h2]; rfl
theorem QaJ.step {a : AtomV} {p1 : Nat} (h : QaJ ts R nm hd r q true acc) (hk : atmF ts q = .ok (a, p1)) (h2 : isK ts [44, 46] p1) : QaJ ts R nm hd r (p1 + 1) (decide ((ts.getD p1 noTk).k = 44)) (acc ++ [a]) := by
  obtain ⟨f, hf, e2⟩ := h
  have hp := atm_pos hk
  cases f with
  | zero => omega
  | succ f =>
    rw [atsF, hk] at e2
    simp only at e2
    rw [tk_is h2] at e2
    simp only at e2
    by_cases h44 : (ts.getD p1 noTk).k = 44
    · rw [if_pos h44] at e2
      rw [decide_eq_true h44]
      exact ⟨f, by omega, e2⟩
    · rw [if_neg h44] at e2
      rw [decide_eq_false h44]
      exact e2
theorem QaJ.fin1 (h : QaJ ts R nm hd r q false acc) (hq : q < ts.length) : R = .error q := by
  have e : R = fin5 ts nm hd r (.ok (acc, q)) := h
  rw [e]
  exact if_pos hq
theorem QaJ.fin2 (h : QaJ ts R nm hd r q false acc) (hq : ¬ q < ts.length) : R = .ok ⟨nm, hd, r, acc⟩ := by
  have e : R = fin5 ts nm hd r (.ok (acc, q)) := h
  rw [e]
  exact if_neg hq
theorem tkc_is {α : Type} {c p : Nat} {F : Nat → Except Nat α} (h : isK ts [c] p) : tkc ts c p F = F (p + 1) := by
  unfold tkc
  rw [tk_is h]
theorem tkc_isnt {α : Type} {c p : Nat} {F : Nat → Except Nat α} (h : ¬ isK ts [c] p) : tkc ts c p F = .error p := by
  unfold tkc
  rw [tk_isnt h]
end

/-- the head is stored -/
theorem QyS.heads {w0 W : World} {g A : Nat} {nm : ByteArray} {x x' y : Value} {hd hd' : List ByteArray} {r r' : Int} {us : List UV} (h : QyS w0 W g A nm x hd r y us) (ho : W.ownsRow w0.heap.size 9 1 x' hd'.length (hd'.map Value.string)) : QyS w0 ((W.setCell ⟨A, 1, none⟩ x').setCell ⟨A, 2, none⟩ (.int .i64 r')) g A nm x' hd' r' y us := by
  have b1 : (W.setCell ⟨A, 1, none⟩ x').heap[A]? = some (.cells #[.string nm, x', .int .i64 r, y] 33 (0, 0)) := by rw [heap_setCell_same _ _ _ _ _ _ h.blk]; rfl
  exact ⟨by rw [heap_setCell_same _ _ _ _ _ _ b1]; rfl, own_setT (own_setT ho h.blk (by decide)) b1 (by decide), own_setT (own_setT h.own2 h.blk (by decide)) b1 (by decide), fun u hu => own_setT (own_setT (h.tms u hu) h.blk (by decide)) b1 (by decide), h.ap, (h.ex.new h.hA).new h.hA, h.hA, h.hg⟩

/-- how query ends -/
def QyP (w : World) (g : Nat) (ts : List TkV) (e : Ending) (w' : World) : Prop :=
  (∃ nm x hd r y us, qryF ts = .ok ⟨nm, hd, r, us.map uAt⟩ ∧ e = .returned (.agg #[.string nm, x, .int .i64 r, y]) ∧ QyR w.heap.size w' x hd y us ∧ Ex g w w') ∨ (∃ pe, qryF ts = .error pe ∧ e = .panicked (flt (offZ ts pe)) ∧ Ex g w w')

end Go.Proofs.YtcdfoephhjacdaaDoor
