import Derived.Deep.RegionHeldLaw
import Derived.Test.YtcdfoephhjacdaaDoorQ73
/-
  The program's parser: query, walked.
-/
namespace Go.Proofs.YtcdfoephhjacdaaDoor
open Go.RowKit

set_option maxHeartbeats 16000000 in
set_option maxRecDepth 1000000 in
theorem pQuery_calls (w : World) (g tb : Nat) (ts : List TkV) (h : PaP w g tb ts 0) (htb : tb < w.heap.size) (hrg : RgV w) (hVg : 5 ≠ g) (hok : ∀ j, j < ts.length → TkOk (ts.getD j noTk)) (hl : ts.length ≤ 100000) :
    Calls Tryd.prog 90 #[.pointer (some ⟨g, 0, none⟩)] w (QyP w g ts) := by
  obtain ⟨iA, ai, az0, az1, az2⟩ := info_parts Tryd.infoAtQ
  have fk0 := Tryd.fieldK0
  have fk1 := Tryd.fieldK1
  obtain ⟨W1, hW1⟩ : ∃ W, W = w.alloc (.cells #[.string ⟨#[]⟩, .slice none 0 0, .int .i64 0, .slice none 0 0] 33) := ⟨_, rfl⟩
  have hB1 : Below w.heap.size w W1 := by rw [hW1]; exact (Below.refl _ _).alloc (Nat.le_refl _) _
  have hR0 : W1.heap[w.heap.size]? = some (.cells #[.string ⟨#[]⟩, .slice none 0 0, .int .i64 0, .slice none 0 0] 33 (0, 0)) := by rw [hW1]; exact heap_alloc_new _ _
  have hs1 : w.heap.size < W1.heap.size := by rw [hW1]; simp
  have hglt := h.lt
  have htb1 : tb < W1.heap.size := by omega
  have HX1 : Hid (Ex g w W1) := hid (Ex.bel hB1)
  have HR0 := hid hR0
  have HP1 := hid (h.below hB1)
  have T97 : Hid (TkC g tb ts [97] #[.string ⟨#[97]⟩] 1) := hid (TkC.mk' [97] rfl rfl (by decide) (by simp) hok hl)
  have T40 : Hid (TkC g tb ts [40] #[.string ⟨#[40]⟩] 1) := hid (TkC.mk' [40] rfl rfl (by decide) (by simp) hok hl)
  have T58 : Hid (TkC g tb ts [58] #[.string ⟨#[58]⟩] 1) := hid (TkC.mk' [58] rfl rfl (by decide) (by simp) hok hl)
  have TC : Hid (TkC g tb ts [44, 46] #[.string ⟨#[44]⟩, .string ⟨#[46]⟩] 2) := hid (TkC.mk' [44, 46] rfl rfl (by decide) (by simp) hok hl)
  have KH : Hid (∀ W p, Ex g w W → PaP W g tb ts p → tb < W.heap.size → Calls Tryd.prog 112 #[.pointer (some ⟨g, 0, none⟩)] W (HdE W g tb p ts)) := hid fun W p h1 h2 h3 => pHead_calls W g tb p ts h2 h3 (hrg.ex h1 hVg) hVg hok hl
  have KA : Hid (∀ W p, PaP W g tb ts p → tb < W.heap.size → Calls Tryd.prog 113 #[.pointer (some ⟨g, 0, none⟩)] W (AtP W g tb ts (atmF ts p))) := hid fun W p h2 h3 => pAtom_calls W g tb p ts h2 h3 hok hl
  have HKd : Hid (∀ q, q < ts.length → ((kdT (ts.getD q noTk).k).toList == [44]) = decide ((ts.getD q noTk).k = 44)) := hid fun q hq => by
    have := kd_eq (hok q hq) (show 44 < 256 by decide)
    have e : (kdT 44).toList = [44] := by unfold kdT; simp only [ByteArray.toList_eq]; rfl
    rw [e] at this
    exact this
  obtain ⟨R, hR⟩ : ∃ R, R = qryF ts := ⟨_, rfl⟩
  have HA1 : Hid (¬ isK ts [97] 0 → R = .error 0) := hid fun hk => by rw [hR, qry_c1]; unfold c1; rw [tk_isnt hk]
  have HA2 : Hid (isK ts [97] 0 → R = c2 ts (ts.getD 0 noTk).nm 1) := hid fun hk => by rw [hR, qry_c1]; unfold c1; rw [tk_is hk]
  generalize hE : QyP w g ts = E
  have HNo : Hid (∀ pe w', R = .error pe → Ex g w w' → E (.panicked (flt (offZ ts pe))) w') := hid fun pe w' h1 h2 => by rw [← hE]; exact Or.inr ⟨pe, by rw [← hR]; exact h1, rfl, h2⟩
  have HYes : Hid (∀ nm x hd r y us w', R = .ok ⟨nm, hd, r, us.map uAt⟩ → QyR w.heap.size w' x hd y us → Ex g w w' → E (.returned (.agg #[.string nm, x, .int .i64 r, y])) w') := hid fun nm x hd r y us w' h1 h2 h3 => by rw [← hE]; exact Or.inl ⟨nm, x, hd, r, y, us, by rw [← hR]; exact h1, rfl, h2, h3⟩
  clear hE hR h hok hrg hVg hB1 hR0
  by_cases k1 : isK ts [97] 0
  case neg =>
    have hRe := HA1.out k1
    have K1 := hid (T97.out.2 W1 0 HP1.out k1)
    have HE := hid (fun w' h2 => HNo.out 0 w' hRe h2)
    clear HA1 HA2 HYes HNo hRe k1 T97 T40 T58 TC HKd HP1 KH KA HR0
    generalize offZ ts 0 = z at *
    go_enter Tryd.func90, Tryd.ntmps90
    go_upto_region 1 with fail
    rw [← hW1]
    clear hW1
    go_wp2_with fail
    refine K1.out.mono ?_
    rintro e w2 ⟨rfl, hx2⟩
    go_wp2_with fail
    exact ⟨rfl, HE.out _ (HX1.out.trans hx2)⟩
  case pos =>
  obtain ⟨k, nm, v1, a1, -, hnm, -, -, hK1⟩ := T97.out.1 W1 0 HP1.out k1
  have K1 : Hid (Calls Tryd.prog 111 #[.pointer (some ⟨g, 0, none⟩), .slice (some ⟨W1.heap.size, 0, none⟩) 1 1] (W1.alloc (.cells #[.string ⟨#[97]⟩] 9)) fun e w' => e = .returned (.agg #[.string (kdT k), .string nm, .int .i64 (v1 : Int), .int .i64 (a1 : Int)]) ∧ PaP w' g tb ts 1 ∧ Ex g W1 w') := hid hK1
  have HC2 : Hid (R = c2 ts nm 1) := hid (by rw [hnm]; exact HA2.out k1)
  generalize kdT k = kd1 at *
  clear hK1 hnm HA1 HA2 T97 k1
  go_enter Tryd.func90, Tryd.ntmps90
  go_upto_region 1 with fail
  rw [← hW1]
  clear hW1
  go_wp2_with fail
  refine K1.out.mono ?_
  rintro e w2 ⟨rfl, hpp2, hx2⟩
  go_upto_region 2 with fail
  obtain ⟨W3, hW3⟩ : ∃ W, W = w2.alloc (.cells #[.string nm, .slice none 0 0, .int .i64 0, .slice none 0 0] 33) := ⟨_, rfl⟩
  have hb3 : Below w2.heap.size w2 W3 := by rw [hW3]; exact (Below.refl _ _).alloc (Nat.le_refl _) _
  have HQ : Hid (QyS W1 W3 g w2.heap.size nm (.slice none 0 0) [] 0 (.slice none 0 0) []) := hid ⟨by rw [hW3]; exact heap_alloc_new _ _, ⟨rfl, Or.inl ⟨rfl, rfl⟩⟩, ⟨rfl, Or.inl ⟨rfl, rfl⟩⟩, fun u hu => by simp at hu, List.Pairwise.nil, by rw [hW3]; exact hx2.allocd _, hx2.size, by omega⟩
  have HP3 : Hid (PaP W3 g tb ts 1) := hid (hpp2.below hb3)
  rw [← hW3]
  obtain ⟨A, hA⟩ : ∃ A, A = w2.heap.size := ⟨_, rfl⟩
  rw [← hA] at HQ ⊢
  clear hW3 hb3 hpp2 hx2 K1 hA HP1
  have hAg : A ≠ g := HQ.out.Ag
  have hAt : A ≠ tb := by have := HQ.out.hA; omega
  by_cases k2 : isK ts [40] 1
  case neg =>
    have K2 := hid (T40.out.2 W3 1 HP3.out k2)
    have HE := hid (fun w' h2 => HNo.out 1 w' (by rw [HC2.out]; exact tkc_isnt k2) h2)
    have HX := hid (HX1.out.trans HQ.out.ex)
    clear HYes HNo k2 T40 T58 TC HKd HP3 KH KA HR0 HC2 HQ HX1
    generalize offZ ts 1 = z at *
    go_wp2_with fail
    refine K2.out.mono ?_
    rintro e w4 ⟨rfl, hx4⟩
    go_wp2_with fail
    exact ⟨rfl, HE.out _ (HX.out.trans hx4)⟩
  case pos =>
  obtain ⟨k', nm', v', a', -, -, -, -, hK2⟩ := T40.out.1 W3 1 HP3.out k2
  have K2 : Hid (Calls Tryd.prog 111 #[.pointer (some ⟨g, 0, none⟩), .slice (some ⟨W3.heap.size, 0, none⟩) 1 1] (W3.alloc (.cells #[.string ⟨#[40]⟩] 9)) fun e w' => e = .returned (.agg #[.string (kdT k'), .string nm', .int .i64 (v' : Int), .int .i64 (a' : Int)]) ∧ PaP w' g tb ts 2 ∧ Ex g W3 w') := hid hK2
  have HC3 : Hid (R = c3 ts nm (headF ts 2)) := hid (by rw [HC2.out]; exact tkc_is k2)
  clear hK2 HC2 k2 T40
  go_upto_region 3 with (first | (go_at_call 111; refine K2.out.mono ?_; rintro e w4 ⟨rfl, hpp4, hx4⟩) | fail)
  have HQ := hid (HQ.out.next hx4)
  have HP4 := hid hpp4
  clear hpp4 hx4 K2 HP3
  have K3 := hid (KH.out w4 2 (HX1.out.trans HQ.out.ex) HP4.out (by have := HQ.out.ex.size; omega))
  clear KH HP4
  go_wp2_with fail
  refine K3.out.mono ?_
  rintro e w5 (⟨hd, r, p3, x5, hhd, rfl, ho5, hpp5, hx5⟩ | ⟨pe, hhd, rfl, hx5⟩)
  rotate_left
  · have HE := hid (HNo.out pe w5 (by rw [HC3.out, hhd]; rfl) ((HX1.out.trans HQ.out.ex).trans hx5))
    clear HYes HNo T58 TC HKd KA HR0 HC3 HQ HX1 hhd hx5 K3
    generalize offZ ts pe = z at *
    go_wp2_with fail
    exact ⟨rfl, HE.out⟩
  obtain ⟨ax, cx, ex⟩ := own_shapeT2 ho5
  obtain ⟨nx', hnx'⟩ : ∃ n, n = hd.length := ⟨_, rfl⟩
  rw [← hnx'] at ex
  subst ex
  have HQ5 := hid (HQ.out.next hx5)
  have HQ6 : Hid (QyS W1 ((w5.setCell ⟨A, 1, none⟩ (.slice ax nx' cx)).setCell ⟨A, 2, none⟩ (.int .i64 (r : Int))) g A nm (.slice ax nx' cx) hd (r : Int) (.slice none 0 0) []) := hid (HQ5.out.heads (own_base ho5 (HQ.out.ex.size)))
  have HP6 : Hid (PaP ((w5.setCell ⟨A, 1, none⟩ (.slice ax nx' cx)).setCell ⟨A, 2, none⟩ (.int .i64 (r : Int))) g tb ts p3) := hid ((hpp5.set hAg hAt).set hAg hAt)
  have HC4 : Hid (R = c4 ts nm hd (r : Int) p3) := hid (by rw [HC3.out, hhd]; rfl)
  have q1 := HQ5.out.c1
  have q2 := HQ5.out.c2
  have f1 := HQ5.out.free 1
  have f2 := HQ5.out.free 2
  clear HC3 hhd ho5 hpp5 hx5 hnx' HQ K3 HQ5
  go_upto_region 4 with fail
  clear q1 q2 f1 f2
  generalize (w5.setCell ⟨A, 1, none⟩ (.slice ax nx' cx)).setCell ⟨A, 2, none⟩ (.int .i64 (r : Int)) = W6 at *
  generalize (r : Int) = r at *
  by_cases k4 : isK ts [58] p3
  case neg =>
    have K4 := hid (T58.out.2 W6 p3 HP6.out k4)
    have HE := hid (fun w' h2 => HNo.out p3 w' (by rw [HC4.out]; exact tkc_isnt k4) h2)
    have HX := hid (HX1.out.trans HQ6.out.ex)
    clear HYes HNo k4 T58 TC HKd HP6 KA HR0 HC4 HQ6 HX1
    generalize offZ ts p3 = z at *
    go_wp2_with fail
    refine K4.out.mono ?_
    rintro e w7 ⟨rfl, hx7⟩
    go_wp2_with fail
    exact ⟨rfl, HE.out _ (HX.out.trans hx7)⟩
  case pos =>
  obtain ⟨k', nm', v', a', -, -, -, -, hK4⟩ := T58.out.1 W6 p3 HP6.out k4
  have K4 := hid hK4
  have HJ0 : Hid (QaJ ts R nm hd r (p3 + 1) true []) := hid ⟨ts.length + 1, by omega, by rw [HC4.out]; exact tkc_is k4⟩
  obtain ⟨N, hN⟩ : ∃ N, N = ts.length := ⟨_, rfl⟩
  have HN := hid hN
  have hp4 : p3 + 1 ≤ N := by have := k4.1; omega
  have hle : N ≤ 100000 := by omega
  clear hK4 HC4 k4 T58 hN hl
  go_upto_region 5 with (first | (go_at_call 111; refine K4.out.mono ?_; rintro e w7 ⟨rfl, hpp7, hx7⟩) | fail)
  have HQ7 := hid (HQ6.out.next hx7)
  have HP7 := hid hpp7
  clear hpp7 hx7 K4 HP6 HQ6
  generalize p3 + 1 = p4 at *
  generalize (Value.slice ax nx' cx) = xh at HQ7
  obtain ⟨xh', hxh⟩ : ∃ x, x = xh := ⟨_, rfl⟩
  clear hxh xh'
  go_wp2_with fail
  go_loopw [4] (fun m wr => ∃ (q : Nat) (more : Bool) (us : List UV), q ≤ N ∧ us.length ≤ q ∧ m = .bool more ∧ Hid (QaJ ts R nm hd r q more (us.map uAt) ∧ PaP wr g tb ts q ∧ ∃ y, QyS W1 wr g A nm xh hd r y us)) (fun _ wr => remOf wr g)
  case atStart => exact ⟨p4, true, [], hp4, Nat.zero_le _, rfl, hid ⟨HJ0.out, HP7.out, _, HQ7.out⟩⟩
  case round =>
    clear HJ0 HP7 HQ7 hp4
    obtain ⟨q, more, us, hq, hul, rfl, HS⟩ := hrel
    obtain ⟨hJ, hP, y0, hQ⟩ := HS.out
    have HJ := hid hJ
    have HP := hid hP
    have HQ := hid hQ
    have hrem := hP.rem
    rw [← HN.out] at hrem
    clear HS hJ hP hQ
    cases more with
    | false =>
      obtain ⟨a9, cap9, hPS⟩ := HP.out
      have e0 := hPS.c0
      rw [List.length_drop, ← HN.out] at e0
      by_cases hqn : q < N
      · have hRe := HJ.out.fin1 (by rw [← HN.out]; exact hqn)
        obtain ⟨o9, ea, hc9⟩ := hPS.at' 0 (by rw [List.length_drop, ← HN.out]; omega)
        have eg : (ts.drop q).getD 0 noTk = ts.getD q noTk := by rw [drop_tk (by rw [← HN.out]; exact hqn)]; rfl
        rw [eg] at hc9
        have t0 : wr.cell? ⟨tb, o9, none⟩ = some (.string (kdT (ts.getD q noTk).k)) := hc9 0 (by omega)
        have t1 : wr.cell? ⟨tb, o9 + 1, none⟩ = some (.string (ts.getD q noTk).nm) := hc9 1 (by omega)
        have t2 : wr.cell? ⟨tb, o9 + 2, none⟩ = some (.int .i64 ((ts.getD q noTk).v : Int)) := hc9 2 (by omega)
        have t3 : wr.cell? ⟨tb, o9 + 3, none⟩ = some (.int .i64 ((ts.getD q noTk).at' : Int)) := hc9 3 (by omega)
        have ez : offZ ts q = ((ts.getD q noTk).at' : Int) := if_pos (by rw [← HN.out]; exact hqn)
        have HX := hid (HX1.out.trans HQ.out.ex)
        have HE := hid (fun w' h2 => HNo.out q w' hRe h2)
        rw [ez] at HE
        subst ea
        obtain ⟨n9, hn9⟩ : ∃ n, n = N - q := ⟨_, rfl⟩
        rw [← hn9] at e0
        have i9 : (0 : Int) < (n9 : Int) := by omega
        have KU := hid (unfit_any wr (kdT (ts.getD q noTk).k) (ts.getD q noTk).nm ((ts.getD q noTk).v : Int) ((ts.getD q noTk).at' : Int))
        clear HYes HNo hRe HJ HP HQ HX1 HR0 TC HKd KA HN hPS hc9 eg ez hn9
        generalize kdT (ts.getD q noTk).k = kd9 at *
        generalize (ts.getD q noTk).nm = nm9 at *
        generalize ((ts.getD q noTk).v : Int) = v9 at *
        generalize ((ts.getD q noTk).at' : Int) = z9 at *
        go_wp2_with (first | (go_at_call 114; refine KU.out.mono ?_; rintro e w4 ⟨rfl, hb4⟩; have HX4 := hid (HX.out.trans (Ex.bel hb4)); clear hb4) | fail)
        exact ⟨rfl, HE.out _ HX4.out⟩
      · have hRe := HJ.out.fin2 (by rw [← HN.out]; exact hqn)
        obtain ⟨n9, hn9⟩ : ∃ n, n = N - q := ⟨_, rfl⟩
        rw [← hn9] at e0
        have i9 : ¬ ((0 : Int) < (n9 : Int)) := by omega
        obtain ⟨ax', cx', ex⟩ := own_shapeT2 HQ.out.own1
        obtain ⟨ay, cy, ey⟩ := own_shapeT2 HQ.out.own2
        have hgr : w.heap.size ≠ g := by omega
        have br := (HQ.out.ex.block w.heap.size hs1 hgr).trans HR0.out
        have d0 := HQ.out.c0
        have d1 := HQ.out.c1
        have d2 := HQ.out.c2
        have d3 := HQ.out.c3
        have r0 : wr.cell? ⟨w.heap.size, 0, none⟩ = some (.string ⟨#[]⟩) := cell_of_row _ _ _ _ _ _ br
        have r1 : wr.cell? ⟨w.heap.size, 1, none⟩ = some (.slice none 0 0) := cell_of_row _ _ _ _ _ _ br
        have r2 : wr.cell? ⟨w.heap.size, 2, none⟩ = some (.int .i64 0) := cell_of_row _ _ _ _ _ _ br
        have r3 : wr.cell? ⟨w.heap.size, 3, none⟩ = some (.slice none 0 0) := cell_of_row _ _ _ _ _ _ br
        have fr : ∀ q, wr.frozen? ⟨w.heap.size, q, none⟩ = false := fun q => by unfold World.frozen?; rw [br]; simp
        have f0 := fr 0
        have f1 := fr 1
        have f2 := fr 2
        have f3 := fr 3
        obtain ⟨WF, hWF⟩ : ∃ W, W = (((wr.setCell ⟨w.heap.size, 0, none⟩ (.string nm)).setCell ⟨w.heap.size, 1, none⟩ xh).setCell ⟨w.heap.size, 2, none⟩ (.int .i64 r)).setCell ⟨w.heap.size, 3, none⟩ y0 := ⟨_, rfl⟩
        have h4 := q4_set (a' := .string nm) (b' := xh) (c' := .int .i64 r) (d' := y0) br
        have HE := hid (HYes.out nm xh hd r y0 us WF hRe (by rw [hWF]; exact h4.2 (HQ.out.rows (Nat.le_of_lt hs1))) (by rw [hWF]; exact (((((HX1.out.trans HQ.out.ex).new (Nat.le_refl _)).new (Nat.le_refl _)).new (Nat.le_refl _)).new (Nat.le_refl _))))
        have h41 := h4.1
        rw [← hWF] at h41
        have HQQ := hid h41
        have HWF := hid hWF
        clear HYes HNo hRe HJ HP HQ HX1 HR0 TC HKd KA HN hPS hn9 br fr h4 h41 hWF
        subst ex ey
        generalize hd.length = nh at *
        generalize us.length = nu at *
        go_upto_region 11 with fail
        go_cut [50] from 5 (fun _ wx => Hid (wx = WF))
        case first =>
          go_wp2_with fail
          go_meet
          exact hid HWF.out.symm
        case rest =>
          have hw := hcut.out
          subst wc
          have g0 : WF.cell? ⟨w.heap.size, 0, none⟩ = some (.string nm) := cell_of_row _ _ _ _ _ _ HQQ.out
          have g1 : WF.cell? ⟨w.heap.size, 1, none⟩ = some (.slice ax' nh cx') := cell_of_row _ _ _ _ _ _ HQQ.out
          have g2 : WF.cell? ⟨w.heap.size, 2, none⟩ = some (.int .i64 r) := cell_of_row _ _ _ _ _ _ HQQ.out
          have g3 : WF.cell? ⟨w.heap.size, 3, none⟩ = some (.slice ay nu cy) := cell_of_row _ _ _ _ _ _ HQQ.out
          clear d0 d1 d2 d3 r0 r1 r2 r3 f0 f1 f2 f3
          rename_i KK1 hKK1
          refine hKK1 _ _ ?_
          refine wp_ret ?_
          refine bodyPost_ret (v := .agg #[.string nm, .slice ax' nh cx', .int .i64 r, .slice ay nu cy]) (by simp [results, Tryd.results90, go_sem, g0, g1, g2, g3]) rfl ?_
          exact HE.out
    | true =>
      have hszr : tb < wr.heap.size := by have := HQ.out.ex.size; omega
      have KT0 := KA.out wr.drew q (HP.out.below (Below.refl _ _).drew) hszr
      obtain ⟨ay, cy, ey⟩ := own_shapeT2 HQ.out.own2
      obtain ⟨ny', hny'⟩ : ∃ n, n = us.length := ⟨_, rfl⟩
      rw [← hny'] at ey
      subst ey
      have cc3 := HQ.out.c3
      cases hm : atmF ts q with
      | error pe =>
        have hRe := HJ.out.bad1 hm
        have KT : Hid (Calls Tryd.prog 113 #[.pointer (some ⟨g, 0, none⟩)] wr.drew fun e w' => e = .panicked (flt (offZ ts pe)) ∧ Ex g wr w') := hid (KT0.mono fun e w' hh => by
          rw [hm] at hh
          rcases hh with ⟨rel, x, tm, p', h1, -⟩ | ⟨pe', h1, h2, h3⟩
          · cases h1
          · rw [h2, Except.error.inj h1]
            exact ⟨rfl, (Ex.bel (Below.refl _ _).drew).trans h3⟩)
        have HE := hid (fun w' h2 => HNo.out pe w' hRe h2)
        have HX := hid (HX1.out.trans HQ.out.ex)
        clear HYes HNo hRe hm KT0 KA TC HKd HJ HP HQ HX1 HR0 HN
        generalize offZ ts pe = z at *
        go_upto_region 8 with fail
        refine wp_region_any (by kernel_rfl) ?_
        change wpAny _ _ _ _ _ _ _ (World.drew _)
        refine wpAny_take (i := 0) (v := ?_) rfl (by kernel_rfl) (by kernel_rfl) (by kernel_rfl) (fun _ _ _ h => h) (Or.inl ⟨by rfl, ?_⟩) ?_
        rotate_left
        · intro w; go_simp; first | done | with_reducible rfl
        refine wpAny_take (i := 2) (v := ?_) rfl (by kernel_rfl) (by kernel_rfl) (by kernel_rfl) (fun _ _ _ h => h) (Or.inl ⟨by rfl, ?_⟩) ?_
        rotate_left
        · intro w; go_simp; first | done | with_reducible rfl
        refine wpAny_ready (rs := [1, 3]) (by kernel_rfl) (by simp) ?_
        refine AllReady.cons rfl (fun K hK => ?_) ?_
        · go_simp
          refine hK _ _ ?_
          clear hK K
          refine wpAny_ready (rs := [3]) (by kernel_rfl) (by simp) ?_
          refine AllReady.cons rfl (fun K hK => ?_) AllReady.nil
          (go_simp; go_at_call 113; (with_reducible refine KT.out.mono ?_); rintro e w5 ⟨rfl, hx5⟩; exact ⟨rfl, HE.out _ (HX.out.trans hx5)⟩)
        refine AllReady.cons rfl (fun K hK => ?_) AllReady.nil
        (go_simp; go_at_call 113; (with_reducible refine KT.out.mono ?_); rintro e w5 ⟨rfl, hx5⟩; exact ⟨rfl, HE.out _ (HX.out.trans hx5)⟩)
      | ok av =>
        obtain ⟨⟨rel5, tm5⟩, p5⟩ := av
        have hpos := atm_pos hm
        rw [← HN.out] at hpos
        have KT : Hid (Calls Tryd.prog 113 #[.pointer (some ⟨g, 0, none⟩)] wr.drew fun e w' => ∃ x, e = .returned (.agg #[.string rel5, x]) ∧ w'.ownsRow wr.heap.size 145 2 x tm5.length (tm5.flatMap tmc) ∧ PaP w' g tb ts p5 ∧ Ex g wr w') := hid (KT0.mono fun e w' hh => by
          rw [hm] at hh
          rcases hh with ⟨rel, x, tm, p', h1, h2, h3, h4, h5⟩ | ⟨pe', h1, h2, h3⟩
          · have e1 := Except.ok.inj h1
            have e2 : rel5 = rel := congrArg (fun z => z.1.1) e1
            have e3 : tm5 = tm := congrArg (fun z => z.1.2) e1
            have e4 : p5 = p' := congrArg (fun z => z.2) e1
            subst e2 e3 e4
            exact ⟨x, h2, h3, h4, (Ex.bel (Below.refl _ _).drew).trans h5⟩
          · cases h1)
        have HOA : Hid (∀ W (rel : ByteArray) (x : Value), QyS W1 W g A nm xh hd r (.slice ay ny' cy) us → (W.alloc (.cells #[.string rel, x] 96)).ownsRow W1.heap.size 96 2 (.slice ay ny' cy) ny' (us.flatMap atc)) := hid fun W rel x hW => by have h := hW.own2.alloc (.cells #[.string rel, x] 96); rw [← hny'] at h; exact h
        have HPush : Hid (∀ (W w6 : World) (rel : ByteArray) (x : Value) (tm : List TermV) (o : Obj) (y' : Value), QyS W1 W g A nm xh hd r (.slice ay ny' cy) us → W.ownsRow wr.heap.size 145 2 x tm.length (tm.flatMap tmc) → (W.alloc o).grownBy w6 (Value.slice ay ny' cy).ownBlock → w6.ownsRow W1.heap.size 96 2 y' (ny' + 1) (us.flatMap atc ++ [.string rel, x]) → QyS W1 (w6.setCell ⟨A, 3, none⟩ y') g A nm xh hd r y' (us ++ [(rel, x, tm)])) := hid fun W w6 rel x tm o y' h1 h2 h3 h4 => h1.atom (u := (rel, x, tm)) (own_base h2 HQ.out.ex.size) (HQ.out.apart h2) h3 (by rw [← hny']; exact h4)
        have hnl : ny' ≤ 100001 := by omega
        have hul' : ny' ≤ q := by omega
        have HUl : Hid (us.length = ny') := hid hny'.symm
        have HB2 : Hid (¬ isK ts [44, 46] p5 → R = .error p5) := hid fun j => HJ.out.bad2 hm j
        have HB3 : Hid (isK ts [44, 46] p5 → QaJ ts R nm hd r (p5 + 1) (decide ((ts.getD p5 noTk).k = 44)) (us.map uAt ++ [(rel5, tm5)])) := hid fun j => HJ.out.step hm j
        clear hny' hm KT0 KA HYes HR0 HJ HP
        go_upto_block 1 with fail
        go_cut [34] from 23 to 35 (fun _ wx => Hid (∃ y' x5, QyS W1 wx g A nm xh hd r y' (us ++ [(rel5, x5, tm5)]) ∧ PaP wx g tb ts p5))
        case first =>
          clear HB2 HB3 HNo TC HKd HN HX1
          go_upto_region 8 with fail
          go_region_law (first
            | (go_simp; go_at_call 113; (with_reducible refine KT.out.mono ?_); rintro e w5 ⟨x5, rfl, ht5, hpp5, hx5⟩; obtain ⟨at5, ct5, ex5⟩ := own_shapeT2 ht5; obtain ⟨nt5, hnt5⟩ : ∃ n, n = tm5.length := ⟨_, rfl⟩; rw [← hnt5] at ex5; subst ex5; have HT5 := hid ht5; have ha5 := HQ.out.next hx5; have HA5 := hid ha5; have HP5 := hid hpp5; have d1 := ha5.c3; have dl := ha5.lt; have da : ∀ o', (w5.alloc o').cell? ⟨A, 3, none⟩ = some (.slice ay ny' cy) := (fun o' => (World.cell?_alloc_past _ _ _ dl).trans d1); clear ha5 hpp5 hx5 ht5 hnt5)
            | (refine step_append_lies _ (by rfl) _ _ _ (by rfl) W1.heap.size 96 iA (.agg #[.string ⟨#[]⟩, .slice none 0 0]) 2 40 Tryd.underlying31 ai az0 az1 az2 rfl (by decide) (.slice ay ny' cy) ny' (us.flatMap atc) (by rfl) (HOA.out w5 rel5 (.slice at5 nt5 ct5) HA5.out) ⟨w5.heap.size, 0, none⟩ 1 1 [.string rel5, .slice at5 nt5 ct5] (by rfl) (by rfl) (new2_cell _ _ _ _) (fun u hu => by simp at hu; rcases hu with rfl | rfl <;> rfl) (by decide) (by unfold maxLen; omega) (by omega) (by have := HA5.out.ex.size; simp; omega) (w5.heap.size + 1) (by simp) ?_; intro g6 cp6 w6 hown6 hgrow6 hat6 hlt6; have HN6 := hid (HPush.out w5 w6 rel5 (.slice at5 nt5 ct5) tm5 _ (.slice (some ⟨g6, 0, none⟩) (ny' + 1) cp6) HA5.out HT5.out hgrow6 hown6); have HP6 := hid ((HP5.out.belN (HA5.out.bel2 hgrow6) (by have := HA5.out.hg; omega) htb1).set (o := 3) (v := .slice (some ⟨g6, 0, none⟩) (ny' + 1) cp6) (show A ≠ g from hAg) (show A ≠ tb from hAt)); have b6 := HA5.out.blk2 hgrow6; have d6 : w6.cell? ⟨A, 3, none⟩ = some (.slice ay ny' cy) := (cell_of_row _ _ _ _ _ _ b6); have f6 : w6.frozen? ⟨A, 3, none⟩ = false := (by unfold World.frozen?; rw [b6]; simp); clear hown6 hgrow6 hat6 hlt6 b6)
            | fail)
          all_goals (go_wp2_with fail; go_meet)
          all_goals exact hid ⟨_, _, HN6.out, HP6.out⟩
        case rest =>
        obtain ⟨y6, x6, hq6, hp6⟩ := hcut.out
        have HQ6 := hid hq6
        have HP6 := hid hp6
        clear hcut hq6 hp6 HOA HPush KT HQ cc3
        by_cases j2 : isK ts [44, 46] p5
        case neg =>
          have K7 := hid (TC.out.2 wc p5 HP6.out j2)
          have HE := hid (fun w' h2 => HNo.out p5 w' (HB2.out j2) h2)
          have HX := hid (HX1.out.trans HQ6.out.ex)
          clear HNo j2 TC HKd HP6 HQ6 HX1 HN HB2 HB3
          generalize offZ ts p5 = z at *
          go_wp2_with fail
          refine K7.out.mono ?_
          rintro e w8 ⟨rfl, hx8⟩
          go_wp2_with fail
          exact ⟨rfl, HE.out _ (HX.out.trans hx8)⟩
        case pos =>
          obtain ⟨uk, unm, uv, ua, huk, -, -, -, hK7⟩ := TC.out.1 wc p5 HP6.out j2
          have K7 := hid hK7
          have hkd := HKd.out p5 j2.1
          have hq2 : p5 + 1 ≤ N := by have := j2.1; have := HN.out; omega
          have HJ8 : Hid (QaJ ts R nm hd r (p5 + 1) (decide ((ts.getD p5 noTk).k = 44)) ((us ++ [((rel5, x6, tm5) : UV)]).map uAt)) := hid (by rw [List.map_append]; exact HB3.out j2)
          have HUl2 : Hid ((us ++ [((rel5, x6, tm5) : UV)]).length = ny' + 1) := hid (by rw [List.length_append, List.length_singleton, HUl.out])
          rw [← huk] at hkd HJ8
          clear hK7 huk HB2 HB3 HNo TC HKd j2
          generalize decide (uk = 44) = mb at *
          generalize us ++ [((rel5, x6, tm5) : UV)] = us' at *
          go_wp2_with fail
          refine K7.out.mono ?_
          rintro e w8 ⟨rfl, hpp8, hx8⟩
          have HA8 := hid (HQ6.out.next hx8)
          have HP8 := hid hpp8
          have hrem8 := hpp8.rem
          rw [← HN.out] at hrem8
          clear hpp8 hx8 K7 HQ6 HP6
          generalize kdT uk = kd8 at *
          go_wp2_with fail
          go_roundw
          case rel => exact ⟨p5 + 1, mb, us', hq2, by rw [HUl2.out]; omega, by first | rfl | rw [hkd], hid ⟨HJ8.out, HP8.out, _, HA8.out⟩⟩
          case measure => rw [hrem8, hrem]; omega

end Go.Proofs.YtcdfoephhjacdaaDoor
