import Derived.Test.YtcdfoephhjacdaaDoorQ62
import Derived.Test.YtcdfoephhjacdaaDoorQ70
/-
  The program's parser: atom, walked.
-/
namespace Go.Proofs.YtcdfoephhjacdaaDoor
open Go.RowKit

theorem Tryd.fieldK0 (b c d e : Value) (w : World) : Sem.run Tryd.prog (Instr.field 151 (.agg #[b, c, d, e]) 0) w = .ok b w := by kernel_rfl
theorem Tryd.fieldK1 (b c d e : Value) (w : World) : Sem.run Tryd.prog (Instr.field 151 (.agg #[b, c, d, e]) 1) w = .ok c w := by kernel_rfl

set_option maxHeartbeats 16000000 in
set_option maxRecDepth 1000000 in
theorem pAtom_calls (w : World) (g tb p : Nat) (ts : List TkV) (h : PaP w g tb ts p) (htb : tb < w.heap.size) (hok : ∀ j, j < ts.length → TkOk (ts.getD j noTk)) (hl : ts.length ≤ 100000) :
    Calls Tryd.prog 113 #[.pointer (some ⟨g, 0, none⟩)] w (AtP w g tb ts (atmF ts p)) := by
  obtain ⟨iT, hi, hz0, hz1, hz2⟩ := info_parts Tryd.infoTm
  have fk0 := Tryd.fieldK0
  have fk1 := Tryd.fieldK1
  obtain ⟨W1, hW1⟩ : ∃ W, W = w.alloc (.cells #[.string ⟨#[]⟩, .slice none 0 0] 96) := ⟨_, rfl⟩
  have hB1 : Below w.heap.size w W1 := by rw [hW1]; exact (Below.refl _ _).alloc (Nat.le_refl _) _
  have hR0 : W1.heap[w.heap.size]? = some (.cells #[.string ⟨#[]⟩, .slice none 0 0] 96 (0, 0)) := by rw [hW1]; exact heap_alloc_new _ _
  have hs1 : w.heap.size < W1.heap.size := by rw [hW1]; simp
  have hglt := h.lt
  have HX1 : Hid (Ex g w W1) := hid (Ex.bel hB1)
  have HR0 := hid hR0
  have HP1 := hid (h.below hB1)
  have T97 : Hid (TkC g tb ts [97] #[.string ⟨#[97]⟩] 1) := hid (TkC.mk' [97] rfl rfl (by decide) (by simp) hok hl)
  have T40 : Hid (TkC g tb ts [40] #[.string ⟨#[40]⟩] 1) := hid (TkC.mk' [40] rfl rfl (by decide) (by simp) hok hl)
  have T9748 : Hid (TkC g tb ts [97, 48] #[.string ⟨#[97]⟩, .string ⟨#[48]⟩] 2) := hid (TkC.mk' [97, 48] rfl rfl (by decide) (by simp) hok hl)
  have T4441 : Hid (TkC g tb ts [44, 41] #[.string ⟨#[44]⟩, .string ⟨#[41]⟩] 2) := hid (TkC.mk' [44, 41] rfl rfl (by decide) (by simp) hok hl)
  have HKd : Hid (∀ q, q < ts.length → ((kdT (ts.getD q noTk).k).toList == [44]) = decide ((ts.getD q noTk).k = 44)) := hid fun q hq => by
    have := kd_eq (hok q hq) (show 44 < 256 by decide)
    have e : (kdT 44).toList = [44] := by unfold kdT; simp only [ByteArray.toList_eq]; rfl
    rw [e] at this
    exact this
  obtain ⟨R, hR⟩ : ∃ R, R = atmF ts p := ⟨_, rfl⟩
  have HA1 : Hid (¬ isK ts [97] p → R = .error p) := hid fun hk => by rw [hR]; unfold atmF; rw [tk_isnt hk]
  have HA2 : Hid (isK ts [97] p → ¬ isK ts [40] (p + 1) → R = .error (p + 1)) := hid fun hk hk2 => by rw [hR]; unfold atmF; rw [tk_is hk]; simp only; rw [tk_isnt hk2]
  have HA3 : Hid (isK ts [97] p → isK ts [40] (p + 1) → AtJ ts R (ts.getD p noTk).nm (p + 1 + 1) true []) := hid fun hk hk2 => by
    refine ⟨ts.length + 1, by omega, ?_⟩
    rw [hR]; unfold atmF; rw [tk_is hk]; simp only; rw [tk_is hk2]; rfl
  rw [← hR]
  generalize hE : AtP w g tb ts R = E
  have HNo : Hid (∀ pe w', R = .error pe → Ex g w w' → E (.panicked (flt (offZ ts pe))) w') := hid fun pe w' h1 h2 => by rw [← hE]; exact Or.inr ⟨pe, h1, rfl, h2⟩
  have HYes : Hid (∀ rel x tm p' w', R = .ok ((rel, tm), p') → w'.ownsRow w.heap.size 145 2 x tm.length (tm.flatMap tmc) → PaP w' g tb ts p' → Ex g w w' → E (.returned (.agg #[.string rel, x])) w') := hid fun rel x tm p' w' h1 h2 h3 h4 => by rw [← hE]; exact Or.inl ⟨rel, x, tm, p', h1, rfl, h2, h3, h4⟩
  clear hE hR h hok
  by_cases k1 : isK ts [97] p
  case neg =>
    have hRe := HA1.out k1
    have K1 := hid (T97.out.2 W1 p HP1.out k1)
    have HE := hid (fun w' h2 => HNo.out p w' hRe h2)
    clear HA1 HA2 HA3 HYes HNo hRe k1 T97 T40 T9748 T4441 HKd HP1 HR0
    generalize offZ ts p = z at *
    go_enter Tryd.func113, Tryd.ntmps113
    go_upto_region 1 with fail
    rw [← hW1]
    clear hW1
    go_wp2_with fail
    refine K1.out.mono ?_
    rintro e w2 ⟨rfl, hx2⟩
    go_wp2_with fail
    exact ⟨rfl, HE.out _ (HX1.out.trans hx2)⟩
  case pos =>
  obtain ⟨k, rel, v1, a1, -, hrel, -, -, hK1⟩ := T97.out.1 W1 p HP1.out k1
  have K1 := hid hK1
  rw [← hrel] at HA3
  generalize kdT k = kd1 at *
  clear hK1 hrel HA1 T97
  by_cases k2 : isK ts [40] (p + 1)
  case neg =>
    have hRe := HA2.out k1 k2
    have K2 : Hid (∀ W, PaP W g tb ts (p + 1) → _) := hid fun W hW => T40.out.2 W (p + 1) hW k2
    have HE := hid (fun w' h2 => HNo.out (p + 1) w' hRe h2)
    clear HA2 HA3 HYes HNo hRe k1 k2 T40 T9748 T4441 HKd HP1 HR0
    generalize offZ ts (p + 1) = z at *
    go_enter Tryd.func113, Tryd.ntmps113
    go_upto_region 1 with fail
    rw [← hW1]
    clear hW1
    go_wp2_with fail
    refine K1.out.mono ?_
    rintro e w2 ⟨rfl, hp2, hx2⟩
    go_upto_region 2 with fail
    obtain ⟨W3, hW3⟩ : ∃ W, W = w2.alloc (.cells #[.string rel, .slice none 0 0] 96) := ⟨_, rfl⟩
    have hb3 : Below w2.heap.size w2 W3 := by rw [hW3]; exact (Below.refl _ _).alloc (Nat.le_refl _) _
    have K3 := hid (K2.out W3 (hp2.below hb3))
    have HX3 : Hid (Ex g w W3) := hid ((HX1.out.trans hx2).trans (Ex.bel hb3))
    rw [← hW3]
    clear hW3 hb3 hp2 hx2 K2 K1
    go_wp2_with fail
    refine K3.out.mono ?_
    rintro e w4 ⟨rfl, hx4⟩
    go_wp2_with fail
    exact ⟨rfl, HE.out _ (HX3.out.trans hx4)⟩
  case pos =>
  have K2 : Hid (∀ W, PaP W g tb ts (p + 1) → ∃ va : Value, Calls Tryd.prog 111 #[.pointer (some ⟨g, 0, none⟩), .slice (some ⟨W.heap.size, 0, none⟩) 1 1] (W.alloc (.cells #[.string ⟨#[40]⟩] 9)) fun e w' => e = .returned va ∧ PaP w' g tb ts (p + 1 + 1) ∧ Ex g W w') := hid fun W hW => by
    obtain ⟨k, nm, v, a, -, -, -, -, hK⟩ := T40.out.1 W (p + 1) hW k2
    exact ⟨_, hK⟩
  have HJ0 := hid (HA3.out k1 k2)
  have hp2 : p + 1 + 1 ≤ ts.length := k2.1
  clear HA2 HA3 k1 k2 T40 HP1
  have hle : ts.length ≤ 100000 := hl
  go_enter Tryd.func113, Tryd.ntmps113
  go_upto_region 1 with fail
  rw [← hW1]
  clear hW1
  go_wp2_with fail
  refine K1.out.mono ?_
  rintro e w2 ⟨rfl, hpp2, hx2⟩
  go_upto_region 2 with fail
  obtain ⟨W3, hW3⟩ : ∃ W, W = w2.alloc (.cells #[.string rel, .slice none 0 0] 96) := ⟨_, rfl⟩
  have hb3 : Below w2.heap.size w2 W3 := by rw [hW3]; exact (Below.refl _ _).alloc (Nat.le_refl _) _
  obtain ⟨va, hK3⟩ := K2.out W3 (hpp2.below hb3)
  have K3 := hid hK3
  have HAt : Hid (AtS W1 W3 g w2.heap.size rel (.slice none 0 0) []) := hid ⟨by rw [hW3]; exact heap_alloc_new _ _, ⟨rfl, Or.inl ⟨rfl, rfl⟩⟩, by rw [hW3]; exact hx2.allocd _, hx2.size, by omega⟩
  rw [← hW3]
  obtain ⟨A, hA⟩ : ∃ A, A = w2.heap.size := ⟨_, rfl⟩
  rw [← hA] at HAt ⊢
  clear hW3 hb3 hpp2 hx2 K2 K1 hK3 hA
  go_upto_region 3 with (first | (go_at_call 111; refine K3.out.mono ?_; rintro e w4 ⟨rfl, hpp4, hx4⟩) | fail)
  have HAt := hid (HAt.out.next hx4)
  have HP4 := hid hpp4
  clear hx4 hpp4 K3
  generalize p + 1 + 1 = q0 at *
  obtain ⟨N, hN⟩ : ∃ N, N = ts.length := ⟨_, rfl⟩
  have HN := hid hN
  rw [← hN] at hle hp2
  clear hN hl
  go_wp2_with fail
  go_loopw [4] (fun m wr => ∃ (q : Nat) (more : Bool) (acc : List TermV), q ≤ N ∧ acc.length ≤ q ∧ m = .bool more ∧ Hid (AtJ ts R rel q more acc ∧ PaP wr g tb ts q ∧ ∃ x, AtS W1 wr g A rel x acc)) (fun _ wr => remOf wr g)
  case atStart => exact ⟨q0, true, [], hp2, Nat.zero_le _, rfl, hid ⟨HJ0.out, HP4.out, _, HAt.out⟩⟩
  case round =>
    clear HJ0 HP4 HAt hp2
    obtain ⟨q, more, acc, hq, hal, rfl, HS⟩ := hrel
    obtain ⟨hJ, hP, x0, hA⟩ := HS.out
    have HJ := hid hJ
    have HP := hid hP
    have HAt := hid hA
    have hrem := hP.rem
    rw [← HN.out] at hrem
    clear HS hJ hP hA
    cases more with
    | false =>
      obtain ⟨ax, cx, ex⟩ := own_shapeT2 HAt.out.own
      subst ex
      have hgr : w.heap.size ≠ g := by omega
      have d0 := HAt.out.c0
      have d1 := HAt.out.c1
      have br := (HAt.out.ex.block w.heap.size hs1 hgr).trans HR0.out
      have r0 : wr.cell? ⟨w.heap.size, 0, none⟩ = some (.string ⟨#[]⟩) := cell_of_row _ _ _ _ _ _ br
      have r1 : wr.cell? ⟨w.heap.size, 1, none⟩ = some (.slice none 0 0) := cell_of_row _ _ _ _ _ _ br
      have f0 : wr.frozen? ⟨w.heap.size, 0, none⟩ = false := by unfold World.frozen?; rw [br]; simp
      have f1 : wr.frozen? ⟨w.heap.size, 1, none⟩ = false := by unfold World.frozen?; rw [br]; simp
      have hfin := at2_set (x := .string rel) (y := .slice ax acc.length cx) br
      have hm1 : (wr.setCell ⟨w.heap.size, 0, none⟩ (.string rel)).heap[w.heap.size]? = some (.cells #[.string rel, .slice none 0 0] 96 (0, 0)) := by rw [heap_setCell_same _ _ _ _ _ _ br]; rfl
      obtain ⟨WF, hWF⟩ : ∃ W, W = (wr.setCell ⟨w.heap.size, 0, none⟩ (.string rel)).setCell ⟨w.heap.size, 1, none⟩ (.slice ax acc.length cx) := ⟨_, rfl⟩
      have HE := hid (HYes.out rel (.slice ax acc.length cx) acc q WF HJ.out (by rw [hWF]; exact own_setA (own_setA (own_base HAt.out.own (Nat.le_of_lt hs1)) br) hm1) (by rw [hWF]; exact (HP.out.set hgr (by omega)).set hgr (by omega)) (by rw [hWF]; exact ((HX1.out.trans HAt.out.ex).new (Nat.le_refl _)).new (Nat.le_refl _)))
      rw [← hWF] at hfin
      have HFN := hid hfin
      have HWF := hid hWF
      clear hfin hm1 br hWF HYes HNo HJ HP HAt HX1 HR0 T9748 T4441 HKd HN
      go_upto_region 8 with fail
      go_cut [33] from 5 (fun _ wx => Hid (wx = WF))
      case first =>
        go_wp2_with fail
        go_meet
        exact hid HWF.out.symm
      case rest =>
        have hw := hcut.out
        subst wc
        have q0 : WF.cell? ⟨w.heap.size, 0, none⟩ = some (.string rel) := cell_of_row _ _ _ _ _ _ HFN.out
        have q1 : WF.cell? ⟨w.heap.size, 1, none⟩ = some (.slice ax acc.length cx) := cell_of_row _ _ _ _ _ _ HFN.out
        clear d0 d1 r0 r1 f0 f1
        rename_i KK1 hKK1
        refine hKK1 _ _ ?_
        refine wp_ret ?_
        refine bodyPost_ret (v := .agg #[.string rel, .slice ax acc.length cx]) (by simp [results, Tryd.results113, go_sem, q0, q1]) rfl ?_
        exact HE.out
    | true =>
      by_cases j1 : isK ts [97, 48] q
      case neg =>
        have hRe := HJ.out.bad1 j1
        have K5 := hid (T9748.out.2 wr q HP.out j1)
        have HX := hid (HX1.out.trans HAt.out.ex)
        have HE := hid (fun w' h2 => HNo.out q w' hRe h2)
        clear HYes HNo hRe j1 T9748 T4441 HKd HP HAt HX1 HR0 HJ HN
        generalize offZ ts q = z at *
        go_wp2_with fail
        refine K5.out.mono ?_
        rintro e w5 ⟨rfl, hx5⟩
        go_wp2_with fail
        exact ⟨rfl, HE.out _ (HX.out.trans hx5)⟩
      case pos =>
      obtain ⟨tk', tnm, tvv, tat, -, htnm, htvv, -, hK5⟩ := T9748.out.1 wr q HP.out j1
      have K5 := hid hK5
      have HTn := hid htnm
      have HTv := hid htvv
      clear htnm htvv
      generalize kdT tk' = kd5 at *
      have hq1 : q + 1 ≤ N := by have := j1.1; have := HN.out; omega
      clear hK5
      go_wp2_with fail
      refine K5.out.mono ?_
      rintro e w5 ⟨rfl, hpp5, hx5⟩
      have HA5 := hid (HAt.out.next hx5)
      have HP5 := hid hpp5
      clear hpp5 hx5 K5 HAt
      go_upto_region 7 with fail
      obtain ⟨W6, hW6⟩ : ∃ W, W = w5.alloc (.cells #[.string kd5, .string tnm, .int .i64 (tvv : Int), .int .i64 (tat : Int)] 151) := ⟨_, rfl⟩
      have hb6 : Below w5.heap.size w5 W6 := by rw [hW6]; exact (Below.refl _ _).alloc (Nat.le_refl _) _
      have hbl : W6.heap[w5.heap.size]? = some (.cells #[.string kd5, .string tnm, .int .i64 (tvv : Int), .int .i64 (tat : Int)] 151 (0, 0)) := by rw [hW6]; exact heap_alloc_new _ _
      have t1 : W6.cell? ⟨w5.heap.size, 1, none⟩ = some (.string tnm) := cell_of_row _ _ _ _ _ _ hbl
      have t2 : W6.cell? ⟨w5.heap.size, 2, none⟩ = some (.int .i64 (tvv : Int)) := cell_of_row _ _ _ _ _ _ hbl
      have HA6 := hid (HA5.out.next (Ex.bel hb6))
      have HP6' := hid (HP5.out.below hb6)
      rw [← hW6]
      clear hW6 hb6 hbl HA5 HP5
      obtain ⟨ax, cx, ex⟩ := own_shapeT2 HA6.out.own
      obtain ⟨nx', hnx'⟩ : ∃ n, n = acc.length := ⟨_, rfl⟩
      rw [← hnx'] at ex
      subst ex
      have hAg : A ≠ g := by have := HA6.out.hA; have := HA6.out.hg; omega
      have hAt : A ≠ tb := by have := HA6.out.hA; omega
      have c1 := HA6.out.c1
      have HOA : Hid (W6.ownsRow W1.heap.size 145 2 (.slice ax nx' cx) nx' (acc.flatMap tmc)) := hid (by have h := HA6.out.own; rw [← hnx'] at h; exact h)
      have HSz := hid HA6.out.ex.size
      have HPush : Hid (∀ (w6 : World) (o : Obj) (x' : Value), (W6.alloc o).grownBy w6 (Value.slice ax nx' cx).ownBlock → w6.ownsRow W1.heap.size 145 2 x' (nx' + 1) (acc.flatMap tmc ++ [.string tnm, .int .i64 (tvv : Int)]) → AtS W1 (w6.setCell ⟨A, 1, none⟩ x') g A rel x' (acc ++ [(tnm, (tvv : Int))])) := hid fun w6 o x' h2 h3 => HA6.out.push (t := (tnm, (tvv : Int))) h2 (by rw [← hnx']; exact h3)
      have HPar : Hid (∀ (w6 : World) (o : Obj) (x' : Value), (W6.alloc o).grownBy w6 (Value.slice ax nx' cx).ownBlock → PaP (w6.setCell ⟨A, 1, none⟩ x') g tb ts (q + 1)) := hid fun w6 o x' h2 => (HP6'.out.belN (HA6.out.bel3 h2) (by omega) (by omega)).set hAg hAt
      have HBl : Hid (∀ (w6 : World) (o : Obj), (W6.alloc o).grownBy w6 (Value.slice ax nx' cx).ownBlock → w6.heap[A]? = some (.cells #[.string rel, .slice ax nx' cx] 96 (0, 0))) := hid fun w6 o h2 => HA6.out.blk3 h2
      have hnl : nx' ≤ 100001 := by omega
      have HAcc : Hid ((acc ++ [(tnm, (tvv : Int))]).length = nx' + 1) := hid (by rw [List.length_append, List.length_singleton, hnx'])
      have hal' : nx' ≤ q := by omega
      have da : ∀ o', (W6.alloc o').cell? ⟨A, 1, none⟩ = some (.slice ax nx' cx) := fun o' => (World.cell?_alloc_past _ _ _ HA6.out.lt).trans c1
      clear hnx' HA6 HP6'
      generalize w5.heap.size = tl at *
      go_upto_region 5 with (first | (at_builtin; refine wpList_append_lies _ rfl _ _ 94 rfl W1.heap.size 145 iT (.agg #[.string ⟨#[]⟩, .int .i64 0]) 2 24 Tryd.underlying94 hi hz0 hz1 hz2 rfl (by decide) (.slice ax nx' cx) nx' (acc.flatMap tmc) rfl (HOA.out.alloc _) ⟨_, 0, none⟩ 1 1 [.string tnm, .int .i64 (tvv : Int)] rfl rfl (new2_cell _ _ _ _) (fun u hu => by simp at hu; rcases hu with rfl | rfl <;> rfl) (by decide) (by unfold maxLen; omega) (by omega) (by have := HSz.out; simp; omega) _ rfl ?_; intro g6 cp6 w6 hown6 hgrow6 hat6 hlt6; have HN6 := hid (HPush.out w6 _ (.slice (some ⟨g6, 0, none⟩) (nx' + 1) cp6) hgrow6 hown6); have HP6 := hid (HPar.out w6 _ (.slice (some ⟨g6, 0, none⟩) (nx' + 1) cp6) hgrow6); have b6 := HBl.out w6 _ hgrow6; have d6 : w6.cell? ⟨A, 1, none⟩ = some (.slice ax nx' cx) := (cell_of_row _ _ _ _ _ _ b6); have f6 : w6.frozen? ⟨A, 1, none⟩ = false := (by unfold World.frozen?; rw [b6]; simp); clear hown6 hgrow6 hat6 hlt6 b6) | fail)
      clear c1 d6 f6 t1 t2 HOA HPush HPar HBl HSz da
      generalize w6.setCell ⟨A, 1, none⟩ (.slice (some ⟨g6, 0, none⟩) (nx' + 1) cp6) = W7 at *
      have HST : Hid (∀ j2 : isK ts [44, 41] (q + 1), AtJ ts R rel (q + 1 + 1) (decide ((ts.getD (q + 1) noTk).k = 44)) (acc ++ [(tnm, (tvv : Int))])) := hid fun j2 => by have := HJ.out.step j1 j2; rw [← HTn.out, ← HTv.out] at this; exact this
      have HB2 : Hid (¬ isK ts [44, 41] (q + 1) → R = .error (q + 1)) := hid fun j2 => HJ.out.bad2 j1 j2
      have HX7 := hid (HX1.out.trans HN6.out.ex)
      clear HJ j1 HTn HTv T9748
      by_cases j2 : isK ts [44, 41] (q + 1)
      case neg =>
        have hRe := HB2.out j2
        have K7 := hid (T4441.out.2 W7 (q + 1) HP6.out j2)
        have HE := hid (fun w' h2 => HNo.out (q + 1) w' hRe h2)
        clear HYes HNo hRe j2 T4441 HKd HP6 HN6 HX1 HR0 HN HST HB2
        generalize offZ ts (q + 1) = z at *
        go_wp2_with fail
        refine K7.out.mono ?_
        rintro e w8 ⟨rfl, hx8⟩
        go_wp2_with fail
        exact ⟨rfl, HE.out _ (HX7.out.trans hx8)⟩
      case pos =>
        obtain ⟨uk, unm, uv, ua, huk, -, -, -, hK7⟩ := T4441.out.1 W7 (q + 1) HP6.out j2
        have K7 := hid hK7
        have hkd := HKd.out (q + 1) j2.1
        have hq2 : q + 1 + 1 ≤ N := by have := j2.1; have := HN.out; omega
        have HJ8 := hid (HST.out j2)
        rw [← huk] at hkd HJ8
        clear hK7 huk HST HB2 HNo HYes T4441 HKd HR0 j2
        generalize decide (uk = 44) = mb at *
        go_wp2_with fail
        refine K7.out.mono ?_
        rintro e w8 ⟨rfl, hpp8, hx8⟩
        have HA8 := hid (HN6.out.next hx8)
        have HP8 := hid hpp8
        have hrem8 := hpp8.rem
        rw [← HN.out] at hrem8
        clear hpp8 hx8 K7 HN6 HP6
        generalize kdT uk = kd8 at *
        go_wp2_with fail
        go_roundw
        case rel => exact ⟨q + 1 + 1, mb, _, hq2, by rw [HAcc.out]; omega, by first | rfl | rw [hkd], hid ⟨HJ8.out, HP8.out, _, HA8.out⟩⟩
        case measure => rw [hrem8, hrem]; omega

end Go.Proofs.YtcdfoephhjacdaaDoor

/-
  A word of a query's text: plain mathematics.
-/
namespace Go.Proofs.YtcdfoephhjacdaaDoor
open Go.RowKit

def trm0 (l : List UInt8) : List UInt8 := l.dropWhile fun b => b == 48
def trmB (s : ByteArray) : ByteArray := ⟨(trm0 s.data.toList).toArray⟩
theorem trmB_list (s : ByteArray) : (trmB s).data.toList = trm0 s.data.toList := by unfold trmB; simp
theorem dv_cons (b : UInt8) (l : List UInt8) (h : b = 48) : dv (b :: l) = dv l := by
  subst h
  rfl
theorem dv_trm : ∀ l : List UInt8, dv (trm0 l) = dv l
  | [] => rfl
  | b :: l => by
    unfold trm0
    rw [List.dropWhile_cons]
    by_cases h : (b == 48) = true
    · rw [if_pos h, dv_cons b l (by simpa using h)]
      exact dv_trm l
    · rw [if_neg h]
theorem trm_head : ∀ (l : List UInt8) (b : UInt8), (trm0 l).head? = some b → b ≠ 48
  | [], b, h => by simp [trm0] at h
  | x :: l, b, h => by
    unfold trm0 at h
    rw [List.dropWhile_cons] at h
    by_cases hx : (x == 48) = true
    · rw [if_pos hx] at h
      exact trm_head l b h
    · rw [if_neg hx] at h
      simp at h
      subst h
      simpa using hx
theorem trm_mem (l : List UInt8) (b : UInt8) (h : b ∈ trm0 l) : b ∈ l := (List.dropWhile_sublist _).subset h
theorem trm_num {l : List UInt8} (hd : ∀ b ∈ l, dgt b = true) (hne : trm0 l ≠ []) : NumT (trm0 l) :=
  ⟨hne, fun b hb => hd b (trm_mem l b hb), fun h => absurd rfl (trm_head l 48 h)⟩
theorem trm_none {l : List UInt8} (h : trm0 l = []) : dv l = 0 := by rw [← dv_trm, h]; rfl
theorem trm_first {b : UInt8} {l : List UInt8} (h : b ≠ 48) : trm0 (b :: l) = b :: l := by
  unfold trm0
  rw [List.dropWhile_cons, if_neg (by simpa using h)]

/-- what wordToken makes of a word -/
def wdG (s : ByteArray) : Bool := if nameB s then true else if (trmB s).size = 0 then decide (s.size ≠ 0) else numG (trmB s) 1000000
def wtK (s : ByteArray) : Nat := if nameB s then 97 else 48
def wdN (s : ByteArray) : ByteArray := if nameB s then s else ⟨#[]⟩
def wtV (s : ByteArray) : Nat := if nameB s then 0 else if (trmB s).size = 0 then 0 else numN (trmB s) 1000000

/-- how long the word at o is -/
def wln (s : ByteArray) (o : Nat) : Nat := if digitB (byteAt s o) then rn digitB s o else rn nbyteB s o
theorem wln_le (s : ByteArray) (o : Nat) (ho : o ≤ s.size) : o + wln s o ≤ s.size := by
  unfold wln
  split
  · exact rn_le _ _ _ ho
  · exact rn_le _ _ _ ho
theorem ext_list (s : ByteArray) (o n : Nat) : (s.extract o (o + n)).data.toList = stretch s o n := by
  rw [ByteArray.data_extract, Array.toList_extract, List.extract_eq_take_drop]
  unfold stretch
  rw [show o + n - o = n by omega]
theorem take_mem {α : Type} (p : α → Bool) : ∀ (l : List α) (b : α), b ∈ l.takeWhile p → p b = true
  | [], b, h => by simp at h
  | x :: l, b, h => by
    rw [List.takeWhile_cons] at h
    by_cases hx : p x = true
    · rw [if_pos hx, List.mem_cons] at h
      rcases h with rfl | h
      · exact hx
      · exact take_mem p l b h
    · rw [if_neg hx] at h; simp at h
theorem stretch_all (p : Int → Bool) (s : ByteArray) (o : Nat) : ∀ b ∈ stretch s o (rn p s o), p (b.toNat : Int) = true := fun b hb => by
  unfold stretch rn at hb
  have e : (s.data.toList.drop o).take ((s.data.toList.drop o).takeWhile fun b => p (b.toNat : Int)).length = (s.data.toList.drop o).takeWhile fun b => p (b.toNat : Int) := by
    have h := List.takeWhile_prefix (l := s.data.toList.drop o) (fun b => p (b.toNat : Int))
    exact (List.prefix_iff_eq_take.1 h).symm
  rw [e] at hb
  exact take_mem (fun b => p (b.toNat : Int)) _ b hb
theorem stretch_get {s : ByteArray} {o n i : Nat} (hi : i < n) (h : o + i < s.size) : (stretch s o n)[i]? = some (s.data.toList.getD (o + i) 0) := by
  unfold stretch
  rw [List.getElem?_take_of_lt hi, byte_drop h]
theorem ext_byte {s : ByteArray} {o n i : Nat} (hi : i < n) (h : o + n ≤ s.size) : byteAt (s.extract o (o + n)) i = byteAt s (o + i) := by
  unfold byteAt
  rw [ext_list, List.getD_eq_getElem?_getD, stretch_get hi (by omega)]
  rfl
theorem nbyte_letter {x : Int} (h : letterB x = true) : nbyteB x = true := by unfold nbyteB; rw [h]; rfl
theorem letter_notdig {x : Int} (h : letterB x = true) : digitB x = false := by
  unfold letterB at h
  unfold digitB
  simp only [Bool.or_eq_true, Bool.and_eq_true, decide_eq_true_eq] at h
  rw [Bool.and_eq_false_iff]
  simp only [decide_eq_false_iff_not]
  omega
theorem numG_no {s : ByteArray} {b : UInt8} {l : List UInt8} (h : s.data.toList = b :: l) (hb : digitB (b.toNat : Int) = false) : numG s 1000000 = false :=
  (num_no fun hn _ => by
    have := hn.dg b (by rw [h]; simp)
    rw [← byte_dgt, hb] at this
    cases this).2
theorem trmB_same {s : ByteArray} {b : UInt8} {l : List UInt8} (h : s.data.toList = b :: l) (hb : b ≠ 48) : trmB s = s := by
  unfold trmB
  rw [h, trm_first hb, ← h]
theorem word_head {s : ByteArray} {o n : Nat} (hn : 0 < n) (h : o + n ≤ s.size) : ∃ l, (s.extract o (o + n)).data.toList = s.data.toList.getD o 0 :: l := by
  rw [ext_list]
  have h0 := stretch_get (s := s) (o := o) hn (by omega)
  cases hs : stretch s o n with
  | nil => rw [hs] at h0; simp at h0
  | cons a l =>
    rw [hs, List.getElem?_cons_zero, Nat.add_zero] at h0
    exact ⟨l, by rw [Option.some.inj h0]⟩
theorem word_bad {s : ByteArray} {o n : Nat} (hn : o + n ≤ s.size) (hl : letterB (byteAt s o) = false ∨ 30 < n) (hd : digitB (byteAt s o) = false) : wdG (s.extract o (o + n)) = false := by
  have hsz : (s.extract o (o + n)).size = n := ext_size s o n hn
  have hnm : nameB (s.extract o (o + n)) = false := by
    unfold nameB
    rw [hsz]
    rcases hl with hl | hl
    · by_cases h0 : 0 < n
      · have hb0 := ext_byte (s := s) (o := o) (n := n) h0 hn
        rw [Nat.add_zero] at hb0
        rw [hb0, hl]
        simp
      · rw [show n = 0 by omega]; simp
    · rw [decide_eq_false (show ¬ n ≤ 30 by omega)]
      simp
  unfold wdG
  rw [hnm, if_neg (by decide)]
  by_cases h0 : 0 < n
  · obtain ⟨l, hl2⟩ := word_head h0 hn
    have hb : digitB (((s.data.toList.getD o 0).toNat : Nat) : Int) = false := hd
    have hne : s.data.toList.getD o 0 ≠ 48 := fun e => by rw [e] at hb; revert hb; decide
    rw [trmB_same hl2 hne, if_neg (by rw [hsz]; omega)]
    exact numG_no hl2 hb
  · have hz : n = 0 := by omega
    have he : (s.extract o (o + n)).data.toList = [] := by rw [ext_list, hz]; rfl
    have ht : (trmB (s.extract o (o + n))).size = 0 := by
      unfold trmB
      rw [he]
      rfl
    rw [if_pos ht, hsz, hz]
    rfl
/-- the token of the word at o, where neither a separator nor a symbol stands -/
theorem word_nx {s : ByteArray} {o : Nat} (ho : o < s.size) (h0 : sepB (byteAt s o) = false) (h1 : symB (byteAt s o) = false) (h2 : ¬ (byteAt s o = 58 ∧ o + 1 < s.size ∧ byteAt s (o + 1) = 45)) :
    nx s o = if wdG (s.extract o (o + wln s o)) then some (some (wtK (s.extract o (o + wln s o)), wdN (s.extract o (o + wln s o)), wtV (s.extract o (o + wln s o))), wln s o) else none := by
  have hw := wln_le s o (by omega)
  have hsz := ext_size s o _ hw
  unfold nx
  rw [if_neg (by rw [h0]; decide)]
  by_cases hl : letterB (byteAt s o) = true
  · rw [if_pos hl]
    have hd := letter_notdig hl
    have ew : wln s o = rn nbyteB s o := by unfold wln; rw [if_neg (by rw [hd]; decide)]
    have hp : 0 < rn nbyteB s o := rn_pos ho (nbyte_letter hl)
    by_cases h30 : rn nbyteB s o ≤ 30
    · rw [if_pos h30]
      have hnm : nameB (s.extract o (o + wln s o)) = true := by
        refine nameB_all (by rw [hsz, ew]; exact hp) (by rw [hsz, ew]; exact h30) (by rw [ext_byte (by rw [ew]; exact hp) hw, Nat.add_zero]; exact hl) (fun i hi => ?_)
        rw [hsz] at hi
        have hm := stretch_get (s := s) (o := o) hi (by omega)
        have hmem := List.mem_of_getElem? hm
        rw [ew] at hmem
        rw [ext_byte hi hw]
        exact stretch_all nbyteB s o _ hmem
      unfold wdG wtK wdN wtV
      rw [hnm, ew]
      rfl
    · rw [if_neg h30, if_neg]
      rw [word_bad hw (Or.inr (by rw [ew]; omega)) hd]
      decide
  · have hl' : letterB (byteAt s o) = false := by simpa using hl
    rw [if_neg hl]
    by_cases hd : digitB (byteAt s o) = true
    · rw [if_pos hd]
      have ew : wln s o = rn digitB s o := by unfold wln; rw [if_pos hd]
      have hp : 0 < rn digitB s o := rn_pos ho hd
      have hnm : nameB (s.extract o (o + wln s o)) = false := by
        unfold nameB
        rw [ext_byte (by rw [ew]; exact hp) hw, Nat.add_zero, hl']
        simp
      have hdg : ∀ b ∈ (s.extract o (o + wln s o)).data.toList, dgt b = true := fun b hb => by
        rw [ext_list, ew] at hb
        rw [← byte_dgt]
        exact stretch_all digitB s o b hb
      have hdv : dv (stretch s o (rn digitB s o)) = dv (s.extract o (o + wln s o)).data.toList := by rw [ext_list, ew]
      unfold wdG wtK wdN wtV
      rw [hnm, hdv]
      simp only [Bool.false_eq_true, if_false]
      by_cases ht : (trmB (s.extract o (o + wln s o))).size = 0
      · have htl : trm0 (s.extract o (o + wln s o)).data.toList = [] := by
          rw [← trmB_list]
          have : (trmB (s.extract o (o + wln s o))).data.toList.length = 0 := by simpa using ht
          exact List.length_eq_zero_iff.1 this
        have hz := trm_none htl
        rw [if_pos ht, if_pos ht, hz, if_pos (by omega), hsz, decide_eq_true (show wln s o ≠ 0 by rw [ew]; omega), ew]
        rfl
      · have htl : trm0 (s.extract o (o + wln s o)).data.toList ≠ [] := fun e => ht (by
          have := trmB_list (s.extract o (o + wln s o))
          rw [e] at this
          have h3 := congrArg List.length this
          simpa using h3)
        have hnum := trm_num hdg htl
        have hdt := dv_trm (s.extract o (o + wln s o)).data.toList
        rw [if_neg ht, if_neg ht]
        by_cases hm : dv (s.extract o (o + wln s o)).data.toList ≤ 1000000
        · rw [if_pos hm]
          have hy := num_yes (s := trmB (s.extract o (o + wln s o))) (most := 1000000) (by rw [trmB_list]; exact hnum) (by rw [trmB_list, hdt]; exact hm)
          rw [hy.1, hy.2, trmB_list, hdt, ew]
          rfl
        · rw [if_neg hm]
          have hy := num_no (s := trmB (s.extract o (o + wln s o))) (most := 1000000) (fun _ h => hm (by rw [trmB_list, hdt] at h; exact h))
          rw [hy.2]
          rfl
    · have hd' : digitB (byteAt s o) = false := by simpa using hd
      rw [if_neg hd]
      have hb := word_bad hw (Or.inl hl') hd'
      rw [hb]
      by_cases h58 : byteAt s o = 58
      · rw [if_pos h58, if_neg (fun e => h2 ⟨h58, e⟩)]
        rfl
      · rw [if_neg h58, if_neg (by rw [h1]; decide)]
        rfl

end Go.Proofs.YtcdfoephhjacdaaDoor
