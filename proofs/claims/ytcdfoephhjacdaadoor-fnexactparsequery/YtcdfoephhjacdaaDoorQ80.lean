import Derived.Deep.CutBlock
import Derived.Deep.CutRange
import Derived.WalkMore
import Derived.Test.YtcdfoephhjacdaaDoorQ79
/-
  The program's tokens: tokensOf, walked.
-/
namespace Go.Proofs.YtcdfoephhjacdaaDoor
open Go.RowKit

set_option maxHeartbeats 16000000 in
set_option maxRecDepth 1000000 in
theorem tokensOf_calls (w : World) (s : ByteArray) (hs : s.size ≤ 1048576) (hsy : SyV w) : Calls Tryd.prog 56 #[.string s] w (TokE w s) := by
  obtain ⟨iT, hi, hz0, hz1, hz2⟩ := info_parts4 Tryd.infoTkI
  have HS0 : Hid (TyS w s 0 [] (.slice (some ⟨w.heap.size, 0, none⟩) 0 0) (w.alloc (.cells #[] 151))) := hid ⟨LexI.start s, Nat.zero_le _, World.ownsRow_made w #[] 0 (Nat.le_refl _) (by unfold maxLen; omega) rfl, (Below.refl _ _).alloc (Nat.le_refl _) _⟩
  have HSY : Hid (∀ wr, Below w.heap.size w wr → SyV wr) := hid fun wr hb => hsy.belN hb (World.block_lt_of_cell? w _ (hsy 0 (by omega)))
  generalize hE : TokE w s = E
  have HBad : Hid (∀ o acc x wr wr', TyS w s o acc x wr → o < s.size → nx s o = none → Below w.heap.size w wr' → E (.returned (.tuple #[.slice none 0 0, .iface 63 (.agg #[.int .i64 2, .int .i64 (o : Int)])])) wr') := hid fun o acc x wr wr' h h1 h2 h3 => by rw [← hE]; exact h.bad h1 h2 h3
  have HDone : Hid (∀ acc x wr, TyS w s s.size acc x wr → E (.returned (.tuple #[x, .nilIface])) wr) := hid fun acc x wr h => by rw [← hE]; exact h.done
  clear hE hsy
  go_enter Tryd.func56, Tryd.ntmps56
  go_wp2
  go_step3
  go_wp2
  go_step3
  go_wp2
  go_loopw [4, 5] (fun x t wr => ∃ (o : Nat) (acc : List TkV) (vx : Value), o ≤ s.size ∧ t = .int .i64 o ∧ vx = x ∧ Hid (TyS w s o acc vx wr)) (fun _ t _ => s.size - (intOf t).toNat)
  case atStart => exact ⟨0, [], _, Nat.zero_le _, rfl, rfl, HS0⟩
  case round =>
    clear HS0
    obtain ⟨o, acc, vx, hos, rfl, rfl, HL⟩ := hrel
    by_cases ho : o < s.size
    · have i1 : (o : Int) < (s.size : Int) := by omega
      have hb := byteAt_eq s o ho
      have hal := HL.out.2.1
      have HO := hid HL.out.2.2.1
      have HSz := hid HL.out.2.2.2.size
      have hsv := HSY.out wr HL.out.2.2.2
      have KI := hid (indexByte_calls ⟨#[9, 10, 13, 32]⟩ ((s[o]'ho).toNat : Int) wr)
      have hix := sep_ix (s[o]'ho)
      have eu : (((s[o]'ho).toNat : Int)).toNat.toUInt8 = s[o]'ho := by simp
      rw [eu] at KI
      rw [← hb] at hix
      obtain ⟨z, hz⟩ : ∃ z, z = Lib.indexByte [9, 10, 13, 32] (s[o]'ho) := ⟨_, rfl⟩
      rw [← hz] at hix
      have KI2 : Hid (Calls Tryd.prog 85 #[.string ⟨#[9, 10, 13, 32]⟩, .int .u8 ((s[o]'ho).toNat : Int)] wr fun e w' => e = .returned (.int .i64 z) ∧ w' = wr) := hid (by rw [hz]; exact KI.out)
      clear KI hz eu
      cases hsep : sepB (byteAt s o)
      case true =>
        have HN : Hid (TyS w s (o + 1) acc vx wr) := hid ⟨HL.out.1.sep ho (nx_sep hsep) (by omega) (by omega), by omega, HL.out.2.2.1, HL.out.2.2.2⟩
        have iz : 0 ≤ z := hix.2 hsep
        clear HL HO hsep hb HBad HDone HSz hix HSY hsv
        go_wp2_with (first | (go_at_call 85; refine KI2.out.mono ?_; rintro e w' ⟨rfl, hw'⟩; subst w') | fail)
        go_roundw
        case rel => exact ⟨o + 1, acc, vx, by omega, by go_num, rfl, HN⟩
        case measure => simp [intOf]; omega
      case false =>
        have iz : ¬ (0 ≤ z) := fun h => by have := hix.1 h; rw [hsep] at this; cases this
        have HSep := hid hsep
        clear hix hb hsep
        have y0 := hsv 0 (by omega)
        have y1 := hsv 1 (by omega)
        have y2 := hsv 2 (by omega)
        have y3 := hsv 3 (by omega)
        have y4 := hsv 4 (by omega)
        have y5 := hsv 5 (by omega)
        have HIY : Hid (∀ k : Nat, k < 6 → Sem.run Tryd.prog (Instr.index 148 (.agg #[.string (syT 0), .string (syT 1), .string (syT 2), .string (syT 3), .string (syT 4), .string (syT 5)]) (.int .i64 (k : Int))) wr = .ok (.string (syT k)) wr) := hid (Tryd.indexY wr)
        have HKP : Hid (∀ k : Nat, k < 6 → Calls Tryd.prog 86 #[.string (s.extract o s.size), .string (syT k)] wr fun e w' => e = .returned (.bool (syB s o k)) ∧ w' = wr) := hid fun k _ => hasPre_calls (frm s o) (syT k) wr
        have HYn : Hid (∀ k : Nat, k < 6 → syB s o k = true → nx s o = some (some (syK k, ⟨#[]⟩, 0), syN k)) := hid fun k hk h => sy_nx ho hk h
        have HYz : Hid (∀ k : Nat, k < 6 → (syT k).size = syN k ∧ (syT k).extract 0 1 = kdT (syK k)) := hid fun k hk => ⟨sy_size k hk, sy_one k hk⟩
        have HYe : Hid ((∀ k, k < 6 → syB s o k = false) → symB (byteAt s o) = false ∧ ¬ (byteAt s o = 58 ∧ o + 1 < s.size ∧ byteAt s (o + 1) = 45)) := hid (sy_none ho)
        have ios : (o : Int) ≤ (s.size : Int) := by omega
        clear hsv HSY
        generalize hS0 : syT 0 = s0 at *
        generalize hS1 : syT 1 = s1 at *
        generalize hS2 : syT 2 = s2 at *
        generalize hS3 : syT 3 = s3 at *
        generalize hS4 : syT 4 = s4 at *
        generalize hS5 : syT 5 = s5 at *
        clear hS0 hS1 hS2 hS3 hS4 hS5
        go_upto_region 6 with (first | (go_at_call 85; refine KI2.out.mono ?_; rintro e w' ⟨rfl, hw'⟩; subst w') | fail)
        clear KI2 iz
        go_upto_block 2 with fail
        clear y0 y1 y2 y3 y4 y5
        go_cut [4, 5, 24] from 25 to 43 (fun x t _ wx => vx = x ∧ t = .int .i64 (o : Int) ∧ wx = wr ∧ Hid (∀ k, k < 6 → syB s o k = false))
        case first =>
          as_aux_lemma =>
            clear HBad HDone HYe HSep
            go_wp2_with fail
            generalize wr = W2 at *
            go_loopw [4, 5, 24] (fun x y t wr => ∃ k : Nat, k ≤ 6 ∧ vx = x ∧ y = .int .i64 (o : Int) ∧ t = .int .i64 (k : Int) ∧ wr = W2 ∧ Hid (∀ j, j < k → syB s o j = false)) (fun _ _ t _ => 6 - (intOf t).toNat)
            case atStart => exact ⟨0, by omega, rfl, rfl, rfl, rfl, hid fun j hj => by omega⟩
            case round =>
              obtain ⟨k, hk, hx4, rfl, rfl, hw, HJ⟩ := hrel
              subst hx4
              subst hw
              by_cases hk6 : k < 6
              · have ik : (k : Int) < 6 := by omega
                have iy := HIY.out k hk6
                have KP := hid (HKP.out k hk6)
                obtain ⟨hsz, hone⟩ := HYz.out k hk6
                cases hbk : syB s o k
                · rw [hbk] at KP
                  have HN : Hid (∀ j, j < k + 1 → syB s o j = false) := hid fun j hj => by
                    by_cases e : j = k
                    · rw [e]; exact hbk
                    · exact HJ.out j (by omega)
                  clear HJ hbk hsz hone HKP HYn HYz HIY
                  generalize syT k = sk at *
                  go_wp2_with (first | (go_at_call 86; refine KP.out.mono ?_; rintro e w' ⟨rfl, hw'⟩; subst w') | fail)
                  go_roundw
                  case rel => exact ⟨k + 1, by omega, rfl, rfl, by go_num, (by first | rfl | trivial), HN⟩
                  case measure => simp [intOf]; omega
                · rw [hbk] at KP
                  have hnx := HYn.out k hk6 hbk
                  obtain ⟨-, hn1, hn2⟩ := nx_tok ho hnx
                  have HTok : Hid (∀ (w8 : World) (x' : Value) (ob : Obj), w8.ownsRow w.heap.size 151 4 x' (acc.length + 1) (acc.flatMap tkv ++ [.string (kdT (syK k)), .string ⟨#[]⟩, .int .i64 0, .int .i64 (o : Int)]) → (wr.alloc ob).grownBy w8 vx.ownBlock → TyS w s (o + syN k) (acc ++ [⟨syK k, ⟨#[]⟩, 0, o⟩]) x' w8) := hid fun w8 x' ob h1 h2 => HL.out.tok ho hnx h1 h2
                  have isz : (1 : Int) ≤ ((syT k).size : Int) := by rw [hsz]; omega
                  have HSzk := hid hsz
                  have hszI : ((syT k).size : Int) = ((syN k : Nat) : Int) := by rw [hsz]
                  clear HJ hbk hnx HKP HYn HYz HIY HL hsz
                  generalize kdT (syK k) = kk at *
                  generalize syK k = ky at *
                  generalize syN k = ny at *
                  generalize syT k = sk at *
                  go_wp2_with (first | (go_at_call 86; refine KP.out.mono ?_; rintro e w' ⟨rfl, hw'⟩; subst w') | (at_builtin; refine wpList_append_lies _ rfl _ _ 98 rfl w.heap.size 151 iT (.agg #[.string ⟨#[]⟩, .string ⟨#[]⟩, .int .i64 0, .int .i64 0]) 4 48 Tryd.underlying98 hi hz0 hz1 hz2 rfl (by decide) vx acc.length (acc.flatMap tkv) rfl (HO.out.alloc _) ⟨_, 0, none⟩ 1 1 [.string kk, .string ⟨#[]⟩, .int .i64 0, .int .i64 (o : Int)] rfl rfl (new4_cell _ _ _ _ _ _) (fun u hu => by simp at hu; rcases hu with rfl | rfl | rfl | rfl <;> rfl) (by decide) (by unfold maxLen; omega) (by omega) (by have := HSz.out; simp; omega) _ rfl ?_; intro g8 cp8 w8 hown8 hgrow8 hat8 hlt8; have HN8 := hid (HTok.out w8 _ _ hown8 hgrow8); clear hown8 hgrow8 hat8 hlt8) | fail)
                  go_roundw
                  case rel => exact ⟨o + ny, _, _, by omega, by go_num, rfl, HN8⟩
                  case measure => simp [intOf]; omega
              · obtain rfl : k = 6 := by omega
                have ik : ¬ ((6 : Int) < 6) := by omega
                clear HKP HYn HYz HIY HL
                go_wp2_with fail
                go_meet
                exact ⟨rfl, rfl, rfl, HJ⟩
        case rest =>
        obtain ⟨hx4, rfl, hw, HNo⟩ := hcut
        subst wc
        subst hx4
        obtain ⟨hno1, hno2⟩ := HYe.out HNo.out
        have hnx := word_nx ho HSep.out hno1 hno2
        have hwl := wln_le s o hos
        have hwz := ext_size s o (wln s o) hwl
        have KW : Hid (Calls Tryd.prog 87 #[.string (s.extract o s.size)] wr fun e w' => e = .returned (.string (s.extract o (o + wln s o))) ∧ w' = wr) := hid (by
          have := wordAt_calls wr (frm s o) (by rw [frm_size]; omega) (by rw [frm_size]; omega)
          rw [frm_wln, frm_ext] at this
          exact this)
        have KT := hid (wordToken_calls wr (s.extract o (o + wln s o)) (by rw [hwz]; omega))
        have HNX := hid hnx
        have hwzI : ((s.extract o (o + wln s o)).size : Int) = ((wln s o : Nat) : Int) := by rw [hwz]
        have HTk : Hid (wdG (s.extract o (o + wln s o)) = true → ∀ (w3 w8 : World) (x' : Value) (ob : Obj), Below wr.heap.size wr w3 → w8.ownsRow w.heap.size 151 4 x' (acc.length + 1) (acc.flatMap tkv ++ [.string (kdT (wtK (s.extract o (o + wln s o)))), .string (wdN (s.extract o (o + wln s o))), .int .i64 ((wtV (s.extract o (o + wln s o)) : Nat) : Int), .int .i64 (o : Int)]) → (w3.alloc ob).grownBy w8 vx.ownBlock → TyS w s (o + wln s o) (acc ++ [⟨wtK (s.extract o (o + wln s o)), wdN (s.extract o (o + wln s o)), wtV (s.extract o (o + wln s o)), o⟩]) x' w8 ∧ 0 < wln s o) := hid fun hg w3 w8 x' ob hb3 h1 h2 => by
          have hn := HNX.out
          rw [if_pos hg] at hn
          exact ⟨(HL.out.bel hb3).tok ho hn h1 h2, (nx_tok ho hn).2.1⟩
        have HBd : Hid (wdG (s.extract o (o + wln s o)) = false → ∀ wr', Below w.heap.size w wr' → E (.returned (.tuple #[.slice none 0 0, .iface 63 (.agg #[.int .i64 2, .int .i64 (o : Int)])])) wr') := hid fun hg wr' hb => by
          have hn := HNX.out
          rw [hg] at hn
          exact HBad.out o acc vx wr wr' HL.out ho hn hb
        have HBw := hid HL.out.2.2.2
        clear HBad HDone hno1 hno2 hnx HNX HSep HYe HNo HYn HYz HIY HKP HL hwz
        generalize wln s o = wl at *
        go_upto_region 14 with (first | (go_at_call 87; refine KW.out.mono ?_; rintro e w' ⟨rfl, hw'⟩; subst w') | fail)
        clear KW
        generalize s.extract o (o + wl) = wd at *
        obtain ⟨gd, hgd⟩ : ∃ b, b = wdG wd := ⟨_, rfl⟩
        have HGd := hid hgd
        have KT2 : Hid (Calls Tryd.prog 88 #[.string wd] wr fun e w' => ∃ k nm v, (gd = true → k = kdT (wtK wd) ∧ nm = wdN wd ∧ v = wtV wd) ∧ e = .returned (.tuple #[.agg #[.string k, .string nm, .int .i64 ((v : Nat) : Int), .int .i64 0], .bool gd]) ∧ Below wr.heap.size wr w') := hid (by rw [hgd]; exact KT.out)
        clear KT hgd
        go_upto_region 15 with (first | (go_at_call 88; refine KT2.out.mono ?_; rintro e w3 ⟨kt, nt, vt, hkt, rfl, hb3⟩) | fail)
        clear KT2
        obtain ⟨W4, hW4⟩ : ∃ W, W = w3.alloc (.cells #[.string kt, .string nt, .int .i64 (vt : Int), .int .i64 0] 151) := ⟨_, rfl⟩
        have hb34 : Below w3.heap.size w3 W4 := by rw [hW4]; exact (Below.refl _ _).alloc (Nat.le_refl _) _
        have hbl : W4.heap[w3.heap.size]? = some (.cells #[.string kt, .string nt, .int .i64 (vt : Int), .int .i64 0] 151 (0, 0)) := by rw [hW4]; exact heap_alloc_new _ _
        have hb4 : Below wr.heap.size wr W4 := bt hb3 hb34
        rw [← hW4]
        have hL : w.heap.size ≤ w3.heap.size := Nat.le_trans HBw.out.size hb3.size
        have hLw : wr.heap.size ≤ w3.heap.size := hb3.size
        clear hW4 hb34 hb3
        generalize w3.heap.size = L at *
        cases gd with
        | false =>
          have HE := hid (HBd.out HGd.out.symm W4 (HBw.out.trans (hb4.mono HBw.out.size)))
          clear HBd HTk HGd hb4 HBw HO hbl hkt
          as_aux_lemma =>
            go_wp2_with fail
            first | exact HE.out | (go_ret2; exact HE.out) | (rw [Exit.noGoto_ret]; go_ret2; exact HE.out) | (trace_state; fail)
        | true =>
          obtain ⟨rfl, rfl, rfl⟩ := hkt rfl
          obtain ⟨W5, hW5⟩ : ∃ W, W = W4.setCell ⟨L, 3, none⟩ (.int .i64 (o : Int)) := ⟨_, rfl⟩
          have hbl5 : W5.heap[L]? = some (.cells #[.string (kdT (wtK wd)), .string (wdN wd), .int .i64 ((wtV wd : Nat) : Int), .int .i64 (o : Int)] 151 (0, 0)) := by rw [hW5, heap_setCell_same _ _ _ _ _ _ hbl]; rfl
          have hb5 : Below wr.heap.size wr W5 := by rw [hW5]; exact hb4.setCell hLw _
          have hc3 : W4.cell? ⟨L, 3, none⟩ = some (.int .i64 0) := cell_of_row _ _ _ _ _ _ hbl
          have hf3 : W4.frozen? ⟨L, 3, none⟩ = false := by unfold World.frozen?; rw [hbl]; simp
          have HO5 := hid (own_below HO.out hb5)
          have HTok : Hid (∀ (w8 : World) (x' : Value) (ob : Obj), w8.ownsRow w.heap.size 151 4 x' (acc.length + 1) (acc.flatMap tkv ++ [.string (kdT (wtK wd)), .string (wdN wd), .int .i64 ((wtV wd : Nat) : Int), .int .i64 (o : Int)]) → (W5.alloc ob).grownBy w8 vx.ownBlock → TyS w s (o + wl) (acc ++ [⟨wtK wd, wdN wd, wtV wd, o⟩]) x' w8 ∧ 0 < wl) := hid fun w8 x' ob h1 h2 => HTk.out HGd.out.symm W5 w8 x' ob hb5 h1 h2
          have HSz5 : Hid (w.heap.size ≤ W5.heap.size) := hid (Nat.le_trans HSz.out hb5.size)
          have HW5 := hid hW5
          have HBL5 := hid hbl5
          clear HBd HTk HGd hb4 HBw HO hbl hW5 hb5 HSz hbl5
          generalize kdT (wtK wd) = kk at *
          generalize wdN wd = nn at *
          generalize wtV wd = vv at *
          generalize wtK wd = kz at *
          go_upto_region 18 with fail
          rw [← HW5.out]
          clear hc3 hf3 HW5
          have hbl5 := HBL5.out
          have t0 : W5.cell? ⟨L, 0, none⟩ = some (.string kk) := cell_of_row _ _ _ _ _ _ hbl5
          have t1 : W5.cell? ⟨L, 1, none⟩ = some (.string nn) := cell_of_row _ _ _ _ _ _ hbl5
          have t2 : W5.cell? ⟨L, 2, none⟩ = some (.int .i64 (vv : Int)) := cell_of_row _ _ _ _ _ _ hbl5
          have t3 : W5.cell? ⟨L, 3, none⟩ = some (.int .i64 (o : Int)) := cell_of_row _ _ _ _ _ _ hbl5
          have HO := HO5
          have HSz := HSz5
          clear hbl5 HBL5 HO5 HSz5
          as_aux_lemma =>
            go_wp2_with (first | (at_builtin; refine wpList_append_lies _ rfl _ _ 98 rfl w.heap.size 151 iT (.agg #[.string ⟨#[]⟩, .string ⟨#[]⟩, .int .i64 0, .int .i64 0]) 4 48 Tryd.underlying98 hi hz0 hz1 hz2 rfl (by decide) vx acc.length (acc.flatMap tkv) rfl (HO.out.alloc _) ⟨_, 0, none⟩ 1 1 [.string kk, .string nn, .int .i64 (vv : Int), .int .i64 (o : Int)] rfl rfl (new4_cell _ _ _ _ _ _) (fun u hu => by simp at hu; rcases hu with rfl | rfl | rfl | rfl <;> rfl) (by decide) (by unfold maxLen; omega) (by omega) (by have := HSz.out; simp; omega) _ rfl ?_; intro g8 cp8 w8 hown8 hgrow8 hat8 hlt8; have HN8 := hid (HTok.out w8 _ _ hown8 hgrow8); clear hown8 hgrow8 hat8 hlt8) | fail)
            go_roundw
            case rel => exact ⟨o + wl, _, _, by omega, by go_num, rfl, hid HN8.out.1⟩
            case measure => have := HN8.out.2; simp [intOf]; omega
    · obtain rfl : o = s.size := by omega
      have i1 : ¬ ((s.size : Int) < (s.size : Int)) := by omega
      have HE := hid (HDone.out acc vx wr HL.out)
      clear HL HBad HDone
      go_wp2_with fail
      first | exact HE.out | (go_ret2; exact HE.out) | (rw [Exit.noGoto_ret]; go_ret2; exact HE.out) | (trace_state; fail)

end Go.Proofs.YtcdfoephhjacdaaDoor
