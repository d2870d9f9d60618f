import Derived.Deep.CutBlock
import Derived.Test.YtnmcgbfhgmmcpaaW66
import Derived.Test.YtnmcgbfhgmmcpaaW68
/-
  spec.DrawCoverOf: a bag and edges, short ones.
-/
namespace Go.Proofs.Ytnmcgbfhgmmcpaa
open Go.RowKit

theorem kc_alloc_below {W w : World} {o : Obj} (h : Kc W.heap.size (W.alloc o) w) : Below W.heap.size W w :=
  ((Below.refl _ W).alloc (Nat.le_refl _) o).trans ⟨h.os, h.tape, h.output, h.size, fun b hb => h.block b (by simp; omega) (by omega)⟩

theorem cur_start {W : World} {a : Option Addr} {n cap : Nat} (hB : ∀ j, j < n → ∃ b o x, a = some ⟨b, o, none⟩ ∧ W.cell? ⟨b, o + j, none⟩ = some (.int .u8 x) ∧ 0 ≤ x ∧ x < 256) : Rdr (W.alloc (.cells #[.slice a n cap, .int .i64 0, .int .i64 0] 62)) W.heap.size a n cap 0 := by
  refine ⟨0, 0, Nat.le_refl _, ?_⟩
  refine ⟨by simp, by simp, by simp, by simp, by simp, fun j hj => ?_, by decide⟩
  obtain ⟨b, o, x, e, hc, hx⟩ := hB j hj
  have hlt := World.block_lt_of_cell? W _ hc
  have hlt' : b < W.heap.size := hlt
  exact ⟨b, o, x, e, by omega, (((Below.refl W.heap.size W).alloc (Nat.le_refl _) _).cell (p := ⟨b, o + j, none⟩) hlt).trans hc, hx⟩

set_option maxHeartbeats 60000000 in
set_option maxRecDepth 1000000 in
theorem drawCover_calls (W : World) (a : Option Addr) (n cap : Nat) (hB : ∀ j, j < n → ∃ b o x, a = some ⟨b, o, none⟩ ∧ W.cell? ⟨b, o + j, none⟩ = some (.int .u8 x) ∧ 0 ≤ x ∧ x < 256) (hn : n ≤ 1048576) :
    Calls Try.prog 7 #[.slice a n cap] W fun e w' => ∃ vb ve, e = .returned (.tuple #[vb, ve]) ∧ Out w' vb ve ∧ Below W.heap.size W w' := by
  obtain ⟨i0, hi, hz0, hz1, hz2⟩ := info_parts Try.infoInt
  obtain ⟨iS, hj, hy0, hy1, hy2⟩ := info_parts Try.infoRow
  have hC0 := cur_start (cap := cap) hB
  have KB : Hid (∀ w, Kc W.heap.size (W.alloc (.cells #[.slice a n cap, .int .i64 0, .int .i64 0] 62)) w → Below W.heap.size W w) := hid (fun w h => kc_alloc_below h)
  clear hB
  go_enter Try.func7, Try.ntmps7
  go_upto_region 2 with fail
  generalize W.alloc (.cells #[.slice a n cap, .int .i64 0, .int .i64 0] 62) = W1 at *
  generalize hgW : W.heap.size = g at *
  have KP : Hid (∀ (w : World) (k m : Nat), Rdr w g a n cap k → k ≤ 1000000000 → m ≤ 256 → Calls Try.prog 35 #[.pointer (some ⟨g, 0, none⟩), .int .i64 m] w fun e w' => ∃ z : Nat, e = .returned (.int .i64 z) ∧ (z < m ∨ z = 0) ∧ Rdr w' g a n cap (k + 1) ∧ Kc g w w') := hid (fun w k m h h1 h2 => pick_calls w g a n cap k m h hn h1 h2)
  have KD : Hid (∀ (w : World) (k q most : Nat), Rdr w g a n cap k → k ≤ 1000000 → 1 ≤ q → q ≤ 8 → most ≤ 20 → Calls Try.prog 34 #[.pointer (some ⟨g, 0, none⟩), .int .i64 q, .int .i64 most] w fun e w' => ∃ (v : Value) (s : Nat → Bool), e = .returned v ∧ w'.ownsRow w.heap.size 3 1 v (plc s q).length ((plc s q).map (Value.int .i64)) ∧ (∃ j, j < q ∧ s j = true) ∧ Rdr w' g a n cap (k + 30) ∧ Kc g w w') := hid (fun w k q most h h1 h2 h3 h4 => drawSet_calls w g a n cap k q most h hn h1 h2 h3 h4)
  have HC0 := hid hC0
  clear hC0
  go_upto_region 3 with (first | (go_at_call 32; refine (mode_calls W1 g a n cap 0 HC0.out hn (by omega)).mono ?_; rintro e w2 ⟨md, rfl, hmd, hC2, hK2⟩))
  have HC2 := hid hC2
  have HK2 := hid hK2
  clear hC2 hK2 HC0
  generalize w2 = W2 at *
  have KB2 : Hid (∀ w, Kc g W2 w → Below W.heap.size W w) := hid (fun w h => by rw [hgW]; exact KB.out w (HK2.out.trans h))
  clear HK2 KB hgW
  go_upto_region 4 with (first | (go_at_call 33; refine (drawPattern_calls W2 g a n cap (0 + 1) HC2.out hn (by omega)).mono ?_; rintro e w3 ⟨q, vE, E, rfl, hq2, hq5, hE1, hE7, hD⟩))
  obtain ⟨G, pp, ev, hG, hGl⟩ := hD.pat.form hE1
  subst ev
  have HD := hid hD
  clear hD HC2
  have KDq := hid (KD.out w3 _ q (q + 2) HD.out.cur (by omega) (by omega) (by omega) (by omega))
  rw [show ((q + 2 : Nat) : Int) = (q : Int) + 2 by omega] at KDq
  go_upto_region 5 with (first | (go_at_call 34; refine KDq.out.mono ?_; rintro e w4 ⟨vB, s, rfl, hoB, hs, hC4, hK4⟩))
  have HS := hid (St.newbag HD.out (HD.out.turn hK4 hC4) (Nat.le_refl _) hoB (plc_pos hs) (by have := plc_le s q; omega))
  obtain ⟨gb, lb, cb, eb⟩ := HS.out.bag.form
  subst eb
  clear HD KDq hoB hs hC4 hK4 hG hGl
  go_upto_if 29 with (first | (go_at_call 35; refine (KP.out w4 _ 3 HS.out.dr.cur (by omega) (by omega)).mono ?_; rintro e w5 ⟨z5, rfl, hz5, hC5, hK5⟩))
  have HS5 := hid (HS.out.turn hK5 hC5)
  clear HS hC5 hK5 hz5
  go_cut [8] (fun v wx => Hid (St W2 g a n cap (0 + 1 + 1000 + 30 + 1) wx v (.slice (some ⟨G, 0, none⟩) E.length pp) E))
  case first =>
    by_cases h5 : z5 = 0
    · subst h5
      generalize w5 = W5 at *
      have hb0 : Below W5.heap.size W5 (W5.alloc (.cells #[] 3)) := (Below.refl _ _).alloc (Nat.le_refl _) _
      have ho0 : (W5.alloc (.cells #[] 3)).ownsRow W5.heap.size 3 1 (.slice (some ⟨W5.heap.size, 0, none⟩) 0 0) 0 [] := World.ownsRow_made W5 #[] 0 (Nat.le_refl _) (by decide) rfl
      have H0 := hid (And.intro hb0 ho0)
      clear hb0 ho0
      go_wp2
      go_loopw [8, 9] (fun v t wr => ∃ (i : Nat) (l : List Int) (vs : Value), i ≤ q ∧ t = .int .i64 i ∧ vs = v ∧ l.length = i ∧ Hid (Below W5.heap.size W5 wr) ∧ wr.ownsRow W5.heap.size 3 1 vs l.length (l.map (Value.int .i64))) (fun _ t _ => q - (intOf t).toNat)
      case atStart => exact ⟨0, [], _, Nat.zero_le _, rfl, rfl, rfl, hid H0.out.1, H0.out.2⟩
      case round =>
        clear H0
        obtain ⟨i, l, vs, hiq, rfl, rfl, hli, HB, hown⟩ := hrel
        have hs := HB.out.size
        by_cases hlt : i < q
        · have i1 : (i : Int) < (q : Int) := by omega
          go_wp2_with (first
            | (at_builtin; refine wpList_append_own _ rfl _ _ 23 rfl W5.heap.size 3 i0 (.int .i64 0) 1 8 Try.underlying23 hi hz0 hz1 hz2 rfl (by decide) _ _ _ rfl (hown.alloc _) ⟨wr.heap.size, 0, none⟩ 1 1 [.int .i64 i] rfl rfl ?c1a ?c1b ?c1c ?c1d ?c1e ?_)
            | fail)
          try (case c1a =>
            intro j u hj
            match j, hj with
            | 0, hj => simp at hj; subst hj; simp [Addr.add])
          try (case c1b => first | rfl | (intro u hu; simp at hu; subst hu; rfl))
          try (case c1c => unfold maxLen; (first | omega | (simp; omega)))
          try (case c1d => (first | omega | (simp; omega)))
          try (case c1e => (first | omega | (simp; omega)))
          intro v' w1 hown' hgrow _
          have hb := own_grow hs hown HB.out hgrow
          have HO : Hid (w1.ownsRow W5.heap.size 3 1 v' (l ++ [(i : Int)]).length ((l ++ [(i : Int)]).map (Value.int .i64))) := hid (by simpa [hli] using hown')
          have HBn := hid hb
          clear hown' hgrow hown hb HB
          go_wp2
          go_roundw
          case rel => first | exact ⟨i + 1, l ++ [(i : Int)], v', by omega, by go_num, rfl, by simp; omega, HBn, HO.out⟩ | ((repeat apply Exists.intro); exact ⟨⟨i + 1, l ++ [(i : Int)], v', by omega, by go_num, rfl, by simp; omega, HBn, HO.out⟩, rfl⟩)
          case measure => simp [intOf]; omega
        · obtain rfl : i = q := by omega
          have i1 : ¬ ((i : Int) < (i : Int)) := by omega
          have HF := hid (St.newbag HS5.out.dr (HS5.out.dr.bel HB.out) (Nat.le_refl _) hown (by omega) (by omega))
          clear hown
          go_wp2
          go_meet
          exact HF
    · have j2 : ¬ ((z5 : Int) = 0) := by omega
      have i2 : ((z5 : Int) == 0) = false := by simp; omega
      go_wp2
      go_meet
      exact HS5
  case rest =>
  clear HS5
  have HS := hcut
  clear hcut
  generalize wc = W6 at *
  obtain ⟨gb2, lb2, cb2, eb2⟩ := HS.out.bag.form
  subst eb2
  go_upto_if 42 with (first | (go_at_call 35; refine (KP.out W6 _ 6 HS.out.dr.cur (by omega) (by omega)).mono ?_; rintro e w7 ⟨z7, rfl, hz7, hC7, hK7⟩))
  have HS7 := hid (HS.out.turn hK7 hC7)
  clear HS hC7 hK7 hz7
  go_cut [7, 8] (fun v u wx => ∃ E : List Value, 0 < E.length ∧ E.length ≤ 7 ∧ Hid (St W2 g a n cap 2000 wx u v E))
  case first =>
    by_cases h7 : z7 = 5
    · subst h7
      obtain ⟨E4, hE4, hS4⟩ := lits4 HS7.out.dr
      have HS4 := hid hS4
      clear hS4 HS7
      go_upto_region 14 with fail
      generalize ((((((w7.alloc (.cells #[.int .i64 0, .int .i64 1, .int .i64 2, .int .i64 3] 3)).alloc (.cells #[.int .i64 0, .int .i64 1, .int .i64 2] 3)).alloc (.cells #[.int .i64 0, .int .i64 1, .int .i64 3] 3)).alloc (.cells #[.int .i64 0, .int .i64 2, .int .i64 3] 3)).alloc (.cells #[.int .i64 1, .int .i64 2, .int .i64 3] 3)).alloc (.cells #[.slice (some ⟨w7.heap.size + 1, 0, none⟩) 3 3, .slice (some ⟨w7.heap.size + 1 + 1, 0, none⟩) 3 3, .slice (some ⟨w7.heap.size + 1 + 1 + 1, 0, none⟩) 3 3, .slice (some ⟨w7.heap.size + 1 + 1 + 1 + 1, 0, none⟩) 3 3] 23)) = W9 at *
      generalize hgb9 : w7.heap.size = gb9 at *
      clear hgb9
      go_upto_block 4 with (first | (go_at_call 35; refine (KP.out W9 _ 3 HS4.out.dr.cur (by omega) (by omega)).mono ?_; rintro e wA ⟨zA, rfl, hzA, hCA, hKA⟩))
      have HSA := hid (HS4.out.turn hKA hCA)
      have hzA2 : zA ≤ 2 := by omega
      clear HS4 hCA hKA hzA
      go_wp2_with fail
      go_loopw [7, 11] (fun v t wr => ∃ (i : Nat) (vs : Value) (E : List Value), i ≤ zA ∧ t = .int .i64 i ∧ vs = v ∧ E.length = 4 + i ∧ Hid (St W2 g a n cap (1100 + 40 * i) wr (.slice (some ⟨gb9, 0, none⟩) 4 4) vs E)) (fun _ t _ => zA - (intOf t).toNat)
      case atStart => exact ⟨0, _, E4, Nat.zero_le _, rfl, rfl, hE4, hid (HSA.out.mono (by omega))⟩
      case round =>
        clear HSA hE4
        obtain ⟨i, vs, E, hiz, rfl, rfl, hEi, HS⟩ := hrel
        have hEp : 0 < E.length := by omega
        obtain ⟨GA, pA, evA, hGA, hGlA⟩ := HS.out.dr.pat.form hEp
        have hEpl := hid hEi
        have hszA := HS.out.dr.kc.size
        subst evA
        by_cases hlt : i < zA
        · have i1 : (i : Int) < (zA : Int) := by omega
          clear hEi
          go_wp2_with fail
          refine (KD.out wr _ 5 2 HS.out.dr.cur (by omega) (by omega) (by omega) (by omega)).mono ?_
          rintro e wD ⟨vd, s, rfl, hown, hs, hCD, hKD⟩
          have HSD := hid (HS.out.turn hKD hCD)
          have HR := hid (set_row hown hszA (by omega) hs)
          have HNE : Hid (vd.ownBlock ≠ (Value.slice (some ⟨gb9, 0, none⟩) 4 4).ownBlock) := hid (fun e => by
            obtain ⟨b, h1, _, h3⟩ := HS.out.bag.block
            have := (hown.lt b (by rw [e]; exact h1)).1
            omega)
          obtain ⟨gd, ld, cd, ed⟩ := HR.out.form
          subst ed
          have hszD := HSD.out.dr.kc.size
          have N1 : ∀ j u, E[j]? = some u → (wD.alloc (.cells #[.slice (some ⟨gd, 0, none⟩) ld cd] 23)).cell? ((⟨GA, 0, none⟩ : Addr).add j) = some u := fun j u h => (HSD.out.dr.pat.own.alloc _).cells rfl j u h
          have HN1 := hid N1
          have HN2 : Hid (∀ u ∈ E, u.oneCell' = true) := hid (fun u hu => (HSD.out.dr.pat.rows u hu).one)
          have HL : Hid (E.length ≤ 6) := hid (by have := hEpl.out; omega)
          have hOL := World.ownsRow_lit (e := 23) (size := 1) wD #[.slice (some ⟨gd, 0, none⟩) ld cd] 1 (Nat.le_refl wD.heap.size) (by decide) rfl
          have HOL := hid hOL
          clear hown hs hCD hKD N1 HS hOL
          go_wp2_with (first
            | (at_builtin; refine wpList_append_own _ rfl _ _ 24 rfl wD.heap.size 23 iS (.slice none 0 0) 1 24 Try.underlying24 hj hy0 hy1 hy2 rfl (by decide) _ _ _ rfl HOL.out ⟨GA, 0, none⟩ E.length pA E rfl (by simp) HN1.out HN2.out (by have := HL.out; unfold maxLen; omega) (by have := HL.out; omega) (by simp) ?_)
            | fail)
          intro v' w1 hown' hgrow _
          have hb1 : Below wD.heap.size wD w1 := ((Below.refl _ wD).alloc (Nat.le_refl _) _).grown hgrow (by simp) (fun c e => by simp [Value.ownBlock] at e; omega)
          have HF := hid (HSD.out.ahead hb1 (Nat.le_refl _) hown' HR.out HNE.out)
          clear hown' hgrow hb1 HN1 HN2 HOL
          go_wp2
          go_roundw
          case rel => first | exact ⟨i + 1, v', _, by omega, by go_num, rfl, by simp; have := hEpl.out; omega, hid (HF.out.mono (by omega))⟩ | ((repeat apply Exists.intro); exact ⟨⟨i + 1, v', _, by omega, by go_num, rfl, by simp; have := hEpl.out; omega, hid (HF.out.mono (by omega))⟩, rfl⟩)
          case measure => simp [intOf]; omega
        · obtain rfl : i = zA := by omega
          have i1 : ¬ ((i : Int) < (i : Int)) := by omega
          have HL : Hid (E.length ≤ 6) := hid (by omega)
          clear hEi hEpl
          go_upto_if 63 with (first | (go_at_call 35; refine (KP.out wr _ 3 HS.out.dr.cur (by omega) (by omega)).mono ?_; rintro e wF ⟨zF, rfl, hzF, hCF, hKF⟩))
          have HSF := hid (HS.out.turn hKF hCF)
          clear HS hCF hKF hzF
          by_cases hzF0 : zF = 0
          · subst hzF0
            have hszF := HSF.out.dr.kc.size
            have HR := hid (lit_row wF W2.heap.size [(3 : Int), (4 : Int)] hszF (by simp) (by simp))
            have HNE : Hid ((Value.slice (some ⟨wF.heap.size, 0, none⟩) 2 2).ownBlock ≠ (Value.slice (some ⟨gb9, 0, none⟩) 4 4).ownBlock) := hid (fun e => by
              obtain ⟨b, h1, _, h3⟩ := HSF.out.bag.block
              rw [← e] at h1
              simp [Value.ownBlock] at h1
              omega)
            have HS1 := hid (HSF.out.bel (al (.cells #[.int .i64 3, .int .i64 4] 3)))
            have hE20 : E.length ≤ 100 := by have := HL.out; omega
            go_wp2_with (first
              | (at_builtin; refine wpList_append_own _ rfl _ _ 24 rfl W2.heap.size 23 iS (.slice none 0 0) 1 24 Try.underlying24 hj hy0 hy1 hy2 rfl (by decide) _ _ _ rfl (HS1.out.dr.pat.own.alloc _) ⟨wF.heap.size + 1, 0, none⟩ 1 1 [.slice (some ⟨wF.heap.size, 0, none⟩) 2 2] rfl rfl ?c2a ?c2b ?c2c ?c2d ?c2e ?_)
              | fail)
            try (case c2a =>
              intro j u hj
              match j, hj with
              | 0, hj => simp at hj; subst hj; simp [Addr.add])
            try (case c2b => first | rfl | (intro u hu; simp at hu; subst hu; rfl))
            try (case c2c => unfold maxLen; (first | omega | (simp; omega)))
            try (case c2d => (first | omega | (simp; omega)))
            try (case c2e => (first | omega | (simp; omega)))
            intro v' w1 hown' hgrow _
            have HE := hid (HS1.out.push hown' hgrow HR.out HNE.out)
            have hszE := HE.out.dr.kc.size
            have HF := hid (St.newbag (l := [0, 1, 2, 3, 4]) HE.out.dr (HE.out.dr.bel (al (.cells #[.int .i64 0, .int .i64 1, .int .i64 2, .int .i64 3, .int .i64 4] 3))) (Nat.le_refl _) (World.ownsRow_lit (e := 3) (size := 1) w1 #[.int .i64 0, .int .i64 1, .int .i64 2, .int .i64 3, .int .i64 4] 5 (Nat.le_refl w1.heap.size) (by decide) rfl) (by simp) (by simp))
            clear hown' hgrow
            go_wp2
            go_meet
            exact ⟨_, by simp, by have := HL.out; simp; omega, hid (HF.out.mono (by omega))⟩
          · have j2 : ¬ ((zF : Int) = 0) := by omega
            have i2 : ((zF : Int) == 0) = false := by simp; omega
            go_wp2
            go_meet
            exact ⟨E, hEp, by have := HL.out; omega, hid (HSF.out.mono (by omega))⟩
    · have j2 : ¬ ((z7 : Int) = 5) := by omega
      have i2 : ((z7 : Int) == 5) = false := by simp; omega
      go_wp2
      go_meet
      exact ⟨E, hE1, hE7, hid (HS7.out.mono (by omega))⟩
  case rest =>
  clear HS7 hE1 hE7
  obtain ⟨E, hE1, hE7, HS⟩ := hcut
  obtain ⟨G3, p3, ev3, hG3, hGl3⟩ := HS.out.dr.pat.form hE1
  subst ev3
  generalize wc = W8 at *
  obtain ⟨gb3, lb3, cb3, eb3⟩ := HS.out.bag.form
  subst eb3
  have hsz := HS.out.dr.kc.size
  have hE0 : (0 : Int) < (E.length : Int) := by omega
  obtain rfl | rfl | rfl : md = 0 ∨ md = 1 ∨ md = 2 := by omega
  · go_wp2
    go_ret2
    exact ⟨_, _, rfl, HS.out.out (by omega), KB2.out _ HS.out.dr.kc⟩
  · go_upto_region 25 with (first | (go_at_call 35; refine (KP.out W8 2000 5 HS.out.dr.cur (by omega) (by omega)).mono ?_; rintro e w9 ⟨z9, rfl, hz9, hC9, hK9⟩))
    have HT := hid (HS.out.turn hK9 hC9)
    have hz94 : z9 ≤ 4 := by omega
    clear HS hC9 hK9 hz9 hsz
    generalize w9 = W9 at *
    have hsz := HT.out.dr.kc.size
    obtain rfl | rfl | rfl | rfl | rfl : z9 = 0 ∨ z9 = 1 ∨ z9 = 2 ∨ z9 = 3 ∨ z9 = 4 := by omega
    · -- one more in the bag
      go_wp2_with fail
      refine (KP.out W9 _ 8 HT.out.dr.cur (by omega) (by omega)).mono ?_
      rintro e wA ⟨zA, rfl, hzA, hCA, hKA⟩
      have HA := hid (HT.out.turn hKA hCA)
      clear HT hCA hKA
      obtain ⟨l, hl0, hl8, hoB⟩ := HA.out.bag
      have HOB := hid hoB
      have hszA := HA.out.dr.kc.size
      clear hoB
      go_wp2_with (first
        | (at_builtin; refine wpList_append_own _ rfl _ _ 23 rfl W2.heap.size 3 i0 (.int .i64 0) 1 8 Try.underlying23 hi hz0 hz1 hz2 rfl (by decide) _ _ _ rfl (HOB.out.alloc _) ⟨wA.heap.size, 0, none⟩ 1 1 [.int .i64 ((zA : Int) - 1)] rfl rfl ?c3a ?c3b ?c3c ?c3d ?c3e ?_)
        | fail)
      try (case c3a =>
        intro j u hj
        match j, hj with
        | 0, hj => simp at hj; subst hj; simp [Addr.add])
      try (case c3b => first | rfl | (intro u hu; simp at hu; subst hu; rfl))
      try (case c3c => unfold maxLen; (first | omega | (simp; omega)))
      try (case c3d => (first | omega | (simp; omega)))
      try (case c3e => (first | omega | (simp; omega)))
      intro v' w1 hown' hgrow _
      have HF := hid (HA.out.bagpush (by omega) hl8 HOB.out hown' hgrow)
      clear hown' hgrow
      go_wp2
      go_ret2
      exact ⟨_, _, rfl, HF.out.1, KB2.out _ HF.out.2⟩
    · -- another first edge
      obtain ⟨c1, f1, hr⟩ := HT.out.dr.pat.cell hE1
      generalize E.getD 0 (.slice none 0 0) = um at *
      obtain ⟨l, hl0, hl8, hown⟩ := hr
      obtain ⟨gu, cu, eu⟩ : ∃ gu cu, um = .slice (some ⟨gu, 0, none⟩) l.length cu := by
        rcases hown.2 with ⟨_, h4⟩ | ⟨g, cp, cur, hv, _⟩
        · omega
        · exact ⟨g, cp, hv⟩
      subst eu
      have N1 : ∀ j u, (l.map (Value.int .i64))[j]? = some u → (W9.alloc (.cells #[] 3)).cell? ((⟨gu, 0, none⟩ : Addr).add j) = some u := fun j u h => (hown.alloc _).cells rfl j u h
      have HN1 := hid N1
      have c1a : ∀ o', (W9.alloc o').cell? ⟨G3, 0, none⟩ = some (.slice (some ⟨gu, 0, none⟩) l.length cu) := fun o' => ((al (w := W9) o').cell (p := ⟨G3, 0, none⟩) (World.block_lt_of_cell? W9 _ c1)).trans c1
      clear N1 hown f1 c1
      go_wp2_with (first
        | (at_builtin; refine wpList_append_own _ rfl _ _ 23 rfl W9.heap.size 3 i0 (.int .i64 0) 1 8 Try.underlying23 hi hz0 hz1 hz2 rfl (by decide) _ _ _ rfl (World.ownsRow_made W9 #[] 0 (Nat.le_refl _) (by decide) rfl) ⟨gu, 0, none⟩ l.length cu (l.map (Value.int .i64)) rfl (by simp) HN1.out (ints_one l) (by unfold maxLen; omega) (by omega) (by simp) ?_)
        | fail)
      intro v7 w7' hown7 hgrow7 _
      have hb7 : Below W9.heap.size W9 w7' := ((Below.refl _ W9).alloc (Nat.le_refl _) _).grown hgrow7 (by simp) (fun c e => by simp [Value.ownBlock] at e; omega)
      have HU := hid (HT.out.bel hb7)
      have HO7 := hid hown7
      have HB7 := hid hb7
      have hs7 := hb7.size
      clear hgrow7 hb7 hown7 HN1 c1a
      go_wp2_with fail
      refine (KP.out w7' _ 8 HU.out.dr.cur (by omega) (by omega)).mono ?_
      rintro e wA ⟨zA, rfl, hzA, hCA, hKA⟩
      have HA := hid (HU.out.turn hKA hCA)
      have hO8 := own_kc HO7.out hKA (by have := HU.out.dr.gl; omega)
      have HO8 := hid hO8
      have hsA := hKA.size
      have HKA := hid (((Kc.refl g W9).below HB7.out).trans hKA)
      clear HU hCA hKA HO7 hO8 HB7
      go_wp2_with (first
        | (at_builtin; refine wpList_append_own _ rfl _ _ 23 rfl W9.heap.size 3 i0 (.int .i64 0) 1 8 Try.underlying23 hi hz0 hz1 hz2 rfl (by decide) _ _ _ rfl (HO8.out.alloc _) ⟨wA.heap.size, 0, none⟩ 1 1 [.int .i64 ((zA : Int) - 1)] rfl rfl ?c4a ?c4b ?c4c ?c4d ?c4e ?_)
        | fail)
      try (case c4a =>
        intro j u hj
        match j, hj with
        | 0, hj => simp at hj; subst hj; simp [Addr.add])
      try (case c4b => first | rfl | (intro u hu; simp at hu; subst hu; rfl))
      try (case c4c => unfold maxLen; (first | omega | (simp; omega)))
      try (case c4d => (first | omega | (simp; omega)))
      try (case c4e => (first | omega | (simp; omega)))
      intro v9 w9 hown9 hgrow9 _
      have hbA : Below wA.heap.size wA wA := Below.refl _ _
      have hb9 : Below W9.heap.size wA w9 := ((Below.refl _ wA).alloc (by omega) _).grown hgrow9 (by simp; omega) (fun c e => (HO8.out.lt c e).1)
      have HO9 : Hid (w9.ownsRow W9.heap.size 3 1 v9 (l ++ [(zA : Int) - 1]).length ((l ++ [(zA : Int) - 1]).map (Value.int .i64))) := hid (by simpa using hown9)
      have HS9 := hid (HT.out.turn (HKA.out.below hb9) (HA.out.dr.cur.above hb9 (by have := HT.out.dr.gl; omega) (fun b o e hn0 => by have := HT.out.dr.bl b o e hn0; omega)))
      clear hown9 hgrow9 hb9 hbA HO8 HA HT HKA
      obtain ⟨g9, c9, e9⟩ : ∃ g9 c9, v9 = .slice (some ⟨g9, 0, none⟩) (l ++ [(zA : Int) - 1]).length c9 := by
        rcases HO9.out.2 with ⟨_, h4⟩ | ⟨g, cp, cur, hv, _⟩
        · simp at h4
        · exact ⟨g, cp, hv⟩
      obtain ⟨c1, f1, -⟩ := HS9.out.dr.pat.cell hE1
      generalize E.getD 0 (.slice none 0 0) = um at *
      have HF := hid (HS9.out.output hG3 hE1 (by omega) HO9.out (by simp; omega))
      generalize (l ++ [(zA : Int) - 1]).length = l9 at *
      subst e9
      clear HO9 HS9
      go_wp2
      go_ret2
      exact ⟨_, _, rfl, HF.out.1, KB2.out _ HF.out.2⟩
    · -- without the first edge
      obtain ⟨m, hm⟩ : ∃ m, E.length = m + 1 := ⟨E.length - 1, by omega⟩
      have hm1 : (1 : Int) ≤ (E.length : Int) := by omega
      have HT2 : Hid (∀ c', Out W9 (.slice (some ⟨gb3, 0, none⟩) lb3 cb3) (.slice (some ⟨G3, 1, none⟩) (E.length - 1) c')) := hid (fun c' => by rw [hm, Nat.add_sub_cancel]; exact HT.out.tail (c' := c') (by omega) hm)
      have hcap : E.length ≤ p3 := by
        rcases HT.out.dr.pat.own.2 with ⟨h4, _⟩ | ⟨g', cp, cur, hv, _, _, hr, _⟩
        · simp at h4
        · simp at hv; omega
      by_cases hp3 : p3 = 1
      · have HT3 : Hid (∀ x c', Out W9 (.slice (some ⟨gb3, 0, none⟩) lb3 cb3) (.slice x (E.length - 1) c')) := hid (fun x c' => by
          obtain ⟨l, h1, h2⟩ := HT.out.bag.out
          obtain ⟨es, h3, h4, h5⟩ := rows_iss (w := W9) (v := .slice x (E.length - 1) c') rfl 20 (Or.inl (by omega))
          exact ⟨l, es, h1, h3, h2, by omega, h5⟩)
        clear hm
        go_wp2
        go_ret2
        exact ⟨_, _, rfl, HT3.out _ _, KB2.out _ HT.out.dr.kc⟩
      · clear hm
        go_wp2
        go_ret2
        exact ⟨_, _, rfl, HT2.out _, KB2.out _ HT.out.dr.kc⟩
    · -- an empty first edge
      obtain ⟨c1, f1, -⟩ := HT.out.dr.pat.cell hE1
      generalize E.getD 0 (.slice none 0 0) = um at *
      have c1a : ∀ o', (W9.alloc o').cell? ⟨G3, 0, none⟩ = some um := fun o' => ((al (w := W9) o').cell (p := ⟨G3, 0, none⟩) (World.block_lt_of_cell? W9 _ c1)).trans c1
      have f1a : ∀ o', (W9.alloc o').frozen? ⟨G3, 0, none⟩ = false := fun o' => ((HT.out.bel (al o')).dr.pat.cell hE1).2.1
      have HF := hid ((HT.out.bel (al (.cells #[] 3))).output (l := []) hG3 hE1 (by omega) (World.ownsRow_made W9 #[] 0 (Nat.le_refl W9.heap.size) (by decide) rfl) (by simp))
      clear HT c1 f1
      go_wp2
      go_ret2
      exact ⟨_, _, rfl, HF.out.1, KB2.out _ HF.out.2⟩
    · -- one more ahead in the bag
      go_wp2_with fail
      refine (KP.out W9 _ 3 HT.out.dr.cur (by omega) (by omega)).mono ?_
      rintro e wA ⟨zA, rfl, hzA, hCA, hKA⟩
      have HA := hid (HT.out.turn hKA hCA)
      clear HT hCA hKA
      obtain ⟨l, hl0, hl8, hoB⟩ := HA.out.bag
      have hlb : lb3 = l.length := by
        rcases hoB.2 with ⟨h4, _⟩ | ⟨g', cp, cur, hv, _⟩
        · simp at h4
        · simp at hv; exact hv.2.1
      subst hlb
      have N1 : ∀ j u, (l.map (Value.int .i64))[j]? = some u → (wA.alloc (.cells #[.int .i64 zA] 3)).cell? ((⟨gb3, 0, none⟩ : Addr).add j) = some u := fun j u h => (hoB.alloc _).cells rfl j u h
      have HN1 := hid N1
      have HOL := hid (World.ownsRow_lit (e := 3) (size := 1) wA #[.int .i64 zA] 1 (Nat.le_refl wA.heap.size) (by decide) rfl)
      clear hoB N1
      go_wp2_with (first
        | (at_builtin; refine wpList_append_own _ rfl _ _ 23 rfl wA.heap.size 3 i0 (.int .i64 0) 1 8 Try.underlying23 hi hz0 hz1 hz2 rfl (by decide) _ _ _ rfl HOL.out ⟨gb3, 0, none⟩ l.length cb3 (l.map (Value.int .i64)) rfl (by simp) HN1.out (ints_one l) (by unfold maxLen; omega) (by omega) (by simp) ?_)
        | fail)
      intro v7 w7' hown7 hgrow7 _
      have hb7 : Below wA.heap.size wA w7' := ((Below.refl _ wA).alloc (Nat.le_refl _) _).grown hgrow7 (by simp) (fun c e => by simp [Value.ownBlock] at e; omega)
      have HU := hid (HA.out.dr.bel hb7)
      have HF := hid (HU.out.out (l := (zA : Int) :: l) (by omega) (by rw [List.length_cons, Nat.add_comm]; exact hown7) (by simp; omega))
      clear hown7 hgrow7 hb7 HN1 HOL HA
      go_wp2
      go_ret2
      exact ⟨_, _, rfl, HF.out, KB2.out _ HU.out.kc⟩
  · go_upto_region 37 with (first | (go_at_call 35; refine (KP.out W8 2000 3 HS.out.dr.cur (by omega) (by omega)).mono ?_; rintro e w9 ⟨z9, rfl, hz9, hC9, hK9⟩))
    have HT := hid (HS.out.turn hK9 hC9)
    have hz94 : z9 ≤ 2 := by omega
    clear HS hC9 hK9 hz9 hsz
    generalize w9 = W9 at *
    have hsz := HT.out.dr.kc.size
    obtain rfl | rfl | rfl : z9 = 0 ∨ z9 = 1 ∨ z9 = 2 := by omega
    · -- an empty bag
      have HF : Hid (Out (W9.alloc (.cells #[] 3)) (.slice (some ⟨W9.heap.size, 0, none⟩) 0 0) (.slice (some ⟨G3, 0, none⟩) E.length p3) ∧ Kc g W2 (W9.alloc (.cells #[] 3))) := hid ⟨(HT.out.dr.bel (al (.cells #[] 3))).out (l := []) (by omega) (World.ownsRow_made W9 #[] 0 (Nat.le_refl W9.heap.size) (by decide) rfl) (by simp), (HT.out.dr.bel (al (.cells #[] 3))).kc⟩
      clear HT
      go_wp2
      go_ret2
      exact ⟨_, _, rfl, HF.out.1, KB2.out _ HF.out.2⟩
    · -- eight edges
      go_wp2_with fail
      go_loopg [7] (8 - E.length) (fun gk v wr => ∃ (E : List Value) (vs : Value), vs = v ∧ gk + E.length = 8 ∧ 0 < E.length ∧ Hid (St W2 g a n cap 2001 wr (.slice (some ⟨gb3, 0, none⟩) lb3 cb3) vs E))
      case atStart => exact ⟨E, _, rfl, by omega, hE1, HT⟩
      case round =>
        clear HT hE1 hE7 hE0
        obtain ⟨E, vs, rfl, hE8, hE1, HS⟩ := hrel
        obtain ⟨GA, pA, evA, hGA, hGlA⟩ := HS.out.dr.pat.form hE1
        subst evA
        have hsz := HS.out.dr.kc.size
        have hE0 : (0 : Int) < (E.length : Int) := by omega
        by_cases hlt : E.length < 8
        · have i1 : (E.length : Int) < 8 := by omega
          obtain ⟨c1, f1, hr⟩ := HS.out.dr.pat.cell hE1
          have HAP : Hid ((E.getD 0 (.slice none 0 0)).ownBlock ≠ (Value.slice (some ⟨gb3, 0, none⟩) lb3 cb3).ownBlock) := hid (HS.out.apart _ (by
            refine List.mem_of_getElem? (i := 0) ?_
            simp [List.getD_eq_getElem?_getD, hE1]))
          generalize E.getD 0 (.slice none 0 0) = um at *
          have HR := hid hr
          obtain ⟨gu, lu, cu, eu⟩ := hr.form
          subst eu
          clear hr f1
          go_wp2_with (first
            | (at_builtin; refine wpList_append_own _ rfl _ _ 24 rfl W2.heap.size 23 iS (.slice none 0 0) 1 24 Try.underlying24 hj hy0 hy1 hy2 rfl (by decide) _ _ _ rfl (HS.out.dr.pat.own.alloc _) ⟨wr.heap.size, 0, none⟩ 1 1 [.slice (some ⟨gu, 0, none⟩) lu cu] rfl rfl ?c5a ?c5b ?c5c ?c5d ?c5e ?_)
            | fail)
          try (case c5a =>
            intro j u hj
            match j, hj with
            | 0, hj => simp at hj; subst hj; simp [Addr.add])
          try (case c5b => first | rfl | (intro u hu; simp at hu; subst hu; rfl))
          try (case c5c => unfold maxLen; (first | omega | (simp; omega)))
          try (case c5d => (first | omega | (simp; omega)))
          try (case c5e => (first | omega | (simp; omega)))
          intro v' w1 hown' hgrow _
          have HE := hid (HS.out.push hown' hgrow HR.out HAP.out)
          obtain ⟨b', p', ev'⟩ := HE.out.dr.pat.slice
          have ev2 : v' = .slice b' (E.length + 1) p' := by rw [ev']; simp
          clear hown' hgrow ev'
          subst ev2
          go_wp2
          go_roundg (gk - 1)
          case rel => exact ⟨_, _, rfl, by simp; omega, by simp, HE⟩
          case measure => omega
        · have i1 : ¬ ((E.length : Int) < 8) := by omega
          go_wp2
          go_ret2
          exact ⟨_, _, rfl, HS.out.out (by omega), KB2.out _ HS.out.dr.kc⟩
    · -- another pattern
      obtain ⟨E5, hE5, hS5⟩ := lits5 HT.out.dr
      have HF := hid hS5
      clear hS5 HT
      go_wp2
      go_ret2
      exact ⟨_, _, rfl, HF.out.out (by omega), KB2.out _ HF.out.dr.kc⟩

end Go.Proofs.Ytnmcgbfhgmmcpaa
