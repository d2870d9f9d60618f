import Derived.Deep.CutBlock
import Derived.Test.YtnmcgbfhgmmcpaaW66
/-
  spec.l1DrawPattern: 1 to 7 edges, none empty.
-/
namespace Go.Proofs.Ytnmcgbfhgmmcpaa
open Go.RowKit

set_option maxHeartbeats 60000000 in
set_option maxRecDepth 1000000 in
theorem drawPattern_calls (W : World) (g : Nat) (a : Option Addr) (n cap k : Nat) (hC : Rdr W g a n cap k) (hn : n ≤ 1048576) (hk : k ≤ 1000) :
    Calls Try.prog 33 #[.pointer (some ⟨g, 0, none⟩)] W fun e w' => ∃ (q : Nat) (v : Value) (E : List Value), e = .returned (.tuple #[.int .i64 q, v]) ∧ 2 ≤ q ∧ q ≤ 5 ∧ 0 < E.length ∧ E.length ≤ 7 ∧ Drawn W g a n cap (k + 1000) w' v E := by
  obtain ⟨i0, hi, hz0, hz1, hz2⟩ := info_parts Try.infoInt
  obtain ⟨iS, hj, hy0, hy1, hy2⟩ := info_parts Try.infoRow
  have KP : Hid (∀ (w : World) (k m : Nat), Rdr w g a n cap k → k ≤ 1000000000 → m ≤ 256 → Calls Try.prog 35 #[.pointer (some ⟨g, 0, none⟩), .int .i64 m] w fun e w' => ∃ z : Nat, e = .returned (.int .i64 z) ∧ (z < m ∨ z = 0) ∧ Rdr w' g a n cap (k + 1) ∧ Kc g w w') := hid (fun w k m h h1 h2 => pick_calls w g a n cap k m h hn h1 h2)
  have KD : Hid (∀ (w : World) (k q most : Nat), Rdr w g a n cap k → k ≤ 1000000 → 1 ≤ q → q ≤ 8 → most ≤ 20 → Calls Try.prog 34 #[.pointer (some ⟨g, 0, none⟩), .int .i64 q, .int .i64 most] w fun e w' => ∃ (v : Value) (s : Nat → Bool), e = .returned v ∧ w'.ownsRow w.heap.size 3 1 v (plc s q).length ((plc s q).map (Value.int .i64)) ∧ (∃ j, j < q ∧ s j = true) ∧ Rdr w' g a n cap (k + 30) ∧ Kc g w w') := hid (fun w k q most h h1 h2 h3 h4 => drawSet_calls w g a n cap k q most h hn h1 h2 h3 h4)
  have hgl : g < W.heap.size := by
    obtain ⟨k', sd, _, h2⟩ := hC
    exact World.block_lt_of_cell? W _ h2.c0
  have HBL : Hid (∀ b o, a = some ⟨b, o, none⟩ → 0 < n → b < W.heap.size) := hid (fun b o e hn0 => by
    obtain ⟨k', sd, _, h2⟩ := hC
    exact h2.byteLt e hn0)
  have HC := hid hC
  clear hC
  go_enter Try.func33, Try.ntmps33
  go_upto_region 2 with (first | (go_at_call 35; refine (KP.out W k 4 HC.out (by omega) (by omega)).mono ?_; rintro e w1 ⟨z1, rfl, hzq, hC1, hK1⟩))
  obtain ⟨q, hq, hq2, hq5⟩ : ∃ q : Nat, (2 : Int) + (z1 : Int) = (q : Int) ∧ 2 ≤ q ∧ q ≤ 5 := ⟨2 + z1, by omega, by omega, by omega⟩
  rw [hq]
  have hs1 := hK1.size
  have HD0 : Hid (Drawn W g a n cap (k + 1) (w1.alloc (.cells #[] 23)) (.slice (some ⟨w1.heap.size, 0, none⟩) 0 0) []) := hid ⟨⟨World.ownsRow_made w1 #[] 0 hs1 (by decide) rfl, fun u hu => by simp at hu⟩, hC1.below ((Below.refl _ _).alloc (Nat.le_refl _) _), hK1.below ((Below.refl _ _).alloc hs1 _), hgl, HBL.out⟩
  clear hC1 hK1 hzq hq HC
  go_upto_region 3 with fail
  generalize w1.alloc (.cells #[] 23) = W1 at *
  generalize w1.heap.size = g1 at *
  go_upto_if 22 with (first | (go_at_call 35; refine (KP.out W1 (k + 1) 3 HD0.out.cur (by omega) (by omega)).mono ?_; rintro e w2 ⟨z2, rfl, hz2', hC2, hK2⟩))
  have HD := hid (HD0.out.turn hK2 hC2)
  clear HD0 hC2 hK2 hz2'
  go_cut [5] (fun v wx => ∃ E : List Value, E.length ≤ 5 ∧ Hid (Drawn W g a n cap (k + 2) wx v E))
  case first =>
    by_cases h2 : z2 = 0
    · subst h2
      go_wp2
      go_loopw [5, 6] (fun v t wr => ∃ (i : Nat) (vs : Value) (E : List Value), i ≤ q ∧ t = .int .i64 i ∧ vs = v ∧ E.length ≤ i ∧ Hid (Drawn W g a n cap (k + 2) wr vs E)) (fun _ t _ => q - (intOf t).toNat)
      case atStart => exact ⟨0, _, [], Nat.zero_le _, rfl, rfl, Nat.zero_le _, HD⟩
      case round =>
        clear HD
        obtain ⟨i, vs, E, hiq, rfl, rfl, hEl, HD⟩ := hrel
        by_cases hlt : i < q
        · have i1 : (i : Int) < (q : Int) := by omega
          have hsz := HD.out.kc.size
          by_cases hl : i + 1 < q
          · have r1 : ((i : Int) + 1) % (q : Int) = (i : Int) + 1 := Int.emod_eq_of_lt (by omega) (by omega)
            have r0 : Int.tmod ((i : Int) + 1) (q : Int) = (i : Int) + 1 := by rw [Int.tmod_eq_emod_of_nonneg (by omega), r1]
            have r2 : ¬ ((i : Int) + 1 < (i : Int)) := by omega
            have r3 : ((i : Int) != (i : Int) + 1) = true := by simp; omega
            have r4 : ¬ ((i : Int) = (i : Int) + 1) := by omega
            have HR := hid (lit_row wr W.heap.size [(i : Int), (i : Int) + 1] hsz (by simp) (by simp))
            have HD1 := hid (HD.out.bel ((Below.refl _ _).alloc (Nat.le_refl _) (.cells #[.int .i64 i, .int .i64 (i + 1)] 3)))
            go_wp2_with (first
              | (at_builtin; refine wpList_append_own _ rfl _ _ 24 rfl W.heap.size 23 iS (.slice none 0 0) 1 24 Try.underlying24 hj hy0 hy1 hy2 rfl (by decide) _ _ _ rfl (HD1.out.pat.own.alloc _) ⟨wr.heap.size + 1, 0, none⟩ 1 1 [.slice (some ⟨wr.heap.size, 0, none⟩) 2 2] rfl rfl ?c1a ?c1b ?c1c ?c1d ?c1e ?_)
              | fail)
            try (case c1a =>
              intro j u hj
              match j, hj with
              | 0, hj => simp at hj; subst hj; simp [Addr.add])
            try (case c1b => first | rfl | (intro u hu; simp at hu; subst hu; rfl))
            try (case c1c => unfold maxLen; (first | omega | (simp; omega)))
            try (case c1d => (first | omega | (simp; omega)))
            try (case c1e => (first | omega | (simp; omega)))
            intro v' w1 hown' hgrow _
            have HE := hid (HD1.out.push hown' hgrow HR.out)
            clear hown' hgrow
            go_wp2
            go_roundw
            case rel => first | exact ⟨i + 1, v', _, by omega, by go_num, rfl, by simp; omega, HE⟩ | ((repeat apply Exists.intro); exact ⟨⟨i + 1, v', _, by omega, by go_num, rfl, by simp; omega, HE⟩, rfl⟩)
            case measure => simp [intOf]; omega
          · have e1 : (i : Int) + 1 = (q : Int) := by omega
            have r1 : ((i : Int) + 1) % (q : Int) = 0 := by rw [e1]; exact Int.emod_self
            have r0 : Int.tmod ((i : Int) + 1) (q : Int) = 0 := by rw [Int.tmod_eq_emod_of_nonneg (by omega), r1]
            have r2 : (0 : Int) < (i : Int) := by omega
            have r3 : ((0 : Int) != (i : Int)) = true := by simp; omega
            have r4 : ¬ ((0 : Int) = (i : Int)) := by omega
            have HR := hid (lit_row wr W.heap.size [(0 : Int), (i : Int)] hsz (by simp) (by simp))
            have HD1 := hid (HD.out.bel ((Below.refl _ _).alloc (Nat.le_refl _) (.cells #[.int .i64 0, .int .i64 i] 3)))
            go_wp2_with (first
              | (at_builtin; refine wpList_append_own _ rfl _ _ 24 rfl W.heap.size 23 iS (.slice none 0 0) 1 24 Try.underlying24 hj hy0 hy1 hy2 rfl (by decide) _ _ _ rfl (HD1.out.pat.own.alloc _) ⟨wr.heap.size + 1, 0, none⟩ 1 1 [.slice (some ⟨wr.heap.size, 0, none⟩) 2 2] rfl rfl ?c2a ?c2b ?c2c ?c2d ?c2e ?_)
              | fail)
            try (case c2a =>
              intro j u hj
              match j, hj with
              | 0, hj => simp at hj; subst hj; simp [Addr.add])
            try (case c2b => first | rfl | (intro u hu; simp at hu; subst hu; rfl))
            try (case c2c => unfold maxLen; (first | omega | (simp; omega)))
            try (case c2d => (first | omega | (simp; omega)))
            try (case c2e => (first | omega | (simp; omega)))
            intro v' w1 hown' hgrow _
            have HE := hid (HD1.out.push hown' hgrow HR.out)
            clear hown' hgrow
            go_wp2
            go_roundw
            case rel => first | exact ⟨i + 1, v', _, by omega, by go_num, rfl, by simp; omega, HE⟩ | ((repeat apply Exists.intro); exact ⟨⟨i + 1, v', _, by omega, by go_num, rfl, by simp; omega, HE⟩, rfl⟩)
            case measure => simp [intOf]; omega
        · obtain rfl : i = q := by omega
          have i1 : ¬ ((i : Int) < (i : Int)) := by omega
          have hE5 : E.length ≤ 5 := by omega
          go_wp2
          go_meet
          exact ⟨E, hE5, HD⟩

    · have j2 : ¬ ((z2 : Int) = 0) := by omega
      have i2 : ((z2 : Int) == 0) = false := by simp; omega
      go_wp2
      go_meet
      exact ⟨[], by simp, HD⟩
  case rest =>
  clear HD
  obtain ⟨E, hE5, HD⟩ := hcut
  generalize wc = W3 at *
  go_upto_block 2 with (first | (go_at_call 35; refine (KP.out W3 (k + 2) 3 HD.out.cur (by omega) (by omega)).mono ?_; rintro e w3 ⟨z3, rfl, hz3, hC3, hK3⟩))
  have HDa := hid (HD.out.turn hK3 hC3)
  clear HD hC3 hK3
  go_cut [5] (fun v wx => ∃ E : List Value, 0 < E.length ∧ E.length ≤ 7 ∧ Hid (Drawn W g a n cap (k + 200) wx v E))
  case first =>
    go_wp2_with fail
    go_loopw [5, 10] (fun v t wr => ∃ (j : Nat) (vs : Value) (E : List Value), j ≤ 1 + z3 ∧ t = .int .i64 j ∧ vs = v ∧ E.length ≤ 7 ∧ (0 < j → 0 < E.length) ∧ (j = 0 → E.length ≤ 5) ∧ Hid (Drawn W g a n cap (k + 3 + 30 * j) wr vs E)) (fun _ t _ => 1 + z3 - (intOf t).toNat)
    case atStart => exact ⟨0, _, _, Nat.zero_le _, rfl, rfl, by omega, fun h => by omega, fun _ => hE5, HDa⟩
    case round =>
      clear HDa hE5
      obtain ⟨j, vs, E, hjz, rfl, rfl, hE7, hE0, hEz, HD⟩ := hrel
      obtain ⟨bb, pp, ev⟩ := HD.out.pat.slice
      subst ev
      have hsz := HD.out.kc.size
      have hE1 : ¬ (j < 1 + z3 ∧ E.length < 7) → 0 < E.length := fun _ => by
        rcases Nat.eq_zero_or_pos j with h | h
        · have := hEz h; omega
        · exact hE0 h
      by_cases hgo : j < 1 + z3
      · have i1 : (j : Int) < 1 + (z3 : Int) := by omega
        by_cases hgo2 : E.length < 7
        · have i2 : (E.length : Int) < 7 := by omega
          go_wp2_with fail
          refine (KD.out wr (k + 3 + 30 * j) q 3 HD.out.cur (by omega) (by omega) (by omega) (by omega)).mono ?_
          rintro e w4 ⟨vd, s, rfl, hown, hs, hC4, hK4⟩
          have HD1 := hid (HD.out.turn hK4 hC4)
          have HR := hid (set_row hown hsz (by omega) hs)
          obtain ⟨gd, ld, cd, ed⟩ := HR.out.form
          subst ed
          have hsz4 := HD1.out.kc.size
          clear hown hs hC4 hK4
          go_wp2_with (first
            | (at_builtin; refine wpList_append_own _ rfl _ _ 24 rfl W.heap.size 23 iS (.slice none 0 0) 1 24 Try.underlying24 hj hy0 hy1 hy2 rfl (by decide) _ _ _ rfl (HD1.out.pat.own.alloc _) ⟨w4.heap.size, 0, none⟩ 1 1 [.slice (some ⟨gd, 0, none⟩) ld cd] rfl rfl ?c3a ?c3b ?c3c ?c3d ?c3e ?_)
            | fail)
          try (case c3a =>
            intro j u hj
            match j, hj with
            | 0, hj => simp at hj; subst hj; simp [Addr.add])
          try (case c3b => first | rfl | (intro u hu; simp at hu; subst hu; rfl))
          try (case c3c => unfold maxLen; (first | omega | (simp; omega)))
          try (case c3d => (first | omega | (simp; omega)))
          try (case c3e => (first | omega | (simp; omega)))
          intro v' w1 hown' hgrow _
          have HE := hid (HD1.out.push hown' hgrow HR.out)
          clear hown' hgrow
          go_wp2
          go_roundw
          case rel => first | exact ⟨j + 1, v', _, by omega, by go_num, rfl, by simp; omega, fun _ => by simp, fun h => by omega, hid (HE.out.mono (by omega))⟩ | ((repeat apply Exists.intro); exact ⟨⟨j + 1, v', _, by omega, by go_num, rfl, by simp; omega, fun _ => by simp, fun h => by omega, hid (HE.out.mono (by omega))⟩, rfl⟩)
          case measure => simp [intOf]; omega
        · have i2 : ¬ ((E.length : Int) < 7) := by omega
          go_wp2
          go_meet
          exact ⟨E, hE1 (by omega), hE7, hid (HD.out.mono (by omega))⟩
      · have i1 : ¬ ((j : Int) < 1 + (z3 : Int)) := by omega
        go_wp2
        go_meet
        exact ⟨E, by rcases Nat.eq_zero_or_pos j with h | h; (omega); (exact hE0 h), hE7, hid (HD.out.mono (by omega))⟩
  case rest =>
  clear HDa hE5 hz3
  obtain ⟨E, hE1, hE7, HD⟩ := hcut
  generalize wc = W4 at *
  go_wp2_with fail
  go_loopw [5, 11] (fun v t wr => ∃ (i : Nat) (vs : Value) (E : List Value), i ≤ q ∧ t = .int .i64 i ∧ vs = v ∧ 0 < E.length ∧ E.length ≤ 7 ∧ Hid (Drawn W g a n cap (k + 200 + i) wr vs E)) (fun _ t _ => q - (intOf t).toNat)
  case atStart => exact ⟨0, _, _, Nat.zero_le _, rfl, rfl, hE1, hE7, HD⟩
  case round =>
    clear HD hE1 hE7
    obtain ⟨i, vs, E, hiq, rfl, rfl, hE1, hE7, HD⟩ := hrel
    obtain ⟨G, pp, ev, hG, hGl⟩ := HD.out.pat.form hE1
    subst ev
    have hsz := HD.out.kc.size
    by_cases hlt : i < q
    · have i1 : (i : Int) < (q : Int) := by omega
      go_upto_block 6 with fail
      go_cut [12] from 65 to 156 (fun v wx => ∃ b : Bool, v = .bool b ∧ wx = wr)
      case first =>
        go_wp2_with fail
        generalize wr = W5 at *
        go_loopw [12, 72] (fun v t wr => ∃ (j : Nat) (b : Bool), j ≤ E.length ∧ t = .int .i64 j ∧ v = .bool b ∧ wr = W5) (fun _ t _ => E.length - (intOf t).toNat)
        case atStart => exact ⟨0, false, Nat.zero_le _, rfl, rfl, rfl⟩
        case round =>
          obtain ⟨j, b, hjE, rfl, rfl, hw⟩ := hrel
          subst hw
          by_cases hje : j < E.length
          · have i2 : (j : Int) < (E.length : Int) := by omega
            obtain ⟨c1, -, hr⟩ := HD.out.pat.cell hje
            obtain ⟨l, hl0, hl8, hl⟩ := hr.is
            have KH := hid (l1Has_calls wr _ l (i : Int) hl (by omega))
            generalize E.getD j (.slice none 0 0) = uj at *
            obtain ⟨gu, lu, cu, eu⟩ := hr.form
            subst eu
            generalize decide ((i : Int) ∈ l) = bh at *
            clear hl
            cases b
            · go_wp2_with (first
                | (go_at_call 37; refine KH.out.mono ?_; rintro e w' ⟨rfl, hw'⟩; subst w')
                | fail)
              go_roundw
              case rel => exact ⟨j + 1, _, by omega, by go_num, rfl, by trivial⟩ -- ((repeat apply Exists.intro); exact ⟨⟨j + 1, bh, by omega, by go_num, rfl, rfl⟩, rfl⟩)
              case measure => simp [intOf]; omega
            · go_wp2
              go_roundw
              case rel => exact ⟨j + 1, _, by omega, by go_num, rfl, by trivial⟩ -- ((repeat apply Exists.intro); exact ⟨⟨j + 1, true, by omega, by go_num, rfl, rfl⟩, rfl⟩)
              case measure => simp [intOf]; omega
          · obtain rfl : j = E.length := by omega
            have i2 : ¬ ((E.length : Int) < (E.length : Int)) := by omega
            go_wp2
            go_meet
            exact ⟨b, rfl, rfl⟩
      case rest =>
      obtain ⟨b, rfl, hwc⟩ := hcut
      subst wc
      cases b
      case true =>
        go_wp2
        go_roundw
        case rel => exact ⟨i + 1, _, E, by omega, by go_num, rfl, hE1, hE7, hid (HD.out.mono (by omega))⟩
        case measure => simp [intOf]; omega
      case false =>
        obtain ⟨m, hm⟩ : ∃ m, E.length = m + 1 := ⟨E.length - 1, by omega⟩
        have HM := hid hm
        have hm' : (E.length : Int) - 1 = (m : Int) := by omega
        clear hm
        go_upto_region 30 with fail
        go_cut [99] from 65 to 156 (fun v wx => ∃ b : Bool, v = .bool b ∧ (b = true → 0 < i ∧ E.length < 7) ∧ Hid (Drawn W g a n cap (k + 200 + i + 1) wx (.slice (some ⟨G, 0, none⟩) E.length pp) E) ∧ Hid (wr.heap.size ≤ wx.heap.size))
        case first =>
          by_cases hi0 : 0 < i
          · have i2 : (0 : Int) < (i : Int) := by omega
            by_cases h7 : E.length < 7
            · have i3 : (E.length : Int) < 7 := by omega
              go_wp2_with (first | (go_at_call 35; refine (KP.out wr (k + 200 + i) 3 HD.out.cur (by omega) (by omega)).mono ?_; rintro e w5 ⟨z5, rfl, hz5, hC5, hK5⟩) | fail)
              go_meet
              exact ⟨_, rfl, fun _ => ⟨hi0, h7⟩, hid (HD.out.turn hK5 hC5), hid hK5.size⟩
            · have i3 : ¬ ((E.length : Int) < 7) := by omega
              go_wp2
              go_meet
              exact ⟨false, rfl, (fun h => by cases h), hid (HD.out.mono (by omega)), hid (Nat.le_refl _)⟩
          · have i2 : ¬ ((0 : Int) < (i : Int)) := by omega
            go_wp2
            go_meet
            exact ⟨false, rfl, (fun h => by cases h), hid (HD.out.mono (by omega)), hid (Nat.le_refl _)⟩
        case rest =>
        obtain ⟨b, rfl, hb, HDn, HSn⟩ := hcut
        have hGl' : G < wc.heap.size := by have := HSn.out; omega
        clear HD hGl hsz HSn
        have HD := HDn
        clear HDn
        have hsz := HD.out.kc.size
        generalize wc = wr at *
        have hmE : m < E.length := by have := HM.out; omega
        cases b
        case true =>
          obtain ⟨hi0, h7⟩ := hb rfl
          have HR := hid (lit_row wr W.heap.size [(i : Int) - 1, (i : Int)] hsz (by simp) (by simp))
          have HD1 := hid (HD.out.bel ((Below.refl _ _).alloc (Nat.le_refl _) (.cells #[.int .i64 ((i : Int) - 1), .int .i64 i] 3)))
          go_wp2_with (first
            | (at_builtin; refine wpList_append_own _ rfl _ _ 24 rfl W.heap.size 23 iS (.slice none 0 0) 1 24 Try.underlying24 hj hy0 hy1 hy2 rfl (by decide) _ _ _ rfl (HD1.out.pat.own.alloc _) ⟨wr.heap.size + 1, 0, none⟩ 1 1 [.slice (some ⟨wr.heap.size, 0, none⟩) 2 2] rfl rfl ?c4a ?c4b ?c4c ?c4d ?c4e ?_)
            | fail)
          try (case c4a =>
            intro j u hj
            match j, hj with
            | 0, hj => simp at hj; subst hj; simp [Addr.add])
          try (case c4b => first | rfl | (intro u hu; simp at hu; subst hu; rfl))
          try (case c4c => unfold maxLen; (first | omega | (simp; omega)))
          try (case c4d => (first | omega | (simp; omega)))
          try (case c4e => (first | omega | (simp; omega)))
          intro v' w1 hown' hgrow _
          have HE := hid (HD1.out.push hown' hgrow HR.out)
          clear hown' hgrow
          go_wp2
          go_roundw
          case rel => exact ⟨i + 1, v', _, by omega, by go_num, rfl, by simp, by simp; omega, hid (HE.out.mono (by omega))⟩
          case measure => simp [intOf]; omega
        case false =>
          clear hb
          obtain ⟨c1, f1, hr⟩ := HD.out.pat.cell hmE
          generalize E.getD m (.slice none 0 0) = um at *
          obtain ⟨l, hl0, hl8, hown⟩ := hr
          obtain ⟨gu, cu, eu⟩ : ∃ gu cu, um = .slice (some ⟨gu, 0, none⟩) l.length cu := by
            rcases hown.2 with ⟨_, h4⟩ | ⟨g, cp, cur, hv, _⟩
            · omega
            · exact ⟨g, cp, hv⟩
          subst eu
          have HOWN := hid hown
          obtain ⟨p, hp⟩ : ∃ p, l.length = p + 1 := ⟨l.length - 1, by omega⟩
          have c2 : wr.cell? ⟨gu, p, none⟩ = some (.int .i64 (l.getD p 0)) := by
            have := hown.cellAt p (by omega)
            rw [this, List.getElem?_map, List.getElem?_eq_getElem (by omega)]
            simp [List.getD_eq_getElem?_getD, show p < l.length by omega]
          have hp' : (l.length : Int) - 1 = (p : Int) := by omega
          have hpl : (p : Int) < (l.length : Int) := by omega
          have hml : (m : Int) < (E.length : Int) := by omega
          clear hown hp
          generalize l.getD p 0 = x at *
          by_cases hxi : x < (i : Int)
          · have d1 : decide (x < (i : Int)) = true := decide_eq_true hxi
            by_cases hl3 : l.length < 3
            · have i3 : (l.length : Int) < 3 := by omega
              have d3 : decide ((l.length : Int) < 3) = true := decide_eq_true i3
              go_upto_region 32 with fail
              go_quiet (fail)
              have hBd : Below wr.heap.size wr (wr.drewN nq) := below_drewN (Below.refl _ wr) nq
              have HD2 := hid (HD.out.bel hBd)
              have c1' : (wr.drewN nq).cell? ⟨G, m, none⟩ = some (.slice (some ⟨gu, 0, none⟩) l.length cu) := c1
              have HOWN2 : Hid ((wr.drewN nq).ownsRow W.heap.size 3 1 (.slice (some ⟨gu, 0, none⟩) l.length cu) l.length (l.map (Value.int .i64))) := hid HOWN.out
              clear HD HOWN c1 f1 c2 hBd hsz hGl'
              generalize wr.drewN nq = wx at *
              have hsz := HD2.out.kc.size
              have N1 : ∀ j u, (l.map (Value.int .i64))[j]? = some u → (wx.alloc (.cells #[] 3)).cell? ((⟨gu, 0, none⟩ : Addr).add j) = some u := fun j u h => (HOWN2.out.alloc _).cells rfl j u h
              have HN1 := hid N1
              have c1a : ∀ o', (wx.alloc o').cell? ⟨G, m, none⟩ = some (.slice (some ⟨gu, 0, none⟩) l.length cu) := fun o' => (((Below.refl wx.heap.size wx).alloc (Nat.le_refl _) o').cell (p := ⟨G, m, none⟩) (World.block_lt_of_cell? wx _ c1')).trans c1'
              clear N1
              go_wp2_with (first
                | (at_builtin; refine wpList_append_own _ rfl _ _ 23 rfl wx.heap.size 3 i0 (.int .i64 0) 1 8 Try.underlying23 hi hz0 hz1 hz2 rfl (by decide) _ _ _ rfl (World.ownsRow_made wx #[] 0 (Nat.le_refl _) (by decide) rfl) ⟨gu, 0, none⟩ l.length cu (l.map (Value.int .i64)) rfl (by simp) HN1.out (ints_one l) (by unfold maxLen; omega) (by omega) (by simp) ?_)
                | fail)
              intro v7 w7 hown7 hgrow7 _
              have hb7 : Below wx.heap.size wx w7 := ((Below.refl _ wx).alloc (Nat.le_refl _) _).grown hgrow7 (by simp) (fun c e => by simp [Value.ownBlock] at e; omega)
              have hs7 := hb7.size
              clear hgrow7
              go_wp2_with (first
                | (at_builtin; refine wpList_append_own _ rfl _ _ 23 rfl wx.heap.size 3 i0 (.int .i64 0) 1 8 Try.underlying23 hi hz0 hz1 hz2 rfl (by decide) _ _ _ rfl (hown7.alloc _) ⟨w7.heap.size, 0, none⟩ 1 1 [.int .i64 i] rfl rfl ?y1 ?y2 ?y3 ?y4 ?y5 ?_)
                | fail)
              try (case y1 =>
                intro j u hj
                match j, hj with
                | 0, hj => simp at hj; subst hj; simp [Addr.add])
              try (case y2 => first | rfl | (intro u hu; simp at hu; subst hu; rfl))
              try (case y3 => unfold maxLen; (first | omega | (simp; omega)))
              try (case y4 => (first | omega | (simp; omega)))
              try (case y5 => (first | omega | (simp; omega)))
              intro v9 w9 hown9 hgrow9 _
              have hb9 : Below wx.heap.size wx w9 := (hb7.alloc hs7 _).grown hgrow9 (by simp; omega) (fun c e => (hown7.lt c e).1)
              have HR : Hid (Row1 w9 W.heap.size v9) := hid ⟨l ++ [(i : Int)], by simp, by simp; omega, own_le (by simpa using hown9) hsz⟩
              have HD9 := hid (HD2.out.bel hb9)
              obtain ⟨g9, l9, c9, e9⟩ := HR.out.form
              subst e9
              obtain ⟨c9', f9, -⟩ := HD9.out.pat.cell hmE
              generalize E.getD m (.slice none 0 0) = u9 at *
              clear hown9 hgrow9 hown7 hb7 hb9 HN1 c1' c1a
              go_wp2
              go_roundw
              case rel => exact ⟨i + 1, _, E.set m (.slice (some ⟨g9, 0, none⟩) l9 c9), by omega, by go_num, rfl, by rw [List.length_set]; exact hE1, by rw [List.length_set]; exact hE7, hid ((HD9.out.put hG hmE HR.out).mono (by omega))⟩
              case measure => simp [intOf]; omega
            · have i3 : ¬ ((l.length : Int) < 3) := by omega
              have d3 : decide ((l.length : Int) < 3) = false := decide_eq_false i3
              go_upto_region 32 with fail
              go_quiet (fail)
              have hBd : Below wr.heap.size wr (wr.drewN nq) := below_drewN (Below.refl _ wr) nq
              have HD2 := hid (HD.out.bel hBd)
              clear HD HOWN c1 f1 c2 hBd hsz hGl' hl0 hl8
              generalize wr.drewN nq = wx at *
              have hsz := HD2.out.kc.size
              have hGl' := (HD2.out.pat.own.lt G rfl).2
              by_cases h7 : E.length < 7
              · have i7 : (E.length : Int) < 7 := by omega
                have HR := hid (lit_row wx W.heap.size [(i : Int)] hsz (by simp) (by simp))
                have HD1 := hid (HD2.out.bel ((Below.refl _ _).alloc (Nat.le_refl _) (.cells #[.int .i64 i] 3)))
                go_wp2_with (first
                  | (at_builtin; refine wpList_append_own _ rfl _ _ 24 rfl W.heap.size 23 iS (.slice none 0 0) 1 24 Try.underlying24 hj hy0 hy1 hy2 rfl (by decide) _ _ _ rfl (HD1.out.pat.own.alloc _) ⟨wx.heap.size + 1, 0, none⟩ 1 1 [.slice (some ⟨wx.heap.size, 0, none⟩) 1 1] rfl rfl ?L5a ?L5b ?L5c ?L5d ?L5e ?_)
                  | fail)
                try (case L5a =>
                  intro j u hj
                  match j, hj with
                  | 0, hj => simp at hj; subst hj; simp [Addr.add])
                try (case L5b => first | rfl | (intro u hu; simp at hu; subst hu; rfl))
                try (case L5c => unfold maxLen; (first | omega | (simp; omega)))
                try (case L5d => (first | omega | (simp; omega)))
                try (case L5e => (first | omega | (simp; omega)))
                intro v' w1 hown' hgrow _
                have HE := hid (HD1.out.push hown' hgrow HR.out)
                clear hown' hgrow
                go_wp2
                go_roundw
                case rel => exact ⟨i + 1, v', _, by omega, by go_num, rfl, by simp, by simp; omega, hid (HE.out.mono (by omega))⟩
                case measure => simp [intOf]; omega
              · have i7 : ¬ ((E.length : Int) < 7) := by omega
                have hE0 : (0 : Int) < (E.length : Int) := by omega
                obtain ⟨c0, f0, hr0⟩ := HD2.out.pat.cell hE1
                generalize E.getD 0 (.slice none 0 0) = u0 at *
                obtain ⟨l0, hl0, hl8, his⟩ := hr0.is
                obtain ⟨g0, n0, q0, e0⟩ := hr0.form
                subst e0
                have KU := hid (union_calls (wx.alloc (.cells #[.int .i64 i] 3)) _ _ l0 [(i : Int)] (his.below ((Below.refl _ _).alloc (Nat.le_refl _) _)) (lit1_is wx i) (by omega) (by simp))
                clear his hr0
                go_wp2_with fail
                refine KU.out.mono ?_
                rintro e w8 ⟨vU, rfl, hoU, hb8⟩
                have hb8' : Below wx.heap.size wx w8 := ((Below.refl _ wx).alloc (Nat.le_refl _) _).trans (hb8.mono (by simp))
                have HR := hid (set_row hoU (B := W.heap.size) (by simp; omega) (by omega) ⟨i, by omega, by simp⟩)
                have HD8 := hid (HD2.out.bel hb8')
                obtain ⟨gU, lU, cU, eU⟩ := HR.out.form
                subst eU
                obtain ⟨c8, f8, -⟩ := HD8.out.pat.cell hE1
                generalize E.getD 0 (.slice none 0 0) = u8 at *
                clear hoU hb8 hb8' c0 f0
                go_wp2
                go_roundw
                case rel => exact ⟨i + 1, _, E.set 0 (.slice (some ⟨gU, 0, none⟩) lU cU), by omega, by go_num, rfl, by rw [List.length_set]; exact hE1, by rw [List.length_set]; exact hE7, hid ((HD8.out.put hG hE1 HR.out).mono (by omega))⟩
                case measure => simp [intOf]; omega
          · have d1 : decide (x < (i : Int)) = false := decide_eq_false hxi
            go_upto_region 32 with fail
            go_quiet (fail)
            have hBd : Below wr.heap.size wr (wr.drewN nq) := below_drewN (Below.refl _ wr) nq
            have HD2 := hid (HD.out.bel hBd)
            clear HD HOWN c1 f1 c2 hBd hsz hGl' hl0 hl8
            generalize wr.drewN nq = wx at *
            have hsz := HD2.out.kc.size
            have hGl' := (HD2.out.pat.own.lt G rfl).2
            by_cases h7 : E.length < 7
            · have i7 : (E.length : Int) < 7 := by omega
              have HR := hid (lit_row wx W.heap.size [(i : Int)] hsz (by simp) (by simp))
              have HD1 := hid (HD2.out.bel ((Below.refl _ _).alloc (Nat.le_refl _) (.cells #[.int .i64 i] 3)))
              go_wp2_with (first
                | (at_builtin; refine wpList_append_own _ rfl _ _ 24 rfl W.heap.size 23 iS (.slice none 0 0) 1 24 Try.underlying24 hj hy0 hy1 hy2 rfl (by decide) _ _ _ rfl (HD1.out.pat.own.alloc _) ⟨wx.heap.size + 1, 0, none⟩ 1 1 [.slice (some ⟨wx.heap.size, 0, none⟩) 1 1] rfl rfl ?L6a ?L6b ?L6c ?L6d ?L6e ?_)
                | fail)
              try (case L6a =>
                intro j u hj
                match j, hj with
                | 0, hj => simp at hj; subst hj; simp [Addr.add])
              try (case L6b => first | rfl | (intro u hu; simp at hu; subst hu; rfl))
              try (case L6c => unfold maxLen; (first | omega | (simp; omega)))
              try (case L6d => (first | omega | (simp; omega)))
              try (case L6e => (first | omega | (simp; omega)))
              intro v' w1 hown' hgrow _
              have HE := hid (HD1.out.push hown' hgrow HR.out)
              clear hown' hgrow
              go_wp2
              go_roundw
              case rel => exact ⟨i + 1, v', _, by omega, by go_num, rfl, by simp, by simp; omega, hid (HE.out.mono (by omega))⟩
              case measure => simp [intOf]; omega
            · have i7 : ¬ ((E.length : Int) < 7) := by omega
              have hE0 : (0 : Int) < (E.length : Int) := by omega
              obtain ⟨c0, f0, hr0⟩ := HD2.out.pat.cell hE1
              generalize E.getD 0 (.slice none 0 0) = u0 at *
              obtain ⟨l0, hl0, hl8, his⟩ := hr0.is
              obtain ⟨g0, n0, q0, e0⟩ := hr0.form
              subst e0
              have KU := hid (union_calls (wx.alloc (.cells #[.int .i64 i] 3)) _ _ l0 [(i : Int)] (his.below ((Below.refl _ _).alloc (Nat.le_refl _) _)) (lit1_is wx i) (by omega) (by simp))
              clear his hr0
              go_wp2_with fail
              refine KU.out.mono ?_
              rintro e w8 ⟨vU, rfl, hoU, hb8⟩
              have hb8' : Below wx.heap.size wx w8 := ((Below.refl _ wx).alloc (Nat.le_refl _) _).trans (hb8.mono (by simp))
              have HR := hid (set_row hoU (B := W.heap.size) (by simp; omega) (by omega) ⟨i, by omega, by simp⟩)
              have HD8 := hid (HD2.out.bel hb8')
              obtain ⟨gU, lU, cU, eU⟩ := HR.out.form
              subst eU
              obtain ⟨c8, f8, -⟩ := HD8.out.pat.cell hE1
              generalize E.getD 0 (.slice none 0 0) = u8 at *
              clear hoU hb8 hb8' c0 f0
              go_wp2
              go_roundw
              case rel => exact ⟨i + 1, _, E.set 0 (.slice (some ⟨gU, 0, none⟩) lU cU), by omega, by go_num, rfl, by rw [List.length_set]; exact hE1, by rw [List.length_set]; exact hE7, hid ((HD8.out.put hG hE1 HR.out).mono (by omega))⟩
              case measure => simp [intOf]; omega
    · obtain rfl : i = q := by omega
      have i1 : ¬ ((i : Int) < (i : Int)) := by omega
      go_wp2
      go_ret2
      have HF := HD.out.mono (l := k + 1000) (by omega)
      first | exact ⟨i, _, E, rfl, hq2, hq5, hE1, hE7, HF⟩ | exact ⟨i, _, rfl, hq2, hq5, E, hE1, hE7, HF⟩ | exact ⟨i, _, rfl, E, hq2, hq5, hE1, hE7, HF⟩

end Go.Proofs.Ytnmcgbfhgmmcpaa
