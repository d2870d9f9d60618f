import Derived.Deep.LoopGhost
import Derived.Deep.OwnRows
import Derived.Test.YtnmcgbfhgmmcpaaW07
import Derived.Test.YtnmcgbfhgmmcpaaW64
/-
  spec.l1DrawSet: a set that is not empty.
-/
namespace Go.Proofs.Ytnmcgbfhgmmcpaa
open Go.RowKit

/-- block g begins with n cells, none frozen -/
def BoolsAt (w : World) (g n : Nat) (s : Nat → Bool) : Prop := w.rowIs g 4 n (fun i => .bool (s i))

theorem BoolsAt.kept {w w' : World} {g n c : Nat} {s : Nat → Bool} (h : BoolsAt w g n s) (hk : Kc c w w') (hne : g ≠ c) : BoolsAt w' g n s := h.of_block (hk.block g h.lt hne)

theorem RdrAt.other {W W' : World} {g : Nat} {a : Option Addr} {n cap : Nat} {p sd : Int} (h : RdrAt W g a n cap p sd) (hg : W'.heap[g]? = W.heap[g]?) (hb : ∀ b o, a = some ⟨b, o, none⟩ → 0 < n → W'.heap[b]? = W.heap[b]?) : RdrAt W' g a n cap p sd where
  c0 := (World.cell?_of_block (w := W) (a := ⟨g, 0, none⟩) hg).trans h.c0
  c1 := (World.cell?_of_block (w := W) (a := ⟨g, 1, none⟩) hg).trans h.c1
  c2 := (World.cell?_of_block (w := W) (a := ⟨g, 2, none⟩) hg).trans h.c2
  f1 := (World.frozen?_of_block (w := W) (a := ⟨g, 1, none⟩) hg).trans h.f1
  f2 := (World.frozen?_of_block (w := W) (a := ⟨g, 2, none⟩) hg).trans h.f2
  bytes j hj := by
    obtain ⟨b, o, x, e, hne, hc, hx⟩ := h.bytes j hj
    exact ⟨b, o, x, e, hne, (World.cell?_of_block (w := W) (a := ⟨b, o + j, none⟩) (hb b o e (by omega))).trans hc, hx⟩
  seed := h.seed

theorem RdrAt.byteLt {W : World} {g : Nat} {a : Option Addr} {n cap : Nat} {p sd : Int} (h : RdrAt W g a n cap p sd) {b o : Nat} (e : a = some ⟨b, o, none⟩) (hn : 0 < n) : b < W.heap.size := by
  obtain ⟨b', o', x, e', _, hc, _⟩ := h.bytes 0 hn
  rw [e] at e'
  simp only [Option.some.injEq, Addr.mk.injEq] at e'
  obtain ⟨rfl, rfl, _⟩ := e'
  exact World.block_lt_of_cell? W _ hc

/-- what is made anew leaves the reader as it is -/
theorem Rdr.below {W W' : World} {g : Nat} {a : Option Addr} {n cap k : Nat} (h : Rdr W g a n cap k) (hb : Below W.heap.size W W') : Rdr W' g a n cap k := by
  obtain ⟨k', sd, h1, h2⟩ := h
  exact ⟨k', sd, h1, h2.other (hb.block g (World.block_lt_of_cell? W _ h2.c0)) (fun b o e hn => hb.block b (h2.byteLt e hn))⟩

theorem Kc.new {g : Nat} {w w' : World} (h : Kc g w w') {c : Nat} (hc : w.heap.size ≤ c) (o : Nat) (v : Value) : Kc g w (w'.setCell ⟨c, o, none⟩ v) :=
  ⟨h.os, h.tape, h.output, by simpa [World.setCell] using h.size, fun b hb hg => (Below.heap_setCell _ _ _ _ (by show b ≠ c; omega)).trans (h.block b hb hg)⟩
theorem Kc.below {g : Nat} {a b c : World} (h : Kc g a b) (k : Below a.heap.size b c) : Kc g a c :=
  ⟨k.os.trans h.os, k.tape.trans h.tape, k.output.trans h.output, Nat.le_trans h.size k.size, fun x hx hg => (k.block x hx).trans (h.block x hx hg)⟩
/-- what turns only blocks from N on leaves a reader below N as it is -/
theorem Rdr.above {W W' : World} {g : Nat} {a : Option Addr} {n cap k N : Nat} (h : Rdr W g a n cap k) (hb : Below N W W') (hg : g < N) (hbl : ∀ b o, a = some ⟨b, o, none⟩ → 0 < n → b < N) : Rdr W' g a n cap k := by
  obtain ⟨k', sd, h1, h2⟩ := h
  exact ⟨k', sd, h1, h2.other (hb.block g hg) (fun b o e hn => hb.block b (hbl b o e hn))⟩

theorem below_set {N : Nat} (w : World) {c : Nat} (hc : N ≤ c) (o : Nat) (v : Value) : Below N w (w.setCell ⟨c, o, none⟩ v) := (Below.refl _ _).setCell hc v

set_option maxHeartbeats 4000000 in
set_option maxRecDepth 1000000 in
theorem drawSet_calls (W : World) (g : Nat) (a : Option Addr) (n cap k q most : Nat) (hC : Rdr W g a n cap k) (hn : n ≤ 1048576) (hk : k ≤ 1000000) (hq : 1 ≤ q) (hq8 : q ≤ 8) (hm : most ≤ 20) :
    Calls Try.prog 34 #[.pointer (some ⟨g, 0, none⟩), .int .i64 q, .int .i64 most] W fun e w' => ∃ (v : Value) (s : Nat → Bool), e = .returned v ∧ w'.ownsRow W.heap.size 3 1 v (plc s q).length ((plc s q).map (Value.int .i64)) ∧ (∃ j, j < q ∧ s j = true) ∧ Rdr w' g a n cap (k + 30) ∧ Kc g W w' := by
  obtain ⟨i0, hi, hz0, hz1, hz2⟩ := info_parts Try.infoInt
  have hmk := run_make_row' (P := Try.prog) 108 4 (.bool false) 1 Try.underlying108 (by kernel_rfl) rfl .i64 .i64 q (by omega) (by omega)
  have hgl : g < W.heap.size := by
    obtain ⟨k', sd, _, h2⟩ := hC
    exact World.block_lt_of_cell? W _ h2.c0
  have HBL : Hid (∀ b o, a = some ⟨b, o, none⟩ → 0 < n → b < W.heap.size) := hid (fun b o e hn0 => by
    obtain ⟨k', sd, _, h2⟩ := hC
    exact h2.byteLt e hn0)
  have hR0 : BoolsAt (W.alloc (.cells (madeCells #[.bool false] q) 4)) W.heap.size q (fun _ => false) := World.rowIs_made W (.bool false) q 4
  have hb0 : Below W.heap.size W (W.alloc (.cells (madeCells #[.bool false] q) 4)) := (Below.refl _ _).alloc (Nat.le_refl _) _
  have hC0 := hC.below hb0
  have hK0 := (Kc.refl g W).below hb0
  have hl0 : W.heap.size < (W.alloc (.cells (madeCells #[.bool false] q) 4)).heap.size := by simp
  clear hb0 hC
  go_enter Try.func34, Try.ntmps34
  go_upto_region 2 with fail
  generalize W.alloc (.cells (madeCells #[.bool false] q) 4) = W0 at *
  have KP : Hid (∀ (w : World) (k m : Nat), Rdr w g a n cap k → k ≤ 1000000000 → m ≤ 256 → Calls Try.prog 35 #[.pointer (some ⟨g, 0, none⟩), .int .i64 m] w fun e w' => ∃ z : Nat, e = .returned (.int .i64 z) ∧ (z < m ∨ z = 0) ∧ Rdr w' g a n cap (k + 1) ∧ Kc g w w') := hid (fun w k m h h1 h2 => pick_calls w g a n cap k m h hn h1 h2)
  have HR0 := hid hR0
  have HC0 := hid hC0
  have HK0 := hid hK0
  clear hR0 hC0 hK0
  go_upto_region 3 with (first | (go_at_call 35; refine (KP.out _ k most HC0.out (by omega) (by omega)).mono ?_; rintro e w1 ⟨z, rfl, hz, hC1, hK1⟩))
  have hz20 : z ≤ 20 := by omega
  have HX : Hid (Rdr w1 g a n cap (k + 1 + 0) ∧ Kc g W w1 ∧ BoolsAt w1 W.heap.size q (fun _ => false) ∧ (0 < 0 → ∃ j, j < q ∧ (fun _ => false) j = true)) := hid ⟨hC1, HK0.out.trans hK1, HR0.out.kept hK1 (by omega), fun h => by omega⟩
  clear hC1 hK1 HR0 HC0 HK0 hz
  generalize w1 = W1 at *
  go_wp2
  go_loopw [9] (fun t wr => ∃ (i : Nat) (s : Nat → Bool), i ≤ 1 + z ∧ t = .int .i64 i ∧ Hid (Rdr wr g a n cap (k + 1 + i) ∧ Kc g W wr ∧ BoolsAt wr W.heap.size q s ∧ (0 < i → ∃ j, j < q ∧ s j = true))) (fun t _ => 1 + z - (intOf t).toNat)
  case atStart => exact ⟨0, _, Nat.zero_le _, rfl, HX⟩
  case round =>
    clear HX
    obtain ⟨i, s, hi1, rfl, hH⟩ := hrel
    by_cases hiz : i < 1 + z
    · have i1 : (i : Int) < 1 + (z : Int) := by omega
      obtain ⟨hC, hK, hB, -⟩ := hH.out
      have HK := hid hK
      have HB := hid hB
      have KQ := hid (KP.out wr (k + 1 + i) q hC (by omega) (by omega))
      clear hC hK hB hH
      go_wp2_with fail
      refine KQ.out.mono ?_
      rintro e w2 ⟨y, rfl, hy, hC2, hK2⟩
      have hB2 := HB.out.kept hK2 (by omega)
      have hyq : y < q := by omega
      have j1 : (y : Int) < (q : Int) := by omega
      have b1 : w2.cell? ⟨W.heap.size, y, none⟩ = some (.bool (s y)) := World.rowIs.cell hB2 hyq
      have b2 := World.rowIs.frozen hB2 y
      go_wp2
      go_roundw
      case rel =>
        refine ⟨i + 1, fun j => if j = y then true else s j, by omega, by go_num, hid ⟨hC2.above (below_set _ (Nat.le_refl _) _ _) hgl HBL.out, (HK.out.trans hK2).new (Nat.le_refl _) _ _, (World.rowIs.set hB2 y (.bool true)).congr (fun j _ => ?_), fun _ => ⟨y, hyq, if_pos rfl⟩⟩⟩
        by_cases e : j = y
        · rw [if_pos e]
          show _ = Value.bool (if j = y then true else s j)
          rw [if_pos e]
        · rw [if_neg e]
          show _ = Value.bool (if j = y then true else s j)
          rw [if_neg e]
      case measure => simp [intOf]; omega
    · obtain rfl : i = 1 + z := by omega
      have i1 : ¬ (((1 + z : Nat) : Int) < 1 + (z : Int)) := by omega
      obtain ⟨hC, hK, hB, hE⟩ := hH.out
      have HC := hid hC
      have HK := hid hK
      have HB := hid hB
      have HE := hid (hE (by omega))
      have hsz := hK.size
      clear hC hK hB hE hH
      go_wp2
      have hbE : Below W.heap.size wr (wr.alloc (.cells #[] 3)) := ((Below.refl _ _).alloc (Nat.le_refl _) _).mono hsz
      have HX : Hid ((wr.alloc (.cells #[] 3)).ownsRow (W.heap.size + 1) 3 1 (.slice (some ⟨wr.heap.size, 0, none⟩) 0 0) (plc s 0).length ((plc s 0).map (Value.int .i64)) ∧ Rdr (wr.alloc (.cells #[] 3)) g a n cap (k + 1 + (1 + z)) ∧ Kc g W (wr.alloc (.cells #[] 3)) ∧ BoolsAt (wr.alloc (.cells #[] 3)) W.heap.size q s) := hid ⟨World.ownsRow_made wr #[] 0 HB.out.lt (by decide) rfl, HC.out.above hbE hgl HBL.out, HK.out.below hbE, HB.out.alloc _⟩
      go_loopw [10, 32] (fun v t wr => ∃ (j : Nat) (vs : Value), j ≤ q ∧ t = .int .i64 j ∧ vs = v ∧ Hid (wr.ownsRow (W.heap.size + 1) 3 1 vs (plc s j).length ((plc s j).map (Value.int .i64)) ∧ Rdr wr g a n cap (k + 1 + (1 + z)) ∧ Kc g W wr ∧ BoolsAt wr W.heap.size q s)) (fun _ t _ => q - (intOf t).toNat)
      case atStart => exact ⟨0, _, Nat.zero_le _, rfl, rfl, HX⟩
      case round =>
        clear HX HC HK HB hbE hsz
        obtain ⟨j, vs, hj, rfl, rfl, hH⟩ := hrel
        obtain ⟨hown, hC, hK, hB⟩ := hH.out
        have HC := hid hC
        have HK := hid hK
        have HB := hid hB
        have hsz := hK.size
        have hbl := hB.lt
        clear hC hK hH
        by_cases hjq : j < q
        · have i2 : (j : Int) < (q : Int) := by omega
          have b1 : wr.cell? ⟨W.heap.size, j, none⟩ = some (.bool (s j)) := World.rowIs.cell hB hjq
          have hple := plc_le s j
          clear hB
          cases hsj : s j
          · rw [hsj] at b1
            have e1 := hid (plc_miss s j hsj)
            go_wp2
            go_roundw
            case rel => exact ⟨j + 1, vs, by omega, by go_num, rfl, hid ⟨by rw [e1.out]; exact hown, HC.out, HK.out, HB.out⟩⟩
            case measure => simp [intOf]; omega
          · rw [hsj] at b1
            have e1 := hid (plc_hit s j hsj)
            go_wp2_with (first
              | (at_builtin; refine wpList_append_own _ rfl _ _ 23 rfl (W.heap.size + 1) 3 i0 (.int .i64 0) 1 8 Try.underlying23 hi hz0 hz1 hz2 rfl (by decide) _ _ _ rfl (hown.alloc _) ⟨wr.heap.size, 0, none⟩ 1 1 [.int .i64 j] rfl rfl ?c1 ?c2 ?c3 ?c4 ?c5 ?_))
            case c1 =>
              intro j u hj
              match j, hj with
              | 0, hj => simp at hj; subst hj; simp [Addr.add]
            case c2 => intro u hu; simp at hu; subst hu; rfl
            case c3 => unfold maxLen; omega
            case c4 => omega
            case c5 => simp; omega
            intro v' w1 hown' hgrow _
            have hbw : Below (W.heap.size + 1) wr w1 := ((Below.refl _ wr).alloc (by omega) _).grown hgrow (by simp; omega) (fun c e => (hown.lt c e).1)
            have hbw' : Below W.heap.size wr w1 := hbw.mono (by omega)
            have HF : Hid (w1.ownsRow (W.heap.size + 1) 3 1 v' (plc s (j + 1)).length ((plc s (j + 1)).map (Value.int .i64)) ∧ Rdr w1 g a n cap (k + 1 + (1 + z)) ∧ Kc g W w1 ∧ BoolsAt w1 W.heap.size q s) := hid ⟨by rw [e1.out]; simpa using hown', HC.out.above hbw' hgl HBL.out, HK.out.below hbw', HB.out.of_block (hbw.block _ (by omega))⟩
            clear hown' hgrow hown hbw hbw'
            go_wp2
            go_roundw
            case rel => exact ⟨j + 1, v', by omega, by go_num, rfl, HF⟩
            case measure => simp [intOf]; omega
        · obtain rfl : j = q := by omega
          have i2 : ¬ ((j : Int) < (j : Int)) := by omega
          have HOWN := hid hown
          clear hown hB
          go_wp2
          go_ret
          refine ⟨_, rfl, s, ?_, HE.out, HC.out.mono (by omega), HK.out⟩
          have := HOWN.out
          refine ⟨this.1, ?_⟩
          rcases this.2 with h0 | ⟨c, cp, cur, h1, h2, h3⟩
          · exact Or.inl h0
          · exact Or.inr ⟨c, cp, cur, h1, by omega, h3⟩

end Go.Proofs.Ytnmcgbfhgmmcpaa

/-
  spec.l1Union.
-/
namespace Go.Proofs.Ytnmcgbfhgmmcpaa
open Go.RowKit

set_option maxHeartbeats 2000000 in
set_option maxRecDepth 1000000 in
theorem union_calls (w : World) (va vb : Value) (la lb : List Int) (ha : IS w va la) (hb : IS w vb lb) (hla : la.length ≤ 1099511627776) (hlb : lb.length ≤ 1099511627776) :
    Calls Try.prog 81 #[va, vb] w fun e w' => ∃ v, e = .returned v ∧ w'.ownsRow w.heap.size 3 1 v (plc (fun i : Nat => decide ((i : Int) ∈ la) || decide ((i : Int) ∈ lb)) 6).length ((plc (fun i : Nat => decide ((i : Int) ∈ la) || decide ((i : Int) ∈ lb)) 6).map (Value.int .i64)) ∧ Below w.heap.size w w' := by
  obtain ⟨i0, hi, hz0, hz1, hz2⟩ := info_parts Try.infoInt
  obtain ⟨p, hp⟩ : ∃ p : Nat → Bool, p = fun i : Nat => decide ((i : Int) ∈ la) || decide ((i : Int) ∈ lb) := ⟨_, rfl⟩
  rw [← hp]
  have HP := hid hp
  have HA := hid ha
  have HB := hid hb
  clear hp ha hb
  go_enter Try.func81, Try.ntmps81
  go_wp2
  go_loopw [5, 6] (fun v t wr => ∃ k : Nat, k ≤ 6 ∧ t = .int .i64 k ∧ wr.ownsRow w.heap.size 3 1 v (plc p k).length ((plc p k).map (Value.int .i64)) ∧ Below w.heap.size w wr) (fun _ t _ => 6 - (intOf t).toNat)
  case atStart => exact ⟨0, Nat.zero_le _, rfl, World.ownsRow_made w #[] 0 (Nat.le_refl _) (by decide) rfl, (Below.refl _ _).alloc (Nat.le_refl _) _⟩
  case round =>
    obtain ⟨k, hk, rfl, hown, hnx⟩ := hrel
    have hple := plc_le p k
    have hns := hnx.size
    by_cases hkn : k < 6
    · have i1 : (k : Int) < 6 := by omega
      have KA := hid (l1Has_calls wr va la (k : Int) (HA.out.below hnx) hla)
      have KB := hid (l1Has_calls wr vb lb (k : Int) (HB.out.below hnx) hlb)
      have hpk : p k = (decide ((k : Int) ∈ la) || decide ((k : Int) ∈ lb)) := by rw [HP.out]
      generalize decide ((k : Int) ∈ la) = b1 at *
      generalize decide ((k : Int) ∈ lb) = b2 at *
      have HPK := hid hpk
      clear hpk
      cases b1
      · cases b2
        · have e1 := hid (plc_miss p k HPK.out)
          go_wp2_with fail
          refine KA.out.mono ?_
          rintro e w' ⟨rfl, hw'⟩
          subst w'
          go_wp2_with fail
          refine KB.out.mono ?_
          rintro e w' ⟨rfl, hw'⟩
          subst w'
          go_wp2
          go_roundw
          case rel => exact ⟨k + 1, by omega, by go_num, by rw [e1.out]; exact hown, hnx⟩
          case measure => simp [intOf]; omega
        · have e1 := hid (plc_hit p k HPK.out)
          go_wp2_with fail
          refine KA.out.mono ?_
          rintro e w' ⟨rfl, hw'⟩
          subst w'
          go_wp2_with fail
          refine KB.out.mono ?_
          rintro e w' ⟨rfl, hw'⟩
          subst w'
          go_wp2_with (first
            | (at_builtin; refine wpList_append_own _ rfl _ _ 23 rfl w.heap.size 3 i0 (.int .i64 0) 1 8 Try.underlying23 hi hz0 hz1 hz2 rfl (by decide) _ _ _ rfl (hown.alloc _) ⟨wr.heap.size, 0, none⟩ 1 1 [.int .i64 k] rfl rfl ?c1 ?c2 ?c3 ?c4 ?c5 ?_))
          case c1 =>
            intro j u hj
            match j, hj with
            | 0, hj => simp at hj; subst hj; simp [Addr.add]
          case c2 => intro u hu; simp at hu; subst hu; rfl
          case c3 => unfold maxLen; omega
          case c4 => omega
          case c5 => simp; omega
          intro v' w1 hown' hgrow _
          have hb := own_grow hns hown hnx hgrow
          have hown2 : w1.ownsRow w.heap.size 3 1 v' (plc p (k + 1)).length ((plc p (k + 1)).map (Value.int .i64)) := by
            rw [e1.out]; simpa using hown'
          clear hown' hgrow hown
          go_wp2
          go_roundw
          case rel => exact ⟨k + 1, by omega, by go_num, hown2, hb⟩
          case measure => simp [intOf]; omega
      · have e1 := hid (plc_hit p k (by rw [HPK.out]; rfl))
        go_wp2_with (first
          | (go_at_call 37; refine KA.out.mono ?_; rintro e w' ⟨rfl, hw'⟩; subst w')
          | (at_builtin; refine wpList_append_own _ rfl _ _ 23 rfl w.heap.size 3 i0 (.int .i64 0) 1 8 Try.underlying23 hi hz0 hz1 hz2 rfl (by decide) _ _ _ rfl (hown.alloc _) ⟨wr.heap.size, 0, none⟩ 1 1 [.int .i64 k] rfl rfl ?d1 ?d2 ?d3 ?d4 ?d5 ?_))
        case d1 =>
          intro j u hj
          match j, hj with
          | 0, hj => simp at hj; subst hj; simp [Addr.add]
        case d2 => intro u hu; simp at hu; subst hu; rfl
        case d3 => unfold maxLen; omega
        case d4 => omega
        case d5 => simp; omega
        intro v' w1 hown' hgrow _
        have hb := own_grow hns hown hnx hgrow
        have hown2 : w1.ownsRow w.heap.size 3 1 v' (plc p (k + 1)).length ((plc p (k + 1)).map (Value.int .i64)) := by
          rw [e1.out]; simpa using hown'
        clear hown' hgrow hown
        go_wp2
        go_roundw
        case rel => exact ⟨k + 1, by omega, by go_num, hown2, hb⟩
        case measure => simp [intOf]; omega
    · obtain rfl : k = 6 := by omega
      go_wp2
      go_ret
      exact ⟨_, rfl, hown, hnx⟩

end Go.Proofs.Ytnmcgbfhgmmcpaa
