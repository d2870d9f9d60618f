import Derived.BigQuiet
import Derived.BigRegion
import Derived.Deep.DeepCutAuto
import Derived.Deep.QuietTactic
import Derived.Test.YtnmcgbfhgmmcpaaW01
/-
  The reader of code that the draws go by: byte, pick, mode: what they answer is in its bounds; nothing but the reader's own block is turned.
-/
namespace Go.Proofs.Ytnmcgbfhgmmcpaa
open Go.RowKit

/-- a reader in block g, over n bytes -/
structure RdrAt (W : World) (g : Nat) (a : Option Addr) (n cap : Nat) (p sd : Int) : Prop where
  c0 : W.cell? ⟨g, 0, none⟩ = some (.slice a n cap)
  c1 : W.cell? ⟨g, 1, none⟩ = some (.int .i64 p)
  c2 : W.cell? ⟨g, 2, none⟩ = some (.int .i64 sd)
  f1 : W.frozen? ⟨g, 1, none⟩ = false
  f2 : W.frozen? ⟨g, 2, none⟩ = false
  bytes : ∀ j, j < n → ∃ b o x, a = some ⟨b, o, none⟩ ∧ b ≠ g ∧ W.cell? ⟨b, o + j, none⟩ = some (.int .u8 x) ∧ 0 ≤ x ∧ x < 256
  seed : 0 ≤ sd ∧ sd < 2147483648

/-- all blocks but g are as they were -/
structure Kc (g : Nat) (w w' : World) : Prop where
  os : w'.os = w.os
  tape : w'.tape = w.tape
  output : w'.output = w.output
  size : w.heap.size ≤ w'.heap.size
  block : ∀ b, b < w.heap.size → b ≠ g → w'.heap[b]? = w.heap[b]?

theorem Kc.refl (g : Nat) (w : World) : Kc g w w := ⟨rfl, rfl, rfl, Nat.le_refl _, fun _ _ _ => rfl⟩
theorem Kc.trans {g : Nat} {a b c : World} (h : Kc g a b) (k : Kc g b c) : Kc g a c :=
  ⟨k.os.trans h.os, k.tape.trans h.tape, k.output.trans h.output, Nat.le_trans h.size k.size, fun x hx hg => (k.block x (Nat.lt_of_lt_of_le hx h.size) hg).trans (h.block x hx hg)⟩
theorem Kc.set {g : Nat} {w w' : World} (h : Kc g w w') (o : Nat) (v : Value) : Kc g w (w'.setCell ⟨g, o, none⟩ v) :=
  h.trans ⟨rfl, rfl, rfl, by simp [World.setCell], fun b _ hg => Below.heap_setCell _ _ _ _ hg⟩
theorem Kc.drewN {g : Nat} {w w' : World} (h : Kc g w w') (n : Nat) : Kc g w (w'.drewN n) := by
  have := below_drewN (B := w'.heap.size) (Below.refl _ w') n
  exact h.trans ⟨this.os, this.tape, this.output, this.size, fun b hb _ => this.block b hb⟩

theorem RdrAt.set1 {W : World} {g : Nat} {a : Option Addr} {n cap : Nat} {p sd : Int} (h : RdrAt W g a n cap p sd) (q : Int) : RdrAt (W.setCell ⟨g, 1, none⟩ (.int .i64 q)) g a n cap q sd where
  c0 := (World.cell?_setCell_other _ _ _ _ (by simp)).trans h.c0
  c1 := World.cell?_setCell_same _ _ _ h.c1
  c2 := (World.cell?_setCell_other _ _ _ _ (by simp)).trans h.c2
  f1 := by rw [World.frozen?_setCell]; exact h.f1
  f2 := by rw [World.frozen?_setCell]; exact h.f2
  bytes j hj := by
    obtain ⟨b, o, x, e, hne, hc, hx⟩ := h.bytes j hj
    exact ⟨b, o, x, e, hne, (World.cell?_of_block (w := W) (a := ⟨b, o + j, none⟩) (Below.heap_setCell _ _ _ _ hne)).trans hc, hx⟩
  seed := h.seed
theorem RdrAt.set2 {W : World} {g : Nat} {a : Option Addr} {n cap : Nat} {p sd : Int} (h : RdrAt W g a n cap p sd) (q : Int) (hq : 0 ≤ q ∧ q < 2147483648) : RdrAt (W.setCell ⟨g, 2, none⟩ (.int .i64 q)) g a n cap p q where
  c0 := (World.cell?_setCell_other _ _ _ _ (by simp)).trans h.c0
  c1 := (World.cell?_setCell_other _ _ _ _ (by simp)).trans h.c1
  c2 := World.cell?_setCell_same _ _ _ h.c2
  f1 := by rw [World.frozen?_setCell]; exact h.f1
  f2 := by rw [World.frozen?_setCell]; exact h.f2
  bytes j hj := by
    obtain ⟨b, o, x, e, hne, hc, hx⟩ := h.bytes j hj
    exact ⟨b, o, x, e, hne, (World.cell?_of_block (w := W) (a := ⟨b, o + j, none⟩) (Below.heap_setCell _ _ _ _ hne)).trans hc, hx⟩
  seed := hq
theorem RdrAt.drewN {W : World} {g : Nat} {a : Option Addr} {n cap : Nat} {p sd : Int} (h : RdrAt W g a n cap p sd) (k : Nat) : RdrAt (W.drewN k) g a n cap p sd := ⟨h.c0, h.c1, h.c2, h.f1, h.f2, h.bytes, h.seed⟩

set_option maxHeartbeats 2000000 in
set_option maxRecDepth 100000 in
theorem byte_calls (W : World) (g : Nat) (a : Option Addr) (n cap k : Nat) (sd : Int) (h : RdrAt W g a n cap k sd) (hn : n ≤ 1048576) (hk : k ≤ 1000000000) :
    Calls Try.prog 82 #[.pointer (some ⟨g, 0, none⟩)] W fun e w' => ∃ z sd', e = .returned (.int .i64 z) ∧ 0 ≤ z ∧ z < 256 ∧ RdrAt w' g a n cap ((k : Int) + 1) sd' ∧ Kc g W w' := by
  have HC := hid h
  obtain ⟨c0, c1, c2, f1, f2, -, hs, hs'⟩ := h
  go_enter Try.func82, Try.ntmps82
  go_upto_region 2 with fail
  have hC1 := HC.out.set1 ((k : Int) + 1)
  have hK1 := (Kc.refl g W).set 1 (.int .i64 ((k : Int) + 1))
  generalize W.setCell ⟨g, 1, none⟩ (.int .i64 ((k : Int) + 1)) = W1 at *
  clear c0 c1 c2 f1 f2
  have HC1 := hid hC1
  have HK1 := hid hK1
  obtain ⟨c0, c1, c2, f1, f2, hby, -⟩ := hC1
  have HBY := hid hby
  clear hby hK1
  by_cases h1 : 150 + 40 * (n : Int) < (k : Int) + 1
  · go_quiet (fail)
    go_wp2
    go_ret
    exact ⟨0, sd, rfl, by omega, by omega, HC1.out.drewN _, HK1.out.drewN _⟩
  · go_quiet (fail)
    go_wp2
    by_cases h2 : (n : Int) < (k : Int) + 1
    · go_quiet (fail)
      go_wp2
      go_ret
      refine ⟨_, (sd * 1103515245 + 12345) % 2147483648, rfl, by omega, by omega, ?_, ?_⟩
      · exact (HC1.out.drewN _).set2 ((sd * 1103515245 + 12345) % 2147483648) ⟨by omega, by omega⟩
      · exact (HK1.out.drewN _).set _ _
    · obtain ⟨b, o, x, rfl, hne, c3, hx, hx'⟩ := HBY.out k (by omega)
      have i1 : (k : Int) < (n : Int) := by omega
      have i2 : (k : Int) + 1 - 1 = (k : Int) := by omega
      have hne' : g ≠ b := fun e => hne e.symm
      go_quiet (fail)
      go_wp2_with fail
      go_region
      all_goals
        go_wp2_with fail
        go_quiet (fail)
        go_wp2
        go_ret
        refine ⟨_, (sd * 31 + x + 7) % 2147483648, rfl, by omega, by omega, ?_, ?_⟩
        · exact ((HC1.out.drewN _).set2 ((sd * 31 + x + 7) % 2147483648) ⟨by omega, by omega⟩).drewN _
        · exact ((HK1.out.drewN _).set _ _).drewN _

/-- the same in natural numbers -/
theorem byteN_calls (W : World) (g : Nat) (a : Option Addr) (n cap k : Nat) (sd : Int) (h : RdrAt W g a n cap k sd) (hn : n ≤ 1048576) (hk : k ≤ 1000000000) :
    Calls Try.prog 82 #[.pointer (some ⟨g, 0, none⟩)] W fun e w' => ∃ (z : Nat) (sd' : Int), e = .returned (.int .i64 z) ∧ z < 256 ∧ RdrAt w' g a n cap (k + 1 : Nat) sd' ∧ Kc g W w' :=
  (byte_calls W g a n cap k sd h hn hk).mono (by
    rintro e w' ⟨z, sd', rfl, h0, h1, hc, hK⟩
    exact ⟨z.toNat, sd', by rw [Int.toNat_of_nonneg h0], by omega, by rw [show ((k + 1 : Nat) : Int) = (k : Int) + 1 by omega]; exact hc, hK⟩)

/-- a reader somewhere, at most k bytes on -/
def Rdr (W : World) (g : Nat) (a : Option Addr) (n cap k : Nat) : Prop := ∃ (k' : Nat) (sd : Int), k' ≤ k ∧ RdrAt W g a n cap k' sd

theorem Rdr.mono {W : World} {g : Nat} {a : Option Addr} {n cap k l : Nat} (h : Rdr W g a n cap k) (hl : k ≤ l) : Rdr W g a n cap l := by
  obtain ⟨k', sd, h1, h2⟩ := h
  exact ⟨k', sd, Nat.le_trans h1 hl, h2⟩

set_option maxHeartbeats 1000000 in
set_option maxRecDepth 100000 in
theorem pick_calls (W : World) (g : Nat) (a : Option Addr) (n cap k m : Nat) (h : Rdr W g a n cap k) (hn : n ≤ 1048576) (hk : k ≤ 1000000000) (hm : m ≤ 256) :
    Calls Try.prog 35 #[.pointer (some ⟨g, 0, none⟩), .int .i64 m] W fun e w' => ∃ z : Nat, e = .returned (.int .i64 z) ∧ (z < m ∨ z = 0) ∧ Rdr w' g a n cap (k + 1) ∧ Kc g W w' := by
  obtain ⟨k', sd, hk', hC⟩ := h
  by_cases h1 : m ≤ 1
  · have i1 : (m : Int) ≤ 1 := by omega
    have HC := hid hC
    clear hC
    go_enter Try.func35, Try.ntmps35
    go_wp2
    go_ret
    exact ⟨0, rfl, Or.inr rfl, ⟨k', sd, by omega, HC.out⟩, Kc.refl _ _⟩
  · have i1 : ¬ ((m : Int) ≤ 1) := by omega
    have i2 : (m : Int) ≤ 256 := by omega
    have KB := hid (byteN_calls W g a n cap k' sd hC hn (by omega))
    clear hC
    go_enter Try.func35, Try.ntmps35
    go_wp2_with (first | (go_at_call 82; refine KB.out.mono ?_; rintro e w1 ⟨z, sd', rfl, hz, hC1, hK1⟩))
    go_ret
    refine ⟨z % m, ?_, Or.inl (Nat.mod_lt _ (by omega)), ⟨k' + 1, sd', by omega, hC1⟩, hK1⟩
    first | rfl | (rw [show ((z % m : Nat) : Int) = (z : Int) % (m : Int) by omega])

set_option maxHeartbeats 1000000 in
set_option maxRecDepth 100000 in
theorem mode_calls (W : World) (g : Nat) (a : Option Addr) (n cap k : Nat) (h : Rdr W g a n cap k) (hn : n ≤ 1048576) (hk : k ≤ 1000000000) :
    Calls Try.prog 32 #[.pointer (some ⟨g, 0, none⟩)] W fun e w' => ∃ z : Nat, e = .returned (.int .i64 z) ∧ z ≤ 2 ∧ Rdr w' g a n cap (k + 1) ∧ Kc g W w' := by
  have KP := hid (pick_calls W g a n cap k 10 h hn hk (by decide))
  clear h
  go_enter Try.func32, Try.ntmps32
  go_upto_region 2 with (first | (go_at_call 35; refine KP.out.mono ?_; rintro e w1 ⟨z, rfl, hz, hC1, hK1⟩))
  have HC1 := hid hC1
  have HK1 := hid hK1
  clear hC1 hK1
  by_cases h9 : z = 9
  · subst h9
    go_wp2
    go_ret
    exact ⟨2, rfl, by omega, HC1.out, HK1.out⟩
  · have i9 : ((z : Int) == 9) = false := by simp; omega
    have j9 : ¬ ((z : Int) = 9) := by omega
    by_cases h7 : z = 7
    · subst h7
      go_wp2
      go_ret
      exact ⟨1, rfl, by omega, HC1.out, HK1.out⟩
    · have i7 : ((z : Int) == 7) = false := by simp; omega
      have j7 : ¬ ((z : Int) = 7) := by omega
      by_cases h8 : z = 8
      · subst h8
        go_wp2
        go_ret
        exact ⟨1, rfl, by omega, HC1.out, HK1.out⟩
      · have i8 : ((z : Int) == 8) = false := by simp; omega
        have j8 : ¬ ((z : Int) = 8) := by omega
        go_wp2
        go_ret
        exact ⟨0, rfl, by omega, HC1.out, HK1.out⟩

end Go.Proofs.Ytnmcgbfhgmmcpaa
