import Derived.BigQuiet
import Derived.BigRegion
import Derived.Deep.DeepCutAuto
import Derived.Deep.QuietTactic
import Derived.Test.YtcdfoephhjacdaaGreatDoorR00
/-
  The reader of code that the draws go by: byte, pick, mode: what they answer is in its bounds; nothing but the reader's own block is turned.
-/
namespace Go.Proofs.YtcdfoephhjacdaaGreatDoor
open Go.RowKit

/-- a reader in block g, over n bytes -/
structure RdrAt (W : World) (g : Nat) (a : Option Addr) (n cap : Nat) (p sd : Int) : Prop where
  c0 : W.cell? ⟨g, 0, none⟩ = some (.slice a n cap)
  c1 : W.cell? ⟨g, 1, none⟩ = some (.int .i64 p)
  c2 : W.cell? ⟨g, 2, none⟩ = some (.int .i64 sd)
  f1 : W.frozen? ⟨g, 1, none⟩ = false
  f2 : W.frozen? ⟨g, 2, none⟩ = false
  bytes : ∀ j, j < n → ∃ b o x, a = some ⟨b, o, none⟩ ∧ b ≠ g ∧ W.cell? ⟨b, o + j, none⟩ = some (.int .u8 x) ∧ 0 ≤ x ∧ x < 256
  seed : 0 ≤ sd ∧ sd < 2147483648

/-- all blocks but g are as they were -/
structure Kc (g : Nat) (w w' : World) : Prop where
  os : w'.os = w.os
  tape : w'.tape = w.tape
  output : w'.output = w.output
  size : w.heap.size ≤ w'.heap.size
  block : ∀ b, b < w.heap.size → b ≠ g → w'.heap[b]? = w.heap[b]?

theorem Kc.refl (g : Nat) (w : World) : Kc g w w := ⟨rfl, rfl, rfl, Nat.le_refl _, fun _ _ _ => rfl⟩
theorem Kc.trans {g : Nat} {a b c : World} (h : Kc g a b) (k : Kc g b c) : Kc g a c :=
  ⟨k.os.trans h.os, k.tape.trans h.tape, k.output.trans h.output, Nat.le_trans h.size k.size, fun x hx hg => (k.block x (Nat.lt_of_lt_of_le hx h.size) hg).trans (h.block x hx hg)⟩
theorem Kc.set {g : Nat} {w w' : World} (h : Kc g w w') (o : Nat) (v : Value) : Kc g w (w'.setCell ⟨g, o, none⟩ v) :=
  h.trans ⟨rfl, rfl, rfl, by simp [World.setCell], fun b _ hg => Below.heap_setCell _ _ _ _ hg⟩
theorem Kc.drewN {g : Nat} {w w' : World} (h : Kc g w w') (n : Nat) : Kc g w (w'.drewN n) := by
  have := below_drewN (B := w'.heap.size) (Below.refl _ w') n
  exact h.trans ⟨this.os, this.tape, this.output, this.size, fun b hb _ => this.block b hb⟩

theorem RdrAt.set1 {W : World} {g : Nat} {a : Option Addr} {n cap : Nat} {p sd : Int} (h : RdrAt W g a n cap p sd) (q : Int) : RdrAt (W.setCell ⟨g, 1, none⟩ (.int .i64 q)) g a n cap q sd where
  c0 := (World.cell?_setCell_other _ _ _ _ (by simp)).trans h.c0
  c1 := World.cell?_setCell_same _ _ _ h.c1
  c2 := (World.cell?_setCell_other _ _ _ _ (by simp)).trans h.c2
  f1 := by rw [World.frozen?_setCell]; exact h.f1
  f2 := by rw [World.frozen?_setCell]; exact h.f2
  bytes j hj := by
    obtain ⟨b, o, x, e, hne, hc, hx⟩ := h.bytes j hj
    exact ⟨b, o, x, e, hne, (World.cell?_of_block (w := W) (a := ⟨b, o + j, none⟩) (Below.heap_setCell _ _ _ _ hne)).trans hc, hx⟩
  seed := h.seed
theorem RdrAt.set2 {W : World} {g : Nat} {a : Option Addr} {n cap : Nat} {p sd : Int} (h : RdrAt W g a n cap p sd) (q : Int) (hq : 0 ≤ q ∧ q < 2147483648) : RdrAt (W.setCell ⟨g, 2, none⟩ (.int .i64 q)) g a n cap p q where
  c0 := (World.cell?_setCell_other _ _ _ _ (by simp)).trans h.c0
  c1 := (World.cell?_setCell_other _ _ _ _ (by simp)).trans h.c1
  c2 := World.cell?_setCell_same _ _ _ h.c2
  f1 := by rw [World.frozen?_setCell]; exact h.f1
  f2 := by rw [World.frozen?_setCell]; exact h.f2
  bytes j hj := by
    obtain ⟨b, o, x, e, hne, hc, hx⟩ := h.bytes j hj
    exact ⟨b, o, x, e, hne, (World.cell?_of_block (w := W) (a := ⟨b, o + j, none⟩) (Below.heap_setCell _ _ _ _ hne)).trans hc, hx⟩
  seed := hq
theorem RdrAt.drewN {W : World} {g : Nat} {a : Option Addr} {n cap : Nat} {p sd : Int} (h : RdrAt W g a n cap p sd) (k : Nat) : RdrAt (W.drewN k) g a n cap p sd := ⟨h.c0, h.c1, h.c2, h.f1, h.f2, h.bytes, h.seed⟩

/-- a reader somewhere, at most k bytes on -/
def Rdr (W : World) (g : Nat) (a : Option Addr) (n cap k : Nat) : Prop := ∃ (k' : Nat) (sd : Int), k' ≤ k ∧ RdrAt W g a n cap k' sd

theorem Rdr.mono {W : World} {g : Nat} {a : Option Addr} {n cap k l : Nat} (h : Rdr W g a n cap k) (hl : k ≤ l) : Rdr W g a n cap l := by
  obtain ⟨k', sd, h1, h2⟩ := h
  exact ⟨k', sd, Nat.le_trans h1 hl, h2⟩

end Go.Proofs.YtcdfoephhjacdaaGreatDoor

/-
  The reader of code as a function of the code: what byte and pick answer.
-/
namespace Go.Proofs.YtcdfoephhjacdaaGreatDoor
open Go.RowKit

/-- how far the reader is, and its seed -/
abbrev CSt := Nat × Int
def byF (L : Nat → Int) (n : Nat) (s : CSt) : Int × CSt :=
  if 150 + 40 * (n : Int) < (s.1 : Int) + 1 then (0, (s.1 + 1, s.2))
  else if (n : Int) < (s.1 : Int) + 1 then ((s.2 * 1103515245 + 12345) % 2147483648 / 65536 % 256, (s.1 + 1, (s.2 * 1103515245 + 12345) % 2147483648))
  else (L s.1, (s.1 + 1, (s.2 * 31 + L s.1 + 7) % 2147483648))
section
variable {L : Nat → Int} {n k : Nat} {sd : Int}
theorem byF_far (h : 150 + 40 * (n : Int) < (k : Int) + 1) : byF L n (k, sd) = (0, (k + 1, sd)) := if_pos h
theorem byF_mid (h : ¬ 150 + 40 * (n : Int) < (k : Int) + 1) (h2 : (n : Int) < (k : Int) + 1) : byF L n (k, sd) = ((sd * 1103515245 + 12345) % 2147483648 / 65536 % 256, (k + 1, (sd * 1103515245 + 12345) % 2147483648)) := by unfold byF; rw [if_neg h, if_pos h2]
theorem byF_in (h : ¬ 150 + 40 * (n : Int) < (k : Int) + 1) (h2 : ¬ (n : Int) < (k : Int) + 1) : byF L n (k, sd) = (L k, (k + 1, (sd * 31 + L k + 7) % 2147483648)) := by unfold byF; rw [if_neg h, if_neg h2]
end
theorem Kc.cell {g : Nat} {w w' : World} (h : Kc g w w') {b o : Nat} {v : Value} (hb : b ≠ g) (hc : w.cell? ⟨b, o, none⟩ = some v) : w'.cell? ⟨b, o, none⟩ = some v :=
  (World.cell?_of_block (w := w) (a := ⟨b, o, none⟩) (h.block b (World.block_lt_of_cell? w _ hc) hb)).trans hc
/-- a reader over the bytes L, n of them -/
def RdF (W : World) (g : Nat) (a : Option Addr) (L : Nat → Int) (n cap : Nat) (s : CSt) : Prop := RdrAt W g a n cap s.1 s.2 ∧ ∀ j, j < n → ∀ b o, a = some ⟨b, o, none⟩ → W.cell? ⟨b, o + j, none⟩ = some (.int .u8 (L j))
theorem RdF.of {W W' : World} {g : Nat} {a : Option Addr} {L : Nat → Int} {n cap k1 : Nat} {p sd : Int} (hL : ∀ j, j < n → ∀ b o, a = some ⟨b, o, none⟩ → W.cell? ⟨b, o + j, none⟩ = some (.int .u8 (L j))) (h : RdrAt W' g a n cap p sd) (hK : Kc g W W') (e : p = (k1 : Int) := by rfl) : RdF W' g a L n cap (k1, sd) := by
  subst e
  refine ⟨h, fun j hj b o ea => ?_⟩
  obtain ⟨b', o', x, e', hne, -⟩ := h.bytes j hj
  rw [ea] at e'
  simp only [Option.some.injEq, Addr.mk.injEq, and_true] at e'
  obtain ⟨rfl, rfl⟩ := e'
  exact hK.cell hne (hL j hj b o ea)
theorem RdF.kc {W W' : World} {g : Nat} {a : Option Addr} {L : Nat → Int} {n cap : Nat} {s : CSt} (h : RdF W g a L n cap s) (hr : RdrAt W' g a n cap s.1 s.2) (hK : Kc g W W') : RdF W' g a L n cap s := RdF.of h.2 hr hK
theorem byF_in256 {W : World} {g : Nat} {a : Option Addr} {L : Nat → Int} {n cap : Nat} {s : CSt} (h : RdF W g a L n cap s) : 0 ≤ (byF L n s).1 ∧ (byF L n s).1 < 256 := by
  obtain ⟨k, sd⟩ := s
  by_cases h1 : 150 + 40 * (n : Int) < (k : Int) + 1
  · rw [byF_far h1]; simp
  · by_cases h2 : (n : Int) < (k : Int) + 1
    · rw [byF_mid h1 h2]; simp only; omega
    · rw [byF_in h1 h2]
      obtain ⟨b, o, x, e, -, hc, hx⟩ := h.1.bytes k (by omega)
      have := h.2 k (by omega) b o e
      have hc' : W.cell? ⟨b, o + k, none⟩ = some (.int .u8 x) := hc
      rw [this] at hc'
      simp only [Option.some.injEq, Value.int.injEq, true_and] at hc'
      rw [hc']
      exact hx

set_option maxHeartbeats 2000000 in
set_option maxRecDepth 100000 in
theorem byteF_calls (W : World) (g : Nat) (a : Option Addr) (L : Nat → Int) (n cap : Nat) (s : CSt) (h' : RdF W g a L n cap s) (hn : n ≤ 1048576) (hk' : s.1 ≤ 1000000000) :
    Calls Tryz.prog 57 #[.pointer (some ⟨g, 0, none⟩)] W fun e w' => e = .returned (.int .i64 (byF L n s).1) ∧ RdF w' g a L n cap (byF L n s).2 ∧ Kc g W w' := by
  obtain ⟨k, sd⟩ := s
  have hk : k ≤ 1000000000 := hk'
  obtain ⟨h, hL⟩ := h'
  have HL := hid hL
  clear hL hk'
  have HC := hid h
  obtain ⟨c0, c1, c2, f1, f2, -, hs, hs'⟩ := h
  go_enter Tryz.func57, Tryz.ntmps57
  go_upto_region 2 with fail
  have hC1 := HC.out.set1 ((k : Int) + 1)
  have hK1 := (Kc.refl g W).set 1 (.int .i64 ((k : Int) + 1))
  generalize W.setCell ⟨g, 1, none⟩ (.int .i64 ((k : Int) + 1)) = W1 at *
  clear c0 c1 c2 f1 f2
  have HC1 := hid hC1
  have HK1 := hid hK1
  obtain ⟨c0, c1, c2, f1, f2, hby, -⟩ := hC1
  have HBY := hid hby
  clear hby hK1
  by_cases h1 : 150 + 40 * (n : Int) < (k : Int) + 1
  · go_quiet (fail)
    go_wp2
    go_ret
    refine ⟨by rw [byF_far (n := n) (k := k) (by omega)]; rfl, ?_, HK1.out.drewN _⟩
    rw [byF_far (n := n) (k := k) (by omega)]
    exact RdF.of HL.out (k1 := k + 1) (HC1.out.drewN _) (HK1.out.drewN _)
  · go_quiet (fail)
    go_wp2
    by_cases h2 : (n : Int) < (k : Int) + 1
    · go_quiet (fail)
      go_wp2
      go_ret
      rw [byF_mid (n := n) (k := k) (by omega) (by omega)]
      refine ⟨rfl, ?_, ?_⟩
      · exact RdF.of HL.out (k1 := k + 1) ((HC1.out.drewN _).set2 ((sd * 1103515245 + 12345) % 2147483648) ⟨by omega, by omega⟩) ((HK1.out.drewN _).set _ _)
      · exact (HK1.out.drewN _).set _ _
    · obtain ⟨b, o, x, rfl, hne, c3, hx, hx'⟩ := HBY.out k (by omega)
      have hxL : x = L k := by
        have hc := HL.out k (by omega) b o rfl
        have hb := HK1.out.cell hne hc
        rw [hb] at c3
        simp only [Option.some.injEq, Value.int.injEq, true_and] at c3
        exact c3.symm
      have HX := hid hxL
      clear hxL
      have i1 : (k : Int) < (n : Int) := by omega
      have i2 : (k : Int) + 1 - 1 = (k : Int) := by omega
      have hne' : g ≠ b := fun e => hne e.symm
      go_quiet (fail)
      go_wp2_with fail
      go_region
      all_goals
        go_wp2_with fail
        go_quiet (fail)
        go_wp2
        go_ret
        rw [byF_in (n := n) (k := k) (by omega) (by omega), ← HX.out]
        refine ⟨rfl, ?_, ?_⟩
        · exact RdF.of HL.out (k1 := k + 1) (((HC1.out.drewN _).set2 ((sd * 31 + x + 7) % 2147483648) ⟨by omega, by omega⟩).drewN _) (((HK1.out.drewN _).set _ _).drewN _)
        · exact ((HK1.out.drewN _).set _ _).drewN _

/-- what pick answers, and where the reader is then -/
def pkF (L : Nat → Int) (n m : Nat) (s : CSt) : Nat × CSt := if m ≤ 1 then (0, s) else ((byF L n s).1.toNat % m, (byF L n s).2)
theorem pkF_lt {L : Nat → Int} {n m : Nat} {s : CSt} : (pkF L n m s).1 < m ∨ (pkF L n m s).1 = 0 := by
  unfold pkF
  split
  · exact Or.inr rfl
  · exact Or.inl (Nat.mod_lt _ (by omega))
theorem byF_at (L : Nat → Int) (n : Nat) (s : CSt) : (byF L n s).2.1 = s.1 + 1 := by
  unfold byF
  split
  · rfl
  · split <;> rfl
theorem pkF_at (L : Nat → Int) (n m : Nat) (s : CSt) : (pkF L n m s).2.1 ≤ s.1 + 1 := by
  unfold pkF
  split
  · exact Nat.le_succ _
  · exact Nat.le_of_eq (byF_at L n s)

set_option maxHeartbeats 1000000 in
set_option maxRecDepth 100000 in
theorem pickF_calls (W : World) (g : Nat) (a : Option Addr) (L : Nat → Int) (n cap m : Nat) (s : CSt) (h : RdF W g a L n cap s) (hn : n ≤ 1048576) (hk : s.1 ≤ 1000000000) (hm : m ≤ 256) :
    Calls Tryz.prog 35 #[.pointer (some ⟨g, 0, none⟩), .int .i64 m] W fun e w' => e = .returned (.int .i64 ((pkF L n m s).1 : Nat)) ∧ RdF w' g a L n cap (pkF L n m s).2 ∧ Kc g W w' := by
  by_cases h1 : m ≤ 1
  · have i1 : (m : Int) ≤ 1 := by omega
    have e : pkF L n m s = (0, s) := if_pos h1
    have HC := hid h
    clear h
    rw [e]
    clear e
    go_enter Tryz.func35, Tryz.ntmps35
    go_wp2
    go_ret
    exact ⟨rfl, HC.out, Kc.refl _ _⟩
  · have i1 : ¬ ((m : Int) ≤ 1) := by omega
    have i2 : (m : Int) ≤ 256 := by omega
    have e : pkF L n m s = ((byF L n s).1.toNat % m, (byF L n s).2) := if_neg h1
    have hb := byF_in256 h
    have KB := hid (byteF_calls W g a L n cap s h hn hk)
    clear h
    rw [e]
    clear e
    obtain ⟨z, hz⟩ : ∃ z : Nat, (byF L n s).1 = (z : Int) := ⟨(byF L n s).1.toNat, by omega⟩
    rw [hz] at KB hb ⊢
    generalize (byF L n s).2 = s2 at *
    clear hz
    rw [Int.toNat_natCast]
    go_enter Tryz.func35, Tryz.ntmps35
    go_wp2_with (first | (go_at_call 57; refine KB.out.mono ?_; rintro e w1 ⟨rfl, hC1, hK1⟩))
    go_ret
    refine ⟨?_, hC1, hK1⟩
    first | rfl | (rw [show ((z % m : Nat) : Int) = (z : Int) % (m : Int) by omega])

end Go.Proofs.YtcdfoephhjacdaaGreatDoor

/-
  spec.l2DrawWeight as a function of the code.
-/
namespace Go.Proofs.YtcdfoephhjacdaaGreatDoor
open Go.RowKit

theorem RdrAt.below {W W' : World} {g : Nat} {a : Option Addr} {n cap : Nat} {p sd : Int} (h : RdrAt W g a n cap p sd) (hb : Below W.heap.size W W') : RdrAt W' g a n cap p sd := by
  have hg : g < W.heap.size := World.block_lt_of_cell? W ⟨g, 0, none⟩ h.c0
  have hc : ∀ {b o : Nat} {v : Value}, W.cell? ⟨b, o, none⟩ = some v → W'.cell? ⟨b, o, none⟩ = some v := fun {b o v} hc => (hb.cell (p := ⟨b, o, none⟩) (World.block_lt_of_cell? W _ hc)).trans hc
  have hf : ∀ o, W'.frozen? ⟨g, o, none⟩ = W.frozen? ⟨g, o, none⟩ := fun o => by unfold World.frozen?; rw [hb.block g hg]
  refine ⟨hc h.c0, hc h.c1, hc h.c2, (hf 1).trans h.f1, (hf 2).trans h.f2, fun j hj => ?_, h.seed⟩
  obtain ⟨b, o, x, e, hne, hx, hr⟩ := h.bytes j hj
  exact ⟨b, o, x, e, hne, hc hx, hr⟩
theorem RdF.below {W W' : World} {g : Nat} {a : Option Addr} {L : Nat → Int} {n cap : Nat} {s : CSt} (h : RdF W g a L n cap s) (hb : Below W.heap.size W W') : RdF W' g a L n cap s :=
  ⟨h.1.below hb, fun j hj b o e => by
    have hc := h.2 j hj b o e
    exact (hb.cell (p := ⟨b, o + j, none⟩) (World.block_lt_of_cell? W _ hc)).trans hc⟩
theorem RdF.lt {W : World} {g : Nat} {a : Option Addr} {L : Nat → Int} {n cap : Nat} {s : CSt} (h : RdF W g a L n cap s) : g < W.heap.size := World.block_lt_of_cell? W ⟨g, 0, none⟩ h.1.c0
theorem Kc.ofBelow {g : Nat} {w w' : World} (h : Below w.heap.size w w') : Kc g w w' := ⟨h.os, h.tape, h.output, h.size, fun b hb _ => h.block b hb⟩

def wtsL : List Int := [1, 2, 3, -1, 5, 0, 7, -4, 1000000, -1000000, 10]
def wtD (L : Nat → Int) (n : Nat) (s : CSt) : Int := wtsL.getD (pkF L n 11 s).1 0
theorem wtsL_at : ∀ z : Nat, z < 11 → (#[Value.int .i64 1, .int .i64 2, .int .i64 3, .int .i64 (-1), .int .i64 5, .int .i64 0, .int .i64 7, .int .i64 (-4), .int .i64 1000000, .int .i64 (-1000000), .int .i64 10])[z]? = some (.int .i64 (wtsL.getD z 0))
  | 0, _ => rfl
  | 1, _ => rfl
  | 2, _ => rfl
  | 3, _ => rfl
  | 4, _ => rfl
  | 5, _ => rfl
  | 6, _ => rfl
  | 7, _ => rfl
  | 8, _ => rfl
  | 9, _ => rfl
  | 10, _ => rfl
  | z + 11, h => by omega
theorem wtD_in (L : Nat → Int) (n : Nat) (s : CSt) : -1000000 ≤ wtD L n s ∧ wtD L n s ≤ 1000000 := by
  unfold wtD
  have hz : (pkF L n 11 s).1 < 11 := by rcases pkF_lt (L := L) (n := n) (m := 11) (s := s) with h | h <;> omega
  generalize (pkF L n 11 s).1 = z at *
  have : ∀ z : Fin 11, -1000000 ≤ wtsL.getD z.1 0 ∧ wtsL.getD z.1 0 ≤ 1000000 := by decide
  exact this ⟨z, hz⟩

set_option maxHeartbeats 2000000 in
set_option maxRecDepth 100000 in
theorem drawWeight_calls (W : World) (g : Nat) (a : Option Addr) (L : Nat → Int) (n cap : Nat) (s : CSt) (h : RdF W g a L n cap s) (hn : n ≤ 1048576) (hk : s.1 ≤ 1000000000) :
    Calls Tryz.prog 37 #[.pointer (some ⟨g, 0, none⟩)] W fun e w' => e = .returned (.int .i64 (wtD L n s)) ∧ RdF w' g a L n cap (pkF L n 11 s).2 ∧ Kc g W w' := by
  obtain ⟨W1, hW1⟩ : ∃ W1, W1 = W.alloc (.cells #[.int .i64 1, .int .i64 2, .int .i64 3, .int .i64 (-1), .int .i64 5, .int .i64 0, .int .i64 7, .int .i64 (-4), .int .i64 1000000, .int .i64 (-1000000), .int .i64 10] 3) := ⟨_, rfl⟩
  have hb1 : Below W.heap.size W W1 := by rw [hW1]; exact (Below.refl _ _).alloc (Nat.le_refl _) _
  have hbl : W1.heap[W.heap.size]? = some (.cells #[.int .i64 1, .int .i64 2, .int .i64 3, .int .i64 (-1), .int .i64 5, .int .i64 0, .int .i64 7, .int .i64 (-4), .int .i64 1000000, .int .i64 (-1000000), .int .i64 10] 3 (0, 0)) := by rw [hW1]; exact heap_alloc_new _ _
  have hz : (pkF L n 11 s).1 < 11 := by rcases pkF_lt (L := L) (n := n) (m := 11) (s := s) with h | h <;> omega
  have hc1 : W1.cell? ⟨W.heap.size, (pkF L n 11 s).1, none⟩ = some (.int .i64 (wtD L n s)) := by
    rw [cell_of_row _ _ _ _ _ _ hbl]
    exact wtsL_at _ hz
  have hne : W.heap.size ≠ g := by have := h.lt; omega
  have KP := hid ((pickF_calls W1 g a L n cap 11 s (h.below hb1) hn hk (by omega)).mono (fun e w' (h2 : _ ∧ _ ∧ Kc g W1 w') => And.intro h2.1 (And.intro (h2.2.2.cell hne hc1) (And.intro h2.2.1 ((Kc.ofBelow hb1).trans h2.2.2)))))
  clear hb1 hbl hc1 hne h
  generalize wtD L n s = wt at *
  generalize pkF L n 11 s = pz at *
  obtain ⟨z, s2⟩ := pz
  have hz' : z < 11 := hz
  clear hz
  have i1 : (z : Int) < 11 := by omega
  go_enter Tryz.func37, Tryz.ntmps37
  go_upto_region 2 with fail
  rw [← hW1]
  clear hW1
  go_wp2_with (first | (go_at_call 35; refine KP.out.mono ?_; rintro e w1 ⟨rfl, hcell, hC, hK⟩; have HC := hid (And.intro hC hK); clear hC hK) | fail)
  go_ret
  exact ⟨rfl, HC.out⟩

end Go.Proofs.YtcdfoephhjacdaaGreatDoor
