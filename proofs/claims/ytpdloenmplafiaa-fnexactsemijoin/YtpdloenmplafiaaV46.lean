import Derived.Deep.RegionHeld3
import Derived.Test.YtpdloenmplafiaaV45
/-
  laws.FnExactSemijoin, walked.
-/
namespace Go.Proofs.Ytpdloenmplafiaa
open Go.RowKit

/-- the law's two copies and the answer -/
structure S9 (W4 : World) (p7 h0 h1 h2 : Nat) (f : Nat → Nat) (va : List Int) (ra : List (List Int)) (wa : List Int) (B8 p8 j0 j1 j2 : Nat) (f' : Nat → Nat) (vb : List Int) (rb : List (List Int)) (wb : List Int) (B p9 : Nat) (y0 y1 y2 : Value) (us : List Value) (A : List Int) (R : List (List Int)) (O : List Int) (W : World) : Prop where
  q : Below W4.heap.size W4 W
  x0 : OwnT W W4.heap.size h0 h1 h2 va ra wa f
  b0 : TX W p7 (.slice (some ⟨h0, 0, none⟩) va.length va.length) (.slice (some ⟨h1, 0, none⟩) ra.length ra.length) (.slice (some ⟨h2, 0, none⟩) wa.length wa.length)
  x1 : OwnT W B8 j0 j1 j2 vb rb wb f'
  b1 : TX W p8 (.slice (some ⟨j0, 0, none⟩) vb.length vb.length) (.slice (some ⟨j1, 0, none⟩) rb.length rb.length) (.slice (some ⟨j2, 0, none⟩) wb.length wb.length)
  tq : TQ W B y0 y1 y2 us A R O
  bx : TX W p9 y0 y1 y2
structure S10 (W4 : World) (B p9 : Nat) (v0 v1 v2 : Value) (us : List Value) (A : List Int) (R : List (List Int)) (O : List Int) (W : World) : Prop where
  q : Below W4.heap.size W4 W
  tq : TQ W B v0 v1 v2 us A R O
  bx : TX W p9 v0 v1 v2
section
variable {W4 W W' W'' : World} {p7 h0 h1 h2 B8 p8 j0 j1 j2 B p9 : Nat} {f f' : Nat → Nat} {va wa vb wb A O : List Int} {ra rb R : List (List Int)} {v0 v1 v2 : Value} {us : List Value}
theorem S9.below (h : S9 W4 p7 h0 h1 h2 f va ra wa B8 p8 j0 j1 j2 f' vb rb wb B p9 v0 v1 v2 us A R O W) (hb : Below W.heap.size W W') : S9 W4 p7 h0 h1 h2 f va ra wa B8 p8 j0 j1 j2 f' vb rb wb B p9 v0 v1 v2 us A R O W' :=
  ⟨bt h.q hb, h.x0.below hb, h.b0.below hb, h.x1.below hb, h.b1.below hb, h.tq.below hb, h.bx.below hb⟩
theorem S10.below (h : S10 W4 B p9 v0 v1 v2 us A R O W) (hb : Below W.heap.size W W') : S10 W4 B p9 v0 v1 v2 us A R O W' := ⟨bt h.q hb, h.tq.below hb, h.bx.below hb⟩
theorem TX.three' (h : TX W p9 v0 v1 v2) : W.cell? ⟨p9, 0, none⟩ = some v0 ∧ W.cell? ⟨p9, 1, none⟩ = some v1 ∧ W.cell? ⟨p9, 2, none⟩ = some v2 := ⟨h.c0, h.c1, h.c2⟩
theorem TX.b3' (h : TX W p9 v0 v1 v2) : B3 p9 v0 v1 v2 W := ⟨h.c0, h.c1, h.c2, h.lt⟩
theorem TX.set0 (h : TX W p9 v0 v1 v2) (y : Value) : TX (W.setCell ⟨p9, 0, none⟩ y) p9 y v1 v2 := ⟨by rw [heap_setCell_same _ _ _ _ _ _ h.blk]; rfl⟩
end

theorem OwnT.alloc {w : World} {B g0 g1 g2 : Nat} {vs ws : List Int} {rows : List (List Int)} {f : Nat → Nat} (h : OwnT w B g0 g1 g2 vs rows ws f) (o : Obj) : OwnT (w.alloc o) B g0 g1 g2 vs rows ws f := h.below ((Below.refl _ _).alloc (Nat.le_refl _) _)
theorem OwnT.drew {w : World} {B g0 g1 g2 : Nat} {vs ws : List Int} {rows : List (List Int)} {f : Nat → Nat} (h : OwnT w B g0 g1 g2 vs rows ws f) : OwnT w.drew B g0 g1 g2 vs rows ws f := h.below (Below.refl _ _).drew
theorem two_alloc {w5 W : World} {s X : Nat} {v0 v1 v2 x0 x1 x2 : Value} (hA : B3 s v0 v1 v2 w5) (hC : B3 X x0 x1 x2 w5) (o : Obj) (h : W.cell? ⟨s, 0, none⟩ = some v0 ∧ W.cell? ⟨s, 1, none⟩ = some v1 ∧ W.cell? ⟨s, 2, none⟩ = some v2 ∧ W.cell? ⟨X, 0, none⟩ = some x0 ∧ W.cell? ⟨X, 1, none⟩ = some x1 ∧ W.cell? ⟨X, 2, none⟩ = some x2 ∧ Below w5.heap.size w5 W) :
    (W.alloc o).cell? ⟨s, 0, none⟩ = some v0 ∧ (W.alloc o).cell? ⟨s, 1, none⟩ = some v1 ∧ (W.alloc o).cell? ⟨s, 2, none⟩ = some v2 ∧ (W.alloc o).cell? ⟨X, 0, none⟩ = some x0 ∧ (W.alloc o).cell? ⟨X, 1, none⟩ = some x1 ∧ (W.alloc o).cell? ⟨X, 2, none⟩ = some x2 ∧ Below w5.heap.size w5 (W.alloc o) := two_of hA hC ((two_bel h).alloc (two_bel h).size o)
theorem two_set {w5 W : World} {s X k : Nat} {v0 v1 v2 x0 x1 x2 : Value} (hA : B3 s v0 v1 v2 w5) (hC : B3 X x0 x1 x2 w5) (hk : w5.heap.size ≤ k) (o : Nat) (y : Value) (h : W.cell? ⟨s, 0, none⟩ = some v0 ∧ W.cell? ⟨s, 1, none⟩ = some v1 ∧ W.cell? ⟨s, 2, none⟩ = some v2 ∧ W.cell? ⟨X, 0, none⟩ = some x0 ∧ W.cell? ⟨X, 1, none⟩ = some x1 ∧ W.cell? ⟨X, 2, none⟩ = some x2 ∧ Below w5.heap.size w5 W) :
    (W.setCell ⟨k, o, none⟩ y).cell? ⟨s, 0, none⟩ = some v0 ∧ (W.setCell ⟨k, o, none⟩ y).cell? ⟨s, 1, none⟩ = some v1 ∧ (W.setCell ⟨k, o, none⟩ y).cell? ⟨s, 2, none⟩ = some v2 ∧ (W.setCell ⟨k, o, none⟩ y).cell? ⟨X, 0, none⟩ = some x0 ∧ (W.setCell ⟨k, o, none⟩ y).cell? ⟨X, 1, none⟩ = some x1 ∧ (W.setCell ⟨k, o, none⟩ y).cell? ⟨X, 2, none⟩ = some x2 ∧ Below w5.heap.size w5 (W.setCell ⟨k, o, none⟩ y) := two_of hA hC ((two_bel h).setCell hk y)

/-- an answer in its box, whether the box was made behind it or ahead of it -/
theorem box_late {w2 W : World} {x0 x1 x2 : Value} {A O : List Int} {R : List (List Int)} (hI : IT W x0 x1 x2 A R O) (hb : Below w2.heap.size w2 W) : TX (W.alloc (.cells #[x0, x1, x2] 53)) W.heap.size x0 x1 x2 ∧ IT (W.alloc (.cells #[x0, x1, x2] 53)) x0 x1 x2 A R O ∧ Below w2.heap.size w2 (W.alloc (.cells #[x0, x1, x2] 53)) :=
  ⟨TX.made _ _ _ _, hI.below ((Below.refl _ _).alloc (Nat.le_refl _) _), hb.alloc hb.size _⟩
theorem box_early {w2 W : World} {k : Nat} {x0 x2 : Value} {a1 : Option Addr} {n1 c1 : Nat} {A O : List Int} {R : List (List Int)} (hI : IT W x0 (.slice a1 n1 c1) x2 A R O) (hX : TX W k (.slice none 0 0) (.slice none 0 0) (.slice none 0 0)) (hne : (Value.slice a1 n1 c1).ownBlock ≠ some k) (hb : Below w2.heap.size w2 W) (hk : w2.heap.size ≤ k) :
    TX (((W.setCell ⟨k, 0, none⟩ x0).setCell ⟨k, 1, none⟩ (.slice a1 n1 c1)).setCell ⟨k, 2, none⟩ x2) k x0 (.slice a1 n1 c1) x2 ∧ IT (((W.setCell ⟨k, 0, none⟩ x0).setCell ⟨k, 1, none⟩ (.slice a1 n1 c1)).setCell ⟨k, 2, none⟩ x2) x0 (.slice a1 n1 c1) x2 A R O ∧ Below w2.heap.size w2 (((W.setCell ⟨k, 0, none⟩ x0).setCell ⟨k, 1, none⟩ (.slice a1 n1 c1)).setCell ⟨k, 2, none⟩ x2) :=
  ⟨((hX.set0 _).set1 _).set2 _, ⟨is_set3 hI.vs hX _ _ _, iss_set3 hI.rows hX hne _ _ _, is_set3 hI.ws hX _ _ _⟩, ((hb.setCell hk _).setCell hk _).setCell hk _⟩

set_option maxHeartbeats 8000000 in
set_option maxRecDepth 1000000 in
theorem semijoin_walk (w : World) (v0 v1 v2 u0 u1 u2 : Value) (va wa vb wb : List Int) (ra rb : List (List Int)) (h : IT w v0 v1 v2 va ra wa) (hv : va.length ≤ 9223372036854775807) (hr : Fits ra) (hw : wa.length ≤ 9223372036854775807) (h' : IT w u0 u1 u2 vb rb wb) (hv' : vb.length ≤ 9223372036854775807) (hr' : Fits rb) (hw' : wb.length ≤ 9223372036854775807) :
    Calls Try.prog 6 #[.agg #[v0, v1, v2], .agg #[u0, u1, u2]] w fun e w' => e = .returned (.bool true) ∧ Below w.heap.size w w' := by
  obtain ⟨W0, hW0⟩ : ∃ W0, W0 = (w.alloc (.cells #[v0, v1, v2] 51)).alloc (.cells #[u0, u1, u2] 51) := ⟨_, rfl⟩
  have HB0 : Hid (Below w.heap.size w W0) := hid (by rw [hW0]; exact ((Below.refl _ _).alloc (Nat.le_refl _) _).alloc (by simp) _)
  have HA0 : Hid (B3 w.heap.size v0 v1 v2 W0) := hid (by rw [hW0]; exact (B3.start w v0 v1 v2 _).alloc _)
  have HC0 : Hid (B3 (w.heap.size + 1) u0 u1 u2 W0) := hid (by
    rw [hW0]
    have := B3.start (w.alloc (.cells #[v0, v1, v2] 51)) u0 u1 u2 51
    rw [World.size_alloc] at this
    exact this)
  have K0 := hid (szTable_calls W0 v0 v1 v2 va ra wa 1048576 (h.below HB0.out) hv hr hw (by omega) (by omega))
  have K1 : Hid (∀ W l, 0 ≤ l → l ≤ 1048576 → Below w.heap.size w W → Calls Try.prog 25 #[.agg #[u0, u1, u2], .int .i64 l] W fun e w' => e = .returned (.int .i64 (szT vb rb wb l)) ∧ Below W.heap.size W w') := hid fun W l h1 h2 hW => szTable_calls W u0 u1 u2 vb rb wb l (h'.below hW) hv' hr' hw' h1 h2
  have HI := hid h
  have HV := hid h'
  clear h hr h' hr'
  have z0 := HA0.out.c0
  have z1 := HA0.out.c1
  have z2 := HA0.out.c2
  by_cases hbig : (1048576 : Int) < va.length + tot ra ra.length + wa.length
  · have e1 : szT va ra wa 1048576 = -1 := if_pos hbig
    rw [e1] at K0
    clear K1
    go_enter Try.func6, Try.ntmps6
    go_upto_region 1 with fail
    rw [← hW0]
    clear hW0
    go_wp2_with fail
    refine K0.out.mono ?_
    rintro e w1 ⟨rfl, hb1⟩
    go_wp2
    go_ret
    exact ⟨rfl, bt HB0.out hb1⟩
  have e1 : szT va ra wa 1048576 = 1048576 - (va.length + tot ra ra.length + wa.length) := if_neg hbig
  have e2 : ¬ ((1048576 : Int) - (va.length + tot ra ra.length + wa.length) < 0) := by omega
  rw [e1] at K0
  have hva : va.length ≤ 1099511627776 := by omega
  have hwa : wa.length ≤ 1099511627776 := by omega
  have hva2 : va.length ≤ 1048576 := by omega
  have hwa2 : wa.length ≤ 1048576 := by omega
  have htota : tot ra ra.length ≤ 1048576 := by omega
  have HRa : Hid (Short ra) := hid (short_of_tot (by omega))
  obtain ⟨lft, hlft⟩ : ∃ l : Int, l = (1048576 : Int) - (va.length + tot ra ra.length + wa.length) := ⟨_, rfl⟩
  have hl0 : 0 ≤ lft := by omega
  have hl1 : lft ≤ 1048576 := by omega
  rw [← hlft] at K0 e2
  clear hlft e1 hbig hv hw
  by_cases hbig : lft < vb.length + tot rb rb.length + wb.length
  · have e1 : szT vb rb wb lft = -1 := if_pos hbig
    have K1' : Hid (∀ W, Below w.heap.size w W → Calls Try.prog 25 #[.agg #[u0, u1, u2], .int .i64 lft] W fun e w' => e = .returned (.int .i64 (-1)) ∧ Below W.heap.size W w') := hid fun W hW => by have := K1.out W lft hl0 hl1 hW; rw [e1] at this; exact this
    clear K1 e1 hbig
    go_enter Try.func6, Try.ntmps6
    go_upto_region 1 with fail
    rw [← hW0]
    clear hW0
    go_wp2_with fail
    refine K0.out.mono ?_
    rintro e w1 ⟨rfl, hb1⟩
    have HB1 := hid (bt HB0.out hb1)
    have HC1 := hid (HC0.out.step hb1)
    clear hb1 K0 z0 z1 z2
    have z0 := HC1.out.c0
    have z1 := HC1.out.c1
    have z2 := HC1.out.c2
    go_wp2_with fail
    refine (K1'.out w1 HB1.out).mono ?_
    rintro e w2 ⟨rfl, hb2⟩
    go_wp2
    go_ret
    exact ⟨rfl, bt HB1.out hb2⟩
  have e1 : szT vb rb wb lft = lft - (vb.length + tot rb rb.length + wb.length) := if_neg hbig
  obtain ⟨lf2, hlf2⟩ : ∃ l : Int, l = lft - (vb.length + tot rb rb.length + wb.length) := ⟨_, rfl⟩
  rw [← hlf2] at e1
  have e3 : ¬ (lf2 < 0) := by omega
  have K1' : Hid (∀ W, Below w.heap.size w W → Calls Try.prog 25 #[.agg #[u0, u1, u2], .int .i64 lft] W fun e w' => e = .returned (.int .i64 lf2) ∧ Below W.heap.size W w') := hid fun W hW => by have := K1.out W lft hl0 hl1 hW; rw [e1] at this; exact this
  have hvb : vb.length ≤ 1099511627776 := by omega
  have hwb : wb.length ≤ 1099511627776 := by omega
  have hvb2 : vb.length ≤ 1048576 := by omega
  have hwb2 : wb.length ≤ 1048576 := by omega
  have htotb : tot rb rb.length ≤ 1048576 := by omega
  have HRb : Hid (Short rb) := hid (short_of_tot (by omega))
  clear hlf2 e1 hbig hv' hw' K1
  obtain ⟨A, R, O, hAl⟩ := alikeS va ra wa vb rb wb hva HRa.out hvb HRb.out
  have HAL := hid hAl
  have HEQ : Hid (∀ W u0 u1 u2 t0 t1 t2, IT W u0 u1 u2 A R O → IT W t0 t1 t2 A R O → Calls Try.prog 29 #[.agg #[u0, u1, u2], .agg #[t0, t1, t2]] W fun e w' => e = .returned (.bool true) ∧ Below W.heap.size W w') := hid fun W u0 u1 u2 t0 t1 t2 h1 h2 => eqTable_same W u0 u1 u2 t0 t1 t2 A R O h1 h2 (by have := hAl.b3; omega) hAl.b0 (by have := hAl.b4; omega)
  clear hAl
  go_enter Try.func6, Try.ntmps6
  go_upto_region 1 with fail
  rw [← hW0]
  clear hW0
  go_wp2_with fail
  refine K0.out.mono ?_
  rintro e w1 ⟨rfl, hb1⟩
  have HA1 := hid (HA0.out.step hb1)
  have HB1 := hid (bt HB0.out hb1)
  have HC1 := hid (HC0.out.step hb1)
  clear hb1 K0 z0 z1 z2 HA0 HB0 HC0
  have z0 := HC1.out.c0
  have z1 := HC1.out.c1
  have z2 := HC1.out.c2
  go_wp2_with fail
  refine (K1'.out w1 HB1.out).mono ?_
  rintro e w2 ⟨rfl, hb2⟩
  have HA2 := hid (HA1.out.step hb2)
  have HB2 := hid (bt HB1.out hb2)
  have HC2 := hid (HC1.out.step hb2)
  clear hb2 K1' z0 z1 z2 HA1 HB1 HC1 hl0 hl1
  -- the model's answer
  go_upto_region 8 with fail
  have KA : Hid (∀ W, (W.cell? ⟨w.heap.size, 0, none⟩ = some v0 ∧ W.cell? ⟨w.heap.size, 1, none⟩ = some v1 ∧ W.cell? ⟨w.heap.size, 2, none⟩ = some v2 ∧ W.cell? ⟨w.heap.size + 1, 0, none⟩ = some u0 ∧ W.cell? ⟨w.heap.size + 1, 1, none⟩ = some u1 ∧ W.cell? ⟨w.heap.size + 1, 2, none⟩ = some u2 ∧ Below w2.heap.size w2 W) → Calls Try.prog 27 #[.agg #[v0, v1, v2]] W fun e w' => ∃ g0 g1 g2 f, e = .returned (.agg #[.slice (some ⟨g0, 0, none⟩) va.length va.length, .slice (some ⟨g1, 0, none⟩) ra.length ra.length, .slice (some ⟨g2, 0, none⟩) wa.length wa.length]) ∧ OwnT w' W.heap.size g0 g1 g2 va ra wa f ∧ Below W.heap.size W w' ∧ Below w2.heap.size w2 w') := hid fun W hW => (toTable_calls W v0 v1 v2 va ra wa (HI.out.below (bt HB2.out (two_bel hW))) hva HRa.out hwa).mono fun e w' ⟨g0, g1, g2, f, h1, h2, h3⟩ => ⟨g0, g1, g2, f, h1, h2, h3, bt (two_bel hW) h3⟩
  have KB : Hid (∀ W, (W.cell? ⟨w.heap.size, 0, none⟩ = some v0 ∧ W.cell? ⟨w.heap.size, 1, none⟩ = some v1 ∧ W.cell? ⟨w.heap.size, 2, none⟩ = some v2 ∧ W.cell? ⟨w.heap.size + 1, 0, none⟩ = some u0 ∧ W.cell? ⟨w.heap.size + 1, 1, none⟩ = some u1 ∧ W.cell? ⟨w.heap.size + 1, 2, none⟩ = some u2 ∧ Below w2.heap.size w2 W) → Calls Try.prog 27 #[.agg #[u0, u1, u2]] W fun e w' => ∃ g0 g1 g2 f, e = .returned (.agg #[.slice (some ⟨g0, 0, none⟩) vb.length vb.length, .slice (some ⟨g1, 0, none⟩) rb.length rb.length, .slice (some ⟨g2, 0, none⟩) wb.length wb.length]) ∧ OwnT w' W.heap.size g0 g1 g2 vb rb wb f ∧ Below W.heap.size W w' ∧ Below w2.heap.size w2 w') := hid fun W hW => (toTable_calls W u0 u1 u2 vb rb wb (HV.out.below (bt HB2.out (two_bel hW))) hvb HRb.out hwb).mono fun e w' ⟨g0, g1, g2, f, h1, h2, h3⟩ => ⟨g0, g1, g2, f, h1, h2, h3, bt (two_bel hW) h3⟩
  have KS : Hid (∀ W B g0 g1 g2 f B' j0 j1 j2 f', (W.cell? ⟨w.heap.size, 0, none⟩ = some v0 ∧ W.cell? ⟨w.heap.size, 1, none⟩ = some v1 ∧ W.cell? ⟨w.heap.size, 2, none⟩ = some v2 ∧ W.cell? ⟨w.heap.size + 1, 0, none⟩ = some u0 ∧ W.cell? ⟨w.heap.size + 1, 1, none⟩ = some u1 ∧ W.cell? ⟨w.heap.size + 1, 2, none⟩ = some u2 ∧ Below w2.heap.size w2 W) → OwnT W B g0 g1 g2 va ra wa f → OwnT W B' j0 j1 j2 vb rb wb f' → Calls Try.prog 32 #[.agg #[.slice (some ⟨g0, 0, none⟩) va.length va.length, .slice (some ⟨g1, 0, none⟩) ra.length ra.length, .slice (some ⟨g2, 0, none⟩) wa.length wa.length], .agg #[.slice (some ⟨j0, 0, none⟩) vb.length vb.length, .slice (some ⟨j1, 0, none⟩) rb.length rb.length, .slice (some ⟨j2, 0, none⟩) wb.length wb.length]] W fun e w' => ∃ a0 c0 a1 c1 a2 c2, e = .returned (.agg #[.slice a0 A.length c0, .slice a1 R.length c1, .slice a2 O.length c2]) ∧ IT w' (.slice a0 A.length c0) (.slice a1 R.length c1) (.slice a2 O.length c2) A R O ∧ (∀ g, (Value.slice a1 R.length c1).ownBlock = some g → W.heap.size ≤ g) ∧ Below W.heap.size W w' ∧ Below w2.heap.size w2 w') := hid fun W B g0 g1 g2 f B' j0 j1 j2 f' hW h1 h2 => by
    refine (HAL.out.spec W _ _ _ _ _ _ _ h1.it h1.isss h2.it).mono ?_
    rintro e w' ⟨x0, x1, x2, rfl, hI, hN, hb⟩
    obtain ⟨a0, c0, e0, -⟩ := hI.vs
    obtain ⟨a1, c1, e1, -⟩ := hI.rows
    obtain ⟨a2, c2, e2, -⟩ := hI.ws
    subst e0 e1 e2
    exact ⟨_, _, _, _, _, _, rfl, hI, hN, hb, bt (two_bel hW) hb⟩
  go_cut [6] from 24 to 28 (fun v wc => ∃ k, v = .pointer (some ⟨k, 0, none⟩) ∧ Hid (∃ a0 c0 a1 c1 a2 c2, TX wc k (.slice a0 A.length c0) (.slice a1 R.length c1) (.slice a2 O.length c2) ∧ IT wc (.slice a0 A.length c0) (.slice a1 R.length c1) (.slice a2 O.length c2) A R O ∧ Below w2.heap.size w2 wc))
  case first =>
    go_region_held3 (fun W => W.cell? ⟨w.heap.size, 0, none⟩ = some v0 ∧ W.cell? ⟨w.heap.size, 1, none⟩ = some v1 ∧ W.cell? ⟨w.heap.size, 2, none⟩ = some v2 ∧ W.cell? ⟨w.heap.size + 1, 0, none⟩ = some u0 ∧ W.cell? ⟨w.heap.size + 1, 1, none⟩ = some u1 ∧ W.cell? ⟨w.heap.size + 1, 2, none⟩ = some u2 ∧ Below w2.heap.size w2 W)
      (first
        | exact two_of HA2.out HC2.out (Below.refl _ _).drew
        | exact two_of HA2.out HC2.out hqS
        | exact two_of HA2.out HC2.out (hqS.alloc hqS.size _)
        | exact two_of HA2.out HC2.out (((hqS.setCell (by first | exact Nat.le_refl _ | exact hqA.size | exact hqB.size) _).setCell (by first | exact Nat.le_refl _ | exact hqA.size | exact hqB.size) _).setCell (by first | exact Nat.le_refl _ | exact hqA.size | exact hqB.size) _)
        | exact two_of HA2.out HC2.out hqB
        | exact two_of HA2.out HC2.out (hqB.alloc hqB.size _)
        | exact two_of HA2.out HC2.out hqA
        | exact two_of HA2.out HC2.out (hqA.alloc hqA.size _)
        | exact two_of HA2.out HC2.out ((Below.refl _ _).drew.alloc (Nat.le_refl _) _))
      (first
        | (go_at_call 27; (with_reducible refine (KA.out _ ?_).mono ?_); assumption; rintro e wA ⟨g0, g1, g2, fA, rfl, hoA, hbA, hqA⟩; try (have hxA : TX wA w2.heap.size (.slice none 0 0) (.slice none 0 0) (.slice none 0 0) := (TX.made w2.drew (.slice none 0 0) (.slice none 0 0) (.slice none 0 0)).below hbA))
        | (go_at_call 27; (with_reducible refine (KB.out _ ?_).mono ?_); assumption; rintro e wB ⟨j0, j1, j2, fB, rfl, hoB, hbB, hqB⟩; try (first | have hxB := hxA.below hbB | have hxB := (TX.made wA (.slice none 0 0) (.slice none 0 0) (.slice none 0 0)).below hbB))
        | (go_at_call 32; (first | (with_reducible refine (KS.out _ _ _ _ _ _ _ _ _ _ _ ?_ (hoA.below hbB) hoB).mono ?_) | (with_reducible refine (KS.out _ _ _ _ _ _ _ _ _ _ _ ?_ ((hoA.below hbB).alloc _) (hoB.alloc _)).mono ?_) | (with_reducible refine (KS.out _ _ _ _ _ _ _ _ _ _ _ ?_ ((hoA.alloc _).below hbB) hoB).mono ?_)); assumption; rintro e wS ⟨a0, c0, a1, c1, a2, c2, rfl, hI, hN, hbS, hqS⟩; try (first | have hxS := hxB.below hbS | have hxS := (TX.made wB (.slice none 0 0) (.slice none 0 0) (.slice none 0 0)).below hbS); try (have k0 := hxS.c0; have k1 := hxS.c1; have k2 := hxS.c2; have f0 := hxS.free 0; have f1 := hxS.free 1; have f2 := hxS.free 2))
        | fail)
    all_goals (go_wp2_with fail; go_meet)
    all_goals first
      | exact ⟨_, rfl, hid ⟨_, _, _, _, _, _, box_late hI hqS⟩⟩
      | exact ⟨_, rfl, hid ⟨_, _, _, _, _, _, box_early hI hxS (fun e => by have h9 := hN _ e; first | (have := hxB.lt; omega) | (simp at h9; done) | (simp at h9; omega)) hqS (by first | exact Nat.le_refl _ | exact hqA.size | exact hqB.size)⟩⟩
  case rest =>
  obtain ⟨g6, rfl, HT⟩ := hcut
  obtain ⟨a1, q1, a2, q2, a3, q3, hX6, hI6, hQ6⟩ := HT.out
  have HG6 := hid hX6
  have HU4 := hid hI6
  have HB4 := hid (bt HB2.out hQ6)
  have HA4 := hid (HA2.out.step hQ6)
  have HC4 := hid (HC2.out.step hQ6)
  clear HT hX6 hI6 hQ6 HA2 HC2 KA KB KS HB2
  generalize wc = W4 at *
  have HU0 : Hid (∀ W, Below W4.heap.size W4 W → IT W (.slice a1 A.length q1) (.slice a2 R.length q2) (.slice a3 O.length q3) A R O ∧ TX W g6 (.slice a1 A.length q1) (.slice a2 R.length q2) (.slice a3 O.length q3) ∧ B3 w.heap.size v0 v1 v2 W ∧ B3 (w.heap.size + 1) u0 u1 u2 W ∧ IT W v0 v1 v2 va ra wa ∧ IT W u0 u1 u2 vb rb wb ∧ Below w.heap.size w W) := hid fun W hW => ⟨HU4.out.below hW, HG6.out.below hW, HA4.out.step hW, HC4.out.step hW, HI.out.below (bt HB4.out hW), HV.out.below (bt HB4.out hW), bt HB4.out hW⟩
  clear HU4 HG6 HA4 HC4 HB4 HI HV
  have z0 := (HU0.out W4 (Below.refl _ _)).2.2.1.c0
  have z1 := (HU0.out W4 (Below.refl _ _)).2.2.1.c1
  have z2 := (HU0.out W4 (Below.refl _ _)).2.2.1.c2
  -- the program's
  go_wp2_with fail
  refine (toTable_calls W4 v0 v1 v2 va ra wa (HU0.out W4 (Below.refl _ _)).2.2.2.2.1 hva HRa.out hwa).mono ?_
  rintro e w5 ⟨h0, h1, h2, f, rfl, ho, hb⟩
  have HO5 := hid ho
  have HQ5 := hid hb
  clear z0 z1 z2 hb ho
  go_upto_region 10 with fail
  have HAl : Hid (Below w5.heap.size w5 (w5.alloc (.cells #[.slice (some ⟨h0, 0, none⟩) va.length va.length, .slice (some ⟨h1, 0, none⟩) ra.length ra.length, .slice (some ⟨h2, 0, none⟩) wa.length wa.length] 53))) := hid ((Below.refl _ _).alloc (Nat.le_refl _) _)
  have HT7 := hid (TX.made w5 (.slice (some ⟨h0, 0, none⟩) va.length va.length) (.slice (some ⟨h1, 0, none⟩) ra.length ra.length) (.slice (some ⟨h2, 0, none⟩) wa.length wa.length))
  have HO6 := hid (HO5.out.below HAl.out)
  have HQ6 := hid (bt HQ5.out HAl.out)
  have hl5 : h2 < w5.heap.size := HO5.out.wt.lt
  have hs45 := HQ5.out.size
  clear HO5 HQ5 HAl
  have hs56 := HT7.out.lt
  generalize w5.alloc (.cells #[.slice (some ⟨h0, 0, none⟩) va.length va.length, .slice (some ⟨h1, 0, none⟩) ra.length ra.length, .slice (some ⟨h2, 0, none⟩) wa.length wa.length] 53) = W6 at *
  generalize w5.heap.size = p7 at *
  have z0 := (HU0.out W6 HQ6.out).2.2.2.1.c0
  have z1 := (HU0.out W6 HQ6.out).2.2.2.1.c1
  have z2 := (HU0.out W6 HQ6.out).2.2.2.1.c2
  go_wp2_with fail
  refine (toTable_calls W6 u0 u1 u2 vb rb wb (HU0.out W6 HQ6.out).2.2.2.2.2.1 hvb HRb.out hwb).mono ?_
  rintro e w6 ⟨j0, j1, j2, f', rfl, ho, hb6⟩
  have HX6 := hid ho
  have HO7 := hid (HO6.out.below hb6)
  have HT8 := hid (HT7.out.below hb6)
  have HQ7 := hid (bt HQ6.out hb6)
  have hl6 : j2 < w6.heap.size := ho.wt.lt
  have hs67 := hb6.size
  clear z0 z1 z2 ho hb6 HO6 HT7 HQ6
  go_upto_region 11 with fail
  have HAl : Hid (Below w6.heap.size w6 (w6.alloc (.cells #[.slice (some ⟨j0, 0, none⟩) vb.length vb.length, .slice (some ⟨j1, 0, none⟩) rb.length rb.length, .slice (some ⟨j2, 0, none⟩) wb.length wb.length] 53))) := hid ((Below.refl _ _).alloc (Nat.le_refl _) _)
  have HTb := hid (TX.made w6 (.slice (some ⟨j0, 0, none⟩) vb.length vb.length) (.slice (some ⟨j1, 0, none⟩) rb.length rb.length) (.slice (some ⟨j2, 0, none⟩) wb.length wb.length))
  have HX7 := hid (HX6.out.below HAl.out)
  have HO8 := hid (HO7.out.below HAl.out)
  have HT9 := hid (HT8.out.below HAl.out)
  have HQ8 := hid (bt HQ7.out HAl.out)
  clear HAl HX6 HO7 HT8 HQ7
  have hs68 := HTb.out.lt
  generalize w6.alloc (.cells #[.slice (some ⟨j0, 0, none⟩) vb.length vb.length, .slice (some ⟨j1, 0, none⟩) rb.length rb.length, .slice (some ⟨j2, 0, none⟩) wb.length wb.length] 53) = W7 at *
  generalize w6.heap.size = p8 at *
  obtain ⟨d0, d1, d2⟩ := HT9.out.three'
  obtain ⟨d3, d4, d5⟩ := HTb.out.three'
  go_wp2_with fail
  refine (HAL.out.impl W7 _ _ _ _ _ _ HO8.out.it HX7.out.it).mono ?_
  rintro e w7 ⟨y0, y1, y2, us, rfl, hTq, hb7⟩
  obtain ⟨b1, p1, e1⟩ := own_shape hTq.o0
  obtain ⟨b2, p2, e3⟩ := hTq.rq.sl
  obtain ⟨b3, p3, e4⟩ := own_shape hTq.o2
  subst e1 e3 e4
  have HP7 := hid hTq
  have HO9 := hid (HO8.out.below hb7)
  have HTA := hid (HT9.out.below hb7)
  have HX8 := hid (HX7.out.below hb7)
  have HTB := hid (HTb.out.below hb7)
  have HQ9 := hid (bt HQ8.out hb7)
  have hs78 := hb7.size
  clear hTq hb7 HO8 HT9 HX7 HTb HQ8 d0 d1 d2 d3 d4 d5
  go_upto_region 12 with fail
  have HAl : Hid (Below w7.heap.size w7 (w7.alloc (.cells #[.slice b1 A.length p1, .slice b2 R.length p2, .slice b3 O.length p3] 53))) := hid ((Below.refl _ _).alloc (Nat.le_refl _) _)
  have HE8 : Hid (S9 W4 p7 h0 h1 h2 f va ra wa W6.heap.size p8 j0 j1 j2 f' vb rb wb W7.heap.size w7.heap.size (.slice b1 A.length p1) (.slice b2 R.length p2) (.slice b3 O.length p3) us A R O (w7.alloc (.cells #[.slice b1 A.length p1, .slice b2 R.length p2, .slice b3 O.length p3] 53))) :=
    hid ⟨bt HQ9.out HAl.out, HO9.out.below HAl.out, HTA.out.below HAl.out, HX8.out.below HAl.out, HTB.out.below HAl.out, HP7.out.below HAl.out, TX.made _ _ _ _⟩
  clear HAl HO9 HTA HX8 HTB HP7 HQ9
  generalize w7.alloc (.cells #[.slice b1 A.length p1, .slice b2 R.length p2, .slice b3 O.length p3] 53) = W8 at *
  generalize w7.heap.size = p9 at *
  obtain ⟨c0, c1, c2⟩ := (HU0.out W8 HE8.out.q).2.1.three'
  obtain ⟨d0, d1, d2⟩ := HE8.out.bx.three'
  go_wp2_with fail
  refine (HEQ.out W8 _ _ _ _ _ _ HE8.out.tq.it (HU0.out W8 HE8.out.q).1).mono ?_
  rintro e w9 ⟨rfl, hb9⟩
  have HE9 := hid (HE8.out.below hb9)
  clear hb9 HE8 c0 c1 c2 d0 d1 d2
  -- the arguments are as they were
  have HSW : Hid (∀ W, (W.cell? ⟨w.heap.size, 0, none⟩ = some v0 ∧ W.cell? ⟨w.heap.size, 1, none⟩ = some v1 ∧ W.cell? ⟨w.heap.size, 2, none⟩ = some v2 ∧ W.cell? ⟨p7, 0, none⟩ = some (.slice (some ⟨h0, 0, none⟩) va.length va.length) ∧ W.cell? ⟨p7, 1, none⟩ = some (.slice (some ⟨h1, 0, none⟩) ra.length ra.length) ∧ W.cell? ⟨p7, 2, none⟩ = some (.slice (some ⟨h2, 0, none⟩) wa.length wa.length) ∧ Below w9.heap.size w9 W) → Below w9.heap.size w9 W) := hid (fun W hW => hW.2.2.2.2.2.2)
  have HIW : Hid (∀ W, (W.cell? ⟨w.heap.size, 0, none⟩ = some v0 ∧ W.cell? ⟨w.heap.size, 1, none⟩ = some v1 ∧ W.cell? ⟨w.heap.size, 2, none⟩ = some v2 ∧ W.cell? ⟨p7, 0, none⟩ = some (.slice (some ⟨h0, 0, none⟩) va.length va.length) ∧ W.cell? ⟨p7, 1, none⟩ = some (.slice (some ⟨h1, 0, none⟩) ra.length ra.length) ∧ W.cell? ⟨p7, 2, none⟩ = some (.slice (some ⟨h2, 0, none⟩) wa.length wa.length) ∧ Below w9.heap.size w9 W) → IT W v0 v1 v2 va ra wa) := hid (fun W hW => (HU0.out W (bt HE9.out.q (HSW.out W hW))).2.2.2.2.1)
  have HXW : Hid (∀ W, (W.cell? ⟨w.heap.size, 0, none⟩ = some v0 ∧ W.cell? ⟨w.heap.size, 1, none⟩ = some v1 ∧ W.cell? ⟨w.heap.size, 2, none⟩ = some v2 ∧ W.cell? ⟨p7, 0, none⟩ = some (.slice (some ⟨h0, 0, none⟩) va.length va.length) ∧ W.cell? ⟨p7, 1, none⟩ = some (.slice (some ⟨h1, 0, none⟩) ra.length ra.length) ∧ W.cell? ⟨p7, 2, none⟩ = some (.slice (some ⟨h2, 0, none⟩) wa.length wa.length) ∧ Below w9.heap.size w9 W) → IT W (.slice (some ⟨h0, 0, none⟩) va.length va.length) (.slice (some ⟨h1, 0, none⟩) ra.length ra.length) (.slice (some ⟨h2, 0, none⟩) wa.length wa.length) va ra wa) := hid (fun W hW => (HE9.out.below (HSW.out W hW)).x0.it)
  have HA5 := hid (HU0.out w9 HE9.out.q).2.2.1
  have HX5 := hid HE9.out.b0.b3'
  go_upto_region 14 with fail
  go_cut [44] from 40 to 44 (fun v wc => v = .bool false ∧ Hid (Below w9.heap.size w9 wc))
  case first =>
    go_region_held3 (fun W => W.cell? ⟨w.heap.size, 0, none⟩ = some v0 ∧ W.cell? ⟨w.heap.size, 1, none⟩ = some v1 ∧ W.cell? ⟨w.heap.size, 2, none⟩ = some v2 ∧ W.cell? ⟨p7, 0, none⟩ = some (.slice (some ⟨h0, 0, none⟩) va.length va.length) ∧ W.cell? ⟨p7, 1, none⟩ = some (.slice (some ⟨h1, 0, none⟩) ra.length ra.length) ∧ W.cell? ⟨p7, 2, none⟩ = some (.slice (some ⟨h2, 0, none⟩) wa.length wa.length) ∧ Below w9.heap.size w9 W)
      (first | exact two_of HA5.out HX5.out (Below.refl _ _).drew | exact two_of HA5.out HX5.out (bt (Below.refl _ _).drew hb) | (refine two_of HA5.out HX5.out (bt (HSW.out _ ?_) hb); assumption))
      (first | (go_at_call 27; refine (toTable_calls _ v0 v1 v2 va ra wa (HIW.out _ ?_) hva HRa.out hwa).mono ?_; assumption; rintro e w' ⟨k0, k1, k2, f2, rfl, ho, hb⟩) | (go_at_call 29; refine (eqTable_same _ _ _ _ _ _ _ va ra wa (HXW.out _ ?_) ho.it hva HRa.out hwa).mono ?_; assumption; rintro e w' ⟨rfl, hb⟩))
    all_goals (go_wp2_with fail; go_meet)
    all_goals exact ⟨rfl, hid (HSW.out _ (by assumption))⟩
  case rest =>
  obtain ⟨rfl, hcut⟩ := hcut
  have HEA := hid (HE9.out.below hcut.out)
  clear hcut HSW HIW HXW HA5 HX5 HE9
  generalize wc = wA at *
  have HSW : Hid (∀ W, (W.cell? ⟨w.heap.size + 1, 0, none⟩ = some u0 ∧ W.cell? ⟨w.heap.size + 1, 1, none⟩ = some u1 ∧ W.cell? ⟨w.heap.size + 1, 2, none⟩ = some u2 ∧ W.cell? ⟨p8, 0, none⟩ = some (.slice (some ⟨j0, 0, none⟩) vb.length vb.length) ∧ W.cell? ⟨p8, 1, none⟩ = some (.slice (some ⟨j1, 0, none⟩) rb.length rb.length) ∧ W.cell? ⟨p8, 2, none⟩ = some (.slice (some ⟨j2, 0, none⟩) wb.length wb.length) ∧ Below wA.heap.size wA W) → Below wA.heap.size wA W) := hid (fun W hW => hW.2.2.2.2.2.2)
  have HIW : Hid (∀ W, (W.cell? ⟨w.heap.size + 1, 0, none⟩ = some u0 ∧ W.cell? ⟨w.heap.size + 1, 1, none⟩ = some u1 ∧ W.cell? ⟨w.heap.size + 1, 2, none⟩ = some u2 ∧ W.cell? ⟨p8, 0, none⟩ = some (.slice (some ⟨j0, 0, none⟩) vb.length vb.length) ∧ W.cell? ⟨p8, 1, none⟩ = some (.slice (some ⟨j1, 0, none⟩) rb.length rb.length) ∧ W.cell? ⟨p8, 2, none⟩ = some (.slice (some ⟨j2, 0, none⟩) wb.length wb.length) ∧ Below wA.heap.size wA W) → IT W u0 u1 u2 vb rb wb) := hid (fun W hW => (HU0.out W (bt HEA.out.q (HSW.out W hW))).2.2.2.2.2.1)
  have HXW : Hid (∀ W, (W.cell? ⟨w.heap.size + 1, 0, none⟩ = some u0 ∧ W.cell? ⟨w.heap.size + 1, 1, none⟩ = some u1 ∧ W.cell? ⟨w.heap.size + 1, 2, none⟩ = some u2 ∧ W.cell? ⟨p8, 0, none⟩ = some (.slice (some ⟨j0, 0, none⟩) vb.length vb.length) ∧ W.cell? ⟨p8, 1, none⟩ = some (.slice (some ⟨j1, 0, none⟩) rb.length rb.length) ∧ W.cell? ⟨p8, 2, none⟩ = some (.slice (some ⟨j2, 0, none⟩) wb.length wb.length) ∧ Below wA.heap.size wA W) → IT W (.slice (some ⟨j0, 0, none⟩) vb.length vb.length) (.slice (some ⟨j1, 0, none⟩) rb.length rb.length) (.slice (some ⟨j2, 0, none⟩) wb.length wb.length) vb rb wb) := hid (fun W hW => (HEA.out.below (HSW.out W hW)).x1.it)
  have HA5 := hid (HU0.out wA HEA.out.q).2.2.2.1
  have HX5 := hid HEA.out.b1.b3'
  go_upto_region 16 with fail
  go_cut [49] from 45 to 49 (fun v wc => v = .bool false ∧ Hid (Below wA.heap.size wA wc))
  case first =>
    go_region_held3 (fun W => W.cell? ⟨w.heap.size + 1, 0, none⟩ = some u0 ∧ W.cell? ⟨w.heap.size + 1, 1, none⟩ = some u1 ∧ W.cell? ⟨w.heap.size + 1, 2, none⟩ = some u2 ∧ W.cell? ⟨p8, 0, none⟩ = some (.slice (some ⟨j0, 0, none⟩) vb.length vb.length) ∧ W.cell? ⟨p8, 1, none⟩ = some (.slice (some ⟨j1, 0, none⟩) rb.length rb.length) ∧ W.cell? ⟨p8, 2, none⟩ = some (.slice (some ⟨j2, 0, none⟩) wb.length wb.length) ∧ Below wA.heap.size wA W)
      (first | exact two_of HA5.out HX5.out (Below.refl _ _).drew | exact two_of HA5.out HX5.out (bt (Below.refl _ _).drew hb) | (refine two_of HA5.out HX5.out (bt (HSW.out _ ?_) hb); assumption))
      (first | (go_at_call 27; refine (toTable_calls _ u0 u1 u2 vb rb wb (HIW.out _ ?_) hvb HRb.out hwb).mono ?_; assumption; rintro e w' ⟨k0, k1, k2, f2, rfl, ho, hb⟩) | (go_at_call 29; refine (eqTable_same _ _ _ _ _ _ _ vb rb wb (HXW.out _ ?_) ho.it hvb HRb.out hwb).mono ?_; assumption; rintro e w' ⟨rfl, hb⟩))
    all_goals (go_wp2_with fail; go_meet)
    all_goals exact ⟨rfl, hid (HSW.out _ (by assumption))⟩
  case rest =>
  obtain ⟨rfl, hcut⟩ := hcut
  have HED := hid (HEA.out.below hcut.out)
  clear hcut HSW HIW HXW HA5 HX5 HEA
  generalize wc = wD at *
  -- the arguments are marked
  obtain ⟨d0, d1, d2⟩ := HED.out.b0.three'
  go_wp2_with fail
  refine (markTable_at 1 (by omega) (by omega) wD W4.heap.size h0 h1 h2 va ra wa f HED.out.x0 htota hva2 hwa2).mono ?_
  rintro e wE ⟨m, hm0, hm1, rfl, hbE, hkE⟩
  have hsD := HED.out.bx.lt
  have hs8D := HED.out.b1.lt
  have HX2 : Hid (OwnT wE W6.heap.size j0 j1 j2 vb rb wb f') := hid (HED.out.x1.stay (fun q hq hl => hkE q (by omega) hl) hbE.size)
  have HT2 : Hid (TX wE p8 (.slice (some ⟨j0, 0, none⟩) vb.length vb.length) (.slice (some ⟨j1, 0, none⟩) rb.length rb.length) (.slice (some ⟨j2, 0, none⟩) wb.length wb.length)) := hid ⟨(hkE p8 (by omega) hs8D).trans HED.out.b1.blk⟩
  have HEE : Hid (S10 W4 W7.heap.size p9 (.slice b1 A.length p1) (.slice b2 R.length p2) (.slice b3 O.length p3) us A R O wE) := hid ⟨HED.out.q.trans hbE, HED.out.tq.stay (fun q hq hl => hkE q (by omega) hl), ⟨(hkE p9 (by omega) hsD).trans HED.out.bx.blk⟩⟩
  clear hbE hkE d0 d1 d2 HED hsD hs8D
  obtain ⟨d0, d1, d2⟩ := HT2.out.three'
  go_wp2_with fail
  refine (markTable_at m hm0 (by omega) wE W6.heap.size j0 j1 j2 vb rb wb f' HX2.out htotb hvb2 hwb2).mono ?_
  rintro e wF ⟨kk, hk0, hk1, rfl, hbF, hkF⟩
  have hsE := HEE.out.bx.lt
  have HEF : Hid (S10 W4 W7.heap.size p9 (.slice b1 A.length p1) (.slice b2 R.length p2) (.slice b3 O.length p3) us A R O wF) := hid ⟨HEE.out.q.trans (hbF.mono (by omega)), HEE.out.tq.stay (fun q hq hl => hkF q (by omega) hl), ⟨(hkF p9 (by omega) hsE).trans HEE.out.bx.blk⟩⟩
  have hk : ¬ (kk < 0) := by omega
  clear hbF hkF d0 d1 d2 HEE HX2 HT2 hsE
  obtain ⟨c0, c1, c2⟩ := (HU0.out wF HEF.out.q).2.1.three'
  obtain ⟨d0, d1, d2⟩ := HEF.out.bx.three'
  go_wp2_with fail
  refine (HEQ.out wF _ _ _ _ _ _ HEF.out.tq.it (HU0.out wF HEF.out.q).1).mono ?_
  rintro e wG ⟨rfl, hbG⟩
  have HEG := hid (HEF.out.below hbG)
  clear hbG HEF c0 c1 c2 d0 d1 d2
  -- the answer owns its memory
  obtain ⟨d0, d1, d2⟩ := HEG.out.bx.three'
  have hs6G : W7.heap.size ≤ wG.heap.size := by have := HEG.out.bx.lt; omega
  go_wp2_with fail
  refine (table_marks wG W7.heap.size _ _ _ us A R O HEG.out.tq hs6G HAL.out.b1 HAL.out.b2 HAL.out.b3 HAL.out.b4).mono ?_
  rintro e wH ⟨kq, hq0, rfl, hbH, hfr, hheld⟩
  have KH := hid hheld
  obtain ⟨cur, hcur⟩ := HEG.out.bx.typ
  have HBx : Hid (TX wH p9 (.slice b1 A.length p1) (.slice b2 R.length p2) (.slice b3 O.length p3)) := hid ⟨(hfr p9 cur _ hcur (by decide)).trans HEG.out.bx.blk⟩
  have HQH : Hid (Below W4.heap.size W4 wH) := hid (HEG.out.q.trans (hbH.mono (by omega)))
  have hq : ¬ (kq < 0) := by omega
  have hne : (kq != kq) = false := by simp
  clear hfr hbH hheld HEG d0 d1 d2 hcur
  obtain ⟨d0, d1, d2⟩ := HBx.out.three'
  go_wp2_with fail
  refine KH.out.mono ?_
  rintro e wI ⟨rfl, hbI⟩
  have HQI := hid (bt HQH.out hbI)
  clear hbI KH HBx HQH d0 d1 d2
  -- once more
  have HA2 := hid (HU0.out wI HQI.out).2.2.1
  have HC2 := hid (HU0.out wI HQI.out).2.2.2.1
  have KA : Hid (∀ W, (W.cell? ⟨w.heap.size, 0, none⟩ = some v0 ∧ W.cell? ⟨w.heap.size, 1, none⟩ = some v1 ∧ W.cell? ⟨w.heap.size, 2, none⟩ = some v2 ∧ W.cell? ⟨w.heap.size + 1, 0, none⟩ = some u0 ∧ W.cell? ⟨w.heap.size + 1, 1, none⟩ = some u1 ∧ W.cell? ⟨w.heap.size + 1, 2, none⟩ = some u2 ∧ Below wI.heap.size wI W) → Calls Try.prog 27 #[.agg #[v0, v1, v2]] W fun e w' => ∃ g0 g1 g2 f, e = .returned (.agg #[.slice (some ⟨g0, 0, none⟩) va.length va.length, .slice (some ⟨g1, 0, none⟩) ra.length ra.length, .slice (some ⟨g2, 0, none⟩) wa.length wa.length]) ∧ OwnT w' W.heap.size g0 g1 g2 va ra wa f ∧ Below W.heap.size W w' ∧ Below wI.heap.size wI w') := hid fun W hW => (toTable_calls W v0 v1 v2 va ra wa (HU0.out W (bt HQI.out (two_bel hW))).2.2.2.2.1 hva HRa.out hwa).mono fun e w' ⟨g0, g1, g2, f, h1, h2, h3⟩ => ⟨g0, g1, g2, f, h1, h2, h3, bt (two_bel hW) h3⟩
  have KB : Hid (∀ W, (W.cell? ⟨w.heap.size, 0, none⟩ = some v0 ∧ W.cell? ⟨w.heap.size, 1, none⟩ = some v1 ∧ W.cell? ⟨w.heap.size, 2, none⟩ = some v2 ∧ W.cell? ⟨w.heap.size + 1, 0, none⟩ = some u0 ∧ W.cell? ⟨w.heap.size + 1, 1, none⟩ = some u1 ∧ W.cell? ⟨w.heap.size + 1, 2, none⟩ = some u2 ∧ Below wI.heap.size wI W) → Calls Try.prog 27 #[.agg #[u0, u1, u2]] W fun e w' => ∃ g0 g1 g2 f, e = .returned (.agg #[.slice (some ⟨g0, 0, none⟩) vb.length vb.length, .slice (some ⟨g1, 0, none⟩) rb.length rb.length, .slice (some ⟨g2, 0, none⟩) wb.length wb.length]) ∧ OwnT w' W.heap.size g0 g1 g2 vb rb wb f ∧ Below W.heap.size W w' ∧ Below wI.heap.size wI w') := hid fun W hW => (toTable_calls W u0 u1 u2 vb rb wb (HU0.out W (bt HQI.out (two_bel hW))).2.2.2.2.2.1 hvb HRb.out hwb).mono fun e w' ⟨g0, g1, g2, f, h1, h2, h3⟩ => ⟨g0, g1, g2, f, h1, h2, h3, bt (two_bel hW) h3⟩
  have KS : Hid (∀ W B g0 g1 g2 f B' j0 j1 j2 f', (W.cell? ⟨w.heap.size, 0, none⟩ = some v0 ∧ W.cell? ⟨w.heap.size, 1, none⟩ = some v1 ∧ W.cell? ⟨w.heap.size, 2, none⟩ = some v2 ∧ W.cell? ⟨w.heap.size + 1, 0, none⟩ = some u0 ∧ W.cell? ⟨w.heap.size + 1, 1, none⟩ = some u1 ∧ W.cell? ⟨w.heap.size + 1, 2, none⟩ = some u2 ∧ Below wI.heap.size wI W) → OwnT W B g0 g1 g2 va ra wa f → OwnT W B' j0 j1 j2 vb rb wb f' → Calls Try.prog 33 #[.agg #[.slice (some ⟨g0, 0, none⟩) va.length va.length, .slice (some ⟨g1, 0, none⟩) ra.length ra.length, .slice (some ⟨g2, 0, none⟩) wa.length wa.length], .agg #[.slice (some ⟨j0, 0, none⟩) vb.length vb.length, .slice (some ⟨j1, 0, none⟩) rb.length rb.length, .slice (some ⟨j2, 0, none⟩) wb.length wb.length]] W fun e w' => ∃ a0 c0 a1 c1 a2 c2, e = .returned (.agg #[.slice a0 A.length c0, .slice a1 R.length c1, .slice a2 O.length c2]) ∧ IT w' (.slice a0 A.length c0) (.slice a1 R.length c1) (.slice a2 O.length c2) A R O ∧ (∀ g, (Value.slice a1 R.length c1).ownBlock = some g → W.heap.size ≤ g) ∧ Below W.heap.size W w' ∧ Below wI.heap.size wI w') := hid fun W B g0 g1 g2 f B' j0 j1 j2 f' hW h1 h2 => by
    refine (HAL.out.impl W _ _ _ _ _ _ h1.it h2.it).mono ?_
    rintro e w' ⟨x0, x1, x2, us, rfl, hI, hb⟩
    obtain ⟨a0, c0, e0⟩ := own_shape hI.o0
    obtain ⟨a1, c1, e1⟩ := hI.rq.sl
    obtain ⟨a2, c2, e2⟩ := own_shape hI.o2
    subst e0 e1 e2
    exact ⟨_, _, _, _, _, _, rfl, hI.it, fun g hg => (hI.rq.own.lt g hg).1, hb, bt (two_bel hW) hb⟩
  clear HAL
  go_upto_region 31 with fail
  go_cut [13] from 75 to 79 (fun v wc => ∃ k, v = .pointer (some ⟨k, 0, none⟩) ∧ Hid (∃ a0 c0 a1 c1 a2 c2, TX wc k (.slice a0 A.length c0) (.slice a1 R.length c1) (.slice a2 O.length c2) ∧ IT wc (.slice a0 A.length c0) (.slice a1 R.length c1) (.slice a2 O.length c2) A R O ∧ Below wI.heap.size wI wc))
  case first =>
    go_region_held3 (fun W => W.cell? ⟨w.heap.size, 0, none⟩ = some v0 ∧ W.cell? ⟨w.heap.size, 1, none⟩ = some v1 ∧ W.cell? ⟨w.heap.size, 2, none⟩ = some v2 ∧ W.cell? ⟨w.heap.size + 1, 0, none⟩ = some u0 ∧ W.cell? ⟨w.heap.size + 1, 1, none⟩ = some u1 ∧ W.cell? ⟨w.heap.size + 1, 2, none⟩ = some u2 ∧ Below wI.heap.size wI W)
      (first
        | exact two_of HA2.out HC2.out (Below.refl _ _).drew
        | exact two_of HA2.out HC2.out hqS
        | exact two_of HA2.out HC2.out (hqS.alloc hqS.size _)
        | exact two_of HA2.out HC2.out (((hqS.setCell (by first | exact Nat.le_refl _ | exact hqA.size | exact hqB.size) _).setCell (by first | exact Nat.le_refl _ | exact hqA.size | exact hqB.size) _).setCell (by first | exact Nat.le_refl _ | exact hqA.size | exact hqB.size) _)
        | exact two_of HA2.out HC2.out hqB
        | exact two_of HA2.out HC2.out (hqB.alloc hqB.size _)
        | exact two_of HA2.out HC2.out hqA
        | exact two_of HA2.out HC2.out (hqA.alloc hqA.size _)
        | exact two_of HA2.out HC2.out ((Below.refl _ _).drew.alloc (Nat.le_refl _) _))
      (first
        | (go_at_call 27; (with_reducible refine (KA.out _ ?_).mono ?_); assumption; rintro e wA ⟨g0, g1, g2, fA, rfl, hoA, hbA, hqA⟩; try (have hxA : TX wA wI.heap.size (.slice none 0 0) (.slice none 0 0) (.slice none 0 0) := (TX.made wI.drew (.slice none 0 0) (.slice none 0 0) (.slice none 0 0)).below hbA))
        | (go_at_call 27; (with_reducible refine (KB.out _ ?_).mono ?_); assumption; rintro e wB ⟨j0, j1, j2, fB, rfl, hoB, hbB, hqB⟩; try (first | have hxB := hxA.below hbB | have hxB := (TX.made wA (.slice none 0 0) (.slice none 0 0) (.slice none 0 0)).below hbB))
        | (go_at_call 33; (first | (with_reducible refine (KS.out _ _ _ _ _ _ _ _ _ _ _ ?_ (hoA.below hbB) hoB).mono ?_) | (with_reducible refine (KS.out _ _ _ _ _ _ _ _ _ _ _ ?_ ((hoA.below hbB).alloc _) (hoB.alloc _)).mono ?_) | (with_reducible refine (KS.out _ _ _ _ _ _ _ _ _ _ _ ?_ ((hoA.alloc _).below hbB) hoB).mono ?_)); assumption; rintro e wS ⟨a0, c0, a1, c1, a2, c2, rfl, hI, hN, hbS, hqS⟩; try (first | have hxS := hxB.below hbS | have hxS := (TX.made wB (.slice none 0 0) (.slice none 0 0) (.slice none 0 0)).below hbS); try (have k0 := hxS.c0; have k1 := hxS.c1; have k2 := hxS.c2; have f0 := hxS.free 0; have f1 := hxS.free 1; have f2 := hxS.free 2))
        | fail)
    all_goals (go_wp2_with fail; go_meet)
    all_goals first
      | exact ⟨_, rfl, hid ⟨_, _, _, _, _, _, box_late hI hqS⟩⟩
      | exact ⟨_, rfl, hid ⟨_, _, _, _, _, _, box_early hI hxS (fun e => by have h9 := hN _ e; first | (have := hxB.lt; omega) | (simp at h9; done) | (simp at h9; omega)) hqS (by first | exact Nat.le_refl _ | exact hqA.size | exact hqB.size)⟩⟩
  case rest =>
  obtain ⟨gM, rfl, HT⟩ := hcut
  obtain ⟨s1, r1, s2, r2, s3, r3, hXM, hIM, hQM⟩ := HT.out
  have HGM := hid hXM
  have HIM := hid hIM
  have HQM := hid (bt HQI.out hQM)
  clear HT hXM hIM hQM KA KB KS HA2 HC2
  generalize wc = wM at *
  obtain ⟨c0, c1, c2⟩ := (HU0.out wM HQM.out).2.1.three'
  obtain ⟨d0, d1, d2⟩ := HGM.out.three'
  go_wp2_with fail
  refine (HEQ.out wM _ _ _ _ _ _ HIM.out (HU0.out wM HQM.out).1).mono ?_
  rintro e wN ⟨rfl, hbN⟩
  have HBN := hid (bt (HU0.out wM HQM.out).2.2.2.2.2.2 hbN)
  clear hbN
  go_wp2
  go_ret
  exact ⟨rfl, HBN.out⟩

end Go.Proofs.Ytpdloenmplafiaa
