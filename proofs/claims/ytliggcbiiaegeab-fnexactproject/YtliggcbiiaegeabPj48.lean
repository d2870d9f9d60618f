import Derived.Test.YtliggcbiiaegeabPj16
/-
  laws.FnExactTableOK, walked.
-/
namespace Go.Proofs.Ytliggcbiiaegeab
open Go.RowKit

/-- a box of three cells at block s -/
structure B3 (s : Nat) (v0 v1 v2 : Value) (W : World) : Prop where
  c0 : W.cell? ⟨s, 0, none⟩ = some v0
  c1 : W.cell? ⟨s, 1, none⟩ = some v1
  c2 : W.cell? ⟨s, 2, none⟩ = some v2
  lt : s < W.heap.size

theorem B3.step {s : Nat} {v0 v1 v2 : Value} {W W' : World} (h : B3 s v0 v1 v2 W) (hb : Below W.heap.size W W') : B3 s v0 v1 v2 W' :=
  ⟨(hb.cell (p := ⟨s, 0, none⟩) h.lt).trans h.c0, (hb.cell (p := ⟨s, 1, none⟩) h.lt).trans h.c1, (hb.cell (p := ⟨s, 2, none⟩) h.lt).trans h.c2, Nat.lt_of_lt_of_le h.lt hb.size⟩
theorem B3.start (w : World) (v0 v1 v2 : Value) (t : TypeId) : B3 w.heap.size v0 v1 v2 (w.alloc (.cells #[v0, v1, v2] t)) :=
  ⟨by simp [go_sem], by simp [go_sem], by simp [go_sem], by simp⟩
theorem B3.alloc {s : Nat} {v0 v1 v2 : Value} {W : World} (h : B3 s v0 v1 v2 W) (o : Obj) : B3 s v0 v1 v2 (W.alloc o) := h.step ((Below.refl _ _).alloc (Nat.le_refl _) _)

theorem two_of {w5 W : World} {s X : Nat} {v0 v1 v2 x0 x1 x2 : Value} (h : B3 s v0 v1 v2 w5) (k : B3 X x0 x1 x2 w5) (hb : Below w5.heap.size w5 W) :
    W.cell? ⟨s, 0, none⟩ = some v0 ∧ W.cell? ⟨s, 1, none⟩ = some v1 ∧ W.cell? ⟨s, 2, none⟩ = some v2 ∧ W.cell? ⟨X, 0, none⟩ = some x0 ∧ W.cell? ⟨X, 1, none⟩ = some x1 ∧ W.cell? ⟨X, 2, none⟩ = some x2 ∧ Below w5.heap.size w5 W :=
  ⟨(h.step hb).c0, (h.step hb).c1, (h.step hb).c2, (k.step hb).c0, (k.step hb).c1, (k.step hb).c2, hb⟩

theorem two_bel {w5 W : World} {s X : Nat} {v0 v1 v2 x0 x1 x2 : Value} (h : W.cell? ⟨s, 0, none⟩ = some v0 ∧ W.cell? ⟨s, 1, none⟩ = some v1 ∧ W.cell? ⟨s, 2, none⟩ = some v2 ∧ W.cell? ⟨X, 0, none⟩ = some x0 ∧ W.cell? ⟨X, 1, none⟩ = some x1 ∧ W.cell? ⟨X, 2, none⟩ = some x2 ∧ Below w5.heap.size w5 W) : Below w5.heap.size w5 W := h.2.2.2.2.2.2

set_option maxHeartbeats 2000000 in
set_option maxRecDepth 1000000 in
theorem tableOK_walk (w : World) (v0 v1 v2 : Value) (vs : List Int) (rows : List (List Int)) (ws : List Int) (h : IT w v0 v1 v2 vs rows ws) (hv : vs.length ≤ 9223372036854775807) (hr : Fits rows) (hw : ws.length ≤ 9223372036854775807) :
    Calls Try.prog 8 #[.agg #[v0, v1, v2]] w fun e w' => e = .returned (.bool true) ∧ Below w.heap.size w w' := by
  have HB0 : Hid (Below w.heap.size w (w.alloc (.cells #[v0, v1, v2] 59))) := hid ((Below.refl _ _).alloc (Nat.le_refl _) _)
  have HA0 := hid (B3.start w v0 v1 v2 59)
  have K0 := hid (szTable_calls (w.alloc (.cells #[v0, v1, v2] 59)) v0 v1 v2 vs rows ws 1048576 (h.below HB0.out) hv hr hw (by omega) (by omega))
  have HI := hid h
  clear h hr
  by_cases hbig : (1048576 : Int) < vs.length + tot rows rows.length + ws.length
  · have e1 : szT vs rows ws 1048576 = -1 := if_pos hbig
    rw [e1] at K0
    go_enter Try.func8, Try.ntmps8
    go_wp2_with fail
    refine K0.out.mono ?_
    rintro e w1 ⟨rfl, hb1⟩
    go_wp2
    go_ret
    exact ⟨rfl, bt HB0.out hb1⟩
  have e1 : szT vs rows ws 1048576 = 1048576 - (vs.length + tot rows rows.length + ws.length) := if_neg hbig
  have e2 : ¬ ((1048576 : Int) - (vs.length + tot rows rows.length + ws.length) < 0) := by omega
  rw [e1] at K0
  have hv' : vs.length ≤ 1099511627776 := by omega
  have hw' : ws.length ≤ 1099511627776 := by omega
  have HR : Hid (Short rows) := hid (short_of_tot (by omega))
  generalize (1048576 : Int) - (vs.length + tot rows rows.length + ws.length) = lft at *
  clear e1 hbig hv hw
  obtain ⟨res, hres⟩ : ∃ r, r = tableB vs rows ws := ⟨_, rfl⟩
  have HE := hid hres
  clear hres
  go_enter Try.func8, Try.ntmps8
  go_wp2_with fail
  refine K0.out.mono ?_
  rintro e w1 ⟨rfl, hb1⟩
  have HA1 := hid (HA0.out.step hb1)
  have HB1 := hid (bt HB0.out hb1)
  have x0 := HA1.out.c0
  have x1 := HA1.out.c1
  have x2 := HA1.out.c2
  clear hb1
  go_wp2_with fail
  refine (toTable_calls w1 v0 v1 v2 vs rows ws (HI.out.below HB1.out) hv' HR.out hw').mono ?_
  rintro e w2 ⟨g0, g1, g2, f, rfl, ho, hb⟩
  have HO := hid ho
  have HA2 := hid (HA1.out.step hb)
  have HB2 := hid (bt HB1.out hb)
  clear x0 x1 x2 hb ho
  go_wp2_with fail
  refine (sTableOK_calls w2 _ _ _ vs rows ws HO.out.it hv' HR.out).mono ?_
  rintro e w3 ⟨rfl, hb⟩
  rw [← HE.out]
  have HA3 := hid (HA2.out.step hb)
  have HB3 := hid (bt HB2.out hb)
  have x0 := HA3.out.c0
  have x1 := HA3.out.c1
  have x2 := HA3.out.c2
  clear hb
  go_wp2_with fail
  refine (toTable_calls w3 v0 v1 v2 vs rows ws (HI.out.below HB3.out) hv' HR.out hw').mono ?_
  rintro e w4 ⟨h0, h1, h2, f', rfl, ho, hb⟩
  have HX0 := hid (B3.start w4 (.slice (some ⟨h0, 0, none⟩) vs.length vs.length) (.slice (some ⟨h1, 0, none⟩) rows.length rows.length) (.slice (some ⟨h2, 0, none⟩) ws.length ws.length) 62)
  have HA4 := hid ((HA3.out.step hb).alloc (.cells #[.slice (some ⟨h0, 0, none⟩) vs.length vs.length, .slice (some ⟨h1, 0, none⟩) rows.length rows.length, .slice (some ⟨h2, 0, none⟩) ws.length ws.length] 62))
  have HB4 : Hid (Below w.heap.size w (w4.alloc (.cells #[.slice (some ⟨h0, 0, none⟩) vs.length vs.length, .slice (some ⟨h1, 0, none⟩) rows.length rows.length, .slice (some ⟨h2, 0, none⟩) ws.length ws.length] 62))) := hid ((bt HB3.out hb).alloc (bt HB3.out hb).size _)
  have HO4 := hid (ho.it.below ((Below.refl _ _).alloc (Nat.le_refl _) (.cells #[.slice (some ⟨h0, 0, none⟩) vs.length vs.length, .slice (some ⟨h1, 0, none⟩) rows.length rows.length, .slice (some ⟨h2, 0, none⟩) ws.length ws.length] 62)))
  clear x0 x1 x2 hb ho HO
  go_wp2_with fail
  refine (tableOK_calls _ _ _ _ vs rows ws HO4.out hv' HR.out).mono ?_
  rintro e w5 ⟨rfl, hb⟩
  rw [← HE.out]
  have HA5 := hid (HA4.out.step hb)
  have HX5 := hid (HX0.out.step hb)
  have HB5 := hid (bt HB4.out hb)
  have HO5 := hid (HO4.out.below hb)
  have hne : (res != res) = false := by simp
  clear hb HO4 HX0 HA4 HA3 HA2 HA1 HA0
  have HSW : Hid (∀ W, (W.cell? ⟨w.heap.size, 0, none⟩ = some v0 ∧ W.cell? ⟨w.heap.size, 1, none⟩ = some v1 ∧ W.cell? ⟨w.heap.size, 2, none⟩ = some v2 ∧ W.cell? ⟨w4.heap.size, 0, none⟩ = some (.slice (some ⟨h0, 0, none⟩) vs.length vs.length) ∧ W.cell? ⟨w4.heap.size, 1, none⟩ = some (.slice (some ⟨h1, 0, none⟩) rows.length rows.length) ∧ W.cell? ⟨w4.heap.size, 2, none⟩ = some (.slice (some ⟨h2, 0, none⟩) ws.length ws.length) ∧ Below w5.heap.size w5 W) → Below w5.heap.size w5 W) := hid (fun W hW => hW.2.2.2.2.2.2)
  have HIW : Hid (∀ W, (W.cell? ⟨w.heap.size, 0, none⟩ = some v0 ∧ W.cell? ⟨w.heap.size, 1, none⟩ = some v1 ∧ W.cell? ⟨w.heap.size, 2, none⟩ = some v2 ∧ W.cell? ⟨w4.heap.size, 0, none⟩ = some (.slice (some ⟨h0, 0, none⟩) vs.length vs.length) ∧ W.cell? ⟨w4.heap.size, 1, none⟩ = some (.slice (some ⟨h1, 0, none⟩) rows.length rows.length) ∧ W.cell? ⟨w4.heap.size, 2, none⟩ = some (.slice (some ⟨h2, 0, none⟩) ws.length ws.length) ∧ Below w5.heap.size w5 W) → IT W v0 v1 v2 vs rows ws) := hid (fun W hW => HI.out.below (bt HB5.out (HSW.out W hW)))
  have HXW : Hid (∀ W, (W.cell? ⟨w.heap.size, 0, none⟩ = some v0 ∧ W.cell? ⟨w.heap.size, 1, none⟩ = some v1 ∧ W.cell? ⟨w.heap.size, 2, none⟩ = some v2 ∧ W.cell? ⟨w4.heap.size, 0, none⟩ = some (.slice (some ⟨h0, 0, none⟩) vs.length vs.length) ∧ W.cell? ⟨w4.heap.size, 1, none⟩ = some (.slice (some ⟨h1, 0, none⟩) rows.length rows.length) ∧ W.cell? ⟨w4.heap.size, 2, none⟩ = some (.slice (some ⟨h2, 0, none⟩) ws.length ws.length) ∧ Below w5.heap.size w5 W) → IT W (.slice (some ⟨h0, 0, none⟩) vs.length vs.length) (.slice (some ⟨h1, 0, none⟩) rows.length rows.length) (.slice (some ⟨h2, 0, none⟩) ws.length ws.length) vs rows ws) := hid (fun W hW => HO5.out.below (HSW.out W hW))
  generalize w4.heap.size = X at *
  go_wp2_with fail
  go_region_held3 (fun W => W.cell? ⟨w.heap.size, 0, none⟩ = some v0 ∧ W.cell? ⟨w.heap.size, 1, none⟩ = some v1 ∧ W.cell? ⟨w.heap.size, 2, none⟩ = some v2 ∧ W.cell? ⟨X, 0, none⟩ = some (.slice (some ⟨h0, 0, none⟩) vs.length vs.length) ∧ W.cell? ⟨X, 1, none⟩ = some (.slice (some ⟨h1, 0, none⟩) rows.length rows.length) ∧ W.cell? ⟨X, 2, none⟩ = some (.slice (some ⟨h2, 0, none⟩) ws.length ws.length) ∧ Below w5.heap.size w5 W)
    (first | exact two_of HA5.out HX5.out (Below.refl _ _).drew | exact two_of HA5.out HX5.out (bt (Below.refl _ _).drew hb) | (refine two_of HA5.out HX5.out (bt (HSW.out _ ?_) hb); assumption))
    (first | (go_at_call 39; refine (toTable_calls _ v0 v1 v2 vs rows ws (HIW.out _ ?_) hv' HR.out hw').mono ?_; assumption; rintro e w' ⟨k0, k1, k2, f2, rfl, ho, hb⟩) | (go_at_call 41; refine (eqTable_same _ _ _ _ _ _ _ vs rows ws (HXW.out _ ?_) ho.it hv' HR.out hw').mono ?_; assumption; rintro e w' ⟨rfl, hb⟩))
  go_wp2
  go_ret
  refine ⟨rfl, bt HB5.out (HSW.out _ ?_)⟩
  assumption

end Go.Proofs.Ytliggcbiiaegeab
