import Derived.Test.YtpdloenmplafiaaV32
/-
  laws.FnExactProject, walked: the law itself.
-/
namespace Go.Proofs.Ytpdloenmplafiaa
open Go.RowKit

/-- the law's copies and the answer -/
structure P9 (W4 : World) (p7 h0 h1 h2 : Nat) (f : Nat → Nat) (vs : List Int) (rows : List (List Int)) (ws : List Int) (G8 : Nat) (vars : List Int) (B p9 : Nat) (v0 v1 v2 : Value) (us : List Value) (A : List Int) (R : List (List Int)) (O : List Int) (W : World) : Prop where
  q : Below W4.heap.size W4 W
  x0 : OwnT W W4.heap.size h0 h1 h2 vs rows ws f
  b0 : TX W p7 (.slice (some ⟨h0, 0, none⟩) vs.length vs.length) (.slice (some ⟨h1, 0, none⟩) rows.length rows.length) (.slice (some ⟨h2, 0, none⟩) ws.length ws.length)
  x1 : OwnI W G8 vars
  tq : TQ W B v0 v1 v2 us A R O
  bx : TX W p9 v0 v1 v2
/-- the answer alone -/
structure P10 (W4 : World) (B p9 : Nat) (v0 v1 v2 : Value) (us : List Value) (A : List Int) (R : List (List Int)) (O : List Int) (W : World) : Prop where
  q : Below W4.heap.size W4 W
  tq : TQ W B v0 v1 v2 us A R O
  bx : TX W p9 v0 v1 v2
section
variable {W4 W W' W'' : World} {p7 h0 h1 h2 G8 B p9 : Nat} {f : Nat → Nat} {vs ws vars A O : List Int} {rows R : List (List Int)} {v0 v1 v2 : Value} {us : List Value}
theorem P9.below (h : P9 W4 p7 h0 h1 h2 f vs rows ws G8 vars B p9 v0 v1 v2 us A R O W) (hb : Below W.heap.size W W') : P9 W4 p7 h0 h1 h2 f vs rows ws G8 vars B p9 v0 v1 v2 us A R O W' :=
  ⟨bt h.q hb, h.x0.below hb, h.b0.below hb, h.x1.below hb, h.tq.below hb, h.bx.below hb⟩
theorem P10.below (h : P10 W4 B p9 v0 v1 v2 us A R O W) (hb : Below W.heap.size W W') : P10 W4 B p9 v0 v1 v2 us A R O W' :=
  ⟨bt h.q hb, h.tq.below hb, h.bx.below hb⟩
theorem P9.marked (h : P9 W4 p7 h0 h1 h2 f vs rows ws G8 vars B p9 v0 v1 v2 us A R O W) (h27 : h2 < B) (hB9 : B ≤ p9) (hG8 : W4.heap.size ≤ G8 ∧ G8 < B)
    (hb : Below W4.heap.size W W') (hm : ∀ q, h2 < q → q < W.heap.size → W'.heap[q]? = W.heap[q]?) (hog : Og G8 W' W'') : P10 W4 B p9 v0 v1 v2 us A R O W'' := by
  have keep : ∀ q, B ≤ q → q < W.heap.size → W''.heap[q]? = W.heap[q]? := fun q hq hl => (hog.block q (by omega)).trans (hm q (by omega) hl)
  exact ⟨(h.q.trans hb).trans (hog.below hG8.1), h.tq.stay keep, ⟨(keep p9 hB9 h.bx.lt).trans h.bx.blk⟩⟩
theorem TX.three (h : TX W p9 v0 v1 v2) : W.cell? ⟨p9, 0, none⟩ = some v0 ∧ W.cell? ⟨p9, 1, none⟩ = some v1 ∧ W.cell? ⟨p9, 2, none⟩ = some v2 := ⟨h.c0, h.c1, h.c2⟩
theorem TX.b3 (h : TX W p9 v0 v1 v2) : B3 p9 v0 v1 v2 W := ⟨h.c0, h.c1, h.c2, h.lt⟩
end

set_option maxHeartbeats 4000000 in
set_option maxRecDepth 1000000 in
theorem project_walk (w : World) (v0 v1 v2 vv : Value) (vs : List Int) (rows : List (List Int)) (ws vars : List Int) (h : IT w v0 v1 v2 vs rows ws) (hv : vs.length ≤ 9223372036854775807) (hr : Fits rows) (hw : ws.length ≤ 9223372036854775807) (hi : IS w vv vars) (_hlv : vars.length ≤ 9223372036854775807) :
    Calls Try.prog 5 #[.agg #[v0, v1, v2], vv] w fun e w' => e = .returned (.bool true) ∧ Below w.heap.size w w' := by
  obtain ⟨W0, hW0⟩ : ∃ W0, W0 = w.alloc (.cells #[v0, v1, v2] 51) := ⟨_, rfl⟩
  have HB0 : Hid (Below w.heap.size w W0) := hid (by rw [hW0]; exact (Below.refl _ _).alloc (Nat.le_refl _) _)
  have HA0 : Hid (B3 w.heap.size v0 v1 v2 W0) := hid (by rw [hW0]; exact B3.start w v0 v1 v2 _)
  have K0 := hid (szTable_calls W0 v0 v1 v2 vs rows ws 1048576 (h.below HB0.out) hv hr hw (by omega) (by omega))
  have HI := hid h
  have HV := hid hi
  obtain ⟨aV, cV, rfl, -⟩ := hi
  clear h hr
  by_cases hbl : 1048576 < vars.length
  · have i0 : (1048576 : Int) < (vars.length : Int) := by omega
    clear K0 HA0
    go_enter Try.func5, Try.ntmps5
    go_wp2
    rw [← hW0]
    go_ret
    exact ⟨rfl, HB0.out⟩
  have i0 : ¬ ((1048576 : Int) < (vars.length : Int)) := by omega
  have z0 := HA0.out.c0
  have z1 := HA0.out.c1
  have z2 := HA0.out.c2
  by_cases hbig : (1048576 : Int) < vs.length + tot rows rows.length + ws.length
  · have e1 : szT vs rows ws 1048576 = -1 := if_pos hbig
    rw [e1] at K0
    go_enter Try.func5, Try.ntmps5
    go_upto_region 1 with fail
    rw [← hW0]
    clear hW0
    go_wp2_with fail
    refine K0.out.mono ?_
    rintro e w1 ⟨rfl, hb1⟩
    go_wp2
    go_ret
    exact ⟨rfl, bt HB0.out hb1⟩
  have e1 : szT vs rows ws 1048576 = 1048576 - (vs.length + tot rows rows.length + ws.length) := if_neg hbig
  have e2 : ¬ ((1048576 : Int) - (vs.length + tot rows rows.length + ws.length) < 0) := by omega
  rw [e1] at K0
  have hv' : vs.length ≤ 1099511627776 := by omega
  have hw' : ws.length ≤ 1099511627776 := by omega
  have hv2 : vs.length ≤ 1048576 := by omega
  have hw2 : ws.length ≤ 1048576 := by omega
  have htot : tot rows rows.length ≤ 1048576 := by omega
  have hlv : vars.length ≤ 1099511627776 := by omega
  have hlv2 : vars.length ≤ 1048576 := by omega
  have HR : Hid (Short rows) := hid (short_of_tot (by omega))
  obtain ⟨A, R, O, hAl⟩ := alikeP vs rows ws vars hlv hv' HR.out
  have HAL := hid hAl
  have HEQ : Hid (∀ W u0 u1 u2 t0 t1 t2, IT W u0 u1 u2 A R O → IT W t0 t1 t2 A R O → Calls Try.prog 29 #[.agg #[u0, u1, u2], .agg #[t0, t1, t2]] W fun e w' => e = .returned (.bool true) ∧ Below W.heap.size W w') := hid fun W u0 u1 u2 t0 t1 t2 h1 h2 => eqTable_same W u0 u1 u2 t0 t1 t2 A R O h1 h2 (by have := hAl.b3; omega) hAl.b0 (by have := hAl.b4; omega)
  generalize (1048576 : Int) - (vs.length + tot rows rows.length + ws.length) = lft at *
  clear e1 hbig hv hw hAl
  go_enter Try.func5, Try.ntmps5
  go_upto_region 1 with fail
  rw [← hW0]
  clear hW0
  go_wp2_with fail
  refine K0.out.mono ?_
  rintro e w1 ⟨rfl, hb1⟩
  have HA1 := hid (HA0.out.step hb1)
  have HB1 := hid (bt HB0.out hb1)
  clear hb1 z0 z1 z2 K0 HA0
  have z0 := HA1.out.c0
  have z1 := HA1.out.c1
  have z2 := HA1.out.c2
  -- the model's answer
  go_wp2_with fail
  refine (toTable_calls w1 v0 v1 v2 vs rows ws (HI.out.below HB1.out) hv' HR.out hw').mono ?_
  rintro e w2 ⟨g0, g1, g2, f0, rfl, ho, hb⟩
  have HO := hid ho
  have HA2 := hid (HA1.out.step hb)
  have HB2 := hid (bt HB1.out hb)
  clear z0 z1 z2 hb ho HA1
  go_wp2_with fail
  refine (toIntS_calls w2 _ vars (HV.out.below HB2.out) hlv).mono ?_
  rintro e w2b ⟨rfl, hO2, hb⟩
  have HO2 := hid hO2
  have HOb := hid (HO.out.below hb)
  have HA2b := hid (HA2.out.step hb)
  have HB2b := hid (bt HB2.out hb)
  clear hO2 hb HO HA2
  go_wp2_with fail
  refine (HAL.out.spec w2b _ _ _ _ _ HOb.out.it HO2.out.is).mono ?_
  rintro e w3 ⟨u0, u1, u2, rfl, hU, hb3⟩
  have HU := hid hU
  have HB3 := hid (bt HB2b.out hb3)
  have HA3 := hid (HA2b.out.step hb3)
  obtain ⟨a1, q1, e1, -⟩ := hU.vs
  obtain ⟨a2, q2, e3, -⟩ := hU.rows
  obtain ⟨a3, q3, e4, -⟩ := hU.ws
  subst e1 e3 e4
  clear hb3 HO2 HOb HB2b hU HA2b
  go_upto_region 8 with fail
  have HAl : Hid (Below w3.heap.size w3 (w3.alloc (.cells #[.slice a1 A.length q1, .slice a2 R.length q2, .slice a3 O.length q3] 53))) := hid ((Below.refl _ _).alloc (Nat.le_refl _) _)
  have HG6 := hid (TX.made w3 (.slice a1 A.length q1) (.slice a2 R.length q2) (.slice a3 O.length q3))
  have HU4 := hid (HU.out.below HAl.out)
  have HB4 := hid (bt HB3.out HAl.out)
  have HA4 := hid (HA3.out.step HAl.out)
  clear HU HB3 HAl HA3
  generalize w3.alloc (.cells #[.slice a1 A.length q1, .slice a2 R.length q2, .slice a3 O.length q3] 53) = W4 at *
  generalize w3.heap.size = g6 at *
  have HU0 : Hid (∀ W, Below W4.heap.size W4 W → IT W (.slice a1 A.length q1) (.slice a2 R.length q2) (.slice a3 O.length q3) A R O ∧ TX W g6 (.slice a1 A.length q1) (.slice a2 R.length q2) (.slice a3 O.length q3) ∧ B3 w.heap.size v0 v1 v2 W ∧ IT W v0 v1 v2 vs rows ws ∧ IS W (.slice aV vars.length cV) vars ∧ Below w.heap.size w W) := hid fun W hW => ⟨HU4.out.below hW, HG6.out.below hW, HA4.out.step hW, HI.out.below (bt HB4.out hW), HV.out.below (bt HB4.out hW), bt HB4.out hW⟩
  clear HU4 HG6 HA4 HB4 HI HV
  have z0 := (HU0.out W4 (Below.refl _ _)).2.2.1.c0
  have z1 := (HU0.out W4 (Below.refl _ _)).2.2.1.c1
  have z2 := (HU0.out W4 (Below.refl _ _)).2.2.1.c2
  -- the program's
  go_wp2_with fail
  refine (toTable_calls W4 v0 v1 v2 vs rows ws (HU0.out W4 (Below.refl _ _)).2.2.2.1 hv' HR.out hw').mono ?_
  rintro e w5 ⟨h0, h1, h2, f, rfl, ho, hb⟩
  have HO5 := hid ho
  have HQ5 := hid hb
  clear z0 z1 z2 hb ho
  go_upto_region 9 with fail
  have HAl : Hid (Below w5.heap.size w5 (w5.alloc (.cells #[.slice (some ⟨h0, 0, none⟩) vs.length vs.length, .slice (some ⟨h1, 0, none⟩) rows.length rows.length, .slice (some ⟨h2, 0, none⟩) ws.length ws.length] 53))) := hid ((Below.refl _ _).alloc (Nat.le_refl _) _)
  have HT7 := hid (TX.made w5 (.slice (some ⟨h0, 0, none⟩) vs.length vs.length) (.slice (some ⟨h1, 0, none⟩) rows.length rows.length) (.slice (some ⟨h2, 0, none⟩) ws.length ws.length))
  have HO6 := hid (HO5.out.below HAl.out)
  have HQ6 := hid (bt HQ5.out HAl.out)
  have hl5 : h2 < w5.heap.size := HO5.out.wt.lt
  have hs45 := HQ5.out.size
  clear HO5 HQ5 HAl
  have hs56 := HT7.out.lt
  generalize w5.alloc (.cells #[.slice (some ⟨h0, 0, none⟩) vs.length vs.length, .slice (some ⟨h1, 0, none⟩) rows.length rows.length, .slice (some ⟨h2, 0, none⟩) ws.length ws.length] 53) = W6 at *
  generalize w5.heap.size = p7 at *
  go_wp2_with fail
  refine (toIntS_calls W6 _ vars (HU0.out W6 HQ6.out).2.2.2.2.1 hlv).mono ?_
  rintro e w6 ⟨rfl, hO6, hb6⟩
  have HX6 := hid hO6
  have HO7 := hid (HO6.out.below hb6)
  have HT8 := hid (HT7.out.below hb6)
  have HQ7 := hid (bt HQ6.out hb6)
  have hs67 : W6.heap.size < w6.heap.size := hO6.lt
  clear hO6 hb6 HO6 HT7 HQ6
  obtain ⟨d0, d1, d2⟩ := HT8.out.three
  go_wp2_with fail
  refine (HAL.out.impl w6 _ _ _ _ HO7.out.it HX6.out.is).mono ?_
  rintro e w7 ⟨y0, y1, y2, us, rfl, hTq, hb7⟩
  obtain ⟨b1, p1, e1⟩ := own_shape hTq.o0
  obtain ⟨b2, p2, e3⟩ := hTq.rq.sl
  obtain ⟨b3, p3, e4⟩ := own_shape hTq.o2
  subst e1 e3 e4
  have HP7 := hid hTq
  have HO8 := hid (HO7.out.below hb7)
  have HT9 := hid (HT8.out.below hb7)
  have HX7 := hid (HX6.out.below hb7)
  have HQ8 := hid (bt HQ7.out hb7)
  have hs78 := hb7.size
  clear hTq hb7 HO7 HT8 HX6 HQ7 d0 d1 d2
  go_upto_region 11 with fail
  have HAl : Hid (Below w7.heap.size w7 (w7.alloc (.cells #[.slice b1 A.length p1, .slice b2 R.length p2, .slice b3 O.length p3] 53))) := hid ((Below.refl _ _).alloc (Nat.le_refl _) _)
  have HE8 : Hid (P9 W4 p7 h0 h1 h2 f vs rows ws W6.heap.size vars w6.heap.size w7.heap.size (.slice b1 A.length p1) (.slice b2 R.length p2) (.slice b3 O.length p3) us A R O (w7.alloc (.cells #[.slice b1 A.length p1, .slice b2 R.length p2, .slice b3 O.length p3] 53))) :=
    hid ⟨bt HQ8.out HAl.out, HO8.out.below HAl.out, HT9.out.below HAl.out, HX7.out.below HAl.out, HP7.out.below HAl.out, TX.made _ _ _ _⟩
  clear HAl HO8 HT9 HX7 HP7 HQ8
  generalize w7.alloc (.cells #[.slice b1 A.length p1, .slice b2 R.length p2, .slice b3 O.length p3] 53) = W8 at *
  generalize w7.heap.size = p9 at *
  obtain ⟨c0, c1, c2⟩ := (HU0.out W8 HE8.out.q).2.1.three
  obtain ⟨d0, d1, d2⟩ := HE8.out.bx.three
  go_wp2_with fail
  refine (HEQ.out W8 _ _ _ _ _ _ HE8.out.tq.it (HU0.out W8 HE8.out.q).1).mono ?_
  rintro e w9 ⟨rfl, hb9⟩
  have HE9 := hid (HE8.out.below hb9)
  clear hb9 HE8 c0 c1 c2 d0 d1 d2
  -- the arguments are as they were
  have HSW : Hid (∀ W, (W.cell? ⟨w.heap.size, 0, none⟩ = some v0 ∧ W.cell? ⟨w.heap.size, 1, none⟩ = some v1 ∧ W.cell? ⟨w.heap.size, 2, none⟩ = some v2 ∧ W.cell? ⟨p7, 0, none⟩ = some (.slice (some ⟨h0, 0, none⟩) vs.length vs.length) ∧ W.cell? ⟨p7, 1, none⟩ = some (.slice (some ⟨h1, 0, none⟩) rows.length rows.length) ∧ W.cell? ⟨p7, 2, none⟩ = some (.slice (some ⟨h2, 0, none⟩) ws.length ws.length) ∧ Below w9.heap.size w9 W) → Below w9.heap.size w9 W) := hid (fun W hW => hW.2.2.2.2.2.2)
  have HIW : Hid (∀ W, (W.cell? ⟨w.heap.size, 0, none⟩ = some v0 ∧ W.cell? ⟨w.heap.size, 1, none⟩ = some v1 ∧ W.cell? ⟨w.heap.size, 2, none⟩ = some v2 ∧ W.cell? ⟨p7, 0, none⟩ = some (.slice (some ⟨h0, 0, none⟩) vs.length vs.length) ∧ W.cell? ⟨p7, 1, none⟩ = some (.slice (some ⟨h1, 0, none⟩) rows.length rows.length) ∧ W.cell? ⟨p7, 2, none⟩ = some (.slice (some ⟨h2, 0, none⟩) ws.length ws.length) ∧ Below w9.heap.size w9 W) → IT W v0 v1 v2 vs rows ws) := hid (fun W hW => (HU0.out W (bt HE9.out.q (HSW.out W hW))).2.2.2.1)
  have HXW : Hid (∀ W, (W.cell? ⟨w.heap.size, 0, none⟩ = some v0 ∧ W.cell? ⟨w.heap.size, 1, none⟩ = some v1 ∧ W.cell? ⟨w.heap.size, 2, none⟩ = some v2 ∧ W.cell? ⟨p7, 0, none⟩ = some (.slice (some ⟨h0, 0, none⟩) vs.length vs.length) ∧ W.cell? ⟨p7, 1, none⟩ = some (.slice (some ⟨h1, 0, none⟩) rows.length rows.length) ∧ W.cell? ⟨p7, 2, none⟩ = some (.slice (some ⟨h2, 0, none⟩) ws.length ws.length) ∧ Below w9.heap.size w9 W) → IT W (.slice (some ⟨h0, 0, none⟩) vs.length vs.length) (.slice (some ⟨h1, 0, none⟩) rows.length rows.length) (.slice (some ⟨h2, 0, none⟩) ws.length ws.length) vs rows ws) := hid (fun W hW => (HE9.out.below (HSW.out W hW)).x0.it)
  have HA5 := hid (HU0.out w9 HE9.out.q).2.2.1
  have HX5 := hid HE9.out.b0.b3
  go_upto_region 13 with fail
  go_cut [42] from 14 to 81 (fun v wc => v = .bool false ∧ Hid (Below w9.heap.size w9 wc))
  case first =>
    go_region_held3 (fun W => W.cell? ⟨w.heap.size, 0, none⟩ = some v0 ∧ W.cell? ⟨w.heap.size, 1, none⟩ = some v1 ∧ W.cell? ⟨w.heap.size, 2, none⟩ = some v2 ∧ W.cell? ⟨p7, 0, none⟩ = some (.slice (some ⟨h0, 0, none⟩) vs.length vs.length) ∧ W.cell? ⟨p7, 1, none⟩ = some (.slice (some ⟨h1, 0, none⟩) rows.length rows.length) ∧ W.cell? ⟨p7, 2, none⟩ = some (.slice (some ⟨h2, 0, none⟩) ws.length ws.length) ∧ Below w9.heap.size w9 W)
      (first | exact two_of HA5.out HX5.out (Below.refl _ _).drew | exact two_of HA5.out HX5.out (bt (Below.refl _ _).drew hb) | (refine two_of HA5.out HX5.out (bt (HSW.out _ ?_) hb); assumption))
      (first | (go_at_call 27; refine (toTable_calls _ v0 v1 v2 vs rows ws (HIW.out _ ?_) hv' HR.out hw').mono ?_; assumption; rintro e w' ⟨k0, k1, k2, f2, rfl, ho, hb⟩) | (go_at_call 29; refine (eqTable_same _ _ _ _ _ _ _ vs rows ws (HXW.out _ ?_) ho.it hv' HR.out hw').mono ?_; assumption; rintro e w' ⟨rfl, hb⟩))
    all_goals (go_wp2_with fail; go_meet)
    all_goals exact ⟨rfl, hid (HSW.out _ (by assumption))⟩
  case rest =>
    obtain ⟨rfl, hcut⟩ := hcut
    have HEB := hid (HE9.out.below hcut.out)
    clear hcut HSW HIW HXW HA5 HX5 HE9
    go_wp2_with fail
    refine (toIntS_calls wc _ vars (HU0.out wc HEB.out.q).2.2.2.2.1 hlv).mono ?_
    rintro e wC ⟨rfl, hOC, hbC⟩
    have HEC := hid (HEB.out.below hbC)
    have HYC := hid hOC
    clear hOC hbC HEB
    go_wp2_with fail
    refine (eqIntS_same wC _ _ vars HEC.out.x1.is HYC.out.is hlv).mono ?_
    rintro e wD ⟨rfl, hbD⟩
    have HED := hid (HEC.out.below hbD)
    clear hbD HEC HYC
    -- the arguments are marked
    obtain ⟨d0, d1, d2⟩ := HED.out.b0.three
    go_wp2_with fail
    refine (markTable_own wD W4.heap.size h0 h1 h2 vs rows ws f HED.out.x0 htot hv2 hw2).mono ?_
    rintro e wE ⟨m, hm0, hm1, rfl, hbE, hkE⟩
    have hsD : w6.heap.size < wD.heap.size := by have := HED.out.bx.lt; omega
    have HX2 : Hid (OwnI wE W6.heap.size vars) := hid (HED.out.x1.move (hkE _ (by omega) (by omega)) hbE.size)
    have HBE := hid hbE
    have HKE := hid hkE
    clear hbE hkE d0 d1 d2
    go_wp2_with fail
    refine (markIntS_calls wE W6.heap.size vars m HX2.out hlv (by omega) (by omega)).mono ?_
    rintro e wF ⟨rfl, -, hog⟩
    have HEF := hid (HED.out.marked (by omega) (by omega) ⟨by omega, by omega⟩ HBE.out HKE.out hog)
    have hk : ¬ (m + (vars.length : Int) < 0) := by omega
    generalize m + (vars.length : Int) = kk at *
    clear hog HED HBE HKE HX2
    obtain ⟨c0, c1, c2⟩ := (HU0.out wF HEF.out.q).2.1.three
    obtain ⟨d0, d1, d2⟩ := HEF.out.bx.three
    go_wp2_with fail
    refine (HEQ.out wF _ _ _ _ _ _ HEF.out.tq.it (HU0.out wF HEF.out.q).1).mono ?_
    rintro e wG ⟨rfl, hbG⟩
    have HEG := hid (HEF.out.below hbG)
    clear hbG HEF c0 c1 c2 d0 d1 d2
    -- the answer owns its memory
    obtain ⟨d0, d1, d2⟩ := HEG.out.bx.three
    have hs6G : w6.heap.size ≤ wG.heap.size := by have := HEG.out.bx.lt; omega
    go_wp2_with fail
    refine (table_marks wG w6.heap.size _ _ _ us A R O HEG.out.tq hs6G HAL.out.b1 HAL.out.b2 HAL.out.b3 HAL.out.b4).mono ?_
    rintro e wH ⟨kq, hq0, rfl, hbH, hfr, hheld⟩
    have KH := hid hheld
    obtain ⟨cur, hcur⟩ := HEG.out.bx.typ
    have HBx : Hid (TX wH p9 (.slice b1 A.length p1) (.slice b2 R.length p2) (.slice b3 O.length p3)) := hid ⟨(hfr p9 cur _ hcur (by decide)).trans HEG.out.bx.blk⟩
    have HQH : Hid (Below W4.heap.size W4 wH) := hid (HEG.out.q.trans (hbH.mono (by omega)))
    have hq : ¬ (kq < 0) := by omega
    have hne : (kq != kq) = false := by simp
    clear hfr hbH hheld HEG d0 d1 d2 hcur
    obtain ⟨d0, d1, d2⟩ := HBx.out.three
    go_wp2_with fail
    refine KH.out.mono ?_
    rintro e wI ⟨rfl, hbI⟩
    have HQI := hid (bt HQH.out hbI)
    clear hbI KH HBx HQH d0 d1 d2
    -- once more
    have z0 := (HU0.out wI HQI.out).2.2.1.c0
    have z1 := (HU0.out wI HQI.out).2.2.1.c1
    have z2 := (HU0.out wI HQI.out).2.2.1.c2
    go_wp2_with fail
    refine (toTable_calls wI v0 v1 v2 vs rows ws (HU0.out wI HQI.out).2.2.2.1 hv' HR.out hw').mono ?_
    rintro e wJ ⟨k0, k1, k2, fK, rfl, hK, hbJ⟩
    have HK := hid hK
    have HQJ := hid (bt HQI.out hbJ)
    clear hK hbJ z0 z1 z2
    go_wp2_with fail
    refine (toIntS_calls wJ _ vars (HU0.out wJ HQJ.out).2.2.2.2.1 hlv).mono ?_
    rintro e wK ⟨rfl, hOJ, hbK⟩
    have HOK := hid hOJ
    have HKK := hid (HK.out.below hbK)
    have HQK := hid (bt HQJ.out hbK)
    clear hOJ hbK HK
    go_wp2_with fail
    refine (HAL.out.impl wK _ _ _ _ HKK.out.it HOK.out.is).mono ?_
    rintro e wL ⟨t0, t1, t2, xs, rfl, hTq, hbL⟩
    obtain ⟨s1, r1, e1⟩ := own_shape hTq.o0
    obtain ⟨s2, r2, e3⟩ := hTq.rq.sl
    obtain ⟨s3, r3, e4⟩ := own_shape hTq.o2
    subst e1 e3 e4
    have HIL := hid hTq.it
    have HQL := hid (bt HQK.out hbL)
    clear hTq hbL HKK HOK HQK
    go_upto_region 31 with fail
    have HAl : Hid (Below wL.heap.size wL (wL.alloc (.cells #[.slice s1 A.length r1, .slice s2 R.length r2, .slice s3 O.length r3] 53))) := hid ((Below.refl _ _).alloc (Nat.le_refl _) _)
    have HGM := hid (TX.made wL (.slice s1 A.length r1) (.slice s2 R.length r2) (.slice s3 O.length r3))
    have HIM := hid (HIL.out.below HAl.out)
    have HQM := hid (bt HQL.out HAl.out)
    clear HIL HQL HAl
    generalize wL.alloc (.cells #[.slice s1 A.length r1, .slice s2 R.length r2, .slice s3 O.length r3] 53) = wM at *
    generalize wL.heap.size = gM at *
    obtain ⟨c0, c1, c2⟩ := (HU0.out wM HQM.out).2.1.three
    obtain ⟨d0, d1, d2⟩ := HGM.out.three
    go_wp2_with fail
    refine (HEQ.out wM _ _ _ _ _ _ HIM.out (HU0.out wM HQM.out).1).mono ?_
    rintro e wN ⟨rfl, hbN⟩
    have HBN := hid (bt (HU0.out wM HQM.out).2.2.2.2.2 hbN)
    clear hbN
    go_wp2
    go_ret
    exact ⟨rfl, HBN.out⟩

end Go.Proofs.Ytpdloenmplafiaa
