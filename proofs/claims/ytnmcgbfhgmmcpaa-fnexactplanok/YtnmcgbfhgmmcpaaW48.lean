import Derived.Test.YtnmcgbfhgmmcpaaW38
import Derived.Test.YtnmcgbfhgmmcpaaW47
/-
  laws.FnExactPlanOK, walked.
-/
namespace Go.Proofs.Ytnmcgbfhgmmcpaa
open Go.RowKit

theorem six_ofP {w5 W : World} {s : Nat} {v0 v1 v2 v3 v4 v5 : Value} (h : B6 s v0 v1 v2 v3 v4 v5 w5) (hb : Below w5.heap.size w5 W) :
    W.cell? ⟨s, 0, none⟩ = some v0 ∧ W.cell? ⟨s, 1, none⟩ = some v1 ∧ W.cell? ⟨s, 2, none⟩ = some v2 ∧ W.cell? ⟨s, 3, none⟩ = some v3 ∧ W.cell? ⟨s, 4, none⟩ = some v4 ∧ W.cell? ⟨s, 5, none⟩ = some v5 ∧ Below w5.heap.size w5 W :=
  ⟨bclp hb h.c0, bclp hb h.c1, bclp hb h.c2, bclp hb h.c3, bclp hb h.c4, bclp hb h.c5, hb⟩
theorem twelve_of {w5 W : World} {s X : Nat} {v0 v1 v2 v3 v4 v5 u0 u1 u2 u3 : Value} (h : B6 s v0 v1 v2 v3 v4 v5 w5) (k : B6 X u0 u1 u2 u3 v4 v5 w5) (hb : Below w5.heap.size w5 W) :
    W.cell? ⟨s, 0, none⟩ = some v0 ∧ W.cell? ⟨s, 1, none⟩ = some v1 ∧ W.cell? ⟨s, 2, none⟩ = some v2 ∧ W.cell? ⟨s, 3, none⟩ = some v3 ∧ W.cell? ⟨s, 4, none⟩ = some v4 ∧ W.cell? ⟨s, 5, none⟩ = some v5 ∧
      W.cell? ⟨X, 0, none⟩ = some u0 ∧ W.cell? ⟨X, 1, none⟩ = some u1 ∧ W.cell? ⟨X, 2, none⟩ = some u2 ∧ W.cell? ⟨X, 3, none⟩ = some u3 ∧ W.cell? ⟨X, 4, none⟩ = some v4 ∧ W.cell? ⟨X, 5, none⟩ = some v5 ∧ Below w5.heap.size w5 W :=
  ⟨bclp hb h.c0, bclp hb h.c1, bclp hb h.c2, bclp hb h.c3, bclp hb h.c4, bclp hb h.c5, bclp hb k.c0, bclp hb k.c1, bclp hb k.c2, bclp hb k.c3, bclp hb k.c4, bclp hb k.c5, hb⟩

set_option maxHeartbeats 16000000 in
set_option maxRecDepth 1000000 in
theorem planOK_walk (w : World) (ve v0 v1 v2 v3 : Value) (k x y : Int) (es bs : List (List Int)) (ps hs : List Int) (ws : List (Int × Int)) (he : ISS w ve es) (hfe : Fits es) (h : IPl w v0 v1 v2 v3 bs ps hs ws) (hf : Fits bs) (hp : ps.length ≤ 9223372036854775807) (hh : hs.length ≤ 9223372036854775807) (hw : ws.length ≤ 9223372036854775807) :
    Calls Try.prog 5 #[.int .i64 k, ve, .agg #[v0, v1, v2, v3, .int .i64 x, .int .i64 y]] w fun e w' => e = .returned (.bool true) ∧ Below w.heap.size w w' := by
  have HI := hid h
  have HE := hid he
  have HF := hid hf
  obtain ⟨ae, ce, rfl, -⟩ := he
  obtain ⟨a0, k0, rfl, -⟩ := h.b
  obtain ⟨a1, k1, rfl, -⟩ := h.p
  obtain ⟨a2, k2, rfl, -⟩ := h.h
  obtain ⟨a3, k3, rfl, -⟩ := h.d
  have A := B6.start w (.slice a0 bs.length k0) (.slice a1 ps.length k1) (.slice a2 hs.length k2) (.slice a3 ws.length k3) (.int .i64 x) (.int .i64 y) 49
  have B : Below w.heap.size w (w.alloc (.cells #[.slice a0 bs.length k0, .slice a1 ps.length k1, .slice a2 hs.length k2, .slice a3 ws.length k3, .int .i64 x, .int .i64 y] 49)) := (Below.refl _ _).alloc (Nat.le_refl _) _
  obtain ⟨W, hW⟩ : ∃ W, W = w.alloc (.cells #[.slice a0 bs.length k0, .slice a1 ps.length k1, .slice a2 hs.length k2, .slice a3 ws.length k3, .int .i64 x, .int .i64 y] 49) := ⟨_, rfl⟩
  rw [← hW] at A B
  have HA0 := hid A
  have HB0 := hid B
  have K0 := hid (szIntSS_calls W _ es 1048576 (HE.out.below B) hfe (by omega) (by omega))
  clear A B h hf hfe
  by_cases hbig : (1048576 : Int) < tot es es.length
  · have e1 : szSS es 1048576 = -1 := if_pos hbig
    rw [e1] at K0
    go_enter Try.func5, Try.ntmps5
    go_upto_region 1 with fail
    rw [← hW]
    clear hW
    go_wp2_with fail
    refine K0.out.mono ?_
    rintro e w1 ⟨rfl, hw1⟩
    subst w1
    go_wp2_with fail
    go_ret
    exact ⟨rfl, HB0.out⟩
  have e1 : szSS es 1048576 = 1048576 - tot es es.length := if_neg hbig
  rw [e1] at K0
  obtain ⟨l1, hl1⟩ : ∃ l : Int, l = 1048576 - tot es es.length := ⟨_, rfl⟩
  rw [← hl1] at K0
  have g1 : ¬ (l1 < 0) := by omega
  have HSE : Hid (Short es) := hid (short_of_tot (by omega))
  have K1 := hid (szPlan_calls W _ _ _ _ x y bs ps hs ws l1 (HI.out.below HB0.out) HF.out hp hh hw (by omega) (by omega))
  have HL1 : Hid (l1 ≤ 1048576) := hid (by omega)
  clear hl1 e1 hbig
  have x0 := HA0.out.c0
  have x1 := HA0.out.c1
  have x2 := HA0.out.c2
  have x3 := HA0.out.c3
  have x4 := HA0.out.c4
  have x5 := HA0.out.c5
  by_cases hbig : l1 < tot bs bs.length + ps.length + hs.length + ws.length
  · have e1 : szP bs ps hs ws l1 = -1 := if_pos hbig
    rw [e1] at K1
    clear hbig e1
    go_enter Try.func5, Try.ntmps5
    go_upto_region 1 with fail
    rw [← hW]
    clear hW
    go_wp2_with fail
    refine K0.out.mono ?_
    rintro e w1 ⟨rfl, hw1⟩
    subst w1
    go_wp2_with fail
    refine K1.out.mono ?_
    rintro e w1 ⟨rfl, hb1⟩
    go_wp2_with fail
    go_ret
    exact ⟨rfl, bt HB0.out hb1⟩
  have e1 : szP bs ps hs ws l1 = l1 - (tot bs bs.length + ps.length + hs.length + ws.length) := if_neg hbig
  rw [e1] at K1
  obtain ⟨l2, hl2⟩ : ∃ l : Int, l = l1 - (tot bs bs.length + ps.length + hs.length + ws.length) := ⟨_, rfl⟩
  rw [← hl2] at K1
  have g2 : ¬ (l2 < 0) := by omega
  have hL1 := HL1.out
  have HSB : Hid (Short bs) := hid (short_of_tot (by omega))
  have hps : ps.length ≤ 1099511627776 := by omega
  have hhs : hs.length ≤ 1099511627776 := by omega
  have hws : ws.length ≤ 1048576 := by omega
  clear hl2 e1 hbig hL1
  obtain ⟨res, hres⟩ : ∃ r, r = planB k es bs ps hs ws (x, y) := ⟨_, rfl⟩
  have KS : Hid (∀ W' ve' u0 u1 u2 u3, ISS W' ve' es → IPl W' u0 u1 u2 u3 bs ps hs ws → Calls Try.prog 24 #[.int .i64 k, ve', .agg #[u0, u1, u2, u3, .int .i64 x, .int .i64 y]] W' fun e w' => e = .returned (.bool res) ∧ Below W'.heap.size W' w') := hid fun W' ve' u0 u1 u2 u3 h1 h2 => by
    rw [hres]
    exact sPlanOK_calls W' u0 u1 u2 u3 ve' k x y es bs ps hs ws h1 HSE.out h2.b HSB.out h2.p h2.h h2.d
  have KI : Hid (∀ W' ve' u0 u1 u2 u3, ISS W' ve' es → IPl W' u0 u1 u2 u3 bs ps hs ws → Calls Try.prog 26 #[.int .i64 k, ve', .agg #[u0, u1, u2, u3, .int .i64 x, .int .i64 y]] W' fun e w' => e = .returned (.bool res) ∧ Below W'.heap.size W' w') := hid fun W' ve' u0 u1 u2 u3 h1 h2 => by
    rw [hres]
    exact planOK_calls W' u0 u1 u2 u3 ve' k x y es bs ps hs ws h1 HSE.out h2.b HSB.out h2.p hps h2.h h2.d
  have KT : Hid (∀ W', IPl W' (.slice a0 bs.length k0) (.slice a1 ps.length k1) (.slice a2 hs.length k2) (.slice a3 ws.length k3) bs ps hs ws → _) := hid fun W' h2 => toPlan_calls W' _ _ _ _ x y bs ps hs ws h2 HSB.out hps hhs hws
  have KE : Hid (∀ W' u0 u1 u2 u3 t0 t1 t2 t3, IPl W' u0 u1 u2 u3 bs ps hs ws → IPl W' t0 t1 t2 t3 bs ps hs ws → _) := hid fun W' u0 u1 u2 u3 t0 t1 t2 t3 h1 h2 => eqPlan_same W' u0 u1 u2 u3 t0 t1 t2 t3 x y bs ps hs ws h1 h2 HSB.out hps hhs (by omega)
  clear hres
  have hrr : (res != res) = false := by simp
  generalize bs.length = nb at *
  generalize ps.length = np at *
  generalize hs.length = nh at *
  generalize ws.length = nw at *
  go_enter Try.func5, Try.ntmps5
  go_upto_region 1 with fail
  rw [← hW]
  clear hW
  go_wp2_with fail
  refine K0.out.mono ?_
  rintro e w1 ⟨rfl, hw1⟩
  subst w1
  go_wp2_with fail
  refine K1.out.mono ?_
  rintro e w1 ⟨rfl, hb1⟩
  have HA1 := hid (HA0.out.step hb1)
  have HB1 := hid (bt HB0.out hb1)
  clear hb1 K0 K1 x0 x1 x2 x3 x4 x5 HA0
  have HSW : Hid (∀ W', (W'.cell? ⟨w.heap.size, 0, none⟩ = some (.slice a0 nb k0) ∧ W'.cell? ⟨w.heap.size, 1, none⟩ = some (.slice a1 np k1) ∧ W'.cell? ⟨w.heap.size, 2, none⟩ = some (.slice a2 nh k2) ∧ W'.cell? ⟨w.heap.size, 3, none⟩ = some (.slice a3 nw k3) ∧ W'.cell? ⟨w.heap.size, 4, none⟩ = some (.int .i64 x) ∧ W'.cell? ⟨w.heap.size, 5, none⟩ = some (.int .i64 y) ∧ Below w1.heap.size w1 W') → Below w1.heap.size w1 W') := hid fun W' h => h.2.2.2.2.2.2
  have KTW : Hid (∀ W', (W'.cell? ⟨w.heap.size, 0, none⟩ = some (.slice a0 nb k0) ∧ W'.cell? ⟨w.heap.size, 1, none⟩ = some (.slice a1 np k1) ∧ W'.cell? ⟨w.heap.size, 2, none⟩ = some (.slice a2 nh k2) ∧ W'.cell? ⟨w.heap.size, 3, none⟩ = some (.slice a3 nw k3) ∧ W'.cell? ⟨w.heap.size, 4, none⟩ = some (.int .i64 x) ∧ W'.cell? ⟨w.heap.size, 5, none⟩ = some (.int .i64 y) ∧ Below w1.heap.size w1 W') → _) := hid fun W' h => KT.out W' (HI.out.below (bt HB1.out (HSW.out W' h)))
  have KAW : Hid (∀ W', (W'.cell? ⟨w.heap.size, 0, none⟩ = some (.slice a0 nb k0) ∧ W'.cell? ⟨w.heap.size, 1, none⟩ = some (.slice a1 np k1) ∧ W'.cell? ⟨w.heap.size, 2, none⟩ = some (.slice a2 nh k2) ∧ W'.cell? ⟨w.heap.size, 3, none⟩ = some (.slice a3 nw k3) ∧ W'.cell? ⟨w.heap.size, 4, none⟩ = some (.int .i64 x) ∧ W'.cell? ⟨w.heap.size, 5, none⟩ = some (.int .i64 y) ∧ Below w1.heap.size w1 W') → Calls Try.prog 15 #[.slice ae es.length ce] W' fun e w' => ∃ u, e = .returned u ∧ ISS w' u es ∧ Below W'.heap.size W' w') := hid fun W' h => (toIntSS_calls W' _ es (HE.out.below (bt HB1.out (HSW.out W' h))) HSE.out).mono (by
    rintro e w' ⟨rfl, ⟨f, hf⟩, -, hb⟩
    exact ⟨_, rfl, hf.iss rfl, hb⟩)
  go_wp2_with fail
  go_region_held3 (fun W' => W'.cell? ⟨w.heap.size, 0, none⟩ = some (.slice a0 nb k0) ∧ W'.cell? ⟨w.heap.size, 1, none⟩ = some (.slice a1 np k1) ∧ W'.cell? ⟨w.heap.size, 2, none⟩ = some (.slice a2 nh k2) ∧ W'.cell? ⟨w.heap.size, 3, none⟩ = some (.slice a3 nw k3) ∧ W'.cell? ⟨w.heap.size, 4, none⟩ = some (.int .i64 x) ∧ W'.cell? ⟨w.heap.size, 5, none⟩ = some (.int .i64 y) ∧ Below w1.heap.size w1 W')
    (first | exact six_ofP HA1.out (Below.refl _ _).drew | exact six_ofP HA1.out (bt (Below.refl _ _).drew hbA) | exact six_ofP HA1.out (bt (Below.refl _ _).drew hbP) | (refine six_ofP HA1.out (bt (HSW.out _ ?_) hbA); assumption) | (refine six_ofP HA1.out (bt (HSW.out _ ?_) hbP); assumption) | (refine six_ofP HA1.out (bt (HSW.out _ ?_) hbK); assumption))
    (first
      | (go_at_call 15; refine (KAW.out _ ?_).mono ?_; assumption; rintro e w' ⟨uA, rfl, hA, hbA⟩)
      | (go_at_call 25; refine (KTW.out _ ?_).mono ?_; assumption; rintro e w' ⟨g0, g1, g2, g3, rfl, hP, hbP⟩)
      | (go_at_call 24; refine (KS.out _ _ _ _ _ _ (hA.below hbP) hP).mono ?_; rintro e w' ⟨rfl, hbK⟩)
      | (go_at_call 24; refine (KS.out _ _ _ _ _ _ hA (hP.below hbA)).mono ?_; rintro e w' ⟨rfl, hbK⟩)
      | fail)
  have hbK' : Below w1.heap.size w1 w' := by
    refine HSW.out _ ?_
    assumption
  have HB2 := hid (bt HB1.out hbK')
  have HA2 := hid (HA1.out.step hbK')
  clear hbA hbP hbK hbK' hA hP KTW KAW HSW
  generalize w' = w2 at *
  have KA2 : Hid (∀ W', Below w2.heap.size w2 W' → Calls Try.prog 15 #[.slice ae es.length ce] W' fun e w' => ∃ u, e = .returned u ∧ ISS w' u es ∧ Below W'.heap.size W' w') := hid fun W' h => (toIntSS_calls W' _ es (HE.out.below (bt HB2.out h)) HSE.out).mono (by
    rintro e w' ⟨rfl, ⟨f, hf⟩, -, hb⟩
    exact ⟨_, rfl, hf.iss rfl, hb⟩)
  have KT2 : Hid (∀ W', Below w2.heap.size w2 W' → _) := hid fun W' h => KT.out W' (HI.out.below (bt HB2.out h))
  go_wp2_with fail
  refine (KA2.out w2 (Below.refl _ _)).mono ?_
  rintro e w3 ⟨u3, rfl, hX3, hb3⟩
  have HX3 := hid hX3
  have HB3 := hid hb3
  obtain ⟨a9, c9, e9, -⟩ := hX3
  subst e9
  have x0 := (HA2.out.step hb3).c0
  have x1 := (HA2.out.step hb3).c1
  have x2 := (HA2.out.step hb3).c2
  have x3 := (HA2.out.step hb3).c3
  have x4 := (HA2.out.step hb3).c4
  have x5 := (HA2.out.step hb3).c5
  clear hb3
  go_wp2_with fail
  refine (KT2.out w3 HB3.out).mono ?_
  rintro e w4 ⟨g0, g1, g2, g3, rfl, hP, hb4⟩
  have HB4 := hid (bt HB3.out hb4)
  have HX4 := hid (HX3.out.below hb4)
  have AX := B6.start w4 (.slice (some ⟨g0, 0, none⟩) nb nb) (.slice (some ⟨g1, 0, none⟩) np np) (.slice (some ⟨g2, 0, none⟩) nh nh) (.slice (some ⟨g3, 0, none⟩) nw nw) (.int .i64 x) (.int .i64 y) 53
  have BX : Below w4.heap.size w4 (w4.alloc (.cells #[.slice (some ⟨g0, 0, none⟩) nb nb, .slice (some ⟨g1, 0, none⟩) np np, .slice (some ⟨g2, 0, none⟩) nh nh, .slice (some ⟨g3, 0, none⟩) nw nw, .int .i64 x, .int .i64 y] 53)) := (Below.refl _ _).alloc (Nat.le_refl _) _
  go_upto_region 11 with fail
  obtain ⟨X, hX⟩ : ∃ X, X = w4.heap.size := ⟨_, rfl⟩
  rw [← hX] at AX ⊢
  generalize w4.alloc (.cells #[.slice (some ⟨g0, 0, none⟩) nb nb, .slice (some ⟨g1, 0, none⟩) np np, .slice (some ⟨g2, 0, none⟩) nh nh, .slice (some ⟨g3, 0, none⟩) nw nw, .int .i64 x, .int .i64 y] 53) = W5 at *
  have HP5 := hid (hP.below BX)
  have HX5 := hid (HX4.out.below BX)
  have HB5 := hid (bt HB4.out BX)
  have HA5 := hid AX
  clear hP hb4 AX BX hX HX4 HB4 x0 x1 x2 x3 x4 x5 HX3 HB3
  have x0 := HA5.out.c0
  have x1 := HA5.out.c1
  have x2 := HA5.out.c2
  have x3 := HA5.out.c3
  have x4 := HA5.out.c4
  have x5 := HA5.out.c5
  go_wp2_with fail
  refine (KI.out W5 _ _ _ _ _ HX5.out HP5.out).mono ?_
  rintro e w6 ⟨rfl, hb6⟩
  have HB6 := hid (bt HB5.out hb6)
  have HX6 := hid (HX5.out.below hb6)
  have HP6 := hid (HP5.out.below hb6)
  have HA6 := hid (HA5.out.step hb6)
  clear hb6 x0 x1 x2 x3 x4 x5 HX5 HP5 HA5 HB5
  go_wp2_with fail
  refine (KA2.out w6 HB6.out).mono ?_
  rintro e w7 ⟨u7, rfl, hX7, hb7⟩
  have KQ := hid (eqIntSS_same w7 _ _ es (HX6.out.below hb7) hX7 HSE.out)
  have HB7 := hid hb7
  obtain ⟨a7, c7, e7, -⟩ := hX7
  subst e7
  clear hb7
  go_wp2_with fail
  refine KQ.out.mono ?_
  rintro e W8 ⟨rfl, hb8⟩
  have hb68 := bt HB7.out hb8
  have HB8 := hid (bt HB6.out hb68)
  have HP8 := hid (HP6.out.below hb68)
  have HA8 := hid (HA6.out.step hb68)
  have HC8 := hid (HA2.out.step HB8.out)
  clear hb8 hb68 KQ HB7 HB6 HX6 HP6 HA6
  have HSW : Hid (∀ W', (W'.cell? ⟨w.heap.size, 0, none⟩ = some (.slice a0 nb k0) ∧ W'.cell? ⟨w.heap.size, 1, none⟩ = some (.slice a1 np k1) ∧ W'.cell? ⟨w.heap.size, 2, none⟩ = some (.slice a2 nh k2) ∧ W'.cell? ⟨w.heap.size, 3, none⟩ = some (.slice a3 nw k3) ∧ W'.cell? ⟨w.heap.size, 4, none⟩ = some (.int .i64 x) ∧ W'.cell? ⟨w.heap.size, 5, none⟩ = some (.int .i64 y) ∧ W'.cell? ⟨X, 0, none⟩ = some (.slice (some ⟨g0, 0, none⟩) nb nb) ∧ W'.cell? ⟨X, 1, none⟩ = some (.slice (some ⟨g1, 0, none⟩) np np) ∧ W'.cell? ⟨X, 2, none⟩ = some (.slice (some ⟨g2, 0, none⟩) nh nh) ∧ W'.cell? ⟨X, 3, none⟩ = some (.slice (some ⟨g3, 0, none⟩) nw nw) ∧ W'.cell? ⟨X, 4, none⟩ = some (.int .i64 x) ∧ W'.cell? ⟨X, 5, none⟩ = some (.int .i64 y) ∧ Below W8.heap.size W8 W') → Below W8.heap.size W8 W') := hid fun W' h => h.2.2.2.2.2.2.2.2.2.2.2.2
  have KTW : Hid (∀ W', (W'.cell? ⟨w.heap.size, 0, none⟩ = some (.slice a0 nb k0) ∧ W'.cell? ⟨w.heap.size, 1, none⟩ = some (.slice a1 np k1) ∧ W'.cell? ⟨w.heap.size, 2, none⟩ = some (.slice a2 nh k2) ∧ W'.cell? ⟨w.heap.size, 3, none⟩ = some (.slice a3 nw k3) ∧ W'.cell? ⟨w.heap.size, 4, none⟩ = some (.int .i64 x) ∧ W'.cell? ⟨w.heap.size, 5, none⟩ = some (.int .i64 y) ∧ W'.cell? ⟨X, 0, none⟩ = some (.slice (some ⟨g0, 0, none⟩) nb nb) ∧ W'.cell? ⟨X, 1, none⟩ = some (.slice (some ⟨g1, 0, none⟩) np np) ∧ W'.cell? ⟨X, 2, none⟩ = some (.slice (some ⟨g2, 0, none⟩) nh nh) ∧ W'.cell? ⟨X, 3, none⟩ = some (.slice (some ⟨g3, 0, none⟩) nw nw) ∧ W'.cell? ⟨X, 4, none⟩ = some (.int .i64 x) ∧ W'.cell? ⟨X, 5, none⟩ = some (.int .i64 y) ∧ Below W8.heap.size W8 W') → _) := hid fun W' h => KT2.out W' (bt HB8.out (HSW.out W' h))
  have HPW : Hid (∀ W', (W'.cell? ⟨w.heap.size, 0, none⟩ = some (.slice a0 nb k0) ∧ W'.cell? ⟨w.heap.size, 1, none⟩ = some (.slice a1 np k1) ∧ W'.cell? ⟨w.heap.size, 2, none⟩ = some (.slice a2 nh k2) ∧ W'.cell? ⟨w.heap.size, 3, none⟩ = some (.slice a3 nw k3) ∧ W'.cell? ⟨w.heap.size, 4, none⟩ = some (.int .i64 x) ∧ W'.cell? ⟨w.heap.size, 5, none⟩ = some (.int .i64 y) ∧ W'.cell? ⟨X, 0, none⟩ = some (.slice (some ⟨g0, 0, none⟩) nb nb) ∧ W'.cell? ⟨X, 1, none⟩ = some (.slice (some ⟨g1, 0, none⟩) np np) ∧ W'.cell? ⟨X, 2, none⟩ = some (.slice (some ⟨g2, 0, none⟩) nh nh) ∧ W'.cell? ⟨X, 3, none⟩ = some (.slice (some ⟨g3, 0, none⟩) nw nw) ∧ W'.cell? ⟨X, 4, none⟩ = some (.int .i64 x) ∧ W'.cell? ⟨X, 5, none⟩ = some (.int .i64 y) ∧ Below W8.heap.size W8 W') → IPl W' (.slice (some ⟨g0, 0, none⟩) nb nb) (.slice (some ⟨g1, 0, none⟩) np np) (.slice (some ⟨g2, 0, none⟩) nh nh) (.slice (some ⟨g3, 0, none⟩) nw nw) bs ps hs ws) := hid fun W' h => HP8.out.below (HSW.out W' h)
  go_wp2_with fail
  go_region_held3 (fun W' => W'.cell? ⟨w.heap.size, 0, none⟩ = some (.slice a0 nb k0) ∧ W'.cell? ⟨w.heap.size, 1, none⟩ = some (.slice a1 np k1) ∧ W'.cell? ⟨w.heap.size, 2, none⟩ = some (.slice a2 nh k2) ∧ W'.cell? ⟨w.heap.size, 3, none⟩ = some (.slice a3 nw k3) ∧ W'.cell? ⟨w.heap.size, 4, none⟩ = some (.int .i64 x) ∧ W'.cell? ⟨w.heap.size, 5, none⟩ = some (.int .i64 y) ∧ W'.cell? ⟨X, 0, none⟩ = some (.slice (some ⟨g0, 0, none⟩) nb nb) ∧ W'.cell? ⟨X, 1, none⟩ = some (.slice (some ⟨g1, 0, none⟩) np np) ∧ W'.cell? ⟨X, 2, none⟩ = some (.slice (some ⟨g2, 0, none⟩) nh nh) ∧ W'.cell? ⟨X, 3, none⟩ = some (.slice (some ⟨g3, 0, none⟩) nw nw) ∧ W'.cell? ⟨X, 4, none⟩ = some (.int .i64 x) ∧ W'.cell? ⟨X, 5, none⟩ = some (.int .i64 y) ∧ Below W8.heap.size W8 W')
    (first | exact twelve_of HC8.out HA8.out (Below.refl _ _).drew | exact twelve_of HC8.out HA8.out (bt (Below.refl _ _).drew hbP) | (refine twelve_of HC8.out HA8.out (bt (HSW.out _ ?_) hbP); assumption) | (refine twelve_of HC8.out HA8.out (bt (HSW.out _ ?_) hbK); assumption))
    (first
      | (go_at_call 25; refine (KTW.out _ ?_).mono ?_; assumption; rintro e w' ⟨q0, q1, q2, q3, rfl, hP, hbP⟩)
      | (go_at_call 27; refine (KE.out _ _ _ _ _ _ _ _ _ (HPW.out _ ?_) hP).mono ?_; assumption; rintro e w' ⟨rfl, hbK⟩)
      | fail)
  go_wp2_with fail
  go_ret
  refine ⟨rfl, bt HB2.out (bt HB8.out (HSW.out _ ?_))⟩
  assumption

end Go.Proofs.Ytnmcgbfhgmmcpaa
