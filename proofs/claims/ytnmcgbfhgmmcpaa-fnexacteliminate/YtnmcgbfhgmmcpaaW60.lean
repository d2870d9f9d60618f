import Derived.Test.YtnmcgbfhgmmcpaaW58
import Derived.Test.YtnmcgbfhgmmcpaaW59
/-
  laws.FnExactEliminate, walked.
-/
namespace Go.Proofs.Ytnmcgbfhgmmcpaa
open Go.RowKit

/-- both sides give one plan -/
structure AlkE (k : Int) (es : List (List Int)) (o : List Int) (bs : List (List Int)) (ps hs : List Int) (ws : List (Int × Int)) (x y : Int) : Prop where
  spec : ∀ W ve vo, ISS W ve es → IS W vo o → Calls Try.prog 28 #[.int .i64 k, ve, vo] W fun e w' => ∃ vB vP vH vW, e = .returned (.agg #[vB, vP, vH, vW, .int .i64 x, .int .i64 y]) ∧ IPl w' vB vP vH vW bs ps hs ws ∧ Below W.heap.size W w'
  impl : ∀ W ve vo, ISS W ve es → IS W vo o → (∀ a n cap, vo = .slice a n cap → n ≤ cap) → Calls Try.prog 29 #[.int .i64 k, ve, vo] W fun e w' => ∃ vB vs vP vH vW, e = .returned (.agg #[vB, vP, vH, vW, .int .i64 x, .int .i64 y]) ∧ PlS w' W.heap.size vB vs bs vP ps vH hs ∧ w'.ownsRow W.heap.size 28 2 vW ws.length (rcs ws) ∧ Below W.heap.size W w'
  b0 : Short bs
  b1 : lenS bs bs.length ≤ 1048576
  b2 : bs.length ≤ 1048576
  b3 : ps.length ≤ 1048576
  b4 : hs.length ≤ 1048576
  b5 : ws.length ≤ 1048576

theorem lenS_bound {ls : List (List Int)} {m : Nat} (h : ∀ i, (ls.getD i []).length ≤ m) : ∀ n, lenS ls n ≤ n * m
  | 0 => Nat.zero_le _
  | n + 1 => by
    show lenS ls n + _ ≤ _
    have := lenS_bound h n
    have := h n
    rw [Nat.add_mul]
    omega

theorem alikeE (k : Int) (es : List (List Int)) (o : List Int) (hS : Short es) (hl : o.length ≤ 1099511627776) : ∃ bs ps hs ws x y, AlkE k es o bs ps hs ws x y := by
  cases hc : (patB k es && ordB k o)
  · refine ⟨[], [], [], [], 0, 0, fun W ve vo h1 h2 => ?_, fun W ve vo h1 h2 h3 => ?_, ⟨by simp, fun j => by simp⟩, by simp [lenS], by simp, by simp, by simp, by simp⟩
    · refine (sEliminate_no W ve vo es o k h1 hS h2 hl (by rw [← ord_eq]; exact hc)).mono ?_
      rintro e w' ⟨rfl, hb⟩
      exact ⟨_, _, _, _, rfl, (PlS.start w' 0).ipl (ws := []) (World.ownsRow_nil _ _ _ _), hb⟩
    · refine (iEliminate_no W ve vo es o k h1 hS h2 hl hc h3).mono ?_
      rintro e w' ⟨rfl, hb⟩
      exact ⟨_, _, _, _, _, rfl, PlS.start w' _, World.ownsRow_nil _ _ _ _, hb⟩
  · rw [Bool.and_eq_true] at hc
    obtain ⟨hp, ho⟩ := hc
    have h0 : 0 ≤ k := by unfold patB at hp; simp only [Bool.and_eq_true, decide_eq_true_eq] at hp; omega
    obtain ⟨k, rfl⟩ := Int.eq_ofNat_of_zero_le h0
    have hO := ord_of hp ho
    have hk6 := hO.k6
    obtain ⟨-, hed, -⟩ := pat_k hp
    have he7 := edgesB_len hed
    have hbl : ∀ i, ((bagsE es o k).getD i []).length ≤ 6 := fun i => by
      unfold bagsE
      rw [List.getD_eq_getElem?_getD, List.getElem?_map]
      cases h : (List.range k)[i]? with
      | none => simp
      | some j => exact plc_le _ 6
    have hln := lenS_bound hbl k
    refine ⟨bagsE es o k, parsE es o k, homesE es o es.length, prs k (wdE es o k), (mostN (wdE es o k) k).num, (mostN (wdE es o k) k).den, fun W ve vo h1 h2 => ?_, fun W ve vo h1 h2 h3 => ?_, ⟨by rw [bagsE_len]; omega, fun j => by have := hbl j; omega⟩, by rw [bagsE_len]; omega, by rw [bagsE_len]; omega, by rw [parsE_len]; omega, by rw [homesE_len]; omega, by rw [prs_length]; omega⟩
    · refine (sEliminate_yes W ve vo es o k h1 hS h2 hp ho).mono ?_
      rintro e w' ⟨vB, vs, vP, vH, vW, rfl, hpl, hw, hb⟩
      exact ⟨_, _, _, _, rfl, hpl.ipl (by rw [prs_length]; exact hw), hb⟩
    · refine (iEliminate_yes W ve vo es o k h1 hS h2 hp ho h3).mono ?_
      rintro e w' ⟨vB, vs, vP, vH, vW, rfl, hpl, hw, hb⟩
      exact ⟨_, _, _, _, _, rfl, hpl, by rw [prs_length]; exact hw, hb⟩

/-- the law's copies and the answer -/
structure E9 (W4 : World) (G1 : Nat) (f : Nat → Nat) (es : List (List Int)) (G2 : Nat) (o : List Int) (B g9 : Nat) (vB : Value) (vs : List Value) (bs : List (List Int)) (vP : Value) (ps : List Int) (vH : Value) (hs : List Int) (vW : Value) (ws : List (Int × Int)) (x y : Int) (W : World) : Prop where
  q : Below W4.heap.size W4 W
  x1 : Half W G1 es.length es.length es f
  g1 : G1 < W.heap.size
  x2 : OwnI W G2 o
  pl : PlS W B vB vs bs vP ps vH hs
  rt : W.ownsRow B 28 2 vW ws.length (rcs ws)
  bx : PBx W g9 vB vP vH vW x y
theorem E9.below {W4 W W' : World} {G1 G2 B g9 : Nat} {f : Nat → Nat} {es bs : List (List Int)} {o ps hs : List Int} {vB vP vH vW : Value} {vs : List Value} {ws : List (Int × Int)} {x y : Int} (h : E9 W4 G1 f es G2 o B g9 vB vs bs vP ps vH hs vW ws x y W) (hb : Below W.heap.size W W') : E9 W4 G1 f es G2 o B g9 vB vs bs vP ps vH hs vW ws x y W' :=
  ⟨bt h.q hb, h.x1.below h.g1 hb, Nat.lt_of_lt_of_le h.g1 hb.size, h.x2.below hb, h.pl.below hb, own_below h.rt hb, h.bx.below hb⟩

/-- the answer alone -/
structure E10 (W4 : World) (B g9 : Nat) (vB : Value) (vs : List Value) (bs : List (List Int)) (vP : Value) (ps : List Int) (vH : Value) (hs : List Int) (vW : Value) (ws : List (Int × Int)) (x y : Int) (W : World) : Prop where
  q : Below W4.heap.size W4 W
  pl : PlS W B vB vs bs vP ps vH hs
  rt : W.ownsRow B 28 2 vW ws.length (rcs ws)
  bx : PBx W g9 vB vP vH vW x y
theorem E10.below {W4 W W' : World} {B g9 : Nat} {bs : List (List Int)} {ps hs : List Int} {vB vP vH vW : Value} {vs : List Value} {ws : List (Int × Int)} {x y : Int} (h : E10 W4 B g9 vB vs bs vP ps vH hs vW ws x y W) (hb : Below W.heap.size W W') : E10 W4 B g9 vB vs bs vP ps vH hs vW ws x y W' :=
  ⟨bt h.q hb, h.pl.below hb, own_below h.rt hb, h.bx.below hb⟩
/-- the copies are marked -/
theorem E9.marked {W4 W WE WF : World} {G1 G2 B g9 : Nat} {f : Nat → Nat} {es bs : List (List Int)} {o ps hs : List Int} {vB vP vH vW : Value} {vs : List Value} {ws : List (Int × Int)} {x y : Int} (h : E9 W4 G1 f es G2 o B g9 vB vs bs vP ps vH hs vW ws x y W) (hm : Ost f es.length W WE) (hog : Og G2 WE WF)
    (hf : ∀ i, i < es.length → W4.heap.size ≤ f i ∧ f i < B) (hG2 : W4.heap.size ≤ G2 ∧ G2 < B) (hB9 : B ≤ g9) : E10 W4 B g9 vB vs bs vP ps vH hs vW ws x y WF := by
  have keep : ∀ q, B ≤ q → WF.heap[q]? = W.heap[q]? := fun q hq => (hog.block q (by omega)).trans (hm.block q fun i hi e => by have := hf i hi; omega)
  refine ⟨(h.q.trans (hm.below fun i hi => (hf i hi).1)).trans (hog.below hG2.1), h.pl.stay fun q hq _ => keep q hq, own_move h.rt fun q hq => keep q (h.rt.lt q hq).1, h.bx.move (keep g9 hB9)⟩

theorem six_cells {W : World} {g : Nat} {vB vP vH vW : Value} {x y : Int} (h : PBx W g vB vP vH vW x y) : W.cell? ⟨g, 0, none⟩ = some vB ∧ W.cell? ⟨g, 1, none⟩ = some vP ∧ W.cell? ⟨g, 2, none⟩ = some vH ∧ W.cell? ⟨g, 3, none⟩ = some vW ∧ W.cell? ⟨g, 4, none⟩ = some (.int .i64 x) ∧ W.cell? ⟨g, 5, none⟩ = some (.int .i64 y) := ⟨h.c0, h.c1, h.c2, h.c3, h.c4, h.c5⟩

set_option maxHeartbeats 4000000 in
set_option maxRecDepth 1000000 in
theorem eliminate_walk (w : World) (ve vo : Value) (k : Int) (es : List (List Int)) (o : List Int) (he : ISS w ve es) (hf : Fits es) (ho : IS w vo o) (_hlo : o.length ≤ 9223372036854775807) :
    Calls Try.prog 6 #[.int .i64 k, ve, vo] w fun e w' => e = .returned (.bool true) ∧ Below w.heap.size w w' := by
  have K0 := hid (szIntSS_calls w ve es 1048576 he hf (by omega) (by omega))
  have HIO := hid ho
  have HIE := hid he
  unfold szSS at K0
  obtain ⟨aO, cO, rfl, -⟩ := ho
  obtain ⟨aE, cE, rfl, -⟩ := he
  by_cases hbl : 1048576 < o.length
  · have i0 : (1048576 : Int) < (o.length : Int) := by omega
    clear K0 hf
    go_enter Try.func6, Try.ntmps6
    go_wp2
    go_ret
    exact ⟨rfl, Below.refl _ _⟩
  have i0 : ¬ ((1048576 : Int) < (o.length : Int)) := by omega
  by_cases hbig : (1048576 : Int) < tot es es.length
  · rw [if_pos hbig] at K0
    clear hf
    go_enter Try.func6, Try.ntmps6
    go_wp2_with fail
    refine K0.out.mono ?_
    rintro e w1 ⟨rfl, hw1⟩
    subst w1
    go_wp2
    go_ret
    exact ⟨rfl, Below.refl _ _⟩
  rw [if_neg hbig] at K0
  have e2 : ¬ ((1048576 : Int) - tot es es.length < 0) := by omega
  have htot : tot es es.length ≤ 1048576 := by omega
  have hlo : o.length ≤ 1099511627776 := by omega
  have HS := hid (short_of_tot htot)
  obtain ⟨bs, ps, hs, ws, x, y, hAl⟩ := alikeE k es o HS.out hlo
  have HAL := hid hAl
  have HEQ : Hid (∀ W u0 u1 u2 u3 t0 t1 t2 t3, IPl W u0 u1 u2 u3 bs ps hs ws → IPl W t0 t1 t2 t3 bs ps hs ws → Calls Try.prog 27 #[.agg #[u0, u1, u2, u3, .int .i64 x, .int .i64 y], .agg #[t0, t1, t2, t3, .int .i64 x, .int .i64 y]] W fun e w' => e = .returned (.bool true) ∧ Below W.heap.size W w') := hid fun W u0 u1 u2 u3 t0 t1 t2 t3 h1 h2 => eqPlan_same W u0 u1 u2 u3 t0 t1 t2 t3 x y bs ps hs ws h1 h2 hAl.b0 (by have := hAl.b3; omega) (by have := hAl.b4; omega) (by have := hAl.b5; omega)
  generalize (1048576 : Int) - tot es es.length = lft at *
  clear hf hbig hAl
  go_enter Try.func6, Try.ntmps6
  go_wp2_with fail
  refine K0.out.mono ?_
  rintro e w1 ⟨rfl, hw1⟩
  subst w1
  clear K0
  -- the model's answer
  go_wp2_with fail
  refine (toIntSS_calls w _ es HIE.out HS.out).mono ?_
  rintro e w1 ⟨rfl, ⟨fA, hA⟩, hA1, hb1⟩
  have HA1 := hid hA
  have HB1 := hid hb1
  clear hA hb1
  go_wp2_with fail
  refine (toIntS_calls w1 _ o (HIO.out.below HB1.out) hlo).mono ?_
  rintro e w2 ⟨rfl, hO2, hb2⟩
  have HO2 := hid hO2
  have HA2 := hid (HA1.out.below hA1 hb2)
  have HB2 := hid (bt HB1.out hb2)
  clear hO2 hb2 HA1 HB1 hA1
  go_wp2_with fail
  refine (HAL.out.spec w2 _ _ (HA2.out.iss rfl) HO2.out.is).mono ?_
  rintro e w3 ⟨uB, uP, uH, uW, rfl, hU, hb3⟩
  have HU := hid hU
  have HB3 := hid (bt HB2.out hb3)
  obtain ⟨a1, q1, e1, -⟩ := hU.b
  obtain ⟨a2, q2, e3, -⟩ := hU.p
  obtain ⟨a3, q3, e4, -⟩ := hU.h
  obtain ⟨a4, q4, e5, -⟩ := hU.d
  subst e1 e3 e4 e5
  clear hb3 HA2 HO2 HB2 hU
  go_upto_region 8 with fail
  have HAl : Hid (Below w3.heap.size w3 (w3.alloc (.cells #[.slice a1 bs.length q1, .slice a2 ps.length q2, .slice a3 hs.length q3, .slice a4 ws.length q4, .int .i64 x, .int .i64 y] 53))) := hid ((Below.refl _ _).alloc (Nat.le_refl _) _)
  have HG6 := hid (pbx_made w3 (.slice a1 bs.length q1) (.slice a2 ps.length q2) (.slice a3 hs.length q3) (.slice a4 ws.length q4) x y)
  have HU4 := hid (HU.out.below HAl.out)
  have HB4 := hid (bt HB3.out HAl.out)
  clear HU HB3 HAl
  generalize w3.alloc (.cells #[.slice a1 bs.length q1, .slice a2 ps.length q2, .slice a3 hs.length q3, .slice a4 ws.length q4, .int .i64 x, .int .i64 y] 53) = W4 at *
  generalize w3.heap.size = g6 at *
  -- the program's
  go_wp2_with fail
  refine (toIntSS_calls W4 _ es (HIE.out.below HB4.out) HS.out).mono ?_
  rintro e w5 ⟨rfl, ⟨f, hX⟩, hX1, hb5⟩
  have HX5 := hid hX
  have HQ5 := hid hb5
  clear hX hb5
  go_wp2_with fail
  refine (toIntS_calls w5 _ o (HIO.out.below (bt HB4.out HQ5.out)) hlo).mono ?_
  rintro e w6 ⟨rfl, hO6, hb6⟩
  have HO6 := hid hO6
  have HX6 := hid (HX5.out.below hX1 hb6)
  have HQ6 := hid (bt HQ5.out hb6)
  have HX1L : Hid (∀ i, i < es.length → f i < w5.heap.size) := hid fun i hi => (HX5.out.own i hi).lt
  have HFl : Hid (∀ i, i < es.length → W4.heap.size ≤ f i ∧ f i < w6.heap.size) := hid fun i hi => by
    have h1 := HX5.out.gt i hi
    have h2 := (HX5.out.own i hi).lt
    have := hb6.size
    omega
  have hs56 : w5.heap.size < w6.heap.size := hO6.lt
  have hs45 := HQ5.out.size
  clear hO6 hb6 HX5 HQ5
  go_wp2_with fail
  refine (HAL.out.impl w6 _ _ (HX6.out.iss rfl) HO6.out.is (fun a n cap e => by simp only [Value.slice.injEq] at e; omega)).mono ?_
  rintro e w7 ⟨vB, vs, vP, vH, vW, rfl, hPl, hRt, hb7⟩
  obtain ⟨b1, p1, e1⟩ := hPl.rl.sl
  obtain ⟨b2, p2, e3⟩ := ownSl hPl.ownP
  obtain ⟨b3, p3, e4⟩ := ownSl hPl.ownH
  obtain ⟨b4, p4, e5⟩ := ownSl hRt
  subst e1 e3 e4 e5
  have HP7 := hid hPl
  have HR7 := hid hRt
  have HX7 := hid (HX6.out.below (by omega) hb7)
  have HO7 := hid (HO6.out.below hb7)
  have HQ7 := hid (bt HQ6.out hb7)
  have hs67 := hb7.size
  clear hPl hRt hb7 HX6 HO6
  go_upto_region 11 with fail
  have HAl : Hid (Below w7.heap.size w7 (w7.alloc (.cells #[.slice b1 bs.length p1, .slice b2 ps.length p2, .slice b3 hs.length p3, .slice b4 ws.length p4, .int .i64 x, .int .i64 y] 53))) := hid ((Below.refl _ _).alloc (Nat.le_refl _) _)
  have HE8 : Hid (E9 W4 W4.heap.size f es w5.heap.size o w6.heap.size w7.heap.size (.slice b1 bs.length p1) vs bs (.slice b2 ps.length p2) ps (.slice b3 hs.length p3) hs (.slice b4 ws.length p4) ws x y (w7.alloc (.cells #[.slice b1 bs.length p1, .slice b2 ps.length p2, .slice b3 hs.length p3, .slice b4 ws.length p4, .int .i64 x, .int .i64 y] 53))) :=
    hid ⟨bt HQ7.out HAl.out, HX7.out.below (by omega) HAl.out, by simp; omega, HO7.out.below HAl.out, HP7.out.below HAl.out, own_below HR7.out HAl.out, pbx_made _ _ _ _ _ _ _⟩
  clear HAl HX7 HO7 HP7 HR7 HQ7 HQ6
  generalize w7.alloc (.cells #[.slice b1 bs.length p1, .slice b2 ps.length p2, .slice b3 hs.length p3, .slice b4 ws.length p4, .int .i64 x, .int .i64 y] 53) = W8 at *
  generalize w7.heap.size = g9 at *
  have HU0 : Hid (∀ W, Below W4.heap.size W4 W → IPl W (.slice a1 bs.length q1) (.slice a2 ps.length q2) (.slice a3 hs.length q3) (.slice a4 ws.length q4) bs ps hs ws ∧ PBx W g6 (.slice a1 bs.length q1) (.slice a2 ps.length q2) (.slice a3 hs.length q3) (.slice a4 ws.length q4) x y) := hid fun W hW => ⟨HU4.out.below hW, HG6.out.below hW⟩
  clear HU4 HG6
  obtain ⟨c0, c1, c2, c3, c4, c5⟩ := six_cells (HU0.out W8 HE8.out.q).2
  obtain ⟨d0, d1, d2, d3, d4, d5⟩ := six_cells HE8.out.bx
  go_wp2_with fail
  refine (HEQ.out W8 _ _ _ _ _ _ _ _ (HE8.out.pl.ipl HE8.out.rt) (HU0.out W8 HE8.out.q).1).mono ?_
  rintro e w9 ⟨rfl, hb9⟩
  have HE9 := hid (HE8.out.below hb9)
  clear hb9 HE8 c0 c1 c2 c3 c4 c5 d0 d1 d2 d3 d4 d5
  -- the arguments are as they were
  go_wp2_with fail
  refine (toIntSS_calls w9 _ es (HIE.out.below (bt HB4.out HE9.out.q)) HS.out).mono ?_
  rintro e wA ⟨rfl, ⟨fA, hA⟩, hA1, hbA⟩
  have HEA := hid (HE9.out.below hbA)
  have HYA := hid hA
  clear hA hbA HE9
  go_wp2_with fail
  refine (eqIntSS_same wA _ _ es (HEA.out.x1.iss rfl) (HYA.out.iss rfl) HS.out).mono ?_
  rintro e wB ⟨rfl, hbB⟩
  have HEB := hid (HEA.out.below hbB)
  clear hbB HEA HYA hA1
  go_wp2_with fail
  refine (toIntS_calls wB _ o (HIO.out.below (bt HB4.out HEB.out.q)) hlo).mono ?_
  rintro e wC ⟨rfl, hOC, hbC⟩
  have HEC := hid (HEB.out.below hbC)
  have HYC := hid hOC
  clear hOC hbC HEB
  go_wp2_with fail
  refine (eqIntS_same wC _ _ o HEC.out.x2.is HYC.out.is hlo).mono ?_
  rintro e wD ⟨rfl, hbD⟩
  have HED := hid (HEC.out.below hbD)
  clear hbD HEC HYC
  -- the arguments are marked
  go_wp2_with fail
  refine (markIntSS_calls wD W4.heap.size es f 1 HED.out.x1 htot (by omega) (by omega)).mono ?_
  rintro e wE ⟨rfl, hos⟩
  have hn0 := tot_le es es.length 0 (by omega)
  rw [tot_zero] at hn0
  have HX2 : Hid (OwnI wE w5.heap.size o) := hid (HED.out.x2.move (hos.block _ fun i hi e => by have := HFl.out i hi; have := (HED.out.x1.own i hi).lt; have := HX1L.out i hi; omega) (by rw [hos.size]; exact Nat.le_refl _))
  have HOs := hid hos
  clear hos
  go_wp2_with fail
  refine (markIntS_calls wE w5.heap.size o (1 + (tot es es.length - es.length)) HX2.out hlo (by omega) (by omega)).mono ?_
  rintro e wF ⟨rfl, -, hog⟩
  have HEF := hid (HED.out.marked HOs.out hog HFl.out ⟨by omega, by omega⟩ (by omega))
  have hk : ¬ ((1 : Int) + (tot es es.length - es.length) + o.length < 0) := by omega
  generalize (1 : Int) + (tot es es.length - es.length) + o.length = kk at *
  clear hog HED HOs HX2 hn0
  obtain ⟨c0, c1, c2, c3, c4, c5⟩ := six_cells (HU0.out wF HEF.out.q).2
  obtain ⟨d0, d1, d2, d3, d4, d5⟩ := six_cells HEF.out.bx
  go_wp2_with fail
  refine (HEQ.out wF _ _ _ _ _ _ _ _ (HEF.out.pl.ipl HEF.out.rt) (HU0.out wF HEF.out.q).1).mono ?_
  rintro e wG ⟨rfl, hbG⟩
  have HEG := hid (HEF.out.below hbG)
  clear hbG HEF c0 c1 c2 c3 c4 c5 d0 d1 d2 d3 d4 d5
  -- the answer owns its memory
  obtain ⟨d0, d1, d2, d3, d4, d5⟩ := six_cells HEG.out.bx
  have hs6G : w6.heap.size ≤ wG.heap.size := by have := HEG.out.bx.lt; omega
  go_wp2_with fail
  refine (plan_marks wG w6.heap.size _ _ _ _ vs bs ps hs ws x y HEG.out.pl HEG.out.rt hs6G HAL.out.b1 HAL.out.b2 HAL.out.b3 HAL.out.b4 HAL.out.b5).mono ?_
  rintro e wH ⟨kq, hq0, rfl, hbH, hfr, hheld⟩
  have KH := hid hheld
  obtain ⟨cur, hcur⟩ := HEG.out.bx.typ
  have HBx := hid (HEG.out.bx.move (hfr g9 cur _ hcur (by decide) (by decide)))
  have HQH : Hid (Below W4.heap.size W4 wH) := hid (HEG.out.q.trans (hbH.mono (by omega)))
  have hq : ¬ (kq < 0) := by omega
  have hne : (kq != kq) = false := by simp
  clear hfr hbH hheld HEG d0 d1 d2 d3 d4 d5 hcur
  obtain ⟨d0, d1, d2, d3, d4, d5⟩ := six_cells HBx.out
  go_wp2_with fail
  refine KH.out.mono ?_
  rintro e wI ⟨rfl, hbI⟩
  have HQI := hid (bt HQH.out hbI)
  clear hbI KH HBx HQH d0 d1 d2 d3 d4 d5
  -- once more
  go_wp2_with fail
  refine (toIntSS_calls wI _ es (HIE.out.below (bt HB4.out HQI.out)) HS.out).mono ?_
  rintro e wJ ⟨rfl, ⟨fK, hK⟩, hK1, hbJ⟩
  have HK := hid hK
  have HQJ := hid (bt HQI.out hbJ)
  clear hK hbJ
  go_wp2_with fail
  refine (toIntS_calls wJ _ o (HIO.out.below (bt HB4.out HQJ.out)) hlo).mono ?_
  rintro e wK ⟨rfl, hOJ, hbK⟩
  have HOK := hid hOJ
  have HKK := hid (HK.out.below hK1 hbK)
  have HQK := hid (bt HQJ.out hbK)
  clear hOJ hbK HK
  go_wp2_with fail
  refine (HAL.out.impl wK _ _ (HKK.out.iss rfl) HOK.out.is (fun a n cap e => by simp only [Value.slice.injEq] at e; omega)).mono ?_
  rintro e wL ⟨xB, xs, xP, xH, xW, rfl, hPl, hRt, hbL⟩
  obtain ⟨s1, r1, e1⟩ := hPl.rl.sl
  obtain ⟨s2, r2, e3⟩ := ownSl hPl.ownP
  obtain ⟨s3, r3, e4⟩ := ownSl hPl.ownH
  obtain ⟨s4, r4, e5⟩ := ownSl hRt
  subst e1 e3 e4 e5
  have HIL := hid (hPl.ipl hRt)
  have HQL := hid (bt HQK.out hbL)
  clear hPl hRt hbL HKK HOK HQK
  go_upto_region 31 with fail
  have HAl : Hid (Below wL.heap.size wL (wL.alloc (.cells #[.slice s1 bs.length r1, .slice s2 ps.length r2, .slice s3 hs.length r3, .slice s4 ws.length r4, .int .i64 x, .int .i64 y] 53))) := hid ((Below.refl _ _).alloc (Nat.le_refl _) _)
  have HGM := hid (pbx_made wL (.slice s1 bs.length r1) (.slice s2 ps.length r2) (.slice s3 hs.length r3) (.slice s4 ws.length r4) x y)
  have HIM := hid (HIL.out.below HAl.out)
  have HQM := hid (bt HQL.out HAl.out)
  clear HIL HQL HAl
  generalize wL.alloc (.cells #[.slice s1 bs.length r1, .slice s2 ps.length r2, .slice s3 hs.length r3, .slice s4 ws.length r4, .int .i64 x, .int .i64 y] 53) = wM at *
  generalize wL.heap.size = gM at *
  obtain ⟨c0, c1, c2, c3, c4, c5⟩ := six_cells (HU0.out wM HQM.out).2
  obtain ⟨d0, d1, d2, d3, d4, d5⟩ := six_cells HGM.out
  go_wp2_with fail
  refine (HEQ.out wM _ _ _ _ _ _ _ _ HIM.out (HU0.out wM HQM.out).1).mono ?_
  rintro e wN ⟨rfl, hbN⟩
  have HBN := hid (bt (bt HB4.out HQM.out) hbN)
  clear hbN
  go_wp2
  go_ret
  exact ⟨rfl, HBN.out⟩

end Go.Proofs.Ytnmcgbfhgmmcpaa
