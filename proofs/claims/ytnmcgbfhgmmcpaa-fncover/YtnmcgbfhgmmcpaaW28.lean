import Derived.Deep.RegionLaw
import Derived.Test.YtnmcgbfhgmmcpaaW27
/-
  Lists of demands in memory; the best corner so far.
-/
namespace Go.Proofs.Ytnmcgbfhgmmcpaa
open Go.RowKit

def dcs (ps : List (Value × Dem)) : List Value := ps.flatMap fun p => [p.1, .bool p.2.up, .int .i64 p.2.bd]
def pd0 : Value × Dem := (undef, dem0)

theorem dcs_len (ps : List (Value × Dem)) : (dcs ps).length = ps.length * 3 := by
  induction ps with
  | nil => rfl
  | cons p ps ih =>
    show ([p.1, .bool p.2.up, .int .i64 p.2.bd] ++ dcs ps).length = _
    rw [List.length_append, ih, List.length_cons]
    simp only [List.length_cons, List.length_nil]
    omega

theorem dcs_snoc (ps : List (Value × Dem)) (p : Value × Dem) : dcs (ps ++ [p]) = dcs ps ++ [p.1, .bool p.2.up, .int .i64 p.2.bd] := by
  simp [dcs]

theorem dcs_get : ∀ (ps : List (Value × Dem)) (i : Nat), i < ps.length → (dcs ps)[i * 3]? = some (ps.getD i pd0).1 ∧ (dcs ps)[i * 3 + 1]? = some (.bool (ps.getD i pd0).2.up) ∧ (dcs ps)[i * 3 + 2]? = some (.int .i64 (ps.getD i pd0).2.bd)
  | [], i, h => by simp at h
  | p :: ps, 0, _ => ⟨rfl, rfl, rfl⟩
  | p :: ps, i + 1, h => by
    have h' : i < ps.length := by simpa using h
    have := dcs_get ps i h'
    have e : dcs (p :: ps) = [p.1, .bool p.2.up, .int .i64 p.2.bd] ++ dcs ps := rfl
    rw [e]
    rw [List.getElem?_append_right (by simp; omega), List.getElem?_append_right (by simp; omega), List.getElem?_append_right (by simp; omega)]
    simp only [List.length_cons, List.length_nil]
    rw [show (i + 1) * 3 - (0 + 1 + 1 + 1) = i * 3 by omega, show (i + 1) * 3 + 1 - (0 + 1 + 1 + 1) = i * 3 + 1 by omega, show (i + 1) * 3 + 2 - (0 + 1 + 1 + 1) = i * 3 + 2 by omega]
    exact this

structure DP (w : World) (v : Value) (ps : List (Value × Dem)) : Prop where
  sl : ∃ a cap, v = .slice a ps.length cap ∧ (ps.length = 0 ∨ ∃ b o, a = some ⟨b, o, none⟩ ∧ ∀ j u, (dcs ps)[j]? = some u → w.cell? ⟨b, o + j, none⟩ = some u)
  each : ∀ p ∈ ps, IntsAt w p.1 p.2.pl

theorem DP.below {w w' : World} {v : Value} {ps : List (Value × Dem)} (h : DP w v ps) (hb : Below w.heap.size w w') : DP w' v ps := by
  obtain ⟨⟨a, cap, e, hc⟩, he⟩ := h
  refine ⟨⟨a, cap, e, ?_⟩, fun p hp => (he p hp).below hb⟩
  rcases hc with h0 | ⟨b, o, ea, hc⟩
  · exact Or.inl h0
  · exact Or.inr ⟨b, o, ea, fun j u hj => (hb.cell (p := ⟨b, o + j, none⟩) (World.block_lt_of_cell? w _ (hc j u hj))).trans (hc j u hj)⟩

theorem dp_own {w : World} {B : Nat} {v : Value} {ps : List (Value × Dem)} (h : w.ownsRow B 71 3 v ps.length (dcs ps)) (he : ∀ p ∈ ps, IntsAt w p.1 p.2.pl) : DP w v ps := by
  refine ⟨?_, he⟩
  rcases h.2 with ⟨rfl, h2⟩ | ⟨g, cap, cur, rfl, hb', hc, hn, -, -, ht⟩
  · exact ⟨none, 0, by rw [h2], Or.inl h2⟩
  · refine ⟨_, cap, rfl, Or.inr ⟨g, 0, rfl, fun j u hj => ?_⟩⟩
    have hjl : j < ps.length * 3 := by
      have := (List.getElem?_eq_some_iff.1 hj).1
      rw [dcs_len] at this
      exact this
    rw [cell_of_row _ _ _ _ _ _ hc, Nat.zero_add, ← hj, ← ht, List.getElem?_take_of_lt hjl, Array.getElem?_toList]

theorem dcs_one {w : World} {v : Value} {ps : List (Value × Dem)} (h : DP w v ps) : ∀ u ∈ dcs ps, u.oneCell' = true := by
  intro u hu
  obtain ⟨p, hp, hm⟩ := List.mem_flatMap.1 hu
  obtain ⟨a, cap, e, -⟩ := h.each p hp
  simp only [List.mem_cons, List.not_mem_nil, or_false] at hm
  rcases hm with rfl | rfl | rfl
  · rw [e]; rfl
  · rfl
  · rfl

theorem map_snd_get (ps : List (Value × Dem)) (i : Nat) : (ps.map Prod.snd).getD i dem0 = (ps.getD i pd0).2 := by
  rw [List.getD_eq_getElem?_getD, List.getElem?_map, List.getD_eq_getElem?_getD]
  cases ps[i]? <;> rfl

/-- the best corner so far: none, or a point of the polyhedron -/
def BestAt (w : World) (n : Nat) (all : List Dem) (v : Value) : Option (Nat → Rat) → Prop
  | none => ∃ a cap, v = .slice a 0 cap
  | some b => IR w v (prs n b) ∧ InP n all b ∧ Parts n b

theorem IR.below' {w w' : World} {v : Value} {l : List (Int × Int)} (h : IR w v l) (hb : Below w.heap.size w w') : IR w' v l := by
  obtain ⟨a, cap, e, h⟩ := h
  refine ⟨a, cap, e, ?_⟩
  rcases h with h0 | ⟨b, o, ea, hc⟩
  · exact Or.inl h0
  · exact Or.inr ⟨b, o, ea, fun j hj => ⟨(hb.cell (p := ⟨b, o + j * 2, none⟩) (World.block_lt_of_cell? w _ (hc j hj).1)).trans (hc j hj).1, (hb.cell (p := ⟨b, o + j * 2 + 1, none⟩) (World.block_lt_of_cell? w _ (hc j hj).2)).trans (hc j hj).2⟩⟩

theorem BestAt.below {w w' : World} {n : Nat} {all : List Dem} {v : Value} {b : Option (Nat → Rat)} (h : BestAt w n all v b) (hb : Below w.heap.size w w') : BestAt w' n all v b := by
  cases b with
  | none => exact h
  | some b => exact ⟨h.1.below' hb, h.2⟩

theorem BestAt.len {w : World} {n : Nat} {all : List Dem} {v : Value} {b : Option (Nat → Rat)} (h : BestAt w n all v b) : ∃ a cap, v = .slice a (if b.isNone then 0 else n) cap := by
  cases b with
  | none => exact h
  | some b =>
    obtain ⟨⟨a, cap, e, -⟩, -⟩ := h
    rw [prs_length] at e
    exact ⟨a, cap, e⟩

end Go.Proofs.Ytnmcgbfhgmmcpaa

namespace Go.Proofs.Ytnmcgbfhgmmcpaa
open Go.RowKit

set_option maxHeartbeats 2000000 in
set_option maxRecDepth 100000 in
theorem l1Before_calls (w : World) (vx vy : Value) (n : Nat) (most : Bool) (x y : Nat → Rat) (hn : n ≤ 7) (hx : IR w vx (prs n x)) (hy : IR w vy (prs n y)) (px : Parts n x) (py : Parts n y) :
    Calls Try.prog 85 #[vx, vy, .bool most] w fun e w' => e = .returned (.bool (befB n most x y)) ∧ Below w.heap.size w w' := by
  have hsx := px.sum (Nat.le_refl n) hn
  have hsy := py.sum (Nat.le_refl n) hn
  have KX : Hid (∀ W, Below w.heap.size w W → Calls Try.prog 40 #[vx] W fun e w' => e = .returned (.agg #[.int .i64 (Cov.sm n x).num, .int .i64 (Cov.sm n x).den]) ∧ Below W.heap.size W w') := hid (fun W hW => ssum_best W vx n x hn (hx.below hW) px)
  have KY : Hid (∀ W, Below w.heap.size w W → Calls Try.prog 40 #[vy] W fun e w' => e = .returned (.agg #[.int .i64 (Cov.sm n y).num, .int .i64 (Cov.sm n y).den]) ∧ Below W.heap.size W w') := hid (fun W hW => ssum_best W vy n y hn (hy.below hW) py)
  have K1 : Hid (∀ W, Calls Try.prog 95 #[.agg #[.int .i64 (Cov.sm n x).num, .int .i64 (Cov.sm n x).den], .agg #[.int .i64 (Cov.sm n y).num, .int .i64 (Cov.sm n y).den]] W fun e w' => e = .returned (.bool (decide (Cov.sm n x < Cov.sm n y))) ∧ Below W.heap.size W w') := hid (fun W => slessV _ _ W hsx hsy (by decide))
  have K2 : Hid (∀ W, Calls Try.prog 95 #[.agg #[.int .i64 (Cov.sm n y).num, .int .i64 (Cov.sm n y).den], .agg #[.int .i64 (Cov.sm n x).num, .int .i64 (Cov.sm n x).den]] W fun e w' => e = .returned (.bool (decide (Cov.sm n y < Cov.sm n x))) ∧ Below W.heap.size W w') := hid (fun W => slessV _ _ W hsy hsx (by decide))
  have HR : Hid (befB n most x y = if decide (Cov.sm n x < Cov.sm n y) = true then !most else if decide (Cov.sm n y < Cov.sm n x) = true then most else numB x y n 0) := hid (by unfold befB; simp only [decide_eq_true_eq])
  generalize decide (Cov.sm n x < Cov.sm n y) = b1 at *
  generalize decide (Cov.sm n y < Cov.sm n x) = b2 at *
  generalize befB n most x y = R at *
  generalize (Cov.sm n x).num = p1 at *
  generalize (Cov.sm n x).den = p2 at *
  generalize (Cov.sm n y).num = q1 at *
  generalize (Cov.sm n y).den = q2 at *
  clear hsx hsy
  obtain ⟨a, cap, rfl, hcx⟩ := hx
  obtain ⟨a2, cap2, rfl, hcy⟩ := hy
  rw [prs_length] at hcx hcy
  have HCX := hid hcx
  have HCY := hid hcy
  have HPX := hid px
  have HPY := hid py
  clear hcx hcy px py
  simp only [prs_length] at *
  go_enter Try.func85, Try.ntmps85
  go_upto_region 2 with (first | (go_at_call 40; refine (KX.out _ (Below.refl _ _)).mono ?_; rintro e w1 ⟨rfl, hb1⟩))
  have hT := two_alloc w1 p1 p2 28
  have hB : Below w.heap.size w (w1.alloc (.cells #[.int .i64 p1, .int .i64 p2] 28)) := hb1.alloc hb1.size _
  have hg1 : w1.heap.size < (w1.alloc (.cells #[.int .i64 p1, .int .i64 p2] 28)).heap.size := by simp
  generalize w1.alloc (.cells #[.int .i64 p1, .int .i64 p2] 28) = W1 at *
  generalize w1.heap.size = g1 at *
  clear hb1 KX
  go_upto_region 3 with (first | (go_at_call 40; refine (KY.out _ hB).mono ?_; rintro e w2 ⟨rfl, hb2⟩))
  have hT1 := (hT.below hg1 hb2)
  have hg2 : g1 < w2.heap.size := Nat.lt_of_lt_of_le hg1 hb2.size
  have hT2 := two_alloc w2 q1 q2 28
  have hT3 : Two (w2.alloc (.cells #[.int .i64 q1, .int .i64 q2] 28)) g1 p1 p2 := hT1.below hg2 ((Below.refl _ _).alloc (Nat.le_refl _) _)
  have hB2 : Below w.heap.size w (w2.alloc (.cells #[.int .i64 q1, .int .i64 q2] 28)) := (bt hB hb2).alloc (bt hB hb2).size _
  have hg3 : w2.heap.size < (w2.alloc (.cells #[.int .i64 q1, .int .i64 q2] 28)).heap.size := by simp
  generalize w2.alloc (.cells #[.int .i64 q1, .int .i64 q2] 28) = W2 at *
  generalize w2.heap.size = g2 at *
  have hg4 : g1 < W2.heap.size := by omega
  clear hT hT1 hb2 hB KY
  have HB := hid hB2
  have HT1 := hid hT3
  have HT2 := hid hT2
  clear hB2
  obtain ⟨s1, s2, -, -⟩ := hT3
  obtain ⟨u1, u2, -, -⟩ := hT2
  cases b1
  case true =>
    go_wp2_with (first | (go_at_call 95; refine (K1.out _).mono ?_; rintro e w3 ⟨rfl, hb3⟩))
    go_ret
    exact ⟨ret_bool (by rw [HR.out]; rfl), bt HB.out hb3⟩
  case false =>
    go_upto_region 5 with (first | (go_at_call 95; refine (K1.out _).mono ?_; rintro e w3 ⟨rfl, hb3⟩))
    obtain ⟨s1', s2', -, -⟩ := HT1.out.below hg4 hb3
    obtain ⟨u1', u2', -, -⟩ := HT2.out.below hg3 hb3
    have HB3 := hid (bt HB.out hb3)
    clear s1 s2 u1 u2 hb3 HB HT1 HT2 K1
    cases b2
    case true =>
      go_wp2_with (first | (go_at_call 95; refine (K2.out _).mono ?_; rintro e w4 ⟨rfl, hb4⟩))
      go_ret
      exact ⟨ret_bool (by rw [HR.out]; rfl), bt HB3.out hb4⟩
    case false =>
      go_upto_region 7 with (first | (go_at_call 95; refine (K2.out _).mono ?_; rintro e w4 ⟨rfl, hb4⟩))
      have HB4 := hid (bt HB3.out hb4)
      have HR2 : Hid (R = numB x y n 0) := hid (by rw [HR.out]; rfl)
      clear HB3 hb4 HR K2 s1' s2' u1' u2'
      go_wp2
      go_loopw [25] (fun t wr => ∃ k : Nat, k ≤ n ∧ t = .int .i64 k ∧ Hid (Below w.heap.size w wr ∧ R = numB x y (n - k) k)) (fun t _ => n - (intOf t).toNat)
      case atStart => exact ⟨0, Nat.zero_le _, rfl, hid ⟨HB4.out, HR2.out⟩⟩
      case round =>
        obtain ⟨k, hk, rfl, hH⟩ := hrel
        by_cases hkn : k < n
        · have i1 : (k : Int) < (n : Int) := by omega
          have HRk : Hid (R = if x k < y k then true else if y k < x k then false else numB x y (n - (k + 1)) (k + 1)) := hid (by
            rw [hH.out.2, show n - k = (n - (k + 1)) + 1 by omega]; rfl)
          have HBk := hid hH.out.1
          have hsx := HPX.out.sm hkn
          have hsy := HPY.out.sm hkn
          rcases HCX.out with h0 | ⟨b, o, rfl, hcell⟩
          · omega
          rcases HCY.out with h0 | ⟨b', o', rfl, hcell'⟩
          · omega
          obtain ⟨e1, e2⟩ := hcell k hkn
          obtain ⟨e3, e4⟩ := hcell' k hkn
          rw [prs_get hkn] at e1 e2 e3 e4
          have HC : Hid (∀ W, Below w.heap.size w W → W.cell? ⟨b, o + k * 2, none⟩ = some (.int .i64 (x k).num) ∧ W.cell? ⟨b, o + k * 2 + 1, none⟩ = some (.int .i64 (x k).den) ∧ W.cell? ⟨b', o' + k * 2, none⟩ = some (.int .i64 (y k).num) ∧ W.cell? ⟨b', o' + k * 2 + 1, none⟩ = some (.int .i64 (y k).den)) := hid (fun W hW => ⟨(hW.cell (p := ⟨b, o + k * 2, none⟩) (World.block_lt_of_cell? w _ e1)).trans e1, (hW.cell (p := ⟨b, o + k * 2 + 1, none⟩) (World.block_lt_of_cell? w _ e2)).trans e2, (hW.cell (p := ⟨b', o' + k * 2, none⟩) (World.block_lt_of_cell? w _ e3)).trans e3, (hW.cell (p := ⟨b', o' + k * 2 + 1, none⟩) (World.block_lt_of_cell? w _ e4)).trans e4⟩)
          have KA : Hid (∀ W, Calls Try.prog 95 #[.agg #[.int .i64 (x k).num, .int .i64 (x k).den], .agg #[.int .i64 (y k).num, .int .i64 (y k).den]] W fun e w' => e = .returned (.bool (decide (x k < y k))) ∧ Below W.heap.size W w') := hid (fun W => slessV _ _ W hsx hsy (by decide))
          have KB : Hid (∀ W, Calls Try.prog 95 #[.agg #[.int .i64 (y k).num, .int .i64 (y k).den], .agg #[.int .i64 (x k).num, .int .i64 (x k).den]] W fun e w' => e = .returned (.bool (decide (y k < x k))) ∧ Below W.heap.size W w') := hid (fun W => slessV _ _ W hsy hsx (by decide))
          rw [show (if x k < y k then true else if y k < x k then false else numB x y (n - (k + 1)) (k + 1)) = (if decide (x k < y k) = true then true else if decide (y k < x k) = true then false else numB x y (n - (k + 1)) (k + 1)) by simp only [decide_eq_true_eq]] at HRk
          generalize decide (x k < y k) = b3 at *
          generalize decide (y k < x k) = b4 at *
          generalize (x k).num = x1 at *
          generalize (x k).den = x2 at *
          generalize (y k).num = y1 at *
          generalize (y k).den = y2 at *
          obtain ⟨c1, c2, c3, c4⟩ := HC.out wr HBk.out
          clear hcell hcell' e1 e2 e3 e4 hH hsx hsy
          cases b3
          case true =>
            go_wp2_with fail
            go_region_law (first | (go_simp; go_at_call 95; refine (KA.out _).mono ?_; rintro e w5 ⟨rfl, hb'⟩; have hb5 := drew_below hb'))
            all_goals
              go_wp2
              go_ret
              exact ⟨ret_bool (by rw [HRk.out]; rfl), bt HBk.out hb5⟩
          case false =>
            go_wp2_with fail
            go_region_law (first | (go_simp; go_at_call 95; refine (KA.out _).mono ?_; rintro e w5 ⟨rfl, hb'⟩; have hb5 := drew_below hb'))
            all_goals
              have HB5 := hid (bt HBk.out hb5)
              obtain ⟨f1, f2, f3, f4⟩ := HC.out w5 HB5.out
              clear c1 c2 c3 c4 hb' hb5 HBk
              cases b4
              case true =>
                go_wp2_with fail
                go_region_law (first | (go_simp; go_at_call 95; refine (KB.out _).mono ?_; rintro e w6 ⟨rfl, hb'⟩; have hb6 := drew_below hb'))
                all_goals
                  go_wp2
                  go_ret
                  exact ⟨ret_bool (by rw [HRk.out]; rfl), bt HB5.out hb6⟩
              case false =>
                go_wp2_with fail
                go_region_law (first | (go_simp; go_at_call 95; refine (KB.out _).mono ?_; rintro e w6 ⟨rfl, hb'⟩; have hb6 := drew_below hb'))
                all_goals
                  have HF : Hid (Below w.heap.size w w6 ∧ R = numB x y (n - (k + 1)) (k + 1)) := hid ⟨bt HB5.out hb6, by rw [HRk.out]; rfl⟩
                  clear hb' hb6
                  go_wp2
                  go_roundw
                  case rel => exact ⟨k + 1, by omega, by go_num, HF⟩
                  case measure => simp [intOf]; omega
        · obtain rfl : k = n := by omega
          have i1 : ¬ ((k : Int) < (k : Int)) := by omega
          have HX := hH
          clear hH
          go_wp2
          go_ret
          refine ⟨ret_bool ?_, HX.out.1⟩
          rw [HX.out.2, Nat.sub_self]
          rfl

end Go.Proofs.Ytnmcgbfhgmmcpaa

/-
  Plain mathematics of spec.CoverOf: its demands say 'a cover' | 'a packing'.
-/
namespace Go.Proofs.Ytnmcgbfhgmmcpaa
open Go.RowKit

def unitsD (n : Nat) : List Dem := (List.range n).map fun i => ⟨[i], false, 0⟩
def rowsD (L : List (List Nat)) : List Dem := L.map fun l => ⟨l, false, 1⟩
def capsD (L : List (List Nat)) : List Dem := (L.filter fun l => !l.isEmpty).map fun l => ⟨l, true, 1⟩
def coverD (bag : List Int) (es : List (List Int)) : List Dem := rowsD (coverL bag es) ++ unitsD es.length
def packD (bag : List Int) (es : List (List Int)) : List Dem := capsD (packL bag es) ++ unitsD bag.length

theorem unit_at {n i : Nat} (hi : i < n) (b : Bool) (z : Int) (x : Nat → Rat) : (Dem.dm ⟨[i], b, z⟩).at n x = x i := by
  show Cov.sm n (fun j => (if j ∈ [i] then 1 else 0) * x j) = x i
  rw [Cov.sm_single hi (fun j _ hne => by rw [if_neg (fun h => hne (List.mem_singleton.1 h))]; grind), if_pos (List.mem_singleton.2 rfl)]
  grind

theorem unitsD_meets {n : Nat} {x : Nat → Rat} : (∀ D ∈ unitsD n, D.dm.meets n x) ↔ ∀ i, i < n → 0 ≤ x i := by
  constructor
  · intro h i hi
    have := h ⟨[i], false, 0⟩ (List.mem_map.2 ⟨i, List.mem_range.2 hi, rfl⟩)
    have e := unit_at hi false 0 x
    unfold Cov.Dm.meets at this
    rw [e] at this
    exact this
  · intro h D hD
    obtain ⟨i, hi, rfl⟩ := List.mem_map.1 hD
    have hi := List.mem_range.1 hi
    unfold Cov.Dm.meets
    rw [unit_at hi]
    exact h i hi

theorem getD_of_mem {L : List (List Nat)} {l : List Nat} (h : l ∈ L) : ∃ r, r < L.length ∧ L.getD r [] = l := mem_getD' h

theorem inP_cover {bag : List Int} {es : List (List Int)} {x : Nat → Rat} : InP es.length (coverD bag es) x ↔ Cov.Cover bag.length es.length (inc (coverL bag es)) x := by
  unfold InP coverD Cov.Cover
  rw [show (∀ D ∈ rowsD (coverL bag es) ++ unitsD es.length, D.dm.meets es.length x) ↔ (∀ D ∈ rowsD (coverL bag es), D.dm.meets es.length x) ∧ (∀ D ∈ unitsD es.length, D.dm.meets es.length x) from
    ⟨fun h => ⟨fun D hD => h D (List.mem_append.2 (Or.inl hD)), fun D hD => h D (List.mem_append.2 (Or.inr hD))⟩, fun h D hD => (List.mem_append.1 hD).elim (h.1 D) (h.2 D)⟩, unitsD_meets, and_comm]
  refine and_congr Iff.rfl ?_
  constructor
  · intro h r hr
    rw [← coverL_len bag es] at hr
    exact h ⟨(coverL bag es).getD r [], false, 1⟩ (List.mem_map.2 ⟨_, getD_mem' hr, rfl⟩)
  · intro h D hD
    obtain ⟨l, hl, rfl⟩ := List.mem_map.1 hD
    obtain ⟨r, hr, rfl⟩ := getD_of_mem hl
    rw [coverL_len] at hr
    exact h r hr

theorem inP_pack {bag : List Int} {es : List (List Int)} {x : Nat → Rat} : InP bag.length (packD bag es) x ↔ Cov.Pack es.length bag.length (inc (packL bag es)) x := by
  unfold InP packD Cov.Pack
  rw [show (∀ D ∈ capsD (packL bag es) ++ unitsD bag.length, D.dm.meets bag.length x) ↔ (∀ D ∈ capsD (packL bag es), D.dm.meets bag.length x) ∧ (∀ D ∈ unitsD bag.length, D.dm.meets bag.length x) from
    ⟨fun h => ⟨fun D hD => h D (List.mem_append.2 (Or.inl hD)), fun D hD => h D (List.mem_append.2 (Or.inr hD))⟩, fun h D hD => (List.mem_append.1 hD).elim (h.1 D) (h.2 D)⟩, unitsD_meets, and_comm]
  refine and_congr Iff.rfl ?_
  constructor
  · intro h r hr
    rw [← packL_len bag es] at hr
    by_cases he : (packL bag es).getD r [] = []
    · have : Cov.sm bag.length (fun e => inc (packL bag es) r e * x e) = 0 := Cov.sm_zero (fun i _ => by
        unfold inc
        rw [he, if_neg (by simp)]; grind)
      rw [this]
      decide
    · exact h ⟨(packL bag es).getD r [], true, 1⟩ (List.mem_map.2 ⟨_, List.mem_filter.2 ⟨getD_mem' hr, by simpa using he⟩, rfl⟩)
  · intro h D hD
    obtain ⟨l, hl, rfl⟩ := List.mem_map.1 hD
    obtain ⟨r, hr, rfl⟩ := getD_of_mem (List.mem_filter.1 hl).1
    rw [packL_len] at hr
    exact h r hr

theorem star_cover {bag : List Int} {es : List (List Int)} {x : Nat → Rat} (h : CoverBest bag.length es.length (inc (coverL bag es)) x) : Star es.length false (coverD bag es) x :=
  ⟨inP_cover.2 h.1, fun y hy => h.2 y (inP_cover.1 hy)⟩
theorem star_pack {bag : List Int} {es : List (List Int)} {x : Nat → Rat} (h : PackBest es.length bag.length (inc (packL bag es)) x) : Star bag.length true (packD bag es) x :=
  ⟨inP_pack.2 h.1, fun y hy => h.2 y (inP_pack.1 hy)⟩

theorem plN_nodup (p : Nat → Bool) (k : Nat) : (plN p k).Nodup := List.Pairwise.filter _ List.nodup_range

theorem coverD_ok {bag : List Int} {es : List (List Int)} (he : es.length ≤ 7) : ∀ D ∈ coverD bag es, DemOk es.length D := by
  intro D hD
  rcases List.mem_append.1 hD with h | h
  · obtain ⟨l, hl, rfl⟩ := List.mem_map.1 h
    obtain ⟨v, _, rfl⟩ := List.mem_map.1 hl
    exact ⟨plN_nodup _ _, fun i hi => (plN_mem.1 hi).1, Nat.le_trans (plN_len _ _) he, Or.inr rfl⟩
  · obtain ⟨i, hi, rfl⟩ := List.mem_map.1 h
    exact ⟨by simp, fun j hj => by rw [List.mem_singleton.1 hj]; exact List.mem_range.1 hi, by simp, Or.inl rfl⟩

theorem packD_ok {bag : List Int} {es : List (List Int)} (he : bag.length ≤ 6) : ∀ D ∈ packD bag es, DemOk bag.length D := by
  intro D hD
  rcases List.mem_append.1 hD with h | h
  · obtain ⟨l, hl, rfl⟩ := List.mem_map.1 h
    obtain ⟨v, _, rfl⟩ := List.mem_map.1 (List.mem_filter.1 hl).1
    exact ⟨plN_nodup _ _, fun i hi => (plN_mem.1 hi).1, Nat.le_trans (plN_len _ _) (by omega), Or.inr rfl⟩
  · obtain ⟨i, hi, rfl⟩ := List.mem_map.1 h
    exact ⟨by simp, fun j hj => by rw [List.mem_singleton.1 hj]; exact List.mem_range.1 hi, by simp, Or.inl rfl⟩

theorem coverD_len (bag : List Int) (es : List (List Int)) : (coverD bag es).length = bag.length + es.length := by
  simp [coverD, rowsD, unitsD, coverL_len]
theorem packD_len (bag : List Int) (es : List (List Int)) : (packD bag es).length ≤ es.length + bag.length := by
  have := List.length_filter_le (fun l : List Nat => !l.isEmpty) (packL bag es)
  rw [packL_len] at this
  simp only [packD, capsD, unitsD, List.length_append, List.length_map, List.length_range]
  omega

theorem prs_congr {n : Nat} {x y : Nat → Rat} (h : ∀ i, i < n → x i = y i) : prs n x = prs n y := by
  unfold prs
  exact List.map_congr_left (fun i hi => by rw [h i (List.mem_range.1 hi)])

theorem sm_none {n : Nat} {x : Nat → Rat} (h : ∀ i, i < n → 0 ≤ x i) (hs : Cov.sm n x ≤ 0) : ∀ i, i < n → x i = 0 := by
  have key : ∀ k, k ≤ n → 0 ≤ Cov.sm k x := by
    intro k hk
    induction k with
    | zero => exact Rat.le_refl
    | succ k ih =>
      have h1 := ih (by omega)
      have h2 := h k (by omega)
      show 0 ≤ Cov.sm k x + x k
      grind
  have : ∀ k, k ≤ n → Cov.sm k x ≤ 0 → ∀ i, i < k → x i = 0 := by
    intro k hk
    induction k with
    | zero => intro _ i hi; omega
    | succ k ih =>
      intro hs i hi
      have h1 := key k (by omega)
      have h2 := h k (by omega)
      have h3 : Cov.sm k x + x k ≤ 0 := hs
      by_cases e : i = k
      · subst e; grind
      · exact ih (by omega) (by grind) i (by omega)
  exact this n (Nat.le_refl _) hs

theorem cover_none {u : Nat} {M : Nat → Nat → Rat} {x : Nat → Rat} (h : CoverBest 0 u M x) : ∀ i, i < u → x i = 0 := by
  have h1 := h.2 (fun _ => 0) ⟨fun _ _ => Rat.le_refl, fun r hr => by omega⟩
  have e : Cov.sm u (fun _ => (0 : Rat)) = 0 := Cov.sm_zero (fun _ _ => rfl)
  refine sm_none h.1.1 ?_
  rcases h1 with h1 | ⟨h1, _⟩
  · rw [e] at h1; grind
  · rw [e] at h1; grind

end Go.Proofs.Ytnmcgbfhgmmcpaa
