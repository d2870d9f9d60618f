import Derived.Test.YtnmcgbfhgmmcpaaW28
import Derived.Test.YtnmcgbfhgmmcpaaW29
/-
  spec.l1Corner: where n demands are chosen; where too few are left.
-/
namespace Go.Proofs.Ytnmcgbfhgmmcpaa
open Go.RowKit

/-- what l1Corner answers -/
def CornerIs (n : Nat) (all : List Dem) (xs : Nat → Rat) (k : Nat) (ch : List Dem) (best : Option (Nat → Rat)) (e : Ending) (w' : World) : Prop :=
  ∃ v best', e = .returned v ∧ BestAt w' n all v best' ∧ ((isStar n xs best ∨ Compl n all xs k ch) → isStar n xs best')

theorem solve_no (w : World) (vc : Value) (n : Nat) (ps : List (Value × Dem)) (hn1 : 1 ≤ n) (hn : n ≤ 7) (hl : ps.length = n) (hc : DP w vc ps) (hok : ∀ p ∈ ps, DemOk n p.2) (hk : ¬ Cov.Kern n ((ps.map Prod.snd).map Dem.dm)) :
    Calls Try.prog 83 #[.int .i64 n, vc] w fun e w' => e = .returned (.tuple #[.slice none 0 0, .bool false]) ∧ Below w.heap.size w w' :=
  (l1Solve_calls w vc n ps hn1 hn hl hc hok).mono (by
    rintro e w' ⟨h | ⟨v, x, rfl, h1, h2, h3, h4⟩, hb⟩
    · exact ⟨h.1, hb⟩
    · exact absurd h4 hk)

theorem solve_yes (w : World) (vc : Value) (n : Nat) (ps : List (Value × Dem)) (hn1 : 1 ≤ n) (hn : n ≤ 7) (hl : ps.length = n) (hc : DP w vc ps) (hok : ∀ p ∈ ps, DemOk n p.2) (hk : Cov.Kern n ((ps.map Prod.snd).map Dem.dm)) :
    Calls Try.prog 83 #[.int .i64 n, vc] w fun e w' => ∃ v x, e = .returned (.tuple #[v, .bool true]) ∧ IR w' v (prs n x) ∧ Parts n x ∧ Only n (ps.map Prod.snd) x ∧ Below w.heap.size w w' :=
  (l1Solve_calls w vc n ps hn1 hn hl hc hok).mono (by
    rintro e w' ⟨h | ⟨v, x, rfl, h1, h2, h3, h4⟩, hb⟩
    · exact absurd hk h.2
    · exact ⟨v, x, rfl, h1, h2, h3, hb⟩)

theorem only_star {n : Nat} {all : List Dem} {xs x : Nat → Rat} {k : Nat} {ch : List Dem} (hc : ch.length = n) (ho : Only n ch x) (h : Compl n all xs k ch) : ∀ i, i < n → x i = xs i :=
  fun i hi => (ho xs (compl_full h hc).1 i hi).symm

theorem meets_congr {n : Nat} {D : Dem} {x y : Nat → Rat} (h : ∀ i, i < n → x i = y i) (hm : D.dm.meets n x) : D.dm.meets n y := by
  unfold Cov.Dm.meets at hm ⊢
  rw [← Cov.at_congr D.dm h]
  exact hm

theorem BestAt.form {w : World} {n : Nat} {all : List Dem} {v : Value} {b : Option (Nat → Rat)} (h : BestAt w n all v b) : ∃ a lb cap, v = .slice a lb cap ∧ Hid ((b = none → lb = 0) ∧ (b ≠ none → lb = n)) := by
  cases b with
  | none =>
    obtain ⟨a, cap, e⟩ := h
    exact ⟨a, 0, cap, e, hid ⟨fun _ => rfl, fun h => absurd rfl h⟩⟩
  | some b =>
    obtain ⟨⟨a, cap, e, -⟩, -⟩ := h
    rw [prs_length] at e
    exact ⟨a, n, cap, e, hid ⟨(fun h => by cases h), fun _ => rfl⟩⟩

set_option maxHeartbeats 4000000 in
set_option maxRecDepth 100000 in
theorem l1Corner_leaf (n : Nat) (most : Bool) (aps : List (Value × Dem)) (xs : Nat → Rat) (hn1 : 1 ≤ n) (hn : n ≤ 7) (hal : aps.length ≤ 100) (haok : ∀ p ∈ aps, DemOk n p.2) (hS : Star n most (aps.map Prod.snd) xs)
    (w : World) (k : Nat) (va vc vb : Value) (cps : List (Value × Dem)) (best : Option (Nat → Rat)) (ha : DP w va aps) (hc : DP w vc cps) (hcl : cps.length = n) (hcok : ∀ p ∈ cps, DemOk n p.2) (hb : BestAt w n (aps.map Prod.snd) vb best) :
    Calls Try.prog 39 #[.int .i64 n, va, .int .i64 k, vc, vb, .bool most] w fun e w' => CornerIs n (aps.map Prod.snd) xs k (cps.map Prod.snd) best e w' ∧ Below w.heap.size w w' := by
  obtain ⟨all, hall⟩ : ∃ all, all = aps.map Prod.snd := ⟨_, rfl⟩
  rw [← hall] at hS hb ⊢
  obtain ⟨ch, hch⟩ : ∃ ch, ch = cps.map Prod.snd := ⟨_, rfl⟩
  rw [← hch]
  have hchl : ch.length = n := by rw [hch, List.length_map]; exact hcl
  obtain ⟨ab, lb, cb, rfl, HLB⟩ := hb.form
  have HBst := hid hb
  have HS := hid hS
  by_cases hk : Cov.Kern n (ch.map Dem.dm)
  · have KS : Hid (Calls Try.prog 83 #[.int .i64 n, vc] w fun e w' => ∃ v x, e = .returned (.tuple #[v, .bool true]) ∧ IR w' v (prs n x) ∧ Parts n x ∧ Only n ch x ∧ Below w.heap.size w w') := hid (by rw [hch] at hk ⊢; exact solve_yes w vc n cps hn1 hn hcl hc hcok hk)
    obtain ⟨⟨av, cv, rfl, _⟩, _⟩ := hc
    obtain ⟨⟨aa, ca, rfl, hacell⟩, haeach⟩ := ha
    obtain ⟨m, hm⟩ : ∃ m, m = aps.length := ⟨_, rfl⟩
    have HA : Hid (∀ j, j < m → ∃ b o u d, aa = some ⟨b, o, none⟩ ∧ all.getD j dem0 = d ∧ d ∈ all ∧ DemOk n d ∧ IntsAt w u d.pl ∧ w.cell? ⟨b, o + j * 3, none⟩ = some u ∧ w.cell? ⟨b, o + j * 3 + 1, none⟩ = some (.bool d.up) ∧ w.cell? ⟨b, o + j * 3 + 2, none⟩ = some (.int .i64 d.bd)) := hid (fun j hj => by
      rcases hacell with h0 | ⟨b, o, e, hcs⟩
      · omega
      · have hmm : aps.getD j pd0 ∈ aps := getD_mem' (by omega)
        obtain ⟨h1, h2, h3⟩ := dcs_get aps j (by omega)
        exact ⟨b, o, (aps.getD j pd0).1, (aps.getD j pd0).2, e, by rw [hall]; exact map_snd_get aps j, by rw [hall]; exact List.mem_map.2 ⟨_, hmm, rfl⟩, haok _ hmm, haeach _ hmm, hcs _ _ h1, hcs _ _ h2, hcs _ _ h3⟩)
    have HAL : Hid (all.length = m) := hid (by rw [hall, List.length_map, hm])
    rw [hcl] at KS ⊢
    rw [← hm] at hal ⊢
    clear hk hacell haeach haok hcok hb hS hall hch hm
    go_enter Try.func39, Try.ntmps39
    go_upto_region 3 with (first | (go_at_call 83; refine KS.out.mono ?_; rintro e w1 ⟨vx, x, rfl, hx, hp, ho, hb1⟩))
    have HX := hid hx
    have HP := hid hp
    have HO := hid ho
    have HB1 := hid hb1
    obtain ⟨ax, cx, rfl, -⟩ := hx
    rw [prs_length] at HX ⊢
    clear hp ho hb1 KS
    go_wp2
    go_loopw [33] (fun t wr => ∃ j : Nat, j ≤ m ∧ t = .int .i64 j ∧ Hid (Below w1.heap.size w1 wr ∧ ∀ i, i < j → (all.getD i dem0).dm.meets n x)) (fun t _ => m - (intOf t).toNat)
    case atStart => exact ⟨0, Nat.zero_le _, rfl, hid ⟨Below.refl _ _, fun i hi => by omega⟩⟩
    case round =>
      obtain ⟨j, hj, rfl, hH⟩ := hrel
      have HW := hid (bt HB1.out hH.out.1)
      have HMe := hid hH.out.2
      have HW1 := hid hH.out.1
      clear hH
      by_cases hjm : j < m
      · have i1 : (j : Int) < (m : Int) := by omega
        obtain ⟨b, o, u, d, rfl, hd, hdm, hdk, hu, e1, e2, e3⟩ := HA.out j hjm
        have c1 := (HW.out.cell (p := ⟨b, o + j * 3, none⟩) (World.block_lt_of_cell? w _ e1)).trans e1
        have c2 := (HW.out.cell (p := ⟨b, o + j * 3 + 1, none⟩) (World.block_lt_of_cell? w _ e2)).trans e2
        have c3 := (HW.out.cell (p := ⟨b, o + j * 3 + 2, none⟩) (World.block_lt_of_cell? w _ e3)).trans e3
        have hu' := hu.below HW.out
        have KM : Hid (∀ W, Below wr.heap.size wr W → Calls Try.prog 84 #[.slice ax n cx, .agg #[u, .bool d.up, .int .i64 d.bd]] W fun e w' => e = .returned (.bool (metB n d x)) ∧ Below W.heap.size W w') := hid (fun W hW => l1Meets_calls W _ u n d x (HX.out.below (bt HW1.out hW)) (hu'.below hW) hdk HP.out)
        have HD := hid (And.intro hd hdm)
        obtain ⟨au, cu, rfl, -⟩ := hu
        obtain ⟨q, hq⟩ : ∃ q, q = d.pl.length := ⟨_, rfl⟩
        rw [← hq] at c1 KM
        have hbd : -1 ≤ d.bd ∧ d.bd ≤ 1 := by rcases hdk.bd with h | h <;> omega
        clear hd hdm hdk e1 e2 e3 hu' hq
        cases hmt : metB n d x
        · rw [hmt] at KM
          have hW2 : ∀ o, Below wr.heap.size wr (wr.alloc o) := fun o => (Below.refl _ _).alloc (Nat.le_refl _) o
          have HW2 := hid hW2
          have HMT := hid hmt
          clear hmt hW2
          go_wp2_with (first | (go_at_call 84; refine (KM.out _ (HW2.out _)).mono ?_; rintro e w2 ⟨rfl, hb2⟩))
          go_ret
          have hbx := bt HW.out (bt (HW2.out _) hb2)
          refine ⟨⟨_, best, rfl, HBst.out.below hbx, fun h => h.elim id (fun h => ?_)⟩, hbx⟩
          exfalso
          have h1 := only_star hchl HO.out h
          have h2 := metB_iff.2 (meets_congr (fun i hi => (h1 i hi).symm) (HS.out.meets d HD.out.2))
          rw [HMT.out] at h2
          cases h2
        · rw [hmt] at KM
          have hW2 : ∀ o, Below wr.heap.size wr (wr.alloc o) := fun o => (Below.refl _ _).alloc (Nat.le_refl _) o
          have HW2 := hid hW2
          have HMT := hid hmt
          clear hmt hW2
          go_wp2_with (first | (go_at_call 84; refine (KM.out _ (HW2.out _)).mono ?_; rintro e w2 ⟨rfl, hb2⟩))
          go_roundw
          case rel => exact ⟨j + 1, by omega, by go_num, hid ⟨bt HW1.out (bt (HW2.out _) hb2), fun i hi => by
            by_cases e : i = j
            · rw [e, HD.out.1]; exact metB_iff.1 HMT.out
            · exact HMe.out i (by omega)⟩⟩
          case measure => simp [intOf]; omega
      · obtain rfl : m = j := by omega
        have i1 : ¬ ((m : Int) < (m : Int)) := by omega
        have HIn : Hid (InP n all x) := hid (fun D hD => by
          obtain ⟨r, hr, rfl⟩ := mem_getD' (d := dem0) hD
          exact HMe.out r (by rw [← HAL.out]; exact hr))
        have HXr := hid (HX.out.below HW1.out)
        cases best with
        | none =>
          obtain rfl : lb = 0 := HLB.out.1 rfl
          go_wp2
          go_ret
          refine ⟨⟨_, some x, rfl, ⟨HXr.out, HIn.out, HP.out⟩, fun h => h.elim (fun h => False.elim h) (fun h => only_star hchl HO.out h)⟩, HW.out⟩
        | some bb =>
          obtain rfl : n = lb := (HLB.out.2 (by simp)).symm
          have hbr := HBst.out.below HW.out
          have i2 : ¬ ((n : Int) = 0) := by omega
          have i3 : ((n : Int) == 0) = false := by simp; omega
          have KB : Hid (Calls Try.prog 85 #[.slice ax n cx, .slice ab n cb, .bool most] wr fun e w' => e = .returned (.bool (befB n most x bb)) ∧ Below wr.heap.size wr w') := hid (l1Before_calls wr _ _ n most x bb hn HXr.out hbr.1 HP.out hbr.2.2)
          have HBR := hid hbr
          clear hbr
          cases hbf : befB n most x bb
          · rw [hbf] at KB
            have HBF := hid hbf
            clear hbf
            go_wp2_with (first | (go_at_call 85; refine KB.out.mono ?_; rintro e w2 ⟨rfl, hb2⟩))
            go_ret
            refine ⟨⟨_, some bb, rfl, HBR.out.below hb2, fun h => h.elim id (fun h => ?_)⟩, bt HW.out hb2⟩
            exact leaf_keep HS.out HBR.out.2.1 HBF.out (only_star hchl HO.out h)
          · rw [hbf] at KB
            have HBF := hid hbf
            clear hbf
            go_wp2_with (first | (go_at_call 85; refine KB.out.mono ?_; rintro e w2 ⟨rfl, hb2⟩))
            go_ret
            refine ⟨⟨_, some x, rfl, ⟨HXr.out.below hb2, HIn.out, HP.out⟩, fun h => h.elim (fun h => ?_) (fun h => only_star hchl HO.out h)⟩, bt HW.out hb2⟩
            exact leaf_take HS.out HIn.out HBF.out h
  · have KS : Hid (Calls Try.prog 83 #[.int .i64 n, vc] w fun e w' => e = .returned (.tuple #[.slice none 0 0, .bool false]) ∧ Below w.heap.size w w') := hid (by rw [hch] at hk; exact solve_no w vc n cps hn1 hn hcl hc hcok hk)
    obtain ⟨⟨av, cv, rfl, _⟩, _⟩ := hc
    obtain ⟨⟨aa, ca, rfl, _⟩, _⟩ := ha
    rw [hcl] at KS ⊢
    have HK := hid hk
    clear hk haok hcok hb hS hall hch
    go_enter Try.func39, Try.ntmps39
    go_wp2_with (first | (go_at_call 83; refine KS.out.mono ?_; rintro e w1 ⟨rfl, hb1⟩))
    go_ret
    refine ⟨⟨_, best, rfl, HBst.out.below hb1, fun h => h.elim id (fun h => ?_)⟩, hb1⟩
    exact absurd (compl_full h hchl).2 HK.out

set_option maxHeartbeats 1000000 in
set_option maxRecDepth 100000 in
theorem l1Corner_stop (n : Nat) (most : Bool) (aps : List (Value × Dem)) (xs : Nat → Rat) (hn : n ≤ 7) (hal : aps.length ≤ 100)
    (w : World) (k : Nat) (hk : k ≤ aps.length) (va vc vb : Value) (cps : List (Value × Dem)) (best : Option (Nat → Rat)) (ha : DP w va aps) (hc : DP w vc cps) (hcl : cps.length < n) (hb : BestAt w n (aps.map Prod.snd) vb best) (hst : aps.length < k + n - cps.length) :
    Calls Try.prog 39 #[.int .i64 n, va, .int .i64 k, vc, vb, .bool most] w fun e w' => CornerIs n (aps.map Prod.snd) xs k (cps.map Prod.snd) best e w' ∧ Below w.heap.size w w' := by
  obtain ⟨ab, lb, cb, rfl, HLB⟩ := hb.form
  have HBst := hid hb
  have HC : Hid (¬ Compl n (aps.map Prod.snd) xs k (cps.map Prod.snd)) := hid (fun h => compl_none h (by rw [List.length_map, List.length_map]; exact hst) (by rw [List.length_map]; exact hk))
  obtain ⟨⟨av, cv, rfl, _⟩, _⟩ := hc
  obtain ⟨⟨aa, ca, rfl, _⟩, _⟩ := ha
  clear hb
  generalize hm : aps.length = m at *
  generalize hq : cps.length = q at *
  have i1 : ¬ ((q : Int) = (n : Int)) := by omega
  have i2 : ((q : Int) == (n : Int)) = false := by simp; omega
  have i3 : (m : Int) < (k : Int) + (n : Int) - (q : Int) := by omega
  clear hm hq
  go_enter Try.func39, Try.ntmps39
  go_wp2
  go_ret
  exact ⟨⟨_, best, rfl, HBst.out, fun h => h.elim id (fun h => absurd h HC.out)⟩, Below.refl _ _⟩

end Go.Proofs.Ytnmcgbfhgmmcpaa
