import Derived.Test.YtegcpplkcahkhaaGreatB04
/-
  Lists in order: cmp.Compare, slices.Compare, spec.l2Compare.
-/
namespace Go.Proofs.YtegcpplkcahkhaaGreat
open Go.RowKit

def cmpL : List Int → List Int → Int
  | [], [] => 0
  | [], _ :: _ => -1
  | _ :: _, [] => 1
  | x :: a, y :: b => if x < y then -1 else if y < x then 1 else cmpL a b

theorem drop_getD {l : List Int} {j : Nat} (h : j < l.length) : l.drop j = l.getD j 0 :: l.drop (j + 1) := by
  rw [List.getD_eq_getElem?_getD, List.getElem?_eq_getElem h]
  exact List.drop_eq_getElem_cons h

theorem cmpL_drop (a b : List Int) : ∀ j, j ≤ a.length → j ≤ b.length → (∀ i, i < j → a.getD i 0 = b.getD i 0) → cmpL a b = cmpL (a.drop j) (b.drop j) := by
  intro j
  induction j with
  | zero => intros; simp
  | succ j ih =>
    intro h1 h2 h3
    rw [ih (by omega) (by omega) (fun i hi => h3 i (by omega)), drop_getD (show j < a.length by omega), drop_getD (show j < b.length by omega), h3 j (by omega)]
    simp [cmpL]

theorem cmpL_lt {a b : List Int} {j : Nat} (h1 : j < a.length) (h2 : j < b.length) (h3 : ∀ i, i < j → a.getD i 0 = b.getD i 0) (h4 : a.getD j 0 < b.getD j 0) : cmpL a b = -1 := by
  rw [cmpL_drop a b j (by omega) (by omega) h3, drop_getD h1, drop_getD h2]
  simp only [cmpL]
  rw [if_pos h4]

theorem cmpL_gt {a b : List Int} {j : Nat} (h1 : j < a.length) (h2 : j < b.length) (h3 : ∀ i, i < j → a.getD i 0 = b.getD i 0) (h4 : b.getD j 0 < a.getD j 0) : cmpL a b = 1 := by
  rw [cmpL_drop a b j (by omega) (by omega) h3, drop_getD h1, drop_getD h2]
  simp only [cmpL]
  rw [if_neg (by omega), if_pos h4]

theorem cmpL_short {a b : List Int} (h2 : a.length < b.length) (h3 : ∀ i, i < a.length → a.getD i 0 = b.getD i 0) : cmpL a b = -1 := by
  rw [cmpL_drop a b a.length (by omega) (by omega) h3, drop_getD h2, List.drop_length]
  rfl

theorem cmpL_long {a b : List Int} (h2 : b.length < a.length) (h3 : ∀ i, i < b.length → a.getD i 0 = b.getD i 0) : cmpL a b = 1 := by
  rw [cmpL_drop a b b.length (by omega) (by omega) h3, drop_getD h2, List.drop_length]
  rfl

theorem cmpL_same {a b : List Int} (h2 : a.length = b.length) (h3 : ∀ i, i < a.length → a.getD i 0 = b.getD i 0) : cmpL a b = 0 := by
  rw [cmpL_drop a b a.length (by omega) (by omega) h3, List.drop_length, h2, List.drop_length]
  rfl

def cmpI (x y : Int) : Int := if x < y then -1 else if y < x then 1 else 0

set_option maxHeartbeats 400000 in
theorem cmpInt_calls (w : World) (x y : Int) :
    Calls Tryz.prog 108 #[.int .i64 x, .int .i64 y] w fun e w' => e = .returned (.int .i64 (cmpI x y)) ∧ w' = w := by
  have hx : (x != x) = false := by simp
  have hy : (y != y) = false := by simp
  unfold cmpI
  by_cases h1 : x < y
  · rw [if_pos h1]
    go_enter Tryz.func108, Tryz.ntmps108
    go_wp2
    go_ret
    exact ⟨rfl, rfl⟩
  · rw [if_neg h1]
    by_cases h2 : y < x
    · rw [if_pos h2]
      go_enter Tryz.func108, Tryz.ntmps108
      go_wp2
      go_ret
      exact ⟨rfl, rfl⟩
    · rw [if_neg h2]
      go_enter Tryz.func108, Tryz.ntmps108
      go_wp2
      go_ret
      exact ⟨rfl, rfl⟩

end Go.Proofs.YtegcpplkcahkhaaGreat

/-
  Lists in order: slices.Compare, spec.l2Compare.
-/
namespace Go.Proofs.YtegcpplkcahkhaaGreat
open Go.RowKit

theorem agree_step {la lb : List Int} {j : Nat} (h : ∀ i, i < j → la.getD i 0 = lb.getD i 0) (e : la.getD j 0 = lb.getD j 0) : ∀ i, i < j + 1 → la.getD i 0 = lb.getD i 0 := fun i hi => by
  by_cases e2 : i = j
  · rw [e2]; exact e
  · exact h i (by omega)

set_option maxHeartbeats 2000000 in
set_option maxRecDepth 1000000 in
theorem sCompare_calls (w : World) (va vb : Value) (la lb : List Int) (ha : IS w va la) (hb : IS w vb lb) (hl : la.length ≤ 1099511627776) (hl2 : lb.length ≤ 1099511627776) :
    Calls Tryz.prog 90 #[va, vb] w fun e w' => e = .returned (.int .i64 (cmpL la lb)) ∧ w' = w := by
  obtain ⟨a, cap, rfl, hc⟩ := ha
  obtain ⟨a', cap', rfl, hc'⟩ := hb
  obtain ⟨n, hn⟩ : ∃ n, n = la.length := ⟨_, rfl⟩
  obtain ⟨m, hm⟩ : ∃ m, m = lb.length := ⟨_, rfl⟩
  obtain ⟨res, hres⟩ : ∃ r, r = cmpL la lb := ⟨_, rfl⟩
  rw [← hres]
  rw [← hn] at hc hl ⊢
  rw [← hm] at hc' hl2 ⊢
  have HR := hid hres
  have HC := hid hc
  have HC' := hid hc'
  have HN := hid hn
  have HM := hid hm
  clear hc hc' hn hm hres
  go_enter Tryz.func90, Tryz.ntmps90
  go_wp2
  go_loop [11] (fun t => ∃ j : Nat, j ≤ n ∧ j ≤ m ∧ t = .int .i64 j ∧ Hid (∀ i, i < j → la.getD i 0 = lb.getD i 0)) (fun t => n - (intOf t).toNat)
  case atStart => exact ⟨0, Nat.zero_le _, Nat.zero_le _, rfl, hid (fun i hi => by omega)⟩
  case round =>
    obtain ⟨j, hj, hjm, rfl, hok⟩ := hrel
    by_cases hjn : j < n
    · have i1 : (j : Int) < (n : Int) := by omega
      rcases HC.out with h0 | ⟨b, o, rfl, hcell⟩
      · omega
      · have c1 : w.cell? ⟨b, o + j, none⟩ = some (.int .i64 (la.getD j 0)) := hcell j hjn
        by_cases hjm' : j < m
        · have i2 : ¬ ((m : Int) ≤ (j : Int)) := by omega
          rcases HC'.out with h0 | ⟨b', o', rfl, hcell'⟩
          · omega
          · have c2 : w.cell? ⟨b', o' + j, none⟩ = some (.int .i64 (lb.getD j 0)) := hcell' j hjm'
            have HK := hid (cmpInt_calls w (la.getD j 0) (lb.getD j 0))
            have f1 : la.getD j 0 < lb.getD j 0 → Hid (res = -1) := fun e => HR.out.trans (cmpL_lt (by rw [← HN.out]; exact hjn) (by rw [← HM.out]; exact hjm') hok.out e)
            have f2 : lb.getD j 0 < la.getD j 0 → Hid (res = 1) := fun e => HR.out.trans (cmpL_gt (by rw [← HN.out]; exact hjn) (by rw [← HM.out]; exact hjm') hok.out e)
            have f3 : la.getD j 0 = lb.getD j 0 → Hid (∀ i, i < j + 1 → la.getD i 0 = lb.getD i 0) := agree_step hok.out
            clear hcell hcell' hok
            unfold cmpI at HK
            generalize la.getD j 0 = x at *
            generalize lb.getD j 0 = y at *
            by_cases h1 : x < y
            · have hf := f1 h1
              rw [if_pos h1] at HK
              clear f1 f2 f3
              go_wp2_with (first | (go_at_call 108; refine HK.out.mono ?_; rintro e w' ⟨rfl, hw'⟩; subst w'))
              go_ret
              exact ⟨ret_int hf.out.symm, rfl⟩
            · by_cases h2 : y < x
              · have hf := f2 h2
                rw [if_neg h1, if_pos h2] at HK
                clear f1 f2 f3
                go_wp2_with (first | (go_at_call 108; refine HK.out.mono ?_; rintro e w' ⟨rfl, hw'⟩; subst w'))
                go_ret
                exact ⟨ret_int hf.out.symm, rfl⟩
              · have hf := f3 (by omega)
                rw [if_neg h1, if_neg h2] at HK
                clear f1 f2 f3
                go_wp2_with (first | (go_at_call 108; refine HK.out.mono ?_; rintro e w' ⟨rfl, hw'⟩; subst w'))
                go_round
                case rel => exact ⟨j + 1, by omega, by omega, by go_num, hf⟩
                case measure => simp [intOf]; omega
        · have i2 : (m : Int) ≤ (j : Int) := by omega
          obtain rfl : j = m := by omega
          have hf : Hid (res = 1) := HR.out.trans (cmpL_long (by rw [← HN.out, ← HM.out]; exact hjn) (by rw [← HM.out]; exact hok.out))
          clear hcell hok
          go_wp2
          go_ret
          exact ⟨ret_int hf.out.symm, rfl⟩
    · obtain rfl : j = n := by omega
      have i1 : ¬ ((j : Int) < (j : Int)) := by omega
      by_cases hjm' : j < m
      · have i2 : (j : Int) < (m : Int) := by omega
        have hf : Hid (res = -1) := HR.out.trans (cmpL_short (by rw [← HN.out, ← HM.out]; exact hjm') (by rw [← HN.out]; exact hok.out))
        clear hok
        go_wp2
        go_ret
        exact ⟨ret_int hf.out.symm, rfl⟩
      · have i2 : ¬ ((j : Int) < (m : Int)) := by omega
        have hf : Hid (res = 0) := HR.out.trans (cmpL_same (by rw [← HN.out, ← HM.out]; omega) (by rw [← HN.out]; exact hok.out))
        clear hok
        go_wp2
        go_ret
        exact ⟨ret_int hf.out.symm, rfl⟩

set_option maxHeartbeats 2000000 in
set_option maxRecDepth 1000000 in
theorem l2Compare_calls (w : World) (va vb : Value) (la lb : List Int) (ha : IS w va la) (hb : IS w vb lb) (hl : la.length ≤ 1099511627776) (hl2 : lb.length ≤ 1099511627776) :
    Calls Tryz.prog 76 #[va, vb] w fun e w' => e = .returned (.int .i64 (cmpL la lb)) ∧ ∃ q, w' = w.drewN q := by
  obtain ⟨a, cap, rfl, hc⟩ := ha
  obtain ⟨a', cap', rfl, hc'⟩ := hb
  obtain ⟨n, hn⟩ : ∃ n, n = la.length := ⟨_, rfl⟩
  obtain ⟨m, hm⟩ : ∃ m, m = lb.length := ⟨_, rfl⟩
  obtain ⟨res, hres⟩ : ∃ r, r = cmpL la lb := ⟨_, rfl⟩
  rw [← hres]
  rw [← hn] at hc hl ⊢
  rw [← hm] at hc' hl2 ⊢
  have HR := hid hres
  have HC := hid hc
  have HC' := hid hc'
  have HN := hid hn
  have HM := hid hm
  clear hc hc' hn hm hres
  go_enter Tryz.func76, Tryz.ntmps76
  go_wp2
  go_loopw [5] (fun t wr => ∃ j : Nat, j ≤ n ∧ j ≤ m ∧ t = .int .i64 j ∧ Hid (∃ q, wr = w.drewN q) ∧ Hid (∀ i, i < j → la.getD i 0 = lb.getD i 0)) (fun t _ => n - (intOf t).toNat)
  case atStart => exact ⟨0, Nat.zero_le _, Nat.zero_le _, rfl, hid ⟨0, rfl⟩, hid (fun i hi => by omega)⟩
  case round =>
    obtain ⟨j, hj, hjm, rfl, hB, hok⟩ := hrel
    by_cases hjn : j < n
    · have i1 : (j : Int) < (n : Int) := by omega
      by_cases hjm' : j < m
      · have i2 : (j : Int) < (m : Int) := by omega
        rcases HC.out with h0 | ⟨b, o, rfl, hcell⟩
        · omega
        · have c1 : wr.cell? ⟨b, o + j, none⟩ = some (.int .i64 (la.getD j 0)) := by obtain ⟨m, rfl⟩ := hB.out; exact hcell j hjn
          rcases HC'.out with h0 | ⟨b', o', rfl, hcell'⟩
          · omega
          · have c2 : wr.cell? ⟨b', o' + j, none⟩ = some (.int .i64 (lb.getD j 0)) := by obtain ⟨m, rfl⟩ := hB.out; exact hcell' j hjm'
            have f1 : la.getD j 0 < lb.getD j 0 → Hid (res = -1) := fun e => HR.out.trans (cmpL_lt (by rw [← HN.out]; exact hjn) (by rw [← HM.out]; exact hjm') hok.out e)
            have f2 : lb.getD j 0 < la.getD j 0 → Hid (res = 1) := fun e => HR.out.trans (cmpL_gt (by rw [← HN.out]; exact hjn) (by rw [← HM.out]; exact hjm') hok.out e)
            have f3 : la.getD j 0 = lb.getD j 0 → Hid (∀ i, i < j + 1 → la.getD i 0 = lb.getD i 0) := agree_step hok.out
            clear hcell hcell' hok
            generalize la.getD j 0 = x at *
            generalize lb.getD j 0 = y at *
            by_cases h1 : x < y
            · have hf := f1 h1
              clear f1 f2 f3
              go_wp2_with fail
              go_quiet (fail)
              go_wp2
              go_ret
              exact ⟨ret_int hf.out.symm, drewN_step _ hB.out⟩
            · by_cases h2 : y < x
              · have hf := f2 h2
                clear f1 f2 f3
                go_wp2_with fail
                go_quiet (fail)
                go_wp2_with fail
                go_quiet (fail)
                go_wp2
                go_ret
                exact ⟨ret_int hf.out.symm, drewN_step _ (drewN_step _ hB.out)⟩
              · have hf := f3 (by omega)
                clear f1 f2 f3
                go_wp2_with fail
                go_quiet (fail)
                go_wp2_with fail
                go_quiet (fail)
                go_wp2
                go_roundw
                case rel => exact ⟨j + 1, by omega, by omega, by go_num, hid (drewN_step _ hB.out), hf⟩
                case measure => simp [intOf]; omega
      · obtain rfl : j = m := by omega
        have i2 : ¬ ((j : Int) < (j : Int)) := by omega
        have i3 : ¬ ((n : Int) = (j : Int)) := by omega
        have i4 : ¬ ((n : Int) < (j : Int)) := by omega
        have hf : Hid (res = 1) := HR.out.trans (cmpL_long (by rw [← HN.out, ← HM.out]; exact hjn) (by rw [← HM.out]; exact hok.out))
        clear hok
        go_wp2
        go_ret
        exact ⟨ret_int hf.out.symm, hB.out⟩
    · obtain rfl : j = n := by omega
      have i1 : ¬ ((j : Int) < (j : Int)) := by omega
      by_cases hjm' : j < m
      · have i2 : (j : Int) < (m : Int) := by omega
        have i3 : ¬ ((j : Int) = (m : Int)) := by omega
        have hf : Hid (res = -1) := HR.out.trans (cmpL_short (by rw [← HN.out, ← HM.out]; exact hjm') (by rw [← HN.out]; exact hok.out))
        clear hok
        go_wp2
        go_ret
        exact ⟨ret_int hf.out.symm, hB.out⟩
      · obtain rfl : j = m := by omega
        have hf : Hid (res = 0) := HR.out.trans (cmpL_same (by rw [← HN.out, ← HM.out]) (by rw [← HN.out]; exact hok.out))
        clear hok
        go_wp2
        go_ret
        exact ⟨ret_int hf.out.symm, hB.out⟩

end Go.Proofs.YtegcpplkcahkhaaGreat
