import Derived.Test.YtliggcbiiaegeabPj25
import Derived.Test.YtliggcbiiaegeabPj34
/-
  slices.Equal over ints.
-/
namespace Go.Proofs.Ytliggcbiiaegeab
open Go.RowKit

theorem list_eq_getD {la lb : List Int} (hl : la.length = lb.length) (h : ∀ i, i < la.length → la.getD i 0 = lb.getD i 0) : la = lb := by
  refine List.ext_getElem hl fun i h1 h2 => ?_
  have := h i h1
  rw [List.getD_eq_getElem?_getD, List.getElem?_eq_getElem h1, List.getD_eq_getElem?_getD, List.getElem?_eq_getElem h2] at this
  exact this

set_option maxHeartbeats 2000000 in
theorem sEqual_calls (w : World) (va vb : Value) (la lb : List Int) (ha : IS w va la) (hb : IS w vb lb) (hl : la.length ≤ 1099511627776) (hl2 : lb.length ≤ 1099511627776) :
    Calls Try.prog 153 #[va, vb] w fun e w' => e = .returned (.bool (decide (la = lb))) ∧ ∃ q, w' = w.drewN q := by
  obtain ⟨a, cap, rfl, hc⟩ := ha
  obtain ⟨a', cap', rfl, hc'⟩ := hb
  by_cases hlen : la.length = lb.length
  · have HF : Hid (∀ j, j < la.length → ¬ la.getD j 0 = lb.getD j 0 → decide (la = lb) = false) := hid fun j _ e => by
      rw [decide_eq_false_iff_not]; rintro rfl; exact e rfl
    have HT : Hid ((∀ j, j < la.length → la.getD j 0 = lb.getD j 0) → decide (la = lb) = true) := hid fun h => by rw [decide_eq_true_eq]; exact list_eq_getD hlen h
    generalize decide (la = lb) = res at *
    rw [← hlen] at hc' hl2 ⊢
    obtain ⟨n, hn⟩ : ∃ n, n = la.length := ⟨_, rfl⟩
    rw [← hn] at hc hc' hl HF HT ⊢
    have HC := hid hc
    have HC' := hid hc'
    clear hc hc' hn hlen hl2
    go_enter Try.func153, Try.ntmps153
    go_wp2_with fail
    go_loopw [13] (fun t wr => ∃ j : Nat, j ≤ n ∧ t = .int .i64 j ∧ Hid (∃ k, wr = w.drewN k) ∧ Hid (∀ i, i < j → la.getD i 0 = lb.getD i 0)) (fun t _ => n - (intOf t).toNat)
    case atStart => exact ⟨0, Nat.zero_le _, rfl, hid ⟨0, rfl⟩, hid (fun i hi => by omega)⟩
    case round =>
      obtain ⟨j, hj, rfl, hB, hok⟩ := hrel
      by_cases hjn : j < n
      · have i1 : (j : Int) < (n : Int) := by omega
        rcases HC.out with h0 | ⟨b, o, rfl, hcell⟩
        · omega
        rcases HC'.out with h0 | ⟨b', o', rfl, hcell'⟩
        · omega
        have c1 : wr.cell? ⟨b, o + j, none⟩ = some (.int .i64 (la.getD j 0)) := by obtain ⟨k, rfl⟩ := hB.out; exact hcell j hjn
        have c2 : wr.cell? ⟨b', o' + j, none⟩ = some (.int .i64 (lb.getD j 0)) := by obtain ⟨k, rfl⟩ := hB.out; exact hcell' j hjn
        have fin := HF.out j hjn
        have nxt : la.getD j 0 = lb.getD j 0 → Hid (∀ i, i < j + 1 → la.getD i 0 = lb.getD i 0) := fun e => hid fun i hi => by
          by_cases e2 : i = j
          · rw [e2]; exact e
          · exact hok.out i (by omega)
        clear hcell hcell' hok
        generalize la.getD j 0 = x at *
        generalize lb.getD j 0 = y at *
        by_cases hxy : x = y
        · have hf := nxt hxy
          subst hxy
          clear fin nxt
          have e0 : (x != x) = false := by simp
          go_wp2_with fail
          go_quiet (fail)
          go_wp2
          go_roundw
          case rel => exact ⟨j + 1, by omega, by go_num, hid (drewN_step _ hB.out), hf⟩
          case measure => simp [intOf]; omega
        · have hf := hid (fin hxy)
          clear fin nxt
          have e0 : (x != y) = true := by simp [hxy]
          go_wp2_with fail
          go_quiet (fail)
          go_wp2
          go_ret
          exact ⟨ret_bool (by rw [hf.out]), drewN_step _ hB.out⟩
      · obtain rfl : j = n := by omega
        have hf := hid (HT.out hok.out)
        have i1 : ¬ ((j : Int) < (j : Int)) := by omega
        go_wp2
        go_ret
        exact ⟨ret_bool (by rw [hf.out]), hB.out⟩
  · have hf : decide (la = lb) = false := by rw [decide_eq_false_iff_not]; rintro rfl; exact hlen rfl
    rw [hf]
    have i1 : ¬ ((la.length : Int) = (lb.length : Int)) := by omega
    have i2 : ((la.length : Int) != (lb.length : Int)) = true := by simp; omega
    clear hc hc' hf
    generalize la.length = m at *
    generalize lb.length = m' at *
    go_enter Try.func153, Try.ntmps153
    go_wp2
    go_ret
    exact ⟨rfl, 0, rfl⟩

end Go.Proofs.Ytliggcbiiaegeab
