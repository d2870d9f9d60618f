import Derived.Test.YtpdloenmplafiaaSets
/-
  Membership: spec.l1Has, slices.Index, slices.Contains.
-/
namespace Go.Proofs.Ytpdloenmplafiaa
open Go.RowKit

theorem mem_getD {l : List Int} {j : Nat} (h : j < l.length) : l.getD j 0 ∈ l := by
  rw [List.getD_eq_getElem?_getD, List.getElem?_eq_getElem h]
  exact List.getElem_mem h

theorem getD_mem {l : List Int} {x : Int} (h : x ∈ l) : ∃ j, j < l.length ∧ l.getD j 0 = x := by
  obtain ⟨j, hj, e⟩ := List.getElem_of_mem h
  exact ⟨j, hj, by rw [List.getD_eq_getElem?_getD, List.getElem?_eq_getElem hj]; exact e⟩

set_option maxHeartbeats 2000000 in
theorem l1Has_calls (w : World) (v : Value) (l : List Int) (x : Int) (h : IS w v l) (hl : l.length ≤ 1099511627776) :
    Calls Try.prog 45 #[v, .int .i64 x] w fun e w' => e = .returned (.bool (decide (x ∈ l))) ∧ w' = w := by
  obtain ⟨a, cap, rfl, hc⟩ := h
  obtain ⟨n, hn⟩ : ∃ n, n = l.length := ⟨_, rfl⟩
  obtain ⟨res, hres⟩ : ∃ r, r = decide (x ∈ l) := ⟨_, rfl⟩
  rw [← hres]
  have HR := hid hres
  rw [← hn] at hc hl ⊢
  have HC := hid hc
  have HN := hid hn
  clear hc hn hres
  go_enter Try.func45, Try.ntmps45
  go_wp2
  go_loop [9] (fun t => ∃ j : Nat, j ≤ n ∧ t = .int .i64 j ∧ Hid (∀ i, i < j → l.getD i 0 ≠ x)) (fun t => n - (intOf t).toNat)
  case atStart => exact ⟨0, Nat.zero_le _, rfl, hid (fun i hi => by omega)⟩
  case round =>
    obtain ⟨j, hj, rfl, hok⟩ := hrel
    by_cases hjn : j < n
    · have i1 : (j : Int) < (n : Int) := by omega
      rcases HC.out with h0 | ⟨b, o, rfl, hcell⟩
      · omega
      · have c1 : w.cell? ⟨b, o + j, none⟩ = some (.int .i64 (l.getD j 0)) := hcell j hjn
        have fin : l.getD j 0 = x → Hid (res = true) := fun e => HR.out.trans (decide_eq_true (e ▸ mem_getD (by rw [← HN.out]; exact hjn)))
        have nxt : l.getD j 0 ≠ x → Hid (∀ i, i < j + 1 → l.getD i 0 ≠ x) := fun e i hi => by
          by_cases e2 : i = j
          · rw [e2]; exact e
          · exact hok.out i (by omega)
        clear hcell hok
        generalize l.getD j 0 = y at *
        by_cases hy : y = x
        · have hf := fin hy
          subst hy
          clear fin nxt
          go_wp2
          go_ret
          exact ⟨ret_bool (by rw [hf.out]), rfl⟩
        · have hf := nxt hy
          have d1 : decide (x = y) = false := by simp; omega
          have d2 : ¬ (x = y) := by omega
          clear fin nxt
          go_wp2
          go_round
          case rel => exact ⟨j + 1, by omega, by go_num, hf⟩
          case measure => simp [intOf]; omega
    · obtain rfl : j = n := by omega
      have hf : Hid (res = false) := HR.out.trans (decide_eq_false (fun hm => by
        obtain ⟨i, hi, e⟩ := getD_mem hm
        exact hok.out i (by rw [HN.out]; exact hi) e))
      have i1 : ¬ ((j : Int) < (j : Int)) := by omega
      clear hok
      go_wp2
      go_ret
      exact ⟨ret_bool (by rw [hf.out]), rfl⟩

set_option maxHeartbeats 2000000 in
theorem sIndex_calls (w : World) (v : Value) (l : List Int) (x : Int) (h : IS w v l) (hl : l.length ≤ 1099511627776) :
    Calls Try.prog 151 #[v, .int .i64 x] w fun e w' => (∃ k : Int, e = .returned (.int .i64 k) ∧ decide (0 ≤ k) = decide (x ∈ l)) ∧ w' = w := by
  obtain ⟨a, cap, rfl, hc⟩ := h
  obtain ⟨n, hn⟩ : ∃ n, n = l.length := ⟨_, rfl⟩
  obtain ⟨res, hres⟩ : ∃ r, r = decide (x ∈ l) := ⟨_, rfl⟩
  rw [← hres]
  have HR := hid hres
  rw [← hn] at hc hl ⊢
  have HC := hid hc
  have HN := hid hn
  clear hc hn hres
  go_enter Try.func151, Try.ntmps151
  go_wp2
  go_loop [8] (fun t => ∃ j : Nat, j ≤ n ∧ t = .int .i64 j ∧ Hid (∀ i, i < j → l.getD i 0 ≠ x)) (fun t => n - (intOf t).toNat)
  case atStart => exact ⟨0, Nat.zero_le _, rfl, hid (fun i hi => by omega)⟩
  case round =>
    obtain ⟨j, hj, rfl, hok⟩ := hrel
    by_cases hjn : j < n
    · have i1 : (j : Int) < (n : Int) := by omega
      rcases HC.out with h0 | ⟨b, o, rfl, hcell⟩
      · omega
      · have c1 : w.cell? ⟨b, o + j, none⟩ = some (.int .i64 (l.getD j 0)) := hcell j hjn
        have fin : l.getD j 0 = x → Hid (res = true) := fun e => HR.out.trans (decide_eq_true (e ▸ mem_getD (by rw [← HN.out]; exact hjn)))
        have nxt : l.getD j 0 ≠ x → Hid (∀ i, i < j + 1 → l.getD i 0 ≠ x) := fun e i hi => by
          by_cases e2 : i = j
          · rw [e2]; exact e
          · exact hok.out i (by omega)
        clear hcell hok
        generalize l.getD j 0 = y at *
        by_cases hy : y = x
        · have hf := fin hy
          subst hy
          clear fin nxt
          go_wp2
          go_ret
          exact ⟨⟨_, rfl, by rw [hf.out]; simp⟩, rfl⟩
        · have hf := nxt hy
          have d1 : decide (x = y) = false := by simp; omega
          have d2 : ¬ (x = y) := by omega
          clear fin nxt
          go_wp2
          go_round
          case rel => exact ⟨j + 1, by omega, by go_num, hf⟩
          case measure => simp [intOf]; omega
    · obtain rfl : j = n := by omega
      have hf : Hid (res = false) := HR.out.trans (decide_eq_false (fun hm => by
        obtain ⟨i, hi, e⟩ := getD_mem hm
        exact hok.out i (by rw [HN.out]; exact hi) e))
      have i1 : ¬ ((j : Int) < (j : Int)) := by omega
      clear hok
      go_wp2
      go_ret
      exact ⟨⟨_, rfl, by rw [hf.out]; simp⟩, rfl⟩

theorem sContains_calls (w : World) (v : Value) (l : List Int) (x : Int) (h : IS w v l) (hl : l.length ≤ 1099511627776) :
    Calls Try.prog 119 #[v, .int .i64 x] w fun e w' => e = .returned (.bool (decide (x ∈ l))) ∧ w' = w := by
  have HI := hid (sIndex_calls w v l x h hl)
  generalize decide (x ∈ l) = res at *
  clear h
  go_enter Try.func119, Try.ntmps119
  go_wp2_with (first | (go_at_call 151; refine HI.out.mono ?_; rintro e w' ⟨⟨k, rfl, hk⟩, rfl⟩))
  go_ret
  exact ⟨rfl, rfl⟩

end Go.Proofs.Ytpdloenmplafiaa
