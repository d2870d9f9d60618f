import Derived.Test.YtnmcgbfhgmmcpaaW02
import Derived.Test.YtnmcgbfhgmmcpaaW06
/-
  Sets of variables: impl.isVariableSet and spec.l1SetOK answer alike; membership.
-/
namespace Go.Proofs.Ytnmcgbfhgmmcpaa
open Go.RowKit

theorem ret_bool {a b : Bool} (h : a = b) : Ending.returned (.bool a) = .returned (.bool b) := by rw [h]

def okAt (l : List Int) (j : Nat) : Bool := decide (0 ≤ l.getD j 0) && decide (l.getD j 0 < 6) && (decide (j = 0) || decide (l.getD (j - 1) 0 < l.getD j 0))
def setB (l : List Int) : Bool := (List.range l.length).all (okAt l)

theorem setB_true {l : List Int} (h : ∀ i, i < l.length → okAt l i = true) : setB l = true := by
  unfold setB
  rw [List.all_eq_true]
  intro i hi
  exact h i (by simpa using hi)

theorem setB_false {l : List Int} {j : Nat} (hj : j < l.length) (h : okAt l j = false) : setB l = false := by
  unfold setB
  rw [List.all_eq_false]
  exact ⟨j, by simpa using hj, by rw [h]; decide⟩

/-- what is asked at place j, case by case -/
theorem okAt_cases (l : List Int) (j : Nat) :
    (l.getD j 0 < 0 ∧ okAt l j = false) ∨ (0 ≤ l.getD j 0 ∧ 6 ≤ l.getD j 0 ∧ okAt l j = false) ∨ (0 ≤ l.getD j 0 ∧ l.getD j 0 < 6 ∧ j = 0 ∧ okAt l j = true) ∨
    (0 ≤ l.getD j 0 ∧ l.getD j 0 < 6 ∧ 0 < j ∧ l.getD j 0 ≤ l.getD (j - 1) 0 ∧ okAt l j = false) ∨ (0 ≤ l.getD j 0 ∧ l.getD j 0 < 6 ∧ 0 < j ∧ l.getD (j - 1) 0 < l.getD j 0 ∧ okAt l j = true) := by
  unfold okAt
  generalize l.getD j 0 = x
  generalize l.getD (j - 1) 0 = y
  by_cases h1 : x < 0
  · left; refine ⟨h1, ?_⟩; simp; omega
  · by_cases h2 : 6 ≤ x
    · right; left; refine ⟨by omega, h2, ?_⟩; simp; omega
    · by_cases h3 : j = 0
      · right; right; left; refine ⟨by omega, by omega, h3, ?_⟩; simp [h3]; omega
      · by_cases h4 : y < x
        · right; right; right; right; refine ⟨by omega, by omega, by omega, h4, ?_⟩; simp; omega
        · right; right; right; left; refine ⟨by omega, by omega, by omega, by omega, ?_⟩; simp; omega

set_option maxHeartbeats 2000000 in
theorem isVariableSet_calls (w : World) (v : Value) (l : List Int) (h : IS w v l) (hl : l.length ≤ 1099511627776) :
    Calls Try.prog 41 #[v] w fun e w' => e = .returned (.bool (setB l)) ∧ w' = w := by
  obtain ⟨a, cap, rfl, hc⟩ := h
  obtain ⟨n, hn⟩ : ∃ n, n = l.length := ⟨_, rfl⟩
  obtain ⟨res, hres⟩ : ∃ r, r = setB l := ⟨_, rfl⟩
  rw [← hres]
  have HR := hid hres
  rw [← hn] at hc hl ⊢
  have HC := hid hc
  have HN := hid hn
  clear hc hn hres
  go_enter Try.func41, Try.ntmps41
  go_wp2
  go_loop [7] (fun t => ∃ j : Nat, j ≤ n ∧ t = .int .i64 j ∧ Hid (∀ i, i < j → okAt l i = true)) (fun t => n - (intOf t).toNat)
  case atStart => exact ⟨0, Nat.zero_le _, rfl, hid (fun i hi => by omega)⟩
  case round =>
    obtain ⟨j, hj, rfl, hok⟩ := hrel
    by_cases hjn : j < n
    · have i1 : (j : Int) < (n : Int) := by omega
      rcases HC.out with h0 | ⟨b, o, rfl, hcell⟩
      · omega
      · have c1 : w.cell? ⟨b, o + j, none⟩ = some (.int .i64 (l.getD j 0)) := hcell j hjn
        have hcs := okAt_cases l j
        have fin : okAt l j = false → Hid (res = false) := fun e => HR.out.trans (setB_false (by rw [← HN.out]; exact hjn) e)
        have nxt : okAt l j = true → Hid (∀ i, i < j + 1 → okAt l i = true) := fun e i hi => by
          by_cases e2 : i = j
          · rw [e2]; exact e
          · exact hok.out i (by omega)
        have c2 : 0 < j → w.cell? ⟨b, o + (j - 1), none⟩ = some (.int .i64 (l.getD (j - 1) 0)) := fun e => hcell (j - 1) (by omega)
        clear hcell hok
        generalize l.getD j 0 = x at *
        generalize l.getD (j - 1) 0 = y at *
        rcases hcs with ⟨h1, h2⟩ | ⟨h1, h2, h3⟩ | ⟨h1, h2, h3, h4⟩ | ⟨h1, h2, h3, h4, h5⟩ | ⟨h1, h2, h3, h4, h5⟩
        · have hf := fin h2
          clear c2 fin nxt h2
          go_wp2
          go_ret
          exact ⟨ret_bool (by rw [hf.out]), rfl⟩
        · have hf := fin h3
          have d1 : decide (x < 0) = false := by simp; omega
          clear c2 fin nxt h3
          go_wp2
          go_ret
          exact ⟨ret_bool (by rw [hf.out]), rfl⟩
        · have hf := nxt h4
          have d1 : decide (x < 0) = false := by simp; omega
          have d2 : decide (6 ≤ x) = false := by simp; omega
          subst h3
          have c1' : w.cell? ⟨b, o, none⟩ = some (.int .i64 x) := by simpa using c1
          clear c2 fin nxt h4
          go_wp2
          go_round
          case rel => exact ⟨0 + 1, by omega, by go_num, hf⟩
          case measure => simp [intOf]; omega
        · have hf := fin h5
          have d1 : decide (x < 0) = false := by simp; omega
          have d2 : decide (6 ≤ x) = false := by simp; omega
          have c3 := c2 h3
          have i3 : (0 : Int) < (j : Int) := by omega
          have i4 : ((j : Int) - 1).toNat = j - 1 := by omega
          clear c2 fin nxt h5
          go_wp2
          go_ret
          exact ⟨ret_bool (by rw [hf.out]), rfl⟩
        · have hf := nxt h5
          have d1 : decide (x < 0) = false := by simp; omega
          have d2 : decide (6 ≤ x) = false := by simp; omega
          have d3 : decide (x ≤ y) = false := by simp; omega
          have c3 := c2 h3
          have i3 : (0 : Int) < (j : Int) := by omega
          have i4 : ((j : Int) - 1).toNat = j - 1 := by omega
          clear c2 fin nxt h5
          go_wp2
          go_round
          case rel => exact ⟨j + 1, by omega, by go_num, hf⟩
          case measure => simp [intOf]; omega
    · obtain rfl : j = n := by omega
      have hf : Hid (res = true) := HR.out.trans (setB_true (fun i hi => hok.out i (by rw [HN.out]; exact hi)))
      have i1 : ¬ ((j : Int) < (j : Int)) := by omega
      clear hok
      go_wp2
      go_ret
      exact ⟨ret_bool (by rw [hf.out]), rfl⟩

set_option maxHeartbeats 2000000 in
theorem l1SetOK_calls (w : World) (v : Value) (l : List Int) (h : IS w v l) (hl : l.length ≤ 1099511627776) :
    Calls Try.prog 36 #[v, .int .i64 6] w fun e w' => e = .returned (.bool (setB l)) ∧ w' = w := by
  obtain ⟨a, cap, rfl, hc⟩ := h
  obtain ⟨n, hn⟩ : ∃ n, n = l.length := ⟨_, rfl⟩
  obtain ⟨res, hres⟩ : ∃ r, r = setB l := ⟨_, rfl⟩
  rw [← hres]
  have HR := hid hres
  rw [← hn] at hc hl ⊢
  have HC := hid hc
  have HN := hid hn
  clear hc hn hres
  go_enter Try.func36, Try.ntmps36
  go_wp2
  go_loop [9] (fun t => ∃ j : Nat, j ≤ n ∧ t = .int .i64 j ∧ Hid (∀ i, i < j → okAt l i = true)) (fun t => n - (intOf t).toNat)
  case atStart => exact ⟨0, Nat.zero_le _, rfl, hid (fun i hi => by omega)⟩
  case round =>
    obtain ⟨j, hj, rfl, hok⟩ := hrel
    by_cases hjn : j < n
    · have i1 : (j : Int) < (n : Int) := by omega
      rcases HC.out with h0 | ⟨b, o, rfl, hcell⟩
      · omega
      · have c1 : w.cell? ⟨b, o + j, none⟩ = some (.int .i64 (l.getD j 0)) := hcell j hjn
        have hcs := okAt_cases l j
        have fin : okAt l j = false → Hid (res = false) := fun e => HR.out.trans (setB_false (by rw [← HN.out]; exact hjn) e)
        have nxt : okAt l j = true → Hid (∀ i, i < j + 1 → okAt l i = true) := fun e i hi => by
          by_cases e2 : i = j
          · rw [e2]; exact e
          · exact hok.out i (by omega)
        have c2 : 0 < j → w.cell? ⟨b, o + (j - 1), none⟩ = some (.int .i64 (l.getD (j - 1) 0)) := fun e => hcell (j - 1) (by omega)
        clear hcell hok
        generalize l.getD j 0 = x at *
        generalize l.getD (j - 1) 0 = y at *
        rcases hcs with ⟨h1, h2⟩ | ⟨h1, h2, h3⟩ | ⟨h1, h2, h3, h4⟩ | ⟨h1, h2, h3, h4, h5⟩ | ⟨h1, h2, h3, h4, h5⟩
        · have hf := fin h2
          clear c2 fin nxt h2
          go_wp2_with (first | (go_at_call 63; refine (between_no1 _ _ _ _ (by omega)).mono ?_; rintro e w' ⟨rfl, rfl⟩))
          go_ret
          exact ⟨ret_bool (by rw [hf.out]), rfl⟩
        · have hf := fin h3
          have d1 : decide (x < 0) = false := by simp; omega
          clear c2 fin nxt h3
          go_wp2_with (first | (go_at_call 63; refine (between_no2 _ _ _ _ (by omega) (by omega)).mono ?_; rintro e w' ⟨rfl, rfl⟩))
          go_ret
          exact ⟨ret_bool (by rw [hf.out]), rfl⟩
        · have hf := nxt h4
          have d1 : decide (x < 0) = false := by simp; omega
          have d2 : decide (6 ≤ x) = false := by simp; omega
          subst h3
          have c1' : w.cell? ⟨b, o, none⟩ = some (.int .i64 x) := by simpa using c1
          clear c2 fin nxt h4
          go_wp2_with (first | (go_at_call 63; refine (between_yes _ _ _ _ (by omega) (by omega)).mono ?_; rintro e w' ⟨rfl, rfl⟩))
          go_round
          case rel => exact ⟨0 + 1, by omega, by go_num, hf⟩
          case measure => simp [intOf]; omega
        · have hf := fin h5
          have d1 : decide (x < 0) = false := by simp; omega
          have d2 : decide (6 ≤ x) = false := by simp; omega
          have c3 := c2 h3
          have i3 : (0 : Int) < (j : Int) := by omega
          have i4 : ((j : Int) - 1).toNat = j - 1 := by omega
          clear c2 fin nxt h5
          go_wp2_with (first | (go_at_call 63; refine (between_yes _ _ _ _ (by omega) (by omega)).mono ?_; rintro e w' ⟨rfl, rfl⟩))
          go_ret
          exact ⟨ret_bool (by rw [hf.out]), rfl⟩
        · have hf := nxt h5
          have d1 : decide (x < 0) = false := by simp; omega
          have d2 : decide (6 ≤ x) = false := by simp; omega
          have d3 : decide (x ≤ y) = false := by simp; omega
          have c3 := c2 h3
          have i3 : (0 : Int) < (j : Int) := by omega
          have i4 : ((j : Int) - 1).toNat = j - 1 := by omega
          clear c2 fin nxt h5
          go_wp2_with (first | (go_at_call 63; refine (between_yes _ _ _ _ (by omega) (by omega)).mono ?_; rintro e w' ⟨rfl, rfl⟩))
          go_round
          case rel => exact ⟨j + 1, by omega, by go_num, hf⟩
          case measure => simp [intOf]; omega
    · obtain rfl : j = n := by omega
      have hf : Hid (res = true) := HR.out.trans (setB_true (fun i hi => hok.out i (by rw [HN.out]; exact hi)))
      have i1 : ¬ ((j : Int) < (j : Int)) := by omega
      clear hok
      go_wp2
      go_ret
      exact ⟨ret_bool (by rw [hf.out]), rfl⟩

end Go.Proofs.Ytnmcgbfhgmmcpaa

/-
  Membership: spec.l1Has, slices.Index, slices.Contains.
-/
namespace Go.Proofs.Ytnmcgbfhgmmcpaa
open Go.RowKit

theorem mem_getD {l : List Int} {j : Nat} (h : j < l.length) : l.getD j 0 ∈ l := by
  rw [List.getD_eq_getElem?_getD, List.getElem?_eq_getElem h]
  exact List.getElem_mem h

theorem getD_mem {l : List Int} {x : Int} (h : x ∈ l) : ∃ j, j < l.length ∧ l.getD j 0 = x := by
  obtain ⟨j, hj, e⟩ := List.getElem_of_mem h
  exact ⟨j, hj, by rw [List.getD_eq_getElem?_getD, List.getElem?_eq_getElem hj]; exact e⟩

set_option maxHeartbeats 2000000 in
theorem l1Has_calls (w : World) (v : Value) (l : List Int) (x : Int) (h : IS w v l) (hl : l.length ≤ 1099511627776) :
    Calls Try.prog 37 #[v, .int .i64 x] w fun e w' => e = .returned (.bool (decide (x ∈ l))) ∧ w' = w := by
  obtain ⟨a, cap, rfl, hc⟩ := h
  obtain ⟨n, hn⟩ : ∃ n, n = l.length := ⟨_, rfl⟩
  obtain ⟨res, hres⟩ : ∃ r, r = decide (x ∈ l) := ⟨_, rfl⟩
  rw [← hres]
  have HR := hid hres
  rw [← hn] at hc hl ⊢
  have HC := hid hc
  have HN := hid hn
  clear hc hn hres
  go_enter Try.func37, Try.ntmps37
  go_wp2
  go_loop [9] (fun t => ∃ j : Nat, j ≤ n ∧ t = .int .i64 j ∧ Hid (∀ i, i < j → l.getD i 0 ≠ x)) (fun t => n - (intOf t).toNat)
  case atStart => exact ⟨0, Nat.zero_le _, rfl, hid (fun i hi => by omega)⟩
  case round =>
    obtain ⟨j, hj, rfl, hok⟩ := hrel
    by_cases hjn : j < n
    · have i1 : (j : Int) < (n : Int) := by omega
      rcases HC.out with h0 | ⟨b, o, rfl, hcell⟩
      · omega
      · have c1 : w.cell? ⟨b, o + j, none⟩ = some (.int .i64 (l.getD j 0)) := hcell j hjn
        have fin : l.getD j 0 = x → Hid (res = true) := fun e => HR.out.trans (decide_eq_true (e ▸ mem_getD (by rw [← HN.out]; exact hjn)))
        have nxt : l.getD j 0 ≠ x → Hid (∀ i, i < j + 1 → l.getD i 0 ≠ x) := fun e i hi => by
          by_cases e2 : i = j
          · rw [e2]; exact e
          · exact hok.out i (by omega)
        clear hcell hok
        generalize l.getD j 0 = y at *
        by_cases hy : y = x
        · have hf := fin hy
          subst hy
          clear fin nxt
          go_wp2
          go_ret
          exact ⟨ret_bool (by rw [hf.out]), rfl⟩
        · have hf := nxt hy
          have d1 : decide (x = y) = false := by simp; omega
          have d2 : ¬ (x = y) := by omega
          clear fin nxt
          go_wp2
          go_round
          case rel => exact ⟨j + 1, by omega, by go_num, hf⟩
          case measure => simp [intOf]; omega
    · obtain rfl : j = n := by omega
      have hf : Hid (res = false) := HR.out.trans (decide_eq_false (fun hm => by
        obtain ⟨i, hi, e⟩ := getD_mem hm
        exact hok.out i (by rw [HN.out]; exact hi) e))
      have i1 : ¬ ((j : Int) < (j : Int)) := by omega
      clear hok
      go_wp2
      go_ret
      exact ⟨ret_bool (by rw [hf.out]), rfl⟩

set_option maxHeartbeats 2000000 in
theorem sIndex_calls (w : World) (v : Value) (l : List Int) (x : Int) (h : IS w v l) (hl : l.length ≤ 1099511627776) :
    Calls Try.prog 121 #[v, .int .i64 x] w fun e w' => (∃ k : Int, e = .returned (.int .i64 k) ∧ decide (0 ≤ k) = decide (x ∈ l)) ∧ w' = w := by
  obtain ⟨a, cap, rfl, hc⟩ := h
  obtain ⟨n, hn⟩ : ∃ n, n = l.length := ⟨_, rfl⟩
  obtain ⟨res, hres⟩ : ∃ r, r = decide (x ∈ l) := ⟨_, rfl⟩
  rw [← hres]
  have HR := hid hres
  rw [← hn] at hc hl ⊢
  have HC := hid hc
  have HN := hid hn
  clear hc hn hres
  go_enter Try.func121, Try.ntmps121
  go_wp2
  go_loop [8] (fun t => ∃ j : Nat, j ≤ n ∧ t = .int .i64 j ∧ Hid (∀ i, i < j → l.getD i 0 ≠ x)) (fun t => n - (intOf t).toNat)
  case atStart => exact ⟨0, Nat.zero_le _, rfl, hid (fun i hi => by omega)⟩
  case round =>
    obtain ⟨j, hj, rfl, hok⟩ := hrel
    by_cases hjn : j < n
    · have i1 : (j : Int) < (n : Int) := by omega
      rcases HC.out with h0 | ⟨b, o, rfl, hcell⟩
      · omega
      · have c1 : w.cell? ⟨b, o + j, none⟩ = some (.int .i64 (l.getD j 0)) := hcell j hjn
        have fin : l.getD j 0 = x → Hid (res = true) := fun e => HR.out.trans (decide_eq_true (e ▸ mem_getD (by rw [← HN.out]; exact hjn)))
        have nxt : l.getD j 0 ≠ x → Hid (∀ i, i < j + 1 → l.getD i 0 ≠ x) := fun e i hi => by
          by_cases e2 : i = j
          · rw [e2]; exact e
          · exact hok.out i (by omega)
        clear hcell hok
        generalize l.getD j 0 = y at *
        by_cases hy : y = x
        · have hf := fin hy
          subst hy
          clear fin nxt
          go_wp2
          go_ret
          exact ⟨⟨_, rfl, by rw [hf.out]; simp⟩, rfl⟩
        · have hf := nxt hy
          have d1 : decide (x = y) = false := by simp; omega
          have d2 : ¬ (x = y) := by omega
          clear fin nxt
          go_wp2
          go_round
          case rel => exact ⟨j + 1, by omega, by go_num, hf⟩
          case measure => simp [intOf]; omega
    · obtain rfl : j = n := by omega
      have hf : Hid (res = false) := HR.out.trans (decide_eq_false (fun hm => by
        obtain ⟨i, hi, e⟩ := getD_mem hm
        exact hok.out i (by rw [HN.out]; exact hi) e))
      have i1 : ¬ ((j : Int) < (j : Int)) := by omega
      clear hok
      go_wp2
      go_ret
      exact ⟨⟨_, rfl, by rw [hf.out]; simp⟩, rfl⟩

theorem sContains_calls (w : World) (v : Value) (l : List Int) (x : Int) (h : IS w v l) (hl : l.length ≤ 1099511627776) :
    Calls Try.prog 101 #[v, .int .i64 x] w fun e w' => e = .returned (.bool (decide (x ∈ l))) ∧ w' = w := by
  have HI := hid (sIndex_calls w v l x h hl)
  generalize decide (x ∈ l) = res at *
  clear h
  go_enter Try.func101, Try.ntmps101
  go_wp2_with (first | (go_at_call 121; refine HI.out.mono ?_; rintro e w' ⟨⟨k, rfl, hk⟩, rfl⟩))
  go_ret
  exact ⟨rfl, rfl⟩

end Go.Proofs.Ytnmcgbfhgmmcpaa

/-
  impl.placesIn: the places of a bag whose variable lies in an edge; a slice that grows.
-/
namespace Go.Proofs.Ytnmcgbfhgmmcpaa
open Go.RowKit

theorem Try.infoInt : (Try.prog.info? 3).map (fun i => (i.zero, i.size, i.bytes)) = some (some (.int .i64 0), 1, 8) := by kernel_rfl

/-- of the first k places those at which p holds -/
def plc (p : Nat → Bool) (k : Nat) : List Int := ((List.range k).filter p).map Int.ofNat

theorem plc_hit (p : Nat → Bool) (k : Nat) (h : p k = true) : plc p (k + 1) = plc p k ++ [(k : Int)] := by
  simp [plc, List.range_succ, List.filter_append, h]
theorem plc_miss (p : Nat → Bool) (k : Nat) (h : p k = false) : plc p (k + 1) = plc p k := by
  simp [plc, List.range_succ, List.filter_append, h]
theorem plc_le (p : Nat → Bool) (k : Nat) : (plc p k).length ≤ k := by
  unfold plc
  rw [List.length_map]
  exact Nat.le_trans (List.length_filter_le _ _) (by simp)

theorem own_grow {B n : Nat} {e : TypeId} {w wr w1 : World} {u : Value} {o : Obj} {xs : List Value} (hB : B ≤ wr.heap.size)
    (hown : wr.ownsRow B e 1 u n xs) (hnx : Below B w wr) (hgrow : (wr.alloc o).grownBy w1 u.ownBlock) : Below B w w1 :=
  (hnx.alloc hB o).grown hgrow (by simp; omega) (fun j hj => (hown.lt j hj).1)

set_option maxHeartbeats 2000000 in
set_option maxRecDepth 1000000 in
theorem placesIn_calls (w : World) (vb ve : Value) (bag edge : List Int) (h : IS w vb bag) (he : IS w ve edge) (hl : bag.length ≤ 1099511627776) (hl2 : edge.length ≤ 1099511627776) :
    Calls Try.prog 92 #[vb, ve] w fun e w' => ∃ v, e = .returned v ∧
      w'.ownsRow w.heap.size 3 1 v (plc (fun i => decide (bag.getD i 0 ∈ edge)) bag.length).length ((plc (fun i => decide (bag.getD i 0 ∈ edge)) bag.length).map (Value.int .i64)) ∧ Below w.heap.size w w' := by
  obtain ⟨i0, hi, hz0, hz1, hz2⟩ := info_parts Try.infoInt
  obtain ⟨p, hp⟩ : ∃ p : Nat → Bool, p = fun i => decide (bag.getD i 0 ∈ edge) := ⟨_, rfl⟩
  rw [← hp]
  obtain ⟨a, cap, rfl, hc⟩ := h
  obtain ⟨n, hn⟩ : ∃ n, n = bag.length := ⟨_, rfl⟩
  rw [← hn] at hc hl ⊢
  have HP := hid hp
  have HC := hid hc
  have HN := hid hn
  have HE := hid he
  clear hp hc hn he
  go_enter Try.func92, Try.ntmps92
  go_wp2
  go_loopw [5, 10] (fun v t wr => ∃ k : Nat, k ≤ n ∧ t = .int .i64 k ∧ wr.ownsRow w.heap.size 3 1 v (plc p k).length ((plc p k).map (Value.int .i64)) ∧ Below w.heap.size w wr) (fun _ t _ => n - (intOf t).toNat)
  case atStart => exact ⟨0, Nat.zero_le _, rfl, World.ownsRow_nil _ _ _ _, Below.refl _ _⟩
  case round =>
    obtain ⟨k, hk, rfl, hown, hnx⟩ := hrel
    have hple := plc_le p k
    have hns := hnx.size
    by_cases hkn : k < n
    · have i1 : (k : Int) < (n : Int) := by omega
      rcases HC.out with h0 | ⟨b, o, rfl, hcell⟩
      · omega
      · have c0 := hcell k hkn
        have c1 : wr.cell? ⟨b, o + k, none⟩ = some (.int .i64 (bag.getD k 0)) := (hnx.cell (p := ⟨b, o + k, none⟩) (World.block_lt_of_cell? w _ c0)).trans c0
        have HK := hid (sContains_calls wr ve edge (bag.getD k 0) (HE.out.below hnx) hl2)
        have hpk : p k = decide (bag.getD k 0 ∈ edge) := by rw [HP.out]
        rw [← hpk] at HK
        clear hcell c0 hpk
        generalize bag.getD k 0 = y at *
        by_cases hy : p k = true
        · have e1 := hid (plc_hit p k hy)
          rw [hy] at HK
          go_wp2_with (first
            | (go_at_call 101; refine HK.out.mono ?_; rintro e w' ⟨rfl, hw'⟩; subst w')
            | (at_builtin; refine wpList_append_own _ rfl _ _ 23 rfl w.heap.size 3 i0 (.int .i64 0) 1 8 Try.underlying23 hi hz0 hz1 hz2 rfl (by decide) _ _ _ rfl (hown.alloc _) ⟨wr.heap.size, 0, none⟩ 1 1 [.int .i64 k] rfl rfl ?c1 ?c2 ?c3 ?c4 ?c5 ?_))
          case c1 =>
            intro j u hj
            match j, hj with
            | 0, hj => simp at hj; subst hj; simp [Addr.add]
          case c2 => intro u hu; simp at hu; subst hu; rfl
          case c3 => unfold maxLen; omega
          case c4 => omega
          case c5 => simp; omega
          intro v' w1 hown' hgrow _
          have hb := own_grow hns hown hnx hgrow
          have hown2 : w1.ownsRow w.heap.size 3 1 v' (plc p (k + 1)).length ((plc p (k + 1)).map (Value.int .i64)) := by
            rw [e1.out]; simpa using hown'
          clear hown' hgrow hown
          go_wp2
          go_roundw
          case rel => exact ⟨k + 1, by omega, by go_num, hown2, hb⟩
          case measure => simp [intOf]; omega
        · have hy' : p k = false := by simpa using hy
          have e1 := hid (plc_miss p k hy')
          rw [hy'] at HK
          go_wp2_with (first
            | (go_at_call 101; refine HK.out.mono ?_; rintro e w' ⟨rfl, hw'⟩; subst w'))
          go_roundw
          case rel => exact ⟨k + 1, by omega, by go_num, by rw [e1.out]; exact hown, hnx⟩
          case measure => simp [intOf]; omega
    · obtain rfl : k = n := by omega
      have i1 : ¬ ((k : Int) < (k : Int)) := by omega
      go_wp2
      go_ret
      exact ⟨_, rfl, hown, hnx⟩

end Go.Proofs.Ytnmcgbfhgmmcpaa

/-
  Slices of slices of ints; impl.edgesWith.
-/
namespace Go.Proofs.Ytnmcgbfhgmmcpaa
open Go.RowKit

/-- a slice of slices of ints that can be read -/
def ISS (w : World) (v : Value) (ls : List (List Int)) : Prop := ∃ a cap, v = .slice a ls.length cap ∧ (ls.length = 0 ∨ ∃ b o, a = some ⟨b, o, none⟩ ∧ ∀ j, j < ls.length → ∃ u, w.cell? ⟨b, o + j, none⟩ = some u ∧ IS w u (ls.getD j []))

theorem ISS.below {w w' : World} {v : Value} {ls : List (List Int)} (h : ISS w v ls) (hb : Below w.heap.size w w') : ISS w' v ls := by
  obtain ⟨a, cap, rfl, h⟩ := h
  refine ⟨a, cap, rfl, ?_⟩
  rcases h with h | ⟨b, o, rfl, h⟩
  · exact Or.inl h
  · refine Or.inr ⟨b, o, rfl, fun j hj => ?_⟩
    obtain ⟨u, h1, h2⟩ := h j hj
    exact ⟨u, (hb.cell (p := ⟨b, o + j, none⟩) (World.block_lt_of_cell? w _ h1)).trans h1, h2.below hb⟩

/-- all of the lists are short -/
def Short (ls : List (List Int)) : Prop := ls.length ≤ 1099511627776 ∧ ∀ j, (ls.getD j []).length ≤ 1099511627776

set_option maxHeartbeats 2000000 in
set_option maxRecDepth 1000000 in
theorem edgesWith_calls (w : World) (ve : Value) (x : Int) (es : List (List Int)) (h : ISS w ve es) (hl : Short es) :
    Calls Try.prog 87 #[.int .i64 x, ve] w fun e w' => ∃ v, e = .returned v ∧
      w'.ownsRow w.heap.size 3 1 v (plc (fun i => decide (x ∈ es.getD i [])) es.length).length ((plc (fun i => decide (x ∈ es.getD i [])) es.length).map (Value.int .i64)) ∧ Below w.heap.size w w' := by
  obtain ⟨i0, hi, hz0, hz1, hz2⟩ := info_parts Try.infoInt
  obtain ⟨p, hp⟩ : ∃ p : Nat → Bool, p = fun i => decide (x ∈ es.getD i []) := ⟨_, rfl⟩
  rw [← hp]
  obtain ⟨a, cap, rfl, hc⟩ := h
  obtain ⟨hl1, hl2⟩ := hl
  obtain ⟨n, hn⟩ : ∃ n, n = es.length := ⟨_, rfl⟩
  rw [← hn] at hc hl1 ⊢
  have HP := hid hp
  have HC := hid hc
  have HN := hid hn
  have HL := hid hl2
  clear hp hc hn hl2
  go_enter Try.func87, Try.ntmps87
  go_wp2
  go_loopw [5, 10] (fun v t wr => ∃ k : Nat, k ≤ n ∧ t = .int .i64 k ∧ wr.ownsRow w.heap.size 3 1 v (plc p k).length ((plc p k).map (Value.int .i64)) ∧ Below w.heap.size w wr) (fun _ t _ => n - (intOf t).toNat)
  case atStart => exact ⟨0, Nat.zero_le _, rfl, World.ownsRow_nil _ _ _ _, Below.refl _ _⟩
  case round =>
    obtain ⟨k, hk, rfl, hown, hnx⟩ := hrel
    have hple := plc_le p k
    have hns := hnx.size
    by_cases hkn : k < n
    · have i1 : (k : Int) < (n : Int) := by omega
      rcases HC.out with h0 | ⟨b, o, rfl, hcell⟩
      · omega
      · obtain ⟨u, c0, hu⟩ := hcell k hkn
        have c1 : wr.cell? ⟨b, o + k, none⟩ = some u := (hnx.cell (p := ⟨b, o + k, none⟩) (World.block_lt_of_cell? w _ c0)).trans c0
        have HK := hid (sContains_calls wr u (es.getD k []) x (hu.below hnx) (HL.out k))
        have hpk : p k = decide (x ∈ es.getD k []) := by rw [HP.out]
        rw [← hpk] at HK
        obtain ⟨a1, cap1, rfl, -⟩ := hu
        clear hcell c0 hpk
        generalize (es.getD k []).length = m at *
        by_cases hy : p k = true
        · have e1 := hid (plc_hit p k hy)
          rw [hy] at HK
          go_wp2_with (first
            | (go_at_call 101; refine HK.out.mono ?_; rintro e w' ⟨rfl, hw'⟩; subst w')
            | (at_builtin; refine wpList_append_own _ rfl _ _ 23 rfl w.heap.size 3 i0 (.int .i64 0) 1 8 Try.underlying23 hi hz0 hz1 hz2 rfl (by decide) _ _ _ rfl (hown.alloc _) ⟨wr.heap.size, 0, none⟩ 1 1 [.int .i64 k] rfl rfl ?c1 ?c2 ?c3 ?c4 ?c5 ?_))
          case c1 =>
            intro j u hj
            match j, hj with
            | 0, hj => simp at hj; subst hj; simp [Addr.add]
          case c2 => intro u hu; simp at hu; subst hu; rfl
          case c3 => unfold maxLen; omega
          case c4 => omega
          case c5 => simp; omega
          intro v' w1 hown' hgrow _
          have hb := own_grow hns hown hnx hgrow
          have hown2 : w1.ownsRow w.heap.size 3 1 v' (plc p (k + 1)).length ((plc p (k + 1)).map (Value.int .i64)) := by
            rw [e1.out]; simpa using hown'
          clear hown' hgrow hown
          go_wp2
          go_roundw
          case rel => exact ⟨k + 1, by omega, by go_num, hown2, hb⟩
          case measure => simp [intOf]; omega
        · have hy' : p k = false := by simpa using hy
          have e1 := hid (plc_miss p k hy')
          rw [hy'] at HK
          go_wp2_with (first
            | (go_at_call 101; refine HK.out.mono ?_; rintro e w' ⟨rfl, hw'⟩; subst w'))
          go_roundw
          case rel => exact ⟨k + 1, by omega, by go_num, by rw [e1.out]; exact hown, hnx⟩
          case measure => simp [intOf]; omega
    · obtain rfl : k = n := by omega
      have i1 : ¬ ((k : Int) < (k : Int)) := by omega
      go_wp2
      go_ret
      exact ⟨_, rfl, hown, hnx⟩

end Go.Proofs.Ytnmcgbfhgmmcpaa

/-
  laws.szIntSS: how many cells a slice of slices takes.
-/
namespace Go.Proofs.Ytnmcgbfhgmmcpaa
open Go.RowKit


def tot (ls : List (List Int)) (k : Nat) : Nat := ls.length + ((ls.take k).map List.length).sum

theorem tot_zero (ls : List (List Int)) : tot ls 0 = ls.length := by simp [tot]
theorem tot_succ (ls : List (List Int)) (k : Nat) (h : k < ls.length) : tot ls (k + 1) = tot ls k + (ls.getD k []).length := by
  unfold tot
  rw [List.take_add_one, List.getElem?_eq_getElem h, List.getD_eq_getElem?_getD, List.getElem?_eq_getElem h]
  simp only [Option.toList_some, List.map_append, List.map_cons, List.map_nil, List.sum_append, List.sum_cons, List.sum_nil, Option.getD_some]
  omega
theorem tot_le (ls : List (List Int)) : ∀ (d k : Nat), k + d = ls.length → tot ls k ≤ tot ls ls.length := by
  intro d
  induction d with
  | zero => intro k h; rw [show k = ls.length by omega]; exact Nat.le_refl _
  | succ d ih =>
    intro k h
    have h1 := ih (k + 1) (by omega)
    have h2 := tot_succ ls k (by omega)
    omega

/-- the bound that every slice keeps -/
def Fits (ls : List (List Int)) : Prop := ls.length ≤ 9223372036854775807 ∧ ∀ j, (ls.getD j []).length ≤ 9223372036854775807

theorem getD_le_tot (ls : List (List Int)) (j : Nat) : (ls.getD j []).length ≤ tot ls ls.length := by
  by_cases h : j < ls.length
  · have h1 := tot_succ ls j h
    have h2 := tot_le ls (ls.length - (j + 1)) (j + 1) (by omega)
    omega
  · rw [List.getD_eq_getElem?_getD, List.getElem?_eq_none (by omega)]; simp

theorem short_of_tot {ls : List (List Int)} (h : tot ls ls.length ≤ 1048576) : Short ls := by
  have h0 := tot_le ls ls.length 0 (by omega)
  rw [tot_zero] at h0
  exact ⟨by omega, fun j => by have := getD_le_tot ls j; omega⟩

def szSS (ls : List (List Int)) (left : Int) : Int := if left < tot ls ls.length then -1 else left - tot ls ls.length

set_option maxHeartbeats 2000000 in
set_option maxRecDepth 1000000 in
theorem szIntSS_calls (w : World) (ve : Value) (ls : List (List Int)) (left : Int) (h : ISS w ve ls) (hl : Fits ls) (h1 : 0 ≤ left) (h2 : left ≤ 1048576) :
    Calls Try.prog 13 #[ve, .int .i64 left] w fun e w' => e = .returned (.int .i64 (szSS ls left)) ∧ w' = w := by
  obtain ⟨a, cap, rfl, hc⟩ := h
  obtain ⟨hl1, hl2⟩ := hl
  obtain ⟨n, hn⟩ : ∃ n, n = ls.length := ⟨_, rfl⟩
  obtain ⟨res, hres⟩ : ∃ r, r = szSS ls left := ⟨_, rfl⟩
  rw [← hres]
  unfold szSS at hres
  rw [← hn] at hc hl1 hres ⊢
  have HR := hid hres
  have HC := hid hc
  have HN := hid hn
  have HL := hid hl2
  have HT : Hid (∀ k, k ≤ n → tot ls k ≤ tot ls n) := fun k hk => by
    have := tot_le ls (ls.length - k) k (by rw [← HN.out]; omega)
    rw [← HN.out] at this; exact this
  have HS : Hid (∀ k, k < n → tot ls (k + 1) = tot ls k + (ls.getD k []).length) := fun k hk => tot_succ ls k (by rw [← HN.out]; exact hk)
  have H0 : Hid (tot ls 0 = n) := (tot_zero ls).trans HN.out.symm
  clear hc hn hl2 hres
  by_cases hf : left < n
  · have hf1 : left - (n : Int) < 0 := by omega
    have hf2 : Hid (res = -1) := by
      have t0 := HT.out 0 (by omega)
      rw [H0.out] at t0
      exact HR.out.trans (if_pos (by omega))
    go_enter Try.func13, Try.ntmps13
    go_wp2
    go_ret
    exact ⟨ret_int hf2.out.symm, rfl⟩
  have hf1 : ¬ (left - (n : Int) < 0) := by omega
  go_enter Try.func13, Try.ntmps13
  go_wp2
  go_loop [1, 5] (fun u t => ∃ j : Nat, j ≤ n ∧ t = .int .i64 j ∧ ∃ c : Int, u = .int .i64 c ∧ 0 ≤ c ∧ c ≤ left ∧ Hid (c = left - tot ls j)) (fun _ t => n - (intOf t).toNat)
  case atStart => exact ⟨0, Nat.zero_le _, rfl, _, rfl, by omega, by omega, hid (by rw [H0.out])⟩
  case round =>
    obtain ⟨j, hj, rfl, c, rfl, hc0, hc1, hok⟩ := hrel
    by_cases hjn : j < n
    · have i1 : (j : Int) < (n : Int) := by omega
      rcases HC.out with h0 | ⟨b, o, rfl, hcell⟩
      · omega
      · obtain ⟨u, c1, hu⟩ := hcell j hjn
        have hs := HS.out j hjn
        have hm := HL.out j
        obtain ⟨a1, cap1, rfl, -⟩ := hu
        have ht := HT.out (j + 1) (by omega)
        have ho := hok.out
        have hr := HR.out
        clear hcell hok
        generalize (ls.getD j []).length = m at *
        have HK := hid (szIntS_calls w a1 m cap1 c hc0 (by omega) (by omega))
        by_cases hcm : c < m
        · have hf : Hid (res = -1) := hid (hr.trans (if_pos (by omega)))
          rw [if_pos hcm] at HK
          clear hs ht ho hr
          go_wp2_with (first | (go_at_call 56; refine HK.out.mono ?_; rintro e w' ⟨rfl, hw'⟩; subst w'))
          go_ret
          exact ⟨ret_int hf.out.symm, rfl⟩
        · have hf : Hid (c - m = left - tot ls (j + 1)) := hid (by omega)
          have hc2 : ¬ (c - (m : Int) < 0) := by omega
          rw [if_neg hcm] at HK
          clear hs ht ho hr
          go_wp2_with (first | (go_at_call 56; refine HK.out.mono ?_; rintro e w' ⟨rfl, hw'⟩; subst w'))
          go_round
          case rel => exact ⟨j + 1, by omega, by go_num, _, rfl, by omega, by omega, hf⟩
          case measure => simp [intOf]; omega
    · obtain rfl : j = n := by omega
      have ho := hok.out
      have hf : Hid (res = c) := HR.out.trans (by rw [if_neg (by omega)]; omega)
      have i1 : ¬ ((j : Int) < (j : Int)) := by omega
      clear hok ho
      go_wp2
      go_ret
      exact ⟨ret_int hf.out.symm, rfl⟩

end Go.Proofs.Ytnmcgbfhgmmcpaa

/-
  laws.toIntSS: a copy of a slice of slices in new memory, every list in a block of its own.
-/
namespace Go.Proofs.Ytnmcgbfhgmmcpaa
open Go.RowKit

/-- the first j of n lists have been laid -/
structure Half (w : World) (G n j : Nat) (ls : List (List Int)) (f : Nat → Nat) : Prop where
  cell : ∀ i, i < n → w.cell? ⟨G, i, none⟩ = some (if i < j then .slice (some ⟨f i, 0, none⟩) (ls.getD i []).length (ls.getD i []).length else .slice none 0 0)
  free : ∀ i, i < n → w.frozen? ⟨G, i, none⟩ = false
  own : ∀ i, i < j → OwnI w (f i) (ls.getD i [])
  gt : ∀ i, i < j → G < f i
  up : ∀ i k, i < k → k < j → f i < f k

theorem Half.step {w w1 : World} {G n j : Nat} {ls : List (List Int)} {f : Nat → Nat} (h : Half w G n j ls f) (hj : j < n) (hG : G < w.heap.size)
    (ho : OwnI w1 w.heap.size (ls.getD j [])) (hb : Below w.heap.size w w1) :
    Half (w1.setCell ⟨G, j, none⟩ (.slice (some ⟨w.heap.size, 0, none⟩) (ls.getD j []).length (ls.getD j []).length)) G n (j + 1) ls (fun i => if i = j then w.heap.size else f i) := by
  have hc : ∀ i, i < n → w1.cell? ⟨G, i, none⟩ = some (if i < j then .slice (some ⟨f i, 0, none⟩) (ls.getD i []).length (ls.getD i []).length else .slice none 0 0) :=
    fun i hi => (hb.cell (p := ⟨G, i, none⟩) hG).trans (h.cell i hi)
  have hsz : ∀ (a : Addr) (v : Value), (w1.setCell a v).heap.size = w1.heap.size := fun a v => by simp [World.setCell]
  refine ⟨fun i hi => ?_, fun i hi => ?_, fun i hi => ?_, fun i hi => ?_, fun i k hik hk => ?_⟩
  · by_cases e : i = j
    · subst e
      rw [if_pos (by omega), if_pos rfl]
      exact World.cell?_setCell_same _ _ _ (hc i hi)
    · rw [World.cell?_setCell_other _ _ _ _ (by intro e2; simp only [Addr.mk.injEq] at e2; omega), hc i hi, if_neg e]
      by_cases e2 : i < j
      · rw [if_pos e2, if_pos (by omega)]
      · rw [if_neg e2, if_neg (by omega)]
  · rw [World.frozen?_setCell]
    exact (World.frozen?_of_block (w := w) (a := ⟨G, i, none⟩) (hb.block G hG)).trans (h.free i hi)
  · by_cases e : i = j
    · subst e
      rw [if_pos rfl]
      exact ho.move (Below.heap_setCell _ _ _ _ (by show w.heap.size ≠ G; omega)) (by rw [hsz]; exact Nat.le_refl _)
    · rw [if_neg e]
      have hgt := h.gt i (by omega)
      exact ((h.own i (by omega)).below hb).move (Below.heap_setCell _ _ _ _ (by show f i ≠ G; omega)) (by rw [hsz]; exact Nat.le_refl _)
  · show G < (if i = j then w.heap.size else f i)
    by_cases e : i = j
    · rw [if_pos e]; exact hG
    · rw [if_neg e]; exact h.gt i (by omega)
  · show (if i = j then w.heap.size else f i) < (if k = j then w.heap.size else f k)
    rw [if_neg (by omega)]
    by_cases e : k = j
    · rw [if_pos e]; exact (h.own i (by omega)).lt
    · rw [if_neg e]; exact h.up i k hik (by omega)

set_option maxHeartbeats 2000000 in
set_option maxRecDepth 1000000 in
theorem toIntSS_calls (w : World) (v : Value) (ls : List (List Int)) (h : ISS w v ls) (hl : Short ls) :
    Calls Try.prog 15 #[v] w fun e w' => e = .returned (.slice (some ⟨w.heap.size, 0, none⟩) ls.length ls.length) ∧ (∃ f, Half w' w.heap.size ls.length ls.length ls f) ∧ w.heap.size < w'.heap.size ∧ Below w.heap.size w w' := by
  obtain ⟨a, cap, rfl, hc⟩ := h
  obtain ⟨hl1, hl2⟩ := hl
  obtain ⟨n, hn⟩ : ∃ n, n = ls.length := ⟨_, rfl⟩
  rw [← hn] at hc hl1 ⊢
  have hmk := run_make_row' (P := Try.prog) 24 23 (.slice none 0 0) 24 Try.underlying24 (by kernel_rfl) rfl .i64 .i64 n (by omega) (by omega)
  have hb0 := heap_alloc_new w (.cells (madeCells #[.slice none 0 0] n) 23)
  have hA0 : ∀ j, j < n → (w.alloc (.cells (madeCells #[.slice none 0 0] n) 23)).cell? ⟨w.heap.size, j, none⟩ = some (.slice none 0 0) := fun j hj => by rw [cell_of_row _ _ _ _ _ _ hb0]; exact made_get _ _ _ hj
  have hF0 : ∀ j, (w.alloc (.cells (madeCells #[.slice none 0 0] n) 23)).frozen? ⟨w.heap.size, j, none⟩ = false := fun j => by unfold World.frozen?; rw [hb0]; simp
  have HA0 := hid hA0
  have HF0 := hid hF0
  clear hA0 hF0 hb0
  have HC := hid hc
  have HN := hid hn
  have HL := hid hl2
  clear hc hn hl2
  go_enter Try.func15, Try.ntmps15
  go_wp2
  go_loopw [4] (fun t wr => ∃ j : Nat, j ≤ n ∧ t = .int .i64 j ∧ Below w.heap.size w wr ∧ w.heap.size < wr.heap.size ∧ Hid (∃ f, Half wr w.heap.size n j ls f)) (fun t _ => n - (intOf t).toNat)
  case atStart => exact ⟨0, Nat.zero_le _, rfl, (Below.refl _ _).alloc (Nat.le_refl _) _, by simp, hid ⟨fun _ => 0, fun i hi => by rw [if_neg (by omega)]; exact HA0.out i hi, fun i _ => HF0.out i, fun i hi => by omega, fun i hi => by omega, fun i k _ hk => by omega⟩⟩
  case round =>
    obtain ⟨j, hj, rfl, hB, hlt, hH⟩ := hrel
    by_cases hjn : j < n
    · have i1 : (j : Int) < (n : Int) := by omega
      rcases HC.out with h0 | ⟨b, o, rfl, hcell⟩
      · omega
      · obtain ⟨u, c0, hu⟩ := hcell j hjn
        have c1 : wr.cell? ⟨b, o + j, none⟩ = some u := (hB.cell (p := ⟨b, o + j, none⟩) (World.block_lt_of_cell? w _ c0)).trans c0
        have HK := hid (toIntS_calls wr u (ls.getD j []) (hu.below hB) (HL.out j))
        obtain ⟨a1, cap1, rfl, -⟩ := hu
        have c2 : wr.cell? ⟨w.heap.size, j, none⟩ = some (.slice none 0 0) := by
          obtain ⟨f, hf⟩ := hH.out
          exact (hf.cell j hjn).trans (by rw [if_neg (by omega)])
        have c3 : wr.frozen? ⟨w.heap.size, j, none⟩ = false := by
          obtain ⟨f, hf⟩ := hH.out
          exact hf.free j hjn
        have HS : Hid (∀ w1, OwnI w1 wr.heap.size (ls.getD j []) → Below wr.heap.size wr w1 → ∃ f, Half (w1.setCell ⟨w.heap.size, j, none⟩ (.slice (some ⟨wr.heap.size, 0, none⟩) (ls.getD j []).length (ls.getD j []).length)) w.heap.size n (j + 1) ls f) := fun w1 ho hb => by
          obtain ⟨f, hf⟩ := hH.out
          exact ⟨_, hf.step hjn hlt ho hb⟩
        clear hcell c0 hH
        go_wp2_with (first | (go_at_call 14; refine HK.out.mono ?_; rintro e w1 ⟨rfl, ho, hb⟩; have c4 : w1.cell? ⟨w.heap.size, j, none⟩ = some (.slice none 0 0) := (hb.cell (p := ⟨w.heap.size, j, none⟩) hlt).trans c2; have c5 : w1.frozen? ⟨w.heap.size, j, none⟩ = false := (World.frozen?_of_block (w := wr) (a := ⟨w.heap.size, j, none⟩) (hb.block w.heap.size hlt)).trans c3; have HO := hid ho; have HB := hid hb; clear ho hb))
        go_roundw
        case rel => exact ⟨j + 1, by omega, by go_num, (bt hB HB.out).setCell (Nat.le_refl _) _, by have := HB.out.size; simp [World.setCell]; omega, hid (HS.out _ HO.out HB.out)⟩
        case measure => simp [intOf]; omega
    · obtain rfl : j = n := by omega
      have i1 : ¬ ((j : Int) < (j : Int)) := by omega
      go_wp2
      go_ret
      exact ⟨rfl, hH.out, hlt, hB⟩

end Go.Proofs.Ytnmcgbfhgmmcpaa
