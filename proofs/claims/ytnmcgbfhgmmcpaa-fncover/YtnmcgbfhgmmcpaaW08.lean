import Derived.Test.YtnmcgbfhgmmcpaaW07
/-
  laws.eqIntS, laws.eqIntSS at lists alike: they only draw.
-/
namespace Go.Proofs.Ytnmcgbfhgmmcpaa
open Go.RowKit

theorem drewN_step {w wr : World} (k : Nat) (h : ∃ m, wr = w.drewN m) : ∃ m, wr.drewN k = w.drewN m := by
  obtain ⟨m, rfl⟩ := h
  exact ⟨m + k, World.drewN_drewN _ _ _⟩

set_option maxHeartbeats 1000000 in
theorem eqIntS_quiet (w : World) (v v' : Value) (l : List Int) (h : IS w v l) (h' : IS w v' l) (hl : l.length ≤ 1099511627776) :
    Calls Try.prog 17 #[v, v'] w fun e w' => e = .returned (.bool true) ∧ ∃ m, w' = w.drewN m := by
  obtain ⟨a, cap, rfl, hc⟩ := h
  obtain ⟨a', cap', rfl, hc'⟩ := h'
  obtain ⟨n, hn⟩ : ∃ n, n = l.length := ⟨_, rfl⟩
  rw [← hn] at hc hc' hl ⊢
  have HC := hid hc
  have HC' := hid hc'
  clear hc hc' hn
  have hne : ((n : Int) != (n : Int)) = false := by simp
  go_enter Try.func17, Try.ntmps17
  go_wp2
  go_loopw [5] (fun t wr => ∃ j : Nat, j ≤ n ∧ t = .int .i64 j ∧ Hid (∃ m, wr = w.drewN m)) (fun t _ => n - (intOf t).toNat)
  case atStart => exact ⟨0, Nat.zero_le _, rfl, hid ⟨0, rfl⟩⟩
  case round =>
    obtain ⟨j, hj, rfl, hB⟩ := hrel
    by_cases hjn : j < n
    · have i1 : (j : Int) < (n : Int) := by omega
      rcases HC.out with h0 | ⟨b, o, rfl, hcell⟩
      · omega
      · rcases HC'.out with h0 | ⟨b', o', rfl, hcell'⟩
        · omega
        · have c1 : wr.cell? ⟨b, o + j, none⟩ = some (.int .i64 (l.getD j 0)) := by obtain ⟨m, rfl⟩ := hB.out; exact hcell j hjn
          have c2 : wr.cell? ⟨b', o' + j, none⟩ = some (.int .i64 (l.getD j 0)) := by obtain ⟨m, rfl⟩ := hB.out; exact hcell' j hjn
          obtain ⟨x, hx⟩ : ∃ x, x = l.getD j 0 := ⟨_, rfl⟩
          rw [← hx] at c1 c2
          have hxx : (x != x) = false := by simp
          clear hcell hcell' hx
          go_wp2_with fail
          go_quiet (fail)
          go_wp2
          go_roundw
          case rel => exact ⟨j + 1, by omega, by go_num, hid (drewN_step _ hB.out)⟩
          case measure => simp [intOf]; omega
    · obtain rfl : j = n := by omega
      have i1 : ¬ ((j : Int) < (j : Int)) := by omega
      go_wp2
      go_ret
      exact ⟨rfl, hB.out⟩

theorem IS.drewN {w : World} {v : Value} {l : List Int} (h : IS w v l) (m : Nat) : IS (w.drewN m) v l := h

set_option maxHeartbeats 2000000 in
set_option maxRecDepth 1000000 in
theorem eqIntSS_quiet (w : World) (v v' : Value) (ls : List (List Int)) (h : ISS w v ls) (h' : ISS w v' ls) (hl : Short ls) :
    Calls Try.prog 18 #[v, v'] w fun e w' => e = .returned (.bool true) ∧ ∃ m, w' = w.drewN m := by
  obtain ⟨a, cap, rfl, hc⟩ := h
  obtain ⟨a', cap', rfl, hc'⟩ := h'
  obtain ⟨hl1, hl2⟩ := hl
  obtain ⟨n, hn⟩ : ∃ n, n = ls.length := ⟨_, rfl⟩
  rw [← hn] at hc hc' hl1 ⊢
  have HC := hid hc
  have HC' := hid hc'
  have HL := hid hl2
  clear hc hc' hn hl2
  have hne : ((n : Int) != (n : Int)) = false := by simp
  go_enter Try.func18, Try.ntmps18
  go_wp2
  go_loopw [5] (fun t wr => ∃ j : Nat, j ≤ n ∧ t = .int .i64 j ∧ Hid (∃ m, wr = w.drewN m)) (fun t _ => n - (intOf t).toNat)
  case atStart => exact ⟨0, Nat.zero_le _, rfl, hid ⟨0, rfl⟩⟩
  case round =>
    obtain ⟨j, hj, rfl, hB⟩ := hrel
    by_cases hjn : j < n
    · have i1 : (j : Int) < (n : Int) := by omega
      rcases HC.out with h0 | ⟨b, o, rfl, hcell⟩
      · omega
      · rcases HC'.out with h0 | ⟨b', o', rfl, hcell'⟩
        · omega
        · obtain ⟨u, d1, hu⟩ := hcell j hjn
          obtain ⟨u', d2, hu'⟩ := hcell' j hjn
          have c1 : wr.cell? ⟨b, o + j, none⟩ = some u := by obtain ⟨m, rfl⟩ := hB.out; exact d1
          have c2 : wr.cell? ⟨b', o' + j, none⟩ = some u' := by obtain ⟨m, rfl⟩ := hB.out; exact d2
          have HK : Hid (∀ q, Calls Try.prog 17 #[u, u'] (wr.drewN q) fun e w' => e = .returned (.bool true) ∧ ∃ m, w' = (wr.drewN q).drewN m) := fun q => by
            obtain ⟨m, rfl⟩ := hB.out
            exact eqIntS_quiet _ u u' (ls.getD j []) hu hu' (HL.out j)
          obtain ⟨a1, cap1, rfl, -⟩ := hu
          obtain ⟨a2, cap2, rfl, -⟩ := hu'
          clear hcell hcell' d1 d2
          go_wp2_with fail
          go_quiet ((go_at_call 17; exact Calls.quiet_of (HK.out _)))
          go_wp2
          go_roundw
          case rel => exact ⟨j + 1, by omega, by go_num, hid (drewN_step _ hB.out)⟩
          case measure => simp [intOf]; omega
    · obtain rfl : j = n := by omega
      have i1 : ¬ ((j : Int) < (j : Int)) := by omega
      go_wp2
      go_ret
      exact ⟨rfl, hB.out⟩

end Go.Proofs.Ytnmcgbfhgmmcpaa

/-
  Lists in order: cmp.Compare, slices.Compare, spec.l2Compare.
-/
namespace Go.Proofs.Ytnmcgbfhgmmcpaa
open Go.RowKit

def cmpL : List Int → List Int → Int
  | [], [] => 0
  | [], _ :: _ => -1
  | _ :: _, [] => 1
  | x :: a, y :: b => if x < y then -1 else if y < x then 1 else cmpL a b

theorem drop_getD {l : List Int} {j : Nat} (h : j < l.length) : l.drop j = l.getD j 0 :: l.drop (j + 1) := by
  rw [List.getD_eq_getElem?_getD, List.getElem?_eq_getElem h]
  exact List.drop_eq_getElem_cons h

theorem cmpL_drop (a b : List Int) : ∀ j, j ≤ a.length → j ≤ b.length → (∀ i, i < j → a.getD i 0 = b.getD i 0) → cmpL a b = cmpL (a.drop j) (b.drop j) := by
  intro j
  induction j with
  | zero => intros; simp
  | succ j ih =>
    intro h1 h2 h3
    rw [ih (by omega) (by omega) (fun i hi => h3 i (by omega)), drop_getD (show j < a.length by omega), drop_getD (show j < b.length by omega), h3 j (by omega)]
    simp [cmpL]

theorem cmpL_lt {a b : List Int} {j : Nat} (h1 : j < a.length) (h2 : j < b.length) (h3 : ∀ i, i < j → a.getD i 0 = b.getD i 0) (h4 : a.getD j 0 < b.getD j 0) : cmpL a b = -1 := by
  rw [cmpL_drop a b j (by omega) (by omega) h3, drop_getD h1, drop_getD h2]
  simp only [cmpL]
  rw [if_pos h4]

theorem cmpL_gt {a b : List Int} {j : Nat} (h1 : j < a.length) (h2 : j < b.length) (h3 : ∀ i, i < j → a.getD i 0 = b.getD i 0) (h4 : b.getD j 0 < a.getD j 0) : cmpL a b = 1 := by
  rw [cmpL_drop a b j (by omega) (by omega) h3, drop_getD h1, drop_getD h2]
  simp only [cmpL]
  rw [if_neg (by omega), if_pos h4]

theorem cmpL_short {a b : List Int} (h2 : a.length < b.length) (h3 : ∀ i, i < a.length → a.getD i 0 = b.getD i 0) : cmpL a b = -1 := by
  rw [cmpL_drop a b a.length (by omega) (by omega) h3, drop_getD h2, List.drop_length]
  rfl

theorem cmpL_long {a b : List Int} (h2 : b.length < a.length) (h3 : ∀ i, i < b.length → a.getD i 0 = b.getD i 0) : cmpL a b = 1 := by
  rw [cmpL_drop a b b.length (by omega) (by omega) h3, drop_getD h2, List.drop_length]
  rfl

theorem cmpL_same {a b : List Int} (h2 : a.length = b.length) (h3 : ∀ i, i < a.length → a.getD i 0 = b.getD i 0) : cmpL a b = 0 := by
  rw [cmpL_drop a b a.length (by omega) (by omega) h3, List.drop_length, h2, List.drop_length]
  rfl

def cmpI (x y : Int) : Int := if x < y then -1 else if y < x then 1 else 0

end Go.Proofs.Ytnmcgbfhgmmcpaa

/-
  Lists in order: slices.Compare, spec.l2Compare.
-/
namespace Go.Proofs.Ytnmcgbfhgmmcpaa
open Go.RowKit

theorem agree_step {la lb : List Int} {j : Nat} (h : ∀ i, i < j → la.getD i 0 = lb.getD i 0) (e : la.getD j 0 = lb.getD j 0) : ∀ i, i < j + 1 → la.getD i 0 = lb.getD i 0 := fun i hi => by
  by_cases e2 : i = j
  · rw [e2]; exact e
  · exact h i (by omega)

end Go.Proofs.Ytnmcgbfhgmmcpaa

/-
  Sorted rows: impl.areSortedRows, spec.l2SortedRows.
-/
namespace Go.Proofs.Ytnmcgbfhgmmcpaa
open Go.RowKit

def rowAt (rows : List (List Int)) (q : Int) (j : Nat) : Bool := decide (((rows.getD j []).length : Int) = q) && (decide (j = 0) || decide (cmpL (rows.getD (j - 1) []) (rows.getD j []) < 0))
def rowsB (rows : List (List Int)) (q : Int) : Bool := (List.range rows.length).all (rowAt rows q)

theorem rowsB_true {rows : List (List Int)} {q : Int} (h : ∀ i, i < rows.length → rowAt rows q i = true) : rowsB rows q = true := by
  unfold rowsB
  rw [List.all_eq_true]
  intro i hi
  exact h i (by simpa using hi)

theorem rowsB_false {rows : List (List Int)} {q : Int} {j : Nat} (hj : j < rows.length) (h : rowAt rows q j = false) : rowsB rows q = false := by
  unfold rowsB
  rw [List.all_eq_false]
  exact ⟨j, by simpa using hj, by rw [h]; decide⟩

theorem rowAt_cases (rows : List (List Int)) (q : Int) (j : Nat) :
    (((rows.getD j []).length : Int) ≠ q ∧ rowAt rows q j = false) ∨ (((rows.getD j []).length : Int) = q ∧ j = 0 ∧ rowAt rows q j = true) ∨
    (((rows.getD j []).length : Int) = q ∧ 0 < j ∧ 0 ≤ cmpL (rows.getD (j - 1) []) (rows.getD j []) ∧ rowAt rows q j = false) ∨ (((rows.getD j []).length : Int) = q ∧ 0 < j ∧ cmpL (rows.getD (j - 1) []) (rows.getD j []) < 0 ∧ rowAt rows q j = true) := by
  unfold rowAt
  generalize ((rows.getD j []).length : Int) = x
  generalize cmpL (rows.getD (j - 1) []) (rows.getD j []) = y
  by_cases h1 : x = q
  · right
    by_cases h3 : j = 0
    · left; refine ⟨h1, h3, ?_⟩; simp [h3, h1]
    · right
      by_cases h4 : y < 0
      · right; refine ⟨h1, by omega, h4, ?_⟩; simp [h1]; omega
      · left; refine ⟨h1, by omega, by omega, ?_⟩; simp [h1]; omega
  · left; exact ⟨h1, by simp [h1]⟩

end Go.Proofs.Ytnmcgbfhgmmcpaa

/-
  impl.areEdges, impl.inEdges.
-/
namespace Go.Proofs.Ytnmcgbfhgmmcpaa
open Go.RowKit

def edgesB (es : List (List Int)) : Bool := decide (es.length ≤ 7) && es.all setB
def coverB (bag : List Int) (es : List (List Int)) : Bool := bag.all fun x => es.any fun e => decide (x ∈ e)

theorem all_getD {α : Type} (p : α → Bool) (d : α) (l : List α) (h : ∀ i, i < l.length → p (l.getD i d) = true) : l.all p = true := by
  rw [List.all_eq_true]
  intro x hx
  obtain ⟨j, hj, e⟩ := List.getElem_of_mem hx
  have := h j hj
  rw [List.getD_eq_getElem?_getD, List.getElem?_eq_getElem hj] at this
  rw [← e]; exact this

theorem all_getD_false {α : Type} (p : α → Bool) (d : α) (l : List α) (j : Nat) (hj : j < l.length) (h : p (l.getD j d) = false) : l.all p = false := by
  rw [List.all_eq_false]
  rw [List.getD_eq_getElem?_getD, List.getElem?_eq_getElem hj] at h
  exact ⟨_, List.getElem_mem hj, by simpa using h⟩

theorem plc_nil_iff (p : Nat → Bool) (k : Nat) : (plc p k).length = 0 ↔ ∀ i, i < k → p i = false := by
  unfold plc
  rw [List.length_map, List.length_eq_zero_iff, List.filter_eq_nil_iff]
  simp

theorem any_plc (x : Int) (es : List (List Int)) : (es.any fun e => decide (x ∈ e)) = !decide ((plc (fun i => decide (x ∈ es.getD i [])) es.length).length = 0) := by
  cases hb : (es.any fun e => decide (x ∈ e))
  · rw [eq_comm, Bool.not_eq_false', decide_eq_true_eq, plc_nil_iff]
    intro i hi
    rw [List.any_eq_false] at hb
    have := hb _ (List.getElem_mem hi)
    rw [List.getD_eq_getElem?_getD, List.getElem?_eq_getElem hi]
    simpa using this
  · rw [eq_comm, Bool.not_eq_true', decide_eq_false_iff_not, plc_nil_iff]
    intro hall
    rw [List.any_eq_true] at hb
    obtain ⟨e, he, h2⟩ := hb
    obtain ⟨j, hj, e1⟩ := List.getElem_of_mem he
    have := hall j hj
    rw [List.getD_eq_getElem?_getD, List.getElem?_eq_getElem hj] at this
    simp only [Option.getD_some, e1] at this
    rw [this] at h2
    exact Bool.noConfusion h2

set_option maxHeartbeats 2000000 in
set_option maxRecDepth 1000000 in
theorem areEdges_calls (w : World) (ve : Value) (es : List (List Int)) (h : ISS w ve es) (hl : Short es) :
    Calls Try.prog 42 #[ve] w fun e w' => e = .returned (.bool (edgesB es)) ∧ w' = w := by
  obtain ⟨a, cap, rfl, hc⟩ := h
  obtain ⟨hl1, hl2⟩ := hl
  obtain ⟨n, hn⟩ : ∃ n, n = es.length := ⟨_, rfl⟩
  obtain ⟨res, hres⟩ : ∃ r, r = edgesB es := ⟨_, rfl⟩
  rw [← hres]
  rw [← hn] at hc hl1 ⊢
  have HR := hid hres
  have HC := hid hc
  have HN := hid hn
  have HL := hid hl2
  clear hc hn hl2 hres
  by_cases h7 : 7 < n
  · have hf : Hid (res = false) := HR.out.trans (by unfold edgesB; rw [← HN.out, decide_eq_false (by omega)]; rfl)
    have i7 : (7 : Int) < (n : Int) := by omega
    go_enter Try.func42, Try.ntmps42
    go_wp2
    go_ret
    exact ⟨ret_bool (by rw [hf.out]), rfl⟩
  have i7 : ¬ (7 : Int) < (n : Int) := by omega
  go_enter Try.func42, Try.ntmps42
  go_wp2
  go_loop [10] (fun t => ∃ j : Nat, j ≤ n ∧ t = .int .i64 j ∧ Hid (∀ i, i < j → setB (es.getD i []) = true)) (fun t => n - (intOf t).toNat)
  case atStart => exact ⟨0, Nat.zero_le _, rfl, hid (fun i hi => by omega)⟩
  case round =>
    obtain ⟨j, hj, rfl, hok⟩ := hrel
    by_cases hjn : j < n
    · have i1 : (j : Int) < (n : Int) := by omega
      rcases HC.out with h0 | ⟨b, o, rfl, hcell⟩
      · omega
      · obtain ⟨u, c1, hu⟩ := hcell j hjn
        have HK := hid (isVariableSet_calls w u (es.getD j []) hu (HL.out j))
        obtain ⟨a1, cap1, rfl, -⟩ := hu
        have fin : setB (es.getD j []) = false → Hid (res = false) := fun e => HR.out.trans (by
          unfold edgesB
          rw [all_getD_false setB [] es j (by rw [← HN.out]; exact hjn) e, Bool.and_false])
        have nxt : setB (es.getD j []) = true → Hid (∀ i, i < j + 1 → setB (es.getD i []) = true) := fun e i hi => by
          by_cases e2 : i = j
          · rw [e2]; exact e
          · exact hok.out i (by omega)
        clear hcell hok
        generalize (es.getD j []).length = m at *
        generalize setB (es.getD j []) = y at *
        cases y
        · have hf := fin rfl
          clear fin nxt
          go_wp2_with (first | (go_at_call 41; refine HK.out.mono ?_; rintro e w' ⟨rfl, hw'⟩; subst w'))
          go_ret
          exact ⟨ret_bool (by rw [hf.out]), rfl⟩
        · have hf := nxt rfl
          clear fin nxt
          go_wp2_with (first | (go_at_call 41; refine HK.out.mono ?_; rintro e w' ⟨rfl, hw'⟩; subst w'))
          go_round
          case rel => exact ⟨j + 1, by omega, by go_num, hf⟩
          case measure => simp [intOf]; omega
    · obtain rfl : j = n := by omega
      have hf : Hid (res = true) := HR.out.trans (by
        unfold edgesB
        rw [← HN.out, decide_eq_true (by omega), Bool.true_and]
        exact all_getD setB [] es (fun i hi => hok.out i (by rw [HN.out]; exact hi)))
      have i1 : ¬ ((j : Int) < (j : Int)) := by omega
      clear hok
      go_wp2
      go_ret
      exact ⟨ret_bool (by rw [hf.out]), rfl⟩

set_option maxHeartbeats 2000000 in
set_option maxRecDepth 1000000 in
theorem inEdges_calls (w : World) (vb ve : Value) (bag : List Int) (es : List (List Int)) (hb : IS w vb bag) (h : ISS w ve es) (hlb : bag.length ≤ 1099511627776) (hl : Short es) :
    Calls Try.prog 43 #[vb, ve] w fun e w' => e = .returned (.bool (coverB bag es)) ∧ Below w.heap.size w w' := by
  obtain ⟨a, cap, rfl, hc⟩ := hb
  obtain ⟨n, hn⟩ : ∃ n, n = bag.length := ⟨_, rfl⟩
  obtain ⟨res, hres⟩ : ∃ r, r = coverB bag es := ⟨_, rfl⟩
  rw [← hres]
  rw [← hn] at hc hlb ⊢
  have HR := hid hres
  have HC := hid hc
  have HN := hid hn
  have HE := hid h
  have HL := hid hl
  clear hc hn h hl hres
  go_enter Try.func43, Try.ntmps43
  go_wp2
  go_loopw [9] (fun t wr => ∃ j : Nat, j ≤ n ∧ t = .int .i64 j ∧ Below w.heap.size w wr ∧ Hid (∀ i, i < j → (es.any fun e => decide (bag.getD i 0 ∈ e)) = true)) (fun t _ => n - (intOf t).toNat)
  case atStart => exact ⟨0, Nat.zero_le _, rfl, Below.refl _ _, hid (fun i hi => by omega)⟩
  case round =>
    obtain ⟨j, hj, rfl, hnx, hok⟩ := hrel
    by_cases hjn : j < n
    · have i1 : (j : Int) < (n : Int) := by omega
      rcases HC.out with h0 | ⟨b, o, rfl, hcell⟩
      · omega
      · have c0 := hcell j hjn
        have c1 : wr.cell? ⟨b, o + j, none⟩ = some (.int .i64 (bag.getD j 0)) := (hnx.cell (p := ⟨b, o + j, none⟩) (World.block_lt_of_cell? w _ c0)).trans c0
        have HK := hid (edgesWith_calls wr ve (bag.getD j 0) es (HE.out.below hnx) HL.out)
        have hany := any_plc (bag.getD j 0) es
        have fin : (es.any fun e => decide (bag.getD j 0 ∈ e)) = false → Hid (res = false) := fun e => HR.out.trans (by
          unfold coverB
          exact all_getD_false (fun x => es.any fun e => decide (x ∈ e)) 0 bag j (by rw [← HN.out]; exact hjn) e)
        have nxt : (es.any fun e => decide (bag.getD j 0 ∈ e)) = true → Hid (∀ i, i < j + 1 → (es.any fun e => decide (bag.getD i 0 ∈ e)) = true) := fun e i hi => by
          by_cases e2 : i = j
          · rw [e2]; exact e
          · exact hok.out i (by omega)
        have hlen := plc_le (fun i => decide (bag.getD j 0 ∈ es.getD i [])) es.length
        have hll := HL.out.1
        clear hcell hok c0
        generalize bag.getD j 0 = x at *
        generalize plc (fun i => decide (x ∈ es.getD i [])) es.length = pl at *
        generalize (es.any fun e => decide (x ∈ e)) = y at *
        obtain ⟨m, hm⟩ : ∃ m, m = pl.length := ⟨_, rfl⟩
        rw [← hm] at hany hlen HK
        have hm7 : m ≤ 1099511627776 := by omega
        clear hlen hll hm
        cases y
        · have hf := fin rfl
          have hm0 : m = 0 := by simpa using hany
          clear fin nxt hany
          subst hm0
          go_wp2_with (first | (go_at_call 87; refine HK.out.mono ?_; rintro e w' ⟨v, rfl, ⟨hv1, (⟨rfl, hv2⟩ | ⟨g, cap', cur, rfl, hv2⟩)⟩, hbw⟩))
          all_goals go_ret
          all_goals exact ⟨ret_bool (by rw [hf.out]), bt hnx hbw⟩
        · have hf := nxt rfl
          have hm0 : m ≠ 0 := by simpa using hany
          have hm1 : ¬ ((m : Int) = 0) := by omega
          clear fin nxt hany
          go_wp2_with (first | (go_at_call 87; refine HK.out.mono ?_; rintro e w' ⟨v, rfl, ⟨hv1, (⟨rfl, hv2⟩ | ⟨g, cap', cur, rfl, hv2⟩)⟩, hbw⟩))
          · exact absurd hv2 hm0
          go_roundw
          case rel => exact ⟨j + 1, by omega, by go_num, bt hnx hbw, hf⟩
          case measure => simp [intOf]; omega
    · obtain rfl : j = n := by omega
      have hf : Hid (res = true) := HR.out.trans (by
        unfold coverB
        exact all_getD (fun x => es.any fun e => decide (x ∈ e)) 0 bag (fun i hi => hok.out i (by rw [HN.out]; exact hi)))
      have i1 : ¬ ((j : Int) < (j : Int)) := by omega
      clear hok
      go_wp2
      go_ret
      exact ⟨ret_bool (by rw [hf.out]), hnx⟩

end Go.Proofs.Ytnmcgbfhgmmcpaa
