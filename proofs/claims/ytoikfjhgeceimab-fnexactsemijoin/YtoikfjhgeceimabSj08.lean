import Derived.Test.YtoikfjhgeceimabSj04
import Derived.Test.YtoikfjhgeceimabSj05
import Derived.Test.YtoikfjhgeceimabSj07
/-
  Sorted rows: impl.areSortedRows, spec.l2SortedRows.
-/
namespace Go.Proofs.Ytoikfjhgeceimab
open Go.RowKit

def rowAt (rows : List (List Int)) (q : Int) (j : Nat) : Bool := decide (((rows.getD j []).length : Int) = q) && (decide (j = 0) || decide (cmpL (rows.getD (j - 1) []) (rows.getD j []) < 0))
def rowsB (rows : List (List Int)) (q : Int) : Bool := (List.range rows.length).all (rowAt rows q)

theorem rowsB_true {rows : List (List Int)} {q : Int} (h : ∀ i, i < rows.length → rowAt rows q i = true) : rowsB rows q = true := by
  unfold rowsB
  rw [List.all_eq_true]
  intro i hi
  exact h i (by simpa using hi)

theorem rowsB_false {rows : List (List Int)} {q : Int} {j : Nat} (hj : j < rows.length) (h : rowAt rows q j = false) : rowsB rows q = false := by
  unfold rowsB
  rw [List.all_eq_false]
  exact ⟨j, by simpa using hj, by rw [h]; decide⟩

theorem rowAt_cases (rows : List (List Int)) (q : Int) (j : Nat) :
    (((rows.getD j []).length : Int) ≠ q ∧ rowAt rows q j = false) ∨ (((rows.getD j []).length : Int) = q ∧ j = 0 ∧ rowAt rows q j = true) ∨
    (((rows.getD j []).length : Int) = q ∧ 0 < j ∧ 0 ≤ cmpL (rows.getD (j - 1) []) (rows.getD j []) ∧ rowAt rows q j = false) ∨ (((rows.getD j []).length : Int) = q ∧ 0 < j ∧ cmpL (rows.getD (j - 1) []) (rows.getD j []) < 0 ∧ rowAt rows q j = true) := by
  unfold rowAt
  generalize ((rows.getD j []).length : Int) = x
  generalize cmpL (rows.getD (j - 1) []) (rows.getD j []) = y
  by_cases h1 : x = q
  · right
    by_cases h3 : j = 0
    · left; refine ⟨h1, h3, ?_⟩; simp [h3, h1]
    · right
      by_cases h4 : y < 0
      · right; refine ⟨h1, by omega, h4, ?_⟩; simp [h1]; omega
      · left; refine ⟨h1, by omega, by omega, ?_⟩; simp [h1]; omega
  · left; exact ⟨h1, by simp [h1]⟩

set_option maxHeartbeats 2000000 in
set_option maxRecDepth 1000000 in
theorem areSortedRows_calls (w : World) (vr : Value) (rows : List (List Int)) (q : Int) (h : ISS w vr rows) (hl : Short rows) :
    Calls Try.prog 86 #[vr, .int .i64 q] w fun e w' => e = .returned (.bool (rowsB rows q)) ∧ w' = w := by
  obtain ⟨a, cap, rfl, hc⟩ := h
  obtain ⟨hl1, hl2⟩ := hl
  obtain ⟨n, hn⟩ : ∃ n, n = rows.length := ⟨_, rfl⟩
  obtain ⟨res, hres⟩ : ∃ r, r = rowsB rows q := ⟨_, rfl⟩
  rw [← hres]
  rw [← hn] at hc hl1 ⊢
  have HR := hid hres
  have HC := hid hc
  have HN := hid hn
  have HL := hid hl2
  clear hc hn hres hl2
  go_enter Try.func86, Try.ntmps86
  go_wp2
  go_loop [9] (fun t => ∃ j : Nat, j ≤ n ∧ t = .int .i64 j ∧ Hid (∀ i, i < j → rowAt rows q i = true)) (fun t => n - (intOf t).toNat)
  case atStart => exact ⟨0, Nat.zero_le _, rfl, hid (fun i hi => by omega)⟩
  case round =>
    obtain ⟨j, hj, rfl, hok⟩ := hrel
    by_cases hjn : j < n
    · have i1 : (j : Int) < (n : Int) := by omega
      rcases HC.out with h0 | ⟨b, o, rfl, hcell⟩
      · omega
      · obtain ⟨u, c1, hu⟩ := hcell j hjn
        have hcs := rowAt_cases rows q j
        have fin : rowAt rows q j = false → Hid (res = false) := fun e => HR.out.trans (rowsB_false (by rw [← HN.out]; exact hjn) e)
        have nxt : rowAt rows q j = true → Hid (∀ i, i < j + 1 → rowAt rows q i = true) := fun e i hi => by
          by_cases e2 : i = j
          · rw [e2]; exact e
          · exact hok.out i (by omega)
        have hp : 0 < j → ∃ u', w.cell? ⟨b, o + (j - 1), none⟩ = some u' ∧ IS w u' (rows.getD (j - 1) []) := fun e => hcell (j - 1) (by omega)
        have HU := hid hu
        have hm := HL.out j
        obtain ⟨a1, cap1, rfl, -⟩ := hu
        clear hcell hok
        rcases hcs with ⟨h1, h2⟩ | ⟨h1, h2, h3⟩ | ⟨h1, h2, h3, h4⟩ | ⟨h1, h2, h3, h4⟩
        · have hf := fin h2
          clear hp fin nxt h2
          generalize (rows.getD j []).length = m at *
          go_wp2
          go_ret
          exact ⟨ret_bool (by rw [hf.out]), rfl⟩
        · have hf := nxt h3
          subst h2
          have c1' : w.cell? ⟨b, o, none⟩ = some (.slice a1 (rows.getD 0 []).length cap1) := by simpa using c1
          clear hp fin nxt h3 HU
          generalize (rows.getD 0 []).length = m at *
          subst h1
          go_wp2
          go_round
          case rel => exact ⟨0 + 1, by omega, by go_num, hf⟩
          case measure => simp [intOf]; omega
        · have hf := fin h4
          obtain ⟨u', c2, hu'⟩ := hp h2
          have HK := hid (sCompare_calls w u' _ (rows.getD (j - 1) []) (rows.getD j []) hu' HU.out (HL.out (j - 1)) hm)
          obtain ⟨a2, cap2, rfl, -⟩ := hu'
          have i3 : (0 : Int) < (j : Int) := by omega
          have i4 : ((j : Int) - 1).toNat = j - 1 := by omega
          clear hp fin nxt h4 HU
          generalize cmpL (rows.getD (j - 1) []) (rows.getD j []) = y at *
          generalize (rows.getD j []).length = m at *
          generalize (rows.getD (j - 1) []).length = m' at *
          subst h1
          go_wp2_with (first | (go_at_call 125; refine HK.out.mono ?_; rintro e w' ⟨rfl, hw'⟩; subst w'))
          go_ret
          exact ⟨ret_bool (by rw [hf.out]), rfl⟩
        · have hf := nxt h4
          obtain ⟨u', c2, hu'⟩ := hp h2
          have HK := hid (sCompare_calls w u' _ (rows.getD (j - 1) []) (rows.getD j []) hu' HU.out (HL.out (j - 1)) hm)
          obtain ⟨a2, cap2, rfl, -⟩ := hu'
          have i3 : (0 : Int) < (j : Int) := by omega
          have i4 : ((j : Int) - 1).toNat = j - 1 := by omega
          clear hp fin nxt h4 HU
          generalize cmpL (rows.getD (j - 1) []) (rows.getD j []) = y at *
          generalize (rows.getD j []).length = m at *
          generalize (rows.getD (j - 1) []).length = m' at *
          subst h1
          have i5 : ¬ (0 ≤ y) := by omega
          go_wp2_with (first | (go_at_call 125; refine HK.out.mono ?_; rintro e w' ⟨rfl, hw'⟩; subst w'))
          go_round
          case rel => exact ⟨j + 1, by omega, by go_num, hf⟩
          case measure => simp [intOf]; omega
    · obtain rfl : j = n := by omega
      have hf : Hid (res = true) := HR.out.trans (rowsB_true (fun i hi => hok.out i (by rw [HN.out]; exact hi)))
      have i1 : ¬ ((j : Int) < (j : Int)) := by omega
      clear hok
      go_wp2
      go_ret
      exact ⟨ret_bool (by rw [hf.out]), rfl⟩

set_option maxHeartbeats 2000000 in
set_option maxRecDepth 1000000 in
theorem l2SortedRows_calls (w : World) (vr : Value) (rows : List (List Int)) (q : Int) (h : ISS w vr rows) (hl : Short rows) :
    Calls Try.prog 82 #[vr, .int .i64 q] w fun e w' => e = .returned (.bool (rowsB rows q)) ∧ ∃ q, w' = w.drewN q := by
  obtain ⟨a, cap, rfl, hc⟩ := h
  obtain ⟨hl1, hl2⟩ := hl
  obtain ⟨n, hn⟩ : ∃ n, n = rows.length := ⟨_, rfl⟩
  obtain ⟨res, hres⟩ : ∃ r, r = rowsB rows q := ⟨_, rfl⟩
  rw [← hres]
  rw [← hn] at hc hl1 ⊢
  have HR := hid hres
  have HC := hid hc
  have HN := hid hn
  have HL := hid hl2
  clear hc hn hres hl2
  go_enter Try.func82, Try.ntmps82
  go_wp2
  go_loopw [9] (fun t wr => ∃ j : Nat, j ≤ n ∧ t = .int .i64 j ∧ Hid (∃ k, wr = w.drewN k) ∧ Hid (∀ i, i < j → rowAt rows q i = true)) (fun t _ => n - (intOf t).toNat)
  case atStart => exact ⟨0, Nat.zero_le _, rfl, hid ⟨0, rfl⟩, hid (fun i hi => by omega)⟩
  case round =>
    obtain ⟨j, hj, rfl, hB, hok⟩ := hrel
    by_cases hjn : j < n
    · have i1 : (j : Int) < (n : Int) := by omega
      rcases HC.out with h0 | ⟨b, o, rfl, hcell⟩
      · omega
      · obtain ⟨u, c1, hu⟩ : ∃ u, wr.cell? ⟨b, o + j, none⟩ = some u ∧ IS wr u (rows.getD j []) := by obtain ⟨k, rfl⟩ := hB.out; exact hcell j hjn
        have hcs := rowAt_cases rows q j
        have fin : rowAt rows q j = false → Hid (res = false) := fun e => HR.out.trans (rowsB_false (by rw [← HN.out]; exact hjn) e)
        have nxt : rowAt rows q j = true → Hid (∀ i, i < j + 1 → rowAt rows q i = true) := fun e i hi => by
          by_cases e2 : i = j
          · rw [e2]; exact e
          · exact hok.out i (by omega)
        have hp : 0 < j → ∃ u', wr.cell? ⟨b, o + (j - 1), none⟩ = some u' ∧ IS wr u' (rows.getD (j - 1) []) := fun e => by obtain ⟨k, rfl⟩ := hB.out; exact hcell (j - 1) (by omega)
        have HU := hid hu
        have hm := HL.out j
        obtain ⟨a1, cap1, rfl, -⟩ := hu
        clear hcell hok
        rcases hcs with ⟨h1, h2⟩ | ⟨h1, h2, h3⟩ | ⟨h1, h2, h3, h4⟩ | ⟨h1, h2, h3, h4⟩
        · have hf := fin h2
          clear hp fin nxt h2
          generalize (rows.getD j []).length = m at *
          go_wp2
          go_ret
          exact ⟨ret_bool (by rw [hf.out]), hB.out⟩
        · have hf := nxt h3
          subst h2
          have c1' : wr.cell? ⟨b, o, none⟩ = some (.slice a1 (rows.getD 0 []).length cap1) := by simpa using c1
          clear hp fin nxt h3 HU
          generalize (rows.getD 0 []).length = m at *
          subst h1
          go_wp2
          go_roundw
          case rel => exact ⟨0 + 1, by omega, by go_num, hB, hf⟩
          case measure => simp [intOf]; omega
        · have hf := fin h4
          obtain ⟨u', c2, hu'⟩ := hp h2
          have HK := hid (l2Compare_calls wr u' _ (rows.getD (j - 1) []) (rows.getD j []) hu' HU.out (HL.out (j - 1)) hm)
          obtain ⟨a2, cap2, rfl, -⟩ := hu'
          have i3 : (0 : Int) < (j : Int) := by omega
          have i4 : ((j : Int) - 1).toNat = j - 1 := by omega
          clear hp fin nxt h4 HU
          generalize cmpL (rows.getD (j - 1) []) (rows.getD j []) = y at *
          generalize (rows.getD j []).length = m at *
          generalize (rows.getD (j - 1) []).length = m' at *
          subst h1
          go_wp2_with (first | (go_at_call 118; refine HK.out.mono ?_; rintro e w' ⟨rfl, q', hw'⟩; subst w'))
          go_ret
          exact ⟨ret_bool (by rw [hf.out]), drewN_step _ hB.out⟩
        · have hf := nxt h4
          obtain ⟨u', c2, hu'⟩ := hp h2
          have HK := hid (l2Compare_calls wr u' _ (rows.getD (j - 1) []) (rows.getD j []) hu' HU.out (HL.out (j - 1)) hm)
          obtain ⟨a2, cap2, rfl, -⟩ := hu'
          have i3 : (0 : Int) < (j : Int) := by omega
          have i4 : ((j : Int) - 1).toNat = j - 1 := by omega
          clear hp fin nxt h4 HU
          generalize cmpL (rows.getD (j - 1) []) (rows.getD j []) = y at *
          generalize (rows.getD j []).length = m at *
          generalize (rows.getD (j - 1) []).length = m' at *
          subst h1
          have i5 : ¬ (0 ≤ y) := by omega
          go_wp2_with (first | (go_at_call 118; refine HK.out.mono ?_; rintro e w' ⟨rfl, q', hw'⟩; subst w'))
          go_roundw
          case rel => exact ⟨j + 1, by omega, by go_num, hid (drewN_step _ hB.out), hf⟩
          case measure => simp [intOf]; omega
    · obtain rfl : j = n := by omega
      have hf : Hid (res = true) := HR.out.trans (rowsB_true (fun i hi => hok.out i (by rw [HN.out]; exact hi)))
      have i1 : ¬ ((j : Int) < (j : Int)) := by omega
      clear hok
      go_wp2
      go_ret
      exact ⟨ret_bool (by rw [hf.out]), hB.out⟩

end Go.Proofs.Ytoikfjhgeceimab

/-
  impl.areEdges, impl.inEdges.
-/
namespace Go.Proofs.Ytoikfjhgeceimab
open Go.RowKit

def edgesB (es : List (List Int)) : Bool := decide (es.length ≤ 7) && es.all setB
def coverB (bag : List Int) (es : List (List Int)) : Bool := bag.all fun x => es.any fun e => decide (x ∈ e)

theorem all_getD {α : Type} (p : α → Bool) (d : α) (l : List α) (h : ∀ i, i < l.length → p (l.getD i d) = true) : l.all p = true := by
  rw [List.all_eq_true]
  intro x hx
  obtain ⟨j, hj, e⟩ := List.getElem_of_mem hx
  have := h j hj
  rw [List.getD_eq_getElem?_getD, List.getElem?_eq_getElem hj] at this
  rw [← e]; exact this

theorem all_getD_false {α : Type} (p : α → Bool) (d : α) (l : List α) (j : Nat) (hj : j < l.length) (h : p (l.getD j d) = false) : l.all p = false := by
  rw [List.all_eq_false]
  rw [List.getD_eq_getElem?_getD, List.getElem?_eq_getElem hj] at h
  exact ⟨_, List.getElem_mem hj, by simpa using h⟩

theorem plc_nil_iff (p : Nat → Bool) (k : Nat) : (plc p k).length = 0 ↔ ∀ i, i < k → p i = false := by
  unfold plc
  rw [List.length_map, List.length_eq_zero_iff, List.filter_eq_nil_iff]
  simp

theorem any_plc (x : Int) (es : List (List Int)) : (es.any fun e => decide (x ∈ e)) = !decide ((plc (fun i => decide (x ∈ es.getD i [])) es.length).length = 0) := by
  cases hb : (es.any fun e => decide (x ∈ e))
  · rw [eq_comm, Bool.not_eq_false', decide_eq_true_eq, plc_nil_iff]
    intro i hi
    rw [List.any_eq_false] at hb
    have := hb _ (List.getElem_mem hi)
    rw [List.getD_eq_getElem?_getD, List.getElem?_eq_getElem hi]
    simpa using this
  · rw [eq_comm, Bool.not_eq_true', decide_eq_false_iff_not, plc_nil_iff]
    intro hall
    rw [List.any_eq_true] at hb
    obtain ⟨e, he, h2⟩ := hb
    obtain ⟨j, hj, e1⟩ := List.getElem_of_mem he
    have := hall j hj
    rw [List.getD_eq_getElem?_getD, List.getElem?_eq_getElem hj] at this
    simp only [Option.getD_some, e1] at this
    rw [this] at h2
    exact Bool.noConfusion h2

set_option maxHeartbeats 2000000 in
set_option maxRecDepth 1000000 in
theorem areEdges_calls (w : World) (ve : Value) (es : List (List Int)) (h : ISS w ve es) (hl : Short es) :
    Calls Try.prog 70 #[ve] w fun e w' => e = .returned (.bool (edgesB es)) ∧ w' = w := by
  obtain ⟨a, cap, rfl, hc⟩ := h
  obtain ⟨hl1, hl2⟩ := hl
  obtain ⟨n, hn⟩ : ∃ n, n = es.length := ⟨_, rfl⟩
  obtain ⟨res, hres⟩ : ∃ r, r = edgesB es := ⟨_, rfl⟩
  rw [← hres]
  rw [← hn] at hc hl1 ⊢
  have HR := hid hres
  have HC := hid hc
  have HN := hid hn
  have HL := hid hl2
  clear hc hn hl2 hres
  by_cases h7 : 7 < n
  · have hf : Hid (res = false) := HR.out.trans (by unfold edgesB; rw [← HN.out, decide_eq_false (by omega)]; rfl)
    have i7 : (7 : Int) < (n : Int) := by omega
    go_enter Try.func70, Try.ntmps70
    go_wp2
    go_ret
    exact ⟨ret_bool (by rw [hf.out]), rfl⟩
  have i7 : ¬ (7 : Int) < (n : Int) := by omega
  go_enter Try.func70, Try.ntmps70
  go_wp2
  go_loop [10] (fun t => ∃ j : Nat, j ≤ n ∧ t = .int .i64 j ∧ Hid (∀ i, i < j → setB (es.getD i []) = true)) (fun t => n - (intOf t).toNat)
  case atStart => exact ⟨0, Nat.zero_le _, rfl, hid (fun i hi => by omega)⟩
  case round =>
    obtain ⟨j, hj, rfl, hok⟩ := hrel
    by_cases hjn : j < n
    · have i1 : (j : Int) < (n : Int) := by omega
      rcases HC.out with h0 | ⟨b, o, rfl, hcell⟩
      · omega
      · obtain ⟨u, c1, hu⟩ := hcell j hjn
        have HK := hid (isVariableSet_calls w u (es.getD j []) hu (HL.out j))
        obtain ⟨a1, cap1, rfl, -⟩ := hu
        have fin : setB (es.getD j []) = false → Hid (res = false) := fun e => HR.out.trans (by
          unfold edgesB
          rw [all_getD_false setB [] es j (by rw [← HN.out]; exact hjn) e, Bool.and_false])
        have nxt : setB (es.getD j []) = true → Hid (∀ i, i < j + 1 → setB (es.getD i []) = true) := fun e i hi => by
          by_cases e2 : i = j
          · rw [e2]; exact e
          · exact hok.out i (by omega)
        clear hcell hok
        generalize (es.getD j []).length = m at *
        generalize setB (es.getD j []) = y at *
        cases y
        · have hf := fin rfl
          clear fin nxt
          go_wp2_with (first | (go_at_call 69; refine HK.out.mono ?_; rintro e w' ⟨rfl, hw'⟩; subst w'))
          go_ret
          exact ⟨ret_bool (by rw [hf.out]), rfl⟩
        · have hf := nxt rfl
          clear fin nxt
          go_wp2_with (first | (go_at_call 69; refine HK.out.mono ?_; rintro e w' ⟨rfl, hw'⟩; subst w'))
          go_round
          case rel => exact ⟨j + 1, by omega, by go_num, hf⟩
          case measure => simp [intOf]; omega
    · obtain rfl : j = n := by omega
      have hf : Hid (res = true) := HR.out.trans (by
        unfold edgesB
        rw [← HN.out, decide_eq_true (by omega), Bool.true_and]
        exact all_getD setB [] es (fun i hi => hok.out i (by rw [HN.out]; exact hi)))
      have i1 : ¬ ((j : Int) < (j : Int)) := by omega
      clear hok
      go_wp2
      go_ret
      exact ⟨ret_bool (by rw [hf.out]), rfl⟩

set_option maxHeartbeats 2000000 in
set_option maxRecDepth 1000000 in
theorem inEdges_calls (w : World) (vb ve : Value) (bag : List Int) (es : List (List Int)) (hb : IS w vb bag) (h : ISS w ve es) (hlb : bag.length ≤ 1099511627776) (hl : Short es) :
    Calls Try.prog 71 #[vb, ve] w fun e w' => e = .returned (.bool (coverB bag es)) ∧ Below w.heap.size w w' := by
  obtain ⟨a, cap, rfl, hc⟩ := hb
  obtain ⟨n, hn⟩ : ∃ n, n = bag.length := ⟨_, rfl⟩
  obtain ⟨res, hres⟩ : ∃ r, r = coverB bag es := ⟨_, rfl⟩
  rw [← hres]
  rw [← hn] at hc hlb ⊢
  have HR := hid hres
  have HC := hid hc
  have HN := hid hn
  have HE := hid h
  have HL := hid hl
  clear hc hn h hl hres
  go_enter Try.func71, Try.ntmps71
  go_wp2
  go_loopw [9] (fun t wr => ∃ j : Nat, j ≤ n ∧ t = .int .i64 j ∧ Below w.heap.size w wr ∧ Hid (∀ i, i < j → (es.any fun e => decide (bag.getD i 0 ∈ e)) = true)) (fun t _ => n - (intOf t).toNat)
  case atStart => exact ⟨0, Nat.zero_le _, rfl, Below.refl _ _, hid (fun i hi => by omega)⟩
  case round =>
    obtain ⟨j, hj, rfl, hnx, hok⟩ := hrel
    by_cases hjn : j < n
    · have i1 : (j : Int) < (n : Int) := by omega
      rcases HC.out with h0 | ⟨b, o, rfl, hcell⟩
      · omega
      · have c0 := hcell j hjn
        have c1 : wr.cell? ⟨b, o + j, none⟩ = some (.int .i64 (bag.getD j 0)) := (hnx.cell (p := ⟨b, o + j, none⟩) (World.block_lt_of_cell? w _ c0)).trans c0
        have HK := hid (edgesWith_calls wr ve (bag.getD j 0) es (HE.out.below hnx) HL.out)
        have hany := any_plc (bag.getD j 0) es
        have fin : (es.any fun e => decide (bag.getD j 0 ∈ e)) = false → Hid (res = false) := fun e => HR.out.trans (by
          unfold coverB
          exact all_getD_false (fun x => es.any fun e => decide (x ∈ e)) 0 bag j (by rw [← HN.out]; exact hjn) e)
        have nxt : (es.any fun e => decide (bag.getD j 0 ∈ e)) = true → Hid (∀ i, i < j + 1 → (es.any fun e => decide (bag.getD i 0 ∈ e)) = true) := fun e i hi => by
          by_cases e2 : i = j
          · rw [e2]; exact e
          · exact hok.out i (by omega)
        have hlen := plc_le (fun i => decide (bag.getD j 0 ∈ es.getD i [])) es.length
        have hll := HL.out.1
        clear hcell hok c0
        generalize bag.getD j 0 = x at *
        generalize plc (fun i => decide (x ∈ es.getD i [])) es.length = pl at *
        generalize (es.any fun e => decide (x ∈ e)) = y at *
        obtain ⟨m, hm⟩ : ∃ m, m = pl.length := ⟨_, rfl⟩
        rw [← hm] at hany hlen HK
        have hm7 : m ≤ 1099511627776 := by omega
        clear hlen hll hm
        cases y
        · have hf := fin rfl
          have hm0 : m = 0 := by simpa using hany
          clear fin nxt hany
          subst hm0
          go_wp2_with (first | (go_at_call 110; refine HK.out.mono ?_; rintro e w' ⟨v, rfl, ⟨hv1, (⟨rfl, hv2⟩ | ⟨g, cap', cur, rfl, hv2⟩)⟩, hbw⟩))
          all_goals go_ret
          all_goals exact ⟨ret_bool (by rw [hf.out]), bt hnx hbw⟩
        · have hf := nxt rfl
          have hm0 : m ≠ 0 := by simpa using hany
          have hm1 : ¬ ((m : Int) = 0) := by omega
          clear fin nxt hany
          go_wp2_with (first | (go_at_call 110; refine HK.out.mono ?_; rintro e w' ⟨v, rfl, ⟨hv1, (⟨rfl, hv2⟩ | ⟨g, cap', cur, rfl, hv2⟩)⟩, hbw⟩))
          · exact absurd hv2 hm0
          go_roundw
          case rel => exact ⟨j + 1, by omega, by go_num, bt hnx hbw, hf⟩
          case measure => simp [intOf]; omega
    · obtain rfl : j = n := by omega
      have hf : Hid (res = true) := HR.out.trans (by
        unfold coverB
        exact all_getD (fun x => es.any fun e => decide (x ∈ e)) 0 bag (fun i hi => hok.out i (by rw [HN.out]; exact hi)))
      have i1 : ¬ ((j : Int) < (j : Int)) := by omega
      clear hok
      go_wp2
      go_ret
      exact ⟨ret_bool (by rw [hf.out]), hnx⟩

end Go.Proofs.Ytoikfjhgeceimab

/-
  spec.l1Zeros: n zeros.
-/
namespace Go.Proofs.Ytoikfjhgeceimab
open Go.RowKit

theorem Try.infoRatS : (Try.prog.info? 23).map (fun i => (i.zero, i.size, i.bytes)) = some (some (.agg #[.int .i64 0, .int .i64 0]), 2, 16) := by kernel_rfl

def zs (k : Nat) : List Value := (List.replicate k [Value.int .i64 0, Value.int .i64 1]).flatten
theorem zs_succ (k : Nat) : zs (k + 1) = zs k ++ [.int .i64 0, .int .i64 1] := by
  simp [zs, List.replicate_succ', List.flatten_append]

theorem own_grow2 {B n s : Nat} {e : TypeId} {w wr w1 : World} {u : Value} {o : Obj} {xs : List Value} (hB : B ≤ wr.heap.size)
    (hown : wr.ownsRow B e s u n xs) (hnx : Below B w wr) (hgrow : (wr.alloc o).grownBy w1 u.ownBlock) : Below B w w1 :=
  (hnx.alloc hB o).grown hgrow (by simp; omega) (fun j hj => (hown.lt j hj).1)

set_option maxHeartbeats 2000000 in
set_option maxRecDepth 1000000 in
theorem l1Zeros_calls (w : World) (n : Nat) (hn : n ≤ 1000) :
    Calls Try.prog 66 #[.int .i64 n] w fun e w' => ∃ v, e = .returned v ∧ w'.ownsRow w.heap.size 23 2 v n (zs n) ∧ Below w.heap.size w w' := by
  obtain ⟨i0, hi, hz0, hz1, hz2⟩ := info_parts Try.infoRatS
  go_enter Try.func66, Try.ntmps66
  go_wp2
  go_loopw [3, 4] (fun v t wr => ∃ k : Nat, k ≤ n ∧ t = .int .i64 k ∧ wr.ownsRow w.heap.size 23 2 v k (zs k) ∧ Below w.heap.size w wr) (fun _ t _ => n - (intOf t).toNat)
  case atStart => exact ⟨0, Nat.zero_le _, rfl, World.ownsRow_made w #[] 0 (Nat.le_refl _) (by decide) rfl, (Below.refl _ _).alloc (Nat.le_refl _) _⟩
  case round =>
    obtain ⟨k, hk, rfl, hown, hnx⟩ := hrel
    have hns := hnx.size
    by_cases hkn : k < n
    · have i1 : (k : Int) < (n : Int) := by omega
      go_wp2_with (first
        | (at_builtin; refine wpList_append_own _ rfl _ _ 35 rfl w.heap.size 23 i0 (.agg #[.int .i64 0, .int .i64 0]) 2 16 Try.underlying35 hi hz0 hz1 hz2 rfl (by decide) _ _ _ rfl (hown.alloc _) ⟨wr.heap.size, 0, none⟩ 1 1 [.int .i64 0, .int .i64 1] rfl rfl ?c1 ?c2 ?c3 ?c4 ?c5 ?_))
      case c1 =>
        intro j u hj
        match j, hj with
        | 0, hj => simp at hj; subst hj; simp [Addr.add]
        | 1, hj => simp at hj; subst hj; simp [Addr.add]
      case c2 => intro u hu; simp at hu; rcases hu with rfl | rfl <;> rfl
      case c3 => unfold maxLen; omega
      case c4 => omega
      case c5 => simp; omega
      intro v' w1 hown' hgrow _
      have hb := own_grow2 hns hown hnx hgrow
      have hown2 : w1.ownsRow w.heap.size 23 2 v' (k + 1) (zs (k + 1)) := by
        rw [zs_succ]; exact hown'
      clear hown' hgrow hown
      go_wp2
      go_roundw
      case rel => exact ⟨k + 1, by omega, by go_num, hown2, hb⟩
      case measure => simp [intOf]; omega
    · obtain rfl : k = n := by omega
      have i1 : ¬ ((k : Int) < (k : Int)) := by omega
      go_wp2
      go_ret
      exact ⟨_, rfl, hown, hnx⟩

end Go.Proofs.Ytoikfjhgeceimab
