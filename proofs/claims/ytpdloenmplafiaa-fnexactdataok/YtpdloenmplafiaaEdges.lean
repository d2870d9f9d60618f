import Derived.Test.YtpdloenmplafiaaPlaces2
/-
  impl.areEdges, impl.inEdges.
-/
namespace Go.Proofs.Ytpdloenmplafiaa
open Go.RowKit

def edgesB (es : List (List Int)) : Bool := decide (es.length ≤ 7) && es.all setB
def coverB (bag : List Int) (es : List (List Int)) : Bool := bag.all fun x => es.any fun e => decide (x ∈ e)

theorem all_getD {α : Type} (p : α → Bool) (d : α) (l : List α) (h : ∀ i, i < l.length → p (l.getD i d) = true) : l.all p = true := by
  rw [List.all_eq_true]
  intro x hx
  obtain ⟨j, hj, e⟩ := List.getElem_of_mem hx
  have := h j hj
  rw [List.getD_eq_getElem?_getD, List.getElem?_eq_getElem hj] at this
  rw [← e]; exact this

theorem all_getD_false {α : Type} (p : α → Bool) (d : α) (l : List α) (j : Nat) (hj : j < l.length) (h : p (l.getD j d) = false) : l.all p = false := by
  rw [List.all_eq_false]
  rw [List.getD_eq_getElem?_getD, List.getElem?_eq_getElem hj] at h
  exact ⟨_, List.getElem_mem hj, by simpa using h⟩

theorem plc_nil_iff (p : Nat → Bool) (k : Nat) : (plc p k).length = 0 ↔ ∀ i, i < k → p i = false := by
  unfold plc
  rw [List.length_map, List.length_eq_zero_iff, List.filter_eq_nil_iff]
  simp

theorem any_plc (x : Int) (es : List (List Int)) : (es.any fun e => decide (x ∈ e)) = !decide ((plc (fun i => decide (x ∈ es.getD i [])) es.length).length = 0) := by
  cases hb : (es.any fun e => decide (x ∈ e))
  · rw [eq_comm, Bool.not_eq_false', decide_eq_true_eq, plc_nil_iff]
    intro i hi
    rw [List.any_eq_false] at hb
    have := hb _ (List.getElem_mem hi)
    rw [List.getD_eq_getElem?_getD, List.getElem?_eq_getElem hi]
    simpa using this
  · rw [eq_comm, Bool.not_eq_true', decide_eq_false_iff_not, plc_nil_iff]
    intro hall
    rw [List.any_eq_true] at hb
    obtain ⟨e, he, h2⟩ := hb
    obtain ⟨j, hj, e1⟩ := List.getElem_of_mem he
    have := hall j hj
    rw [List.getD_eq_getElem?_getD, List.getElem?_eq_getElem hj] at this
    simp only [Option.getD_some, e1] at this
    rw [this] at h2
    exact Bool.noConfusion h2

set_option maxHeartbeats 2000000 in
set_option maxRecDepth 1000000 in
theorem areEdges_calls (w : World) (ve : Value) (es : List (List Int)) (h : ISS w ve es) (hl : Short es) :
    Calls Try.prog 50 #[ve] w fun e w' => e = .returned (.bool (edgesB es)) ∧ w' = w := by
  obtain ⟨a, cap, rfl, hc⟩ := h
  obtain ⟨hl1, hl2⟩ := hl
  obtain ⟨n, hn⟩ : ∃ n, n = es.length := ⟨_, rfl⟩
  obtain ⟨res, hres⟩ : ∃ r, r = edgesB es := ⟨_, rfl⟩
  rw [← hres]
  rw [← hn] at hc hl1 ⊢
  have HR := hid hres
  have HC := hid hc
  have HN := hid hn
  have HL := hid hl2
  clear hc hn hl2 hres
  by_cases h7 : 7 < n
  · have hf : Hid (res = false) := HR.out.trans (by unfold edgesB; rw [← HN.out, decide_eq_false (by omega)]; rfl)
    have i7 : (7 : Int) < (n : Int) := by omega
    go_enter Try.func50, Try.ntmps50
    go_wp2
    go_ret
    exact ⟨ret_bool (by rw [hf.out]), rfl⟩
  have i7 : ¬ (7 : Int) < (n : Int) := by omega
  go_enter Try.func50, Try.ntmps50
  go_wp2
  go_loop [10] (fun t => ∃ j : Nat, j ≤ n ∧ t = .int .i64 j ∧ Hid (∀ i, i < j → setB (es.getD i []) = true)) (fun t => n - (intOf t).toNat)
  case atStart => exact ⟨0, Nat.zero_le _, rfl, hid (fun i hi => by omega)⟩
  case round =>
    obtain ⟨j, hj, rfl, hok⟩ := hrel
    by_cases hjn : j < n
    · have i1 : (j : Int) < (n : Int) := by omega
      rcases HC.out with h0 | ⟨b, o, rfl, hcell⟩
      · omega
      · obtain ⟨u, c1, hu⟩ := hcell j hjn
        have HK := hid (isVariableSet_calls w u (es.getD j []) hu (HL.out j))
        obtain ⟨a1, cap1, rfl, -⟩ := hu
        have fin : setB (es.getD j []) = false → Hid (res = false) := fun e => HR.out.trans (by
          unfold edgesB
          rw [all_getD_false setB [] es j (by rw [← HN.out]; exact hjn) e, Bool.and_false])
        have nxt : setB (es.getD j []) = true → Hid (∀ i, i < j + 1 → setB (es.getD i []) = true) := fun e i hi => by
          by_cases e2 : i = j
          · rw [e2]; exact e
          · exact hok.out i (by omega)
        clear hcell hok
        generalize (es.getD j []).length = m at *
        generalize setB (es.getD j []) = y at *
        cases y
        · have hf := fin rfl
          clear fin nxt
          go_wp2_with (first | (go_at_call 49; refine HK.out.mono ?_; rintro e w' ⟨rfl, hw'⟩; subst w'))
          go_ret
          exact ⟨ret_bool (by rw [hf.out]), rfl⟩
        · have hf := nxt rfl
          clear fin nxt
          go_wp2_with (first | (go_at_call 49; refine HK.out.mono ?_; rintro e w' ⟨rfl, hw'⟩; subst w'))
          go_round
          case rel => exact ⟨j + 1, by omega, by go_num, hf⟩
          case measure => simp [intOf]; omega
    · obtain rfl : j = n := by omega
      have hf : Hid (res = true) := HR.out.trans (by
        unfold edgesB
        rw [← HN.out, decide_eq_true (by omega), Bool.true_and]
        exact all_getD setB [] es (fun i hi => hok.out i (by rw [HN.out]; exact hi)))
      have i1 : ¬ ((j : Int) < (j : Int)) := by omega
      clear hok
      go_wp2
      go_ret
      exact ⟨ret_bool (by rw [hf.out]), rfl⟩

set_option maxHeartbeats 2000000 in
set_option maxRecDepth 1000000 in
theorem inEdges_calls (w : World) (vb ve : Value) (bag : List Int) (es : List (List Int)) (hb : IS w vb bag) (h : ISS w ve es) (hlb : bag.length ≤ 1099511627776) (hl : Short es) :
    Calls Try.prog 51 #[vb, ve] w fun e w' => e = .returned (.bool (coverB bag es)) ∧ Below w.heap.size w w' := by
  obtain ⟨a, cap, rfl, hc⟩ := hb
  obtain ⟨n, hn⟩ : ∃ n, n = bag.length := ⟨_, rfl⟩
  obtain ⟨res, hres⟩ : ∃ r, r = coverB bag es := ⟨_, rfl⟩
  rw [← hres]
  rw [← hn] at hc hlb ⊢
  have HR := hid hres
  have HC := hid hc
  have HN := hid hn
  have HE := hid h
  have HL := hid hl
  clear hc hn h hl hres
  go_enter Try.func51, Try.ntmps51
  go_wp2
  go_loopw [9] (fun t wr => ∃ j : Nat, j ≤ n ∧ t = .int .i64 j ∧ Below w.heap.size w wr ∧ Hid (∀ i, i < j → (es.any fun e => decide (bag.getD i 0 ∈ e)) = true)) (fun t _ => n - (intOf t).toNat)
  case atStart => exact ⟨0, Nat.zero_le _, rfl, Below.refl _ _, hid (fun i hi => by omega)⟩
  case round =>
    obtain ⟨j, hj, rfl, hnx, hok⟩ := hrel
    by_cases hjn : j < n
    · have i1 : (j : Int) < (n : Int) := by omega
      rcases HC.out with h0 | ⟨b, o, rfl, hcell⟩
      · omega
      · have c0 := hcell j hjn
        have c1 : wr.cell? ⟨b, o + j, none⟩ = some (.int .i64 (bag.getD j 0)) := (hnx.cell (p := ⟨b, o + j, none⟩) (World.block_lt_of_cell? w _ c0)).trans c0
        have HK := hid (edgesWith_calls wr ve (bag.getD j 0) es (HE.out.below hnx) HL.out)
        have hany := any_plc (bag.getD j 0) es
        have fin : (es.any fun e => decide (bag.getD j 0 ∈ e)) = false → Hid (res = false) := fun e => HR.out.trans (by
          unfold coverB
          exact all_getD_false (fun x => es.any fun e => decide (x ∈ e)) 0 bag j (by rw [← HN.out]; exact hjn) e)
        have nxt : (es.any fun e => decide (bag.getD j 0 ∈ e)) = true → Hid (∀ i, i < j + 1 → (es.any fun e => decide (bag.getD i 0 ∈ e)) = true) := fun e i hi => by
          by_cases e2 : i = j
          · rw [e2]; exact e
          · exact hok.out i (by omega)
        have hlen := plc_le (fun i => decide (bag.getD j 0 ∈ es.getD i [])) es.length
        have hll := HL.out.1
        clear hcell hok c0
        generalize bag.getD j 0 = x at *
        generalize plc (fun i => decide (x ∈ es.getD i [])) es.length = pl at *
        generalize (es.any fun e => decide (x ∈ e)) = y at *
        obtain ⟨m, hm⟩ : ∃ m, m = pl.length := ⟨_, rfl⟩
        rw [← hm] at hany hlen HK
        have hm7 : m ≤ 1099511627776 := by omega
        clear hlen hll hm
        cases y
        · have hf := fin rfl
          have hm0 : m = 0 := by simpa using hany
          clear fin nxt hany
          subst hm0
          go_wp2_with (first | (go_at_call 100; refine HK.out.mono ?_; rintro e w' ⟨v, rfl, ⟨hv1, (⟨rfl, hv2⟩ | ⟨g, cap', cur, rfl, hv2⟩)⟩, hbw⟩))
          all_goals go_ret
          all_goals exact ⟨ret_bool (by rw [hf.out]), bt hnx hbw⟩
        · have hf := nxt rfl
          have hm0 : m ≠ 0 := by simpa using hany
          have hm1 : ¬ ((m : Int) = 0) := by omega
          clear fin nxt hany
          go_wp2_with (first | (go_at_call 100; refine HK.out.mono ?_; rintro e w' ⟨v, rfl, ⟨hv1, (⟨rfl, hv2⟩ | ⟨g, cap', cur, rfl, hv2⟩)⟩, hbw⟩))
          · exact absurd hv2 hm0
          go_roundw
          case rel => exact ⟨j + 1, by omega, by go_num, bt hnx hbw, hf⟩
          case measure => simp [intOf]; omega
    · obtain rfl : j = n := by omega
      have hf : Hid (res = true) := HR.out.trans (by
        unfold coverB
        exact all_getD (fun x => es.any fun e => decide (x ∈ e)) 0 bag (fun i hi => hok.out i (by rw [HN.out]; exact hi)))
      have i1 : ¬ ((j : Int) < (j : Int)) := by omega
      clear hok
      go_wp2
      go_ret
      exact ⟨ret_bool (by rw [hf.out]), hnx⟩

end Go.Proofs.Ytpdloenmplafiaa
