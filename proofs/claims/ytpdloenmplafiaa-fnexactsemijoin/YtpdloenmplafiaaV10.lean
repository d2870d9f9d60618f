import Derived.Test.YtpdloenmplafiaaV09
/-
  impl.TableOK, spec.TableOK, laws.eqTable.
-/
namespace Go.Proofs.Ytpdloenmplafiaa
open Go.RowKit

theorem tableB_cases (vs : List Int) (rows : List (List Int)) (ws : List Int) :
    (setB vs = false ∧ tableB vs rows ws = false) ∨ (setB vs = true ∧ 10000 < rows.length ∧ tableB vs rows ws = false) ∨ (setB vs = true ∧ rows.length ≤ 10000 ∧ rowsB rows vs.length = false ∧ tableB vs rows ws = false) ∨
    (setB vs = true ∧ rows.length ≤ 10000 ∧ rowsB rows vs.length = true ∧ tableB vs rows ws = decide (ws.length = rows.length)) := by
  unfold tableB
  cases h1 : setB vs
  · left; simp
  · right
    by_cases h2 : 10000 < rows.length
    · left; simp; omega
    · right
      have h3 : decide (rows.length ≤ 10000) = true := by simp; omega
      cases h4 : rowsB rows vs.length
      · left; simp; omega
      · right; simp [h3]; omega

theorem dec_len (a b : Nat) : decide ((a : Int) = (b : Int)) = decide (a = b) := by
  by_cases h : a = b
  · simp [h]
  · rw [decide_eq_false h, decide_eq_false (by omega)]

set_option maxHeartbeats 2000000 in
set_option maxRecDepth 1000000 in
theorem tableOK_calls (w : World) (v0 v1 v2 : Value) (vs : List Int) (rows : List (List Int)) (ws : List Int) (h : IT w v0 v1 v2 vs rows ws) (hv : vs.length ≤ 1099511627776) (hr : Short rows) :
    Calls Try.prog 71 #[.agg #[v0, v1, v2]] w fun e w' => e = .returned (.bool (tableB vs rows ws)) ∧ Below w.heap.size w w' := by
  have HB : Hid (Below w.heap.size w (w.alloc (.cells #[v0, v1, v2] 53))) := hid ((Below.refl _ _).alloc (Nat.le_refl _) _)
  have K0 := hid (isVariableSet_calls (w.alloc (.cells #[v0, v1, v2] 53)) v0 vs (h.vs.below HB.out) hv)
  have K1 := hid (areSortedRows_calls (w.alloc (.cells #[v0, v1, v2] 53)) v1 rows vs.length (h.rows.below HB.out) hr)
  have hr1 := hr.1
  obtain ⟨a0, k0, rfl, -⟩ := h.vs
  obtain ⟨a1, k1, rfl, -⟩ := h.rows
  obtain ⟨a2, k2, rfl, -⟩ := h.ws
  have hcs := tableB_cases vs rows ws
  clear h hr
  generalize tableB vs rows ws = res at *
  rcases hcs with ⟨c0, c1⟩ | ⟨c0, c1, c2⟩ | ⟨c0, c1, c2, c3⟩ | ⟨c0, c1, c2, c3⟩
  · rw [c0] at K0
    clear K1
    subst c1
    generalize vs.length = n0 at *
    generalize rows.length = n1 at *
    go_enter Try.func71, Try.ntmps71
    go_wp2_with (first | (go_at_call 49; refine K0.out.mono ?_; rintro e w' ⟨rfl, hw'⟩; subst w'))
    go_ret
    exact ⟨rfl, HB.out⟩
  · rw [c0] at K0
    clear K1
    subst c2
    generalize vs.length = n0 at *
    generalize rows.length = n1 at *
    have i1 : ¬ ((n1 : Int) ≤ 10000) := by omega
    go_enter Try.func71, Try.ntmps71
    go_wp2_with (first | (go_at_call 49; refine K0.out.mono ?_; rintro e w' ⟨rfl, hw'⟩; subst w'))
    go_ret
    exact ⟨rfl, HB.out⟩
  · rw [c0] at K0
    rw [c2] at K1
    subst c3
    generalize vs.length = n0 at *
    generalize rows.length = n1 at *
    have i1 : (n1 : Int) ≤ 10000 := by omega
    go_enter Try.func71, Try.ntmps71
    go_wp2_with (first | (go_at_call 49; refine K0.out.mono ?_; rintro e w' ⟨rfl, hw'⟩; subst w') | (go_at_call 114; refine K1.out.mono ?_; rintro e w' ⟨rfl, hw'⟩; subst w'))
    go_ret
    exact ⟨rfl, HB.out⟩
  · rw [c0] at K0
    rw [c2] at K1
    rw [← dec_len] at c3
    have HE := hid c3
    clear c3
    generalize vs.length = n0 at *
    generalize rows.length = n1 at *
    generalize ws.length = n2 at *
    have i1 : (n1 : Int) ≤ 10000 := by omega
    go_enter Try.func71, Try.ntmps71
    go_wp2_with (first | (go_at_call 49; refine K0.out.mono ?_; rintro e w' ⟨rfl, hw'⟩; subst w') | (go_at_call 114; refine K1.out.mono ?_; rintro e w' ⟨rfl, hw'⟩; subst w'))
    go_ret
    exact ⟨ret_bool (by rw [HE.out]; rfl), HB.out⟩

set_option maxHeartbeats 2000000 in
set_option maxRecDepth 1000000 in
theorem sTableOK_calls (w : World) (v0 v1 v2 : Value) (vs : List Int) (rows : List (List Int)) (ws : List Int) (h : IT w v0 v1 v2 vs rows ws) (hv : vs.length ≤ 1099511627776) (hr : Short rows) :
    Calls Try.prog 68 #[.agg #[v0, v1, v2]] w fun e w' => e = .returned (.bool (tableB vs rows ws)) ∧ Below w.heap.size w w' := by
  have HB : Hid (Below w.heap.size w (w.alloc (.cells #[v0, v1, v2] 53))) := hid ((Below.refl _ _).alloc (Nat.le_refl _) _)
  have K0 := hid (l1SetOK_calls (w.alloc (.cells #[v0, v1, v2] 53)) v0 vs (h.vs.below HB.out) hv)
  have K1 := hid (l2SortedRows_calls (w.alloc (.cells #[v0, v1, v2] 53)) v1 rows vs.length (h.rows.below HB.out) hr)
  have hr1 := hr.1
  obtain ⟨a0, k0, rfl, -⟩ := h.vs
  obtain ⟨a1, k1, rfl, -⟩ := h.rows
  obtain ⟨a2, k2, rfl, -⟩ := h.ws
  have hcs := tableB_cases vs rows ws
  clear h hr
  generalize tableB vs rows ws = res at *
  rcases hcs with ⟨c0, c1⟩ | ⟨c0, c1, c2⟩ | ⟨c0, c1, c2, c3⟩ | ⟨c0, c1, c2, c3⟩
  · rw [c0] at K0
    clear K1
    subst c1
    generalize vs.length = n0 at *
    generalize rows.length = n1 at *
    go_enter Try.func68, Try.ntmps68
    go_wp2_with (first | (go_at_call 44; refine K0.out.mono ?_; rintro e w' ⟨rfl, hw'⟩; subst w'))
    go_ret
    exact ⟨rfl, HB.out⟩
  · rw [c0] at K0
    clear K1
    subst c2
    generalize vs.length = n0 at *
    generalize rows.length = n1 at *
    have i1 : ¬ ((n1 : Int) ≤ 10000) := by omega
    go_enter Try.func68, Try.ntmps68
    go_wp2_with (first | (go_at_call 44; refine K0.out.mono ?_; rintro e w' ⟨rfl, hw'⟩; subst w'))
    go_ret
    exact ⟨rfl, HB.out⟩
  · rw [c0] at K0
    rw [c2] at K1
    subst c3
    generalize vs.length = n0 at *
    generalize rows.length = n1 at *
    have i1 : (n1 : Int) ≤ 10000 := by omega
    go_enter Try.func68, Try.ntmps68
    go_wp2_with (first | (go_at_call 44; refine K0.out.mono ?_; rintro e w' ⟨rfl, hw'⟩; subst w') | (go_at_call 64; refine K1.out.mono ?_; rintro e w' ⟨rfl, q', hw'⟩; subst w'))
    go_ret
    exact ⟨rfl, below_drewN HB.out _⟩
  · rw [c0] at K0
    rw [c2] at K1
    rw [← dec_len] at c3
    have HE := hid c3
    clear c3
    generalize vs.length = n0 at *
    generalize rows.length = n1 at *
    generalize ws.length = n2 at *
    have i1 : (n1 : Int) ≤ 10000 := by omega
    go_enter Try.func68, Try.ntmps68
    go_wp2_with (first | (go_at_call 44; refine K0.out.mono ?_; rintro e w' ⟨rfl, hw'⟩; subst w') | (go_at_call 64; refine K1.out.mono ?_; rintro e w' ⟨rfl, q', hw'⟩; subst w'))
    go_ret
    exact ⟨ret_bool (by rw [HE.out]; rfl), below_drewN HB.out _⟩

set_option maxHeartbeats 2000000 in
set_option maxRecDepth 1000000 in
theorem eqTable_same (w : World) (v0 v1 v2 u0 u1 u2 : Value) (vs : List Int) (rows : List (List Int)) (ws : List Int) (h : IT w v0 v1 v2 vs rows ws) (h' : IT w u0 u1 u2 vs rows ws) (hv : vs.length ≤ 1099511627776) (hr : Short rows) (hw : ws.length ≤ 1099511627776) :
    Calls Try.prog 29 #[.agg #[v0, v1, v2], .agg #[u0, u1, u2]] w fun e w' => e = .returned (.bool true) ∧ Below w.heap.size w w' := by
  have HB : Hid (Below w.heap.size w ((w.alloc (.cells #[v0, v1, v2] 53)).alloc (.cells #[u0, u1, u2] 53))) := hid (((Below.refl _ _).alloc (Nat.le_refl _) _).alloc (by simp) _)
  have H := hid h
  have H' := hid h'
  have HR := hid hr
  obtain ⟨a0, k0, rfl, -⟩ := h.vs
  obtain ⟨a1, k1, rfl, -⟩ := h.rows
  obtain ⟨a2, k2, rfl, -⟩ := h.ws
  obtain ⟨b0, l0, rfl, -⟩ := h'.vs
  obtain ⟨b1, l1, rfl, -⟩ := h'.rows
  obtain ⟨b2, l2, rfl, -⟩ := h'.ws
  clear h h' hr
  go_enter Try.func29, Try.ntmps29
  go_wp2_with fail
  refine (eqIntS_quiet _ _ _ vs (H.out.vs.below HB.out) (H'.out.vs.below HB.out) hv).mono ?_
  rintro e w1 ⟨rfl, q1, hq1⟩
  subst w1
  go_wp2_with fail
  refine (eqIntSS_quiet _ _ _ rows (H.out.rows.below (below_drewN HB.out _)) (H'.out.rows.below (below_drewN HB.out _)) HR.out).mono ?_
  rintro e w1 ⟨rfl, q2, hq1⟩
  subst w1
  go_wp2_with fail
  refine (eqIntS_quiet _ _ _ ws (H.out.ws.below (below_drewN HB.out _)) (H'.out.ws.below (below_drewN HB.out _)) hw).mono ?_
  rintro e w1 ⟨rfl, q3, hq1⟩
  subst w1
  go_wp2
  go_ret
  exact ⟨rfl, by repeat' first | exact HB.out | refine below_drewN ?_ _⟩

end Go.Proofs.Ytpdloenmplafiaa

/-
  laws.FnExactTableOK, walked.
-/
namespace Go.Proofs.Ytpdloenmplafiaa
open Go.RowKit

/-- a box of three cells at block s -/
structure B3 (s : Nat) (v0 v1 v2 : Value) (W : World) : Prop where
  c0 : W.cell? ⟨s, 0, none⟩ = some v0
  c1 : W.cell? ⟨s, 1, none⟩ = some v1
  c2 : W.cell? ⟨s, 2, none⟩ = some v2
  lt : s < W.heap.size

theorem B3.step {s : Nat} {v0 v1 v2 : Value} {W W' : World} (h : B3 s v0 v1 v2 W) (hb : Below W.heap.size W W') : B3 s v0 v1 v2 W' :=
  ⟨(hb.cell (p := ⟨s, 0, none⟩) h.lt).trans h.c0, (hb.cell (p := ⟨s, 1, none⟩) h.lt).trans h.c1, (hb.cell (p := ⟨s, 2, none⟩) h.lt).trans h.c2, Nat.lt_of_lt_of_le h.lt hb.size⟩
theorem B3.start (w : World) (v0 v1 v2 : Value) (t : TypeId) : B3 w.heap.size v0 v1 v2 (w.alloc (.cells #[v0, v1, v2] t)) :=
  ⟨by simp [go_sem], by simp [go_sem], by simp [go_sem], by simp⟩
theorem B3.alloc {s : Nat} {v0 v1 v2 : Value} {W : World} (h : B3 s v0 v1 v2 W) (o : Obj) : B3 s v0 v1 v2 (W.alloc o) := h.step ((Below.refl _ _).alloc (Nat.le_refl _) _)

theorem two_of {w5 W : World} {s X : Nat} {v0 v1 v2 x0 x1 x2 : Value} (h : B3 s v0 v1 v2 w5) (k : B3 X x0 x1 x2 w5) (hb : Below w5.heap.size w5 W) :
    W.cell? ⟨s, 0, none⟩ = some v0 ∧ W.cell? ⟨s, 1, none⟩ = some v1 ∧ W.cell? ⟨s, 2, none⟩ = some v2 ∧ W.cell? ⟨X, 0, none⟩ = some x0 ∧ W.cell? ⟨X, 1, none⟩ = some x1 ∧ W.cell? ⟨X, 2, none⟩ = some x2 ∧ Below w5.heap.size w5 W :=
  ⟨(h.step hb).c0, (h.step hb).c1, (h.step hb).c2, (k.step hb).c0, (k.step hb).c1, (k.step hb).c2, hb⟩

theorem two_bel {w5 W : World} {s X : Nat} {v0 v1 v2 x0 x1 x2 : Value} (h : W.cell? ⟨s, 0, none⟩ = some v0 ∧ W.cell? ⟨s, 1, none⟩ = some v1 ∧ W.cell? ⟨s, 2, none⟩ = some v2 ∧ W.cell? ⟨X, 0, none⟩ = some x0 ∧ W.cell? ⟨X, 1, none⟩ = some x1 ∧ W.cell? ⟨X, 2, none⟩ = some x2 ∧ Below w5.heap.size w5 W) : Below w5.heap.size w5 W := h.2.2.2.2.2.2

end Go.Proofs.Ytpdloenmplafiaa
