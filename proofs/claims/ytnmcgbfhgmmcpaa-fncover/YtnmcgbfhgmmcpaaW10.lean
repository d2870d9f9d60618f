import Derived.Deep.DeepCutAuto
import Derived.Deep.MidRow
import Derived.Deep.RegionHeld3
import Derived.Test.YtnmcgbfhgmmcpaaW06
/-
  How a simplex lies in memory.
-/
namespace Go.Proofs.Ytnmcgbfhgmmcpaa
open Go.RowKit

structure Lay (cell : Nat → Option Value) (m n : Nat) (C : Nat → Nat → Rat) (B : Nat → Nat) (bar : Nat → Bool) : Prop where
  rows : cell 0 = some (.int .i64 m)
  cols : cell 1 = some (.int .i64 n)
  num : ∀ i j, i ≤ m → j ≤ n → cell (2 + i * 40 + j * 2) = some (.int .i64 (C i j).num)
  den : ∀ i j, i ≤ m → j ≤ n → cell (2 + i * 40 + j * 2 + 1) = some (.int .i64 (C i j).den)
  bas : ∀ i, i < m → cell (322 + i) = some (.int .i64 (B i : Nat))
  bars : ∀ j, j < n → cell (330 + j) = some (.bool (bar j))
  one : ∀ o, o < 350 → ∃ v, cell o = some v ∧ v.oneCell' = true
  mle : m ≤ 7
  nle : n ≤ 19

structure SxAt (w : World) (k m n : Nat) (C : Nat → Nat → Rat) (B : Nat → Nat) (bar : Nat → Bool) : Prop where
  lay : Lay (fun o => w.cell? ⟨k, o, none⟩) m n C B bar
  free : ∀ o, o < 350 → w.frozen? ⟨k, o, none⟩ = false

theorem SxAt.lt {w : World} {k m n : Nat} {C : Nat → Nat → Rat} {B : Nat → Nat} {bar : Nat → Bool} (h : SxAt w k m n C B bar) : k < w.heap.size :=
  World.block_lt_of_cell? w _ h.lay.rows

/-- the same cells, the same simplex -/
theorem SxAt.move {w w' : World} {k m n : Nat} {C : Nat → Nat → Rat} {B : Nat → Nat} {bar : Nat → Bool} (h : SxAt w k m n C B bar) (hb : w'.heap[k]? = w.heap[k]?) : SxAt w' k m n C B bar := by
  have h1 : ∀ o, w'.cell? ⟨k, o, none⟩ = w.cell? ⟨k, o, none⟩ := fun o => World.cell?_of_block (w := w) hb
  have h2 : ∀ o, w'.frozen? ⟨k, o, none⟩ = w.frozen? ⟨k, o, none⟩ := fun o => World.frozen?_of_block (w := w) hb
  exact ⟨by rw [show (fun o => w'.cell? ⟨k, o, none⟩) = fun o => w.cell? ⟨k, o, none⟩ from funext h1]; exact h.lay, fun o ho => by rw [h2]; exact h.free o ho⟩

theorem SxAt.below {w w' : World} {k m n : Nat} {C : Nat → Nat → Rat} {B : Nat → Nat} {bar : Nat → Bool} (h : SxAt w k m n C B bar) (hb : Below w.heap.size w w') : SxAt w' k m n C B bar :=
  h.move (hb.block k h.lt)

/-- all but one block is as it was -/
structure Kb (k : Nat) (w w' : World) : Prop where
  os : w'.os = w.os
  tape : w'.tape = w.tape
  output : w'.output = w.output
  size : w.heap.size ≤ w'.heap.size
  block : ∀ b, b < w.heap.size → b ≠ k → w'.heap[b]? = w.heap[b]?

theorem Kb.refl (k : Nat) (w : World) : Kb k w w := ⟨rfl, rfl, rfl, Nat.le_refl _, fun _ _ _ => rfl⟩
theorem Kb.trans {k : Nat} {a b c : World} (h : Kb k a b) (g : Kb k b c) : Kb k a c :=
  ⟨g.os.trans h.os, g.tape.trans h.tape, g.output.trans h.output, Nat.le_trans h.size g.size, fun i hi hne => (g.block i (Nat.lt_of_lt_of_le hi h.size) hne).trans (h.block i hi hne)⟩
theorem Kb.of_below {k : Nat} {w w' : World} (h : Below w.heap.size w w') : Kb k w w' := ⟨h.os, h.tape, h.output, h.size, fun b hb _ => h.block b hb⟩
theorem Kb.set {k : Nat} {w w' : World} (h : Kb k w w') (o : Nat) (v : Value) : Kb k w (w'.setCell ⟨k, o, none⟩ v) :=
  ⟨h.os, h.tape, h.output, by simpa [World.setCell] using h.size, fun b hb hne => (Below.heap_setCell _ _ _ _ hne).trans (h.block b hb hne)⟩
theorem Kb.drew {k : Nat} {w w' : World} (h : Kb k w w') : Kb k w w'.drew := ⟨h.os, h.tape, h.output, h.size, h.block⟩
theorem Kb.below {k : Nat} {w w' : World} {N : Nat} (h : Kb k w w') (hN : N ≤ w.heap.size) (hk : N ≤ k) : Below N w w' :=
  ⟨h.os, h.tape, h.output, h.size, fun b hb => h.block b (by omega) (by omega)⟩

/-- a bar is laid -/
theorem SxAt.setBar {w : World} {k m n : Nat} {C : Nat → Nat → Rat} {B : Nat → Nat} {bar : Nat → Bool} (h : SxAt w k m n C B bar) {j : Nat} (hj : j < n) (b : Bool) :
    SxAt (w.setCell ⟨k, 330 + j, none⟩ (.bool b)) k m n C B (fun j' => if j' = j then b else bar j') := by
  have hn := h.lay.nle
  have hm := h.lay.mle
  have hother : ∀ o, o ≠ 330 + j → (w.setCell ⟨k, 330 + j, none⟩ (.bool b)).cell? ⟨k, o, none⟩ = w.cell? ⟨k, o, none⟩ := fun o ho =>
    World.cell?_setCell_other _ _ _ _ (by intro e; simp only [Addr.mk.injEq] at e; omega)
  have hsame : (w.setCell ⟨k, 330 + j, none⟩ (.bool b)).cell? ⟨k, 330 + j, none⟩ = some (.bool b) := World.cell?_setCell_same _ _ _ (h.lay.bars j hj)
  refine ⟨⟨?_, ?_, fun i j' hi hj' => ?_, fun i j' hi hj' => ?_, fun i hi => ?_, fun j' hj' => ?_, fun o ho => ?_, hm, hn⟩, fun o ho => by rw [World.frozen?_setCell]; exact h.free o ho⟩
  · show World.cell? _ ⟨k, 0, none⟩ = _; rw [hother 0 (by omega)]; exact h.lay.rows
  · show World.cell? _ ⟨k, 1, none⟩ = _; rw [hother 1 (by omega)]; exact h.lay.cols
  · show World.cell? _ ⟨k, 2 + i * 40 + j' * 2, none⟩ = _; rw [hother _ (by omega)]; exact h.lay.num i j' hi hj'
  · show World.cell? _ ⟨k, 2 + i * 40 + j' * 2 + 1, none⟩ = _; rw [hother _ (by omega)]; exact h.lay.den i j' hi hj'
  · show World.cell? _ ⟨k, 322 + i, none⟩ = _; rw [hother _ (by omega)]; exact h.lay.bas i hi
  · show World.cell? _ ⟨k, 330 + j', none⟩ = _
    by_cases e : j' = j
    · subst e; rw [hsame, if_pos rfl]
    · rw [hother _ (by omega), if_neg e]; exact h.lay.bars j' hj'
  · by_cases e : o = 330 + j
    · subst e; exact ⟨_, hsame, rfl⟩
    · obtain ⟨v, h1, h2⟩ := h.lay.one o ho
      exact ⟨v, (hother o e).trans h1, h2⟩

/-- a number is laid -/
theorem SxAt.setNum {w : World} {k m n : Nat} {C : Nat → Nat → Rat} {B : Nat → Nat} {bar : Nat → Bool} (h : SxAt w k m n C B bar) {i j : Nat} (hi : i ≤ m) (hj : j ≤ n) (q : Rat) :
    SxAt ((w.setCell ⟨k, 2 + i * 40 + j * 2, none⟩ (.int .i64 q.num)).setCell ⟨k, 2 + i * 40 + j * 2 + 1, none⟩ (.int .i64 q.den)) k m n (fun i' j' => if i' = i ∧ j' = j then q else C i' j') B bar := by
  have hn := h.lay.nle
  have hm := h.lay.mle
  have hother : ∀ o, o ≠ 2 + i * 40 + j * 2 → o ≠ 2 + i * 40 + j * 2 + 1 → ((w.setCell ⟨k, 2 + i * 40 + j * 2, none⟩ (.int .i64 q.num)).setCell ⟨k, 2 + i * 40 + j * 2 + 1, none⟩ (.int .i64 q.den)).cell? ⟨k, o, none⟩ = w.cell? ⟨k, o, none⟩ := fun o h1 h2 => by
    rw [World.cell?_setCell_other _ _ _ _ (by intro e; simp only [Addr.mk.injEq] at e; omega), World.cell?_setCell_other _ _ _ _ (by intro e; simp only [Addr.mk.injEq] at e; omega)]
  have hs1 : ((w.setCell ⟨k, 2 + i * 40 + j * 2, none⟩ (.int .i64 q.num)).setCell ⟨k, 2 + i * 40 + j * 2 + 1, none⟩ (.int .i64 q.den)).cell? ⟨k, 2 + i * 40 + j * 2, none⟩ = some (.int .i64 q.num) := by
    rw [World.cell?_setCell_other _ _ _ _ (by intro e; simp only [Addr.mk.injEq] at e; omega)]
    exact World.cell?_setCell_same _ _ _ (h.lay.num i j hi hj)
  have hs2 : ((w.setCell ⟨k, 2 + i * 40 + j * 2, none⟩ (.int .i64 q.num)).setCell ⟨k, 2 + i * 40 + j * 2 + 1, none⟩ (.int .i64 q.den)).cell? ⟨k, 2 + i * 40 + j * 2 + 1, none⟩ = some (.int .i64 q.den) := by
    refine World.cell?_setCell_same _ _ _ (u := .int .i64 (C i j).den) ?_
    rw [World.cell?_setCell_other _ _ _ _ (by intro e; simp only [Addr.mk.injEq] at e; omega)]
    exact h.lay.den i j hi hj
  refine ⟨⟨?_, ?_, fun i' j' hi' hj' => ?_, fun i' j' hi' hj' => ?_, fun i' hi' => ?_, fun j' hj' => ?_, fun o ho => ?_, hm, hn⟩, fun o ho => by rw [World.frozen?_setCell, World.frozen?_setCell]; exact h.free o ho⟩
  · show World.cell? _ ⟨k, 0, none⟩ = _; rw [hother 0 (by omega) (by omega)]; exact h.lay.rows
  · show World.cell? _ ⟨k, 1, none⟩ = _; rw [hother 1 (by omega) (by omega)]; exact h.lay.cols
  · show World.cell? _ ⟨k, 2 + i' * 40 + j' * 2, none⟩ = _
    by_cases e : i' = i ∧ j' = j
    · obtain ⟨rfl, rfl⟩ := e; rw [hs1, if_pos ⟨rfl, rfl⟩]
    · rw [hother _ (by omega) (by omega), if_neg e]; exact h.lay.num i' j' hi' hj'
  · show World.cell? _ ⟨k, 2 + i' * 40 + j' * 2 + 1, none⟩ = _
    by_cases e : i' = i ∧ j' = j
    · obtain ⟨rfl, rfl⟩ := e; rw [hs2, if_pos ⟨rfl, rfl⟩]
    · rw [hother _ (by omega) (by omega), if_neg e]; exact h.lay.den i' j' hi' hj'
  · show World.cell? _ ⟨k, 322 + i', none⟩ = _; rw [hother _ (by omega) (by omega)]; exact h.lay.bas i' hi'
  · show World.cell? _ ⟨k, 330 + j', none⟩ = _; rw [hother _ (by omega) (by omega)]; exact h.lay.bars j' hj'
  · by_cases e : o = 2 + i * 40 + j * 2
    · subst e; exact ⟨_, hs1, rfl⟩
    · by_cases e2 : o = 2 + i * 40 + j * 2 + 1
      · subst e2; exact ⟨_, hs2, rfl⟩
      · obtain ⟨v, h1, h2⟩ := h.lay.one o ho
        exact ⟨v, (hother o e e2).trans h1, h2⟩

theorem SxAt.congr {w : World} {k m n : Nat} {C C' : Nat → Nat → Rat} {B B' : Nat → Nat} {bar bar' : Nat → Bool} (h : SxAt w k m n C B bar)
    (hC : ∀ i j, i ≤ m → j ≤ n → C' i j = C i j) (hB : ∀ i, i < m → B' i = B i) (hb : ∀ j, j < n → bar' j = bar j) : SxAt w k m n C' B' bar' :=
  ⟨⟨h.lay.rows, h.lay.cols, fun i j hi hj => by rw [hC i j hi hj]; exact h.lay.num i j hi hj, fun i j hi hj => by rw [hC i j hi hj]; exact h.lay.den i j hi hj,
    fun i hi => by rw [hB i hi]; exact h.lay.bas i hi, fun j hj => by rw [hb j hj]; exact h.lay.bars j hj, h.lay.one, h.lay.mle, h.lay.nle⟩, h.free⟩

end Go.Proofs.Ytnmcgbfhgmmcpaa

namespace Go.Proofs.Ytnmcgbfhgmmcpaa
open Go.RowKit

set_option maxHeartbeats 1000000 in
theorem narrow_calls (w : World) (k m n : Nat) (C : Nat → Nat → Rat) (B : Nat → Nat) (bar : Nat → Bool) (h : SxAt w k m n C B bar) :
    Calls Try.prog 118 #[.pointer (some ⟨k, 0, none⟩)] w fun e w' => e = .returned (.tuple #[]) ∧ Kb k w w' ∧ SxAt w' k m n C B (fun j => bar j || (decide (j < n) && decide (0 < C m j))) := by
  have hn := h.lay.nle
  have hm := h.lay.mle
  have hcols : w.cell? ⟨k, 1, none⟩ = some (.int .i64 n) := h.lay.cols
  go_enter Try.func118, Try.ntmps118
  go_wp2_with fail
  go_loopw [7] (fun t wr => ∃ j : Nat, j ≤ n ∧ t = .int .i64 j ∧ Kb k w wr ∧ SxAt wr k m n C B (fun j' => bar j' || (decide (j' < j) && decide (0 < C m j')))) (fun t _ => n - (intOf t).toNat)
  case atStart => exact ⟨0, Nat.zero_le _, rfl, Kb.refl _ _, by simpa using h⟩
  case round =>
    obtain ⟨j, hj, rfl, hK, hS⟩ := hrel
    by_cases hlt : j < n
    · have hr : wr.cell? ⟨k, 0, none⟩ = some (.int .i64 m) := hS.lay.rows
      have hnum : wr.cell? ⟨k, 2 + m * 40 + j * 2, none⟩ = some (.int .i64 (C m j).num) := hS.lay.num m j (Nat.le_refl _) hj
      have hden : wr.cell? ⟨k, 2 + m * 40 + j * 2 + 1, none⟩ = some (.int .i64 (C m j).den) := hS.lay.den m j (Nat.le_refl _) hj
      have i1 : (m : Int) < 8 := by omega
      have i2 : (j : Int) < 20 := by omega
      have i3 : (j : Int) < (n : Int) := by omega
      have step : ∀ w', Below wr.heap.size wr w' → Kb k w w' ∧ SxAt w' k m n C B (fun j' => bar j' || (decide (j' < j) && decide (0 < C m j'))) := fun w' hb => ⟨hK.trans (Kb.of_below hb), hS.below hb⟩
      by_cases hp : 0 < C m j
      · have hg : (0 : Int) < sgR (C m j) := by rw [sgR_pos hp]; decide
        go_wp2_with fail
        go_region_held3 (fun w' => w'.cell? ⟨k, 0, none⟩ = some (.int .i64 m) ∧ w'.cell? ⟨k, 2 + m * 40 + j * 2, none⟩ = some (.int .i64 (C m j).num) ∧ w'.cell? ⟨k, 2 + m * 40 + j * 2 + 1, none⟩ = some (.int .i64 (C m j).den))
          (first | exact ⟨hr, hnum, hden⟩ | (have hlt2 := hS.lt; exact ⟨(hb.cell (p := ⟨k, 0, none⟩) hlt2).trans hr, (hb.cell (p := ⟨k, 2 + m * 40 + j * 2, none⟩) hlt2).trans hnum, (hb.cell (p := ⟨k, 2 + m * 40 + j * 2 + 1, none⟩) hlt2).trans hden⟩))
          (first | (go_at_call 54; refine (signR (C m j) _).mono ?_; rintro e w' ⟨rfl, hb⟩))
        obtain ⟨hK', hS'⟩ := step w' (by exact (Below.refl _ _).drew.trans hb)
        have hbc : w'.cell? ⟨k, 330 + j, none⟩ = some (.bool (bar j || (decide (j < j) && decide (0 < C m j)))) := hS'.lay.bars j hlt
        have hbf : w'.frozen? ⟨k, 330 + j, none⟩ = false := hS'.free (330 + j) (by omega)
        go_wp2
        go_roundw
        case rel =>
          refine ⟨j + 1, by omega, by go_num, hK'.set _ _, (hS'.setBar hlt true).congr (fun _ _ _ _ => rfl) (fun _ _ => rfl) (fun j' hj' => ?_)⟩
          by_cases e : j' = j
          · subst e; rw [if_pos rfl]; simp [hp]
          · rw [if_neg e]
            by_cases e2 : j' < j
            · simp [e2, show j' < j + 1 by omega]
            · simp [e2, show ¬ j' < j + 1 by omega]
        case measure => simp [intOf]; omega
      · have hg : decide ((0 : Int) < sgR (C m j)) = false := by
          by_cases e : C m j < 0
          · rw [sgR_neg e]; decide
          · rw [sgR_zero (by grind)]; decide
        go_wp2_with fail
        go_region_held3 (fun w' => w'.cell? ⟨k, 0, none⟩ = some (.int .i64 m) ∧ w'.cell? ⟨k, 2 + m * 40 + j * 2, none⟩ = some (.int .i64 (C m j).num) ∧ w'.cell? ⟨k, 2 + m * 40 + j * 2 + 1, none⟩ = some (.int .i64 (C m j).den))
          (first | exact ⟨hr, hnum, hden⟩ | (have hlt2 := hS.lt; exact ⟨(hb.cell (p := ⟨k, 0, none⟩) hlt2).trans hr, (hb.cell (p := ⟨k, 2 + m * 40 + j * 2, none⟩) hlt2).trans hnum, (hb.cell (p := ⟨k, 2 + m * 40 + j * 2 + 1, none⟩) hlt2).trans hden⟩))
          (first | (go_at_call 54; refine (signR (C m j) _).mono ?_; rintro e w' ⟨rfl, hb⟩))
        obtain ⟨hK', hS'⟩ := step w' (by exact (Below.refl _ _).drew.trans hb)
        go_wp2
        go_roundw
        case rel =>
          refine ⟨j + 1, by omega, by go_num, hK', hS'.congr (fun _ _ _ _ => rfl) (fun _ _ => rfl) (fun j' hj' => ?_)⟩
          by_cases e : j' = j
          · subst e; simp [hp]
          · by_cases e2 : j' < j
            · simp [e2, show j' < j + 1 by omega]
            · simp [e2, show ¬ j' < j + 1 by omega]
        case measure => simp [intOf]; omega
    · obtain rfl : j = n := by omega
      go_wp2
      go_end0
      exact ⟨rfl, hK, hS⟩

end Go.Proofs.Ytnmcgbfhgmmcpaa

namespace Go.Proofs.Ytnmcgbfhgmmcpaa
open Go.RowKit

namespace Cov
theorem first_eq {p : Nat → Bool} {n j : Nat} (hj : j < n) (hp : p j = true) (hz : ∀ i, i < j → p i = false) : first p n = some j := by
  cases hf : first p n with
  | none => have := first_none hf j hj; rw [hp] at this; cases this
  | some j' =>
    obtain ⟨h1, h2, h3⟩ := first_some hf
    by_cases e : j' < j
    · rw [hz j' e] at h2; cases h2
    · by_cases e2 : j < j'
      · rw [h3 j e2] at hp; cases hp
      · rw [show j' = j by omega]

theorem first_eq_none {p : Nat → Bool} {n : Nat} (hz : ∀ i, i < n → p i = false) : first p n = none := by
  cases hf : first p n with
  | none => rfl
  | some j =>
    obtain ⟨h1, h2, _⟩ := first_some hf
    rw [hz j h1] at h2; cases h2

/-- as the program tells it: -1 for none -/
def idx : Option Nat → Int
  | none => -1
  | some j => j
end Cov

set_option maxHeartbeats 1000000 in
theorem entering_calls (w : World) (k m n : Nat) (C : Nat → Nat → Rat) (B : Nat → Nat) (bar : Nat → Bool) (h : SxAt w k m n C B bar) :
    Calls Try.prog 115 #[.pointer (some ⟨k, 0, none⟩)] w fun e w' => e = .returned (.int .i64 (Cov.idx (Cov.first (fun j => !bar j && decide (C m j < 0)) n))) ∧ Below w.heap.size w w' := by
  have hn := h.lay.nle
  have hm := h.lay.mle
  have hcols : w.cell? ⟨k, 1, none⟩ = some (.int .i64 n) := h.lay.cols
  obtain ⟨res, hres⟩ : ∃ r, r = Cov.idx (Cov.first (fun j => !bar j && decide (C m j < 0)) n) := ⟨_, rfl⟩
  rw [← hres]
  have HR := hid hres
  clear hres
  go_enter Try.func115, Try.ntmps115
  go_wp2_with fail
  go_loopw [8] (fun t wr => ∃ j : Nat, j ≤ n ∧ t = .int .i64 j ∧ Below w.heap.size w wr ∧ Hid (∀ i, i < j → (!bar i && decide (C m i < 0)) = false)) (fun t _ => n - (intOf t).toNat)
  case atStart => exact ⟨0, Nat.zero_le _, rfl, Below.refl _ _, hid (fun i hi => by omega)⟩
  case round =>
    obtain ⟨j, hj, rfl, hK, hz⟩ := hrel
    have hS := h.below hK
    by_cases hlt : j < n
    · have hr : wr.cell? ⟨k, 0, none⟩ = some (.int .i64 m) := hS.lay.rows
      have hnum : wr.cell? ⟨k, 2 + m * 40 + j * 2, none⟩ = some (.int .i64 (C m j).num) := hS.lay.num m j (Nat.le_refl _) hj
      have hden : wr.cell? ⟨k, 2 + m * 40 + j * 2 + 1, none⟩ = some (.int .i64 (C m j).den) := hS.lay.den m j (Nat.le_refl _) hj
      have hbar := hS.lay.bars j hlt
      have i1 : (m : Int) < 8 := by omega
      have i2 : (j : Int) < 20 := by omega
      have i3 : (j : Int) < (n : Int) := by omega
      cases hbj : bar j with
      | true =>
        have hb0 : wr.cell? ⟨k, 330 + j, none⟩ = some (.bool true) := by rw [← hbj]; exact hbar
        have hz' : Hid (∀ i, i < j + 1 → (!bar i && decide (C m i < 0)) = false) := fun i hi => by
          by_cases e : i = j
          · rw [e, hbj]; rfl
          · exact hz.out i (by omega)
        clear hbar hbj hz
        go_wp2_with fail
        go_quiet (fail)
        go_wp2
        go_roundw
        case rel => exact ⟨j + 1, by omega, by go_num, below_drewN hK _, hz'⟩
        case measure => simp [intOf]; omega
      | false =>
        have hb0 : wr.cell? ⟨k, 330 + j, none⟩ = some (.bool false) := by rw [← hbj]; exact hbar
        by_cases hp : C m j < 0
        · have hg : sgR (C m j) < 0 := by rw [sgR_neg hp]; decide
          have hfin : Hid (res = (j : Int)) := by
            show res = (j : Int)
            rw [HR.out, Cov.first_eq hlt (by rw [hbj]; simpa using hp) hz.out]; rfl
          clear hbar hbj hz
          go_wp2_with fail
          go_region_held3 (fun w' => w'.cell? ⟨k, 330 + j, none⟩ = some (.bool false) ∧ w'.cell? ⟨k, 0, none⟩ = some (.int .i64 m) ∧ w'.cell? ⟨k, 2 + m * 40 + j * 2, none⟩ = some (.int .i64 (C m j).num) ∧ w'.cell? ⟨k, 2 + m * 40 + j * 2 + 1, none⟩ = some (.int .i64 (C m j).den))
            (first | exact ⟨hb0, hr, hnum, hden⟩ | (have hlt2 := hS.lt; exact ⟨(hb.cell (p := ⟨k, 330 + j, none⟩) hlt2).trans hb0, (hb.cell (p := ⟨k, 0, none⟩) hlt2).trans hr, (hb.cell (p := ⟨k, 2 + m * 40 + j * 2, none⟩) hlt2).trans hnum, (hb.cell (p := ⟨k, 2 + m * 40 + j * 2 + 1, none⟩) hlt2).trans hden⟩))
            (first | (go_at_call 54; refine (signR (C m j) _).mono ?_; rintro e w' ⟨rfl, hb⟩))
          go_wp2
          go_ret
          exact ⟨ret_int (by rw [hfin.out]), bt hK ((Below.refl _ _).drew.trans hb)⟩
        · have hg : decide (sgR (C m j) < 0) = false := by
            by_cases e : 0 < C m j
            · rw [sgR_pos e]; decide
            · rw [sgR_zero (by grind)]; decide
          have hz' : Hid (∀ i, i < j + 1 → (!bar i && decide (C m i < 0)) = false) := fun i hi => by
            by_cases e : i = j
            · rw [e, hbj]; simpa using hp
            · exact hz.out i (by omega)
          clear hbar hbj hz
          go_wp2_with fail
          go_region_held3 (fun w' => w'.cell? ⟨k, 330 + j, none⟩ = some (.bool false) ∧ w'.cell? ⟨k, 0, none⟩ = some (.int .i64 m) ∧ w'.cell? ⟨k, 2 + m * 40 + j * 2, none⟩ = some (.int .i64 (C m j).num) ∧ w'.cell? ⟨k, 2 + m * 40 + j * 2 + 1, none⟩ = some (.int .i64 (C m j).den))
            (first | exact ⟨hb0, hr, hnum, hden⟩ | (have hlt2 := hS.lt; exact ⟨(hb.cell (p := ⟨k, 330 + j, none⟩) hlt2).trans hb0, (hb.cell (p := ⟨k, 0, none⟩) hlt2).trans hr, (hb.cell (p := ⟨k, 2 + m * 40 + j * 2, none⟩) hlt2).trans hnum, (hb.cell (p := ⟨k, 2 + m * 40 + j * 2 + 1, none⟩) hlt2).trans hden⟩))
            (first | (go_at_call 54; refine (signR (C m j) _).mono ?_; rintro e w' ⟨rfl, hb⟩))
          go_wp2
          go_roundw
          case rel => exact ⟨j + 1, by omega, by go_num, bt hK ((Below.refl _ _).drew.trans hb), hz'⟩
          case measure => simp [intOf]; omega
    · obtain rfl : j = n := by omega
      have hfin : Hid (res = -1) := by
        show res = -1
        rw [HR.out, Cov.first_eq_none hz.out]; rfl
      clear hz
      go_wp2
      go_ret
      exact ⟨ret_int (by rw [hfin.out]), hK⟩

end Go.Proofs.Ytnmcgbfhgmmcpaa

namespace Go.Proofs.Ytnmcgbfhgmmcpaa
open Go.RowKit

section
variable {w : World} {k m n : Nat} {C : Nat → Nat → Rat} {B : Nat → Nat} {bar : Nat → Bool}

theorem SxAt.drew (h : SxAt w k m n C B bar) : SxAt w.drew k m n C B bar := h.move rfl
theorem SxAt.alloc (h : SxAt w k m n C B bar) (o : Obj) : SxAt (w.alloc o) k m n C B bar := h.move (Below.heap_alloc _ _ _ h.lt)
theorem SxAt.far (h : SxAt w k m n C B bar) {a o : Nat} (v : Value) (ha : a ≠ k) : SxAt (w.setCell ⟨a, o, none⟩ v) k m n C B bar := h.move (Below.heap_setCell _ _ _ _ (fun e => ha e.symm))
theorem SxAt.at (h : SxAt w k m n C B bar) {i j : Nat} (hi : i ≤ m) (hj : j ≤ n) : w.cell? ⟨k, 2 + i * 40 + j * 2, none⟩ = some (.int .i64 (C i j).num) ∧ w.cell? ⟨k, 2 + i * 40 + j * 2 + 1, none⟩ = some (.int .i64 (C i j).den) :=
  ⟨h.lay.num i j hi hj, h.lay.den i j hi hj⟩
theorem SxAt.five (h : SxAt w k m n C B bar) {i c : Nat} (hi : i ≤ m) (hc : c ≤ n) : w.cell? ⟨k, 1, none⟩ = some (.int .i64 n) ∧ w.cell? ⟨k, 2 + i * 40 + n * 2, none⟩ = some (.int .i64 (C i n).num) ∧ w.cell? ⟨k, 2 + i * 40 + n * 2 + 1, none⟩ = some (.int .i64 (C i n).den) ∧ w.cell? ⟨k, 2 + i * 40 + c * 2, none⟩ = some (.int .i64 (C i c).num) ∧ w.cell? ⟨k, 2 + i * 40 + c * 2 + 1, none⟩ = some (.int .i64 (C i c).den) :=
  ⟨h.lay.cols, h.lay.num i n hi (Nat.le_refl _), h.lay.den i n hi (Nat.le_refl _), h.lay.num i c hi hc, h.lay.den i c hi hc⟩
end

theorem Sm.inv {B : Nat} {q : Rat} (h : Sm B q) (h0 : q ≠ 0) : Sm B q⁻¹ := by
  refine sm_of_whole (D := q.num) (Z := B) (num_ne h0) h.1 ⟨q.den, ?_, by rw [den_abs]; exact h.2⟩ (Nat.le_refl _)
  have e := mul_den q
  rw [← e]
  generalize (((q.den : Nat) : Int) : Rat) = d
  grind

/-- a variable of the call's own that holds q -/
def PtrR (w wc : World) (v : Value) (q : Rat) : Prop := ∃ a, v = .pointer (some ⟨a, 0, none⟩) ∧ wc.cell? ⟨a, 0, none⟩ = some (.int .i64 q.num) ∧ wc.cell? ⟨a, 1, none⟩ = some (.int .i64 q.den) ∧ w.heap.size ≤ a ∧ a < wc.heap.size ∧ Below w.heap.size w wc

theorem ptrR_alloc {w w' : World} {t : TypeId} {q : Rat} (h : Below w.heap.size w w') : PtrR w (w'.alloc (.cells #[.int .i64 q.num, .int .i64 q.den] t)) (.pointer (some ⟨w'.heap.size, 0, none⟩)) q :=
  ⟨w'.heap.size, rfl, by simp [go_sem], by simp [go_sem], h.size, by simp, h.alloc h.size _⟩

theorem ptrR_set {w w' : World} {a : Nat} {u v : Value} {q : Rat} (h : Below w.heap.size w w') (ha : w.heap.size ≤ a) (h0 : w'.cell? ⟨a, 0, none⟩ = some u) (h1 : w'.cell? ⟨a, 1, none⟩ = some v) :
    PtrR w ((w'.setCell ⟨a, 0, none⟩ (.int .i64 q.num)).setCell ⟨a, 1, none⟩ (.int .i64 q.den)) (.pointer (some ⟨a, 0, none⟩)) q := by
  refine ⟨a, rfl, ?_, ?_, ha, ?_, (h.setCell (by simpa using ha) _).setCell (by simpa using ha) _⟩
  · rw [World.cell?_setCell_other _ _ _ _ (by simp), World.cell?_setCell_same _ _ _ h0]
  · exact World.cell?_setCell_same _ _ _ (by rw [World.cell?_setCell_other _ _ _ _ (by simp)]; exact h1)
  · have := World.block_lt_of_cell? w' _ h0
    simpa using this

set_option maxHeartbeats 1000000 in
theorem leavesBefore_calls (w : World) (k m n : Nat) (C : Nat → Nat → Rat) (B : Nat → Nat) (bar : Nat → Bool) (h : SxAt w k m n C B bar) (i o c : Nat) (hi : i < m) (ho : o < m) (hc : c < n)
    (hi0 : C i c ≠ 0) (ho0 : C o c ≠ 0) (hsm : ∀ a b, a ≤ m → b ≤ n → Sm 41000 (C a b)) :
    Calls Try.prog 125 #[.pointer (some ⟨k, 0, none⟩), .int .i64 i, .int .i64 o, .int .i64 c] w fun e w' => e = .returned (.bool (Cov.before C B n c i o)) ∧ Below w.heap.size w w' := by
  have hn := h.lay.nle
  have hm := h.lay.mle
  have hklt := h.lt
  have hcols : w.cell? ⟨k, 1, none⟩ = some (.int .i64 n) := h.lay.cols
  obtain ⟨a1, a2⟩ := h.at (i := i) (j := n) (by omega) (by omega)
  obtain ⟨a3, a4⟩ := h.at (i := i) (j := c) (by omega) (by omega)
  have i1 : (i : Int) < 8 := by omega
  have i2 : (o : Int) < 8 := by omega
  have i3 : (n : Int) < 20 := by omega
  have i4 : (c : Int) < 20 := by omega
  have S1 := hid (hsm i n (by omega) (Nat.le_refl _))
  have S2 := hid (hsm i c (by omega) (by omega))
  have S3 := hid (hsm o n (by omega) (Nat.le_refl _))
  have S4 := hid (hsm o c (by omega) (by omega))
  clear hsm
  have hres : Hid (Cov.before C B n c i o = if C i n / C i c - C o n / C o c = 0 then decide (B i < B o) else decide (C i n / C i c - C o n / C o c < 0)) := by
    show Cov.before C B n c i o = _
    unfold Cov.before
    by_cases e : C i n / C i c = C o n / C o c
    · rw [if_pos e, if_pos (by grind)]
    · rw [if_neg e, if_neg (by grind)]
      congr 1
      exact propext ⟨fun _ => by grind, fun _ => by grind⟩
  have hbi : w.cell? ⟨k, 322 + i, none⟩ = some (.int .i64 (B i : Nat)) := h.lay.bas i hi
  have Q1 := hid (show Sm (41000 * 41000) (C i n / C i c) by rw [Rat.div_def]; exact S1.out.mul (Sm.inv S2.out hi0))
  have Q2 := hid (show Sm (41000 * 41000) (C o n / C o c) by rw [Rat.div_def]; exact S3.out.mul (Sm.inv S4.out ho0))
  go_enter Try.func125, Try.ntmps125
  go_wp2_with fail
  go_cut [9] (fun v wc => PtrR w wc v (C i n / C i c))
  case first =>
    go_region_held3 (fun w' => w'.cell? ⟨k, 1, none⟩ = some (.int .i64 n) ∧ w'.cell? ⟨k, 2 + i * 40 + n * 2, none⟩ = some (.int .i64 (C i n).num) ∧ w'.cell? ⟨k, 2 + i * 40 + n * 2 + 1, none⟩ = some (.int .i64 (C i n).den) ∧ w'.cell? ⟨k, 2 + i * 40 + c * 2, none⟩ = some (.int .i64 (C i c).num) ∧ w'.cell? ⟨k, 2 + i * 40 + c * 2 + 1, none⟩ = some (.int .i64 (C i c).den))
      (first | exact h.drew.five (by omega) (by omega) | exact (h.drew.below hb).five (by omega) (by omega) | exact ((h.drew.below hb).alloc _).five (by omega) (by omega) | exact (h.alloc _).drew.five (by omega) (by omega) | exact ((h.alloc _).drew.below hb).five (by omega) (by omega) | exact ((((h.alloc _).drew.below hb).far _ (by omega)).far _ (by omega)).five (by omega) (by omega))
      (first | (go_at_call 141; refine (overV (C i n) (C i c) _ S1.out S2.out (by decide) hi0).mono ?_; rintro e w' ⟨rfl, hb⟩; obtain ⟨hcc, hff⟩ := bcell hb; have hzz := hb.size; simp at hzz))
    all_goals (go_wp2_with fail; go_meet)
    all_goals first
      | exact ptrR_alloc ((Below.refl _ _).drew.trans hb)
      | exact ptrR_set (u := .int .i64 0) (v := .int .i64 0) (Below.trans ((Below.refl _ _).alloc (Nat.le_refl _) _).drew (hb.mono (by simp))) (Nat.le_refl _) (by simp [hcc, go_sem]) (by simp [hcc, go_sem])
  case rest =>
    obtain ⟨p1, rfl, p10, p11, p12, p13, hB1⟩ := hcut
    have h1 := h.below hB1
    have hklt1 := h1.lt
    clear a1 a2 a3 a4 hcols
    obtain ⟨wo, rfl⟩ : ∃ wo : World, wo = wc := ⟨_, rfl⟩
    go_wp2_with fail
    go_cut [10] (fun v wd => PtrR wo wd v (C o n / C o c))
    case first =>
      have hcols := h1.lay.cols
      obtain ⟨b1, b2⟩ := h1.at (i := o) (j := n) (by omega) (by omega)
      obtain ⟨b3, b4⟩ := h1.at (i := o) (j := c) (by omega) (by omega)
      go_region_held3 (fun w' => w'.cell? ⟨k, 1, none⟩ = some (.int .i64 n) ∧ w'.cell? ⟨k, 2 + o * 40 + n * 2, none⟩ = some (.int .i64 (C o n).num) ∧ w'.cell? ⟨k, 2 + o * 40 + n * 2 + 1, none⟩ = some (.int .i64 (C o n).den) ∧ w'.cell? ⟨k, 2 + o * 40 + c * 2, none⟩ = some (.int .i64 (C o c).num) ∧ w'.cell? ⟨k, 2 + o * 40 + c * 2 + 1, none⟩ = some (.int .i64 (C o c).den))
        (first | exact h1.drew.five (by omega) (by omega) | exact (h1.drew.below hb).five (by omega) (by omega) | exact ((h1.drew.below hb).alloc _).five (by omega) (by omega) | exact (h1.alloc _).drew.five (by omega) (by omega) | exact ((h1.alloc _).drew.below hb).five (by omega) (by omega) | exact ((((h1.alloc _).drew.below hb).far _ (by omega)).far _ (by omega)).five (by omega) (by omega))
        (first | (go_at_call 141; refine (overV (C o n) (C o c) _ S3.out S4.out (by decide) ho0).mono ?_; rintro e w' ⟨rfl, hb⟩; obtain ⟨hcc, hff⟩ := bcell hb; have hzz := hb.size; simp at hzz))
      all_goals (go_wp2_with fail; go_meet)
      all_goals first
        | exact ptrR_alloc ((Below.refl _ _).drew.trans hb)
        | exact ptrR_set (u := .int .i64 0) (v := .int .i64 0) (Below.trans ((Below.refl _ _).alloc (Nat.le_refl _) _).drew (hb.mono (by simp))) (Nat.le_refl _) (by simp [hcc, go_sem]) (by simp [hcc, go_sem])
    case rest =>
      obtain ⟨p2, rfl, p20, p21, p22, p23, hB2⟩ := hcut
      have p10' : wc.cell? ⟨p1, 0, none⟩ = some (.int .i64 (C i n / C i c).num) := (hB2.cell (p := ⟨p1, 0, none⟩) p13).trans p10
      have p11' : wc.cell? ⟨p1, 1, none⟩ = some (.int .i64 (C i n / C i c).den) := (hB2.cell (p := ⟨p1, 1, none⟩) p13).trans p11
      have h2 := h1.below hB2
      have hbi2 : wc.cell? ⟨k, 322 + i, none⟩ = some (.int .i64 (B i : Nat)) := h2.lay.bas i hi
      have hbo2 : wc.cell? ⟨k, 322 + o, none⟩ = some (.int .i64 (B o : Nat)) := h2.lay.bas o ho
      clear p10 p11 hbi
      have hBe := bt hB1 hB2
      have hklt2 := h2.lt
      by_cases hq : C i n / C i c - C o n / C o c = 0
      · have hs : (sgR (C i n / C i c - C o n / C o c) != 0) = false := by rw [sgR_zero hq]; decide
        have hr2 : Hid (Cov.before C B n c i o = decide (B i < B o)) := by
          show _ = _
          rw [hres.out, if_pos hq]
        clear hres hq
        go_wp2_with fail
        refine (minusV _ _ _ Q1.out Q2.out (by decide)).mono ?_
        rintro e w4 ⟨rfl, hb4⟩
        go_wp2_with fail
        refine (signV _ _).mono ?_
        rintro e w5 ⟨rfl, hb5⟩
        have h5 := (h2.below hb4).below hb5
        have hbi5 : w5.cell? ⟨k, 322 + i, none⟩ = some (.int .i64 (B i : Nat)) := h5.lay.bas i hi
        have hbo5 : w5.cell? ⟨k, 322 + o, none⟩ = some (.int .i64 (B o : Nat)) := h5.lay.bas o ho
        go_wp2_with fail
        go_quiet (fail)
        go_wp2
        go_ret
        refine ⟨?_, below_drewN (bt hBe (bt hb4 hb5)) _⟩
        rw [hr2.out]
        congr 2
      · have hs : (sgR (C i n / C i c - C o n / C o c) != 0) = true := by
          by_cases e : C i n / C i c - C o n / C o c < 0
          · rw [sgR_neg e]; decide
          · rw [sgR_pos (by grind)]; decide
        have hr2 : Hid (Cov.before C B n c i o = decide (sgR (C i n / C i c - C o n / C o c) < 0)) := by
          show _ = _
          rw [hres.out, if_neg hq]
          by_cases e : C i n / C i c - C o n / C o c < 0
          · rw [sgR_neg e]; simpa using e
          · rw [sgR_pos (by grind)]; simpa using e
        clear hres hq
        go_wp2_with fail
        refine (minusV _ _ _ Q1.out Q2.out (by decide)).mono ?_
        rintro e w4 ⟨rfl, hb4⟩
        go_wp2_with fail
        refine (signV _ _).mono ?_
        rintro e w5 ⟨rfl, hb5⟩
        go_wp2
        go_ret
        refine ⟨?_, bt hBe (bt hb4 hb5)⟩
        rw [hr2.out]
        rfl

end Go.Proofs.Ytnmcgbfhgmmcpaa

namespace Go.Proofs.Ytnmcgbfhgmmcpaa
open Go.RowKit

set_option maxHeartbeats 400000 in
theorem leaving_none (w : World) (p : Value) (c : Int) (hc : c < 0) :
    Calls Try.prog 116 #[p, .int .i64 c] w fun e w' => e = .returned (.int .i64 (-1)) ∧ Below w.heap.size w w' := by
  go_enter Try.func116, Try.ntmps116
  go_wp2
  go_ret
  exact ⟨rfl, Below.refl _ _⟩

set_option maxHeartbeats 2000000 in
theorem leaving_some (w : World) (k m n : Nat) (C : Nat → Nat → Rat) (B : Nat → Nat) (bar : Nat → Bool) (h : SxAt w k m n C B bar) (c : Nat) (hc : c < n) (hsm : ∀ a b, a ≤ m → b ≤ n → Sm 41000 (C a b)) :
    Calls Try.prog 116 #[.pointer (some ⟨k, 0, none⟩), .int .i64 c] w fun e w' => e = .returned (.int .i64 (Cov.idx (Cov.best (fun i => decide (0 < C i c)) (Cov.before C B n c) m))) ∧ Below w.heap.size w w' := by
  have hn := h.lay.nle
  have hm := h.lay.mle
  have hrows : w.cell? ⟨k, 0, none⟩ = some (.int .i64 m) := h.lay.rows
  have S1 := hid hsm
  clear hsm
  obtain ⟨bst, hbst⟩ : ∃ f : Nat → Option Nat, f = Cov.best (fun i => decide (0 < C i c)) (Cov.before C B n c) := ⟨_, rfl⟩
  have hstep : Hid (∀ i, bst (i + 1) = match bst i with | none => if decide (0 < C i c) then some i else none | some b => if decide (0 < C i c) && Cov.before C B n c i b then some i else some b) := by
    intro i; rw [hbst]; rfl
  have hprop : Hid (∀ i b, bst i = some b → b < i ∧ 0 < C b c) := by
    intro i b hb
    rw [hbst] at hb
    obtain ⟨h1, h2, _⟩ := Cov.best_some hb
    exact ⟨h1, h2⟩
  have hzero : Hid (bst 0 = none) := by rw [hbst]; exact rfl
  rw [← hbst]
  clear hbst
  have i2 : (c : Int) < 20 := by omega
  have i0 : ¬ ((c : Int) < 0) := by omega
  go_enter Try.func116, Try.ntmps116
  go_wp2_with fail
  go_loopw [5, 14] (fun t u wr => ∃ i : Nat, i ≤ m ∧ u = .int .i64 i ∧ t = .int .i64 (Cov.idx (bst i)) ∧ Below w.heap.size w wr) (fun _ u _ => m - (intOf u).toNat)
  case atStart => exact ⟨0, Nat.zero_le _, rfl, by rw [hzero.out]; rfl, Below.refl _ _⟩
  case round =>
    obtain ⟨i, hi, rfl, rfl, hK⟩ := hrel
    have hS := h.below hK
    by_cases hlt : i < m
    · have i3 : (i : Int) < (m : Int) := by omega
      have i4 : (i : Int) < 8 := by omega
      obtain ⟨a1, a2⟩ := hS.at (i := i) (j := c) (by omega) (by omega)
      have hst := hid (hstep.out i)
      by_cases hp : 0 < C i c
      · have hg : (0 : Int) < sgR (C i c) := by rw [sgR_pos hp]; decide
        have HP := hid hp
        cases hb : bst i with
        | none =>
          have hnew : Hid (bst (i + 1) = some i) := by
            show _ = _
            rw [hst.out, hb]
            simp only [HP.out, decide_true, if_true]
          have e0 : Cov.idx (bst i) = -1 := by rw [hb]; rfl
          rw [← hb, e0]
          clear hb e0 hp
          go_wp2_with (first | (go_at_call 54; refine (signV (C i c) _).mono ?_; rintro e w' ⟨rfl, hb1⟩))
          go_roundw
          case rel => exact ⟨i + 1, by omega, by go_num, by rw [hnew.out]; rfl, bt hK hb1⟩
          case measure => simp [intOf]; omega
        | some b =>
          obtain ⟨hbi, hbp⟩ := hprop.out i b hb
          have HB := hid hb
          have e0 : Cov.idx (bst i) = (b : Int) := by rw [hb]; rfl
          rw [← hb, e0]
          clear hb e0
          have j1 : ¬ ((b : Int) < 0) := by omega
          have hne1 : C i c ≠ 0 := by grind
          have hne2 : C b c ≠ 0 := by grind
          clear hp hbp
          cases hbf : Cov.before C B n c i b with
          | true =>
            have hnew : Hid (bst (i + 1) = some i) := by
              show _ = _
              rw [hst.out, HB.out]
              simp only [HP.out, decide_true, Bool.true_and]
              rw [hbf]; rfl
            have HF := hid hbf
            clear hbf
            go_wp2_with fail
            refine (signV (C i c) _).mono ?_
            rintro e w1 ⟨rfl, hb1⟩
            go_wp2_with fail
            refine (leavesBefore_calls _ k m n C B bar (hS.below hb1) i b c hlt (by omega) hc hne1 hne2 S1.out).mono ?_
            rintro e w2 ⟨rfl, hb2⟩
            rw [HF.out]
            go_wp2_with fail
            go_roundw
            case rel => exact ⟨i + 1, by omega, by go_num, by rw [hnew.out]; rfl, bt hK (bt hb1 hb2)⟩
            case measure => simp [intOf]; omega
          | false =>
            have hnew : Hid (bst (i + 1) = some b) := by
              show _ = _
              rw [hst.out, HB.out]
              simp only [HP.out, decide_true, Bool.true_and]
              rw [hbf]; rfl
            have HF := hid hbf
            clear hbf
            go_wp2_with fail
            refine (signV (C i c) _).mono ?_
            rintro e w1 ⟨rfl, hb1⟩
            go_wp2_with fail
            refine (leavesBefore_calls _ k m n C B bar (hS.below hb1) i b c hlt (by omega) hc hne1 hne2 S1.out).mono ?_
            rintro e w2 ⟨rfl, hb2⟩
            rw [HF.out]
            go_wp2_with fail
            go_roundw
            case rel => exact ⟨i + 1, by omega, by go_num, by rw [hnew.out]; rfl, bt hK (bt hb1 hb2)⟩
            case measure => simp [intOf]; omega
      · have hg : decide ((0 : Int) < sgR (C i c)) = false := by
          by_cases e : C i c < 0
          · rw [sgR_neg e]; decide
          · rw [sgR_zero (by grind)]; decide
        have hnew : Hid (bst (i + 1) = bst i) := by
          show _ = _
          rw [hst.out]
          cases bst i <;> simp [hp]
        clear hp
        go_wp2_with (first | (go_at_call 54; refine (signV (C i c) _).mono ?_; rintro e w' ⟨rfl, hb1⟩))
        go_roundw
        case rel => exact ⟨i + 1, by omega, by go_num, by rw [hnew.out], bt hK hb1⟩
        case measure => simp [intOf]; omega
    · obtain rfl : i = m := by omega
      go_wp2
      go_ret
      exact ⟨rfl, hK⟩

end Go.Proofs.Ytnmcgbfhgmmcpaa
