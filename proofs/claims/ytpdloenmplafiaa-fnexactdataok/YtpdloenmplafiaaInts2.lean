import Derived.Test.YtpdloenmplafiaaInts
namespace Go.Proofs.Ytpdloenmplafiaa
open Go.RowKit

/-- only block g is another -/
structure Og (g : Nat) (w w' : World) : Prop where
  os : w'.os = w.os
  tape : w'.tape = w.tape
  output : w'.output = w.output
  size : w'.heap.size = w.heap.size
  block : ∀ b, b ≠ g → w'.heap[b]? = w.heap[b]?

theorem Og.refl (g : Nat) (w : World) : Og g w w := ⟨rfl, rfl, rfl, rfl, fun _ _ => rfl⟩
theorem Og.set {g : Nat} {w w' : World} (h : Og g w w') (o : Nat) (v : Value) : Og g w (w'.setCell ⟨g, o, none⟩ v) :=
  ⟨h.os, h.tape, h.output, by simpa [World.setCell] using h.size, fun b hne => (Below.heap_setCell _ _ _ _ hne).trans (h.block b hne)⟩
theorem Og.below {g N : Nat} {w w' : World} (h : Og g w w') (hg : N ≤ g) : Below N w w' :=
  ⟨h.os, h.tape, h.output, Nat.le_of_eq h.size.symm, fun b hb => h.block b (by omega)⟩

set_option maxHeartbeats 1000000 in
theorem markIntS_calls (w : World) (g : Nat) (l : List Int) (k : Int) (h : OwnI w g l) (hl : l.length ≤ 1099511627776) (hk : 0 ≤ k) (hk' : k ≤ 1099511627776) :
    Calls Try.prog 16 #[.slice (some ⟨g, 0, none⟩) l.length l.length, .int .i64 k] w fun e w' => e = .returned (.int .i64 (k + l.length)) ∧ OwnI w' g (upFrom k l.length) ∧ Og g w w' := by
  obtain ⟨n, hn⟩ : ∃ n, n = l.length := ⟨_, rfl⟩
  have HO : Hid ((∀ j, j < n → w.cell? ⟨g, j, none⟩ = some (.int .i64 (l.getD j 0))) ∧ ∀ j, j < n → w.frozen? ⟨g, j, none⟩ = false) := by rw [hn]; exact ⟨h.cell, h.free⟩
  have hglt := h.lt
  rw [← hn] at hl ⊢
  clear h hn
  go_enter Try.func16, Try.ntmps16
  go_wp2
  go_loopw [1, 5] (fun u t wr => ∃ j : Nat, j ≤ n ∧ t = .int .i64 j ∧ u = .int .i64 (k + j) ∧ Og g w wr ∧ Hid ((∀ i, i < n → wr.cell? ⟨g, i, none⟩ = some (.int .i64 (if i < j then k + (i : Nat) else l.getD i 0))) ∧ ∀ i, i < n → wr.frozen? ⟨g, i, none⟩ = false)) (fun _ t _ => n - (intOf t).toNat)
  case atStart => exact ⟨0, Nat.zero_le _, rfl, by simp, Og.refl _ _, hid ⟨fun i hi => by rw [if_neg (by omega)]; exact HO.out.1 i hi, HO.out.2⟩⟩
  case round =>
    obtain ⟨j, hj, rfl, rfl, hB, hH⟩ := hrel
    by_cases hjn : j < n
    · have i1 : (j : Int) < (n : Int) := by omega
      have c2 : wr.cell? ⟨g, j, none⟩ = some (.int .i64 (if j < j then k + (j : Nat) else l.getD j 0)) := hH.out.1 j hjn
      have c3 : wr.frozen? ⟨g, j, none⟩ = false := hH.out.2 j hjn
      go_wp2
      go_roundw
      case rel =>
        refine ⟨j + 1, by omega, by go_num, by go_num, hB.set _ _, hid ⟨fun i hi => ?_, fun i hi => by rw [World.frozen?_setCell]; exact hH.out.2 i hi⟩⟩
        by_cases e : i = j
        · subst e
          rw [if_pos (by omega)]
          exact World.cell?_setCell_same _ _ _ c2
        · rw [World.cell?_setCell_other _ _ _ _ (by intro e2; simp only [Addr.mk.injEq] at e2; omega), hH.out.1 i hi]
          by_cases e2 : i < j
          · rw [if_pos e2, if_pos (by omega)]
          · rw [if_neg e2, if_neg (by omega)]
      case measure => simp [intOf]; omega
    · obtain rfl : j = n := by omega
      have i1 : ¬ ((j : Int) < (j : Int)) := by omega
      go_wp2
      go_ret
      refine ⟨rfl, ⟨fun i hi => ?_, fun i hi => hH.out.2 i (by rwa [upFrom_length] at hi), by rw [hB.size]; exact hglt⟩, hB⟩
      rw [upFrom_length] at hi
      rw [hH.out.1 i hi, if_pos hi, upFrom_get hi]

set_option maxHeartbeats 1000000 in
theorem heldIntS_calls (w : World) (g : Nat) (n : Nat) (k : Int) (h : OwnI w g (upFrom k n)) (hl : n ≤ 1099511627776) (hk : 0 ≤ k) (hk' : k ≤ 1099511627776) :
    Calls Try.prog 75 #[.slice (some ⟨g, 0, none⟩) n n, .int .i64 k] w fun e w' => e = .returned (.int .i64 (k + n)) ∧ w' = w := by
  have HO : Hid (∀ j, j < n → w.cell? ⟨g, j, none⟩ = some (.int .i64 (k + (j : Nat)))) := fun j hj => by
    have := h.cell j (by rw [upFrom_length]; exact hj)
    rwa [upFrom_get hj] at this
  clear h
  go_enter Try.func75, Try.ntmps75
  go_wp2
  go_loop [1, 5] (fun u t => ∃ j : Nat, j ≤ n ∧ t = .int .i64 j ∧ u = .int .i64 (k + j)) (fun _ t => n - (intOf t).toNat)
  case atStart => exact ⟨0, Nat.zero_le _, rfl, by simp⟩
  case round =>
    obtain ⟨j, hj, rfl, rfl⟩ := hrel
    by_cases hjn : j < n
    · have i1 : (j : Int) < (n : Int) := by omega
      have c2 : w.cell? ⟨g, j, none⟩ = some (.int .i64 (k + (j : Nat))) := HO.out j hjn
      have hne : ((k + (j : Int)) != (k + (j : Int))) = false := by simp
      go_wp2
      go_round
      case rel => exact ⟨j + 1, by omega, by go_num, by go_num⟩
      case measure => simp [intOf]; omega
    · obtain rfl : j = n := by omega
      have i1 : ¬ ((j : Int) < (j : Int)) := by omega
      go_wp2
      go_ret
      exact ⟨rfl, rfl⟩

end Go.Proofs.Ytpdloenmplafiaa
