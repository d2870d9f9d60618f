import Derived.Test.YtpdloenmplafiaaTerms
/-
  laws.eqTermS.
-/
namespace Go.Proofs.Ytpdloenmplafiaa
open Go.RowKit

theorem four_pairs {w5 W : World} {b o b' o' : Nat} {v0 v1 u0 u1 : Value}
    (h0 : w5.cell? ⟨b, o, none⟩ = some v0) (h1 : w5.cell? ⟨b, o + 1, none⟩ = some v1)
    (k0 : w5.cell? ⟨b', o', none⟩ = some u0) (k1 : w5.cell? ⟨b', o' + 1, none⟩ = some u1) (hb : Below w5.heap.size w5 W) :
    W.cell? ⟨b, o, none⟩ = some v0 ∧ W.cell? ⟨b, o + 1, none⟩ = some v1 ∧ W.cell? ⟨b', o', none⟩ = some u0 ∧ W.cell? ⟨b', o' + 1, none⟩ = some u1 ∧ Below w5.heap.size w5 W :=
  ⟨(hb.cell (p := ⟨b, o, none⟩) (World.block_lt_of_cell? w5 _ h0)).trans h0, (hb.cell (p := ⟨b, o + 1, none⟩) (World.block_lt_of_cell? w5 _ h1)).trans h1,
    (hb.cell (p := ⟨b', o', none⟩) (World.block_lt_of_cell? w5 _ k0)).trans k0, (hb.cell (p := ⟨b', o' + 1, none⟩) (World.block_lt_of_cell? w5 _ k1)).trans k1, hb⟩

set_option maxHeartbeats 4000000 in
set_option maxRecDepth 1000000 in
theorem eqTermS_same (w : World) (v u : Value) (l : List TermV) (h : ITm w v l) (h' : ITm w u l) (hl : l.length ≤ 1099511627776) :
    Calls Try.prog 164 #[v, u] w fun e w' => e = .returned (.bool true) ∧ Below w.heap.size w w' := by
  obtain ⟨a, cap, rfl, hc⟩ := h
  obtain ⟨a', cap', rfl, hc'⟩ := h'
  obtain ⟨n, hn⟩ : ∃ n, n = l.length := ⟨_, rfl⟩
  rw [← hn] at hc hc' hl ⊢
  have HC := hid hc
  have HC' := hid hc'
  clear hc hc' hn
  have hne : ((n : Int) != (n : Int)) = false := by simp
  go_enter Try.func164, Try.ntmps164
  go_wp2
  go_loopw [5] (fun t wr => ∃ j : Nat, j ≤ n ∧ t = .int .i64 j ∧ Hid (Below w.heap.size w wr)) (fun t _ => n - (intOf t).toNat)
  case atStart => exact ⟨0, Nat.zero_le _, rfl, hid (Below.refl _ _)⟩
  case round =>
    obtain ⟨j, hj, rfl, hB⟩ := hrel
    by_cases hjn : j < n
    · have i1 : (j : Int) < (n : Int) := by omega
      rcases HC.out with h0 | ⟨b, o, rfl, hrel⟩
      · omega
      · rcases HC'.out with h0 | ⟨b', o', rfl, hrel'⟩
        · omega
        · obtain ⟨e0, e1⟩ := hrel j hjn
          obtain ⟨f0, f1⟩ := hrel' j hjn
          have c0 := (hB.out.cell (p := ⟨b, o + j * 2, none⟩) (World.block_lt_of_cell? w _ e0)).trans e0
          have c1 := (hB.out.cell (p := ⟨b, o + j * 2 + 1, none⟩) (World.block_lt_of_cell? w _ e1)).trans e1
          have d0 := (hB.out.cell (p := ⟨b', o' + j * 2, none⟩) (World.block_lt_of_cell? w _ f0)).trans f0
          have d1 := (hB.out.cell (p := ⟨b', o' + j * 2 + 1, none⟩) (World.block_lt_of_cell? w _ f1)).trans f1
          clear hrel hrel' e0 e1 f0 f1
          generalize (l.getD j noTm).1 = x at *
          generalize (l.getD j noTm).2 = y at *
          have HBW : Hid (∀ W, (W.cell? ⟨b, o + j * 2, none⟩ = some (.string x) ∧ W.cell? ⟨b, o + j * 2 + 1, none⟩ = some (.int .i64 y) ∧ W.cell? ⟨b', o' + j * 2, none⟩ = some (.string x) ∧ W.cell? ⟨b', o' + j * 2 + 1, none⟩ = some (.int .i64 y) ∧ Below wr.heap.size wr W) → Below wr.heap.size wr W) := hid (fun W h => h.2.2.2.2)
          go_wp2_with fail
          go_region_held3 (fun W => W.cell? ⟨b, o + j * 2, none⟩ = some (.string x) ∧ W.cell? ⟨b, o + j * 2 + 1, none⟩ = some (.int .i64 y) ∧ W.cell? ⟨b', o' + j * 2, none⟩ = some (.string x) ∧ W.cell? ⟨b', o' + j * 2 + 1, none⟩ = some (.int .i64 y) ∧ Below wr.heap.size wr W)
            (first | exact four_pairs c0 c1 d0 d1 (Below.refl _ _).drew | exact four_pairs c0 c1 d0 d1 (bt (Below.refl _ _).drew hb) | (refine four_pairs c0 c1 d0 d1 (bt (HBW.out _ ?_) hb); assumption))
            (first | (go_at_call 179; refine (eqTerm_same _ _ _).mono ?_; rintro e w' ⟨rfl, hb⟩))
          go_wp2
          go_roundw
          case rel => exact ⟨j + 1, by omega, by go_num, hid (bt hB.out (HBW.out _ (by assumption)))⟩
          case measure => simp [intOf]; omega
    · obtain rfl : j = n := by omega
      have i1 : ¬ ((j : Int) < (j : Int)) := by omega
      go_wp2
      go_ret
      exact ⟨rfl, hB.out⟩

end Go.Proofs.Ytpdloenmplafiaa
