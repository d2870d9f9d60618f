import Derived.Test.YtpdloenmplafiaaZeros
/-
  impl.ratsOf: fractions as Rats.
-/
namespace Go.Proofs.Ytpdloenmplafiaa
open Go.RowKit

/-- pairs of numbers in memory -/
def IR (w : World) (v : Value) (l : List (Int × Int)) : Prop := ∃ a cap, v = .slice a l.length cap ∧ (l.length = 0 ∨ ∃ b o, a = some ⟨b, o, none⟩ ∧ ∀ j, j < l.length →
  w.cell? ⟨b, o + j * 2, none⟩ = some (.int .i64 (l.getD j (0, 0)).1) ∧ w.cell? ⟨b, o + j * 2 + 1, none⟩ = some (.int .i64 (l.getD j (0, 0)).2))

def rcs (l : List (Int × Int)) : List Value := l.flatMap fun p => [.int .i64 p.1, .int .i64 p.2]
theorem rcs_succ (l : List (Int × Int)) (k : Nat) (h : k < l.length) : rcs (l.take (k + 1)) = rcs (l.take k) ++ [.int .i64 (l.getD k (0, 0)).1, .int .i64 (l.getD k (0, 0)).2] := by
  unfold rcs
  rw [List.take_add_one, List.getElem?_eq_getElem h, List.getD_eq_getElem?_getD, List.getElem?_eq_getElem h]
  simp only [Option.toList_some, List.flatMap_append, List.flatMap_cons, List.flatMap_nil, List.append_nil, Option.getD_some]

theorem own_below {B n s : Nat} {e : TypeId} {w w' : World} {v : Value} {xs : List Value} (h : w.ownsRow B e s v n xs) (hb : Below w.heap.size w w') : w'.ownsRow B e s v n xs := by
  obtain ⟨h1, h2⟩ := h
  refine ⟨h1, ?_⟩
  rcases h2 with h2 | ⟨g, cap, cur, hv, hg, hc, hr⟩
  · exact Or.inl h2
  · refine Or.inr ⟨g, cap, cur, hv, hg, ?_, hr⟩
    rw [hb.block g (by
      rcases Nat.lt_or_ge g w.heap.size with h3 | h3
      · exact h3
      · rw [Array.getElem?_eq_none h3] at hc; cases hc)]
    exact hc

set_option maxHeartbeats 2000000 in
set_option maxRecDepth 1000000 in
theorem ratsOf_calls (w : World) (v : Value) (l : List (Int × Int)) (h : IR w v l) (hl : l.length ≤ 1000)
    (hp : ∀ j, j < l.length → (-1000000 ≤ (l.getD j (0, 0)).1 ∧ (l.getD j (0, 0)).1 ≤ 1000000) ∧ (-1000000 ≤ (l.getD j (0, 0)).2 ∧ (l.getD j (0, 0)).2 ≤ 1000000)) :
    Calls Try.prog 52 #[v] w fun e w' => ∃ v, e = .returned v ∧ w'.ownsRow w.heap.size 26 2 v l.length (rcs l) ∧ Below w.heap.size w w' := by
  obtain ⟨i0, hi, hz0, hz1, hz2⟩ := info_parts Try.infoRatS
  obtain ⟨a, cap, rfl, hc⟩ := h
  obtain ⟨n, hn⟩ : ∃ n, n = l.length := ⟨_, rfl⟩
  obtain ⟨out, hout⟩ : ∃ o, o = rcs l := ⟨_, rfl⟩
  rw [← hout]
  rw [← hn] at hc hl hp ⊢
  have HC := hid hc
  have HP := hid hp
  have HN := hid hn
  have HO := hid hout
  clear hc hp hn hout
  go_enter Try.func52, Try.ntmps52
  go_wp2_with (at_make; refine wpList_make_own _ rfl _ _ 27 rfl w.heap.size 26 i0 (.agg #[.int .i64 0, .int .i64 0]) 2 Try.underlying27 hi hz0 hz1 _ _ _ n rfl rfl rfl ?b2 ?b3 (Nat.le_refl _) ?_)
  case b2 => rw [hz2]; omega
  case b3 => unfold maxLen; omega
  intro w0 hown0 hgrow0
  have hb0 : Below w.heap.size w w0 := (Below.refl _ _).grown hgrow0 (Nat.le_refl _) (fun j hj => by cases hj)
  clear hgrow0
  go_wp2
  go_loopw [3, 11] (fun v t wr => ∃ k : Nat, k ≤ n ∧ t = .int .i64 k ∧ wr.ownsRow w.heap.size 26 2 v k (rcs (l.take k)) ∧ Below w.heap.size w wr) (fun _ t _ => n - (intOf t).toNat)
  case atStart => exact ⟨0, Nat.zero_le _, rfl, hown0, hb0⟩
  case round =>
    obtain ⟨k, hk, rfl, hown, hnx⟩ := hrel
    have hns := hnx.size
    by_cases hkn : k < n
    · have i1 : (k : Int) < (n : Int) := by omega
      rcases HC.out with h0 | ⟨b, o, rfl, hcell⟩
      · omega
      · obtain ⟨d1, d2⟩ := hcell k hkn
        have c1 := (hnx.cell (p := ⟨b, o + k * 2, none⟩) (World.block_lt_of_cell? w _ d1)).trans d1
        have c2 := (hnx.cell (p := ⟨b, o + k * 2 + 1, none⟩) (World.block_lt_of_cell? w _ d2)).trans d2
        obtain ⟨⟨p1, p2⟩, p3, p4⟩ := HP.out k hkn
        have HS := hid (rcs_succ l k (by rw [← HN.out]; exact hkn))
        clear hcell d1 d2 hown0 hb0
        generalize (l.getD k (0, 0)).1 = x at *
        generalize (l.getD k (0, 0)).2 = y at *
        go_wp2_with fail
        have hbA : Below w.heap.size w (wr.alloc (.cells #[.int .i64 x, .int .i64 y] 88)) := hnx.alloc hns _
        have hownA := hown.alloc (.cells #[.int .i64 x, .int .i64 y] 88)
        clear hown c1 c2 hnx
        generalize wr.alloc (.cells #[.int .i64 x, .int .i64 y] 88) = wa at *
        refine (ratOf_yes x y wa p1 p2 p3 p4).mono ?_
        rintro e w2 ⟨rfl, hb2⟩
        have hownB := own_below hownA hb2
        have hbB : Below w.heap.size w w2 := bt hbA hb2
        have hsB := hbB.size
        clear hownA hb2 hbA
        go_wp2_with (first
          | (at_builtin; refine wpList_append_own _ rfl _ _ 27 rfl w.heap.size 26 i0 (.agg #[.int .i64 0, .int .i64 0]) 2 16 Try.underlying27 hi hz0 hz1 hz2 rfl (by decide) _ _ _ rfl (hownB.alloc _) ⟨w2.heap.size, 0, none⟩ 1 1 [.int .i64 x, .int .i64 y] rfl rfl ?c1 ?c2 ?c3 ?c4 ?c5 ?_))
        case c1 =>
          intro j u hj
          match j, hj with
          | 0, hj => simp at hj; subst hj; simp [Addr.add]
          | 1, hj => simp at hj; subst hj; simp [Addr.add]
        case c2 => intro u hu; simp at hu; rcases hu with rfl | rfl <;> rfl
        case c3 => unfold maxLen; omega
        case c4 => omega
        case c5 => simp; omega
        intro v' w1 hown' hgrow _
        have hb := own_grow2 hsB hownB hbB hgrow
        have hown2 : w1.ownsRow w.heap.size 26 2 v' (k + 1) (rcs (l.take (k + 1))) := by
          rw [HS.out]; exact hown'
        clear hown' hgrow hownB
        go_wp2
        go_roundw
        case rel => exact ⟨k + 1, by omega, by go_num, hown2, hb⟩
        case measure => simp [intOf]; omega
    · obtain rfl : k = n := by omega
      have i1 : ¬ ((k : Int) < (k : Int)) := by omega
      rw [HN.out, List.take_length, ← HN.out, ← HO.out] at hown
      go_wp2
      go_ret
      exact ⟨_, rfl, hown, hnx⟩

end Go.Proofs.Ytpdloenmplafiaa
