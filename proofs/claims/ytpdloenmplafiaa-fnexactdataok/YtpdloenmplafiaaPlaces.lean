import Derived.Test.YtpdloenmplafiaaSets2
/-
  impl.placesIn: the places of a bag whose variable lies in an edge; a slice that grows.
-/
namespace Go.Proofs.Ytpdloenmplafiaa
open Go.RowKit

theorem Try.infoInt : (Try.prog.info? 3).map (fun i => (i.zero, i.size, i.bytes)) = some (some (.int .i64 0), 1, 8) := by kernel_rfl

/-- of the first k places those at which p holds -/
def plc (p : Nat → Bool) (k : Nat) : List Int := ((List.range k).filter p).map Int.ofNat

theorem plc_hit (p : Nat → Bool) (k : Nat) (h : p k = true) : plc p (k + 1) = plc p k ++ [(k : Int)] := by
  simp [plc, List.range_succ, List.filter_append, h]
theorem plc_miss (p : Nat → Bool) (k : Nat) (h : p k = false) : plc p (k + 1) = plc p k := by
  simp [plc, List.range_succ, List.filter_append, h]
theorem plc_le (p : Nat → Bool) (k : Nat) : (plc p k).length ≤ k := by
  unfold plc
  rw [List.length_map]
  exact Nat.le_trans (List.length_filter_le _ _) (by simp)

theorem own_grow {B n : Nat} {e : TypeId} {w wr w1 : World} {u : Value} {o : Obj} {xs : List Value} (hB : B ≤ wr.heap.size)
    (hown : wr.ownsRow B e 1 u n xs) (hnx : Below B w wr) (hgrow : (wr.alloc o).grownBy w1 u.ownBlock) : Below B w w1 :=
  (hnx.alloc hB o).grown hgrow (by simp; omega) (fun j hj => (hown.lt j hj).1)

set_option maxHeartbeats 2000000 in
set_option maxRecDepth 1000000 in
theorem placesIn_calls (w : World) (vb ve : Value) (bag edge : List Int) (h : IS w vb bag) (he : IS w ve edge) (hl : bag.length ≤ 1099511627776) (hl2 : edge.length ≤ 1099511627776) :
    Calls Try.prog 72 #[vb, ve] w fun e w' => ∃ v, e = .returned v ∧
      w'.ownsRow w.heap.size 3 1 v (plc (fun i => decide (bag.getD i 0 ∈ edge)) bag.length).length ((plc (fun i => decide (bag.getD i 0 ∈ edge)) bag.length).map (Value.int .i64)) ∧ Below w.heap.size w w' := by
  obtain ⟨i0, hi, hz0, hz1, hz2⟩ := info_parts Try.infoInt
  obtain ⟨p, hp⟩ : ∃ p : Nat → Bool, p = fun i => decide (bag.getD i 0 ∈ edge) := ⟨_, rfl⟩
  rw [← hp]
  obtain ⟨a, cap, rfl, hc⟩ := h
  obtain ⟨n, hn⟩ : ∃ n, n = bag.length := ⟨_, rfl⟩
  rw [← hn] at hc hl ⊢
  have HP := hid hp
  have HC := hid hc
  have HN := hid hn
  have HE := hid he
  clear hp hc hn he
  go_enter Try.func72, Try.ntmps72
  go_wp2
  go_loopw [5, 10] (fun v t wr => ∃ k : Nat, k ≤ n ∧ t = .int .i64 k ∧ wr.ownsRow w.heap.size 3 1 v (plc p k).length ((plc p k).map (Value.int .i64)) ∧ Below w.heap.size w wr) (fun _ t _ => n - (intOf t).toNat)
  case atStart => exact ⟨0, Nat.zero_le _, rfl, World.ownsRow_nil _ _ _ _, Below.refl _ _⟩
  case round =>
    obtain ⟨k, hk, rfl, hown, hnx⟩ := hrel
    have hple := plc_le p k
    have hns := hnx.size
    by_cases hkn : k < n
    · have i1 : (k : Int) < (n : Int) := by omega
      rcases HC.out with h0 | ⟨b, o, rfl, hcell⟩
      · omega
      · have c0 := hcell k hkn
        have c1 : wr.cell? ⟨b, o + k, none⟩ = some (.int .i64 (bag.getD k 0)) := (hnx.cell (p := ⟨b, o + k, none⟩) (World.block_lt_of_cell? w _ c0)).trans c0
        have HK := hid (sContains_calls wr ve edge (bag.getD k 0) (HE.out.below hnx) hl2)
        have hpk : p k = decide (bag.getD k 0 ∈ edge) := by rw [HP.out]
        rw [← hpk] at HK
        clear hcell c0 hpk
        generalize bag.getD k 0 = y at *
        by_cases hy : p k = true
        · have e1 := hid (plc_hit p k hy)
          rw [hy] at HK
          go_wp2_with (first
            | (go_at_call 119; refine HK.out.mono ?_; rintro e w' ⟨rfl, hw'⟩; subst w')
            | (at_builtin; refine wpList_append_own _ rfl _ _ 22 rfl w.heap.size 3 i0 (.int .i64 0) 1 8 Try.underlying22 hi hz0 hz1 hz2 rfl (by decide) _ _ _ rfl (hown.alloc _) ⟨wr.heap.size, 0, none⟩ 1 1 [.int .i64 k] rfl rfl ?c1 ?c2 ?c3 ?c4 ?c5 ?_))
          case c1 =>
            intro j u hj
            match j, hj with
            | 0, hj => simp at hj; subst hj; simp [Addr.add]
          case c2 => intro u hu; simp at hu; subst hu; rfl
          case c3 => unfold maxLen; omega
          case c4 => omega
          case c5 => simp; omega
          intro v' w1 hown' hgrow _
          have hb := own_grow hns hown hnx hgrow
          have hown2 : w1.ownsRow w.heap.size 3 1 v' (plc p (k + 1)).length ((plc p (k + 1)).map (Value.int .i64)) := by
            rw [e1.out]; simpa using hown'
          clear hown' hgrow hown
          go_wp2
          go_roundw
          case rel => exact ⟨k + 1, by omega, by go_num, hown2, hb⟩
          case measure => simp [intOf]; omega
        · have hy' : p k = false := by simpa using hy
          have e1 := hid (plc_miss p k hy')
          rw [hy'] at HK
          go_wp2_with (first
            | (go_at_call 119; refine HK.out.mono ?_; rintro e w' ⟨rfl, hw'⟩; subst w'))
          go_roundw
          case rel => exact ⟨k + 1, by omega, by go_num, by rw [e1.out]; exact hown, hnx⟩
          case measure => simp [intOf]; omega
    · obtain rfl : k = n := by omega
      have i1 : ¬ ((k : Int) < (k : Int)) := by omega
      go_wp2
      go_ret
      exact ⟨_, rfl, hown, hnx⟩

end Go.Proofs.Ytpdloenmplafiaa
