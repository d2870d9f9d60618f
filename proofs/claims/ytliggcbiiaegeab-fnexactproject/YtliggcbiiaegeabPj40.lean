import Derived.Laws.CopyOwn
import Derived.Laws.OwnMore
import Derived.Test.YtliggcbiiaegeabPj39
/-
  slices.Repeat of one 1.
-/
namespace Go.Proofs.Ytliggcbiiaegeab
open Go.RowKit

/-- m ones, then noughts -/
def fil (n m : Nat) : List Value := List.replicate m (.int .i64 1) ++ List.replicate (n - m) (.int .i64 0)
theorem fil_len {n m : Nat} (h : m ≤ n) : (fil n m).length = n := by simp [fil]; omega
theorem fil_splice {n m c : Nat} : splice (fil n m) m (List.replicate c (.int .i64 1)) = fil n (m + c) := by
  unfold splice fil
  rw [List.take_left' (by simp), List.length_replicate, List.drop_append, List.length_replicate, show m + c - m = c by omega, List.drop_replicate, show m - (m + c) = 0 by omega, List.replicate_zero, List.nil_append, List.drop_replicate, ← List.append_assoc, List.replicate_append_replicate, show n - m - c = n - (m + c) by omega]
theorem fil_get {m j : Nat} (h : j < m) (v : Value) (hv : (List.replicate m (Value.int .i64 1))[j]? = some v) : v = .int .i64 1 := by
  rw [List.getElem?_replicate] at hv
  rw [if_pos h] at hv
  exact (Option.some.inj hv).symm

theorem fil_first {n : Nat} (hn : 0 < n) : (fil n 0).toArray.setIfInBounds 0 (.int .i64 1) = (fil n 1).toArray := by
  obtain ⟨k, rfl⟩ : ∃ k, n = k + 1 := ⟨n - 1, by omega⟩
  simp [fil, List.replicate_succ]

/-- a block filled so far -/
structure Fil (w W : World) (n m : Nat) : Prop where
  bel : Below w.heap.size w W
  blk : W.heap[w.heap.size]? = some (.cells (fil n m).toArray 3 (0, 0))

set_option maxHeartbeats 400000 in
set_option maxRecDepth 1000000 in
theorem repeat_calls (w : World) (b : Nat) (n : Nat) (hn : n ≤ 100000) (hx : w.cell? ⟨b, 0, none⟩ = some (.int .i64 1)) :
    Calls Try.prog 128 #[.slice (some ⟨b, 0, none⟩) 1 1, .int .i64 n] w fun e w' => ∃ v, e = .returned v ∧ w'.ownsRow w.heap.size 3 1 v n (List.replicate n (.int .i64 1)) ∧ Below w.heap.size w w' := by
  obtain ⟨i0, hi, hz0, hz1, hz2⟩ := info_parts Try.infoInt
  have KM := hid (mul_one w n hn)
  have g1 : ¬ ((n : Int) < 0) := by omega
  have w1 : IntKind.u64.wrap (n : Int) = n := by simp [IntKind.wrap, IntKind.bits, IntKind.signed]; omega
  have w2 : IntKind.i64.wrap (n : Int) = n := by simp [IntKind.wrap, IntKind.bits, IntKind.signed]; omega
  have g2 : ¬ ((9223372036854775807 : Int) < (n : Int)) := by omega
  have HX := hid hx
  have hbl : b < w.heap.size := World.block_lt_of_cell? w _ hx
  clear hx
  go_enter Try.func128, Try.ntmps128
  go_wp2_with fail
  refine KM.out.mono ?_
  rintro e w' ⟨rfl, hw'⟩
  subst w'
  go_wp2_with (at_make; refine wpList_make_full _ rfl _ _ 32 rfl w.heap.size 3 i0 (.int .i64 0) 1 Try.underlying32 hi hz0 hz1 _ _ _ _ n rfl rfl rfl rfl ?b2 ?b3 (Nat.le_refl _) ?_)
  case b2 => rw [hz2]; omega
  case b3 => unfold maxLen; omega
  intro w0 hown0 hgrow0
  have HF0 : Hid (Fil w w0 n 0) := hid ⟨(Below.refl _ _).grown hgrow0 (Nat.le_refl _) (fun j hj => by cases hj), by
    rcases hown0.2 with ⟨e, -⟩ | ⟨g', cap', cur, e, -, hc, -, -, hs, ht⟩
    · cases e
    · simp only [Value.slice.injEq, Option.some.injEq, Addr.mk.injEq, true_and, and_true] at e
      obtain ⟨rfl, rfl⟩ := e
      rw [hc]
      have : cur.toList = fil n 0 := by
        rw [← List.take_of_length_le (l := cur.toList) (i := n * 1) (by simp; omega), ht]
        rw [toList_madeCells_one]
        simp [fil]
      rw [← this]⟩
  have hsz : (Try.prog.info? 3).map (·.size) = some 1 := by rw [hi]; simp [hz1]
  clear hown0 hgrow0 KM
  have HFs : Hid (∀ W m c, m + c ≤ n → Fil w W n m → W.heap[w.heap.size]? = some (.cells (fil n m).toArray 3 (0, 0))) := hid fun W m c _ h => h.blk
  by_cases hn0 : n = 0
  · subst hn0
    have hcp : ∀ ty, (Builtin.copy_ #[32, 32] ty #[.slice (some ⟨w.heap.size, 0, none⟩) 0 0, .slice (some ⟨b, 0, none⟩) 1 1]).run Try.prog w0 = .ok (goInt 0) w0 := fun ty => run_copy_none w0 32 32 ty 3 _ _ 0 0 1 1 Try.underlying32 hsz rfl
    have hg0 : goInt 0 = .int .i64 0 := rfl
    go_wp2_with fail
    refine wp_loop_rounds 1 ?_
    rw [rounds_succ]
    go_wp2_with fail
    go_ret
    refine ⟨_, rfl, ⟨by simp, Or.inr ⟨w.heap.size, 0, _, rfl, Nat.le_refl _, HF0.out.blk, Nat.le_refl _, Nat.zero_le _, by simp [fil], by simp [fil]⟩⟩, HF0.out.bel⟩
  · have hcp : ∀ ty, (Builtin.copy_ #[32, 32] ty #[.slice (some ⟨w.heap.size, 0, none⟩) n n, .slice (some ⟨b, 0, none⟩) 1 1]).run Try.prog w0 = .ok (goInt 1) (w0.setCell ⟨w.heap.size, 0, none⟩ (.int .i64 1)) := fun ty =>
      run_copy_cells w0 32 32 ty 3 w.heap.size 0 n n ⟨b, 0, none⟩ 1 1 [.int .i64 1] Try.underlying32 hsz (by show 1 = Nat.min 1 n; exact (Nat.min_eq_left (by omega)).symm) (fun j v hv => by
        match j, hv with
        | 0, hv =>
          simp at hv
          subst hv
          rw [show ((⟨b, 0, none⟩ : Addr).add 0) = ⟨b, 0, none⟩ by rfl]
          exact (HF0.out.bel.cell (p := ⟨b, 0, none⟩) hbl).trans HX.out) (fun j hj => by
        simp at hj
        subst hj
        rw [cell_of_row _ _ _ _ _ _ HF0.out.blk]
        simp [fil]
        omega) (fun j _ => by unfold World.frozen?; rw [HF0.out.blk]; simp) (fun v hv => by simp at hv; subst hv; rfl)
    have hg1 : goInt 1 = .int .i64 1 := rfl
    have HF1 : Hid (Fil w (w0.setCell ⟨w.heap.size, 0, none⟩ (.int .i64 1)) n 1) := hid ⟨HF0.out.bel.setCell (Nat.le_refl _) _, by
      rw [heap_setCell_same _ _ _ _ _ _ HF0.out.blk, ← fil_first (by omega)]⟩
    clear HF0
    generalize w0.setCell ⟨w.heap.size, 0, none⟩ (.int .i64 1) = W1 at *
    go_wp2_with fail
    clear hcp
    go_loopw [8] (fun t wr => ∃ m : Nat, 1 ≤ m ∧ m ≤ n ∧ t = .int .i64 m ∧ Hid (Fil w wr n m)) (fun t _ => n - (intOf t).toNat)
    case atStart => exact ⟨1, Nat.le_refl _, by omega, by go_num, HF1⟩
    case round =>
      clear HF1
      obtain ⟨m, hm1, hmn, rfl, HF⟩ := hrel
      by_cases hlt : m < n
      · have i1 : (m : Int) < (n : Int) := by omega
        have q1 : ¬ n = m := by omega
        have q2 : m ≤ n := by omega
        have q3 : (m : Int) ≤ (n : Int) := by omega
        obtain ⟨c, hc⟩ : ∃ c, c = Nat.min m (n - m) := ⟨_, rfl⟩
        have hc1 : 1 ≤ c ∧ m + c ≤ n := by
          rw [hc]
          have h1 : Nat.min m (n - m) ≤ n - m := Nat.min_le_right _ _
          have h2 : 1 ≤ Nat.min m (n - m) := Nat.le_min.2 ⟨hm1, by omega⟩
          omega
        have HCN : Hid (∀ W : World, W.heap[w.heap.size]? = some (Obj.cells (fil n m).toArray 3 (0, 0)) → ∀ j v, (List.replicate c (Value.int .i64 1))[j]? = some v → W.cell? ((⟨w.heap.size, 0, none⟩ : Addr).add j) = some v) := hid fun W hW j v hv => by
          have hj : j < c := by
            rcases Nat.lt_or_ge j c with h | h
            · exact h
            · rw [List.getElem?_eq_none (by simpa using h)] at hv; cases hv
          rw [fil_get hj v hv, show ((⟨w.heap.size, 0, none⟩ : Addr).add j) = ⟨w.heap.size, j, none⟩ by unfold Addr.add; split <;> simp_all, cell_of_row _ _ _ _ _ _ hW]
          have hcm : c ≤ m := by rw [hc]; exact Nat.min_le_left _ _
          show (fil n m).toArray[j]? = _
          rw [List.getElem?_toArray]
          unfold fil
          rw [List.getElem?_append_left (by rw [List.length_replicate]; omega), List.getElem?_replicate, if_pos (by omega)]
        have hcp2 : ∀ ty, (Builtin.copy_ #[32, 32] ty #[.slice (some ⟨w.heap.size, m, none⟩) (n - m) (n - m), .slice (some ⟨w.heap.size, 0, none⟩) m n]).run Try.prog wr.drew = .ok (goInt c) (wr.drew.setRow w.heap.size (fil n (m + c)).toArray) := fun ty => by
          have h := run_copy_row (P := Try.prog) wr.drew 32 32 ty 3 w.heap.size m (n - m) (n - m) ⟨w.heap.size, 0, none⟩ m n (fil n m).toArray 3 (List.replicate c (.int .i64 1)) Try.underlying32 hsz HF.out.blk (by rw [List.length_replicate]; exact hc) (HCN.out wr.drew HF.out.blk) (by rw [List.size_toArray, fil_len hmn, List.length_replicate]; exact hc1.2) (fun v hv => by rw [List.eq_of_mem_replicate hv]; rfl)
          rw [List.length_replicate] at h
          have e := fil_splice (n := n) (m := m) (c := c)
          unfold splice at e
          rw [List.length_replicate] at e
          rw [List.append_assoc, e] at h
          exact h
        have hgc : goInt c = .int .i64 c := rfl
        have HN : Hid (Fil w (wr.drew.setRow w.heap.size (fil n (m + c)).toArray) n (m + c)) := hid ⟨below_setRow HF.out.bel.drew (Nat.le_refl _) _, setRow_heap wr.drew _ _ _ _ _ HF.out.blk⟩
        clear HF HCN hc
        go_upto_region 9 with fail
        go_region
        go_wp2_with fail
        go_roundw
        case rel => exact ⟨m + c, by omega, by omega, by go_num, HN⟩
        case measure => simp [intOf]; omega
      · obtain rfl : m = n := by omega
        have i1 : ¬ ((m : Int) < (m : Int)) := by omega
        go_wp2_with fail
        go_ret
        refine ⟨_, rfl, ⟨by simp, Or.inr ⟨w.heap.size, m, _, rfl, Nat.le_refl _, HF.out.blk, Nat.le_refl _, by unfold maxLen; omega, by simp [fil], by simp [fil]⟩⟩, HF.out.bel⟩

end Go.Proofs.Ytliggcbiiaegeab

/-
  slices.Clone of ints.
-/
namespace Go.Proofs.Ytliggcbiiaegeab
open Go.RowKit

set_option maxHeartbeats 1000000 in
set_option maxRecDepth 1000000 in
theorem cloneI_calls (w : World) (v : Value) (l : List Int) (h : IS w v l) (hl : l.length ≤ 100000) :
    Calls Try.prog 98 #[v] w fun e w' => ∃ v', e = .returned v' ∧ w'.ownsRow w.heap.size 3 1 v' l.length (l.map (Value.int .i64)) ∧ Below w.heap.size w w' := by
  obtain ⟨i0, hi, hz0, hz1, hz2⟩ := info_parts Try.infoInt
  obtain ⟨a, cap, rfl, hc⟩ := h
  cases a with
  | none =>
    have h0 : l.length = 0 := by
      rcases hc with h0 | ⟨b, o, e, -⟩
      · exact h0
      · cases e
    have e0 : l = [] := List.eq_nil_of_length_eq_zero h0
    subst e0
    have hq : ∀ w : World, (binOp .eql 32 (.slice none 0 cap) (.slice none 0 0)).run Try.prog w = .ok (.bool true) w := fun w => Lib.run_eql_slice_nil w 32 3 none 0 cap 0 0 Try.underlying32
    go_enter Try.func98, Try.ntmps98
    go_wp2
    go_ret
    exact ⟨_, rfl, World.ownsRow_nil _ _ _ _, Below.refl _ _⟩
  | some ad =>
    have hq : ∀ w : World, (binOp .eql 32 (.slice (some ad) l.length cap) (.slice none 0 0)).run Try.prog w = .ok (.bool false) w := fun w => Lib.run_eql_slice_nil w 32 3 (some ad) l.length cap 0 0 Try.underlying32
    have hown : (w.alloc (.cells #[] 3)).ownsRow w.heap.size 3 1 (.slice (some ⟨w.heap.size, 0, none⟩) 0 0) 0 [] := World.ownsRow_made w #[] 0 (Nat.le_refl _) (by decide) rfl
    have hbA : Below w.heap.size w (w.alloc (.cells #[] 3)) := (Below.refl _ _).alloc (Nat.le_refl _) _
    by_cases h0 : l.length = 0
    · have e0 : l = [] := List.eq_nil_of_length_eq_zero h0
      subst e0
      have hq0 : ∀ w : World, (binOp .eql 32 (.slice (some ad) 0 cap) (.slice none 0 0)).run Try.prog w = .ok (.bool false) w := hq
      clear hq hc h0
      go_enter Try.func98, Try.ntmps98
      go_wp2_with (first | (at_builtin; refine wpList_append_own _ rfl _ _ 32 rfl w.heap.size 3 i0 (.int .i64 0) 1 8 Try.underlying32 hi hz0 hz1 hz2 rfl (by decide) (.slice (some ⟨w.heap.size, 0, none⟩) 0 0) 0 [] rfl hown ad 0 cap [] rfl rfl (fun j u hu => by simp at hu) (fun u hu => by cases hu) (by unfold maxLen; omega) (by omega) (by simp) ?_; intro v3 w3 hown3 hgrow3 _) | fail)
      go_ret
      exact ⟨_, rfl, hown3, hbA.grown hgrow3 (by simp) (fun k hk => (hown.lt k hk).1)⟩
    · obtain ⟨b, o, e, hc'⟩ : ∃ b o, some ad = some (⟨b, o, none⟩ : Addr) ∧ ∀ j, j < l.length → w.cell? ⟨b, o + j, none⟩ = some (.int .i64 (l.getD j 0)) := by
        rcases hc with h1 | h1
        · omega
        · exact h1
      obtain rfl := Option.some.inj e
      clear hc e
      have hnews : ∀ j u, (l.map (Value.int .i64))[j]? = some u → (w.alloc (.cells #[] 3)).cell? ((⟨b, o, none⟩ : Addr).add j) = some u := fun j u hu => by
        have hj : j < l.length := by
          rcases Nat.lt_or_ge j l.length with h | h
          · exact h
          · rw [List.getElem?_eq_none (by simpa using h)] at hu; cases hu
        rw [show ((⟨b, o, none⟩ : Addr).add j) = ⟨b, o + j, none⟩ by unfold Addr.add; split <;> simp_all, hbA.cell (p := ⟨b, o + j, none⟩) (World.block_lt_of_cell? w _ (hc' j hj)), hc' j hj, ← hu, List.getElem?_map, List.getD_eq_getElem?_getD, List.getElem?_eq_getElem hj]
        rfl
      have HNW := hid hnews
      clear hnews hc'
      obtain ⟨n, hn⟩ : ∃ n, n = l.length := ⟨_, rfl⟩
      have HN := hid hn
      rw [← hn] at hq hl h0 ⊢
      clear hn
      go_enter Try.func98, Try.ntmps98
      go_wp2_with (first | (at_builtin; refine wpList_append_lies _ rfl _ _ 32 rfl w.heap.size 3 i0 (.int .i64 0) 1 8 Try.underlying32 hi hz0 hz1 hz2 rfl (by decide) (.slice (some ⟨w.heap.size, 0, none⟩) 0 0) 0 [] rfl hown ⟨b, o, none⟩ n cap (l.map (Value.int .i64)) rfl (by rw [List.length_map, HN.out]; omega) HNW.out (fun u hu => by obtain ⟨x, _, rfl⟩ := List.mem_map.1 hu; rfl) (by omega) (by unfold maxLen; omega) (by omega) (by simp) _ rfl ?_; intro g3 cp3 w3 hown3 hgrow3 hat3 hlt3) | fail)
      go_ret
      refine ⟨_, rfl, ?_, hbA.grown hgrow3 (by simp) (fun k hk => (hown.lt k hk).1)⟩
      simpa using hown3

end Go.Proofs.Ytliggcbiiaegeab
