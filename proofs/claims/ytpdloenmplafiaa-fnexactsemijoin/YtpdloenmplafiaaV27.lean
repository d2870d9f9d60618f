import Derived.Laws.CopyOwn
import Derived.Laws.OwnMore
import Derived.Test.YtpdloenmplafiaaV18
import Derived.Test.YtpdloenmplafiaaV26
/-
  slices.Repeat of one 1.
-/
namespace Go.Proofs.Ytpdloenmplafiaa
open Go.RowKit

/-- m ones, then noughts -/
def fil (n m : Nat) : List Value := List.replicate m (.int .i64 1) ++ List.replicate (n - m) (.int .i64 0)
theorem fil_len {n m : Nat} (h : m ≤ n) : (fil n m).length = n := by simp [fil]; omega
theorem fil_splice {n m c : Nat} : splice (fil n m) m (List.replicate c (.int .i64 1)) = fil n (m + c) := by
  unfold splice fil
  rw [List.take_left' (by simp), List.length_replicate, List.drop_append, List.length_replicate, show m + c - m = c by omega, List.drop_replicate, show m - (m + c) = 0 by omega, List.replicate_zero, List.nil_append, List.drop_replicate, ← List.append_assoc, List.replicate_append_replicate, show n - m - c = n - (m + c) by omega]
theorem fil_get {m j : Nat} (h : j < m) (v : Value) (hv : (List.replicate m (Value.int .i64 1))[j]? = some v) : v = .int .i64 1 := by
  rw [List.getElem?_replicate] at hv
  rw [if_pos h] at hv
  exact (Option.some.inj hv).symm

theorem fil_first {n : Nat} (hn : 0 < n) : (fil n 0).toArray.setIfInBounds 0 (.int .i64 1) = (fil n 1).toArray := by
  obtain ⟨k, rfl⟩ : ∃ k, n = k + 1 := ⟨n - 1, by omega⟩
  simp [fil, List.replicate_succ]

/-- a block filled so far -/
structure Fil (w W : World) (n m : Nat) : Prop where
  bel : Below w.heap.size w W
  blk : W.heap[w.heap.size]? = some (.cells (fil n m).toArray 3 (0, 0))

set_option maxHeartbeats 400000 in
set_option maxRecDepth 1000000 in
theorem repeat_calls (w : World) (b : Nat) (n : Nat) (hn : n ≤ 100000) (hx : w.cell? ⟨b, 0, none⟩ = some (.int .i64 1)) :
    Calls Try.prog 120 #[.slice (some ⟨b, 0, none⟩) 1 1, .int .i64 n] w fun e w' => ∃ v, e = .returned v ∧ w'.ownsRow w.heap.size 3 1 v n (List.replicate n (.int .i64 1)) ∧ Below w.heap.size w w' := by
  obtain ⟨i0, hi, hz0, hz1, hz2⟩ := info_parts Try.infoInt
  have KM := hid (mul_one w n hn)
  have g1 : ¬ ((n : Int) < 0) := by omega
  have w1 : IntKind.u64.wrap (n : Int) = n := by simp [IntKind.wrap, IntKind.bits, IntKind.signed]; omega
  have w2 : IntKind.i64.wrap (n : Int) = n := by simp [IntKind.wrap, IntKind.bits, IntKind.signed]; omega
  have g2 : ¬ ((9223372036854775807 : Int) < (n : Int)) := by omega
  have HX := hid hx
  have hbl : b < w.heap.size := World.block_lt_of_cell? w _ hx
  clear hx
  go_enter Try.func120, Try.ntmps120
  go_wp2_with fail
  refine KM.out.mono ?_
  rintro e w' ⟨rfl, hw'⟩
  subst w'
  go_wp2_with (at_make; refine wpList_make_full _ rfl _ _ 22 rfl w.heap.size 3 i0 (.int .i64 0) 1 Try.underlying22 hi hz0 hz1 _ _ _ _ n rfl rfl rfl rfl ?b2 ?b3 (Nat.le_refl _) ?_)
  case b2 => rw [hz2]; omega
  case b3 => unfold maxLen; omega
  intro w0 hown0 hgrow0
  have HF0 : Hid (Fil w w0 n 0) := hid ⟨(Below.refl _ _).grown hgrow0 (Nat.le_refl _) (fun j hj => by cases hj), by
    rcases hown0.2 with ⟨e, -⟩ | ⟨g', cap', cur, e, -, hc, -, -, hs, ht⟩
    · cases e
    · simp only [Value.slice.injEq, Option.some.injEq, Addr.mk.injEq, true_and, and_true] at e
      obtain ⟨rfl, rfl⟩ := e
      rw [hc]
      have : cur.toList = fil n 0 := by
        rw [← List.take_of_length_le (l := cur.toList) (i := n * 1) (by simp; omega), ht]
        rw [toList_madeCells_one]
        simp [fil]
      rw [← this]⟩
  have hsz : (Try.prog.info? 3).map (·.size) = some 1 := by rw [hi]; simp [hz1]
  clear hown0 hgrow0 KM
  have HFs : Hid (∀ W m c, m + c ≤ n → Fil w W n m → W.heap[w.heap.size]? = some (.cells (fil n m).toArray 3 (0, 0))) := hid fun W m c _ h => h.blk
  by_cases hn0 : n = 0
  · subst hn0
    have hcp : ∀ ty, (Builtin.copy_ #[22, 22] ty #[.slice (some ⟨w.heap.size, 0, none⟩) 0 0, .slice (some ⟨b, 0, none⟩) 1 1]).run Try.prog w0 = .ok (goInt 0) w0 := fun ty => run_copy_none w0 22 22 ty 3 _ _ 0 0 1 1 Try.underlying22 hsz rfl
    have hg0 : goInt 0 = .int .i64 0 := rfl
    go_wp2_with fail
    refine wp_loop_rounds 1 ?_
    rw [rounds_succ]
    go_wp2_with fail
    go_ret
    refine ⟨_, rfl, ⟨by simp, Or.inr ⟨w.heap.size, 0, _, rfl, Nat.le_refl _, HF0.out.blk, Nat.le_refl _, Nat.zero_le _, by simp [fil], by simp [fil]⟩⟩, HF0.out.bel⟩
  · have hcp : ∀ ty, (Builtin.copy_ #[22, 22] ty #[.slice (some ⟨w.heap.size, 0, none⟩) n n, .slice (some ⟨b, 0, none⟩) 1 1]).run Try.prog w0 = .ok (goInt 1) (w0.setCell ⟨w.heap.size, 0, none⟩ (.int .i64 1)) := fun ty =>
      run_copy_cells w0 22 22 ty 3 w.heap.size 0 n n ⟨b, 0, none⟩ 1 1 [.int .i64 1] Try.underlying22 hsz (by show 1 = Nat.min 1 n; exact (Nat.min_eq_left (by omega)).symm) (fun j v hv => by
        match j, hv with
        | 0, hv =>
          simp at hv
          subst hv
          rw [show ((⟨b, 0, none⟩ : Addr).add 0) = ⟨b, 0, none⟩ by rfl]
          exact (HF0.out.bel.cell (p := ⟨b, 0, none⟩) hbl).trans HX.out) (fun j hj => by
        simp at hj
        subst hj
        rw [cell_of_row _ _ _ _ _ _ HF0.out.blk]
        simp [fil]
        omega) (fun j _ => by unfold World.frozen?; rw [HF0.out.blk]; simp) (fun v hv => by simp at hv; subst hv; rfl)
    have hg1 : goInt 1 = .int .i64 1 := rfl
    have HF1 : Hid (Fil w (w0.setCell ⟨w.heap.size, 0, none⟩ (.int .i64 1)) n 1) := hid ⟨HF0.out.bel.setCell (Nat.le_refl _) _, by
      rw [heap_setCell_same _ _ _ _ _ _ HF0.out.blk, ← fil_first (by omega)]⟩
    clear HF0
    generalize w0.setCell ⟨w.heap.size, 0, none⟩ (.int .i64 1) = W1 at *
    go_wp2_with fail
    clear hcp
    go_loopw [8] (fun t wr => ∃ m : Nat, 1 ≤ m ∧ m ≤ n ∧ t = .int .i64 m ∧ Hid (Fil w wr n m)) (fun t _ => n - (intOf t).toNat)
    case atStart => exact ⟨1, Nat.le_refl _, by omega, by go_num, HF1⟩
    case round =>
      clear HF1
      obtain ⟨m, hm1, hmn, rfl, HF⟩ := hrel
      by_cases hlt : m < n
      · have i1 : (m : Int) < (n : Int) := by omega
        have q1 : ¬ n = m := by omega
        have q2 : m ≤ n := by omega
        have q3 : (m : Int) ≤ (n : Int) := by omega
        obtain ⟨c, hc⟩ : ∃ c, c = Nat.min m (n - m) := ⟨_, rfl⟩
        have hc1 : 1 ≤ c ∧ m + c ≤ n := by
          rw [hc]
          have h1 : Nat.min m (n - m) ≤ n - m := Nat.min_le_right _ _
          have h2 : 1 ≤ Nat.min m (n - m) := Nat.le_min.2 ⟨hm1, by omega⟩
          omega
        have HCN : Hid (∀ W : World, W.heap[w.heap.size]? = some (Obj.cells (fil n m).toArray 3 (0, 0)) → ∀ j v, (List.replicate c (Value.int .i64 1))[j]? = some v → W.cell? ((⟨w.heap.size, 0, none⟩ : Addr).add j) = some v) := hid fun W hW j v hv => by
          have hj : j < c := by
            rcases Nat.lt_or_ge j c with h | h
            · exact h
            · rw [List.getElem?_eq_none (by simpa using h)] at hv; cases hv
          rw [fil_get hj v hv, show ((⟨w.heap.size, 0, none⟩ : Addr).add j) = ⟨w.heap.size, j, none⟩ by unfold Addr.add; split <;> simp_all, cell_of_row _ _ _ _ _ _ hW]
          have hcm : c ≤ m := by rw [hc]; exact Nat.min_le_left _ _
          show (fil n m).toArray[j]? = _
          rw [List.getElem?_toArray]
          unfold fil
          rw [List.getElem?_append_left (by rw [List.length_replicate]; omega), List.getElem?_replicate, if_pos (by omega)]
        have hcp2 : ∀ ty, (Builtin.copy_ #[22, 22] ty #[.slice (some ⟨w.heap.size, m, none⟩) (n - m) (n - m), .slice (some ⟨w.heap.size, 0, none⟩) m n]).run Try.prog wr.drew = .ok (goInt c) (wr.drew.setRow w.heap.size (fil n (m + c)).toArray) := fun ty => by
          have h := run_copy_row (P := Try.prog) wr.drew 22 22 ty 3 w.heap.size m (n - m) (n - m) ⟨w.heap.size, 0, none⟩ m n (fil n m).toArray 3 (List.replicate c (.int .i64 1)) Try.underlying22 hsz HF.out.blk (by rw [List.length_replicate]; exact hc) (HCN.out wr.drew HF.out.blk) (by rw [List.size_toArray, fil_len hmn, List.length_replicate]; exact hc1.2) (fun v hv => by rw [List.eq_of_mem_replicate hv]; rfl)
          rw [List.length_replicate] at h
          have e := fil_splice (n := n) (m := m) (c := c)
          unfold splice at e
          rw [List.length_replicate] at e
          rw [List.append_assoc, e] at h
          exact h
        have hgc : goInt c = .int .i64 c := rfl
        have HN : Hid (Fil w (wr.drew.setRow w.heap.size (fil n (m + c)).toArray) n (m + c)) := hid ⟨below_setRow HF.out.bel.drew (Nat.le_refl _) _, setRow_heap wr.drew _ _ _ _ _ HF.out.blk⟩
        clear HF HCN hc
        go_upto_region 9 with fail
        go_region
        go_wp2_with fail
        go_roundw
        case rel => exact ⟨m + c, by omega, by omega, by go_num, HN⟩
        case measure => simp [intOf]; omega
      · obtain rfl : m = n := by omega
        have i1 : ¬ ((m : Int) < (m : Int)) := by omega
        go_wp2_with fail
        go_ret
        refine ⟨_, rfl, ⟨by simp, Or.inr ⟨w.heap.size, m, _, rfl, Nat.le_refl _, HF.out.blk, Nat.le_refl _, by unfold maxLen; omega, by simp [fil], by simp [fil]⟩⟩, HF.out.bel⟩

end Go.Proofs.Ytpdloenmplafiaa

/-
  impl: plainTable, projectedRows.
-/
namespace Go.Proofs.Ytpdloenmplafiaa
open Go.RowKit

theorem drew_below2 {a b : World} (h : Below a.drew.heap.size a.drew b) : Below a.heap.size a b := ⟨h.os, h.tape, h.output, h.size, h.block⟩
theorem own_shape {w : World} {B n s : Nat} {e : TypeId} {v : Value} {xs : List Value} (h : w.ownsRow B e s v n xs) : ∃ a cap, v = .slice a n cap := by
  rcases h.2 with ⟨rfl, hn⟩ | ⟨g, cap, cur, rfl, _⟩
  · exact ⟨none, 0, by rw [hn]⟩
  · exact ⟨_, cap, rfl⟩
/-- a row's block is none of another type; what is stored there does not reach it -/
theorem own_keep3 {W : World} {B s n p : Nat} {e e' : TypeId} {v : Value} {xs : List Value} {off : Nat} {y : Value} (h : W.ownsRow B e s v n xs) (ht : ∃ cur, W.heap[p]? = some (.cells cur e' (0, 0))) (he : e ≠ e') : (W.setCell ⟨p, off, none⟩ y).ownsRow B e s v n xs :=
  own_move h fun g hg => Below.heap_setCell _ _ _ _ (by rintro rfl; exact own_ne h ht he hg.symm)
theorem RQ.set {W : World} {B p off : Nat} {v y : Value} {us : List Value} {ls : List (List Int)} (h : RQ W B v us ls) (ht : ∃ cur, W.heap[p]? = some (.cells cur 53 (0, 0))) : RQ (W.setCell ⟨p, off, none⟩ y) B v us ls :=
  ⟨own_keep3 h.own ht (by decide), h.len, fun i hi => own_keep3 (h.each i hi) ht (by decide), h.ap⟩
theorem RQ.sl {W : World} {B : Nat} {v : Value} {us : List Value} {ls : List (List Int)} (h : RQ W B v us ls) : ∃ a cap, v = .slice a ls.length cap := own_shape h.own

/-- a table's block -/
structure TX (W : World) (p : Nat) (v0 v1 v2 : Value) : Prop where
  blk : W.heap[p]? = some (.cells #[v0, v1, v2] 53 (0, 0))
section
variable {W W' : World} {p : Nat} {v0 v1 v2 : Value}
theorem TX.lt (h : TX W p v0 v1 v2) : p < W.heap.size := by
  rcases Nat.lt_or_ge p W.heap.size with h1 | h1
  · exact h1
  · have := h.blk; rw [Array.getElem?_eq_none h1] at this; cases this
theorem TX.below (h : TX W p v0 v1 v2) (hb : Below W.heap.size W W') : TX W' p v0 v1 v2 := ⟨(hb.block p h.lt).trans h.blk⟩
theorem TX.c0 (h : TX W p v0 v1 v2) : W.cell? ⟨p, 0, none⟩ = some v0 := by rw [cell_of_row _ _ _ _ _ _ h.blk]; rfl
theorem TX.c1 (h : TX W p v0 v1 v2) : W.cell? ⟨p, 1, none⟩ = some v1 := by rw [cell_of_row _ _ _ _ _ _ h.blk]; rfl
theorem TX.c2 (h : TX W p v0 v1 v2) : W.cell? ⟨p, 2, none⟩ = some v2 := by rw [cell_of_row _ _ _ _ _ _ h.blk]; rfl
theorem TX.free (h : TX W p v0 v1 v2) (j : Nat) : W.frozen? ⟨p, j, none⟩ = false := by unfold World.frozen?; rw [h.blk]; simp
theorem TX.typ (h : TX W p v0 v1 v2) : ∃ cur, W.heap[p]? = some (.cells cur 53 (0, 0)) := ⟨_, h.blk⟩
theorem TX.made (W : World) (v0 v1 v2 : Value) : TX (W.alloc (.cells #[v0, v1, v2] 53)) W.heap.size v0 v1 v2 := ⟨heap_alloc_new _ _⟩
end

set_option maxHeartbeats 2000000 in
set_option maxRecDepth 1000000 in
theorem plainTable_calls (w : World) (vv vr : Value) (vars : List Int) (n : Nat) (hv : IS w vv vars) (hr : ∃ a c, vr = .slice a n c) (hlv : vars.length ≤ 1000) (hn : n ≤ 100000) :
    Calls Try.prog 73 #[vv, vr] w fun e w' => ∃ v0 v2, e = .returned (.agg #[v0, vr, v2]) ∧ w'.ownsRow w.heap.size 3 1 v0 vars.length (vars.map (Value.int .i64)) ∧ w'.ownsRow w.heap.size 3 1 v2 n (List.replicate n (.int .i64 1)) ∧ Ap' v0 v2 ∧ Below w.heap.size w w' := by
  obtain ⟨W1, hW1⟩ : ∃ W1, W1 = w.alloc (.cells #[.slice none 0 0, .slice none 0 0, .slice none 0 0] 53) := ⟨_, rfl⟩
  have hB1 : Below w.heap.size w W1 := by rw [hW1]; exact (Below.refl _ _).alloc (Nat.le_refl _) _
  have HT1 : Hid (TX W1 w.heap.size (.slice none 0 0) (.slice none 0 0) (.slice none 0 0)) := hid (by rw [hW1]; exact TX.made _ _ _ _)
  have KC := hid (cloneI_calls W1 vv vars (hv.below hB1) (by omega))
  have HB1 := hid hB1
  obtain ⟨ar, cr, rfl⟩ := hr
  obtain ⟨av, cv, rfl, -⟩ := hv
  clear hB1
  go_enter Try.func73, Try.ntmps73
  go_upto_region 1 with fail
  rw [← hW1]
  clear hW1
  go_wp2_with fail
  refine KC.out.mono ?_
  rintro e w2 ⟨v0, rfl, ho0, hb2⟩
  have HT2 := hid (HT1.out.below hb2)
  have HB2 := hid (bt HB1.out hb2)
  have HO2 := hid (own_base ho0 HB1.out.size)
  have hlt0 : ∀ g, v0.ownBlock = some g → g < w2.heap.size := fun g hg => (ho0.lt g hg).2
  obtain ⟨a0, c0, rfl⟩ := own_shape ho0
  have HL0 := hid hlt0
  clear ho0 hb2 KC HT1 HB1 hlt0
  have HAl : Hid (Below w2.heap.size w2 (w2.alloc (.cells #[.int .i64 1] 3))) := hid ((Below.refl _ _).alloc (Nat.le_refl _) _)
  have KR := hid (repeat_calls (w2.alloc (.cells #[.int .i64 1] 3)) w2.heap.size n hn (by rw [World.cell?_alloc_at _ _ _ _ rfl]; rfl))
  have hs2 := HB2.out.size
  go_wp2_with fail
  refine KR.out.mono ?_
  rintro e w3 ⟨v2, rfl, ho2, hb3⟩
  have hb23 := bt HAl.out hb3
  have HT3 := hid (HT2.out.below hb23)
  have HB3 := hid (bt HB2.out hb23)
  have HO3 := hid (own_below HO2.out hb23)
  have HV3 := hid (own_base (B' := w.heap.size) ho2 (by simp; omega))
  have HAp : Hid (Ap' (.slice a0 vars.length c0) v2) := hid fun g h1 h2 => by
    have e1 := HL0.out g h1
    have e2 := (ho2.lt g h2).1
    simp at e2
    omega
  obtain ⟨a2, c2, rfl⟩ := own_shape ho2
  clear ho2 hb3 hb23 KR HAl HT2 HB2 HO2 HL0
  have d0 := HT3.out.c0
  have d1 := HT3.out.c1
  have d2 := HT3.out.c2
  have f0 := HT3.out.free 0
  have f1 := HT3.out.free 1
  have f2 := HT3.out.free 2
  have HTy := hid HT3.out.typ
  generalize hnv : vars.length = nv at *
  have HNV := hid hnv
  clear hnv
  go_wp2_with fail
  refine bodyPost_ret (v := .agg #[.slice a0 nv c0, .slice ar n cr, .slice a2 n c2]) (by simp [results, Try.results73, go_sem, d0, d1, d2]) rfl ⟨_, _, rfl, ?_, ?_, HAp.out, ?_⟩
  · rw [HNV.out]
    exact own_keep3 (own_keep3 (own_keep3 HO3.out HTy.out (by decide)) (typ_set HTy.out) (by decide)) (typ_set (typ_set HTy.out)) (by decide)
  · exact own_keep3 (own_keep3 (own_keep3 HV3.out HTy.out (by decide)) (typ_set HTy.out) (by decide)) (typ_set (typ_set HTy.out)) (by decide)
  · exact ((HB3.out.setCell (Nat.le_refl _) _).setCell (Nat.le_refl _) _).setCell (Nat.le_refl _) _

set_option maxHeartbeats 2000000 in
set_option maxRecDepth 1000000 in
theorem projectedRows_calls (w : World) (v0 v1 v2 vv : Value) (vs : List Int) (rows : List (List Int)) (ws vars : List Int) (h : IT w v0 v1 v2 vs rows ws) (hv : IS w vv vars) (hlv : vars.length ≤ 1000) (hls : vs.length ≤ 1000) (hn : rows.length ≤ 100000) (hrow : ∀ r ∈ rows, r.length = vs.length) :
    Calls Try.prog 74 #[.agg #[v0, v1, v2], vv] w fun e w' => ∃ v uo, e = .returned v ∧ RQ w' w.heap.size v uo (srt (prjL rows (plc (fun i => decide (vs.getD i 0 ∈ vars)) vs.length))) ∧ Below w.heap.size w w' := by
  obtain ⟨W1, hW1⟩ : ∃ W1, W1 = w.alloc (.cells #[v0, v1, v2] 53) := ⟨_, rfl⟩
  have hB1 : Below w.heap.size w W1 := by rw [hW1]; exact (Below.refl _ _).alloc (Nat.le_refl _) _
  have HT1 : Hid (TX W1 w.heap.size v0 v1 v2) := hid (by rw [hW1]; exact TX.made _ _ _ _)
  have KP : Hid (∀ W, Below W1.heap.size W1 W → Calls Try.prog 72 #[v0, vv] W fun e w' => ∃ v, e = .returned v ∧ w'.ownsRow W.heap.size 3 1 v (plc (fun i => decide (vs.getD i 0 ∈ vars)) vs.length).length ((plc (fun i => decide (vs.getD i 0 ∈ vars)) vs.length).map (Value.int .i64)) ∧ Below W.heap.size W w') := hid fun W hW => placesIn_calls W v0 vv vs vars (h.vs.below (bt hB1 hW)) (hv.below (bt hB1 hW)) (by omega) (by omega)
  have hpl := plc_le (fun i => decide (vs.getD i 0 ∈ vars)) vs.length
  have hpin : ∀ p ∈ plc (fun i => decide (vs.getD i 0 ∈ vars)) vs.length, 0 ≤ p ∧ p < (vs.length : Int) := fun p hp => by
    unfold plc at hp
    rw [List.mem_map] at hp
    obtain ⟨j, hj, e⟩ := hp
    rw [List.mem_filter, List.mem_range] at hj
    simp only [Int.ofNat_eq_natCast] at e
    omega
  have KR : Hid (∀ W u, Below W1.heap.size W1 W → IS W u (plc (fun i => decide (vs.getD i 0 ∈ vars)) vs.length) → Calls Try.prog 121 #[v1, u] W fun e w' => ∃ v uo, e = .returned v ∧ RQ w' W.heap.size v uo (srt (prjL rows (plc (fun i => decide (vs.getD i 0 ∈ vars)) vs.length))) ∧ Below W.heap.size W w') := hid fun W u hW hu =>
    rowsAt_calls W v1 u rows _ (h.rows.below (bt hB1 hW)) hu (by omega) (by omega) (fun r hr p hp => by rw [hrow r hr]; exact hpin p hp)
  have HB1 := hid hB1
  obtain ⟨a0, c0, e0, -⟩ := h.vs
  obtain ⟨a1, c1, e1, -⟩ := h.rows
  obtain ⟨a2, c2, e2, -⟩ := h.ws
  obtain ⟨av, cv, e3, -⟩ := hv
  subst e0 e1 e2 e3
  clear hB1 hpin h hrow
  generalize plc (fun i => decide (vs.getD i 0 ∈ vars)) vs.length = pl at *
  generalize vs.length = l0 at *
  generalize rows.length = l1 at *
  generalize ws.length = l2 at *
  generalize vars.length = l3 at *
  have d0 := HT1.out.c0
  have d1 := HT1.out.c1
  go_enter Try.func74, Try.ntmps74
  go_upto_region 1 with fail
  rw [← hW1]
  clear hW1
  go_region_law (first
    | (go_simp; go_at_call 72; (with_reducible refine (KP.out _ (Below.refl _ _).drew).mono ?_); rintro e w2 ⟨u2, rfl, ho2, hb2'⟩; have hb2 := drew_below2 hb2'; have HI2 := hid (own_is ho2); have d1b := (HT1.out.below hb2).c1; obtain ⟨a9, c9, e9⟩ := own_shape ho2; subst e9; clear ho2 hb2')
    | (go_simp; go_at_call 121; (with_reducible refine (KR.out _ _ hb2 HI2.out).mono ?_); rintro e w3 ⟨u3, uo3, rfl, hQ3, hb3⟩))
  all_goals
    go_wp2_with fail
    go_ret
    exact ⟨_, uo3, rfl, hQ3.base (Nat.le_trans HB1.out.size hb2.size), bt (bt HB1.out hb2) hb3⟩

end Go.Proofs.Ytpdloenmplafiaa
