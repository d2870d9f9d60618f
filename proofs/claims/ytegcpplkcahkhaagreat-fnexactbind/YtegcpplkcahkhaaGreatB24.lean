import Derived.Laws.StructEq
import Derived.Test.YtegcpplkcahkhaaGreatB17
import Derived.Test.YtegcpplkcahkhaaGreatB21
/-
  The first place of a text in a list: spec.l3Place, told exactly.
-/
namespace Go.Proofs.YtegcpplkcahkhaaGreat
open Go.RowKit

/-- z: the first place of the text s, or -1 -/
def TxIx (L : List ByteArray) (s : ByteArray) (z : Int) : Prop :=
  (z = -1 ∧ ∀ i, i < L.length → ((L.getD i noTx).toList == s.toList) = false) ∨
  ∃ j : Nat, z = j ∧ j < L.length ∧ ((L.getD j noTx).toList == s.toList) = true ∧ ∀ i, i < j → ((L.getD i noTx).toList == s.toList) = false

theorem hasT_take {L : List ByteArray} {s : ByteArray} {k : Nat} (hk : k ≤ L.length) : hasT (L.take k) s = true ↔ ∃ i, i < k ∧ ((L.getD i noTx).toList == s.toList) = true := by
  unfold hasT
  rw [List.any_eq_true]
  constructor
  · rintro ⟨x, hx, e⟩
    obtain ⟨i, hi, ei⟩ := List.getElem_of_mem hx
    have hi' : i < k := by simp at hi; omega
    refine ⟨i, hi', ?_⟩
    rw [List.getElem_take] at ei
    rw [List.getD_eq_getElem?_getD, List.getElem?_eq_getElem (by omega), Option.getD_some, ei]
    exact e
  · rintro ⟨i, hi, e⟩
    refine ⟨L.getD i noTx, ?_, e⟩
    have h1 : i < L.length := by omega
    refine List.mem_of_getElem? (i := i) ?_
    rw [List.getElem?_take_of_lt hi, List.getD_eq_getElem?_getD, List.getElem?_eq_getElem h1, Option.getD_some]

/-- a text that is there: its first place is before k if it is among the first k -/
theorem TxIx.before {L : List ByteArray} {s : ByteArray} {z : Int} (h : TxIx L s z) {k : Nat} (hk : k < L.length) (e : ((L.getD k noTx).toList == s.toList) = true) : decide (z < (k : Int)) = hasT (L.take k) s := by
  rcases h with ⟨-, h⟩ | ⟨j, rfl, hj, h1, h2⟩
  · rw [h k hk] at e; cases e
  · by_cases hjk : j < k
    · rw [decide_eq_true (by omega), eq_comm, hasT_take (by omega)]
      exact ⟨j, hjk, h1⟩
    · rw [decide_eq_false (by omega), eq_comm, Bool.eq_false_iff]
      intro hh
      obtain ⟨i, hi, ei⟩ := (hasT_take (by omega)).1 hh
      rw [h2 i (by omega)] at ei; cases ei

theorem TxIx.has {L : List ByteArray} {s : ByteArray} {z : Int} (h : TxIx L s z) : decide (z < 0) = !hasT L s := by
  have ht := hasT_take (L := L) (s := s) (Nat.le_refl L.length)
  rw [List.take_length] at ht
  rcases h with ⟨rfl, h⟩ | ⟨j, rfl, hj, h1, h2⟩
  · have : hasT L s = false := by
      rw [Bool.eq_false_iff]
      intro hh
      obtain ⟨i, hi, ei⟩ := ht.1 hh
      rw [h i hi] at ei; cases ei
    rw [this]; rfl
  · rw [ht.2 ⟨j, hj, h1⟩, decide_eq_false (by omega)]; rfl

set_option maxHeartbeats 2000000 in
set_option maxRecDepth 1000000 in
theorem l3PlaceIx_calls (w : World) (v : Value) (L : List ByteArray) (s : ByteArray) (h : ISt w v L) (hl : L.length ≤ 1099511627776000) :
    Calls Tryz.prog 48 #[v, .string s] w fun e w' => ∃ z : Int, e = .returned (.int .i64 z) ∧ w' = w ∧ TxIx L s z := by
  obtain ⟨a, cap, rfl, hc⟩ := h
  obtain ⟨n, hn⟩ : ∃ n, n = L.length := ⟨_, rfl⟩
  have HC := hid hc
  have HN := hid hn
  rw [← hn] at HC hl ⊢
  clear hc hn
  go_enter Tryz.func48, Tryz.ntmps48
  go_wp2
  go_loopw [9] (fun t wr => ∃ j : Nat, j ≤ n ∧ t = .int .i64 j ∧ wr = w ∧ Hid (∀ i, i < j → ((L.getD i noTx).toList == s.toList) = false)) (fun t _ => n - (intOf t).toNat)
  case atStart => exact ⟨0, Nat.zero_le _, rfl, rfl, hid (fun i hi => by omega)⟩
  case round =>
    obtain ⟨j, hj, rfl, hw, HH⟩ := hrel
    subst hw
    by_cases hjn : j < n
    · have i1 : (j : Int) < (n : Int) := by omega
      rcases HC.out with h0 | ⟨b, o, rfl, hcell⟩
      · omega
      · have c1 := hcell j hjn
        have HX : Hid (((L.getD j noTx).toList == s.toList) = true → TxIx L s j) := hid (fun h => Or.inr ⟨j, rfl, by rw [← HN.out]; exact hjn, h, HH.out⟩)
        have HY : Hid (((L.getD j noTx).toList == s.toList) = false → ∀ i, i < j + 1 → ((L.getD i noTx).toList == s.toList) = false) := hid (fun h i hi => by
          by_cases e : i = j
          · rw [e]; exact h
          · exact HH.out i (by omega))
        clear hcell HH
        generalize L.getD j noTx = x at *
        cases hb : (x.toList == s.toList)
        · have HZ := hid (HY.out hb)
          clear HX HY
          go_wp2
          go_roundw
          case rel => exact ⟨j + 1, by omega, by go_num, by trivial, HZ⟩
          case measure => simp [intOf]; omega
        · have HZ := hid (HX.out hb)
          clear HX HY
          go_wp2
          go_ret
          exact ⟨_, rfl, rfl, HZ.out⟩
    · obtain rfl : j = n := by omega
      have i1 : ¬ ((j : Int) < (j : Int)) := by omega
      have HZ : Hid (TxIx L s (-1)) := hid (Or.inl ⟨rfl, fun i hi => HH.out i (by rw [HN.out]; exact hi)⟩)
      go_wp2
      go_ret
      exact ⟨_, rfl, rfl, HZ.out⟩

end Go.Proofs.YtegcpplkcahkhaaGreat

/-
  slices.Index, slices.Contains at lists of texts.
-/
namespace Go.Proofs.YtegcpplkcahkhaaGreat
open Go.RowKit

theorem beq_sym (a b : List UInt8) : (a == b) = (b == a) := by
  rw [Bool.eq_iff_iff, beq_iff_eq, beq_iff_eq]
  exact eq_comm

set_option maxHeartbeats 2000000 in
set_option maxRecDepth 1000000 in
theorem indexT_calls (w : World) (v : Value) (L : List ByteArray) (s : ByteArray) (h : ISt w v L) (hl : L.length ≤ 1099511627776000) :
    Calls Tryz.prog 103 #[v, .string s] w fun e w' => ∃ z : Int, e = .returned (.int .i64 z) ∧ w' = w ∧ TxIx L s z := by
  obtain ⟨a, cap, rfl, hc⟩ := h
  obtain ⟨n, hn⟩ : ∃ n, n = L.length := ⟨_, rfl⟩
  have HC := hid hc
  have HN := hid hn
  rw [← hn] at HC hl ⊢
  clear hc hn
  go_enter Tryz.func103, Tryz.ntmps103
  go_wp2
  go_loopw [8] (fun t wr => ∃ j : Nat, j ≤ n ∧ t = .int .i64 j ∧ wr = w ∧ Hid (∀ i, i < j → ((L.getD i noTx).toList == s.toList) = false)) (fun t _ => n - (intOf t).toNat)
  case atStart => exact ⟨0, Nat.zero_le _, rfl, rfl, hid (fun i hi => by omega)⟩
  case round =>
    obtain ⟨j, hj, rfl, hw, HH⟩ := hrel
    subst hw
    by_cases hjn : j < n
    · have i1 : (j : Int) < (n : Int) := by omega
      rcases HC.out with h0 | ⟨b, o, rfl, hcell⟩
      · omega
      · have c1 := hcell j hjn
        have HX : Hid (((L.getD j noTx).toList == s.toList) = true → TxIx L s j) := hid (fun h => Or.inr ⟨j, rfl, by rw [← HN.out]; exact hjn, h, HH.out⟩)
        have HY : Hid (((L.getD j noTx).toList == s.toList) = false → ∀ i, i < j + 1 → ((L.getD i noTx).toList == s.toList) = false) := hid (fun h i hi => by
          by_cases e : i = j
          · rw [e]; exact h
          · exact HH.out i (by omega))
        clear hcell HH
        generalize L.getD j noTx = x at *
        have hsym : (s.toList == x.toList) = (x.toList == s.toList) := beq_sym _ _
        cases hb : (x.toList == s.toList)
        · rw [hb] at hsym
          have HZ := hid (HY.out hb)
          clear HX HY
          go_wp2
          go_roundw
          case rel => exact ⟨j + 1, by omega, by go_num, by trivial, HZ⟩
          case measure => simp [intOf]; omega
        · rw [hb] at hsym
          have HZ := hid (HX.out hb)
          clear HX HY
          go_wp2
          go_ret
          exact ⟨_, rfl, rfl, HZ.out⟩
    · obtain rfl : j = n := by omega
      have i1 : ¬ ((j : Int) < (j : Int)) := by omega
      have HZ : Hid (TxIx L s (-1)) := hid (Or.inl ⟨rfl, fun i hi => HH.out i (by rw [HN.out]; exact hi)⟩)
      go_wp2
      go_ret
      exact ⟨_, rfl, rfl, HZ.out⟩

set_option maxHeartbeats 2000000 in
theorem containsT_calls (w : World) (v : Value) (L : List ByteArray) (s : ByteArray) (h : ISt w v L) (hl : L.length ≤ 1099511627776000) :
    Calls Tryz.prog 83 #[v, .string s] w fun e w' => e = .returned (.bool (hasT L s)) ∧ w' = w := by
  have K := hid (indexT_calls w v L s h hl)
  clear h hl
  go_enter Tryz.func83, Tryz.ntmps83
  go_wp2_with fail
  refine K.out.mono ?_
  rintro e w' ⟨z, rfl, hw', hz⟩
  subst w'
  have hh := hz.has
  clear hz K
  by_cases h0 : z < 0
  · have h1 : ¬ (0 ≤ z) := by omega
    rw [decide_eq_true h0] at hh
    have HZ : Hid (hasT L s = false) := hid (by revert hh; cases hasT L s <;> simp)
    go_wp2_with fail
    go_ret
    exact ⟨ret_bool (by rw [HZ.out]; exact decide_eq_false (by omega)), rfl⟩
  · have h1 : 0 ≤ z := by omega
    rw [decide_eq_false h0] at hh
    have HZ : Hid (hasT L s = true) := hid (by revert hh; cases hasT L s <;> simp)
    go_wp2_with fail
    go_ret
    exact ⟨ret_bool (by rw [HZ.out]), rfl⟩

end Go.Proofs.YtegcpplkcahkhaaGreat

/-
  slices.Index at lists of terms.
-/
namespace Go.Proofs.YtegcpplkcahkhaaGreat
open Go.RowKit

def tmE (x y : TermV) : Bool := (x.1.toList == y.1.toList) && decide (x.2 = y.2)
/-- the first place of a term, or -1 -/
def TmIx (ts : List TermV) (t : TermV) (z : Int) : Prop :=
  (z = -1 ∧ ∀ i, i < ts.length → tmE t (ts.getD i noTm) = false) ∨
  ∃ j : Nat, z = j ∧ j < ts.length ∧ tmE t (ts.getD j noTm) = true ∧ ∀ i, i < j → tmE t (ts.getD i noTm) = false

theorem Tryz.fieldsTm : Tryz.prog.underlying 62 = some (.struct (Tryz.prog.fieldsOf 62)) := by kernel_rfl
theorem Tryz.stoodTm : Tryz.prog.stoodInHeld 62 = false := by kernel_rfl
theorem Tryz.guardTm : Tryz.prog.eqGuardType Tryz.prog.depth 62 = false := by kernel_rfl
theorem Tryz.eqTm (W : World) (x x2 : ByteArray) (y y2 : Int) : Sem.run Tryz.prog (binOp .eql 62 (.agg #[.string x, .int .i64 y]) (.agg #[.string x2, .int .i64 y2])) W = .ok (.bool (tmE (x, y) (x2, y2))) W := by
  rw [run_eql_struct, run_equalIn_agg W 9999 _ _ _ Tryz.fieldsTm Tryz.stoodTm]
  have e1 := Tryz.underlying9
  have e2 := Tryz.underlying3
  have e3 := Tryz.isAgg9
  have e4 := Tryz.isAgg3
  simp only [Program.fieldsOf, Tryz.underlying62]
  simp [Op.eqFields, go_sem, part, e1, e2, e3, e4, tmE]
  by_cases h1 : x.toList = x2.toList <;> by_cases h2 : y = y2 <;> simp [h1, h2]

set_option maxHeartbeats 4000000 in
set_option maxRecDepth 1000000 in
theorem indexTm_calls (w : World) (v : Value) (ts : List TermV) (t : TermV) (h : ITm w v ts) (hl : ts.length ≤ 1099511627776000) :
    Calls Tryz.prog 87 #[v, .agg #[.string t.1, .int .i64 t.2]] w fun e w' => ∃ z : Int, e = .returned (.int .i64 z) ∧ Below w.heap.size w w' ∧ TmIx ts t z := by
  have HB1 : Hid (Below w.heap.size w (w.alloc (.cells #[.string t.1, .int .i64 t.2] 62))) := hid ((Below.refl _ _).alloc (Nat.le_refl _) _)
  have HI := hid (h.below HB1.out)
  obtain ⟨a, cap, rfl, -⟩ := h
  have HC : Hid (∀ W, Below (w.alloc (.cells #[.string t.1, .int .i64 t.2] 62)).heap.size (w.alloc (.cells #[.string t.1, .int .i64 t.2] 62)) W → W.cell? ⟨w.heap.size, 0, none⟩ = some (.string t.1) ∧ W.cell? ⟨w.heap.size, 1, none⟩ = some (.int .i64 t.2) ∧ ∀ j, j < ts.length → ∃ b o, a = some ⟨b, o, none⟩ ∧ W.cell? ⟨b, o + j * 2, none⟩ = some (.string (ts.getD j noTm).1) ∧ W.cell? ⟨b, o + j * 2 + 1, none⟩ = some (.int .i64 (ts.getD j noTm).2)) := hid fun W hW => by
    refine ⟨bcl' hW (by rw [World.cell?_alloc_at _ _ _ _ rfl]; rfl), bcl' hW (by rw [World.cell?_alloc_at _ _ _ _ rfl]; rfl), fun j hj => ?_⟩
    obtain ⟨a', c', e', hh⟩ := HI.out
    simp only [Value.slice.injEq] at e'
    obtain ⟨rfl, -, rfl⟩ := e'
    rcases hh with h0 | ⟨b, o, rfl, hh⟩
    · omega
    · exact ⟨b, o, rfl, bcl' hW (hh j hj).1, bcl' hW (hh j hj).2⟩
  clear HI
  obtain ⟨n, hn⟩ : ∃ n, n = ts.length := ⟨_, rfl⟩
  have HN := hid hn
  rw [← hn] at HC hl ⊢
  clear hn
  obtain ⟨x, y⟩ := t
  dsimp only at *
  go_enter Tryz.func87, Tryz.ntmps87
  go_upto_region 1 with fail
  generalize w.alloc (.cells #[.string x, .int .i64 y] 62) = W0 at *
  obtain ⟨p, hp⟩ : ∃ p, p = w.heap.size := ⟨_, rfl⟩
  rw [← hp] at HC ⊢
  have HP := hid hp
  clear hp
  go_wp2_with fail
  go_loopw [8] (fun t wr => ∃ j : Nat, j ≤ n ∧ t = .int .i64 j ∧ Hid (Below W0.heap.size W0 wr) ∧ Hid (∀ i, i < j → tmE (x, y) (ts.getD i noTm) = false)) (fun t _ => n - (intOf t).toNat)
  case atStart => exact ⟨0, Nat.zero_le _, rfl, hid (Below.refl _ _), hid (fun i hi => by omega)⟩
  case round =>
    obtain ⟨j, hj, rfl, HW, HH⟩ := hrel
    by_cases hjn : j < n
    · have i1 : (j : Int) < (n : Int) := by omega
      obtain ⟨c0, c1, hcell⟩ := HC.out wr HW.out
      obtain ⟨b, o, ea, g0, g1⟩ := hcell j hjn
      subst ea
      have HX : Hid (tmE (x, y) (ts.getD j noTm) = true → TmIx ts (x, y) j) := hid (fun h => Or.inr ⟨j, rfl, by rw [← HN.out]; exact hjn, h, HH.out⟩)
      have HY : Hid (tmE (x, y) (ts.getD j noTm) = false → ∀ i, i < j + 1 → tmE (x, y) (ts.getD i noTm) = false) := hid (fun h i hi => by
        by_cases e : i = j
        · rw [e]; exact h
        · exact HH.out i (by omega))
      clear hcell HH HC
      generalize ts.getD j noTm = tt at *
      obtain ⟨x2, y2⟩ := tt
      dsimp only at *
      have heq := fun W => Tryz.eqTm W x x2 y y2
      have hgm := Tryz.guardTm
      generalize tmE (x, y) (x2, y2) = bb at *
      go_wp2_with fail
      go_quiet (fail)
      have HQ := hid (below_drewN HW.out nq)
      have HBz := hid (bt HB1.out HQ.out)
      clear HW c0 c1 g0 g1 heq hgm
      generalize wr.drewN nq = wq at *
      cases bb
      · have HZ := hid (HY.out rfl)
        clear HX HY
        go_wp2_with fail
        go_roundw
        case rel => exact ⟨j + 1, by omega, by go_num, HQ, HZ⟩
        case measure => simp [intOf]; omega
      · have HZ := hid (HX.out rfl)
        clear HX HY
        go_wp2_with fail
        go_ret
        exact ⟨_, rfl, HBz.out, HZ.out⟩
    · obtain rfl : j = n := by omega
      have i1 : ¬ ((j : Int) < (j : Int)) := by omega
      have HZ : Hid (TmIx ts (x, y) (-1)) := hid (Or.inl ⟨rfl, fun i hi => HH.out i (by rw [HN.out]; exact hi)⟩)
      have HBz := hid (bt HB1.out HW.out)
      clear HH HW HC
      go_wp2_with fail
      go_ret
      exact ⟨_, rfl, HBz.out, HZ.out⟩

end Go.Proofs.YtegcpplkcahkhaaGreat

/-
  A row fits the terms of an atom.
-/
namespace Go.Proofs.YtegcpplkcahkhaaGreat
open Go.RowKit

def fitAt (ts : List TermV) (row : List Int) (i : Nat) : Bool :=
  if (ts.getD i noTm).1.toList.isEmpty then decide (row.getD i 0 = (ts.getD i noTm).2)
  else (List.range ts.length).all fun j => !((ts.getD j noTm).1.toList == (ts.getD i noTm).1.toList) || decide (row.getD i 0 = row.getD j 0)
def fitB (ts : List TermV) (row : List Int) : Bool := (List.range ts.length).all (fitAt ts row)

section
variable {ts : List TermV} {row : List Int}
theorem fitB_true (h : ∀ i, i < ts.length → fitAt ts row i = true) : fitB ts row = true := by
  unfold fitB
  rw [List.all_eq_true]
  exact fun i hi => h i (by simpa using hi)
theorem fitB_false {i : Nat} (hi : i < ts.length) (h : fitAt ts row i = false) : fitB ts row = false := by
  unfold fitB
  rw [List.all_eq_false]
  exact ⟨i, by simpa using hi, by simp [h]⟩
theorem fitB_at (h : fitB ts row = true) {i : Nat} (hi : i < ts.length) : fitAt ts row i = true := by
  unfold fitB at h
  rw [List.all_eq_true] at h
  exact h i (by simpa using hi)
theorem fitAt_const {i : Nat} (h : (ts.getD i noTm).1.toList.isEmpty = true) : fitAt ts row i = decide (row.getD i 0 = (ts.getD i noTm).2) := by
  unfold fitAt; rw [if_pos h]
theorem fitAt_var {i : Nat} (h : (ts.getD i noTm).1.toList.isEmpty = false) (h2 : ∀ j, j < ts.length → ((ts.getD j noTm).1.toList == (ts.getD i noTm).1.toList) = true → row.getD i 0 = row.getD j 0) : fitAt ts row i = true := by
  unfold fitAt; rw [h, if_neg (by decide), List.all_eq_true]
  intro j hj
  cases hs : ((ts.getD j noTm).1.toList == (ts.getD i noTm).1.toList)
  · rfl
  · simpa using h2 j (by simpa using hj) hs
theorem fitAt_no {i j : Nat} (h : (ts.getD i noTm).1.toList.isEmpty = false) (hj : j < ts.length) (hs : ((ts.getD j noTm).1.toList == (ts.getD i noTm).1.toList) = true) (hne : row.getD i 0 ≠ row.getD j 0) : fitAt ts row i = false := by
  unfold fitAt; rw [h, if_neg (by decide), List.all_eq_false]
  exact ⟨j, by simpa using hj, by rw [hs]; simpa using hne⟩
theorem fitAt_same {i j : Nat} (hf : fitAt ts row i = true) (h : (ts.getD i noTm).1.toList.isEmpty = false) (hj : j < ts.length) (hs : ((ts.getD j noTm).1.toList == (ts.getD i noTm).1.toList) = true) : row.getD i 0 = row.getD j 0 := by
  by_cases e : row.getD i 0 = row.getD j 0
  · exact e
  · rw [fitAt_no h hj hs e] at hf; cases hf

theorem TmIx.one {t : TermV} {y z : Int} (h : TmIx ts t y) (k : TmIx ts t z) : y = z := by
  rcases h with ⟨e, h⟩ | ⟨j, e, hj, h1, h2⟩ <;> rcases k with ⟨e', k⟩ | ⟨j', e', hj', k1, k2⟩
  · rw [e, e']
  · rw [h j' hj'] at k1; cases k1
  · rw [k j hj] at h1; cases h1
  · rcases Nat.lt_trichotomy j j' with hl | hl | hl
    · rw [k2 j hl] at h1; cases h1
    · rw [e, e', hl]
    · rw [h2 j' hl] at k1; cases k1
theorem TmIx.there {i : Nat} (hi : i < ts.length) {z : Int} (h : TmIx ts (ts.getD i noTm) z) : ∃ j : Nat, z = j ∧ j < ts.length ∧ ((ts.getD j noTm).1.toList == (ts.getD i noTm).1.toList) = true := by
  rcases h with ⟨-, h⟩ | ⟨j, e, hj, h1, -⟩
  · have := h i hi
    simp [tmE] at this
  · refine ⟨j, e, hj, ?_⟩
    unfold tmE at h1
    rw [Bool.and_eq_true] at h1
    rw [beq_sym]
    exact h1.1
/-- what the program asks of place i -/
def OkI (ts : List TermV) (row : List Int) (i : Nat) : Prop :=
  ((ts.getD i noTm).1.toList.isEmpty = true → row.getD i 0 = (ts.getD i noTm).2) ∧
  ((ts.getD i noTm).1.toList.isEmpty = false → ∃ z : Nat, TmIx ts (ts.getD i noTm) (z : Int) ∧ row.getD i 0 = row.getD z 0)
theorem fit_of_ok (hz : ∀ i, i < ts.length → (ts.getD i noTm).1.toList.isEmpty = false → (ts.getD i noTm).2 = 0) (h : ∀ i, i < ts.length → OkI ts row i) : fitB ts row = true := by
  refine fitB_true fun i hi => ?_
  cases he : (ts.getD i noTm).1.toList.isEmpty
  · refine fitAt_var he fun j hj hs => ?_
    obtain ⟨z, h1, h2⟩ := (h i hi).2 he
    have hs' := beq_iff_eq.1 hs
    have hej : (ts.getD j noTm).1.toList.isEmpty = false := by rw [hs']; exact he
    obtain ⟨y, k1, k2⟩ := (h j hj).2 hej
    have e : TmIx ts (ts.getD i noTm) (y : Int) := by
      have ee : ∀ x, tmE (ts.getD i noTm) x = tmE (ts.getD j noTm) x := fun x => by
        unfold tmE
        rw [hs', hz i hi he, hz j hj hej]
      unfold TmIx at k1 ⊢
      simpa only [ee] using k1
    have := e.one h1
    obtain rfl : y = z := by omega
    rw [h2, k2]
  · rw [fitAt_const he]
    exact decide_eq_true ((h i hi).1 he)
end

end Go.Proofs.YtegcpplkcahkhaaGreat

/-
  impl.fits.
-/
namespace Go.Proofs.YtegcpplkcahkhaaGreat
open Go.RowKit

set_option maxHeartbeats 8000000 in
set_option maxRecDepth 1000000 in
theorem fits_calls (w : World) (vr vt : Value) (row : List Int) (ts : List TermV) (hr : IS w vr row) (ht : ITm w vt ts) (hlen : ts.length ≤ row.length) (hl : row.length ≤ 1000000) (hz : ∀ i, i < ts.length → (ts.getD i noTm).1.toList.isEmpty = false → (ts.getD i noTm).2 = 0) :
    Calls Tryz.prog 61 #[vr, vt] w fun e w' => e = .returned (.bool (fitB ts row)) ∧ Below w.heap.size w w' := by
  have HT := hid ht
  have HZ := hid hz
  clear hz
  obtain ⟨ra, rc, rfl, hrc⟩ := hr
  obtain ⟨ta, tc', rfl, htc⟩ := ht
  have HR : Hid (∀ W, Below w.heap.size w W → ∀ j, j < row.length → ∃ b o, ra = some ⟨b, o, none⟩ ∧ W.cell? ⟨b, o + j, none⟩ = some (.int .i64 (row.getD j 0))) := hid fun W hW j hj => by
    rcases hrc with h0 | ⟨b, o, rfl, h⟩
    · omega
    · exact ⟨b, o, rfl, bcl' hW (h j hj)⟩
  have HC : Hid (∀ W, Below w.heap.size w W → ∀ j, j < ts.length → ∃ b o, ta = some ⟨b, o, none⟩ ∧ W.cell? ⟨b, o + j * 2, none⟩ = some (.string (ts.getD j noTm).1) ∧ W.cell? ⟨b, o + j * 2 + 1, none⟩ = some (.int .i64 (ts.getD j noTm).2)) := hid fun W hW j hj => by
    rcases htc with h0 | ⟨b, o, rfl, hh⟩
    · omega
    · exact ⟨b, o, rfl, bcl' hW (hh j hj).1, bcl' hW (hh j hj).2⟩
  clear hrc htc
  obtain ⟨n, hn⟩ : ∃ n, n = ts.length := ⟨_, rfl⟩
  have HN := hid hn
  obtain ⟨m, hm⟩ : ∃ m, m = row.length := ⟨_, rfl⟩
  rw [← hn] at HC HZ hlen HT ⊢
  rw [← hm] at HR hlen hl ⊢
  have KX : Hid (∀ W, Below w.heap.size w W → ∀ t : TermV, Calls Tryz.prog 87 #[.slice ta n tc', .agg #[.string t.1, .int .i64 t.2]] W fun e w' => ∃ z : Int, e = .returned (.int .i64 z) ∧ Below W.heap.size W w' ∧ TmIx ts t z) := hid fun W hW t => indexTm_calls W _ ts t (HT.out.below hW) (by rw [← hn]; omega)
  clear hn hm HT
  go_enter Tryz.func61, Tryz.ntmps61
  go_wp2_with fail
  go_loopw [10] (fun t wr => ∃ j : Nat, j ≤ n ∧ t = .int .i64 j ∧ Hid (Below w.heap.size w wr) ∧ Hid (∀ i, i < j → OkI ts row i)) (fun t _ => n - (intOf t).toNat)
  case atStart => exact ⟨0, Nat.zero_le _, rfl, hid (Below.refl _ _), hid (fun i hi => by omega)⟩
  case round =>
    obtain ⟨j, hj, rfl, HW, HH⟩ := hrel
    by_cases hjn : j < n
    · have i1 : (j : Int) < (n : Int) := by omega
      have HZj := hid (HZ.out j hjn)
      obtain ⟨b, o, ea, g0, g1⟩ := HC.out wr HW.out j hjn
      subst ea
      have HNo : Hid (∀ i, (ts.getD j noTm).1.toList.isEmpty = false → i < n → ((ts.getD i noTm).1.toList == (ts.getD j noTm).1.toList) = true → row.getD j 0 ≠ row.getD i 0 → fitB ts row = false) := hid fun i he hi hs hne => fitB_false (by rw [← HN.out]; exact hjn) (fitAt_no he (by rw [← HN.out]; exact hi) hs hne)
      have HNc : Hid ((ts.getD j noTm).1.toList.isEmpty = true → row.getD j 0 ≠ (ts.getD j noTm).2 → fitB ts row = false) := hid fun he hne => fitB_false (by rw [← HN.out]; exact hjn) (by rw [fitAt_const he]; exact decide_eq_false hne)
      have HOk : Hid (OkI ts row j → ∀ i, i < j + 1 → OkI ts row i) := hid fun h i hi => by
        by_cases e : i = j
        · rw [e]; exact h
        · exact HH.out i (by omega)
      have HTh : Hid (∀ z, TmIx ts (ts.getD j noTm) z → ∃ i : Nat, z = i ∧ i < n ∧ ((ts.getD i noTm).1.toList == (ts.getD j noTm).1.toList) = true) := hid fun z hz => by
        rw [HN.out]; exact hz.there (by rw [← HN.out]; exact hjn)
      have HO1 : Hid ((ts.getD j noTm).1.toList.isEmpty = true → row.getD j 0 = (ts.getD j noTm).2 → OkI ts row j) := hid fun he h => ⟨fun _ => h, fun h2 => (by rw [he] at h2; cases h2)⟩
      have HO2 : Hid ((ts.getD j noTm).1.toList.isEmpty = false → ∀ z : Nat, TmIx ts (ts.getD j noTm) (z : Int) → row.getD j 0 = row.getD z 0 → OkI ts row j) := hid fun he z h1 h2 => ⟨fun h3 => (by rw [he] at h3; cases h3), fun _ => ⟨z, h1, h2⟩⟩
      clear HH HC HZ
      generalize ts.getD j noTm = tt at *
      obtain ⟨x, y⟩ := tt
      dsimp only at *
      generalize wr = Wt at *
      go_upto_region 4 with fail
      obtain ⟨W5, hW5⟩ : ∃ W5, W5 = Wt.alloc (.cells #[.string x, .int .i64 y] 62) := ⟨_, rfl⟩
      have t0 : W5.cell? ⟨Wt.heap.size, 0, none⟩ = some (.string x) := by rw [hW5, World.cell?_alloc_at _ _ _ _ rfl]; rfl
      have t1 : W5.cell? ⟨Wt.heap.size, 1, none⟩ = some (.int .i64 y) := by rw [hW5, World.cell?_alloc_at _ _ _ _ rfl]; rfl
      have HB5 : Hid (Below w.heap.size w W5) := hid (by rw [hW5]; exact HW.out.alloc HW.out.size _)
      rw [← hW5]
      clear hW5 HW g0 g1
      generalize Wt.heap.size = tp at *
      obtain ⟨rb, ro, er, r1⟩ := HR.out W5 HB5.out j (by omega)
      subst er
      cases hem : x.toList.isEmpty
      · have KD := hid (KX.out W5 HB5.out (x, y))
        dsimp only at KD
        go_wp2_with fail
        refine KD.out.mono ?_
        rintro e w6 ⟨z, rfl, hb6, hz6⟩
        obtain ⟨i, rfl, hi, hs⟩ := HTh.out z hz6
        have HB6 := hid (bt HB5.out hb6)
        obtain ⟨rb', ro', er', q1⟩ := HR.out w6 HB6.out i (by omega)
        simp only [Option.some.injEq, Addr.mk.injEq, and_true] at er'
        obtain ⟨rfl, rfl⟩ := er'
        have q2 := bcl' hb6 r1
        have iz0 : ¬ ((i : Int) < 0) := by omega
        have iz1 : (i : Int) < (m : Int) := by omega
        have iy1 : (j : Int) < (m : Int) := by omega
        have HNo1 := hid (HNo.out i hem hi hs)
        have HO3 := hid (HO2.out hem i hz6)
        clear KD hb6 hz6 t0 t1 r1 HTh HB5 HNo HO2 HNc HO1 hs
        generalize row.getD i 0 = qv at *
        generalize row.getD j 0 = qw at *
        by_cases hq : qw = qv
        · have HF := hid (HOk.out (HO3.out hq))
          clear HOk HO3 HNo1
          go_wp2_with fail
          go_roundw
          case rel => exact ⟨j + 1, by omega, by go_num, HB6, HF⟩
          case measure => simp [intOf]; omega
        · have HF := hid (HNo1.out hq)
          clear HOk HO3 HNo1
          go_wp2_with fail
          go_ret
          exact ⟨(by rw [HF.out]; rfl), HB6.out⟩
      · have iy1 : (j : Int) < (m : Int) := by omega
        have HNc1 := hid (HNc.out hem)
        have HO3 := hid (HO1.out hem)
        clear HTh HNo HO2 HNc HO1 KX
        generalize row.getD j 0 = qw at *
        by_cases hq : qw = y
        · have HF := hid (HOk.out (HO3.out hq))
          clear HOk HO3 HNc1
          go_wp2_with fail
          go_roundw
          case rel => exact ⟨j + 1, by omega, by go_num, HB5, HF⟩
          case measure => simp [intOf]; omega
        · have HF := hid (HNc1.out hq)
          clear HOk HO3 HNc1
          go_wp2_with fail
          go_ret
          exact ⟨(by rw [HF.out]; rfl), HB5.out⟩
    · obtain rfl : j = n := by omega
      have i1 : ¬ ((j : Int) < (j : Int)) := by omega
      have HF : Hid (fitB ts row = true) := hid (fit_of_ok (by rw [← HN.out]; exact HZ.out) (by rw [← HN.out]; exact HH.out))
      clear HH HC HR HZ
      go_wp2_with fail
      go_ret
      exact ⟨(by rw [HF.out]; rfl), HW.out⟩

end Go.Proofs.YtegcpplkcahkhaaGreat
