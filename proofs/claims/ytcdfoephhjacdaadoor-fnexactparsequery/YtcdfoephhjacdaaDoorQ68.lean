import Derived.Test.YtcdfoephhjacdaaDoorQ21
import Derived.Test.YtcdfoephhjacdaaDoorQ40
/-
  The first place of a text in a list: spec.l3Place, told exactly.
-/
namespace Go.Proofs.YtcdfoephhjacdaaDoor
open Go.RowKit

/-- z: the first place of the text s, or -1 -/
def TxIx (L : List ByteArray) (s : ByteArray) (z : Int) : Prop :=
  (z = -1 ∧ ∀ i, i < L.length → ((L.getD i noTx).toList == s.toList) = false) ∨
  ∃ j : Nat, z = j ∧ j < L.length ∧ ((L.getD j noTx).toList == s.toList) = true ∧ ∀ i, i < j → ((L.getD i noTx).toList == s.toList) = false

theorem hasT_take {L : List ByteArray} {s : ByteArray} {k : Nat} (hk : k ≤ L.length) : hasT (L.take k) s = true ↔ ∃ i, i < k ∧ ((L.getD i noTx).toList == s.toList) = true := by
  unfold hasT
  rw [List.any_eq_true]
  constructor
  · rintro ⟨x, hx, e⟩
    obtain ⟨i, hi, ei⟩ := List.getElem_of_mem hx
    have hi' : i < k := by simp at hi; omega
    refine ⟨i, hi', ?_⟩
    rw [List.getElem_take] at ei
    rw [List.getD_eq_getElem?_getD, List.getElem?_eq_getElem (by omega), Option.getD_some, ei]
    exact e
  · rintro ⟨i, hi, e⟩
    refine ⟨L.getD i noTx, ?_, e⟩
    have h1 : i < L.length := by omega
    refine List.mem_of_getElem? (i := i) ?_
    rw [List.getElem?_take_of_lt hi, List.getD_eq_getElem?_getD, List.getElem?_eq_getElem h1, Option.getD_some]

/-- a text that is there: its first place is before k if it is among the first k -/
theorem TxIx.before {L : List ByteArray} {s : ByteArray} {z : Int} (h : TxIx L s z) {k : Nat} (hk : k < L.length) (e : ((L.getD k noTx).toList == s.toList) = true) : decide (z < (k : Int)) = hasT (L.take k) s := by
  rcases h with ⟨-, h⟩ | ⟨j, rfl, hj, h1, h2⟩
  · rw [h k hk] at e; cases e
  · by_cases hjk : j < k
    · rw [decide_eq_true (by omega), eq_comm, hasT_take (by omega)]
      exact ⟨j, hjk, h1⟩
    · rw [decide_eq_false (by omega), eq_comm, Bool.eq_false_iff]
      intro hh
      obtain ⟨i, hi, ei⟩ := (hasT_take (by omega)).1 hh
      rw [h2 i (by omega)] at ei; cases ei

theorem TxIx.has {L : List ByteArray} {s : ByteArray} {z : Int} (h : TxIx L s z) : decide (z < 0) = !hasT L s := by
  have ht := hasT_take (L := L) (s := s) (Nat.le_refl L.length)
  rw [List.take_length] at ht
  rcases h with ⟨rfl, h⟩ | ⟨j, rfl, hj, h1, h2⟩
  · have : hasT L s = false := by
      rw [Bool.eq_false_iff]
      intro hh
      obtain ⟨i, hi, ei⟩ := ht.1 hh
      rw [h i hi] at ei; cases ei
    rw [this]; rfl
  · rw [ht.2 ⟨j, hj, h1⟩, decide_eq_false (by omega)]; rfl

end Go.Proofs.YtcdfoephhjacdaaDoor

/-
  slices.Index, slices.Contains at lists of texts.
-/
namespace Go.Proofs.YtcdfoephhjacdaaDoor
open Go.RowKit

theorem beq_sym (a b : List UInt8) : (a == b) = (b == a) := by
  rw [Bool.eq_iff_iff, beq_iff_eq, beq_iff_eq]
  exact eq_comm

set_option maxHeartbeats 2000000 in
set_option maxRecDepth 1000000 in
theorem indexT_calls (w : World) (v : Value) (L : List ByteArray) (s : ByteArray) (h : ISt w v L) (hl : L.length ≤ 1099511627776000) :
    Calls Tryd.prog 147 #[v, .string s] w fun e w' => ∃ z : Int, e = .returned (.int .i64 z) ∧ w' = w ∧ TxIx L s z := by
  obtain ⟨a, cap, rfl, hc⟩ := h
  obtain ⟨n, hn⟩ : ∃ n, n = L.length := ⟨_, rfl⟩
  have HC := hid hc
  have HN := hid hn
  rw [← hn] at HC hl ⊢
  clear hc hn
  go_enter Tryd.func147, Tryd.ntmps147
  go_wp2
  go_loopw [8] (fun t wr => ∃ j : Nat, j ≤ n ∧ t = .int .i64 j ∧ wr = w ∧ Hid (∀ i, i < j → ((L.getD i noTx).toList == s.toList) = false)) (fun t _ => n - (intOf t).toNat)
  case atStart => exact ⟨0, Nat.zero_le _, rfl, rfl, hid (fun i hi => by omega)⟩
  case round =>
    obtain ⟨j, hj, rfl, hw, HH⟩ := hrel
    subst hw
    by_cases hjn : j < n
    · have i1 : (j : Int) < (n : Int) := by omega
      rcases HC.out with h0 | ⟨b, o, rfl, hcell⟩
      · omega
      · have c1 := hcell j hjn
        have HX : Hid (((L.getD j noTx).toList == s.toList) = true → TxIx L s j) := hid (fun h => Or.inr ⟨j, rfl, by rw [← HN.out]; exact hjn, h, HH.out⟩)
        have HY : Hid (((L.getD j noTx).toList == s.toList) = false → ∀ i, i < j + 1 → ((L.getD i noTx).toList == s.toList) = false) := hid (fun h i hi => by
          by_cases e : i = j
          · rw [e]; exact h
          · exact HH.out i (by omega))
        clear hcell HH
        generalize L.getD j noTx = x at *
        have hsym : (s.toList == x.toList) = (x.toList == s.toList) := beq_sym _ _
        cases hb : (x.toList == s.toList)
        · rw [hb] at hsym
          have HZ := hid (HY.out hb)
          clear HX HY
          go_wp2
          go_roundw
          case rel => exact ⟨j + 1, by omega, by go_num, by trivial, HZ⟩
          case measure => simp [intOf]; omega
        · rw [hb] at hsym
          have HZ := hid (HX.out hb)
          clear HX HY
          go_wp2
          go_ret
          exact ⟨_, rfl, rfl, HZ.out⟩
    · obtain rfl : j = n := by omega
      have i1 : ¬ ((j : Int) < (j : Int)) := by omega
      have HZ : Hid (TxIx L s (-1)) := hid (Or.inl ⟨rfl, fun i hi => HH.out i (by rw [HN.out]; exact hi)⟩)
      go_wp2
      go_ret
      exact ⟨_, rfl, rfl, HZ.out⟩

set_option maxHeartbeats 2000000 in
theorem containsT_calls (w : World) (v : Value) (L : List ByteArray) (s : ByteArray) (h : ISt w v L) (hl : L.length ≤ 1099511627776000) :
    Calls Tryd.prog 131 #[v, .string s] w fun e w' => e = .returned (.bool (hasT L s)) ∧ w' = w := by
  have K := hid (indexT_calls w v L s h hl)
  clear h hl
  go_enter Tryd.func131, Tryd.ntmps131
  go_wp2_with fail
  refine K.out.mono ?_
  rintro e w' ⟨z, rfl, hw', hz⟩
  subst w'
  have hh := hz.has
  clear hz K
  by_cases h0 : z < 0
  · have h1 : ¬ (0 ≤ z) := by omega
    rw [decide_eq_true h0] at hh
    have HZ : Hid (hasT L s = false) := hid (by revert hh; cases hasT L s <;> simp)
    go_wp2_with fail
    go_ret
    exact ⟨ret_bool (by rw [HZ.out]; exact decide_eq_false (by omega)), rfl⟩
  · have h1 : 0 ≤ z := by omega
    rw [decide_eq_false h0] at hh
    have HZ : Hid (hasT L s = true) := hid (by revert hh; cases hasT L s <;> simp)
    go_wp2_with fail
    go_ret
    exact ⟨ret_bool (by rw [HZ.out]), rfl⟩

end Go.Proofs.YtcdfoephhjacdaaDoor

/-
  The good shape of queries: spec.l3ShapeOK.
-/
namespace Go.Proofs.YtcdfoephhjacdaaDoor
open Go.RowKit

def termB (t : TermV) : Bool := if t.1.toList.isEmpty then decide (0 ≤ t.2) && decide (t.2 ≤ 1000000) else nameB t.1 && decide (t.2 = 0)
def atomB (a : AtomV) : Bool := nameB a.1 && decide (1 ≤ a.2.length) && a.2.all termB
def shapeB (q : QV) : Bool := nameB q.name && decide (0 ≤ q.ring) && decide (q.ring ≤ 3) && decide (1 ≤ q.atoms.length) && q.head.all nameB && q.atoms.all atomB

theorem all_get {α : Type} (p : α → Bool) (d : α) (l : List α) (h : ∀ i, i < l.length → p (l.getD i d) = true) : l.all p = true := by
  rw [List.all_eq_true]
  intro x hx
  obtain ⟨j, hj, e⟩ := List.getElem_of_mem hx
  have := h j hj
  rw [List.getD_eq_getElem?_getD, List.getElem?_eq_getElem hj] at this
  simp only [Option.getD_some] at this
  rw [← e]; exact this
theorem all_miss {α : Type} (p : α → Bool) (d : α) (l : List α) {j : Nat} (hj : j < l.length) (h : p (l.getD j d) = false) : l.all p = false := by
  rw [List.all_eq_false]
  refine ⟨l.getD j d, List.mem_of_getElem? (i := j) (by simp [List.getD_eq_getElem?_getD, hj]), by rw [h]; decide⟩

theorem shape_head {q : QV} {j : Nat} (hj : j < q.head.length) (h : nameB (q.head.getD j noTx) = false) : shapeB q = false := by
  unfold shapeB; rw [all_miss nameB noTx q.head hj h]; simp
theorem shape_atom {q : QV} {j : Nat} (hj : j < q.atoms.length) (h : atomB (q.atoms.getD j noAt) = false) : shapeB q = false := by
  unfold shapeB; rw [all_miss atomB noAt q.atoms hj h]; simp
theorem atom_term {a : AtomV} {j : Nat} (hj : j < a.2.length) (h : termB (a.2.getD j noTm) = false) : atomB a = false := by
  unfold atomB; rw [all_miss termB noTm a.2 hj h]; simp

theorem between_calls (w : World) (x lo hi : Int) : Calls Tryd.prog 68 #[.int .i64 x, .int .i64 lo, .int .i64 hi] w fun e w' => e = .returned (.bool (decide (lo ≤ x) && decide (x ≤ hi))) ∧ w' = w := by
  by_cases h1 : lo ≤ x
  · by_cases h2 : x ≤ hi
    · rw [decide_eq_true h1, decide_eq_true h2]
      go_enter Tryd.func68, Tryd.ntmps68
      go_wp2
      go_ret
      exact ⟨rfl, rfl⟩
    · rw [decide_eq_true h1, decide_eq_false h2]
      go_enter Tryd.func68, Tryd.ntmps68
      go_wp2
      go_ret
      exact ⟨rfl, rfl⟩
  · rw [decide_eq_false h1]
    go_enter Tryd.func68, Tryd.ntmps68
    go_wp2
    go_ret
    exact ⟨rfl, rfl⟩

end Go.Proofs.YtcdfoephhjacdaaDoor

/-
  spec.l3ShapeOK, walked.
-/
namespace Go.Proofs.YtcdfoephhjacdaaDoor
open Go.RowKit

end Go.Proofs.YtcdfoephhjacdaaDoor
