import Derived.Test.YtpdloenmplafiaaQueryTo2
import Derived.Test.YtpdloenmplafiaaPlaces
import Derived.Deep.OwnRows
/-
  The variables of a query in the order of their first places: spec.l3Place, l3Vars.
-/
namespace Go.Proofs.Ytpdloenmplafiaa
open Go.RowKit

def hasT (L : List ByteArray) (s : ByteArray) : Bool := L.any fun x => x.toList == s.toList
def addV (L : List ByteArray) (t : TermV) : List ByteArray := if t.1.toList.isEmpty || hasT L t.1 then L else L ++ [t.1]
/-- after i atoms -/
def VL (ats : List AtomV) (i : Nat) : List ByteArray := (ats.take i).foldl (fun L a => a.2.foldl addV L) []
/-- after i atoms and p terms of the next -/
def VT (ats : List AtomV) (i p : Nat) : List ByteArray := ((ats.getD i noAt).2.take p).foldl addV (VL ats i)

theorem VL_zero (ats : List AtomV) : VL ats 0 = [] := rfl
theorem VT_zero (ats : List AtomV) (i : Nat) : VT ats i 0 = VL ats i := rfl
theorem take_succ_getD {α : Type} (l : List α) (d : α) {i : Nat} (h : i < l.length) : l.take (i + 1) = l.take i ++ [l.getD i d] := by
  rw [List.take_add_one, List.getElem?_eq_getElem h]
  simp [List.getD_eq_getElem?_getD, h]
theorem VL_succ (ats : List AtomV) {i : Nat} (h : i < ats.length) : VL ats (i + 1) = VT ats i (ats.getD i noAt).2.length := by
  unfold VL VT
  rw [take_succ_getD ats noAt h, List.foldl_append, List.take_length]
  rfl
theorem VT_succ (ats : List AtomV) (i : Nat) {p : Nat} (h : p < (ats.getD i noAt).2.length) : VT ats i (p + 1) = addV (VT ats i p) ((ats.getD i noAt).2.getD p noTm) := by
  unfold VT
  rw [take_succ_getD _ noTm h, List.foldl_append]
  rfl
theorem addV_len (L : List ByteArray) (t : TermV) : (addV L t).length ≤ L.length + 1 := by
  unfold addV
  split
  · omega
  · simp
theorem VT_len (ats : List AtomV) (i p : Nat) : (VT ats i p).length ≤ (VL ats i).length + p := by
  induction p with
  | zero => rw [VT_zero]; omega
  | succ p ih =>
    by_cases h : p < (ats.getD i noAt).2.length
    · rw [VT_succ ats i h]
      have := addV_len (VT ats i p) ((ats.getD i noAt).2.getD p noTm)
      omega
    · have : VT ats i (p + 1) = VT ats i p := by
        unfold VT
        rw [List.take_of_length_le (by omega), List.take_of_length_le (by omega)]
      rw [this]; omega
theorem VL_len (ats : List AtomV) (hk : ∀ j, j < ats.length → (ats.getD j noAt).2.length ≤ 1048576) (i : Nat) (hi : i ≤ ats.length) : (VL ats i).length ≤ i * 1048576 := by
  induction i with
  | zero => rw [VL_zero]; simp
  | succ i ih =>
    rw [VL_succ ats (by omega)]
    have h1 := VT_len ats i (ats.getD i noAt).2.length
    have h2 := hk i (by omega)
    have h3 := ih (by omega)
    omega

set_option maxHeartbeats 2000000 in
set_option maxRecDepth 1000000 in
theorem l3Place_calls (w : World) (v : Value) (L : List ByteArray) (s : ByteArray) (h : ISt w v L) (hl : L.length ≤ 1099511627776000) :
    Calls Try.prog 127 #[v, .string s] w fun e w' => ∃ z : Int, e = .returned (.int .i64 z) ∧ w' = w ∧ (hasT L s = true → 0 ≤ z) ∧ (hasT L s = false → z = -1) := by
  obtain ⟨a, cap, rfl, hc⟩ := h
  obtain ⟨n, hn⟩ : ∃ n, n = L.length := ⟨_, rfl⟩
  have HC := hid hc
  have HN := hid hn
  rw [← hn] at HC hl ⊢
  clear hc hn
  go_enter Try.func127, Try.ntmps127
  go_wp2
  go_loopw [9] (fun t wr => ∃ j : Nat, j ≤ n ∧ t = .int .i64 j ∧ wr = w ∧ Hid (∀ i, i < j → ((L.getD i noTx).toList == s.toList) = false)) (fun t _ => n - (intOf t).toNat)
  case atStart => exact ⟨0, Nat.zero_le _, rfl, rfl, hid (fun i hi => by omega)⟩
  case round =>
    obtain ⟨j, hj, rfl, hw, HH⟩ := hrel
    subst hw
    by_cases hjn : j < n
    · have i1 : (j : Int) < (n : Int) := by omega
      rcases HC.out with h0 | ⟨b, o, rfl, hcell⟩
      · omega
      · have c1 := hcell j hjn
        have HX : Hid (((L.getD j noTx).toList == s.toList) = true → hasT L s = true) := hid (fun h => by
          unfold hasT
          rw [List.any_eq_true]
          refine ⟨L.getD j noTx, List.mem_of_getElem? (i := j) ?_, h⟩
          have : j < L.length := by rw [← HN.out]; exact hjn
          simp [List.getD_eq_getElem?_getD, this])
        have HY : Hid (((L.getD j noTx).toList == s.toList) = false → ∀ i, i < j + 1 → ((L.getD i noTx).toList == s.toList) = false) := hid (fun h i hi => by
          by_cases e : i = j
          · rw [e]; exact h
          · exact HH.out i (by omega))
        clear hcell HH
        generalize L.getD j noTx = x at *
        cases hb : (x.toList == s.toList)
        · have HZ := hid (HY.out hb)
          clear HX HY
          go_wp2
          go_roundw
          case rel => exact ⟨j + 1, by omega, by go_num, by trivial, HZ⟩
          case measure => simp [intOf]; omega
        · have HZ := hid (HX.out hb)
          clear HX HY
          go_wp2
          go_ret
          exact ⟨_, rfl, rfl, (fun _ => by omega), (fun h => by rw [HZ.out] at h; cases h)⟩
    · obtain rfl : j = n := by omega
      have i1 : ¬ ((j : Int) < (j : Int)) := by omega
      have HZ : Hid (hasT L s = false) := hid (by
        unfold hasT
        rw [List.any_eq_false]
        intro x hx
        obtain ⟨i, hi, e⟩ := List.getElem_of_mem hx
        have := HH.out i (by rw [HN.out]; exact hi)
        rw [List.getD_eq_getElem?_getD, List.getElem?_eq_getElem hi] at this
        simp only [Option.getD_some] at this
        rw [e] at this
        rw [this]; decide)
      go_wp2
      go_ret
      exact ⟨_, rfl, rfl, (fun h => by rw [HZ.out] at h; cases h), (fun _ => rfl)⟩

end Go.Proofs.Ytpdloenmplafiaa
