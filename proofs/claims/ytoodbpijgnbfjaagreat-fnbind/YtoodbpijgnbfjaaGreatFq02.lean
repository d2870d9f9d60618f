import Derived.Deep.RegionHeld3
import Derived.Test.YtoodbpijgnbfjaaGreatFq00
namespace Go.Proofs.YtoodbpijgnbfjaaGreat
open Go.RowKit

def tableB (vs : List Int) (rows : List (List Int)) (ws : List Int) : Bool := setB vs && decide (rows.length ≤ 10000) && rowsB rows vs.length && decide (ws.length = rows.length)

structure IT (w : World) (v0 v1 v2 : Value) (vs : List Int) (rows : List (List Int)) (ws : List Int) : Prop where
  vs : IS w v0 vs
  rows : ISS w v1 rows
  ws : IS w v2 ws

theorem IT.below {w w' : World} {v0 v1 v2 : Value} {vs ws : List Int} {rows : List (List Int)} (h : IT w v0 v1 v2 vs rows ws) (hb : Below w.heap.size w w') : IT w' v0 v1 v2 vs rows ws :=
  ⟨h.vs.below hb, h.rows.below hb, h.ws.below hb⟩

end Go.Proofs.YtoodbpijgnbfjaaGreat

namespace Go.Proofs.YtoodbpijgnbfjaaGreat
open Go.RowKit

theorem tableB_cases (vs : List Int) (rows : List (List Int)) (ws : List Int) :
    (setB vs = false ∧ tableB vs rows ws = false) ∨ (setB vs = true ∧ 10000 < rows.length ∧ tableB vs rows ws = false) ∨ (setB vs = true ∧ rows.length ≤ 10000 ∧ rowsB rows vs.length = false ∧ tableB vs rows ws = false) ∨
    (setB vs = true ∧ rows.length ≤ 10000 ∧ rowsB rows vs.length = true ∧ tableB vs rows ws = decide (ws.length = rows.length)) := by
  unfold tableB
  cases h1 : setB vs
  · left; simp
  · right
    by_cases h2 : 10000 < rows.length
    · left; simp; omega
    · right
      have h3 : decide (rows.length ≤ 10000) = true := by simp; omega
      cases h4 : rowsB rows vs.length
      · left; simp; omega
      · right; simp [h3]; omega

theorem dec_len (a b : Nat) : decide ((a : Int) = (b : Int)) = decide (a = b) := by
  by_cases h : a = b
  · simp [h]
  · rw [decide_eq_false h, decide_eq_false (by omega)]

set_option maxHeartbeats 2000000 in
set_option maxRecDepth 1000000 in
theorem tableOK_calls (w : World) (v0 v1 v2 : Value) (vs : List Int) (rows : List (List Int)) (ws : List Int) (h : IT w v0 v1 v2 vs rows ws) (hv : vs.length ≤ 1099511627776) (hr : Short rows) :
    Calls Tryz.prog 31 #[.agg #[v0, v1, v2]] w fun e w' => e = .returned (.bool (tableB vs rows ws)) ∧ Below w.heap.size w w' := by
  have HB : Hid (Below w.heap.size w (w.alloc (.cells #[v0, v1, v2] 71))) := hid ((Below.refl _ _).alloc (Nat.le_refl _) _)
  have K0 := hid (isVariableSet_calls (w.alloc (.cells #[v0, v1, v2] 71)) v0 vs (h.vs.below HB.out) hv)
  have K1 := hid (areSortedRows_calls (w.alloc (.cells #[v0, v1, v2] 71)) v1 rows vs.length (h.rows.below HB.out) hr)
  have hr1 := hr.1
  obtain ⟨a0, k0, rfl, -⟩ := h.vs
  obtain ⟨a1, k1, rfl, -⟩ := h.rows
  obtain ⟨a2, k2, rfl, -⟩ := h.ws
  have hcs := tableB_cases vs rows ws
  clear h hr
  generalize tableB vs rows ws = res at *
  rcases hcs with ⟨c0, c1⟩ | ⟨c0, c1, c2⟩ | ⟨c0, c1, c2, c3⟩ | ⟨c0, c1, c2, c3⟩
  · rw [c0] at K0
    clear K1
    subst c1
    generalize vs.length = n0 at *
    generalize rows.length = n1 at *
    go_enter Tryz.func31, Tryz.ntmps31
    go_wp2_with (first | (go_at_call 56; refine K0.out.mono ?_; rintro e w' ⟨rfl, hw'⟩; subst w'))
    go_ret
    exact ⟨rfl, HB.out⟩
  · rw [c0] at K0
    clear K1
    subst c2
    generalize vs.length = n0 at *
    generalize rows.length = n1 at *
    have i1 : ¬ ((n1 : Int) ≤ 10000) := by omega
    go_enter Tryz.func31, Tryz.ntmps31
    go_wp2_with (first | (go_at_call 56; refine K0.out.mono ?_; rintro e w' ⟨rfl, hw'⟩; subst w'))
    go_ret
    exact ⟨rfl, HB.out⟩
  · rw [c0] at K0
    rw [c2] at K1
    subst c3
    generalize vs.length = n0 at *
    generalize rows.length = n1 at *
    have i1 : (n1 : Int) ≤ 10000 := by omega
    go_enter Tryz.func31, Tryz.ntmps31
    go_wp2_with (first | (go_at_call 56; refine K0.out.mono ?_; rintro e w' ⟨rfl, hw'⟩; subst w') | (go_at_call 57; refine K1.out.mono ?_; rintro e w' ⟨rfl, hw'⟩; subst w'))
    go_ret
    exact ⟨rfl, HB.out⟩
  · rw [c0] at K0
    rw [c2] at K1
    rw [← dec_len] at c3
    have HE := hid c3
    clear c3
    generalize vs.length = n0 at *
    generalize rows.length = n1 at *
    generalize ws.length = n2 at *
    have i1 : (n1 : Int) ≤ 10000 := by omega
    go_enter Tryz.func31, Tryz.ntmps31
    go_wp2_with (first | (go_at_call 56; refine K0.out.mono ?_; rintro e w' ⟨rfl, hw'⟩; subst w') | (go_at_call 57; refine K1.out.mono ?_; rintro e w' ⟨rfl, hw'⟩; subst w'))
    go_ret
    exact ⟨ret_bool (by rw [HE.out]; rfl), HB.out⟩

end Go.Proofs.YtoodbpijgnbfjaaGreat

namespace Go.Proofs.YtoodbpijgnbfjaaGreat
open Go.RowKit

def letterB (x : Int) : Bool := (decide (65 ≤ x) && decide (x ≤ 90)) || (decide (97 ≤ x) && decide (x ≤ 122))
def digitB (x : Int) : Bool := decide (48 ≤ x) && decide (x ≤ 57)
def nbyteB (x : Int) : Bool := letterB x || digitB x || decide (x = 95)

theorem beq_dec (x y : Int) : (x == y) = decide (x = y) := by
  by_cases h : x = y
  · simp [h]
  · rw [decide_eq_false h]; simpa using h

set_option maxHeartbeats 1000000 in
theorem isLetter_calls (w : World) (x : Int) : Calls Tryz.prog 98 #[.int .u8 x] w fun e w' => e = .returned (.bool (letterB x)) ∧ w' = w := by
  by_cases h1 : 65 ≤ x <;> by_cases h2 : x ≤ 90 <;> by_cases h3 : 97 ≤ x <;> by_cases h4 : x ≤ 122
  all_goals first | omega | skip
  all_goals
    go_enter Tryz.func98, Tryz.ntmps98
    go_wp2
    go_ret
    exact ⟨ret_bool (by unfold letterB; simp [h1, h2, h3, h4]), rfl⟩

set_option maxHeartbeats 1000000 in
theorem l2Letter_calls (w : World) (x : Int) : Calls Tryz.prog 54 #[.int .u8 x] w fun e w' => e = .returned (.bool (letterB x)) ∧ w' = w := by
  by_cases h1 : 65 ≤ x <;> by_cases h2 : x ≤ 90 <;> by_cases h3 : 97 ≤ x <;> by_cases h4 : x ≤ 122
  all_goals first | omega | skip
  all_goals
    go_enter Tryz.func54, Tryz.ntmps54
    go_wp2
    go_ret
    exact ⟨ret_bool (by unfold letterB; simp [h1, h2, h3, h4]), rfl⟩

set_option maxHeartbeats 1000000 in
theorem isDigit_calls (w : World) (x : Int) : Calls Tryz.prog 119 #[.int .u8 x] w fun e w' => e = .returned (.bool (digitB x)) ∧ w' = w := by
  by_cases h1 : 48 ≤ x <;> by_cases h2 : x ≤ 57
  all_goals first | omega | skip
  all_goals
    go_enter Tryz.func119, Tryz.ntmps119
    go_wp2
    go_ret
    exact ⟨ret_bool (by unfold digitB; simp [h1, h2]), rfl⟩

set_option maxHeartbeats 1000000 in
theorem l2Digit_calls (w : World) (x : Int) : Calls Tryz.prog 55 #[.int .u8 x] w fun e w' => e = .returned (.bool (digitB x)) ∧ w' = w := by
  by_cases h1 : 48 ≤ x <;> by_cases h2 : x ≤ 57
  all_goals first | omega | skip
  all_goals
    go_enter Tryz.func55, Tryz.ntmps55
    go_wp2
    go_ret
    exact ⟨ret_bool (by unfold digitB; simp [h1, h2]), rfl⟩

set_option maxHeartbeats 1000000 in
theorem isNameByte_calls (w : World) (x : Int) : Calls Tryz.prog 99 #[.int .u8 x] w fun e w' => e = .returned (.bool (nbyteB x)) ∧ w' = w := by
  have K1 := hid (isLetter_calls w x)
  have K2 := hid (isDigit_calls w x)
  unfold nbyteB
  cases h1 : letterB x <;> cases h2 : digitB x
  all_goals
    rw [h1] at K1
    rw [h2] at K2
    go_enter Tryz.func99, Tryz.ntmps99
    go_wp2_with (first | (go_at_call 98; refine K1.out.mono ?_; rintro e w' ⟨rfl, hw'⟩; subst w') | (go_at_call 119; refine K2.out.mono ?_; rintro e w' ⟨rfl, hw'⟩; subst w'))
    go_ret
    exact ⟨ret_bool (by simp [beq_dec]), rfl⟩

def byteAt (s : ByteArray) (i : Nat) : Int := ((s.data.toList.getD i 0).toNat : Int)
def nameB (s : ByteArray) : Bool := decide (1 ≤ s.size) && decide (s.size ≤ 30) && letterB (byteAt s 0) && (List.range s.size).all fun i => nbyteB (byteAt s i)

theorem byteAt_eq (s : ByteArray) (i : Nat) (h : i < s.size) : byteAt s i = ((s[i]'h).toNat : Int) := by
  unfold byteAt
  obtain ⟨⟨l⟩⟩ := s
  have h' : i < l.length := h
  simp only [List.getD_eq_getElem?_getD, List.getElem?_eq_getElem h', Option.getD_some]
  rfl

theorem nameB_all {s : ByteArray} (h0 : 1 ≤ s.size) (h1 : s.size ≤ 30) (h2 : letterB (byteAt s 0) = true) (h3 : ∀ i, i < s.size → nbyteB (byteAt s i) = true) : nameB s = true := by
  unfold nameB
  rw [decide_eq_true h0, decide_eq_true h1, h2, Bool.true_and, Bool.true_and, Bool.true_and, List.all_eq_true]
  intro i hi
  exact h3 i (by simpa using hi)
theorem nameB_bad {s : ByteArray} {i : Nat} (hi : i < s.size) (h3 : nbyteB (byteAt s i) = false) : nameB s = false := by
  unfold nameB
  rw [show ((List.range s.size).all fun i => nbyteB (byteAt s i)) = false from List.all_eq_false.2 ⟨i, by simpa using hi, by rw [h3]; decide⟩, Bool.and_false]

theorem not_empty {s : ByteArray} (h : s.size ≠ 0) : s.toList.isEmpty = false := by
  rw [ByteArray.toList_eq]
  obtain ⟨⟨l⟩⟩ := s
  simp [ByteArray.size] at h
  cases l with
  | nil => exact absurd rfl h
  | cons a l => rfl

set_option maxHeartbeats 2000000 in
set_option maxRecDepth 1000000 in
theorem isName_calls (w : World) (s : ByteArray) (hs : s.size ≤ 9223372036854775807) : Calls Tryz.prog 69 #[.string s] w fun e w' => e = .returned (.bool (nameB s)) ∧ w' = w := by
  by_cases h0 : s.size = 0
  · have e0 : nameB s = false := by simp [nameB, h0]
    rw [e0]
    have e1 : s = ⟨#[]⟩ := by
      obtain ⟨⟨l⟩⟩ := s
      simp [ByteArray.size] at h0
      simp [h0]
    subst e1
    go_enter Tryz.func69, Tryz.ntmps69
    go_wp2
    go_ret
    exact ⟨rfl, rfl⟩
  have hne := not_empty h0
  by_cases h1 : 30 < s.size
  · have e0 : nameB s = false := by unfold nameB; rw [decide_eq_false (show ¬ s.size ≤ 30 by omega)]; simp
    rw [e0]
    have i1 : (30 : Int) < (s.size : Int) := by omega
    go_enter Tryz.func69, Tryz.ntmps69
    go_wp2
    go_ret
    exact ⟨rfl, rfl⟩
  have i1 : ¬ ((30 : Int) < (s.size : Int)) := by omega
  have i0 : (0 : Int) < (s.size : Int) := by omega
  have hp0 : 0 < s.size := by omega
  have hb0 := byteAt_eq s 0 hp0
  cases h2 : letterB (byteAt s 0)
  · have e0 : nameB s = false := by unfold nameB; rw [h2]; simp
    rw [e0]
    rw [hb0] at h2
    go_enter Tryz.func69, Tryz.ntmps69
    go_wp2_with (first | (go_at_call 98; refine (isLetter_calls _ _).mono ?_; rintro e w' ⟨rfl, hw'⟩; subst w'))
    go_ret
    exact ⟨rfl, rfl⟩
  obtain ⟨res, hres⟩ : ∃ r, r = nameB s := ⟨_, rfl⟩
  rw [← hres]
  have HT : Hid ((∀ i, i < s.size → nbyteB (byteAt s i) = true) → res = true) := hid (fun h3 => hres.trans (nameB_all (by omega) (by omega) h2 h3))
  have HF : Hid (∀ i, i < s.size → nbyteB (byteAt s i) = false → res = false) := hid (fun i hi h3 => hres.trans (nameB_bad hi h3))
  obtain ⟨n, hn⟩ : ∃ n, n = s.size := ⟨_, rfl⟩
  rw [← hn] at HT HF
  rw [hb0] at h2
  clear hres
  go_enter Tryz.func69, Tryz.ntmps69
  go_wp2_with (first | (go_at_call 98; refine (isLetter_calls _ _).mono ?_; rintro e w' ⟨rfl, hw'⟩; subst w'))
  go_loop [19] (fun t => ∃ j : Nat, j ≤ n ∧ t = .int .i64 j ∧ Hid (∀ i, i < j → nbyteB (byteAt s i) = true)) (fun t => n - (intOf t).toNat)
  case atStart => exact ⟨0, Nat.zero_le _, rfl, hid (fun i hi => by omega)⟩
  case round =>
    obtain ⟨j, hj, rfl, hok⟩ := hrel
    by_cases hjn : j < n
    · have j1 : (j : Int) < (s.size : Int) := by omega
      have hbj := byteAt_eq s j (by omega)
      have nxt : nbyteB (byteAt s j) = true → Hid (∀ i, i < j + 1 → nbyteB (byteAt s i) = true) := fun e i hi => by
        by_cases e2 : i = j
        · rw [e2]; exact e
        · exact hok.out i (by omega)
      have fin := HF.out j hjn
      clear hok
      rw [hbj] at nxt fin
      cases hy : nbyteB ((s[j]'(by omega)).toNat : Int)
      · have hf := hid (fin hy)
        clear nxt fin
        go_wp2_with (first | (go_at_call 99; refine (isNameByte_calls _ _).mono ?_; rintro e w' ⟨rfl, hw'⟩; subst w'))
        go_ret
        exact ⟨ret_bool (by rw [hf.out]), rfl⟩
      · have hf := nxt hy
        clear nxt fin
        go_wp2_with (first | (go_at_call 99; refine (isNameByte_calls _ _).mono ?_; rintro e w' ⟨rfl, hw'⟩; subst w'))
        go_round
        case rel => exact ⟨j + 1, by omega, by go_num, hf⟩
        case measure => simp [intOf]; omega
    · obtain rfl : j = n := by omega
      have j1 : ¬ ((j : Int) < (s.size : Int)) := by omega
      have hf := hid (HT.out hok.out)
      clear hok
      go_wp2
      go_ret
      exact ⟨ret_bool (by rw [hf.out]), rfl⟩

end Go.Proofs.YtoodbpijgnbfjaaGreat

namespace Go.Proofs.YtoodbpijgnbfjaaGreat
open Go.RowKit

set_option maxHeartbeats 2000000 in
set_option maxRecDepth 1000000 in
theorem l2Name_calls (w : World) (s : ByteArray) (hs : s.size ≤ 9223372036854775807) : Calls Tryz.prog 29 #[.string s] w fun e w' => e = .returned (.bool (nameB s)) ∧ w' = w := by
  by_cases h0 : s.size = 0
  · have e0 : nameB s = false := by simp [nameB, h0]
    rw [e0]
    have i1 : (s.size : Int) < 1 := by omega
    go_enter Tryz.func29, Tryz.ntmps29
    go_wp2
    go_ret
    exact ⟨rfl, rfl⟩
  have iz : ¬ ((s.size : Int) < 1) := by omega
  by_cases h1 : 30 < s.size
  · have e0 : nameB s = false := by unfold nameB; rw [decide_eq_false (show ¬ s.size ≤ 30 by omega)]; simp
    rw [e0]
    have i1 : (30 : Int) < (s.size : Int) := by omega
    go_enter Tryz.func29, Tryz.ntmps29
    go_wp2
    go_ret
    exact ⟨rfl, rfl⟩
  have i1 : ¬ ((30 : Int) < (s.size : Int)) := by omega
  have i0 : (0 : Int) < (s.size : Int) := by omega
  have hp0 : 0 < s.size := by omega
  have hb0 := byteAt_eq s 0 hp0
  cases h2 : letterB (byteAt s 0)
  · have e0 : nameB s = false := by unfold nameB; rw [h2]; simp
    rw [e0]
    rw [hb0] at h2
    go_enter Tryz.func29, Tryz.ntmps29
    go_wp2_with (first | (go_at_call 54; refine (l2Letter_calls _ _).mono ?_; rintro e w' ⟨rfl, hw'⟩; subst w'))
    go_ret
    exact ⟨rfl, rfl⟩
  obtain ⟨res, hres⟩ : ∃ r, r = nameB s := ⟨_, rfl⟩
  rw [← hres]
  have HT : Hid ((∀ i, i < s.size → nbyteB (byteAt s i) = true) → res = true) := hid (fun h3 => hres.trans (nameB_all (by omega) (by omega) h2 h3))
  have HF : Hid (∀ i, i < s.size → nbyteB (byteAt s i) = false → res = false) := hid (fun i hi h3 => hres.trans (nameB_bad hi h3))
  obtain ⟨n, hn⟩ : ∃ n, n = s.size := ⟨_, rfl⟩
  rw [← hn] at HT HF
  rw [hb0] at h2
  clear hres
  go_enter Tryz.func29, Tryz.ntmps29
  go_wp2_with (first | (go_at_call 54; refine (l2Letter_calls _ _).mono ?_; rintro e w' ⟨rfl, hw'⟩; subst w'))
  go_loop [3] (fun t => ∃ j : Nat, j ≤ n ∧ t = .int .i64 j ∧ Hid (∀ i, i < j → nbyteB (byteAt s i) = true)) (fun t => n - (intOf t).toNat)
  case atStart => exact ⟨0, Nat.zero_le _, rfl, hid (fun i hi => by omega)⟩
  case round =>
    obtain ⟨j, hj, rfl, hok⟩ := hrel
    by_cases hjn : j < n
    · have j1 : (j : Int) < (s.size : Int) := by omega
      have hbj := byteAt_eq s j (by omega)
      have nxt : nbyteB (byteAt s j) = true → Hid (∀ i, i < j + 1 → nbyteB (byteAt s i) = true) := fun e i hi => by
        by_cases e2 : i = j
        · rw [e2]; exact e
        · exact hok.out i (by omega)
      have fin := HF.out j hjn
      clear hok
      rw [hbj] at nxt fin
      unfold nbyteB at nxt fin
      cases hy : letterB ((s[j]'(by omega)).toNat : Int)
      · cases hz : digitB ((s[j]'(by omega)).toNat : Int)
        · by_cases hu : ((s[j]'(by omega)).toNat : Int) = 95
          · have hf := nxt (by rw [hy, hz, decide_eq_true hu]; rfl)
            have hu2 : (((s[j]'(by omega)).toNat : Int) != 95) = false := by simpa using hu
            clear nxt fin
            go_wp2_with (first | (go_at_call 54; refine (l2Letter_calls _ _).mono ?_; rintro e w' ⟨rfl, hw'⟩; subst w') | (go_at_call 55; refine (l2Digit_calls _ _).mono ?_; rintro e w' ⟨rfl, hw'⟩; subst w'))
            go_round
            case rel => exact ⟨j + 1, by omega, by go_num, hf⟩
            case measure => simp [intOf]; omega
          · have hf := hid (fin (by rw [hy, hz, decide_eq_false hu]; rfl))
            have hu2 : (((s[j]'(by omega)).toNat : Int) != 95) = true := by simpa using hu
            clear nxt fin
            go_wp2_with (first | (go_at_call 54; refine (l2Letter_calls _ _).mono ?_; rintro e w' ⟨rfl, hw'⟩; subst w') | (go_at_call 55; refine (l2Digit_calls _ _).mono ?_; rintro e w' ⟨rfl, hw'⟩; subst w'))
            go_ret
            exact ⟨ret_bool (by rw [hf.out]), rfl⟩
        · have hf := nxt (by rw [hy, hz]; rfl)
          clear nxt fin
          go_wp2_with (first | (go_at_call 54; refine (l2Letter_calls _ _).mono ?_; rintro e w' ⟨rfl, hw'⟩; subst w') | (go_at_call 55; refine (l2Digit_calls _ _).mono ?_; rintro e w' ⟨rfl, hw'⟩; subst w'))
          go_round
          case rel => exact ⟨j + 1, by omega, by go_num, hf⟩
          case measure => simp [intOf]; omega
      · have hf := nxt (by rw [hy]; rfl)
        clear nxt fin
        go_wp2_with (first | (go_at_call 54; refine (l2Letter_calls _ _).mono ?_; rintro e w' ⟨rfl, hw'⟩; subst w'))
        go_round
        case rel => exact ⟨j + 1, by omega, by go_num, hf⟩
        case measure => simp [intOf]; omega
    · obtain rfl : j = n := by omega
      have j1 : ¬ ((j : Int) < (s.size : Int)) := by omega
      have hf := hid (HT.out hok.out)
      clear hok
      go_wp2
      go_ret
      exact ⟨ret_bool (by rw [hf.out]), rfl⟩

def relName (s : ByteArray) : Bool := nameB s && !(s.toList == [114, 101, 108])

set_option maxHeartbeats 1000000 in
theorem isRelationName_calls (w : World) (s : ByteArray) (hs : s.size ≤ 9223372036854775807) : Calls Tryz.prog 94 #[.string s] w fun e w' => e = .returned (.bool (relName s)) ∧ w' = w := by
  have K := hid (isName_calls w s hs)
  unfold relName
  generalize nameB s = y at *
  cases y
  all_goals
    go_enter Tryz.func94, Tryz.ntmps94
    go_wp2_with (first | (go_at_call 69; refine K.out.mono ?_; rintro e w' ⟨rfl, hw'⟩; subst w'))
    go_ret
    exact ⟨ret_bool (by simp), rfl⟩

def arityB (n : Int) : Bool := decide (1 ≤ n) && decide (n ≤ 3)

set_option maxHeartbeats 1000000 in
theorem isArity_calls (w : World) (n : Int) : Calls Tryz.prog 95 #[.int .i64 n] w fun e w' => e = .returned (.bool (arityB n)) ∧ w' = w := by
  by_cases h1 : 1 ≤ n <;> by_cases h2 : n ≤ 3
  all_goals first | omega | skip
  all_goals
    go_enter Tryz.func95, Tryz.ntmps95
    go_wp2
    go_ret
    exact ⟨ret_bool (by unfold arityB; simp [h1, h2]), rfl⟩

def valB (x : Int) : Bool := decide (0 ≤ x) && decide (x ≤ 1000000)
def wtB (x : Int) : Bool := decide (-1000000 ≤ x) && decide (x ≤ 1000000)

set_option maxHeartbeats 2000000 in
set_option maxRecDepth 1000000 in
theorem areWeights_calls (w : World) (v : Value) (l : List Int) (h : IS w v l) (hl : l.length ≤ 1099511627776) :
    Calls Tryz.prog 97 #[v] w fun e w' => e = .returned (.bool (l.all wtB)) ∧ w' = w := by
  obtain ⟨a, cap, rfl, hc⟩ := h
  obtain ⟨n, hn⟩ : ∃ n, n = l.length := ⟨_, rfl⟩
  obtain ⟨res, hres⟩ : ∃ r, r = l.all wtB := ⟨_, rfl⟩
  rw [← hres]
  have HR := hid hres
  rw [← hn] at hc hl ⊢
  have HC := hid hc
  have HN := hid hn
  clear hc hn hres
  go_enter Tryz.func97, Tryz.ntmps97
  go_wp2
  go_loop [7] (fun t => ∃ j : Nat, j ≤ n ∧ t = .int .i64 j ∧ Hid (∀ i, i < j → wtB (l.getD i 0) = true)) (fun t => n - (intOf t).toNat)
  case atStart => exact ⟨0, Nat.zero_le _, rfl, hid (fun i hi => by omega)⟩
  case round =>
    obtain ⟨j, hj, rfl, hok⟩ := hrel
    by_cases hjn : j < n
    · have i1 : (j : Int) < (n : Int) := by omega
      rcases HC.out with h0 | ⟨b, o, rfl, hcell⟩
      · omega
      · have c1 : w.cell? ⟨b, o + j, none⟩ = some (.int .i64 (l.getD j 0)) := hcell j hjn
        have fin : wtB (l.getD j 0) = false → Hid (res = false) := fun e => hid (HR.out.trans (all_getD_false wtB 0 l j (by rw [← HN.out]; exact hjn) e))
        have nxt : wtB (l.getD j 0) = true → Hid (∀ i, i < j + 1 → wtB (l.getD i 0) = true) := fun e i hi => by
          by_cases e2 : i = j
          · rw [e2]; exact e
          · exact hok.out i (by omega)
        clear hcell hok
        generalize l.getD j 0 = x at *
        unfold wtB at nxt fin
        by_cases h1 : x < -1000000
        · have hf := fin (by rw [decide_eq_false (by omega)]; rfl)
          clear fin nxt
          go_wp2
          go_ret
          exact ⟨ret_bool (by rw [hf.out]), rfl⟩
        · by_cases h2 : 1000000 < x
          · have hf := fin (by rw [decide_eq_false (show ¬ x ≤ 1000000 by omega)]; simp)
            clear fin nxt
            go_wp2
            go_ret
            exact ⟨ret_bool (by rw [hf.out]), rfl⟩
          · have hf := nxt (by rw [decide_eq_true (by omega), decide_eq_true (by omega)]; rfl)
            clear fin nxt
            go_wp2
            go_round
            case rel => exact ⟨j + 1, by omega, by go_num, hf⟩
            case measure => simp [intOf]; omega
    · obtain rfl : j = n := by omega
      have hf : Hid (res = true) := hid (HR.out.trans (all_getD wtB 0 l (fun i hi => hok.out i (by rw [HN.out]; exact hi))))
      have i1 : ¬ ((j : Int) < (j : Int)) := by omega
      clear hok
      go_wp2
      go_ret
      exact ⟨ret_bool (by rw [hf.out]), rfl⟩

set_option maxHeartbeats 2000000 in
set_option maxRecDepth 1000000 in
theorem areValues_calls (w : World) (ve : Value) (ls : List (List Int)) (h : ISS w ve ls) (hl : Short ls) :
    Calls Tryz.prog 96 #[ve] w fun e w' => e = .returned (.bool (ls.all fun l => l.all valB)) ∧ w' = w := by
  obtain ⟨a, cap, rfl, hc⟩ := h
  obtain ⟨hl1, hl2⟩ := hl
  obtain ⟨n, hn⟩ : ∃ n, n = ls.length := ⟨_, rfl⟩
  obtain ⟨res, hres⟩ : ∃ r, r = ls.all fun l => l.all valB := ⟨_, rfl⟩
  rw [← hres]
  rw [← hn] at hc hl1 ⊢
  have HR := hid hres
  have HC := hid hc
  have HN := hid hn
  have HL := hid hl2
  clear hc hn hl2 hres
  go_enter Tryz.func96, Tryz.ntmps96
  go_wp2
  go_loop [9] (fun t => ∃ j : Nat, j ≤ n ∧ t = .int .i64 j ∧ Hid (∀ i, i < j → (ls.getD i []).all valB = true)) (fun t => n - (intOf t).toNat)
  case atStart => exact ⟨0, Nat.zero_le _, rfl, hid (fun i hi => by omega)⟩
  case round =>
    obtain ⟨j, hj, rfl, hok⟩ := hrel
    by_cases hjn : j < n
    · have i1 : (j : Int) < (n : Int) := by omega
      rcases HC.out with h0 | ⟨b, o, rfl, hcell⟩
      · omega
      · obtain ⟨u, c1, hu⟩ := hcell j hjn
        have hml := HL.out j
        obtain ⟨a1, cap1, rfl, hu2⟩ := hu
        have HU := hid hu2
        have HF : Hid (∀ i, i < (ls.getD j []).length → valB ((ls.getD j []).getD i 0) = false → res = false) := hid (fun i hi e => HR.out.trans (all_getD_false (fun l => l.all valB) [] ls j (by rw [← HN.out]; exact hjn) (all_getD_false valB 0 _ i hi e)))
        have HX : Hid ((∀ k, k < (ls.getD j []).length → valB ((ls.getD j []).getD k 0) = true) → ∀ i, i < j + 1 → (ls.getD i []).all valB = true) := hid (fun e i hi => by
          by_cases e2 : i = j
          · rw [e2]; exact all_getD valB 0 _ e
          · exact hok.out i (by omega))
        clear hcell hok hu2
        generalize ls.getD j [] = l at *
        obtain ⟨m, hm⟩ : ∃ m, m = l.length := ⟨_, rfl⟩
        rw [← hm] at c1 hml HU HF HX
        clear hm
        go_wp2
        go_loop [15] (fun t => ∃ i : Nat, i ≤ m ∧ t = .int .i64 i ∧ Hid (∀ k, k < i → valB (l.getD k 0) = true)) (fun t => m - (intOf t).toNat)
        case atStart => exact ⟨0, Nat.zero_le _, rfl, hid (fun k hk => by omega)⟩
        case round =>
          obtain ⟨i, hi, rfl, hoki⟩ := hrel
          by_cases him : i < m
          · have j1 : (i : Int) < (m : Int) := by omega
            rcases HU.out with h0 | ⟨b', o', rfl, hcl⟩
            · omega
            · have c2 : w.cell? ⟨b', o' + i, none⟩ = some (.int .i64 (l.getD i 0)) := hcl i him
              have fin := HF.out i him
              have nxt : valB (l.getD i 0) = true → Hid (∀ k, k < i + 1 → valB (l.getD k 0) = true) := fun e k hk => by
                by_cases e2 : k = i
                · rw [e2]; exact e
                · exact hoki.out k (by omega)
              clear hcl hoki
              generalize l.getD i 0 = x at *
              unfold valB at nxt fin
              by_cases h1 : x < 0
              · have hf := hid (fin (by rw [decide_eq_false (by omega)]; rfl))
                clear fin nxt
                go_wp2
                go_ret
                exact ⟨ret_bool (by rw [hf.out]), rfl⟩
              · by_cases h2 : 1000000 < x
                · have hf := hid (fin (by rw [decide_eq_false (show ¬ x ≤ 1000000 by omega)]; simp))
                  clear fin nxt
                  go_wp2
                  go_ret
                  exact ⟨ret_bool (by rw [hf.out]), rfl⟩
                · have hf := nxt (by rw [decide_eq_true (by omega), decide_eq_true (by omega)]; rfl)
                  clear fin nxt
                  go_wp2
                  go_round
                  case rel => exact ⟨i + 1, by omega, by go_num, hf⟩
                  case measure => simp [intOf]; omega
          · obtain rfl : i = m := by omega
            have j1 : ¬ ((i : Int) < (i : Int)) := by omega
            have hnx := hid (HX.out hoki.out)
            clear hoki
            go_wp2
            go_round
            case rel => exact ⟨j + 1, by omega, by go_num, hnx⟩
            case measure => simp [intOf]; omega
    · obtain rfl : j = n := by omega
      have i1 : ¬ ((j : Int) < (j : Int)) := by omega
      have hf : Hid (res = true) := hid (HR.out.trans (all_getD (fun l => l.all valB) [] ls (fun i hi => hok.out i (by rw [HN.out]; exact hi))))
      clear hok
      go_wp2
      go_ret
      exact ⟨ret_bool (by rw [hf.out]), rfl⟩

end Go.Proofs.YtoodbpijgnbfjaaGreat

namespace Go.Proofs.YtoodbpijgnbfjaaGreat
open Go.RowKit

structure RelV where
  name : ByteArray
  ar : Int
  rows : List (List Int)
  ws : List Int

def relB (r : RelV) : Bool := relName r.name && arityB r.ar && decide (r.rows.length ≤ 2000) && rowsB r.rows r.ar && (r.rows.all fun l => l.all valB) && decide (r.ws.length = r.rows.length) && r.ws.all wtB

structure IRel (w : World) (vr vw : Value) (r : RelV) : Prop where
  rows : ISS w vr r.rows
  ws : IS w vw r.ws

theorem IRel.below {w w' : World} {vr vw : Value} {r : RelV} (h : IRel w vr vw r) (hb : Below w.heap.size w w') : IRel w' vr vw r := ⟨h.rows.below hb, h.ws.below hb⟩

structure OkRel (r : RelV) : Prop where
  name : r.name.size ≤ 9223372036854775807
  rows : Short r.rows
  ws : r.ws.length ≤ 1099511627776

set_option maxHeartbeats 4000000 in
set_option maxRecDepth 1000000 in
theorem isRelation_calls (w : World) (vr vw : Value) (r : RelV) (h : IRel w vr vw r) (hr : OkRel r) :
    Calls Tryz.prog 68 #[.agg #[.string r.name, .int .i64 r.ar, vr, vw]] w fun e w' => e = .returned (.bool (relB r)) ∧ Below w.heap.size w w' := by
  have HB : Hid (Below w.heap.size w (w.alloc (.cells #[.string r.name, .int .i64 r.ar, vr, vw] 53))) := hid ((Below.refl _ _).alloc (Nat.le_refl _) _)
  have K1 := hid (isRelationName_calls (w.alloc (.cells #[.string r.name, .int .i64 r.ar, vr, vw] 53)) r.name hr.name)
  have K2 := hid (isArity_calls (w.alloc (.cells #[.string r.name, .int .i64 r.ar, vr, vw] 53)) r.ar)
  have K4 := hid (areSortedRows_calls (w.alloc (.cells #[.string r.name, .int .i64 r.ar, vr, vw] 53)) vr r.rows r.ar (h.rows.below HB.out) hr.rows)
  have K5 := hid (areValues_calls (w.alloc (.cells #[.string r.name, .int .i64 r.ar, vr, vw] 53)) vr r.rows (h.rows.below HB.out) hr.rows)
  have K7 := hid (areWeights_calls (w.alloc (.cells #[.string r.name, .int .i64 r.ar, vr, vw] 53)) vw r.ws (h.ws.below HB.out) hr.ws)
  have hr1 := hr.rows.1
  have hr2 := hr.ws
  obtain ⟨a1, k1, rfl, -⟩ := h.rows
  obtain ⟨a2, k2, rfl, -⟩ := h.ws
  clear h hr
  unfold relB
  generalize relName r.name = b1 at *
  generalize arityB r.ar = b2 at *
  generalize rowsB r.rows r.ar = b4 at *
  generalize (r.rows.all fun l => l.all valB) = b5 at *
  generalize r.ws.all wtB = b7 at *
  generalize r.rows.length = n at *
  generalize r.ws.length = m at *
  generalize r.name = nm at *
  generalize r.ar = ar at *
  cases b1
  case false =>
    clear K2 K4 K5 K7
    go_enter Tryz.func68, Tryz.ntmps68
    go_wp2_with (first | (go_at_call 94; refine K1.out.mono ?_; rintro e w' ⟨rfl, hw'⟩; subst w'))
    go_ret
    exact ⟨ret_bool (by simp), HB.out⟩
  cases b2
  case false =>
    clear K4 K5 K7
    go_enter Tryz.func68, Tryz.ntmps68
    go_wp2_with (first | (go_at_call 94; refine K1.out.mono ?_; rintro e w' ⟨rfl, hw'⟩; subst w') | (go_at_call 95; refine K2.out.mono ?_; rintro e w' ⟨rfl, hw'⟩; subst w'))
    go_ret
    exact ⟨ret_bool (by simp), HB.out⟩
  by_cases h3 : 2000 < n
  · have i3 : ¬ ((n : Int) ≤ 2000) := by omega
    have d3 : ¬ (n ≤ 2000) := by omega
    clear K4 K5 K7
    go_enter Tryz.func68, Tryz.ntmps68
    go_wp2_with (first | (go_at_call 94; refine K1.out.mono ?_; rintro e w' ⟨rfl, hw'⟩; subst w') | (go_at_call 95; refine K2.out.mono ?_; rintro e w' ⟨rfl, hw'⟩; subst w'))
    go_ret
    exact ⟨ret_bool (by simp), HB.out⟩
  have i3 : (n : Int) ≤ 2000 := by omega
  have d3 : n ≤ 2000 := by omega
  cases b4
  case false =>
    clear K5 K7
    go_enter Tryz.func68, Tryz.ntmps68
    go_wp2_with (first | (go_at_call 94; refine K1.out.mono ?_; rintro e w' ⟨rfl, hw'⟩; subst w') | (go_at_call 95; refine K2.out.mono ?_; rintro e w' ⟨rfl, hw'⟩; subst w') | (go_at_call 57; refine K4.out.mono ?_; rintro e w' ⟨rfl, hw'⟩; subst w'))
    go_ret
    exact ⟨ret_bool (by simp), HB.out⟩
  cases b5
  case false =>
    clear K7
    go_enter Tryz.func68, Tryz.ntmps68
    go_wp2_with (first | (go_at_call 94; refine K1.out.mono ?_; rintro e w' ⟨rfl, hw'⟩; subst w') | (go_at_call 95; refine K2.out.mono ?_; rintro e w' ⟨rfl, hw'⟩; subst w') | (go_at_call 57; refine K4.out.mono ?_; rintro e w' ⟨rfl, hw'⟩; subst w') | (go_at_call 96; refine K5.out.mono ?_; rintro e w' ⟨rfl, hw'⟩; subst w'))
    go_ret
    exact ⟨ret_bool (by simp), HB.out⟩
  by_cases h6 : m = n
  · subst h6
    go_enter Tryz.func68, Tryz.ntmps68
    go_wp2_with (first | (go_at_call 94; refine K1.out.mono ?_; rintro e w' ⟨rfl, hw'⟩; subst w') | (go_at_call 95; refine K2.out.mono ?_; rintro e w' ⟨rfl, hw'⟩; subst w') | (go_at_call 57; refine K4.out.mono ?_; rintro e w' ⟨rfl, hw'⟩; subst w') | (go_at_call 96; refine K5.out.mono ?_; rintro e w' ⟨rfl, hw'⟩; subst w') | (go_at_call 97; refine K7.out.mono ?_; rintro e w' ⟨rfl, hw'⟩; subst w'))
    go_ret
    exact ⟨ret_bool (by simp [d3]), HB.out⟩
  · have i6 : ¬ ((m : Int) = (n : Int)) := by omega
    have i7 : ((m : Int) == (n : Int)) = false := by simp; omega
    clear K7
    go_enter Tryz.func68, Tryz.ntmps68
    go_wp2_with (first | (go_at_call 94; refine K1.out.mono ?_; rintro e w' ⟨rfl, hw'⟩; subst w') | (go_at_call 95; refine K2.out.mono ?_; rintro e w' ⟨rfl, hw'⟩; subst w') | (go_at_call 57; refine K4.out.mono ?_; rintro e w' ⟨rfl, hw'⟩; subst w') | (go_at_call 96; refine K5.out.mono ?_; rintro e w' ⟨rfl, hw'⟩; subst w'))
    go_ret
    exact ⟨ret_bool (by simp [h6]), HB.out⟩

end Go.Proofs.YtoodbpijgnbfjaaGreat

namespace Go.Proofs.YtoodbpijgnbfjaaGreat
open Go.RowKit

theorem bclT {w w' : World} {a : Addr} {v : Value} (hb : Below w.heap.size w w') (h : w.cell? a = some v) : w'.cell? a = some v := (hb.cell (World.block_lt_of_cell? w _ h)).trans h
structure TbV where
  vs : List Int
  rows : List (List Int)
  ws : List Int
def noTv : TbV := ⟨[], [], []⟩
structure TvS (t : TbV) : Prop where
  vs : t.vs.length ≤ 1099511627776
  rows : Short t.rows
  ws : t.ws.length ≤ 1099511627776
def TabAt (W : World) (b o : Nat) (t : TbV) : Prop := ∃ v0 v1 v2, W.cell? ⟨b, o, none⟩ = some v0 ∧ W.cell? ⟨b, o + 1, none⟩ = some v1 ∧ W.cell? ⟨b, o + 2, none⟩ = some v2 ∧ IT W v0 v1 v2 t.vs t.rows t.ws
theorem TabAt.below {W W' : World} {b o : Nat} {t : TbV} (h : TabAt W b o t) (hb : Below W.heap.size W W') : TabAt W' b o t := by
  obtain ⟨v0, v1, v2, c0, c1, c2, hi⟩ := h
  exact ⟨v0, v1, v2, bclT hb c0, bclT hb c1, bclT hb c2, hi.below hb⟩
def ITs (W : World) (v : Value) (tl : List TbV) : Prop := ∃ a cap, v = .slice a tl.length cap ∧ (tl.length = 0 ∨ ∃ b o, a = some ⟨b, o, none⟩ ∧ ∀ j, j < tl.length → TabAt W b (o + j * 3) (tl.getD j noTv))
theorem ITs.below {W W' : World} {v : Value} {tl : List TbV} (h : ITs W v tl) (hb : Below W.heap.size W W') : ITs W' v tl := by
  obtain ⟨a, cap, e, h⟩ := h
  refine ⟨a, cap, e, ?_⟩
  rcases h with h | ⟨b, o, ea, h⟩
  · exact Or.inl h
  · exact Or.inr ⟨b, o, ea, fun j hj => (h j hj).below hb⟩

theorem get3 {α : Type} (c : α → List Value) (hc : ∀ x, (c x).length = 3) (ss : List α) : ∀ t, (ss.flatMap c)[t]? = (ss[t / 3]?).bind fun x => (c x)[t % 3]? := by
  induction ss with
  | nil => intro t; simp
  | cons x r ih =>
    intro t
    rw [List.flatMap_cons]
    by_cases h : t < 3
    · rw [List.getElem?_append_left (by rw [hc]; omega), Nat.div_eq_of_lt h, Nat.mod_eq_of_lt h]
      rfl
    · obtain ⟨s, rfl⟩ : ∃ s, t = s + 3 := ⟨t - 3, by omega⟩
      rw [List.getElem?_append_right (by rw [hc]; omega)]
      have e : s + 3 - (c x).length = s := by rw [hc]; omega
      rw [e, ih s, Nat.add_mod_right, Nat.add_div_right _ (by decide)]
      rfl
theorem own3 {α : Type} (c : α → List Value) (hc : ∀ x, (c x).length = 3) (d : α) {W : World} {B : Nat} {ty : TypeId} {v : Value} {tl : List α} (h : W.ownsRow B ty 3 v tl.length (tl.flatMap c)) :
    ∃ a cap, v = .slice a tl.length cap ∧ (tl.length = 0 ∨ ∃ g, a = some ⟨g, 0, none⟩ ∧ (∃ cur, W.heap[g]? = some (.cells cur ty (0, 0))) ∧ ∀ j q, j < tl.length → q < 3 → W.cell? ⟨g, j * 3 + q, none⟩ = (c (tl.getD j d))[q]?) := by
  rcases h.2 with ⟨rfl, hn⟩ | ⟨g, cap, cur, rfl, hb', hh, hn, -, -, ht⟩
  · exact ⟨none, 0, by rw [hn], Or.inl hn⟩
  · refine ⟨_, cap, rfl, Or.inr ⟨g, rfl, ⟨cur, hh⟩, fun j q hj hq => ?_⟩⟩
    rw [cell_of_row _ _ _ _ _ _ hh, ← Array.getElem?_toList, ← List.getElem?_take_of_lt (by omega : j * 3 + q < tl.length * 3), ht, get3 c hc, show (j * 3 + q) / 3 = j by omega, show (j * 3 + q) % 3 = q by omega, List.getD_eq_getElem?_getD, List.getElem?_eq_getElem hj]
    rfl

end Go.Proofs.YtoodbpijgnbfjaaGreat
