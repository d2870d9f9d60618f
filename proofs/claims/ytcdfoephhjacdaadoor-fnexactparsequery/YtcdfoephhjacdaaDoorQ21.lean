import Derived.Test.YtcdfoephhjacdaaDoorQ07
import Derived.Test.YtcdfoephhjacdaaDoorQ12
/-
  Names: letters, digits, NAMEs, on both sides.
-/
namespace Go.Proofs.YtcdfoephhjacdaaDoor
open Go.RowKit

def letterB (x : Int) : Bool := (decide (65 ≤ x) && decide (x ≤ 90)) || (decide (97 ≤ x) && decide (x ≤ 122))
def digitB (x : Int) : Bool := decide (48 ≤ x) && decide (x ≤ 57)
def nbyteB (x : Int) : Bool := letterB x || digitB x || decide (x = 95)

theorem beq_dec (x y : Int) : (x == y) = decide (x = y) := by
  by_cases h : x = y
  · simp [h]
  · rw [decide_eq_false h]; simpa using h

theorem letter_yes1 {x : Int} (h1 : 65 ≤ x) (h2 : x ≤ 90) : letterB x = true := by simp [letterB, h1, h2]
theorem letter_yes2 {x : Int} (h1 : 97 ≤ x) (h2 : x ≤ 122) : letterB x = true := by simp [letterB, h1, h2]
theorem letter_no {x : Int} (h1 : ¬ (65 ≤ x ∧ x ≤ 90)) (h2 : ¬ (97 ≤ x ∧ x ≤ 122)) : letterB x = false := by
  unfold letterB
  rw [← Bool.decide_and, ← Bool.decide_and, decide_eq_false h1, decide_eq_false h2]; rfl

set_option maxHeartbeats 1000000 in
theorem isLetter_calls (w : World) (x : Int) : Calls Tryd.prog 120 #[.int .u8 x] w fun e w' => e = .returned (.bool (letterB x)) ∧ w' = w := by
  by_cases h1 : 65 ≤ x <;> by_cases h2 : x ≤ 90 <;> by_cases h3 : 97 ≤ x <;> by_cases h4 : x ≤ 122
  all_goals first | omega | skip
  all_goals
    go_enter Tryd.func120, Tryd.ntmps120
    go_wp2
    go_ret
    exact ⟨ret_bool (by unfold letterB; simp [h1, h2, h3, h4]), rfl⟩

set_option maxHeartbeats 1000000 in
theorem l2Letter_calls (w : World) (x : Int) : Calls Tryd.prog 48 #[.int .u8 x] w fun e w' => e = .returned (.bool (letterB x)) ∧ w' = w := by
  by_cases h1 : 65 ≤ x <;> by_cases h2 : x ≤ 90 <;> by_cases h3 : 97 ≤ x <;> by_cases h4 : x ≤ 122
  all_goals first | omega | skip
  all_goals
    go_enter Tryd.func48, Tryd.ntmps48
    go_wp2
    go_ret
    exact ⟨ret_bool (by unfold letterB; simp [h1, h2, h3, h4]), rfl⟩

set_option maxHeartbeats 1000000 in
theorem isDigit_calls (w : World) (x : Int) : Calls Tryd.prog 100 #[.int .u8 x] w fun e w' => e = .returned (.bool (digitB x)) ∧ w' = w := by
  by_cases h1 : 48 ≤ x <;> by_cases h2 : x ≤ 57
  all_goals first | omega | skip
  all_goals
    go_enter Tryd.func100, Tryd.ntmps100
    go_wp2
    go_ret
    exact ⟨ret_bool (by unfold digitB; simp [h1, h2]), rfl⟩

set_option maxHeartbeats 1000000 in
theorem l2Digit_calls (w : World) (x : Int) : Calls Tryd.prog 49 #[.int .u8 x] w fun e w' => e = .returned (.bool (digitB x)) ∧ w' = w := by
  by_cases h1 : 48 ≤ x <;> by_cases h2 : x ≤ 57
  all_goals first | omega | skip
  all_goals
    go_enter Tryd.func49, Tryd.ntmps49
    go_wp2
    go_ret
    exact ⟨ret_bool (by unfold digitB; simp [h1, h2]), rfl⟩

set_option maxHeartbeats 1000000 in
theorem isNameByte_calls (w : World) (x : Int) : Calls Tryd.prog 109 #[.int .u8 x] w fun e w' => e = .returned (.bool (nbyteB x)) ∧ w' = w := by
  have K1 := hid (isLetter_calls w x)
  have K2 := hid (isDigit_calls w x)
  unfold nbyteB
  cases h1 : letterB x <;> cases h2 : digitB x
  all_goals
    rw [h1] at K1
    rw [h2] at K2
    go_enter Tryd.func109, Tryd.ntmps109
    go_wp2_with (first | (go_at_call 120; refine K1.out.mono ?_; rintro e w' ⟨rfl, hw'⟩; subst w') | (go_at_call 100; refine K2.out.mono ?_; rintro e w' ⟨rfl, hw'⟩; subst w'))
    go_ret
    exact ⟨ret_bool (by simp [beq_dec]), rfl⟩

/-- byte i of a text -/
def byteAt (s : ByteArray) (i : Nat) : Int := ((s.data.toList.getD i 0).toNat : Int)
def nameB (s : ByteArray) : Bool := decide (1 ≤ s.size) && decide (s.size ≤ 30) && letterB (byteAt s 0) && (List.range s.size).all fun i => nbyteB (byteAt s i)

theorem byteAt_eq (s : ByteArray) (i : Nat) (h : i < s.size) : byteAt s i = ((s[i]'h).toNat : Int) := by
  unfold byteAt
  obtain ⟨⟨l⟩⟩ := s
  have h' : i < l.length := h
  simp only [List.getD_eq_getElem?_getD, List.getElem?_eq_getElem h', Option.getD_some]
  rfl

theorem nameB_all {s : ByteArray} (h0 : 1 ≤ s.size) (h1 : s.size ≤ 30) (h2 : letterB (byteAt s 0) = true) (h3 : ∀ i, i < s.size → nbyteB (byteAt s i) = true) : nameB s = true := by
  unfold nameB
  rw [decide_eq_true h0, decide_eq_true h1, h2, Bool.true_and, Bool.true_and, Bool.true_and, List.all_eq_true]
  intro i hi
  exact h3 i (by simpa using hi)
theorem nameB_bad {s : ByteArray} {i : Nat} (hi : i < s.size) (h3 : nbyteB (byteAt s i) = false) : nameB s = false := by
  unfold nameB
  rw [show ((List.range s.size).all fun i => nbyteB (byteAt s i)) = false from List.all_eq_false.2 ⟨i, by simpa using hi, by rw [h3]; decide⟩, Bool.and_false]

theorem not_empty {s : ByteArray} (h : s.size ≠ 0) : s.toList.isEmpty = false := by
  rw [ByteArray.toList_eq]
  obtain ⟨⟨l⟩⟩ := s
  simp [ByteArray.size] at h
  cases l with
  | nil => exact absurd rfl h
  | cons a l => rfl

set_option maxHeartbeats 2000000 in
set_option maxRecDepth 1000000 in
theorem isName_calls (w : World) (s : ByteArray) (hs : s.size ≤ 9223372036854775807) : Calls Tryd.prog 101 #[.string s] w fun e w' => e = .returned (.bool (nameB s)) ∧ w' = w := by
  by_cases h0 : s.size = 0
  · have e0 : nameB s = false := by simp [nameB, h0]
    rw [e0]
    have e1 : s = ⟨#[]⟩ := by
      obtain ⟨⟨l⟩⟩ := s
      simp [ByteArray.size] at h0
      simp [h0]
    subst e1
    go_enter Tryd.func101, Tryd.ntmps101
    go_wp2
    go_ret
    exact ⟨rfl, rfl⟩
  have hne := not_empty h0
  by_cases h1 : 30 < s.size
  · have e0 : nameB s = false := by unfold nameB; rw [decide_eq_false (show ¬ s.size ≤ 30 by omega)]; simp
    rw [e0]
    have i1 : (30 : Int) < (s.size : Int) := by omega
    go_enter Tryd.func101, Tryd.ntmps101
    go_wp2
    go_ret
    exact ⟨rfl, rfl⟩
  have i1 : ¬ ((30 : Int) < (s.size : Int)) := by omega
  have i0 : (0 : Int) < (s.size : Int) := by omega
  have hp0 : 0 < s.size := by omega
  have hb0 := byteAt_eq s 0 hp0
  cases h2 : letterB (byteAt s 0)
  · have e0 : nameB s = false := by unfold nameB; rw [h2]; simp
    rw [e0]
    rw [hb0] at h2
    go_enter Tryd.func101, Tryd.ntmps101
    go_wp2_with (first | (go_at_call 120; refine (isLetter_calls _ _).mono ?_; rintro e w' ⟨rfl, hw'⟩; subst w'))
    go_ret
    exact ⟨rfl, rfl⟩
  obtain ⟨res, hres⟩ : ∃ r, r = nameB s := ⟨_, rfl⟩
  rw [← hres]
  have HT : Hid ((∀ i, i < s.size → nbyteB (byteAt s i) = true) → res = true) := hid (fun h3 => hres.trans (nameB_all (by omega) (by omega) h2 h3))
  have HF : Hid (∀ i, i < s.size → nbyteB (byteAt s i) = false → res = false) := hid (fun i hi h3 => hres.trans (nameB_bad hi h3))
  obtain ⟨n, hn⟩ : ∃ n, n = s.size := ⟨_, rfl⟩
  rw [← hn] at HT HF
  rw [hb0] at h2
  clear hres
  go_enter Tryd.func101, Tryd.ntmps101
  go_wp2_with (first | (go_at_call 120; refine (isLetter_calls _ _).mono ?_; rintro e w' ⟨rfl, hw'⟩; subst w'))
  go_loop [19] (fun t => ∃ j : Nat, j ≤ n ∧ t = .int .i64 j ∧ Hid (∀ i, i < j → nbyteB (byteAt s i) = true)) (fun t => n - (intOf t).toNat)
  case atStart => exact ⟨0, Nat.zero_le _, rfl, hid (fun i hi => by omega)⟩
  case round =>
    obtain ⟨j, hj, rfl, hok⟩ := hrel
    by_cases hjn : j < n
    · have j1 : (j : Int) < (s.size : Int) := by omega
      have hbj := byteAt_eq s j (by omega)
      have nxt : nbyteB (byteAt s j) = true → Hid (∀ i, i < j + 1 → nbyteB (byteAt s i) = true) := fun e i hi => by
        by_cases e2 : i = j
        · rw [e2]; exact e
        · exact hok.out i (by omega)
      have fin := HF.out j hjn
      clear hok
      rw [hbj] at nxt fin
      cases hy : nbyteB ((s[j]'(by omega)).toNat : Int)
      · have hf := hid (fin hy)
        clear nxt fin
        go_wp2_with (first | (go_at_call 109; refine (isNameByte_calls _ _).mono ?_; rintro e w' ⟨rfl, hw'⟩; subst w'))
        go_ret
        exact ⟨ret_bool (by rw [hf.out]), rfl⟩
      · have hf := nxt hy
        clear nxt fin
        go_wp2_with (first | (go_at_call 109; refine (isNameByte_calls _ _).mono ?_; rintro e w' ⟨rfl, hw'⟩; subst w'))
        go_round
        case rel => exact ⟨j + 1, by omega, by go_num, hf⟩
        case measure => simp [intOf]; omega
    · obtain rfl : j = n := by omega
      have j1 : ¬ ((j : Int) < (s.size : Int)) := by omega
      have hf := hid (HT.out hok.out)
      clear hok
      go_wp2
      go_ret
      exact ⟨ret_bool (by rw [hf.out]), rfl⟩

end Go.Proofs.YtcdfoephhjacdaaDoor

/-
  spec.l2Name; impl.isRelationName, isArity, areValues, areWeights.
-/
namespace Go.Proofs.YtcdfoephhjacdaaDoor
open Go.RowKit

set_option maxHeartbeats 2000000 in
set_option maxRecDepth 1000000 in
theorem l2Name_calls (w : World) (s : ByteArray) (hs : s.size ≤ 9223372036854775807) : Calls Tryd.prog 34 #[.string s] w fun e w' => e = .returned (.bool (nameB s)) ∧ w' = w := by
  by_cases h0 : s.size = 0
  · have e0 : nameB s = false := by simp [nameB, h0]
    rw [e0]
    have i1 : (s.size : Int) < 1 := by omega
    go_enter Tryd.func34, Tryd.ntmps34
    go_wp2
    go_ret
    exact ⟨rfl, rfl⟩
  have iz : ¬ ((s.size : Int) < 1) := by omega
  by_cases h1 : 30 < s.size
  · have e0 : nameB s = false := by unfold nameB; rw [decide_eq_false (show ¬ s.size ≤ 30 by omega)]; simp
    rw [e0]
    have i1 : (30 : Int) < (s.size : Int) := by omega
    go_enter Tryd.func34, Tryd.ntmps34
    go_wp2
    go_ret
    exact ⟨rfl, rfl⟩
  have i1 : ¬ ((30 : Int) < (s.size : Int)) := by omega
  have i0 : (0 : Int) < (s.size : Int) := by omega
  have hp0 : 0 < s.size := by omega
  have hb0 := byteAt_eq s 0 hp0
  cases h2 : letterB (byteAt s 0)
  · have e0 : nameB s = false := by unfold nameB; rw [h2]; simp
    rw [e0]
    rw [hb0] at h2
    go_enter Tryd.func34, Tryd.ntmps34
    go_wp2_with (first | (go_at_call 48; refine (l2Letter_calls _ _).mono ?_; rintro e w' ⟨rfl, hw'⟩; subst w'))
    go_ret
    exact ⟨rfl, rfl⟩
  obtain ⟨res, hres⟩ : ∃ r, r = nameB s := ⟨_, rfl⟩
  rw [← hres]
  have HT : Hid ((∀ i, i < s.size → nbyteB (byteAt s i) = true) → res = true) := hid (fun h3 => hres.trans (nameB_all (by omega) (by omega) h2 h3))
  have HF : Hid (∀ i, i < s.size → nbyteB (byteAt s i) = false → res = false) := hid (fun i hi h3 => hres.trans (nameB_bad hi h3))
  obtain ⟨n, hn⟩ : ∃ n, n = s.size := ⟨_, rfl⟩
  rw [← hn] at HT HF
  rw [hb0] at h2
  clear hres
  go_enter Tryd.func34, Tryd.ntmps34
  go_wp2_with (first | (go_at_call 48; refine (l2Letter_calls _ _).mono ?_; rintro e w' ⟨rfl, hw'⟩; subst w'))
  go_loop [3] (fun t => ∃ j : Nat, j ≤ n ∧ t = .int .i64 j ∧ Hid (∀ i, i < j → nbyteB (byteAt s i) = true)) (fun t => n - (intOf t).toNat)
  case atStart => exact ⟨0, Nat.zero_le _, rfl, hid (fun i hi => by omega)⟩
  case round =>
    obtain ⟨j, hj, rfl, hok⟩ := hrel
    by_cases hjn : j < n
    · have j1 : (j : Int) < (s.size : Int) := by omega
      have hbj := byteAt_eq s j (by omega)
      have nxt : nbyteB (byteAt s j) = true → Hid (∀ i, i < j + 1 → nbyteB (byteAt s i) = true) := fun e i hi => by
        by_cases e2 : i = j
        · rw [e2]; exact e
        · exact hok.out i (by omega)
      have fin := HF.out j hjn
      clear hok
      rw [hbj] at nxt fin
      unfold nbyteB at nxt fin
      cases hy : letterB ((s[j]'(by omega)).toNat : Int)
      · cases hz : digitB ((s[j]'(by omega)).toNat : Int)
        · by_cases hu : ((s[j]'(by omega)).toNat : Int) = 95
          · have hf := nxt (by rw [hy, hz, decide_eq_true hu]; rfl)
            have hu2 : (((s[j]'(by omega)).toNat : Int) != 95) = false := by simpa using hu
            clear nxt fin
            go_wp2_with (first | (go_at_call 48; refine (l2Letter_calls _ _).mono ?_; rintro e w' ⟨rfl, hw'⟩; subst w') | (go_at_call 49; refine (l2Digit_calls _ _).mono ?_; rintro e w' ⟨rfl, hw'⟩; subst w'))
            go_round
            case rel => exact ⟨j + 1, by omega, by go_num, hf⟩
            case measure => simp [intOf]; omega
          · have hf := hid (fin (by rw [hy, hz, decide_eq_false hu]; rfl))
            have hu2 : (((s[j]'(by omega)).toNat : Int) != 95) = true := by simpa using hu
            clear nxt fin
            go_wp2_with (first | (go_at_call 48; refine (l2Letter_calls _ _).mono ?_; rintro e w' ⟨rfl, hw'⟩; subst w') | (go_at_call 49; refine (l2Digit_calls _ _).mono ?_; rintro e w' ⟨rfl, hw'⟩; subst w'))
            go_ret
            exact ⟨ret_bool (by rw [hf.out]), rfl⟩
        · have hf := nxt (by rw [hy, hz]; rfl)
          clear nxt fin
          go_wp2_with (first | (go_at_call 48; refine (l2Letter_calls _ _).mono ?_; rintro e w' ⟨rfl, hw'⟩; subst w') | (go_at_call 49; refine (l2Digit_calls _ _).mono ?_; rintro e w' ⟨rfl, hw'⟩; subst w'))
          go_round
          case rel => exact ⟨j + 1, by omega, by go_num, hf⟩
          case measure => simp [intOf]; omega
      · have hf := nxt (by rw [hy]; rfl)
        clear nxt fin
        go_wp2_with (first | (go_at_call 48; refine (l2Letter_calls _ _).mono ?_; rintro e w' ⟨rfl, hw'⟩; subst w'))
        go_round
        case rel => exact ⟨j + 1, by omega, by go_num, hf⟩
        case measure => simp [intOf]; omega
    · obtain rfl : j = n := by omega
      have j1 : ¬ ((j : Int) < (s.size : Int)) := by omega
      have hf := hid (HT.out hok.out)
      clear hok
      go_wp2
      go_ret
      exact ⟨ret_bool (by rw [hf.out]), rfl⟩

def relName (s : ByteArray) : Bool := nameB s && !(s.toList == [114, 101, 108])

set_option maxHeartbeats 1000000 in
theorem isRelationName_calls (w : World) (s : ByteArray) (hs : s.size ≤ 9223372036854775807) : Calls Tryd.prog 76 #[.string s] w fun e w' => e = .returned (.bool (relName s)) ∧ w' = w := by
  have K := hid (isName_calls w s hs)
  unfold relName
  generalize nameB s = y at *
  cases y
  all_goals
    go_enter Tryd.func76, Tryd.ntmps76
    go_wp2_with (first | (go_at_call 101; refine K.out.mono ?_; rintro e w' ⟨rfl, hw'⟩; subst w'))
    go_ret
    exact ⟨ret_bool (by simp), rfl⟩

def arityB (n : Int) : Bool := decide (1 ≤ n) && decide (n ≤ 3)

set_option maxHeartbeats 1000000 in
theorem isArity_calls (w : World) (n : Int) : Calls Tryd.prog 75 #[.int .i64 n] w fun e w' => e = .returned (.bool (arityB n)) ∧ w' = w := by
  by_cases h1 : 1 ≤ n <;> by_cases h2 : n ≤ 3
  all_goals first | omega | skip
  all_goals
    go_enter Tryd.func75, Tryd.ntmps75
    go_wp2
    go_ret
    exact ⟨ret_bool (by unfold arityB; simp [h1, h2]), rfl⟩

def valB (x : Int) : Bool := decide (0 ≤ x) && decide (x ≤ 1000000)
def wtB (x : Int) : Bool := decide (-1000000 ≤ x) && decide (x ≤ 1000000)

end Go.Proofs.YtcdfoephhjacdaaDoor
