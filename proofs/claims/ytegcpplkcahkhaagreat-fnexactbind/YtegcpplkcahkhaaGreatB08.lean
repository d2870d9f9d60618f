import Derived.Test.YtegcpplkcahkhaaGreatB07
/-
  impl.TableOK, spec.TableOK, laws.eqTable.
-/
namespace Go.Proofs.YtegcpplkcahkhaaGreat
open Go.RowKit

theorem tableB_cases (vs : List Int) (rows : List (List Int)) (ws : List Int) :
    (setB vs = false ∧ tableB vs rows ws = false) ∨ (setB vs = true ∧ 10000 < rows.length ∧ tableB vs rows ws = false) ∨ (setB vs = true ∧ rows.length ≤ 10000 ∧ rowsB rows vs.length = false ∧ tableB vs rows ws = false) ∨
    (setB vs = true ∧ rows.length ≤ 10000 ∧ rowsB rows vs.length = true ∧ tableB vs rows ws = decide (ws.length = rows.length)) := by
  unfold tableB
  cases h1 : setB vs
  · left; simp
  · right
    by_cases h2 : 10000 < rows.length
    · left; simp; omega
    · right
      have h3 : decide (rows.length ≤ 10000) = true := by simp; omega
      cases h4 : rowsB rows vs.length
      · left; simp; omega
      · right; simp [h3]; omega

theorem dec_len (a b : Nat) : decide ((a : Int) = (b : Int)) = decide (a = b) := by
  by_cases h : a = b
  · simp [h]
  · rw [decide_eq_false h, decide_eq_false (by omega)]

set_option maxHeartbeats 2000000 in
set_option maxRecDepth 1000000 in
theorem eqTable_same (w : World) (v0 v1 v2 u0 u1 u2 : Value) (vs : List Int) (rows : List (List Int)) (ws : List Int) (h : IT w v0 v1 v2 vs rows ws) (h' : IT w u0 u1 u2 vs rows ws) (hv : vs.length ≤ 1099511627776) (hr : Short rows) (hw : ws.length ≤ 1099511627776) :
    Calls Tryz.prog 33 #[.agg #[v0, v1, v2], .agg #[u0, u1, u2]] w fun e w' => e = .returned (.bool true) ∧ Below w.heap.size w w' := by
  have HB : Hid (Below w.heap.size w ((w.alloc (.cells #[v0, v1, v2] 60)).alloc (.cells #[u0, u1, u2] 60))) := hid (((Below.refl _ _).alloc (Nat.le_refl _) _).alloc (by simp) _)
  have H := hid h
  have H' := hid h'
  have HR := hid hr
  obtain ⟨a0, k0, rfl, -⟩ := h.vs
  obtain ⟨a1, k1, rfl, -⟩ := h.rows
  obtain ⟨a2, k2, rfl, -⟩ := h.ws
  obtain ⟨b0, l0, rfl, -⟩ := h'.vs
  obtain ⟨b1, l1, rfl, -⟩ := h'.rows
  obtain ⟨b2, l2, rfl, -⟩ := h'.ws
  clear h h' hr
  go_enter Tryz.func33, Tryz.ntmps33
  go_wp2_with fail
  refine (eqIntS_quiet _ _ _ vs (H.out.vs.below HB.out) (H'.out.vs.below HB.out) hv).mono ?_
  rintro e w1 ⟨rfl, q1, hq1⟩
  subst w1
  go_wp2_with fail
  refine (eqIntSS_quiet _ _ _ rows (H.out.rows.below (below_drewN HB.out _)) (H'.out.rows.below (below_drewN HB.out _)) HR.out).mono ?_
  rintro e w1 ⟨rfl, q2, hq1⟩
  subst w1
  go_wp2_with fail
  refine (eqIntS_quiet _ _ _ ws (H.out.ws.below (below_drewN HB.out _)) (H'.out.ws.below (below_drewN HB.out _)) hw).mono ?_
  rintro e w1 ⟨rfl, q3, hq1⟩
  subst w1
  go_wp2
  go_ret
  exact ⟨rfl, by repeat' first | exact HB.out | refine below_drewN ?_ _⟩

end Go.Proofs.YtegcpplkcahkhaaGreat

/-
  Names: letters, digits, NAMEs, on both sides.
-/
namespace Go.Proofs.YtegcpplkcahkhaaGreat
open Go.RowKit

def letterB (x : Int) : Bool := (decide (65 ≤ x) && decide (x ≤ 90)) || (decide (97 ≤ x) && decide (x ≤ 122))
def digitB (x : Int) : Bool := decide (48 ≤ x) && decide (x ≤ 57)
def nbyteB (x : Int) : Bool := letterB x || digitB x || decide (x = 95)

theorem beq_dec (x y : Int) : (x == y) = decide (x = y) := by
  by_cases h : x = y
  · simp [h]
  · rw [decide_eq_false h]; simpa using h

theorem letter_yes1 {x : Int} (h1 : 65 ≤ x) (h2 : x ≤ 90) : letterB x = true := by simp [letterB, h1, h2]
theorem letter_yes2 {x : Int} (h1 : 97 ≤ x) (h2 : x ≤ 122) : letterB x = true := by simp [letterB, h1, h2]
theorem letter_no {x : Int} (h1 : ¬ (65 ≤ x ∧ x ≤ 90)) (h2 : ¬ (97 ≤ x ∧ x ≤ 122)) : letterB x = false := by
  unfold letterB
  rw [← Bool.decide_and, ← Bool.decide_and, decide_eq_false h1, decide_eq_false h2]; rfl

set_option maxHeartbeats 1000000 in
theorem isLetter_calls (w : World) (x : Int) : Calls Tryz.prog 101 #[.int .u8 x] w fun e w' => e = .returned (.bool (letterB x)) ∧ w' = w := by
  by_cases h1 : 65 ≤ x <;> by_cases h2 : x ≤ 90 <;> by_cases h3 : 97 ≤ x <;> by_cases h4 : x ≤ 122
  all_goals first | omega | skip
  all_goals
    go_enter Tryz.func101, Tryz.ntmps101
    go_wp2
    go_ret
    exact ⟨ret_bool (by unfold letterB; simp [h1, h2, h3, h4]), rfl⟩

set_option maxHeartbeats 1000000 in
theorem l2Letter_calls (w : World) (x : Int) : Calls Tryz.prog 93 #[.int .u8 x] w fun e w' => e = .returned (.bool (letterB x)) ∧ w' = w := by
  by_cases h1 : 65 ≤ x <;> by_cases h2 : x ≤ 90 <;> by_cases h3 : 97 ≤ x <;> by_cases h4 : x ≤ 122
  all_goals first | omega | skip
  all_goals
    go_enter Tryz.func93, Tryz.ntmps93
    go_wp2
    go_ret
    exact ⟨ret_bool (by unfold letterB; simp [h1, h2, h3, h4]), rfl⟩

set_option maxHeartbeats 1000000 in
theorem isDigit_calls (w : World) (x : Int) : Calls Tryz.prog 110 #[.int .u8 x] w fun e w' => e = .returned (.bool (digitB x)) ∧ w' = w := by
  by_cases h1 : 48 ≤ x <;> by_cases h2 : x ≤ 57
  all_goals first | omega | skip
  all_goals
    go_enter Tryz.func110, Tryz.ntmps110
    go_wp2
    go_ret
    exact ⟨ret_bool (by unfold digitB; simp [h1, h2]), rfl⟩

set_option maxHeartbeats 1000000 in
theorem l2Digit_calls (w : World) (x : Int) : Calls Tryz.prog 94 #[.int .u8 x] w fun e w' => e = .returned (.bool (digitB x)) ∧ w' = w := by
  by_cases h1 : 48 ≤ x <;> by_cases h2 : x ≤ 57
  all_goals first | omega | skip
  all_goals
    go_enter Tryz.func94, Tryz.ntmps94
    go_wp2
    go_ret
    exact ⟨ret_bool (by unfold digitB; simp [h1, h2]), rfl⟩

set_option maxHeartbeats 1000000 in
theorem isNameByte_calls (w : World) (x : Int) : Calls Tryz.prog 102 #[.int .u8 x] w fun e w' => e = .returned (.bool (nbyteB x)) ∧ w' = w := by
  have K1 := hid (isLetter_calls w x)
  have K2 := hid (isDigit_calls w x)
  unfold nbyteB
  cases h1 : letterB x <;> cases h2 : digitB x
  all_goals
    rw [h1] at K1
    rw [h2] at K2
    go_enter Tryz.func102, Tryz.ntmps102
    go_wp2_with (first | (go_at_call 101; refine K1.out.mono ?_; rintro e w' ⟨rfl, hw'⟩; subst w') | (go_at_call 110; refine K2.out.mono ?_; rintro e w' ⟨rfl, hw'⟩; subst w'))
    go_ret
    exact ⟨ret_bool (by simp [beq_dec]), rfl⟩

/-- byte i of a text -/
def byteAt (s : ByteArray) (i : Nat) : Int := ((s.data.toList.getD i 0).toNat : Int)
def nameB (s : ByteArray) : Bool := decide (1 ≤ s.size) && decide (s.size ≤ 30) && letterB (byteAt s 0) && (List.range s.size).all fun i => nbyteB (byteAt s i)

theorem byteAt_eq (s : ByteArray) (i : Nat) (h : i < s.size) : byteAt s i = ((s[i]'h).toNat : Int) := by
  unfold byteAt
  obtain ⟨⟨l⟩⟩ := s
  have h' : i < l.length := h
  simp only [List.getD_eq_getElem?_getD, List.getElem?_eq_getElem h', Option.getD_some]
  rfl

theorem nameB_all {s : ByteArray} (h0 : 1 ≤ s.size) (h1 : s.size ≤ 30) (h2 : letterB (byteAt s 0) = true) (h3 : ∀ i, i < s.size → nbyteB (byteAt s i) = true) : nameB s = true := by
  unfold nameB
  rw [decide_eq_true h0, decide_eq_true h1, h2, Bool.true_and, Bool.true_and, Bool.true_and, List.all_eq_true]
  intro i hi
  exact h3 i (by simpa using hi)
theorem nameB_bad {s : ByteArray} {i : Nat} (hi : i < s.size) (h3 : nbyteB (byteAt s i) = false) : nameB s = false := by
  unfold nameB
  rw [show ((List.range s.size).all fun i => nbyteB (byteAt s i)) = false from List.all_eq_false.2 ⟨i, by simpa using hi, by rw [h3]; decide⟩, Bool.and_false]

theorem not_empty {s : ByteArray} (h : s.size ≠ 0) : s.toList.isEmpty = false := by
  rw [ByteArray.toList_eq]
  obtain ⟨⟨l⟩⟩ := s
  simp [ByteArray.size] at h
  cases l with
  | nil => exact absurd rfl h
  | cons a l => rfl

set_option maxHeartbeats 2000000 in
set_option maxRecDepth 1000000 in
theorem isName_calls (w : World) (s : ByteArray) (hs : s.size ≤ 9223372036854775807) : Calls Tryz.prog 81 #[.string s] w fun e w' => e = .returned (.bool (nameB s)) ∧ w' = w := by
  by_cases h0 : s.size = 0
  · have e0 : nameB s = false := by simp [nameB, h0]
    rw [e0]
    have e1 : s = ⟨#[]⟩ := by
      obtain ⟨⟨l⟩⟩ := s
      simp [ByteArray.size] at h0
      simp [h0]
    subst e1
    go_enter Tryz.func81, Tryz.ntmps81
    go_wp2
    go_ret
    exact ⟨rfl, rfl⟩
  have hne := not_empty h0
  by_cases h1 : 30 < s.size
  · have e0 : nameB s = false := by unfold nameB; rw [decide_eq_false (show ¬ s.size ≤ 30 by omega)]; simp
    rw [e0]
    have i1 : (30 : Int) < (s.size : Int) := by omega
    go_enter Tryz.func81, Tryz.ntmps81
    go_wp2
    go_ret
    exact ⟨rfl, rfl⟩
  have i1 : ¬ ((30 : Int) < (s.size : Int)) := by omega
  have i0 : (0 : Int) < (s.size : Int) := by omega
  have hp0 : 0 < s.size := by omega
  have hb0 := byteAt_eq s 0 hp0
  cases h2 : letterB (byteAt s 0)
  · have e0 : nameB s = false := by unfold nameB; rw [h2]; simp
    rw [e0]
    rw [hb0] at h2
    go_enter Tryz.func81, Tryz.ntmps81
    go_wp2_with (first | (go_at_call 101; refine (isLetter_calls _ _).mono ?_; rintro e w' ⟨rfl, hw'⟩; subst w'))
    go_ret
    exact ⟨rfl, rfl⟩
  obtain ⟨res, hres⟩ : ∃ r, r = nameB s := ⟨_, rfl⟩
  rw [← hres]
  have HT : Hid ((∀ i, i < s.size → nbyteB (byteAt s i) = true) → res = true) := hid (fun h3 => hres.trans (nameB_all (by omega) (by omega) h2 h3))
  have HF : Hid (∀ i, i < s.size → nbyteB (byteAt s i) = false → res = false) := hid (fun i hi h3 => hres.trans (nameB_bad hi h3))
  obtain ⟨n, hn⟩ : ∃ n, n = s.size := ⟨_, rfl⟩
  rw [← hn] at HT HF
  rw [hb0] at h2
  clear hres
  go_enter Tryz.func81, Tryz.ntmps81
  go_wp2_with (first | (go_at_call 101; refine (isLetter_calls _ _).mono ?_; rintro e w' ⟨rfl, hw'⟩; subst w'))
  go_loop [19] (fun t => ∃ j : Nat, j ≤ n ∧ t = .int .i64 j ∧ Hid (∀ i, i < j → nbyteB (byteAt s i) = true)) (fun t => n - (intOf t).toNat)
  case atStart => exact ⟨0, Nat.zero_le _, rfl, hid (fun i hi => by omega)⟩
  case round =>
    obtain ⟨j, hj, rfl, hok⟩ := hrel
    by_cases hjn : j < n
    · have j1 : (j : Int) < (s.size : Int) := by omega
      have hbj := byteAt_eq s j (by omega)
      have nxt : nbyteB (byteAt s j) = true → Hid (∀ i, i < j + 1 → nbyteB (byteAt s i) = true) := fun e i hi => by
        by_cases e2 : i = j
        · rw [e2]; exact e
        · exact hok.out i (by omega)
      have fin := HF.out j hjn
      clear hok
      rw [hbj] at nxt fin
      cases hy : nbyteB ((s[j]'(by omega)).toNat : Int)
      · have hf := hid (fin hy)
        clear nxt fin
        go_wp2_with (first | (go_at_call 102; refine (isNameByte_calls _ _).mono ?_; rintro e w' ⟨rfl, hw'⟩; subst w'))
        go_ret
        exact ⟨ret_bool (by rw [hf.out]), rfl⟩
      · have hf := nxt hy
        clear nxt fin
        go_wp2_with (first | (go_at_call 102; refine (isNameByte_calls _ _).mono ?_; rintro e w' ⟨rfl, hw'⟩; subst w'))
        go_round
        case rel => exact ⟨j + 1, by omega, by go_num, hf⟩
        case measure => simp [intOf]; omega
    · obtain rfl : j = n := by omega
      have j1 : ¬ ((j : Int) < (s.size : Int)) := by omega
      have hf := hid (HT.out hok.out)
      clear hok
      go_wp2
      go_ret
      exact ⟨ret_bool (by rw [hf.out]), rfl⟩

end Go.Proofs.YtegcpplkcahkhaaGreat
