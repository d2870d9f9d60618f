import Derived.Test.YtcdfoephhjacdaaDoorQ28
/-
  strings.CutPrefix of a minus; impl.readWeight.
-/
namespace Go.Proofs.YtcdfoephhjacdaaDoor
open Go.RowKit

def isMinus (s : ByteArray) : Bool := decide (s.data.toList.head? = some 45)
theorem minus_pre {s : ByteArray} (h : 1 ≤ s.size) : ((s.extract 0 1).toList == [45]) = isMinus s := by
  obtain ⟨⟨l⟩⟩ := s
  rw [ByteArray.toList_eq]
  unfold isMinus
  cases l with
  | nil => simp [ByteArray.size] at h
  | cons x r => 
    simp
    rfl
set_option maxHeartbeats 1000000 in
theorem hasPrefix_calls (w : World) (s : ByteArray) (hs : s.size ≤ 1099511627776) : Calls Tryd.prog 108 #[.string s, .string ⟨#[45]⟩] w fun e w' => e = .returned (.bool (isMinus s)) ∧ w' = w := by
  by_cases h : 1 ≤ s.size
  · have i1 : (1 : Int) ≤ (s.size : Int) := by omega
    have hm := minus_pre h
    generalize isMinus s = b at *
    go_enter Tryd.func108, Tryd.ntmps108
    go_wp2_with fail
    go_ret
    exact ⟨by simp, rfl⟩
  · have i1 : ¬ ((1 : Int) ≤ (s.size : Int)) := by omega
    have hm : isMinus s = false := by
      obtain ⟨⟨l⟩⟩ := s
      cases l with
      | nil => rfl
      | cons x r => simp [ByteArray.size] at h
    rw [hm]
    go_enter Tryd.func108, Tryd.ntmps108
    go_wp2_with fail
    go_ret
    exact ⟨rfl, rfl⟩

def cutM (s : ByteArray) : ByteArray := if isMinus s then ⟨s.data.toList.tail.toArray⟩ else s
theorem minus_cut {s : ByteArray} (h : isMinus s = true) : 1 ≤ s.size ∧ s.extract 1 s.size = cutM s := by
  unfold cutM
  rw [if_pos h]
  obtain ⟨⟨l⟩⟩ := s
  unfold isMinus at h
  cases l with
  | nil => simp at h
  | cons x r => exact ⟨by simp [ByteArray.size], by apply ByteArray.ext; simp [ByteArray.size]⟩

set_option maxHeartbeats 1000000 in
theorem cutLite_calls (w : World) (s : ByteArray) (hs : s.size ≤ 1099511627776) : Calls Tryd.prog 121 #[.string s, .string ⟨#[45]⟩] w fun e w' => e = .returned (.tuple #[.string (cutM s), .bool (isMinus s)]) ∧ w' = w := by
  have K := hid (hasPrefix_calls w s hs)
  cases hm : isMinus s
  · rw [hm] at K
    have hc : cutM s = s := by unfold cutM; rw [hm]; rfl
    rw [hc]
    go_enter Tryd.func121, Tryd.ntmps121
    go_wp2_with (first | (go_at_call 108; refine K.out.mono ?_; rintro e w' ⟨rfl, hw'⟩; subst w') | fail)
    go_ret2
    exact ⟨rfl, rfl⟩
  · rw [hm] at K
    obtain ⟨h1, h2⟩ := minus_cut hm
    have i1 : (1 : Int) ≤ (s.size : Int) := by omega
    rw [← h2]
    clear h2
    go_enter Tryd.func121, Tryd.ntmps121
    go_wp2_with (first | (go_at_call 108; refine K.out.mono ?_; rintro e w' ⟨rfl, hw'⟩; subst w') | fail)
    go_ret2
    exact ⟨rfl, rfl⟩
set_option maxHeartbeats 1000000 in
theorem cutPrefix_calls (w : World) (s : ByteArray) (hs : s.size ≤ 1099511627776) : Calls Tryd.prog 102 #[.string s, .string ⟨#[45]⟩] w fun e w' => e = .returned (.tuple #[.string (cutM s), .bool (isMinus s)]) ∧ w' = w := by
  have K := hid (cutLite_calls w s hs)
  go_enter Tryd.func102, Tryd.ntmps102
  go_wp2_with (first | (go_at_call 121; refine K.out.mono ?_; rintro e w' ⟨rfl, hw'⟩; subst w') | fail)
  go_ret2
  exact ⟨rfl, rfl⟩

def wtN (s : ByteArray) : Int := if isMinus s then -(numN (cutM s) 1000000 : Int) else numN s 1000000
def wtG (s : ByteArray) : Bool := if isMinus s then numG (cutM s) 1000000 && !decide (numN (cutM s) 1000000 = 0) else numG s 1000000
theorem cutM_size (s : ByteArray) : (cutM s).size ≤ s.size := by
  unfold cutM
  cases isMinus s
  · rw [if_neg (by decide)]; exact Nat.le_refl _
  · rw [if_pos rfl]
    obtain ⟨⟨l⟩⟩ := s
    simp [ByteArray.size]

set_option maxHeartbeats 1000000 in
theorem readWeight_calls (w : World) (s : ByteArray) (hs : s.size ≤ 1099511627776) : Calls Tryd.prog 77 #[.string s] w fun e w' => e = .returned (.tuple #[.int .i64 (wtN s), .bool (wtG s)]) ∧ w' = w := by
  have K := hid (cutPrefix_calls w s hs)
  have KN : Hid (Calls Tryd.prog 74 #[.string (cutM s), .int .i64 1000000] w fun e w' => e = .returned (.tuple #[.int .i64 (numN (cutM s) 1000000), .bool (numG (cutM s) 1000000)]) ∧ w' = w) := hid (readNumber_calls w (cutM s) 1000000 (Nat.le_trans (cutM_size s) hs) (by omega))
  have hle : numN (cutM s) 1000000 ≤ 1000000 := by
    unfold numN
    cases h : rdN (cutM s).data.toList 1000000 with
    | none => exact Nat.zero_le _
    | some n => exact (rdN_some.1 h).2
  unfold wtN wtG
  cases hm : isMinus s
  · rw [hm] at K
    have hc : cutM s = s := by unfold cutM; rw [hm]; rfl
    rw [hc] at K KN hle
    rw [if_neg (by decide), if_neg (by decide)]
    generalize numN s 1000000 = N at *
    generalize numG s 1000000 = Gd at *
    go_enter Tryd.func77, Tryd.ntmps77
    go_wp2_with (first | (go_at_call 102; refine K.out.mono ?_; rintro e w' ⟨rfl, hw'⟩; subst w') | (go_at_call 74; refine KN.out.mono ?_; rintro e w' ⟨rfl, hw'⟩; subst w') | fail)
    go_ret2
    exact ⟨rfl, rfl⟩
  · rw [hm] at K
    rw [if_pos rfl, if_pos rfl]
    generalize cutM s = cs at *
    generalize numN cs 1000000 = N at *
    generalize numG cs 1000000 = Gd at *
    have i1 : ((N : Int) != 0) = !decide (N = 0) := by
      by_cases e : N = 0
      · subst e; rfl
      · rw [decide_eq_false e]; simp; omega
    have i0 : ¬ ((N : Int) = -9223372036854775808) := by omega
    have i3 : ((N : Int) == -9223372036854775808) = false := by simp
    generalize (!decide (N = 0)) = z at *
    cases Gd
    · rw [Bool.false_and]
      go_enter Tryd.func77, Tryd.ntmps77
      go_wp2_with (first | (go_at_call 102; refine K.out.mono ?_; rintro e w' ⟨rfl, hw'⟩; subst w') | (go_at_call 74; refine KN.out.mono ?_; rintro e w' ⟨rfl, hw'⟩; subst w') | fail)
      go_ret2
      exact ⟨rfl, rfl⟩
    · rw [Bool.true_and]
      go_enter Tryd.func77, Tryd.ntmps77
      go_wp2_with (first | (go_at_call 102; refine K.out.mono ?_; rintro e w' ⟨rfl, hw'⟩; subst w') | (go_at_call 74; refine KN.out.mono ?_; rintro e w' ⟨rfl, hw'⟩; subst w') | fail)
      go_ret2
      exact ⟨rfl, rfl⟩

theorem num_alike {s : ByteArray} {most : Nat} {v : Int} {ok : Bool} (h : l2NumA s.data.toList 0 most v ok) (hm : most ≤ 1000000) : ok = numG s most ∧ (ok = true → v = numN s most) := by
  have hi : ∀ n : Nat, Lib.itoa (n : Int) = Lib.decDigits n := fun n => by unfold Lib.itoa; rw [if_neg (by omega)]; rfl
  unfold numG numN
  cases hr : rdN s.data.toList most with
  | some n =>
    obtain ⟨h1, h2⟩ := rdN_some.1 hr
    obtain ⟨h3, h4⟩ := h.2 n (by rw [hi, h1]) (by omega) (by omega) (by omega)
    exact ⟨by rw [h3]; rfl, fun _ => h4⟩
  | none =>
    cases ok with
    | false => exact ⟨rfl, fun h => by cases h⟩
    | true =>
      obtain ⟨h1, h2, h3⟩ := h.1 rfl
      obtain ⟨n, rfl⟩ : ∃ n : Nat, v = n := ⟨v.toNat, by omega⟩
      rw [hi] at h1
      have := (rdN_some (most := most)).2 ⟨h1, by omega⟩
      rw [hr] at this; cases this
end Go.Proofs.YtcdfoephhjacdaaDoor

/-
  Weights: both sides alike.
-/
namespace Go.Proofs.YtcdfoephhjacdaaDoor

theorem itoa_nn (n : Nat) : Lib.itoa (n : Int) = Lib.decDigits n := by unfold Lib.itoa; rw [if_neg (by omega)]; rfl
theorem itoa_neg {n : Nat} (h : n ≠ 0) : Lib.itoa (-(n : Int)) = 45 :: Lib.decDigits n := by
  unfold Lib.itoa
  rw [if_pos (by omega), show (-(n : Int)).natAbs = n by omega]
theorem itoa_head (v : Int) : (Lib.itoa v).head? = some 45 ↔ v < 0 := by
  unfold Lib.itoa
  by_cases h : v < 0
  · rw [if_pos h]; simp [h]
  · rw [if_neg h]
    exact ⟨fun e => absurd e (dig_head _), fun e => absurd e h⟩
theorem wt_alike {s : ByteArray} {v : Int} {ok : Bool} (h : l2NumA s.data.toList (-1000000) 1000000 v ok) : ok = wtG s ∧ (ok = true → v = wtN s) := by
  unfold wtG wtN
  by_cases hm : s.data.toList.head? = some 45
  · have hmi : isMinus s = true := by unfold isMinus; rw [decide_eq_true hm]
    rw [hmi, if_pos rfl, if_pos rfl]
    obtain ⟨m, hl⟩ : ∃ m, s.data.toList = 45 :: m := by
      cases hd : s.data.toList with
      | nil => rw [hd] at hm; simp at hm
      | cons x r => rw [hd] at hm; simp at hm; exact ⟨r, by rw [hm]⟩
    have hcm : (cutM s).data.toList = m := by unfold cutM; rw [hmi, if_pos rfl, hl]; simp
    unfold numG numN
    rw [hcm]
    rw [hl] at h
    cases hr : rdN m 1000000 with
    | some n =>
      obtain ⟨h1, h2⟩ := rdN_some.1 hr
      by_cases h0 : n = 0
      · subst h0
        cases ok with
        | false => exact ⟨by simp, fun h => by cases h⟩
        | true =>
          obtain ⟨g1, g2, g3⟩ := h.1 rfl
          have hv : v < 0 := (itoa_head v).1 (by rw [← g1]; rfl)
          obtain ⟨k, rfl⟩ : ∃ k : Nat, v = -(k : Int) := ⟨v.natAbs, by omega⟩
          rw [itoa_neg (by omega), List.cons.injEq] at g1
          have := (rdN_some (most := 1000000)).2 ⟨g1.2, by omega⟩
          rw [hr] at this
          have := Option.some.inj this
          omega
      · obtain ⟨h3, h4⟩ := h.2 (-(n : Int)) (by rw [itoa_neg h0, h1]) (by omega) (by omega) (by omega)
        exact ⟨by rw [h3]; simp [h0], fun _ => h4⟩
    | none =>
      cases ok with
      | false => exact ⟨by simp, fun h => by cases h⟩
      | true =>
        obtain ⟨g1, g2, g3⟩ := h.1 rfl
        have hv : v < 0 := (itoa_head v).1 (by rw [← g1]; rfl)
        obtain ⟨k, rfl⟩ : ∃ k : Nat, v = -(k : Int) := ⟨v.natAbs, by omega⟩
        rw [itoa_neg (by omega), List.cons.injEq] at g1
        have := (rdN_some (most := 1000000)).2 ⟨g1.2, by omega⟩
        rw [hr] at this; cases this
  · have hmi : isMinus s = false := by unfold isMinus; rw [decide_eq_false hm]
    rw [hmi, if_neg (by decide), if_neg (by decide)]
    exact num_alike (most := 1000000) ⟨fun e => by
      obtain ⟨g1, g2, g3⟩ := h.1 e
      have : ¬ v < 0 := fun c => hm (by rw [g1]; exact (itoa_head v).2 c)
      exact ⟨g1, by omega, by omega⟩, fun n g1 g2 g3 g4 => h.2 n g1 g2 (by omega) (by omega)⟩ (Nat.le_refl _)

end Go.Proofs.YtcdfoephhjacdaaDoor
