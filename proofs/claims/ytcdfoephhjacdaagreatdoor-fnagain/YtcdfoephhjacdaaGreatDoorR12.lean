import Derived.BigQuiet
import Derived.Deep.Cut
import Derived.Deep.QuietTactic
import Derived.Deep.RegionLaw
import Derived.Lib.ItoaNum
import Derived.Lib.Join
import Derived.Test.YtcdfoephhjacdaaGreatDoorR02
import Derived.Test.YtcdfoephhjacdaaGreatDoorR11
/-
  spec: l2Dec, l2RowText.
-/
namespace Go.Proofs.YtcdfoephhjacdaaGreatDoor
open Go.RowKit

theorem dig_at : ∀ d : Nat, d < 10 → (⟨#[48, 49, 50, 51, 52, 53, 54, 55, 56, 57]⟩ : ByteArray).extract d (d + 1) = ⟨#[UInt8.ofNat (48 + d)]⟩
  | 0, _ => rfl
  | 1, _ => rfl
  | 2, _ => rfl
  | 3, _ => rfl
  | 4, _ => rfl
  | 5, _ => rfl
  | 6, _ => rfl
  | 7, _ => rfl
  | 8, _ => rfl
  | 9, _ => rfl
  | d + 10, h => by omega

theorem wrap_small2 (k : Nat) (h : k ≤ 1099511627776) : IntKind.i64.wrap (k : Int) = k := by
  simp [IntKind.wrap, IntKind.bits, IntKind.signed]
  omega

theorem digs_len : ∀ (k n : Nat), n ≤ k → (Lib.decDigits n).length ≤ n + 1
  | 0, n, h => by rw [Lib.decDigits, dif_pos (by omega)]; simp
  | k + 1, n, h => by
    rw [Lib.decDigits]
    by_cases h1 : n < 10
    · rw [dif_pos h1]; simp
    · rw [dif_neg h1, List.length_append, List.length_singleton]
      have := digs_len k (n / 10) (by omega)
      omega
theorem cat_bytes (a b : List UInt8) : (⟨a.toArray⟩ : ByteArray) ++ ⟨b.toArray⟩ = ⟨(a ++ b).toArray⟩ := by
  apply ByteArray.ext
  simp

def txt (l : List UInt8) : Value := .string ⟨l.toArray⟩

theorem itoa_len (n : Int) : (Lib.itoa n).length ≤ n.natAbs + 2 := by
  unfold Lib.itoa
  by_cases h : n < 0
  · rw [if_pos h, List.length_cons]
    have := digs_len _ n.natAbs (Nat.le_refl _)
    omega
  · rw [if_neg h]
    have := digs_len _ n.toNat (Nat.le_refl _)
    omega

/-- a row's text -/
def rowT (l : List Int) : List UInt8 := Lib.join (l.map Lib.itoa) [32]
theorem join_snoc (xs : List (List UInt8)) (x sep : List UInt8) : Lib.join (xs ++ [x]) sep = if xs = [] then x else Lib.join xs sep ++ sep ++ x := by
  cases xs with
  | nil => rw [if_pos rfl, List.nil_append, Lib.join_one]
  | cons y r =>
    rw [if_neg (by simp), List.cons_append, Lib.join_cons, Lib.join_cons]
    simp [Lib.joinTail]
theorem tail_len (M : Nat) (l : List Int) (h : ∀ x ∈ l, x.natAbs ≤ M) : (Lib.joinTail [32] (l.map Lib.itoa)).length ≤ l.length * (M + 3) := by
  induction l with
  | nil => simp [Lib.joinTail]
  | cons x l ih =>
    have h1 := ih fun y hy => h y (List.mem_cons_of_mem _ hy)
    have h2 := h x (List.mem_cons_self ..)
    have h3 := itoa_len x
    have e : Lib.joinTail [32] ((x :: l).map Lib.itoa) = [32] ++ Lib.itoa x ++ Lib.joinTail [32] (l.map Lib.itoa) := by simp [Lib.joinTail]
    rw [e, List.length_append, List.length_append, List.length_singleton, List.length_cons, Nat.add_mul]
    omega
theorem rowT_len (M : Nat) (l : List Int) (h : ∀ x ∈ l, x.natAbs ≤ M) : (rowT l).length ≤ l.length * (M + 3) := by
  cases l with
  | nil => simp [rowT, Lib.join_nil]
  | cons x l =>
    have h1 := tail_len M l fun y hy => h y (List.mem_cons_of_mem _ hy)
    have h2 := h x (List.mem_cons_self ..)
    have h3 := itoa_len x
    unfold rowT
    rw [List.map_cons, Lib.join_cons, List.length_append, List.length_cons, Nat.add_mul]
    omega

end Go.Proofs.YtcdfoephhjacdaaGreatDoor

/-
  spec.l2Number.
-/
namespace Go.Proofs.YtcdfoephhjacdaaGreatDoor
open Go.RowKit

/-- what spec.l2Number answers -/
def l2NumA (l : List UInt8) (lo hi : Int) (v : Int) (ok : Bool) : Prop :=
  (ok = true → l = Lib.itoa v ∧ lo ≤ v ∧ v ≤ hi) ∧ (∀ n : Int, l = Lib.itoa n → n.natAbs ≤ 1000000 → lo ≤ n → n ≤ hi → ok = true ∧ v = n)

theorem l2no {l : List UInt8} {lo hi : Int} (h : ∀ n : Int, l = Lib.itoa n → n.natAbs ≤ 1000000 → False) : l2NumA l lo hi 0 false := ⟨(fun h => absurd h (by decide)), fun n h1 h2 _ _ => (h n h1 h2).elim⟩
/-- how spec.l2Number ends -/
def L2N (w : World) (l : List UInt8) (lo hi : Int) (e : Ending) (w' : World) : Prop := ∃ v ok, e = .returned (.tuple #[.int .i64 v, .bool ok]) ∧ l2NumA l lo hi v ok ∧ Below w.heap.size w w'

theorem itoa_nine {n : Int} (h : n.natAbs ≤ 1000000) : 1 ≤ (Lib.itoa n).length ∧ (Lib.itoa n).length ≤ 9 := by
  unfold Lib.itoa
  by_cases h0 : n < 0
  · rw [if_pos h0, List.length_cons]
    have := Lib.decDigits_length n.natAbs
    have h2 := digits_short 6 n.natAbs (by omega)
    omega
  · rw [if_neg h0]
    have h1 := (digits_num n.toNat n.toNat (Nat.le_refl _)).1.ne
    have h2 := digits_short 6 n.toNat (by omega)
    have h3 : (Lib.decDigits n.toNat).length ≠ 0 := fun e => h1 (List.length_eq_zero_iff.1 e)
    omega

end Go.Proofs.YtcdfoephhjacdaaGreatDoor

/-
  strings.CutPrefix of a minus; impl.readWeight.
-/
namespace Go.Proofs.YtcdfoephhjacdaaGreatDoor
open Go.RowKit

def isMinus (s : ByteArray) : Bool := decide (s.data.toList.head? = some 45)
theorem minus_pre {s : ByteArray} (h : 1 ≤ s.size) : ((s.extract 0 1).toList == [45]) = isMinus s := by
  obtain ⟨⟨l⟩⟩ := s
  rw [ByteArray.toList_eq]
  unfold isMinus
  cases l with
  | nil => simp [ByteArray.size] at h
  | cons x r => 
    simp
    rfl
set_option maxHeartbeats 1000000 in
theorem hasPrefix_calls (w : World) (s : ByteArray) (hs : s.size ≤ 1099511627776) : Calls Tryz.prog 105 #[.string s, .string ⟨#[45]⟩] w fun e w' => e = .returned (.bool (isMinus s)) ∧ w' = w := by
  by_cases h : 1 ≤ s.size
  · have i1 : (1 : Int) ≤ (s.size : Int) := by omega
    have hm := minus_pre h
    generalize isMinus s = b at *
    go_enter Tryz.func105, Tryz.ntmps105
    go_wp2_with fail
    go_ret
    exact ⟨by simp, rfl⟩
  · have i1 : ¬ ((1 : Int) ≤ (s.size : Int)) := by omega
    have hm : isMinus s = false := by
      obtain ⟨⟨l⟩⟩ := s
      cases l with
      | nil => rfl
      | cons x r => simp [ByteArray.size] at h
    rw [hm]
    go_enter Tryz.func105, Tryz.ntmps105
    go_wp2_with fail
    go_ret
    exact ⟨rfl, rfl⟩

def cutM (s : ByteArray) : ByteArray := if isMinus s then ⟨s.data.toList.tail.toArray⟩ else s
theorem minus_cut {s : ByteArray} (h : isMinus s = true) : 1 ≤ s.size ∧ s.extract 1 s.size = cutM s := by
  unfold cutM
  rw [if_pos h]
  obtain ⟨⟨l⟩⟩ := s
  unfold isMinus at h
  cases l with
  | nil => simp at h
  | cons x r => exact ⟨by simp [ByteArray.size], by apply ByteArray.ext; simp [ByteArray.size]⟩

set_option maxHeartbeats 1000000 in
theorem cutLite_calls (w : World) (s : ByteArray) (hs : s.size ≤ 1099511627776) : Calls Tryz.prog 116 #[.string s, .string ⟨#[45]⟩] w fun e w' => e = .returned (.tuple #[.string (cutM s), .bool (isMinus s)]) ∧ w' = w := by
  have K := hid (hasPrefix_calls w s hs)
  cases hm : isMinus s
  · rw [hm] at K
    have hc : cutM s = s := by unfold cutM; rw [hm]; rfl
    rw [hc]
    go_enter Tryz.func116, Tryz.ntmps116
    go_wp2_with (first | (go_at_call 105; refine K.out.mono ?_; rintro e w' ⟨rfl, hw'⟩; subst w') | fail)
    go_ret2
    exact ⟨rfl, rfl⟩
  · rw [hm] at K
    obtain ⟨h1, h2⟩ := minus_cut hm
    have i1 : (1 : Int) ≤ (s.size : Int) := by omega
    rw [← h2]
    clear h2
    go_enter Tryz.func116, Tryz.ntmps116
    go_wp2_with (first | (go_at_call 105; refine K.out.mono ?_; rintro e w' ⟨rfl, hw'⟩; subst w') | fail)
    go_ret2
    exact ⟨rfl, rfl⟩
set_option maxHeartbeats 1000000 in
theorem cutPrefix_calls (w : World) (s : ByteArray) (hs : s.size ≤ 1099511627776) : Calls Tryz.prog 94 #[.string s, .string ⟨#[45]⟩] w fun e w' => e = .returned (.tuple #[.string (cutM s), .bool (isMinus s)]) ∧ w' = w := by
  have K := hid (cutLite_calls w s hs)
  go_enter Tryz.func94, Tryz.ntmps94
  go_wp2_with (first | (go_at_call 116; refine K.out.mono ?_; rintro e w' ⟨rfl, hw'⟩; subst w') | fail)
  go_ret2
  exact ⟨rfl, rfl⟩

def wtN (s : ByteArray) : Int := if isMinus s then -(numN (cutM s) 1000000 : Int) else numN s 1000000
def wtG (s : ByteArray) : Bool := if isMinus s then numG (cutM s) 1000000 && !decide (numN (cutM s) 1000000 = 0) else numG s 1000000
theorem cutM_size (s : ByteArray) : (cutM s).size ≤ s.size := by
  unfold cutM
  cases isMinus s
  · rw [if_neg (by decide)]; exact Nat.le_refl _
  · rw [if_pos rfl]
    obtain ⟨⟨l⟩⟩ := s
    simp [ByteArray.size]

set_option maxHeartbeats 1000000 in
theorem readWeight_calls (w : World) (s : ByteArray) (hs : s.size ≤ 1099511627776) : Calls Tryz.prog 66 #[.string s] w fun e w' => e = .returned (.tuple #[.int .i64 (wtN s), .bool (wtG s)]) ∧ w' = w := by
  have K := hid (cutPrefix_calls w s hs)
  have KN : Hid (Calls Tryz.prog 63 #[.string (cutM s), .int .i64 1000000] w fun e w' => e = .returned (.tuple #[.int .i64 (numN (cutM s) 1000000), .bool (numG (cutM s) 1000000)]) ∧ w' = w) := hid (readNumber_calls w (cutM s) 1000000 (Nat.le_trans (cutM_size s) hs) (by omega))
  have hle : numN (cutM s) 1000000 ≤ 1000000 := by
    unfold numN
    cases h : rdN (cutM s).data.toList 1000000 with
    | none => exact Nat.zero_le _
    | some n => exact (rdN_some.1 h).2
  unfold wtN wtG
  cases hm : isMinus s
  · rw [hm] at K
    have hc : cutM s = s := by unfold cutM; rw [hm]; rfl
    rw [hc] at K KN hle
    rw [if_neg (by decide), if_neg (by decide)]
    generalize numN s 1000000 = N at *
    generalize numG s 1000000 = Gd at *
    go_enter Tryz.func66, Tryz.ntmps66
    go_wp2_with (first | (go_at_call 94; refine K.out.mono ?_; rintro e w' ⟨rfl, hw'⟩; subst w') | (go_at_call 63; refine KN.out.mono ?_; rintro e w' ⟨rfl, hw'⟩; subst w') | fail)
    go_ret2
    exact ⟨rfl, rfl⟩
  · rw [hm] at K
    rw [if_pos rfl, if_pos rfl]
    generalize cutM s = cs at *
    generalize numN cs 1000000 = N at *
    generalize numG cs 1000000 = Gd at *
    have i1 : ((N : Int) != 0) = !decide (N = 0) := by
      by_cases e : N = 0
      · subst e; rfl
      · rw [decide_eq_false e]; simp; omega
    have i0 : ¬ ((N : Int) = -9223372036854775808) := by omega
    have i3 : ((N : Int) == -9223372036854775808) = false := by simp
    generalize (!decide (N = 0)) = z at *
    cases Gd
    · rw [Bool.false_and]
      go_enter Tryz.func66, Tryz.ntmps66
      go_wp2_with (first | (go_at_call 94; refine K.out.mono ?_; rintro e w' ⟨rfl, hw'⟩; subst w') | (go_at_call 63; refine KN.out.mono ?_; rintro e w' ⟨rfl, hw'⟩; subst w') | fail)
      go_ret2
      exact ⟨rfl, rfl⟩
    · rw [Bool.true_and]
      go_enter Tryz.func66, Tryz.ntmps66
      go_wp2_with (first | (go_at_call 94; refine K.out.mono ?_; rintro e w' ⟨rfl, hw'⟩; subst w') | (go_at_call 63; refine KN.out.mono ?_; rintro e w' ⟨rfl, hw'⟩; subst w') | fail)
      go_ret2
      exact ⟨rfl, rfl⟩

theorem num_alike {s : ByteArray} {most : Nat} {v : Int} {ok : Bool} (h : l2NumA s.data.toList 0 most v ok) (hm : most ≤ 1000000) : ok = numG s most ∧ (ok = true → v = numN s most) := by
  have hi : ∀ n : Nat, Lib.itoa (n : Int) = Lib.decDigits n := fun n => by unfold Lib.itoa; rw [if_neg (by omega)]; rfl
  unfold numG numN
  cases hr : rdN s.data.toList most with
  | some n =>
    obtain ⟨h1, h2⟩ := rdN_some.1 hr
    obtain ⟨h3, h4⟩ := h.2 n (by rw [hi, h1]) (by omega) (by omega) (by omega)
    exact ⟨by rw [h3]; rfl, fun _ => h4⟩
  | none =>
    cases ok with
    | false => exact ⟨rfl, fun h => by cases h⟩
    | true =>
      obtain ⟨h1, h2, h3⟩ := h.1 rfl
      obtain ⟨n, rfl⟩ : ∃ n : Nat, v = n := ⟨v.toNat, by omega⟩
      rw [hi] at h1
      have := (rdN_some (most := most)).2 ⟨h1, by omega⟩
      rw [hr] at this; cases this
end Go.Proofs.YtcdfoephhjacdaaGreatDoor

/-
  Weights: both sides alike.
-/
namespace Go.Proofs.YtcdfoephhjacdaaGreatDoor

theorem itoa_neg {n : Nat} (h : n ≠ 0) : Lib.itoa (-(n : Int)) = 45 :: Lib.decDigits n := by
  unfold Lib.itoa
  rw [if_pos (by omega), show (-(n : Int)).natAbs = n by omega]
theorem itoa_head (v : Int) : (Lib.itoa v).head? = some 45 ↔ v < 0 := by
  unfold Lib.itoa
  by_cases h : v < 0
  · rw [if_pos h]; simp [h]
  · rw [if_neg h]
    exact ⟨fun e => absurd e (dig_head _), fun e => absurd e h⟩
theorem wt_alike {s : ByteArray} {v : Int} {ok : Bool} (h : l2NumA s.data.toList (-1000000) 1000000 v ok) : ok = wtG s ∧ (ok = true → v = wtN s) := by
  unfold wtG wtN
  by_cases hm : s.data.toList.head? = some 45
  · have hmi : isMinus s = true := by unfold isMinus; rw [decide_eq_true hm]
    rw [hmi, if_pos rfl, if_pos rfl]
    obtain ⟨m, hl⟩ : ∃ m, s.data.toList = 45 :: m := by
      cases hd : s.data.toList with
      | nil => rw [hd] at hm; simp at hm
      | cons x r => rw [hd] at hm; simp at hm; exact ⟨r, by rw [hm]⟩
    have hcm : (cutM s).data.toList = m := by unfold cutM; rw [hmi, if_pos rfl, hl]; simp
    unfold numG numN
    rw [hcm]
    rw [hl] at h
    cases hr : rdN m 1000000 with
    | some n =>
      obtain ⟨h1, h2⟩ := rdN_some.1 hr
      by_cases h0 : n = 0
      · subst h0
        cases ok with
        | false => exact ⟨by simp, fun h => by cases h⟩
        | true =>
          obtain ⟨g1, g2, g3⟩ := h.1 rfl
          have hv : v < 0 := (itoa_head v).1 (by rw [← g1]; rfl)
          obtain ⟨k, rfl⟩ : ∃ k : Nat, v = -(k : Int) := ⟨v.natAbs, by omega⟩
          rw [itoa_neg (by omega), List.cons.injEq] at g1
          have := (rdN_some (most := 1000000)).2 ⟨g1.2, by omega⟩
          rw [hr] at this
          have := Option.some.inj this
          omega
      · obtain ⟨h3, h4⟩ := h.2 (-(n : Int)) (by rw [itoa_neg h0, h1]) (by omega) (by omega) (by omega)
        exact ⟨by rw [h3]; simp [h0], fun _ => h4⟩
    | none =>
      cases ok with
      | false => exact ⟨by simp, fun h => by cases h⟩
      | true =>
        obtain ⟨g1, g2, g3⟩ := h.1 rfl
        have hv : v < 0 := (itoa_head v).1 (by rw [← g1]; rfl)
        obtain ⟨k, rfl⟩ : ∃ k : Nat, v = -(k : Int) := ⟨v.natAbs, by omega⟩
        rw [itoa_neg (by omega), List.cons.injEq] at g1
        have := (rdN_some (most := 1000000)).2 ⟨g1.2, by omega⟩
        rw [hr] at this; cases this
  · have hmi : isMinus s = false := by unfold isMinus; rw [decide_eq_false hm]
    rw [hmi, if_neg (by decide), if_neg (by decide)]
    exact num_alike (most := 1000000) ⟨fun e => by
      obtain ⟨g1, g2, g3⟩ := h.1 e
      have : ¬ v < 0 := fun c => hm (by rw [g1]; exact (itoa_head v).2 c)
      exact ⟨g1, by omega, by omega⟩, fun n g1 g2 g3 g4 => h.2 n g1 g2 (by omega) (by omega)⟩ (Nat.le_refl _)

end Go.Proofs.YtcdfoephhjacdaaGreatDoor
