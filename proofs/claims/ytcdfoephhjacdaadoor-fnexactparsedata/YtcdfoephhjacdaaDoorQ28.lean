import Derived.BigQuiet
import Derived.Deep.Cut
import Derived.Deep.QuietTactic
import Derived.Deep.RegionLaw
import Derived.Lib.ItoaNum
import Derived.Lib.Join
import Derived.Test.YtcdfoephhjacdaaDoorQ07
import Derived.Test.YtcdfoephhjacdaaDoorQ26
import Derived.Test.YtcdfoephhjacdaaDoorQ27
/-
  Numbers with a sign, read from the left.
-/
namespace Go.Proofs.YtcdfoephhjacdaaDoor

def eN (l : List UInt8) : Nat → Nat
  | 0 => 0
  | j + 1 => if j = 0 ∧ l.head? = some 45 then 0 else eN l j * 10 + ((l.getD j 0).toNat - 48)
def okN (l : List UInt8) (i : Nat) : Bool := (decide (i = 0) && decide (l.head? = some 45)) || dgt (l.getD i 0)
def vN (l : List UInt8) : Int := if l.head? = some 45 then -(eN l l.length : Int) else eN l l.length

theorem eN_plain {l : List UInt8} (h : l.head? ≠ some 45) : ∀ j, j ≤ l.length → eN l j = dv (l.take j)
  | 0, _ => rfl
  | j + 1, hj => by
    rw [eN, if_neg (fun c => h c.2), eN_plain h j (by omega), dv_succ (by omega)]
theorem eN_minus (m : List UInt8) : ∀ j, j ≤ m.length → eN (45 :: m) (j + 1) = dv (m.take j)
  | 0, _ => by rw [eN, if_pos ⟨rfl, rfl⟩]; rfl
  | j + 1, hj => by
    rw [eN, if_neg (by omega), eN_minus m j (by omega), dv_succ (by omega)]
    rfl
theorem eN_lt (l : List UInt8) : ∀ j, (∀ i, i < j → okN l i = true) → eN l j < 10 ^ j
  | 0, _ => by rw [eN]; decide
  | j + 1, h => by
    have ih := eN_lt l j fun i hi => h i (by omega)
    rw [eN, Nat.pow_succ]
    by_cases c : j = 0 ∧ l.head? = some 45
    · rw [if_pos c]; have := Nat.pos_of_ne_zero (show (10 : Nat) ^ j ≠ 0 by simp); omega
    · rw [if_neg c]
      have hj := h j (by omega)
      unfold okN at hj
      rw [show (decide (j = 0) && decide (l.head? = some 45)) = false by
        by_cases c1 : j = 0
        · by_cases c2 : l.head? = some 45
          · exact absurd ⟨c1, c2⟩ c
          · simp [c2]
        · simp [c1], Bool.false_or] at hj
      have := dgt_num hj
      omega
theorem digits_short : ∀ (k n : Nat), n < 10 ^ (k + 1) → (Lib.decDigits n).length ≤ k + 1
  | 0, n, h => by rw [Lib.decDigits, dif_pos (by omega)]; simp
  | k + 1, n, h => by
    rw [Lib.decDigits]
    by_cases h1 : n < 10
    · rw [dif_pos h1]; simp
    · rw [dif_neg h1, List.length_append, List.length_singleton]
      have := digits_short k (n / 10) (by rw [Nat.pow_succ] at h; omega)
      omega
theorem dig_head (n : Nat) : (Lib.decDigits n).head? ≠ some 45 := fun e => by
  have h := (digits_num n n (Nat.le_refl _)).1
  cases hd : Lib.decDigits n with
  | nil => exact h.ne hd
  | cons x r =>
    rw [hd] at e h
    simp only [List.head?_cons, Option.some.injEq] at e
    have := dgt_num (h.dg x (List.mem_cons_self ..))
    rw [e] at this
    simp at this
theorem vN_itoa (n : Int) : vN (Lib.itoa n) = n ∧ ∀ i, i < (Lib.itoa n).length → okN (Lib.itoa n) i = true := by
  unfold Lib.itoa
  by_cases h : n < 0
  · rw [if_pos h]
    obtain ⟨h1, h2⟩ := digits_num n.natAbs n.natAbs (Nat.le_refl _)
    refine ⟨?_, fun i hi => ?_⟩
    · unfold vN
      rw [if_pos (show (45 :: Lib.decDigits n.natAbs).head? = some 45 from rfl), List.length_cons, eN_minus _ _ (Nat.le_refl _), List.take_length, h2]
      omega
    · unfold okN
      cases i with
      | zero => simp
      | succ i =>
        rw [List.length_cons] at hi
        have : (45 :: Lib.decDigits n.natAbs).getD (i + 1) 0 = (Lib.decDigits n.natAbs).getD i 0 := rfl
        rw [this, h1.dg _ (by rw [List.getD_eq_getElem?_getD, List.getElem?_eq_getElem (by omega)]; exact List.getElem_mem _), Bool.or_true]
  · rw [if_neg h]
    obtain ⟨h1, h2⟩ := digits_num n.toNat n.toNat (Nat.le_refl _)
    have h3 := dig_head n.toNat
    refine ⟨?_, fun i hi => ?_⟩
    · unfold vN
      rw [if_neg h3, eN_plain h3 _ (Nat.le_refl _), List.take_length, h2]
      omega
    · unfold okN
      rw [h1.dg _ (by rw [List.getD_eq_getElem?_getD, List.getElem?_eq_getElem hi]; exact List.getElem_mem _), Bool.or_true]

end Go.Proofs.YtcdfoephhjacdaaDoor

/-
  spec: l2Dec, l2RowText.
-/
namespace Go.Proofs.YtcdfoephhjacdaaDoor
open Go.RowKit

theorem dig_at : ∀ d : Nat, d < 10 → (⟨#[48, 49, 50, 51, 52, 53, 54, 55, 56, 57]⟩ : ByteArray).extract d (d + 1) = ⟨#[UInt8.ofNat (48 + d)]⟩
  | 0, _ => rfl
  | 1, _ => rfl
  | 2, _ => rfl
  | 3, _ => rfl
  | 4, _ => rfl
  | 5, _ => rfl
  | 6, _ => rfl
  | 7, _ => rfl
  | 8, _ => rfl
  | 9, _ => rfl
  | d + 10, h => by omega

theorem wrap_small2 (k : Nat) (h : k ≤ 1099511627776) : IntKind.i64.wrap (k : Int) = k := by
  simp [IntKind.wrap, IntKind.bits, IntKind.signed]
  omega

theorem digs_len : ∀ (k n : Nat), n ≤ k → (Lib.decDigits n).length ≤ n + 1
  | 0, n, h => by rw [Lib.decDigits, dif_pos (by omega)]; simp
  | k + 1, n, h => by
    rw [Lib.decDigits]
    by_cases h1 : n < 10
    · rw [dif_pos h1]; simp
    · rw [dif_neg h1, List.length_append, List.length_singleton]
      have := digs_len k (n / 10) (by omega)
      omega
theorem cat_bytes (a b : List UInt8) : (⟨a.toArray⟩ : ByteArray) ++ ⟨b.toArray⟩ = ⟨(a ++ b).toArray⟩ := by
  apply ByteArray.ext
  simp

def txt (l : List UInt8) : Value := .string ⟨l.toArray⟩

set_option maxHeartbeats 400000 in
set_option maxRecDepth 1000000 in
theorem l2Dec_calls : ∀ (k n : Nat) (w : World), n ≤ k → n ≤ 1000000000 → Calls Tryd.prog 67 #[.int .i64 (n : Int)] w fun e w' => e = .returned (.string ⟨(Lib.decDigits n).toArray⟩) ∧ ∃ d, w' = w.drewN d := by
  intro k
  induction k with
  | zero =>
    intro n w hn hb
    obtain rfl : n = 0 := by omega
    rw [Lib.decDigits, dif_pos (by omega)]
    go_enter Tryd.func67, Tryd.ntmps67
    go_wp2
    go_ret
    exact ⟨rfl, 0, rfl⟩
  | succ k ih =>
    intro n w hn hb
    by_cases h10 : n < 10
    · rw [Lib.decDigits, dif_pos h10]
      have i1 : ¬ ((n : Int) < 0) := by omega
      have i2 : (n : Int) < 10 := by omega
      go_enter Tryd.func67, Tryd.ntmps67
      go_wp2
      go_ret
      rw [dig_at n h10]
      exact ⟨by simp, 0, rfl⟩
    · rw [Lib.decDigits, dif_neg h10]
      have i1 : ¬ ((n : Int) < 0) := by omega
      have i2 : ¬ ((n : Int) < 10) := by omega
      have KR : Hid (∀ W, Calls Tryd.prog 67 #[.int .i64 ((n : Int) / 10)] W fun e w' => e = .returned (.string ⟨(Lib.decDigits (n / 10)).toArray⟩) ∧ ∃ q, w' = W.drewN q) := hid fun W => by rw [show (n : Int) / 10 = ((n / 10 : Nat) : Int) by omega]; exact ih (n / 10) _ (by omega) (by omega)
      have hd : (⟨#[48, 49, 50, 51, 52, 53, 54, 55, 56, 57]⟩ : ByteArray).extract (n % 10) (n % 10 + 1) = ⟨#[UInt8.ofNat (48 + n % 10)]⟩ := dig_at (n % 10) (by omega)
      have HD := hid hd
      have e1 : (n : Int) / 10 = ((n / 10 : Nat) : Int) := by omega
      have hw1 : IntKind.i64.wrap ((n : Int) / 10) = (n : Int) / 10 := by rw [e1]; exact wrap_small2 _ (by omega)
      obtain ⟨r, hr⟩ : ∃ r, r = n % 10 := ⟨_, rfl⟩
      have hm : (n : Int).tmod 10 = (r : Int) := by rw [Int.tmod_eq_emod_of_nonneg (by omega)]; omega
      have hr10 : r < 10 := by omega
      have hw3 : IntKind.i64.wrap ((r : Int) + 1) = (r : Int) + 1 := wrap_small2 (r + 1) (by omega)
      rw [← hr] at HD ⊢
      clear hd ih e1 hr
      have hdl := digs_len (n / 10) (n / 10) (Nat.le_refl _)
      generalize Lib.decDigits (n / 10) = ds at *
      have hcc : ¬ (9223372036854775807 < ds.length + (min (r + 1) 10 - r)) := by omega
      clear hdl
      go_enter Tryd.func67, Tryd.ntmps67
      go_upto_region 7 with fail
      have i3 : (r : Int) ≤ (r : Int) + 1 := by omega
      have i4 : (r : Int) + 1 ≤ 10 := by omega
      have i5 : ¬ ((r : Int) < 0) := by omega
      have i6 : (0 : Int) ≤ (r : Int) := by omega
      go_region_law (first | (go_simp; go_at_call 67; (with_reducible refine (KR.out _).mono ?_); rintro e w2 ⟨rfl, d2, rfl⟩) | fail)
      all_goals
        go_wp2
        go_ret
        rw [HD.out]
        refine ⟨?_, _, rfl⟩
        show Ending.returned (.string ((⟨ds.toArray⟩ : ByteArray) ++ ⟨[UInt8.ofNat (48 + r)].toArray⟩)) = _
        rw [cat_bytes]
        simp

theorem itoa_len (n : Int) : (Lib.itoa n).length ≤ n.natAbs + 2 := by
  unfold Lib.itoa
  by_cases h : n < 0
  · rw [if_pos h, List.length_cons]
    have := digs_len _ n.natAbs (Nat.le_refl _)
    omega
  · rw [if_neg h]
    have := digs_len _ n.toNat (Nat.le_refl _)
    omega

set_option maxHeartbeats 400000 in
theorem l2DecI_calls (n : Int) (w : World) (h0 : -1000000000 ≤ n) (h1 : n ≤ 1000000000) : Calls Tryd.prog 67 #[.int .i64 n] w fun e w' => e = .returned (.string ⟨(Lib.itoa n).toArray⟩) ∧ ∃ d, w' = w.drewN d := by
  unfold Lib.itoa
  by_cases h : n < 0
  · rw [if_pos h]
    have KD : Hid (Calls Tryd.prog 67 #[.int .i64 (-n)] w fun e w' => e = .returned (.string ⟨(Lib.decDigits n.natAbs).toArray⟩) ∧ ∃ d, w' = w.drewN d) := hid (by
      rw [show -n = ((n.natAbs : Nat) : Int) by omega]
      exact l2Dec_calls _ _ w (Nat.le_refl _) (by omega))
    have hl := digs_len _ n.natAbs (Nat.le_refl _)
    have i0 : ¬ (n = -9223372036854775808) := by omega
    have i3 : (n == -9223372036854775808) = false := by simp; omega
    generalize Lib.decDigits n.natAbs = ds at *
    have hcc : ¬ (9223372036854775807 < 1 + ds.length) := by omega
    go_enter Tryd.func67, Tryd.ntmps67
    go_wp2_with fail
    refine KD.out.mono ?_
    rintro e w2 ⟨rfl, d, rfl⟩
    go_wp2_with fail
    go_ret
    refine ⟨?_, _, rfl⟩
    show Ending.returned (.string ((⟨[45].toArray⟩ : ByteArray) ++ ⟨ds.toArray⟩)) = _
    rw [cat_bytes]
    rfl
  · rw [if_neg h]
    have := l2Dec_calls _ n.toNat w (Nat.le_refl _) (by omega)
    rw [show ((n.toNat : Nat) : Int) = n by omega] at this
    exact this

/-- a row's text -/
def rowT (l : List Int) : List UInt8 := Lib.join (l.map Lib.itoa) [32]
theorem join_snoc (xs : List (List UInt8)) (x sep : List UInt8) : Lib.join (xs ++ [x]) sep = if xs = [] then x else Lib.join xs sep ++ sep ++ x := by
  cases xs with
  | nil => rw [if_pos rfl, List.nil_append, Lib.join_one]
  | cons y r =>
    rw [if_neg (by simp), List.cons_append, Lib.join_cons, Lib.join_cons]
    simp [Lib.joinTail]
theorem rowT_snoc (l : List Int) (x : Int) : rowT (l ++ [x]) = if l = [] then Lib.itoa x else rowT l ++ [32] ++ Lib.itoa x := by
  unfold rowT
  rw [List.map_append, List.map_cons, List.map_nil, join_snoc]
  by_cases h : l = []
  · rw [if_pos h, if_pos (by rw [h]; rfl)]
  · rw [if_neg h, if_neg (by simpa using h)]
theorem tail_len (M : Nat) (l : List Int) (h : ∀ x ∈ l, x.natAbs ≤ M) : (Lib.joinTail [32] (l.map Lib.itoa)).length ≤ l.length * (M + 3) := by
  induction l with
  | nil => simp [Lib.joinTail]
  | cons x l ih =>
    have h1 := ih fun y hy => h y (List.mem_cons_of_mem _ hy)
    have h2 := h x (List.mem_cons_self ..)
    have h3 := itoa_len x
    have e : Lib.joinTail [32] ((x :: l).map Lib.itoa) = [32] ++ Lib.itoa x ++ Lib.joinTail [32] (l.map Lib.itoa) := by simp [Lib.joinTail]
    rw [e, List.length_append, List.length_append, List.length_singleton, List.length_cons, Nat.add_mul]
    omega
theorem rowT_len (M : Nat) (l : List Int) (h : ∀ x ∈ l, x.natAbs ≤ M) : (rowT l).length ≤ l.length * (M + 3) := by
  cases l with
  | nil => simp [rowT, Lib.join_nil]
  | cons x l =>
    have h1 := tail_len M l fun y hy => h y (List.mem_cons_of_mem _ hy)
    have h2 := h x (List.mem_cons_self ..)
    have h3 := itoa_len x
    unfold rowT
    rw [List.map_cons, Lib.join_cons, List.length_append, List.length_cons, Nat.add_mul]
    omega

end Go.Proofs.YtcdfoephhjacdaaDoor

/-
  spec.l2Number.
-/
namespace Go.Proofs.YtcdfoephhjacdaaDoor
open Go.RowKit

theorem betweenN_calls (w : World) (x lo hi : Int) : Calls Tryd.prog 68 #[.int .i64 x, .int .i64 lo, .int .i64 hi] w fun e w' => e = .returned (.bool (decide (lo ≤ x) && decide (x ≤ hi))) ∧ Below w.heap.size w w' := by
  by_cases h1 : lo ≤ x
  · by_cases h2 : x ≤ hi
    · rw [decide_eq_true h1, decide_eq_true h2]
      go_enter Tryd.func68, Tryd.ntmps68
      go_wp2
      go_ret
      exact ⟨rfl, Below.refl _ _⟩
    · rw [decide_eq_true h1, decide_eq_false h2]
      go_enter Tryd.func68, Tryd.ntmps68
      go_wp2
      go_ret
      exact ⟨rfl, Below.refl _ _⟩
  · rw [decide_eq_false h1]
    go_enter Tryd.func68, Tryd.ntmps68
    go_wp2
    go_ret
    exact ⟨rfl, Below.refl _ _⟩

/-- what spec.l2Number answers -/
def l2NumA (l : List UInt8) (lo hi : Int) (v : Int) (ok : Bool) : Prop :=
  (ok = true → l = Lib.itoa v ∧ lo ≤ v ∧ v ≤ hi) ∧ (∀ n : Int, l = Lib.itoa n → n.natAbs ≤ 1000000 → lo ≤ n → n ≤ hi → ok = true ∧ v = n)

theorem l2no {l : List UInt8} {lo hi : Int} (h : ∀ n : Int, l = Lib.itoa n → n.natAbs ≤ 1000000 → False) : l2NumA l lo hi 0 false := ⟨(fun h => absurd h (by decide)), fun n h1 h2 _ _ => (h n h1 h2).elim⟩
/-- how spec.l2Number ends -/
def L2N (w : World) (l : List UInt8) (lo hi : Int) (e : Ending) (w' : World) : Prop := ∃ v ok, e = .returned (.tuple #[.int .i64 v, .bool ok]) ∧ l2NumA l lo hi v ok ∧ Below w.heap.size w w'

theorem itoa_nine {n : Int} (h : n.natAbs ≤ 1000000) : 1 ≤ (Lib.itoa n).length ∧ (Lib.itoa n).length ≤ 9 := by
  unfold Lib.itoa
  by_cases h0 : n < 0
  · rw [if_pos h0, List.length_cons]
    have := Lib.decDigits_length n.natAbs
    have h2 := digits_short 6 n.natAbs (by omega)
    omega
  · rw [if_neg h0]
    have h1 := (digits_num n.toNat n.toNat (Nat.le_refl _)).1.ne
    have h2 := digits_short 6 n.toNat (by omega)
    have h3 : (Lib.decDigits n.toNat).length ≠ 0 := fun e => h1 (List.length_eq_zero_iff.1 e)
    omega

set_option maxHeartbeats 4000000 in
set_option maxRecDepth 1000000 in
theorem l2Number_calls (w : World) (s : ByteArray) (lo hi : Int) (hs : s.size ≤ 1099511627776) :
    Calls Tryd.prog 36 #[.string s, .int .i64 lo, .int .i64 hi] w (L2N w s.data.toList lo hi) := by
  have hlen : s.data.toList.length = s.size := by simp
  by_cases h0 : s.size = 0
  · have i1 : (s.size : Int) < 1 := by omega
    have HN : Hid (l2NumA s.data.toList lo hi 0 false) := hid (l2no fun n h1 h2 => by have := (itoa_nine h2).1; rw [← h1] at this; omega)
    go_enter Tryd.func36, Tryd.ntmps36
    go_wp2
    go_ret2
    exact ⟨_, _, rfl, HN.out, Below.refl _ _⟩
  have i1 : ¬ ((s.size : Int) < 1) := by omega
  by_cases h9 : 9 < s.size
  · have i2 : (9 : Int) < (s.size : Int) := by omega
    have HN : Hid (l2NumA s.data.toList lo hi 0 false) := hid (l2no fun n h1 h2 => by have := (itoa_nine h2).2; rw [← h1] at this; omega)
    go_enter Tryd.func36, Tryd.ntmps36
    go_wp2
    go_ret2
    exact ⟨_, _, rfl, HN.out, Below.refl _ _⟩
  have i2 : ¬ ((9 : Int) < (s.size : Int)) := by omega
  have hp0 : 0 < s.size := by omega
  have hhd : s.data.toList.head? = some (s.data.toList.getD 0 0) := by
    cases hl : s.data.toList with
    | nil => rw [hl] at hlen; simp at hlen; omega
    | cons x r => rfl
  have HM : Hid ((byteAt s 0 = 45) ↔ s.data.toList.head? = some 45) := hid (by
    rw [hhd, Option.some.injEq]
    constructor
    · intro h; exact UInt8.toNat_inj.1 (by have : (((s.data.toList.getD 0 0).toNat : Nat) : Int) = 45 := h; show _ = 45; omega)
    · intro h; show (((s.data.toList.getD 0 0).toNat : Nat) : Int) = 45; rw [h]; rfl)
  have HBad : Hid (∀ i, i < s.size → okN s.data.toList i = false → l2NumA s.data.toList lo hi 0 false) := hid fun i hi hb => l2no fun n h1 h2 => by
    have := (vN_itoa n).2 i (by rw [← h1]; omega)
    rw [← h1, hb] at this; cases this
  have HEnd : Hid (∀ v, v = vN s.data.toList → l2NumA s.data.toList lo hi v ((Lib.itoa v == s.data.toList) && (decide (lo ≤ v) && decide (v ≤ hi)))) := hid fun v hv => ⟨fun h => by
      simp only [Bool.and_eq_true, decide_eq_true_eq, beq_iff_eq] at h
      exact ⟨h.1.symm, h.2.1, h.2.2⟩, fun n h1 h2 h3 h4 => by
      have e : v = n := by rw [hv, h1]; exact (vN_itoa n).1
      subst e
      exact ⟨by rw [h1]; simp [h3, h4], rfl⟩⟩
  have HS : Hid (∀ j, eN s.data.toList (j + 1) = if j = 0 ∧ s.data.toList.head? = some 45 then 0 else eN s.data.toList j * 10 + ((s.data.toList.getD j 0).toNat - 48)) := hid fun j => rfl
  have HOk : Hid (∀ j, okN s.data.toList j = ((decide (j = 0) && decide (s.data.toList.head? = some 45)) || dgt (s.data.toList.getD j 0))) := hid fun j => rfl
  have HLt : Hid (∀ j, j ≤ 8 → (∀ i, i < j → okN s.data.toList i = true) → eN s.data.toList j < 100000000) := hid fun j hj h => by
    have h1 := eN_lt s.data.toList j h
    have h2 : (10 : Nat) ^ j ≤ 10 ^ 8 := Nat.pow_le_pow_right (by decide) hj
    omega
  have HLt9 : Hid ((∀ i, i < s.size → okN s.data.toList i = true) → eN s.data.toList s.size < 1000000000) := hid fun h => by
    have h1 := eN_lt s.data.toList s.size h
    have h2 : (10 : Nat) ^ s.size ≤ 10 ^ 9 := Nat.pow_le_pow_right (by decide) (by omega)
    omega
  have HV : Hid (vN s.data.toList = if s.data.toList.head? = some 45 then -(eN s.data.toList s.size : Int) else eN s.data.toList s.size) := hid (by unfold vN; rw [hlen])
  have HAT : Hid (∀ i (h : i < s.size), ((s[i]'h).toNat : Int) = ((s.data.toList.getD i 0).toNat : Int)) := hid fun i h => by rw [← byteAt_eq s i h]; rfl
  have KD : Hid (∀ W v, -1000000000 ≤ v → v ≤ 1000000000 → Calls Tryd.prog 67 #[.int .i64 v] W fun e w' => e = .returned (.string ⟨(Lib.itoa v).toArray⟩) ∧ Below W.heap.size W w') := hid fun W v h1 h2 => (l2DecI_calls v W h1 h2).mono fun e w' ⟨h1, d, h2⟩ => ⟨h1, by rw [h2]; exact ⟨rfl, rfl, rfl, Nat.le_refl _, fun _ _ => rfl⟩⟩
  clear hlen
  obtain ⟨mn, hmn⟩ : ∃ b : Bool, b = decide (s.data.toList.head? = some 45) := ⟨_, rfl⟩
  have HMn : Hid (mn = true ↔ s.data.toList.head? = some 45) := hid (by rw [hmn]; simp)
  clear hmn hhd
  obtain ⟨n, hn⟩ : ∃ n, n = s.size := ⟨_, rfl⟩
  rw [← hn] at HBad HLt9 HV
  go_enter Tryd.func36, Tryd.ntmps36
  go_wp2_with fail
  go_loop [8, 9] (fun u t => ∃ j d : Nat, j ≤ n ∧ t = .int .i64 j ∧ u = .int .i64 d ∧ Hid (d = eN s.data.toList j ∧ ∀ i, i < j → okN s.data.toList i = true)) (fun _ t => n - (intOf t).toNat)
  case atStart => exact ⟨0, 0, Nat.zero_le _, rfl, rfl, hid ⟨rfl, fun i hi => by omega⟩⟩
  case round =>
    obtain ⟨j, d, hj, rfl, rfl, hok⟩ := hrel
    by_cases hjn : j < n
    · have j1 : (j : Int) < (s.size : Int) := by omega
      have hjs : j < s.size := by omega
      have hAT := HAT.out j hjs
      have hd : d < 100000000 := by rw [hok.out.1]; exact HLt.out j (by omega) hok.out.2
      have hOkj := HOk.out j
      have hS := HS.out j
      rw [← hok.out.1] at hS
      have hBad := hid (HBad.out j hjn)
      have nxt : Hid (okN s.data.toList j = true → ∀ i, i < j + 1 → okN s.data.toList i = true) := hid fun e i hi => by
        by_cases e2 : i = j
        · rw [e2]; exact e
        · exact hok.out.2 i (by omega)
      by_cases hm : j = 0 ∧ s.data.toList.head? = some 45
      · have hb : (((s[j]'hjs).toNat : Int) == 45) = true := by
          have := HM.out.2 hm.2
          obtain ⟨rfl, -⟩ := hm
          rw [← byteAt_eq s 0 hjs, this]; rfl
        have hO : okN s.data.toList j = true := by rw [hOkj]; simp [hm.1, hm.2]
        rw [if_pos hm] at hS
        have hd0 : d = 0 := by rw [hok.out.1, hm.1]; rfl
        have HNX : Hid (d = eN s.data.toList (j + 1) ∧ ∀ i, i < j + 1 → okN s.data.toList i = true) := hid ⟨by rw [hS]; exact hd0, nxt.out hO⟩
        have hj0 : ((j : Int) == 0) = true := by rw [hm.1]; rfl
        clear hOkj hS hok nxt hBad hd hO HBad HEnd HS HOk HLt HLt9 HV HAT KD HM HMn hAT hm hd0
        go_wp2_with fail
        go_round
        case rel => exact ⟨j + 1, d, by omega, by go_num, rfl, HNX⟩
        case measure => simp [intOf]; omega
      · rw [if_neg hm] at hS
        have hOk2 : okN s.data.toList j = dgt (s.data.toList.getD j 0) := by
          rw [hOkj]
          by_cases c1 : j = 0
          · by_cases c2 : s.data.toList.head? = some 45
            · exact absurd ⟨c1, c2⟩ hm
            · simp [c2]
          · simp [c1]
        have h45 : (((s[j]'hjs).toNat : Int) == 45) = true → ((j : Int) == 0) = false := fun e => by
          by_cases c : j = 0
          · exact absurd ⟨c, HM.out.1 (by subst c; rw [byteAt_eq s 0 hjs]; simpa using e)⟩ hm
          · simp; omega
        have KG := hid (l2Digit_calls w ((s[j]'hjs).toNat : Int))
        rw [hAT, byte_dgt] at KG
        rw [hAT] at h45
        rw [hOk2] at nxt hBad
        have hx := hid (dgt_num (b := s.data.toList.getD j 0))
        have HD' := hid hS
        clear hOkj hS hok HBad HEnd HS HOk HLt HLt9 HV HAT KD HM HMn hm hOk2
        generalize dgt (s.data.toList.getD j 0) = dg at *
        generalize (s.data.toList.getD j 0).toNat = b at *
        cases dg
        · have HN := hid (hBad.out rfl)
          clear hBad nxt hx HD'
          cases h45b : ((b : Int) == 45)
          · go_wp2_with (first | (go_at_call 49; refine KG.out.mono ?_; rintro e w' ⟨rfl, hw'⟩; subst w') | fail)
            go_ret2
            exact ⟨_, _, rfl, HN.out, Below.refl _ _⟩
          · have hj0 := h45 h45b
            go_wp2_with (first | (go_at_call 49; refine KG.out.mono ?_; rintro e w' ⟨rfl, hw'⟩; subst w') | fail)
            go_ret2
            exact ⟨_, _, rfl, HN.out, Below.refl _ _⟩
        · obtain ⟨x1, x2⟩ := hx.out rfl
          have h45b : ((b : Int) == 45) = false := by simp; omega
          have HAL := hid (nxt.out rfl)
          have hw1 : IntKind.u8.wrap ((b : Int) - 48) = (b : Int) - 48 := by simp [IntKind.wrap, IntKind.bits, IntKind.signed]; omega
          have hw2 : IntKind.i64.wrap ((b : Int) - 48) = (b : Int) - 48 := by simp [IntKind.wrap, IntKind.bits, IntKind.signed]; omega
          have hw3 : IntKind.i64.wrap ((d : Int) * 10) = (d : Int) * 10 := by simp [IntKind.wrap, IntKind.bits, IntKind.signed]; omega
          have hw4 : IntKind.i64.wrap ((d : Int) * 10 + ((b : Int) - 48)) = (d : Int) * 10 + ((b : Int) - 48) := by simp [IntKind.wrap, IntKind.bits, IntKind.signed]; omega
          have HNX : Hid (∃ d' : Nat, ((d : Int) * 10 + ((b : Int) - 48)) = d' ∧ d' = eN s.data.toList (j + 1)) := hid ⟨d * 10 + (b - 48), by omega, HD'.out.symm⟩
          clear nxt hx hBad h45 HD'
          go_wp2_with (first | (go_at_call 49; refine KG.out.mono ?_; rintro e w' ⟨rfl, hw'⟩; subst w') | fail)
          go_round
          case rel =>
            obtain ⟨d', e1, e3⟩ := HNX.out
            exact ⟨j + 1, d', by omega, by go_num, by rw [e1], hid ⟨e3, HAL.out⟩⟩
          case measure => simp [intOf]; omega
    · obtain rfl : j = n := by omega
      have j1 : ¬ ((j : Int) < (s.size : Int)) := by omega
      have hd9 : d < 1000000000 := by rw [hok.out.1]; exact HLt9.out hok.out.2
      have hV := HV.out
      rw [← hok.out.1] at hV
      have HEndV := hid (HEnd.out (if s.data.toList.head? = some 45 then -(d : Int) else d) hV.symm)
      have hb : (((s[0]'hp0).toNat : Int) == 45) = decide (s.data.toList.head? = some 45) := by
        by_cases c : s.data.toList.head? = some 45
        · have := HM.out.2 c
          rw [decide_eq_true c, ← byteAt_eq s 0 hp0, this]; rfl
        · have : ¬ byteAt s 0 = 45 := fun e => c (HM.out.1 e)
          rw [decide_eq_false c, ← byteAt_eq s 0 hp0]; simpa using this
      have hTL : s.toList = s.data.toList := ByteArray.toList_eq s
      clear HEnd HS HOk HLt HAT HMn hok HV HLt9 HBad hV HM
      by_cases c : s.data.toList.head? = some 45
      · rw [if_pos c] at HEndV
        rw [decide_eq_true c] at hb
        have KD1 := hid (KD.out w (-(d : Int)) (by omega) (by omega))
        have KB : Hid (∀ W, Calls Tryd.prog 68 #[.int .i64 (-(d : Int)), .int .i64 lo, .int .i64 hi] W fun e w' => e = .returned (.bool (decide (lo ≤ (-(d : Int))) && decide ((-(d : Int)) ≤ hi))) ∧ Below W.heap.size W w') := hid fun W => betweenN_calls W (-(d : Int)) lo hi
        clear KD c
        generalize Lib.itoa (-(d : Int)) = it at *
        generalize (decide (lo ≤ (-(d : Int))) && decide ((-(d : Int)) ≤ hi)) = bt0 at *
        cases hE : (it == s.toList)
        · have HFin : Hid (l2NumA s.data.toList lo hi (-(d : Int)) false) := hid (by have := HEndV.out; rw [← hTL, hE, Bool.false_and, hTL] at this; exact this)
          clear HEndV hTL
          go_wp2_with fail
          refine KD1.out.mono ?_
          rintro e w2 ⟨rfl, hb2⟩
          go_wp2_with fail
          go_ret2
          exact ⟨_, _, rfl, HFin.out, hb2⟩
        · have HFin : Hid (l2NumA s.data.toList lo hi (-(d : Int)) bt0) := hid (by have := HEndV.out; rw [← hTL, hE, Bool.true_and, hTL] at this; exact this)
          clear HEndV hTL
          go_wp2_with fail
          refine KD1.out.mono ?_
          rintro e w2 ⟨rfl, hb2⟩
          go_wp2_with fail
          refine (KB.out w2).mono ?_
          rintro e w3 ⟨rfl, hb3⟩
          go_wp2_with fail
          go_ret2
          exact ⟨_, _, rfl, HFin.out, bt hb2 hb3⟩
      · rw [if_neg c] at HEndV
        rw [decide_eq_false c] at hb
        have KD1 := hid (KD.out w (d : Int) (by omega) (by omega))
        have KB : Hid (∀ W, Calls Tryd.prog 68 #[.int .i64 (d : Int), .int .i64 lo, .int .i64 hi] W fun e w' => e = .returned (.bool (decide (lo ≤ (d : Int)) && decide ((d : Int) ≤ hi))) ∧ Below W.heap.size W w') := hid fun W => betweenN_calls W (d : Int) lo hi
        clear KD c
        generalize Lib.itoa (d : Int) = it at *
        generalize (decide (lo ≤ (d : Int)) && decide ((d : Int) ≤ hi)) = bt0 at *
        cases hE : (it == s.toList)
        · have HFin : Hid (l2NumA s.data.toList lo hi (d : Int) false) := hid (by have := HEndV.out; rw [← hTL, hE, Bool.false_and, hTL] at this; exact this)
          clear HEndV hTL
          go_wp2_with fail
          refine KD1.out.mono ?_
          rintro e w2 ⟨rfl, hb2⟩
          go_wp2_with fail
          go_ret2
          exact ⟨_, _, rfl, HFin.out, hb2⟩
        · have HFin : Hid (l2NumA s.data.toList lo hi (d : Int) bt0) := hid (by have := HEndV.out; rw [← hTL, hE, Bool.true_and, hTL] at this; exact this)
          clear HEndV hTL
          go_wp2_with fail
          refine KD1.out.mono ?_
          rintro e w2 ⟨rfl, hb2⟩
          go_wp2_with fail
          refine (KB.out w2).mono ?_
          rintro e w3 ⟨rfl, hb3⟩
          go_wp2_with fail
          go_ret2
          exact ⟨_, _, rfl, HFin.out, bt hb2 hb3⟩
end Go.Proofs.YtcdfoephhjacdaaDoor
