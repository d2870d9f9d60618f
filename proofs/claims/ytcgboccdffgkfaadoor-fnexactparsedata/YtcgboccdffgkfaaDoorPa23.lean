import Derived.BigQuiet
import Derived.Deep.Cut
import Derived.Deep.QuietTactic
import Derived.Deep.RegionLaw
import Derived.Lib.ItoaNum
import Derived.Lib.Join
import Derived.Test.YtcgboccdffgkfaaDoorPa06
import Derived.Test.YtcgboccdffgkfaaDoorPa21
import Derived.Test.YtcgboccdffgkfaaDoorPa22
/-
  spec: l2Dec, l2RowText.
-/
namespace Go.Proofs.YtcgboccdffgkfaaDoor
open Go.RowKit

theorem dig_at : ∀ d : Nat, d < 10 → (⟨#[48, 49, 50, 51, 52, 53, 54, 55, 56, 57]⟩ : ByteArray).extract d (d + 1) = ⟨#[UInt8.ofNat (48 + d)]⟩
  | 0, _ => rfl
  | 1, _ => rfl
  | 2, _ => rfl
  | 3, _ => rfl
  | 4, _ => rfl
  | 5, _ => rfl
  | 6, _ => rfl
  | 7, _ => rfl
  | 8, _ => rfl
  | 9, _ => rfl
  | d + 10, h => by omega

theorem wrap_small2 (k : Nat) (h : k ≤ 1099511627776) : IntKind.i64.wrap (k : Int) = k := by
  simp [IntKind.wrap, IntKind.bits, IntKind.signed]
  omega

theorem digs_len : ∀ (k n : Nat), n ≤ k → (Lib.decDigits n).length ≤ n + 1
  | 0, n, h => by rw [Lib.decDigits, dif_pos (by omega)]; simp
  | k + 1, n, h => by
    rw [Lib.decDigits]
    by_cases h1 : n < 10
    · rw [dif_pos h1]; simp
    · rw [dif_neg h1, List.length_append, List.length_singleton]
      have := digs_len k (n / 10) (by omega)
      omega
theorem cat_bytes (a b : List UInt8) : (⟨a.toArray⟩ : ByteArray) ++ ⟨b.toArray⟩ = ⟨(a ++ b).toArray⟩ := by
  apply ByteArray.ext
  simp

def txt (l : List UInt8) : Value := .string ⟨l.toArray⟩

set_option maxHeartbeats 400000 in
set_option maxRecDepth 1000000 in
theorem l2Dec_calls : ∀ (k n : Nat) (w : World), n ≤ k → n ≤ 1000000000 → Calls Tryd.prog 24 #[.int .i64 (n : Int)] w fun e w' => e = .returned (.string ⟨(Lib.decDigits n).toArray⟩) ∧ ∃ d, w' = w.drewN d := by
  intro k
  induction k with
  | zero =>
    intro n w hn hb
    obtain rfl : n = 0 := by omega
    rw [Lib.decDigits, dif_pos (by omega)]
    go_enter Tryd.func24, Tryd.ntmps24
    go_wp2
    go_ret
    exact ⟨rfl, 0, rfl⟩
  | succ k ih =>
    intro n w hn hb
    by_cases h10 : n < 10
    · rw [Lib.decDigits, dif_pos h10]
      have i1 : ¬ ((n : Int) < 0) := by omega
      have i2 : (n : Int) < 10 := by omega
      go_enter Tryd.func24, Tryd.ntmps24
      go_wp2
      go_ret
      rw [dig_at n h10]
      exact ⟨by simp, 0, rfl⟩
    · rw [Lib.decDigits, dif_neg h10]
      have i1 : ¬ ((n : Int) < 0) := by omega
      have i2 : ¬ ((n : Int) < 10) := by omega
      have KR : Hid (∀ W, Calls Tryd.prog 24 #[.int .i64 ((n : Int) / 10)] W fun e w' => e = .returned (.string ⟨(Lib.decDigits (n / 10)).toArray⟩) ∧ ∃ q, w' = W.drewN q) := hid fun W => by rw [show (n : Int) / 10 = ((n / 10 : Nat) : Int) by omega]; exact ih (n / 10) _ (by omega) (by omega)
      have hd : (⟨#[48, 49, 50, 51, 52, 53, 54, 55, 56, 57]⟩ : ByteArray).extract (n % 10) (n % 10 + 1) = ⟨#[UInt8.ofNat (48 + n % 10)]⟩ := dig_at (n % 10) (by omega)
      have HD := hid hd
      have e1 : (n : Int) / 10 = ((n / 10 : Nat) : Int) := by omega
      have hw1 : IntKind.i64.wrap ((n : Int) / 10) = (n : Int) / 10 := by rw [e1]; exact wrap_small2 _ (by omega)
      obtain ⟨r, hr⟩ : ∃ r, r = n % 10 := ⟨_, rfl⟩
      have hm : (n : Int).tmod 10 = (r : Int) := by rw [Int.tmod_eq_emod_of_nonneg (by omega)]; omega
      have hr10 : r < 10 := by omega
      have hw3 : IntKind.i64.wrap ((r : Int) + 1) = (r : Int) + 1 := wrap_small2 (r + 1) (by omega)
      rw [← hr] at HD ⊢
      clear hd ih e1 hr
      have hdl := digs_len (n / 10) (n / 10) (Nat.le_refl _)
      generalize Lib.decDigits (n / 10) = ds at *
      have hcc : ¬ (9223372036854775807 < ds.length + (min (r + 1) 10 - r)) := by omega
      clear hdl
      go_enter Tryd.func24, Tryd.ntmps24
      go_upto_region 7 with fail
      have i3 : (r : Int) ≤ (r : Int) + 1 := by omega
      have i4 : (r : Int) + 1 ≤ 10 := by omega
      have i5 : ¬ ((r : Int) < 0) := by omega
      have i6 : (0 : Int) ≤ (r : Int) := by omega
      go_region_law (first | (go_simp; go_at_call 24; (with_reducible refine (KR.out _).mono ?_); rintro e w2 ⟨rfl, d2, rfl⟩) | fail)
      all_goals
        go_wp2
        go_ret
        rw [HD.out]
        refine ⟨?_, _, rfl⟩
        show Ending.returned (.string ((⟨ds.toArray⟩ : ByteArray) ++ ⟨[UInt8.ofNat (48 + r)].toArray⟩)) = _
        rw [cat_bytes]
        simp

theorem itoa_len (n : Int) : (Lib.itoa n).length ≤ n.natAbs + 2 := by
  unfold Lib.itoa
  by_cases h : n < 0
  · rw [if_pos h, List.length_cons]
    have := digs_len _ n.natAbs (Nat.le_refl _)
    omega
  · rw [if_neg h]
    have := digs_len _ n.toNat (Nat.le_refl _)
    omega

set_option maxHeartbeats 400000 in
theorem l2DecI_calls (n : Int) (w : World) (h0 : -1000000000 ≤ n) (h1 : n ≤ 1000000000) : Calls Tryd.prog 24 #[.int .i64 n] w fun e w' => e = .returned (.string ⟨(Lib.itoa n).toArray⟩) ∧ ∃ d, w' = w.drewN d := by
  unfold Lib.itoa
  by_cases h : n < 0
  · rw [if_pos h]
    have KD : Hid (Calls Tryd.prog 24 #[.int .i64 (-n)] w fun e w' => e = .returned (.string ⟨(Lib.decDigits n.natAbs).toArray⟩) ∧ ∃ d, w' = w.drewN d) := hid (by
      rw [show -n = ((n.natAbs : Nat) : Int) by omega]
      exact l2Dec_calls _ _ w (Nat.le_refl _) (by omega))
    have hl := digs_len _ n.natAbs (Nat.le_refl _)
    have i0 : ¬ (n = -9223372036854775808) := by omega
    have i3 : (n == -9223372036854775808) = false := by simp; omega
    generalize Lib.decDigits n.natAbs = ds at *
    have hcc : ¬ (9223372036854775807 < 1 + ds.length) := by omega
    go_enter Tryd.func24, Tryd.ntmps24
    go_wp2_with fail
    refine KD.out.mono ?_
    rintro e w2 ⟨rfl, d, rfl⟩
    go_wp2_with fail
    go_ret
    refine ⟨?_, _, rfl⟩
    show Ending.returned (.string ((⟨[45].toArray⟩ : ByteArray) ++ ⟨ds.toArray⟩)) = _
    rw [cat_bytes]
    rfl
  · rw [if_neg h]
    have := l2Dec_calls _ n.toNat w (Nat.le_refl _) (by omega)
    rw [show ((n.toNat : Nat) : Int) = n by omega] at this
    exact this

/-- a row's text -/
def rowT (l : List Int) : List UInt8 := Lib.join (l.map Lib.itoa) [32]
theorem join_snoc (xs : List (List UInt8)) (x sep : List UInt8) : Lib.join (xs ++ [x]) sep = if xs = [] then x else Lib.join xs sep ++ sep ++ x := by
  cases xs with
  | nil => rw [if_pos rfl, List.nil_append, Lib.join_one]
  | cons y r =>
    rw [if_neg (by simp), List.cons_append, Lib.join_cons, Lib.join_cons]
    simp [Lib.joinTail]
theorem rowT_snoc (l : List Int) (x : Int) : rowT (l ++ [x]) = if l = [] then Lib.itoa x else rowT l ++ [32] ++ Lib.itoa x := by
  unfold rowT
  rw [List.map_append, List.map_cons, List.map_nil, join_snoc]
  by_cases h : l = []
  · rw [if_pos h, if_pos (by rw [h]; rfl)]
  · rw [if_neg h, if_neg (by simpa using h)]
theorem tail_len (M : Nat) (l : List Int) (h : ∀ x ∈ l, x.natAbs ≤ M) : (Lib.joinTail [32] (l.map Lib.itoa)).length ≤ l.length * (M + 3) := by
  induction l with
  | nil => simp [Lib.joinTail]
  | cons x l ih =>
    have h1 := ih fun y hy => h y (List.mem_cons_of_mem _ hy)
    have h2 := h x (List.mem_cons_self ..)
    have h3 := itoa_len x
    have e : Lib.joinTail [32] ((x :: l).map Lib.itoa) = [32] ++ Lib.itoa x ++ Lib.joinTail [32] (l.map Lib.itoa) := by simp [Lib.joinTail]
    rw [e, List.length_append, List.length_append, List.length_singleton, List.length_cons, Nat.add_mul]
    omega
theorem rowT_len (M : Nat) (l : List Int) (h : ∀ x ∈ l, x.natAbs ≤ M) : (rowT l).length ≤ l.length * (M + 3) := by
  cases l with
  | nil => simp [rowT, Lib.join_nil]
  | cons x l =>
    have h1 := tail_len M l fun y hy => h y (List.mem_cons_of_mem _ hy)
    have h2 := h x (List.mem_cons_self ..)
    have h3 := itoa_len x
    unfold rowT
    rw [List.map_cons, Lib.join_cons, List.length_append, List.length_cons, Nat.add_mul]
    omega

set_option maxHeartbeats 2000000 in
set_option maxRecDepth 1000000 in
theorem l2RowText_calls (w : World) (v : Value) (row : List Int) (h : IS w v row) (hl : row.length ≤ 1000) (hb : ∀ x ∈ row, -1000000000 ≤ x ∧ x ≤ 1000000000) :
    Calls Tryd.prog 25 #[v] w fun e w' => e = .returned (.string ⟨(rowT row).toArray⟩) ∧ ∃ d, w' = w.drewN d := by
  obtain ⟨a, cap, rfl, hc⟩ := h
  have HC : Hid (∀ d j, j < row.length → ∃ b o, a = some ⟨b, o, none⟩ ∧ (w.drewN d).cell? ⟨b, o + j, none⟩ = some (.int .i64 (row.getD j 0))) := hid fun d j hj => by
    rcases hc with h0 | ⟨b, o, rfl, h⟩
    · omega
    · exact ⟨b, o, rfl, h j hj⟩
  have KD : Hid (∀ W j, j < row.length → Calls Tryd.prog 24 #[.int .i64 (row.getD j 0)] W fun e w' => e = .returned (.string ⟨(Lib.itoa (row.getD j 0)).toArray⟩) ∧ ∃ d, w' = W.drewN d) := hid fun W j hj => by
    have := hb (row.getD j 0) (by rw [List.getD_eq_getElem?_getD, List.getElem?_eq_getElem hj]; exact List.getElem_mem _)
    exact l2DecI_calls _ W this.1 this.2
  have HI : Hid (∀ j, j < row.length → (Lib.itoa (row.getD j 0)).length ≤ 1000000002) := hid fun j hj => by
    have := hb (row.getD j 0) (by rw [List.getD_eq_getElem?_getD, List.getElem?_eq_getElem hj]; exact List.getElem_mem _)
    have := itoa_len (row.getD j 0)
    omega
  have HL : Hid (∀ j, (rowT (row.take j)).length ≤ 2000000000000) := hid fun j => by
    have := rowT_len 1000000000 (row.take j) fun x hx => by have := hb x (List.mem_of_mem_take hx); omega
    have h2 : (row.take j).length ≤ 1000 := by rw [List.length_take]; omega
    omega
  have HS : Hid (∀ j, j < row.length → rowT (row.take (j + 1)) = if j = 0 then Lib.itoa (row.getD j 0) else rowT (row.take j) ++ [32] ++ Lib.itoa (row.getD j 0)) := hid fun j hj => by
    rw [List.take_add_one, List.getElem?_eq_getElem hj, List.getD_eq_getElem?_getD, List.getElem?_eq_getElem hj, Option.toList_some, Option.getD_some, rowT_snoc]
    by_cases e : j = 0
    · rw [if_pos e, if_pos (by rw [e]; rfl)]
    · rw [if_neg e, if_neg (fun h => by have := congrArg List.length h; rw [List.length_take, List.length_nil] at this; omega)]
  have HE : Hid (rowT (row.take row.length) = rowT row) := hid (by rw [List.take_length])
  have H0 : Hid (rowT (row.take 0) = []) := hid rfl
  clear hc hb
  obtain ⟨n, hn⟩ : ∃ n, n = row.length := ⟨_, rfl⟩
  rw [← hn] at HC KD HI HS HE hl ⊢
  clear hn
  go_enter Tryd.func25, Tryd.ntmps25
  go_wp2_with fail
  go_loopw [3, 8] (fun u t wr => ∃ (j : Nat) (s : List UInt8), j ≤ n ∧ t = .int .i64 j ∧ u = .string ⟨s.toArray⟩ ∧ Hid (s = rowT (row.take j) ∧ ∃ d, wr = w.drewN d)) (fun _ t _ => n - (intOf t).toNat)
  case atStart => exact ⟨0, [], Nat.zero_le _, rfl, rfl, hid ⟨H0.out.symm, 0, rfl⟩⟩
  case round =>
    clear H0
    obtain ⟨j, s, hj, rfl, rfl, HT⟩ := hrel
    obtain ⟨hs, d, rfl⟩ := HT.out
    by_cases hjn : j < n
    · have i1 : (j : Int) < (n : Int) := by omega
      obtain ⟨b, o, ea, c1⟩ := HC.out d j hjn
      subst ea
      have KD1 := hid (KD.out (w.drewN d) j hjn)
      have hx := HI.out j hjn
      have hsl : s.length ≤ 2000000000000 := by rw [hs]; exact HL.out j
      have HSj := hid (HS.out j hjn)
      have HS0 := hid hs
      clear HT hs HC KD HI HL HS HE
      generalize Lib.itoa (row.getD j 0) = it at *
      generalize row.getD j 0 = x at *
      by_cases hj0 : j = 0
      · subst hj0
        rw [Nat.add_zero] at c1
        have hcc : ¬ (9223372036854775807 < s.length + it.length) := by omega
        go_wp2_with fail
        refine KD1.out.mono ?_
        rintro e w2 ⟨rfl, d2, rfl⟩
        go_wp2_with fail
        go_roundw
        case rel =>
          refine ⟨1, it, by omega, by go_num, ?_, hid ⟨?_, _, rfl⟩⟩
          · rw [cat_bytes, HS0.out]; rfl
          · rw [HSj.out]; rfl
        case measure => simp [intOf]; omega
      · have i2 : (0 : Int) < (j : Int) := by omega
        have hcc1 : ¬ (9223372036854775807 < s.length + 1) := by omega
        have hcc : ¬ (9223372036854775807 < s.length + 1 + it.length) := by omega
        go_wp2_with fail
        refine KD1.out.mono ?_
        rintro e w2 ⟨rfl, d2, rfl⟩
        go_wp2_with fail
        go_roundw
        case rel =>
          refine ⟨j + 1, s ++ [32] ++ it, by omega, by go_num, ?_, hid ⟨?_, _, rfl⟩⟩
          · rw [← cat_bytes, ← cat_bytes]
          · rw [HSj.out, if_neg hj0, HS0.out]
        case measure => simp [intOf]; omega
    · obtain rfl : j = n := by omega
      have i1 : ¬ ((j : Int) < (j : Int)) := by omega
      have HF := hid (hs.trans HE.out)
      clear HT hs HC KD HI HL HS HE
      go_wp2_with fail
      go_ret
      exact ⟨by rw [← HF.out]; rfl, _, rfl⟩

end Go.Proofs.YtcgboccdffgkfaaDoor

/-
  spec.l2Number.
-/
namespace Go.Proofs.YtcgboccdffgkfaaDoor
open Go.RowKit

theorem betweenN_calls (w : World) (x lo hi : Int) : Calls Tryd.prog 47 #[.int .i64 x, .int .i64 lo, .int .i64 hi] w fun e w' => e = .returned (.bool (decide (lo ≤ x) && decide (x ≤ hi))) ∧ Below w.heap.size w w' := by
  by_cases h1 : lo ≤ x
  · by_cases h2 : x ≤ hi
    · rw [decide_eq_true h1, decide_eq_true h2]
      go_enter Tryd.func47, Tryd.ntmps47
      go_wp2
      go_ret
      exact ⟨rfl, Below.refl _ _⟩
    · rw [decide_eq_true h1, decide_eq_false h2]
      go_enter Tryd.func47, Tryd.ntmps47
      go_wp2
      go_ret
      exact ⟨rfl, Below.refl _ _⟩
  · rw [decide_eq_false h1]
    go_enter Tryd.func47, Tryd.ntmps47
    go_wp2
    go_ret
    exact ⟨rfl, Below.refl _ _⟩

/-- what spec.l2Number answers -/
def l2NumA (l : List UInt8) (lo hi : Int) (v : Int) (ok : Bool) : Prop :=
  (ok = true → l = Lib.itoa v ∧ lo ≤ v ∧ v ≤ hi) ∧ (∀ n : Int, l = Lib.itoa n → n.natAbs ≤ 1000000 → lo ≤ n → n ≤ hi → ok = true ∧ v = n)

theorem l2no {l : List UInt8} {lo hi : Int} (h : ∀ n : Int, l = Lib.itoa n → n.natAbs ≤ 1000000 → False) : l2NumA l lo hi 0 false := ⟨(fun h => absurd h (by decide)), fun n h1 h2 _ _ => (h n h1 h2).elim⟩
/-- how spec.l2Number ends -/
def L2N (w : World) (l : List UInt8) (lo hi : Int) (e : Ending) (w' : World) : Prop := ∃ v ok, e = .returned (.tuple #[.int .i64 v, .bool ok]) ∧ l2NumA l lo hi v ok ∧ Below w.heap.size w w'

theorem itoa_nine {n : Int} (h : n.natAbs ≤ 1000000) : 1 ≤ (Lib.itoa n).length ∧ (Lib.itoa n).length ≤ 9 := by
  unfold Lib.itoa
  by_cases h0 : n < 0
  · rw [if_pos h0, List.length_cons]
    have := Lib.decDigits_length n.natAbs
    have h2 := digits_short 6 n.natAbs (by omega)
    omega
  · rw [if_neg h0]
    have h1 := (digits_num n.toNat n.toNat (Nat.le_refl _)).1.ne
    have h2 := digits_short 6 n.toNat (by omega)
    have h3 : (Lib.decDigits n.toNat).length ≠ 0 := fun e => h1 (List.length_eq_zero_iff.1 e)
    omega

set_option maxHeartbeats 4000000 in
set_option maxRecDepth 1000000 in
theorem l2Number_calls (w : World) (s : ByteArray) (lo hi : Int) (hs : s.size ≤ 1099511627776) :
    Calls Tryd.prog 34 #[.string s, .int .i64 lo, .int .i64 hi] w (L2N w s.data.toList lo hi) := by
  have hlen : s.data.toList.length = s.size := by simp
  by_cases h0 : s.size = 0
  · have i1 : (s.size : Int) < 1 := by omega
    have HN : Hid (l2NumA s.data.toList lo hi 0 false) := hid (l2no fun n h1 h2 => by have := (itoa_nine h2).1; rw [← h1] at this; omega)
    go_enter Tryd.func34, Tryd.ntmps34
    go_wp2
    go_ret2
    exact ⟨_, _, rfl, HN.out, Below.refl _ _⟩
  have i1 : ¬ ((s.size : Int) < 1) := by omega
  by_cases h9 : 9 < s.size
  · have i2 : (9 : Int) < (s.size : Int) := by omega
    have HN : Hid (l2NumA s.data.toList lo hi 0 false) := hid (l2no fun n h1 h2 => by have := (itoa_nine h2).2; rw [← h1] at this; omega)
    go_enter Tryd.func34, Tryd.ntmps34
    go_wp2
    go_ret2
    exact ⟨_, _, rfl, HN.out, Below.refl _ _⟩
  have i2 : ¬ ((9 : Int) < (s.size : Int)) := by omega
  have hp0 : 0 < s.size := by omega
  have hhd : s.data.toList.head? = some (s.data.toList.getD 0 0) := by
    cases hl : s.data.toList with
    | nil => rw [hl] at hlen; simp at hlen; omega
    | cons x r => rfl
  have HM : Hid ((byteAt s 0 = 45) ↔ s.data.toList.head? = some 45) := hid (by
    rw [hhd, Option.some.injEq]
    constructor
    · intro h; exact UInt8.toNat_inj.1 (by have : (((s.data.toList.getD 0 0).toNat : Nat) : Int) = 45 := h; show _ = 45; omega)
    · intro h; show (((s.data.toList.getD 0 0).toNat : Nat) : Int) = 45; rw [h]; rfl)
  have HBad : Hid (∀ i, i < s.size → okN s.data.toList i = false → l2NumA s.data.toList lo hi 0 false) := hid fun i hi hb => l2no fun n h1 h2 => by
    have := (vN_itoa n).2 i (by rw [← h1]; omega)
    rw [← h1, hb] at this; cases this
  have HEnd : Hid (∀ v, v = vN s.data.toList → l2NumA s.data.toList lo hi v ((Lib.itoa v == s.data.toList) && (decide (lo ≤ v) && decide (v ≤ hi)))) := hid fun v hv => ⟨fun h => by
      simp only [Bool.and_eq_true, decide_eq_true_eq, beq_iff_eq] at h
      exact ⟨h.1.symm, h.2.1, h.2.2⟩, fun n h1 h2 h3 h4 => by
      have e : v = n := by rw [hv, h1]; exact (vN_itoa n).1
      subst e
      exact ⟨by rw [h1]; simp [h3, h4], rfl⟩⟩
  have HS : Hid (∀ j, eN s.data.toList (j + 1) = if j = 0 ∧ s.data.toList.head? = some 45 then 0 else eN s.data.toList j * 10 + ((s.data.toList.getD j 0).toNat - 48)) := hid fun j => rfl
  have HOk : Hid (∀ j, okN s.data.toList j = ((decide (j = 0) && decide (s.data.toList.head? = some 45)) || dgt (s.data.toList.getD j 0))) := hid fun j => rfl
  have HLt : Hid (∀ j, j ≤ 8 → (∀ i, i < j → okN s.data.toList i = true) → eN s.data.toList j < 100000000) := hid fun j hj h => by
    have h1 := eN_lt s.data.toList j h
    have h2 : (10 : Nat) ^ j ≤ 10 ^ 8 := Nat.pow_le_pow_right (by decide) hj
    omega
  have HLt9 : Hid ((∀ i, i < s.size → okN s.data.toList i = true) → eN s.data.toList s.size < 1000000000) := hid fun h => by
    have h1 := eN_lt s.data.toList s.size h
    have h2 : (10 : Nat) ^ s.size ≤ 10 ^ 9 := Nat.pow_le_pow_right (by decide) (by omega)
    omega
  have HV : Hid (vN s.data.toList = if s.data.toList.head? = some 45 then -(eN s.data.toList s.size : Int) else eN s.data.toList s.size) := hid (by unfold vN; rw [hlen])
  have HAT : Hid (∀ i (h : i < s.size), ((s[i]'h).toNat : Int) = ((s.data.toList.getD i 0).toNat : Int)) := hid fun i h => by rw [← byteAt_eq s i h]; rfl
  have KD : Hid (∀ W v, -1000000000 ≤ v → v ≤ 1000000000 → Calls Tryd.prog 24 #[.int .i64 v] W fun e w' => e = .returned (.string ⟨(Lib.itoa v).toArray⟩) ∧ Below W.heap.size W w') := hid fun W v h1 h2 => (l2DecI_calls v W h1 h2).mono fun e w' ⟨h1, d, h2⟩ => ⟨h1, by rw [h2]; exact ⟨rfl, rfl, rfl, Nat.le_refl _, fun _ _ => rfl⟩⟩
  clear hlen
  obtain ⟨mn, hmn⟩ : ∃ b : Bool, b = decide (s.data.toList.head? = some 45) := ⟨_, rfl⟩
  have HMn : Hid (mn = true ↔ s.data.toList.head? = some 45) := hid (by rw [hmn]; simp)
  clear hmn hhd
  obtain ⟨n, hn⟩ : ∃ n, n = s.size := ⟨_, rfl⟩
  rw [← hn] at HBad HLt9 HV
  go_enter Tryd.func34, Tryd.ntmps34
  go_wp2_with fail
  go_loop [8, 9] (fun u t => ∃ j d : Nat, j ≤ n ∧ t = .int .i64 j ∧ u = .int .i64 d ∧ Hid (d = eN s.data.toList j ∧ ∀ i, i < j → okN s.data.toList i = true)) (fun _ t => n - (intOf t).toNat)
  case atStart => exact ⟨0, 0, Nat.zero_le _, rfl, rfl, hid ⟨rfl, fun i hi => by omega⟩⟩
  case round =>
    obtain ⟨j, d, hj, rfl, rfl, hok⟩ := hrel
    by_cases hjn : j < n
    · have j1 : (j : Int) < (s.size : Int) := by omega
      have hjs : j < s.size := by omega
      have hAT := HAT.out j hjs
      have hd : d < 100000000 := by rw [hok.out.1]; exact HLt.out j (by omega) hok.out.2
      have hOkj := HOk.out j
      have hS := HS.out j
      rw [← hok.out.1] at hS
      have hBad := hid (HBad.out j hjn)
      have nxt : Hid (okN s.data.toList j = true → ∀ i, i < j + 1 → okN s.data.toList i = true) := hid fun e i hi => by
        by_cases e2 : i = j
        · rw [e2]; exact e
        · exact hok.out.2 i (by omega)
      by_cases hm : j = 0 ∧ s.data.toList.head? = some 45
      · have hb : (((s[j]'hjs).toNat : Int) == 45) = true := by
          have := HM.out.2 hm.2
          obtain ⟨rfl, -⟩ := hm
          rw [← byteAt_eq s 0 hjs, this]; rfl
        have hO : okN s.data.toList j = true := by rw [hOkj]; simp [hm.1, hm.2]
        rw [if_pos hm] at hS
        have hd0 : d = 0 := by rw [hok.out.1, hm.1]; rfl
        have HNX : Hid (d = eN s.data.toList (j + 1) ∧ ∀ i, i < j + 1 → okN s.data.toList i = true) := hid ⟨by rw [hS]; exact hd0, nxt.out hO⟩
        have hj0 : ((j : Int) == 0) = true := by rw [hm.1]; rfl
        clear hOkj hS hok nxt hBad hd hO HBad HEnd HS HOk HLt HLt9 HV HAT KD HM HMn hAT hm hd0
        go_wp2_with fail
        go_round
        case rel => exact ⟨j + 1, d, by omega, by go_num, rfl, HNX⟩
        case measure => simp [intOf]; omega
      · rw [if_neg hm] at hS
        have hOk2 : okN s.data.toList j = dgt (s.data.toList.getD j 0) := by
          rw [hOkj]
          by_cases c1 : j = 0
          · by_cases c2 : s.data.toList.head? = some 45
            · exact absurd ⟨c1, c2⟩ hm
            · simp [c2]
          · simp [c1]
        have h45 : (((s[j]'hjs).toNat : Int) == 45) = true → ((j : Int) == 0) = false := fun e => by
          by_cases c : j = 0
          · exact absurd ⟨c, HM.out.1 (by subst c; rw [byteAt_eq s 0 hjs]; simpa using e)⟩ hm
          · simp; omega
        have KG := hid (l2Digit_calls w ((s[j]'hjs).toNat : Int))
        rw [hAT, byte_dgt] at KG
        rw [hAT] at h45
        rw [hOk2] at nxt hBad
        have hx := hid (dgt_num (b := s.data.toList.getD j 0))
        have HD' := hid hS
        clear hOkj hS hok HBad HEnd HS HOk HLt HLt9 HV HAT KD HM HMn hm hOk2
        generalize dgt (s.data.toList.getD j 0) = dg at *
        generalize (s.data.toList.getD j 0).toNat = b at *
        cases dg
        · have HN := hid (hBad.out rfl)
          clear hBad nxt hx HD'
          cases h45b : ((b : Int) == 45)
          · go_wp2_with (first | (go_at_call 56; refine KG.out.mono ?_; rintro e w' ⟨rfl, hw'⟩; subst w') | fail)
            go_ret2
            exact ⟨_, _, rfl, HN.out, Below.refl _ _⟩
          · have hj0 := h45 h45b
            go_wp2_with (first | (go_at_call 56; refine KG.out.mono ?_; rintro e w' ⟨rfl, hw'⟩; subst w') | fail)
            go_ret2
            exact ⟨_, _, rfl, HN.out, Below.refl _ _⟩
        · obtain ⟨x1, x2⟩ := hx.out rfl
          have h45b : ((b : Int) == 45) = false := by simp; omega
          have HAL := hid (nxt.out rfl)
          have hw1 : IntKind.u8.wrap ((b : Int) - 48) = (b : Int) - 48 := by simp [IntKind.wrap, IntKind.bits, IntKind.signed]; omega
          have hw2 : IntKind.i64.wrap ((b : Int) - 48) = (b : Int) - 48 := by simp [IntKind.wrap, IntKind.bits, IntKind.signed]; omega
          have hw3 : IntKind.i64.wrap ((d : Int) * 10) = (d : Int) * 10 := by simp [IntKind.wrap, IntKind.bits, IntKind.signed]; omega
          have hw4 : IntKind.i64.wrap ((d : Int) * 10 + ((b : Int) - 48)) = (d : Int) * 10 + ((b : Int) - 48) := by simp [IntKind.wrap, IntKind.bits, IntKind.signed]; omega
          have HNX : Hid (∃ d' : Nat, ((d : Int) * 10 + ((b : Int) - 48)) = d' ∧ d' = eN s.data.toList (j + 1)) := hid ⟨d * 10 + (b - 48), by omega, HD'.out.symm⟩
          clear nxt hx hBad h45 HD'
          go_wp2_with (first | (go_at_call 56; refine KG.out.mono ?_; rintro e w' ⟨rfl, hw'⟩; subst w') | fail)
          go_round
          case rel =>
            obtain ⟨d', e1, e3⟩ := HNX.out
            exact ⟨j + 1, d', by omega, by go_num, by rw [e1], hid ⟨e3, HAL.out⟩⟩
          case measure => simp [intOf]; omega
    · obtain rfl : j = n := by omega
      have j1 : ¬ ((j : Int) < (s.size : Int)) := by omega
      have hd9 : d < 1000000000 := by rw [hok.out.1]; exact HLt9.out hok.out.2
      have hV := HV.out
      rw [← hok.out.1] at hV
      have HEndV := hid (HEnd.out (if s.data.toList.head? = some 45 then -(d : Int) else d) hV.symm)
      have hb : (((s[0]'hp0).toNat : Int) == 45) = decide (s.data.toList.head? = some 45) := by
        by_cases c : s.data.toList.head? = some 45
        · have := HM.out.2 c
          rw [decide_eq_true c, ← byteAt_eq s 0 hp0, this]; rfl
        · have : ¬ byteAt s 0 = 45 := fun e => c (HM.out.1 e)
          rw [decide_eq_false c, ← byteAt_eq s 0 hp0]; simpa using this
      have hTL : s.toList = s.data.toList := ByteArray.toList_eq s
      clear HEnd HS HOk HLt HAT HMn hok HV HLt9 HBad hV HM
      by_cases c : s.data.toList.head? = some 45
      · rw [if_pos c] at HEndV
        rw [decide_eq_true c] at hb
        have KD1 := hid (KD.out w (-(d : Int)) (by omega) (by omega))
        have KB : Hid (∀ W, Calls Tryd.prog 47 #[.int .i64 (-(d : Int)), .int .i64 lo, .int .i64 hi] W fun e w' => e = .returned (.bool (decide (lo ≤ (-(d : Int))) && decide ((-(d : Int)) ≤ hi))) ∧ Below W.heap.size W w') := hid fun W => betweenN_calls W (-(d : Int)) lo hi
        clear KD c
        generalize Lib.itoa (-(d : Int)) = it at *
        generalize (decide (lo ≤ (-(d : Int))) && decide ((-(d : Int)) ≤ hi)) = bt0 at *
        cases hE : (it == s.toList)
        · have HFin : Hid (l2NumA s.data.toList lo hi (-(d : Int)) false) := hid (by have := HEndV.out; rw [← hTL, hE, Bool.false_and, hTL] at this; exact this)
          clear HEndV hTL
          go_wp2_with fail
          refine KD1.out.mono ?_
          rintro e w2 ⟨rfl, hb2⟩
          go_wp2_with fail
          go_ret2
          exact ⟨_, _, rfl, HFin.out, hb2⟩
        · have HFin : Hid (l2NumA s.data.toList lo hi (-(d : Int)) bt0) := hid (by have := HEndV.out; rw [← hTL, hE, Bool.true_and, hTL] at this; exact this)
          clear HEndV hTL
          go_wp2_with fail
          refine KD1.out.mono ?_
          rintro e w2 ⟨rfl, hb2⟩
          go_wp2_with fail
          refine (KB.out w2).mono ?_
          rintro e w3 ⟨rfl, hb3⟩
          go_wp2_with fail
          go_ret2
          exact ⟨_, _, rfl, HFin.out, bt hb2 hb3⟩
      · rw [if_neg c] at HEndV
        rw [decide_eq_false c] at hb
        have KD1 := hid (KD.out w (d : Int) (by omega) (by omega))
        have KB : Hid (∀ W, Calls Tryd.prog 47 #[.int .i64 (d : Int), .int .i64 lo, .int .i64 hi] W fun e w' => e = .returned (.bool (decide (lo ≤ (d : Int)) && decide ((d : Int) ≤ hi))) ∧ Below W.heap.size W w') := hid fun W => betweenN_calls W (d : Int) lo hi
        clear KD c
        generalize Lib.itoa (d : Int) = it at *
        generalize (decide (lo ≤ (d : Int)) && decide ((d : Int) ≤ hi)) = bt0 at *
        cases hE : (it == s.toList)
        · have HFin : Hid (l2NumA s.data.toList lo hi (d : Int) false) := hid (by have := HEndV.out; rw [← hTL, hE, Bool.false_and, hTL] at this; exact this)
          clear HEndV hTL
          go_wp2_with fail
          refine KD1.out.mono ?_
          rintro e w2 ⟨rfl, hb2⟩
          go_wp2_with fail
          go_ret2
          exact ⟨_, _, rfl, HFin.out, hb2⟩
        · have HFin : Hid (l2NumA s.data.toList lo hi (d : Int) bt0) := hid (by have := HEndV.out; rw [← hTL, hE, Bool.true_and, hTL] at this; exact this)
          clear HEndV hTL
          go_wp2_with fail
          refine KD1.out.mono ?_
          rintro e w2 ⟨rfl, hb2⟩
          go_wp2_with fail
          refine (KB.out w2).mono ?_
          rintro e w3 ⟨rfl, hb3⟩
          go_wp2_with fail
          go_ret2
          exact ⟨_, _, rfl, HFin.out, bt hb2 hb3⟩
end Go.Proofs.YtcgboccdffgkfaaDoor

/-
  strings.CutPrefix of a minus; impl.readWeight.
-/
namespace Go.Proofs.YtcgboccdffgkfaaDoor
open Go.RowKit

def isMinus (s : ByteArray) : Bool := decide (s.data.toList.head? = some 45)
theorem minus_pre {s : ByteArray} (h : 1 ≤ s.size) : ((s.extract 0 1).toList == [45]) = isMinus s := by
  obtain ⟨⟨l⟩⟩ := s
  rw [ByteArray.toList_eq]
  unfold isMinus
  cases l with
  | nil => simp [ByteArray.size] at h
  | cons x r => 
    simp
    rfl
set_option maxHeartbeats 1000000 in
theorem hasPrefix_calls (w : World) (s : ByteArray) (hs : s.size ≤ 1099511627776) : Calls Tryd.prog 121 #[.string s, .string ⟨#[45]⟩] w fun e w' => e = .returned (.bool (isMinus s)) ∧ w' = w := by
  by_cases h : 1 ≤ s.size
  · have i1 : (1 : Int) ≤ (s.size : Int) := by omega
    have hm := minus_pre h
    generalize isMinus s = b at *
    go_enter Tryd.func121, Tryd.ntmps121
    go_wp2_with fail
    go_ret
    exact ⟨by simp, rfl⟩
  · have i1 : ¬ ((1 : Int) ≤ (s.size : Int)) := by omega
    have hm : isMinus s = false := by
      obtain ⟨⟨l⟩⟩ := s
      cases l with
      | nil => rfl
      | cons x r => simp [ByteArray.size] at h
    rw [hm]
    go_enter Tryd.func121, Tryd.ntmps121
    go_wp2_with fail
    go_ret
    exact ⟨rfl, rfl⟩

def cutM (s : ByteArray) : ByteArray := if isMinus s then ⟨s.data.toList.tail.toArray⟩ else s
theorem minus_cut {s : ByteArray} (h : isMinus s = true) : 1 ≤ s.size ∧ s.extract 1 s.size = cutM s := by
  unfold cutM
  rw [if_pos h]
  obtain ⟨⟨l⟩⟩ := s
  unfold isMinus at h
  cases l with
  | nil => simp at h
  | cons x r => exact ⟨by simp [ByteArray.size], by apply ByteArray.ext; simp [ByteArray.size]⟩

set_option maxHeartbeats 1000000 in
theorem cutLite_calls (w : World) (s : ByteArray) (hs : s.size ≤ 1099511627776) : Calls Tryd.prog 108 #[.string s, .string ⟨#[45]⟩] w fun e w' => e = .returned (.tuple #[.string (cutM s), .bool (isMinus s)]) ∧ w' = w := by
  have K := hid (hasPrefix_calls w s hs)
  cases hm : isMinus s
  · rw [hm] at K
    have hc : cutM s = s := by unfold cutM; rw [hm]; rfl
    rw [hc]
    go_enter Tryd.func108, Tryd.ntmps108
    go_wp2_with (first | (go_at_call 121; refine K.out.mono ?_; rintro e w' ⟨rfl, hw'⟩; subst w') | fail)
    go_ret2
    exact ⟨rfl, rfl⟩
  · rw [hm] at K
    obtain ⟨h1, h2⟩ := minus_cut hm
    have i1 : (1 : Int) ≤ (s.size : Int) := by omega
    rw [← h2]
    clear h2
    go_enter Tryd.func108, Tryd.ntmps108
    go_wp2_with (first | (go_at_call 121; refine K.out.mono ?_; rintro e w' ⟨rfl, hw'⟩; subst w') | fail)
    go_ret2
    exact ⟨rfl, rfl⟩
set_option maxHeartbeats 1000000 in
theorem cutPrefix_calls (w : World) (s : ByteArray) (hs : s.size ≤ 1099511627776) : Calls Tryd.prog 90 #[.string s, .string ⟨#[45]⟩] w fun e w' => e = .returned (.tuple #[.string (cutM s), .bool (isMinus s)]) ∧ w' = w := by
  have K := hid (cutLite_calls w s hs)
  go_enter Tryd.func90, Tryd.ntmps90
  go_wp2_with (first | (go_at_call 108; refine K.out.mono ?_; rintro e w' ⟨rfl, hw'⟩; subst w') | fail)
  go_ret2
  exact ⟨rfl, rfl⟩

def wtN (s : ByteArray) : Int := if isMinus s then -(numN (cutM s) 1000000 : Int) else numN s 1000000
def wtG (s : ByteArray) : Bool := if isMinus s then numG (cutM s) 1000000 && !decide (numN (cutM s) 1000000 = 0) else numG s 1000000
theorem cutM_size (s : ByteArray) : (cutM s).size ≤ s.size := by
  unfold cutM
  cases isMinus s
  · rw [if_neg (by decide)]; exact Nat.le_refl _
  · rw [if_pos rfl]
    obtain ⟨⟨l⟩⟩ := s
    simp [ByteArray.size]

set_option maxHeartbeats 1000000 in
theorem readWeight_calls (w : World) (s : ByteArray) (hs : s.size ≤ 1099511627776) : Calls Tryd.prog 65 #[.string s] w fun e w' => e = .returned (.tuple #[.int .i64 (wtN s), .bool (wtG s)]) ∧ w' = w := by
  have K := hid (cutPrefix_calls w s hs)
  have KN : Hid (Calls Tryd.prog 62 #[.string (cutM s), .int .i64 1000000] w fun e w' => e = .returned (.tuple #[.int .i64 (numN (cutM s) 1000000), .bool (numG (cutM s) 1000000)]) ∧ w' = w) := hid (readNumber_calls w (cutM s) 1000000 (Nat.le_trans (cutM_size s) hs) (by omega))
  have hle : numN (cutM s) 1000000 ≤ 1000000 := by
    unfold numN
    cases h : rdN (cutM s).data.toList 1000000 with
    | none => exact Nat.zero_le _
    | some n => exact (rdN_some.1 h).2
  unfold wtN wtG
  cases hm : isMinus s
  · rw [hm] at K
    have hc : cutM s = s := by unfold cutM; rw [hm]; rfl
    rw [hc] at K KN hle
    rw [if_neg (by decide), if_neg (by decide)]
    generalize numN s 1000000 = N at *
    generalize numG s 1000000 = Gd at *
    go_enter Tryd.func65, Tryd.ntmps65
    go_wp2_with (first | (go_at_call 90; refine K.out.mono ?_; rintro e w' ⟨rfl, hw'⟩; subst w') | (go_at_call 62; refine KN.out.mono ?_; rintro e w' ⟨rfl, hw'⟩; subst w') | fail)
    go_ret2
    exact ⟨rfl, rfl⟩
  · rw [hm] at K
    rw [if_pos rfl, if_pos rfl]
    generalize cutM s = cs at *
    generalize numN cs 1000000 = N at *
    generalize numG cs 1000000 = Gd at *
    have i1 : ((N : Int) != 0) = !decide (N = 0) := by
      by_cases e : N = 0
      · subst e; rfl
      · rw [decide_eq_false e]; simp; omega
    have i0 : ¬ ((N : Int) = -9223372036854775808) := by omega
    have i3 : ((N : Int) == -9223372036854775808) = false := by simp
    generalize (!decide (N = 0)) = z at *
    cases Gd
    · rw [Bool.false_and]
      go_enter Tryd.func65, Tryd.ntmps65
      go_wp2_with (first | (go_at_call 90; refine K.out.mono ?_; rintro e w' ⟨rfl, hw'⟩; subst w') | (go_at_call 62; refine KN.out.mono ?_; rintro e w' ⟨rfl, hw'⟩; subst w') | fail)
      go_ret2
      exact ⟨rfl, rfl⟩
    · rw [Bool.true_and]
      go_enter Tryd.func65, Tryd.ntmps65
      go_wp2_with (first | (go_at_call 90; refine K.out.mono ?_; rintro e w' ⟨rfl, hw'⟩; subst w') | (go_at_call 62; refine KN.out.mono ?_; rintro e w' ⟨rfl, hw'⟩; subst w') | fail)
      go_ret2
      exact ⟨rfl, rfl⟩

theorem num_alike {s : ByteArray} {most : Nat} {v : Int} {ok : Bool} (h : l2NumA s.data.toList 0 most v ok) (hm : most ≤ 1000000) : ok = numG s most ∧ (ok = true → v = numN s most) := by
  have hi : ∀ n : Nat, Lib.itoa (n : Int) = Lib.decDigits n := fun n => by unfold Lib.itoa; rw [if_neg (by omega)]; rfl
  unfold numG numN
  cases hr : rdN s.data.toList most with
  | some n =>
    obtain ⟨h1, h2⟩ := rdN_some.1 hr
    obtain ⟨h3, h4⟩ := h.2 n (by rw [hi, h1]) (by omega) (by omega) (by omega)
    exact ⟨by rw [h3]; rfl, fun _ => h4⟩
  | none =>
    cases ok with
    | false => exact ⟨rfl, fun h => by cases h⟩
    | true =>
      obtain ⟨h1, h2, h3⟩ := h.1 rfl
      obtain ⟨n, rfl⟩ : ∃ n : Nat, v = n := ⟨v.toNat, by omega⟩
      rw [hi] at h1
      have := (rdN_some (most := most)).2 ⟨h1, by omega⟩
      rw [hr] at this; cases this
end Go.Proofs.YtcgboccdffgkfaaDoor

/-
  Weights: both sides alike.
-/
namespace Go.Proofs.YtcgboccdffgkfaaDoor

theorem itoa_nn (n : Nat) : Lib.itoa (n : Int) = Lib.decDigits n := by unfold Lib.itoa; rw [if_neg (by omega)]; rfl
theorem itoa_neg {n : Nat} (h : n ≠ 0) : Lib.itoa (-(n : Int)) = 45 :: Lib.decDigits n := by
  unfold Lib.itoa
  rw [if_pos (by omega), show (-(n : Int)).natAbs = n by omega]
theorem itoa_head (v : Int) : (Lib.itoa v).head? = some 45 ↔ v < 0 := by
  unfold Lib.itoa
  by_cases h : v < 0
  · rw [if_pos h]; simp [h]
  · rw [if_neg h]
    exact ⟨fun e => absurd e (dig_head _), fun e => absurd e h⟩
theorem wt_alike {s : ByteArray} {v : Int} {ok : Bool} (h : l2NumA s.data.toList (-1000000) 1000000 v ok) : ok = wtG s ∧ (ok = true → v = wtN s) := by
  unfold wtG wtN
  by_cases hm : s.data.toList.head? = some 45
  · have hmi : isMinus s = true := by unfold isMinus; rw [decide_eq_true hm]
    rw [hmi, if_pos rfl, if_pos rfl]
    obtain ⟨m, hl⟩ : ∃ m, s.data.toList = 45 :: m := by
      cases hd : s.data.toList with
      | nil => rw [hd] at hm; simp at hm
      | cons x r => rw [hd] at hm; simp at hm; exact ⟨r, by rw [hm]⟩
    have hcm : (cutM s).data.toList = m := by unfold cutM; rw [hmi, if_pos rfl, hl]; simp
    unfold numG numN
    rw [hcm]
    rw [hl] at h
    cases hr : rdN m 1000000 with
    | some n =>
      obtain ⟨h1, h2⟩ := rdN_some.1 hr
      by_cases h0 : n = 0
      · subst h0
        cases ok with
        | false => exact ⟨by simp, fun h => by cases h⟩
        | true =>
          obtain ⟨g1, g2, g3⟩ := h.1 rfl
          have hv : v < 0 := (itoa_head v).1 (by rw [← g1]; rfl)
          obtain ⟨k, rfl⟩ : ∃ k : Nat, v = -(k : Int) := ⟨v.natAbs, by omega⟩
          rw [itoa_neg (by omega), List.cons.injEq] at g1
          have := (rdN_some (most := 1000000)).2 ⟨g1.2, by omega⟩
          rw [hr] at this
          have := Option.some.inj this
          omega
      · obtain ⟨h3, h4⟩ := h.2 (-(n : Int)) (by rw [itoa_neg h0, h1]) (by omega) (by omega) (by omega)
        exact ⟨by rw [h3]; simp [h0], fun _ => h4⟩
    | none =>
      cases ok with
      | false => exact ⟨by simp, fun h => by cases h⟩
      | true =>
        obtain ⟨g1, g2, g3⟩ := h.1 rfl
        have hv : v < 0 := (itoa_head v).1 (by rw [← g1]; rfl)
        obtain ⟨k, rfl⟩ : ∃ k : Nat, v = -(k : Int) := ⟨v.natAbs, by omega⟩
        rw [itoa_neg (by omega), List.cons.injEq] at g1
        have := (rdN_some (most := 1000000)).2 ⟨g1.2, by omega⟩
        rw [hr] at this; cases this
  · have hmi : isMinus s = false := by unfold isMinus; rw [decide_eq_false hm]
    rw [hmi, if_neg (by decide), if_neg (by decide)]
    exact num_alike (most := 1000000) ⟨fun e => by
      obtain ⟨g1, g2, g3⟩ := h.1 e
      have : ¬ v < 0 := fun c => hm (by rw [g1]; exact (itoa_head v).2 c)
      exact ⟨g1, by omega, by omega⟩, fun n g1 g2 g3 g4 => h.2 n g1 g2 (by omega) (by omega)⟩ (Nat.le_refl _)

end Go.Proofs.YtcgboccdffgkfaaDoor
