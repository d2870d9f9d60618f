import Derived.BigQuiet
import Derived.Deep.Cut
import Derived.Deep.QuietTactic
import Derived.Deep.RegionLaw
import Derived.Lib.ItoaNum
import Derived.Lib.Join
import Derived.Test.YtfjchjhakjghcaaDoorD10
/-
  spec: l2Dec, l2RowText.
-/
namespace Go.Proofs.YtfjchjhakjghcaaDoor
open Go.RowKit

theorem dig_at : ∀ d : Nat, d < 10 → (⟨#[48, 49, 50, 51, 52, 53, 54, 55, 56, 57]⟩ : ByteArray).extract d (d + 1) = ⟨#[UInt8.ofNat (48 + d)]⟩
  | 0, _ => rfl
  | 1, _ => rfl
  | 2, _ => rfl
  | 3, _ => rfl
  | 4, _ => rfl
  | 5, _ => rfl
  | 6, _ => rfl
  | 7, _ => rfl
  | 8, _ => rfl
  | 9, _ => rfl
  | d + 10, h => by omega

theorem wrap_small2 (k : Nat) (h : k ≤ 1099511627776) : IntKind.i64.wrap (k : Int) = k := by
  simp [IntKind.wrap, IntKind.bits, IntKind.signed]
  omega

theorem digs_len : ∀ (k n : Nat), n ≤ k → (Lib.decDigits n).length ≤ n + 1
  | 0, n, h => by rw [Lib.decDigits, dif_pos (by omega)]; simp
  | k + 1, n, h => by
    rw [Lib.decDigits]
    by_cases h1 : n < 10
    · rw [dif_pos h1]; simp
    · rw [dif_neg h1, List.length_append, List.length_singleton]
      have := digs_len k (n / 10) (by omega)
      omega
theorem cat_bytes (a b : List UInt8) : (⟨a.toArray⟩ : ByteArray) ++ ⟨b.toArray⟩ = ⟨(a ++ b).toArray⟩ := by
  apply ByteArray.ext
  simp

def txt (l : List UInt8) : Value := .string ⟨l.toArray⟩

set_option maxHeartbeats 400000 in
set_option maxRecDepth 1000000 in
theorem l2Dec_calls : ∀ (k n : Nat) (w : World), n ≤ k → n ≤ 1000000000 → Calls Tryd.prog 20 #[.int .i64 (n : Int)] w fun e w' => e = .returned (.string ⟨(Lib.decDigits n).toArray⟩) ∧ ∃ d, w' = w.drewN d := by
  intro k
  induction k with
  | zero =>
    intro n w hn hb
    obtain rfl : n = 0 := by omega
    rw [Lib.decDigits, dif_pos (by omega)]
    go_enter Tryd.func20, Tryd.ntmps20
    go_wp2
    go_ret
    exact ⟨rfl, 0, rfl⟩
  | succ k ih =>
    intro n w hn hb
    by_cases h10 : n < 10
    · rw [Lib.decDigits, dif_pos h10]
      have i1 : ¬ ((n : Int) < 0) := by omega
      have i2 : (n : Int) < 10 := by omega
      go_enter Tryd.func20, Tryd.ntmps20
      go_wp2
      go_ret
      rw [dig_at n h10]
      exact ⟨by simp, 0, rfl⟩
    · rw [Lib.decDigits, dif_neg h10]
      have i1 : ¬ ((n : Int) < 0) := by omega
      have i2 : ¬ ((n : Int) < 10) := by omega
      have KR : Hid (∀ W, Calls Tryd.prog 20 #[.int .i64 ((n : Int) / 10)] W fun e w' => e = .returned (.string ⟨(Lib.decDigits (n / 10)).toArray⟩) ∧ ∃ q, w' = W.drewN q) := hid fun W => by rw [show (n : Int) / 10 = ((n / 10 : Nat) : Int) by omega]; exact ih (n / 10) _ (by omega) (by omega)
      have hd : (⟨#[48, 49, 50, 51, 52, 53, 54, 55, 56, 57]⟩ : ByteArray).extract (n % 10) (n % 10 + 1) = ⟨#[UInt8.ofNat (48 + n % 10)]⟩ := dig_at (n % 10) (by omega)
      have HD := hid hd
      have e1 : (n : Int) / 10 = ((n / 10 : Nat) : Int) := by omega
      have hw1 : IntKind.i64.wrap ((n : Int) / 10) = (n : Int) / 10 := by rw [e1]; exact wrap_small2 _ (by omega)
      obtain ⟨r, hr⟩ : ∃ r, r = n % 10 := ⟨_, rfl⟩
      have hm : (n : Int).tmod 10 = (r : Int) := by rw [Int.tmod_eq_emod_of_nonneg (by omega)]; omega
      have hr10 : r < 10 := by omega
      have hw3 : IntKind.i64.wrap ((r : Int) + 1) = (r : Int) + 1 := wrap_small2 (r + 1) (by omega)
      rw [← hr] at HD ⊢
      clear hd ih e1 hr
      have hdl := digs_len (n / 10) (n / 10) (Nat.le_refl _)
      generalize Lib.decDigits (n / 10) = ds at *
      have hcc : ¬ (9223372036854775807 < ds.length + (min (r + 1) 10 - r)) := by omega
      clear hdl
      go_enter Tryd.func20, Tryd.ntmps20
      go_upto_region 7 with fail
      have i3 : (r : Int) ≤ (r : Int) + 1 := by omega
      have i4 : (r : Int) + 1 ≤ 10 := by omega
      have i5 : ¬ ((r : Int) < 0) := by omega
      have i6 : (0 : Int) ≤ (r : Int) := by omega
      go_region_law (first | (go_simp; go_at_call 20; (with_reducible refine (KR.out _).mono ?_); rintro e w2 ⟨rfl, d2, rfl⟩) | fail)
      all_goals
        go_wp2
        go_ret
        rw [HD.out]
        refine ⟨?_, _, rfl⟩
        show Ending.returned (.string ((⟨ds.toArray⟩ : ByteArray) ++ ⟨[UInt8.ofNat (48 + r)].toArray⟩)) = _
        rw [cat_bytes]
        simp

theorem itoa_len (n : Int) : (Lib.itoa n).length ≤ n.natAbs + 2 := by
  unfold Lib.itoa
  by_cases h : n < 0
  · rw [if_pos h, List.length_cons]
    have := digs_len _ n.natAbs (Nat.le_refl _)
    omega
  · rw [if_neg h]
    have := digs_len _ n.toNat (Nat.le_refl _)
    omega

set_option maxHeartbeats 400000 in
theorem l2DecI_calls (n : Int) (w : World) (h0 : -1000000000 ≤ n) (h1 : n ≤ 1000000000) : Calls Tryd.prog 20 #[.int .i64 n] w fun e w' => e = .returned (.string ⟨(Lib.itoa n).toArray⟩) ∧ ∃ d, w' = w.drewN d := by
  unfold Lib.itoa
  by_cases h : n < 0
  · rw [if_pos h]
    have KD : Hid (Calls Tryd.prog 20 #[.int .i64 (-n)] w fun e w' => e = .returned (.string ⟨(Lib.decDigits n.natAbs).toArray⟩) ∧ ∃ d, w' = w.drewN d) := hid (by
      rw [show -n = ((n.natAbs : Nat) : Int) by omega]
      exact l2Dec_calls _ _ w (Nat.le_refl _) (by omega))
    have hl := digs_len _ n.natAbs (Nat.le_refl _)
    have i0 : ¬ (n = -9223372036854775808) := by omega
    have i3 : (n == -9223372036854775808) = false := by simp; omega
    generalize Lib.decDigits n.natAbs = ds at *
    have hcc : ¬ (9223372036854775807 < 1 + ds.length) := by omega
    go_enter Tryd.func20, Tryd.ntmps20
    go_wp2_with fail
    refine KD.out.mono ?_
    rintro e w2 ⟨rfl, d, rfl⟩
    go_wp2_with fail
    go_ret
    refine ⟨?_, _, rfl⟩
    show Ending.returned (.string ((⟨[45].toArray⟩ : ByteArray) ++ ⟨ds.toArray⟩)) = _
    rw [cat_bytes]
    rfl
  · rw [if_neg h]
    have := l2Dec_calls _ n.toNat w (Nat.le_refl _) (by omega)
    rw [show ((n.toNat : Nat) : Int) = n by omega] at this
    exact this

/-- a row's text -/
def rowT (l : List Int) : List UInt8 := Lib.join (l.map Lib.itoa) [32]
theorem join_snoc (xs : List (List UInt8)) (x sep : List UInt8) : Lib.join (xs ++ [x]) sep = if xs = [] then x else Lib.join xs sep ++ sep ++ x := by
  cases xs with
  | nil => rw [if_pos rfl, List.nil_append, Lib.join_one]
  | cons y r =>
    rw [if_neg (by simp), List.cons_append, Lib.join_cons, Lib.join_cons]
    simp [Lib.joinTail]
theorem rowT_snoc (l : List Int) (x : Int) : rowT (l ++ [x]) = if l = [] then Lib.itoa x else rowT l ++ [32] ++ Lib.itoa x := by
  unfold rowT
  rw [List.map_append, List.map_cons, List.map_nil, join_snoc]
  by_cases h : l = []
  · rw [if_pos h, if_pos (by rw [h]; rfl)]
  · rw [if_neg h, if_neg (by simpa using h)]
theorem tail_len (M : Nat) (l : List Int) (h : ∀ x ∈ l, x.natAbs ≤ M) : (Lib.joinTail [32] (l.map Lib.itoa)).length ≤ l.length * (M + 3) := by
  induction l with
  | nil => simp [Lib.joinTail]
  | cons x l ih =>
    have h1 := ih fun y hy => h y (List.mem_cons_of_mem _ hy)
    have h2 := h x (List.mem_cons_self ..)
    have h3 := itoa_len x
    have e : Lib.joinTail [32] ((x :: l).map Lib.itoa) = [32] ++ Lib.itoa x ++ Lib.joinTail [32] (l.map Lib.itoa) := by simp [Lib.joinTail]
    rw [e, List.length_append, List.length_append, List.length_singleton, List.length_cons, Nat.add_mul]
    omega
theorem rowT_len (M : Nat) (l : List Int) (h : ∀ x ∈ l, x.natAbs ≤ M) : (rowT l).length ≤ l.length * (M + 3) := by
  cases l with
  | nil => simp [rowT, Lib.join_nil]
  | cons x l =>
    have h1 := tail_len M l fun y hy => h y (List.mem_cons_of_mem _ hy)
    have h2 := h x (List.mem_cons_self ..)
    have h3 := itoa_len x
    unfold rowT
    rw [List.map_cons, Lib.join_cons, List.length_append, List.length_cons, Nat.add_mul]
    omega

set_option maxHeartbeats 2000000 in
set_option maxRecDepth 1000000 in
theorem l2RowText_calls (w : World) (v : Value) (row : List Int) (h : IS w v row) (hl : row.length ≤ 1000) (hb : ∀ x ∈ row, -1000000000 ≤ x ∧ x ≤ 1000000000) :
    Calls Tryd.prog 21 #[v] w fun e w' => e = .returned (.string ⟨(rowT row).toArray⟩) ∧ ∃ d, w' = w.drewN d := by
  obtain ⟨a, cap, rfl, hc⟩ := h
  have HC : Hid (∀ d j, j < row.length → ∃ b o, a = some ⟨b, o, none⟩ ∧ (w.drewN d).cell? ⟨b, o + j, none⟩ = some (.int .i64 (row.getD j 0))) := hid fun d j hj => by
    rcases hc with h0 | ⟨b, o, rfl, h⟩
    · omega
    · exact ⟨b, o, rfl, h j hj⟩
  have KD : Hid (∀ W j, j < row.length → Calls Tryd.prog 20 #[.int .i64 (row.getD j 0)] W fun e w' => e = .returned (.string ⟨(Lib.itoa (row.getD j 0)).toArray⟩) ∧ ∃ d, w' = W.drewN d) := hid fun W j hj => by
    have := hb (row.getD j 0) (by rw [List.getD_eq_getElem?_getD, List.getElem?_eq_getElem hj]; exact List.getElem_mem _)
    exact l2DecI_calls _ W this.1 this.2
  have HI : Hid (∀ j, j < row.length → (Lib.itoa (row.getD j 0)).length ≤ 1000000002) := hid fun j hj => by
    have := hb (row.getD j 0) (by rw [List.getD_eq_getElem?_getD, List.getElem?_eq_getElem hj]; exact List.getElem_mem _)
    have := itoa_len (row.getD j 0)
    omega
  have HL : Hid (∀ j, (rowT (row.take j)).length ≤ 2000000000000) := hid fun j => by
    have := rowT_len 1000000000 (row.take j) fun x hx => by have := hb x (List.mem_of_mem_take hx); omega
    have h2 : (row.take j).length ≤ 1000 := by rw [List.length_take]; omega
    omega
  have HS : Hid (∀ j, j < row.length → rowT (row.take (j + 1)) = if j = 0 then Lib.itoa (row.getD j 0) else rowT (row.take j) ++ [32] ++ Lib.itoa (row.getD j 0)) := hid fun j hj => by
    rw [List.take_add_one, List.getElem?_eq_getElem hj, List.getD_eq_getElem?_getD, List.getElem?_eq_getElem hj, Option.toList_some, Option.getD_some, rowT_snoc]
    by_cases e : j = 0
    · rw [if_pos e, if_pos (by rw [e]; rfl)]
    · rw [if_neg e, if_neg (fun h => by have := congrArg List.length h; rw [List.length_take, List.length_nil] at this; omega)]
  have HE : Hid (rowT (row.take row.length) = rowT row) := hid (by rw [List.take_length])
  have H0 : Hid (rowT (row.take 0) = []) := hid rfl
  clear hc hb
  obtain ⟨n, hn⟩ : ∃ n, n = row.length := ⟨_, rfl⟩
  rw [← hn] at HC KD HI HS HE hl ⊢
  clear hn
  go_enter Tryd.func21, Tryd.ntmps21
  go_wp2_with fail
  go_loopw [3, 8] (fun u t wr => ∃ (j : Nat) (s : List UInt8), j ≤ n ∧ t = .int .i64 j ∧ u = .string ⟨s.toArray⟩ ∧ Hid (s = rowT (row.take j) ∧ ∃ d, wr = w.drewN d)) (fun _ t _ => n - (intOf t).toNat)
  case atStart => exact ⟨0, [], Nat.zero_le _, rfl, rfl, hid ⟨H0.out.symm, 0, rfl⟩⟩
  case round =>
    clear H0
    obtain ⟨j, s, hj, rfl, rfl, HT⟩ := hrel
    obtain ⟨hs, d, rfl⟩ := HT.out
    by_cases hjn : j < n
    · have i1 : (j : Int) < (n : Int) := by omega
      obtain ⟨b, o, ea, c1⟩ := HC.out d j hjn
      subst ea
      have KD1 := hid (KD.out (w.drewN d) j hjn)
      have hx := HI.out j hjn
      have hsl : s.length ≤ 2000000000000 := by rw [hs]; exact HL.out j
      have HSj := hid (HS.out j hjn)
      have HS0 := hid hs
      clear HT hs HC KD HI HL HS HE
      generalize Lib.itoa (row.getD j 0) = it at *
      generalize row.getD j 0 = x at *
      by_cases hj0 : j = 0
      · subst hj0
        rw [Nat.add_zero] at c1
        have hcc : ¬ (9223372036854775807 < s.length + it.length) := by omega
        go_wp2_with fail
        refine KD1.out.mono ?_
        rintro e w2 ⟨rfl, d2, rfl⟩
        go_wp2_with fail
        go_roundw
        case rel =>
          refine ⟨1, it, by omega, by go_num, ?_, hid ⟨?_, _, rfl⟩⟩
          · rw [cat_bytes, HS0.out]; rfl
          · rw [HSj.out]; rfl
        case measure => simp [intOf]; omega
      · have i2 : (0 : Int) < (j : Int) := by omega
        have hcc1 : ¬ (9223372036854775807 < s.length + 1) := by omega
        have hcc : ¬ (9223372036854775807 < s.length + 1 + it.length) := by omega
        go_wp2_with fail
        refine KD1.out.mono ?_
        rintro e w2 ⟨rfl, d2, rfl⟩
        go_wp2_with fail
        go_roundw
        case rel =>
          refine ⟨j + 1, s ++ [32] ++ it, by omega, by go_num, ?_, hid ⟨?_, _, rfl⟩⟩
          · rw [← cat_bytes, ← cat_bytes]
          · rw [HSj.out, if_neg hj0, HS0.out]
        case measure => simp [intOf]; omega
    · obtain rfl : j = n := by omega
      have i1 : ¬ ((j : Int) < (j : Int)) := by omega
      have HF := hid (hs.trans HE.out)
      clear HT hs HC KD HI HL HS HE
      go_wp2_with fail
      go_ret
      exact ⟨by rw [← HF.out]; rfl, _, rfl⟩

end Go.Proofs.YtfjchjhakjghcaaDoor
