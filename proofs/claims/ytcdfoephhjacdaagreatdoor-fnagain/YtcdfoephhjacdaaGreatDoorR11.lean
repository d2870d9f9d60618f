import Derived.Deep.Cut
import Derived.Deep.RegionLaw
import Derived.Lib.ItoaNum
import Derived.Test.YtcdfoephhjacdaaGreatDoorR02
/-
  Numbers as a text writes them: digits, and no zero ahead.
-/
namespace Go.Proofs.YtcdfoephhjacdaaGreatDoor

def dgt (b : UInt8) : Bool := decide (48 ≤ b.toNat) && decide (b.toNat ≤ 57)
def dv (l : List UInt8) : Nat := l.foldl (fun n b => n * 10 + (b.toNat - 48)) 0
theorem dv_snoc (l : List UInt8) (b : UInt8) : dv (l ++ [b]) = dv l * 10 + (b.toNat - 48) := by simp [dv]
theorem dgt_num {b : UInt8} (h : dgt b = true) : 48 ≤ b.toNat ∧ b.toNat ≤ 57 := by
  simpa [dgt] using h
theorem dgt_of {d : Nat} (h : d < 10) : dgt (UInt8.ofNat (48 + d)) = true ∧ (UInt8.ofNat (48 + d)).toNat = 48 + d := by
  have e : (UInt8.ofNat (48 + d)).toNat = 48 + d := by
    rw [UInt8.toNat_ofNat']
    omega
  exact ⟨by unfold dgt; rw [e]; simp; omega, e⟩
theorem of_dgt {b : UInt8} (h : dgt b = true) : UInt8.ofNat (48 + (b.toNat - 48)) = b := by
  have h1 := dgt_num h
  apply UInt8.toNat_inj.1
  rw [(dgt_of (d := b.toNat - 48) (by omega)).2]
  omega

/-- a number as a text writes it -/
structure NumT (l : List UInt8) : Prop where
  ne : l ≠ []
  dg : ∀ b ∈ l, dgt b = true
  zo : l.head? = some 48 → l = [48]

theorem num_digits : ∀ (k : Nat) (l : List UInt8), l.length ≤ k → NumT l → Lib.decDigits (dv l) = l
  | 0, l, h, hn => absurd (List.length_eq_zero_iff.1 (by omega)) hn.ne
  | k + 1, l, h, hn => by
    rcases List.eq_nil_or_concat l with e | ⟨m, b, e⟩
    · exact absurd e hn.ne
    · rw [List.concat_eq_append] at e
      subst e
      have hb : dgt b = true := hn.dg b (by simp)
      have hb2 := dgt_num hb
      rw [dv_snoc]
      by_cases hm : m = []
      · subst hm
        rw [show dv [] = 0 from rfl, Nat.zero_mul, Nat.zero_add, Lib.decDigits, dif_pos (by omega), of_dgt hb]
        rfl
      · have hh : (m ++ [b]).head? = m.head? := by
          cases m with
          | nil => exact absurd rfl hm
          | cons x r => rfl
        have hz : m.head? ≠ some 48 := fun e => by
          have := hn.zo (hh.trans e)
          have := congrArg List.length this
          rw [List.length_append, List.length_singleton, List.length_singleton] at this
          exact hm (List.length_eq_zero_iff.1 (by omega))
        have hnm : NumT m := ⟨hm, fun x hx => hn.dg x (List.mem_append_left _ hx), fun e => absurd e hz⟩
        have ih := num_digits k m (by rw [List.length_append, List.length_singleton] at h; omega) hnm
        have h1 : 1 ≤ dv m := by
          rcases Nat.eq_zero_or_pos (dv m) with e | e
          · rw [e, Lib.decDigits, dif_pos (by omega)] at ih
            exact absurd (by rw [← ih]; rfl) hz
          · exact e
        rw [Lib.decDigits, dif_neg (by omega), show (dv m * 10 + (b.toNat - 48)) / 10 = dv m by omega, show (dv m * 10 + (b.toNat - 48)) % 10 = b.toNat - 48 by omega, ih, of_dgt hb]

theorem digits_num : ∀ (k n : Nat), n ≤ k → NumT (Lib.decDigits n) ∧ dv (Lib.decDigits n) = n
  | 0, n, h => by
    obtain rfl : n = 0 := by omega
    rw [Lib.decDigits, dif_pos (by omega)]
    exact ⟨⟨by simp, by decide, fun _ => rfl⟩, rfl⟩
  | k + 1, n, h => by
    rw [Lib.decDigits]
    by_cases h1 : n < 10
    · rw [dif_pos h1]
      have h2 := dgt_of h1
      refine ⟨⟨by simp, fun b hb => by rw [List.mem_singleton.1 hb]; exact h2.1, fun e => ?_⟩, by rw [show [UInt8.ofNat (48 + n)] = [] ++ [UInt8.ofNat (48 + n)] from rfl, dv_snoc, h2.2, show dv [] = 0 from rfl]; omega⟩
      simp only [List.head?_cons, Option.some.injEq] at e
      rw [e]
    · rw [dif_neg h1]
      obtain ⟨i1, i2⟩ := digits_num k (n / 10) (by omega)
      have h2 := dgt_of (d := n % 10) (by omega)
      refine ⟨⟨by simp, fun b hb => ?_, fun e => ?_⟩, ?_⟩
      · rcases List.mem_append.1 hb with hb | hb
        · exact i1.dg b hb
        · rw [List.mem_singleton.1 hb]; exact h2.1
      · have hh : (Lib.decDigits (n / 10) ++ [UInt8.ofNat (48 + n % 10)]).head? = (Lib.decDigits (n / 10)).head? := by
          cases hd : Lib.decDigits (n / 10) with
          | nil => exact absurd hd i1.ne
          | cons x r => rfl
        have := i1.zo (hh.symm.trans e)
        rw [this] at i2
        have : dv [48] = 0 := rfl
        omega
      · rw [dv_snoc, i2, h2.2]
        omega

theorem dv_grow (l m : List UInt8) : dv l ≤ dv (l ++ m) := by
  induction m generalizing l with
  | nil => simp
  | cons b m ih =>
    have := ih (l ++ [b])
    rw [List.append_assoc, List.singleton_append, dv_snoc] at this
    omega
theorem dv_take (l : List UInt8) (i : Nat) : dv (l.take i) ≤ dv l := by
  have := dv_grow (l.take i) (l.drop i)
  rwa [List.take_append_drop] at this
theorem dv_succ {l : List UInt8} {i : Nat} (h : i < l.length) : dv (l.take (i + 1)) = dv (l.take i) * 10 + ((l.getD i 0).toNat - 48) := by
  rw [List.take_add_one, List.getElem?_eq_getElem h, List.getD_eq_getElem?_getD, List.getElem?_eq_getElem h, Option.toList_some, Option.getD_some, dv_snoc]

def numTB (l : List UInt8) : Bool := decide (l ≠ []) && decide (∀ b ∈ l, dgt b = true) && decide (l.head? = some 48 → l = [48])
theorem numTB_iff {l : List UInt8} : numTB l = true ↔ NumT l := by
  unfold numTB
  rw [Bool.and_eq_true, Bool.and_eq_true, decide_eq_true_eq, decide_eq_true_eq, decide_eq_true_eq]
  exact ⟨fun h => ⟨h.1.1, h.1.2, h.2⟩, fun h => ⟨⟨h.ne, h.dg⟩, h.zo⟩⟩

/-- what a field gives as a number up to most -/
def rdN (l : List UInt8) (most : Nat) : Option Nat := if numTB l = true ∧ dv l ≤ most then some (dv l) else none
theorem rdN_some {l : List UInt8} {most n : Nat} : rdN l most = some n ↔ l = Lib.decDigits n ∧ n ≤ most := by
  unfold rdN
  constructor
  · intro h
    by_cases c : numTB l = true ∧ dv l ≤ most
    · rw [if_pos c] at h
      obtain rfl := Option.some.inj h
      exact ⟨(num_digits _ l (Nat.le_refl _) (numTB_iff.1 c.1)).symm, c.2⟩
    · rw [if_neg c] at h; cases h
  · rintro ⟨rfl, h⟩
    obtain ⟨h1, h2⟩ := digits_num n n (Nat.le_refl _)
    rw [if_pos ⟨numTB_iff.2 h1, by rw [h2]; exact h⟩, h2]

end Go.Proofs.YtcdfoephhjacdaaGreatDoor

/-
  Numbers with a sign, read from the left.
-/
namespace Go.Proofs.YtcdfoephhjacdaaGreatDoor

def eN (l : List UInt8) : Nat → Nat
  | 0 => 0
  | j + 1 => if j = 0 ∧ l.head? = some 45 then 0 else eN l j * 10 + ((l.getD j 0).toNat - 48)
def okN (l : List UInt8) (i : Nat) : Bool := (decide (i = 0) && decide (l.head? = some 45)) || dgt (l.getD i 0)
def vN (l : List UInt8) : Int := if l.head? = some 45 then -(eN l l.length : Int) else eN l l.length

theorem eN_plain {l : List UInt8} (h : l.head? ≠ some 45) : ∀ j, j ≤ l.length → eN l j = dv (l.take j)
  | 0, _ => rfl
  | j + 1, hj => by
    rw [eN, if_neg (fun c => h c.2), eN_plain h j (by omega), dv_succ (by omega)]
theorem eN_minus (m : List UInt8) : ∀ j, j ≤ m.length → eN (45 :: m) (j + 1) = dv (m.take j)
  | 0, _ => by rw [eN, if_pos ⟨rfl, rfl⟩]; rfl
  | j + 1, hj => by
    rw [eN, if_neg (by omega), eN_minus m j (by omega), dv_succ (by omega)]
    rfl
theorem eN_lt (l : List UInt8) : ∀ j, (∀ i, i < j → okN l i = true) → eN l j < 10 ^ j
  | 0, _ => by rw [eN]; decide
  | j + 1, h => by
    have ih := eN_lt l j fun i hi => h i (by omega)
    rw [eN, Nat.pow_succ]
    by_cases c : j = 0 ∧ l.head? = some 45
    · rw [if_pos c]; have := Nat.pos_of_ne_zero (show (10 : Nat) ^ j ≠ 0 by simp); omega
    · rw [if_neg c]
      have hj := h j (by omega)
      unfold okN at hj
      rw [show (decide (j = 0) && decide (l.head? = some 45)) = false by
        by_cases c1 : j = 0
        · by_cases c2 : l.head? = some 45
          · exact absurd ⟨c1, c2⟩ c
          · simp [c2]
        · simp [c1], Bool.false_or] at hj
      have := dgt_num hj
      omega
theorem digits_short : ∀ (k n : Nat), n < 10 ^ (k + 1) → (Lib.decDigits n).length ≤ k + 1
  | 0, n, h => by rw [Lib.decDigits, dif_pos (by omega)]; simp
  | k + 1, n, h => by
    rw [Lib.decDigits]
    by_cases h1 : n < 10
    · rw [dif_pos h1]; simp
    · rw [dif_neg h1, List.length_append, List.length_singleton]
      have := digits_short k (n / 10) (by rw [Nat.pow_succ] at h; omega)
      omega
theorem dig_head (n : Nat) : (Lib.decDigits n).head? ≠ some 45 := fun e => by
  have h := (digits_num n n (Nat.le_refl _)).1
  cases hd : Lib.decDigits n with
  | nil => exact h.ne hd
  | cons x r =>
    rw [hd] at e h
    simp only [List.head?_cons, Option.some.injEq] at e
    have := dgt_num (h.dg x (List.mem_cons_self ..))
    rw [e] at this
    simp at this
theorem vN_itoa (n : Int) : vN (Lib.itoa n) = n ∧ ∀ i, i < (Lib.itoa n).length → okN (Lib.itoa n) i = true := by
  unfold Lib.itoa
  by_cases h : n < 0
  · rw [if_pos h]
    obtain ⟨h1, h2⟩ := digits_num n.natAbs n.natAbs (Nat.le_refl _)
    refine ⟨?_, fun i hi => ?_⟩
    · unfold vN
      rw [if_pos (show (45 :: Lib.decDigits n.natAbs).head? = some 45 from rfl), List.length_cons, eN_minus _ _ (Nat.le_refl _), List.take_length, h2]
      omega
    · unfold okN
      cases i with
      | zero => simp
      | succ i =>
        rw [List.length_cons] at hi
        have : (45 :: Lib.decDigits n.natAbs).getD (i + 1) 0 = (Lib.decDigits n.natAbs).getD i 0 := rfl
        rw [this, h1.dg _ (by rw [List.getD_eq_getElem?_getD, List.getElem?_eq_getElem (by omega)]; exact List.getElem_mem _), Bool.or_true]
  · rw [if_neg h]
    obtain ⟨h1, h2⟩ := digits_num n.toNat n.toNat (Nat.le_refl _)
    have h3 := dig_head n.toNat
    refine ⟨?_, fun i hi => ?_⟩
    · unfold vN
      rw [if_neg h3, eN_plain h3 _ (Nat.le_refl _), List.take_length, h2]
      omega
    · unfold okN
      rw [h1.dg _ (by rw [List.getD_eq_getElem?_getD, List.getElem?_eq_getElem hi]; exact List.getElem_mem _), Bool.or_true]

end Go.Proofs.YtcdfoephhjacdaaGreatDoor

/-
  impl.readNumber.
-/
namespace Go.Proofs.YtcdfoephhjacdaaGreatDoor
open Go.RowKit

def numN (s : ByteArray) (most : Nat) : Nat := (rdN s.data.toList most).getD 0
def numG (s : ByteArray) (most : Nat) : Bool := (rdN s.data.toList most).isSome
theorem num_no {s : ByteArray} {most : Nat} (h : NumT s.data.toList → dv s.data.toList ≤ most → False) : numN s most = 0 ∧ numG s most = false := by
  unfold numN numG rdN
  rw [if_neg (fun c => h (numTB_iff.1 c.1) c.2)]
  exact ⟨rfl, rfl⟩
theorem num_yes {s : ByteArray} {most : Nat} (h : NumT s.data.toList) (h2 : dv s.data.toList ≤ most) : numN s most = dv s.data.toList ∧ numG s most = true := by
  unfold numN numG rdN
  rw [if_pos ⟨numTB_iff.2 h, h2⟩]
  exact ⟨rfl, rfl⟩
theorem byte_dgt (b : UInt8) : digitB (b.toNat : Int) = dgt b := by
  unfold digitB dgt
  congr 1
  · apply decide_eq_decide.2; omega
  · apply decide_eq_decide.2; omega

set_option maxHeartbeats 2000000 in
set_option maxRecDepth 1000000 in
theorem readNumber_calls (w : World) (s : ByteArray) (most : Nat) (hs : s.size ≤ 1099511627776) (hm : most ≤ 1000000000000) :
    Calls Tryz.prog 63 #[.string s, .int .i64 most] w fun e w' => e = .returned (.tuple #[.int .i64 (numN s most), .bool (numG s most)]) ∧ w' = w := by
  by_cases h0 : s.size = 0
  · have e1 : s = ⟨#[]⟩ := by
      obtain ⟨⟨l⟩⟩ := s
      simp [ByteArray.size] at h0
      simp [h0]
    obtain ⟨f1, f2⟩ := num_no (s := s) (most := most) (fun h _ => h.ne (by rw [e1]))
    rw [f1, f2]
    subst e1
    go_enter Tryz.func63, Tryz.ntmps63
    go_wp2
    go_ret2
    exact ⟨rfl, rfl⟩
  have hne := not_empty h0
  have i0 : (0 : Int) < (s.size : Int) := by omega
  have hp0 : 0 < s.size := by omega
  have hb0 := byteAt_eq s 0 hp0
  have hat : ∀ i, byteAt s i = (((s.data.toList.getD i 0).toNat : Nat) : Int) := fun i => rfl
  have hlen : s.data.toList.length = s.size := by simp
  have hhd : s.data.toList.head? = some (s.data.toList.getD 0 0) := by
    cases hl : s.data.toList with
    | nil => rw [hl] at hlen; simp at hlen; omega
    | cons x r => rfl
  by_cases hbad : byteAt s 0 = 48 ∧ s.toList ≠ [48]
  · obtain ⟨f1, f2⟩ := num_no (s := s) (most := most) (fun h _ => hbad.2 (by
      rw [ByteArray.toList_eq]
      refine h.zo (by rw [hhd, show s.data.toList.getD 0 0 = 48 from UInt8.toNat_inj.1 (by have := hat 0; rw [hbad.1] at this; show _ = 48; omega)])))
    rw [f1, f2]
    have hz3 : (((s[0]'hp0).toNat : Int) == 48) = true := by rw [← hb0, hbad.1]; rfl
    have hz4 : (s.toList == [48]) = false := by simpa using hbad.2
    go_enter Tryz.func63, Tryz.ntmps63
    go_wp2
    go_ret2
    exact ⟨rfl, rfl⟩
  have hzo : s.data.toList.head? = some 48 → s.data.toList = [48] := fun e => by
    rw [hhd, Option.some.injEq] at e
    by_cases e2 : s.toList = [48]
    · rw [← ByteArray.toList_eq]; exact e2
    · exact absurd ⟨by rw [hat 0, e]; rfl, e2⟩ hbad
  have HT : Hid ((∀ i, i < s.size → dgt (s.data.toList.getD i 0) = true) → dv s.data.toList ≤ most → numN s most = dv s.data.toList ∧ numG s most = true) := hid fun h1 h2 => num_yes ⟨fun e => by rw [e] at hlen; simp at hlen; omega, fun b hb => by
      obtain ⟨j, hj, e⟩ := List.getElem_of_mem hb
      have := h1 j (by omega)
      rw [List.getD_eq_getElem?_getD, List.getElem?_eq_getElem hj] at this
      rw [← e]; exact this, hzo⟩ h2
  have HF1 : Hid (∀ i, i < s.size → dgt (s.data.toList.getD i 0) = false → numN s most = 0 ∧ numG s most = false) := hid fun i hi hd => num_no fun h _ => by
    have := h.dg (s.data.toList.getD i 0) (by rw [List.getD_eq_getElem?_getD, List.getElem?_eq_getElem (by omega)]; exact List.getElem_mem _)
    rw [hd] at this; cases this
  have HF2 : Hid (∀ i, most < dv (s.data.toList.take i) → numN s most = 0 ∧ numG s most = false) := hid fun i hi => num_no fun _ h => by
    have := dv_take s.data.toList i
    omega
  have HE : Hid (dv (s.data.toList.take s.size) = dv s.data.toList) := hid (by rw [← hlen, List.take_length])
  have HS : Hid (∀ i, i < s.size → dv (s.data.toList.take (i + 1)) = dv (s.data.toList.take i) * 10 + ((s.data.toList.getD i 0).toNat - 48)) := hid fun i hi => dv_succ (by omega)
  have H0 : Hid (dv (s.data.toList.take 0) = 0) := hid rfl
  have HAT : Hid (∀ i (h : i < s.size), ((s[i]'h).toNat : Int) = ((s.data.toList.getD i 0).toNat : Int)) := hid fun i h => by rw [← byteAt_eq s i h, hat i]
  clear hlen hhd hzo hat
  generalize numN s most = N at *
  generalize numG s most = Gd at *
  generalize dv s.data.toList = DV at *
  obtain ⟨n, hn⟩ : ∃ n, n = s.size := ⟨_, rfl⟩
  rw [← hn] at HT HF1 HE HS
  go_enter Tryz.func63, Tryz.ntmps63
  go_upto_region 1 with fail
  go_cut [18] from 8 (fun v wx => v = .bool false ∧ wx = w)
  case first =>
    by_cases hz : byteAt s 0 = 48
    · have hz3 : (((s[0]'hp0).toNat : Int) == 48) = true := by rw [← hb0, hz]; rfl
      have hz4 : (s.toList == [48]) = true := by
        by_cases e : s.toList = [48]
        · simpa using e
        · exact absurd ⟨hz, e⟩ hbad
      go_wp2
      go_meet
      exact ⟨by simp, rfl⟩
    · have hz3 : (((s[0]'hp0).toNat : Int) == 48) = false := by
        rw [← hb0]; simpa using hz
      go_wp2
      go_meet
      exact ⟨rfl, rfl⟩
  case rest =>
    obtain ⟨rfl, rfl⟩ := hcut
    clear hbad hb0
    go_wp2_with fail
    go_loop [6, 21] (fun u t => ∃ j d : Nat, j ≤ n ∧ t = .int .i64 j ∧ u = .int .i64 d ∧ d ≤ most ∧ Hid (d = dv (s.data.toList.take j) ∧ ∀ i, i < j → dgt (s.data.toList.getD i 0) = true)) (fun _ t => n - (intOf t).toNat)
    case atStart => exact ⟨0, 0, Nat.zero_le _, rfl, rfl, Nat.zero_le _, hid ⟨H0.out.symm, fun i hi => by omega⟩⟩
    case round =>
      obtain ⟨j, d, hj, rfl, rfl, hd, hok⟩ := hrel
      by_cases hjn : j < n
      · have j1 : (j : Int) < (s.size : Int) := by omega
        have hjs : j < s.size := by omega
        have hAT := HAT.out j hjs
        have hF1 := hid (HF1.out j hjn)
        have hS := HS.out j hjn
        rw [← hok.out.1] at hS
        have hF2 := hid (HF2.out (j + 1))
        have KD := hid (isDigit_calls wc ((s[j]'hjs).toNat : Int))
        rw [hAT, byte_dgt] at KD
        have hx := hid (dgt_num (b := s.data.toList.getD j 0))
        have nxt : Hid (dgt (s.data.toList.getD j 0) = true → ∀ i, i < j + 1 → dgt (s.data.toList.getD i 0) = true) := hid fun e i hi => by
          by_cases e2 : i = j
          · rw [e2]; exact e
          · exact hok.out.2 i (by omega)
        have HD' := hid hS
        clear hok HF1 HF2 HS HAT HT HE H0 hS
        generalize dgt (s.data.toList.getD j 0) = dg at *
        generalize (s.data.toList.getD j 0).toNat = b at *
        cases dg
        · obtain ⟨f1, f2⟩ := hF1.out rfl
          subst f1 f2
          go_wp2_with (first | (go_at_call 93; refine KD.out.mono ?_; rintro e w' ⟨rfl, hw'⟩; subst w') | fail)
          go_ret2
          exact ⟨rfl, rfl⟩
        · obtain ⟨x1, x2⟩ := hx.out rfl
          have hw1 : IntKind.u8.wrap ((b : Int) - 48) = (b : Int) - 48 := by simp [IntKind.wrap, IntKind.bits, IntKind.signed]; omega
          have hw2 : IntKind.i64.wrap ((b : Int) - 48) = (b : Int) - 48 := by simp [IntKind.wrap, IntKind.bits, IntKind.signed]; omega
          have hw3 : IntKind.i64.wrap ((d : Int) * 10) = (d : Int) * 10 := by simp [IntKind.wrap, IntKind.bits, IntKind.signed]; omega
          have hw4 : IntKind.i64.wrap ((d : Int) * 10 + ((b : Int) - 48)) = (d : Int) * 10 + ((b : Int) - 48) := by simp [IntKind.wrap, IntKind.bits, IntKind.signed]; omega
          by_cases hgt : most < d * 10 + (b - 48)
          · have i5 : (most : Int) < (d : Int) * 10 + ((b : Int) - 48) := by omega
            obtain ⟨f1, f2⟩ := hF2.out (by rw [HD'.out]; exact hgt)
            subst f1 f2
            clear hgt
            go_wp2_with (first | (go_at_call 93; refine KD.out.mono ?_; rintro e w' ⟨rfl, hw'⟩; subst w') | fail)
            go_ret2
            exact ⟨rfl, rfl⟩
          · have i5 : ¬ ((most : Int) < (d : Int) * 10 + ((b : Int) - 48)) := by omega
            have HNX : Hid (∃ d' : Nat, ((d : Int) * 10 + ((b : Int) - 48)) = d' ∧ d' ≤ most ∧ d' = dv (s.data.toList.take (j + 1))) := hid ⟨d * 10 + (b - 48), by omega, by omega, HD'.out.symm⟩
            have HAL := hid (nxt.out rfl)
            clear hgt nxt hx
            go_wp2_with (first | (go_at_call 93; refine KD.out.mono ?_; rintro e w' ⟨rfl, hw'⟩; subst w') | fail)
            go_round
            case rel =>
              obtain ⟨d', e1, e2, e3⟩ := HNX.out
              exact ⟨j + 1, d', by omega, by go_num, by rw [e1], e2, hid ⟨e3, HAL.out⟩⟩
            case measure => simp [intOf]; omega
      · obtain rfl : j = n := by omega
        have j1 : ¬ ((j : Int) < (s.size : Int)) := by omega
        have hdv : d = DV := by rw [hok.out.1, HE.out]
        subst hdv
        obtain ⟨f1, f2⟩ := HT.out hok.out.2 hd
        subst f1 f2
        clear hok HT HF1 HF2 HS HAT HE H0
        go_wp2
        go_ret2
        exact ⟨rfl, rfl⟩
end Go.Proofs.YtcdfoephhjacdaaGreatDoor

/-
  A query's text as tokens: plain mathematics.
-/
namespace Go.Proofs.YtcdfoephhjacdaaGreatDoor
open Go.RowKit

/-- a token: its kind (97 a name, 48 a number, else a symbol's first byte), name, value, offset -/
structure TkV where
  k : Nat
  nm : ByteArray
  v : Nat
  at' : Nat
def noTk : TkV := ⟨0, ⟨#[]⟩, 0, 0⟩

/-- how far bytes of a kind go on from offset o -/
def rn (p : Int → Bool) (s : ByteArray) (o : Nat) : Nat := ((s.data.toList.drop o).takeWhile fun b => p (b.toNat : Int)).length
theorem byte_drop {s : ByteArray} {o i : Nat} (h : o + i < s.size) : (s.data.toList.drop o)[i]? = some (s.data.toList.getD (o + i) 0) := by
  have e : s.data.toList.length = s.size := by simp
  have hl : o + i < s.data.toList.length := by omega
  rw [List.getElem?_drop, List.getD_eq_getElem?_getD, List.getElem?_eq_getElem hl]; rfl
theorem takeWhile_len {α : Type} (p : α → Bool) : ∀ (l : List α) (n : Nat), (∀ i x, i < n → l[i]? = some x → p x = true) → n ≤ l.length → (∀ x, l[n]? = some x → p x = false) → (l.takeWhile p).length = n
  | [], n, _, hn, _ => by simp at hn; subst hn; rfl
  | x :: r, 0, _, _, h2 => by rw [List.takeWhile_cons, if_neg (by rw [h2 x rfl]; decide)]; rfl
  | x :: r, n + 1, h1, hn, h2 => by
    rw [List.takeWhile_cons, if_pos (h1 0 x (by omega) rfl), List.length_cons, takeWhile_len p r n (fun i y hi hy => h1 (i + 1) y (by omega) hy) (by simpa using hn) (fun y hy => h2 y hy)]
theorem rn_eq {p : Int → Bool} {s : ByteArray} {o n : Nat} (h1 : ∀ i, i < n → p (byteAt s (o + i)) = true) (h2 : o + n ≤ s.size) (h3 : o + n = s.size ∨ p (byteAt s (o + n)) = false) : rn p s o = n := by
  have hl : s.data.toList.length = s.size := by simp
  refine takeWhile_len _ _ n (fun i x hi hx => ?_) (by rw [List.length_drop]; omega) (fun x hx => ?_)
  · rw [byte_drop (by omega)] at hx
    rw [← Option.some.inj hx]
    exact h1 i hi
  · rcases h3 with h3 | h3
    · rw [List.getElem?_eq_none (by rw [List.length_drop]; omega)] at hx; cases hx
    · by_cases h4 : o + n = s.size
      · rw [List.getElem?_eq_none (by rw [List.length_drop]; omega)] at hx; cases hx
      · rw [byte_drop (by omega)] at hx
        rw [← Option.some.inj hx]
        exact h3

/-- the digits of a stretch -/
def stretch (s : ByteArray) (o n : Nat) : List UInt8 := (s.data.toList.drop o).take n
def sepB (c : Int) : Bool := decide (c = 9) || decide (c = 10) || decide (c = 13) || decide (c = 32)
def symB (c : Int) : Bool := decide (c = 40) || decide (c = 41) || decide (c = 44) || decide (c = 59) || decide (c = 46)
/-- what stands at offset o: none, if nothing that may; else a token, or none for a separator, and its length -/
def nx (s : ByteArray) (o : Nat) : Option (Option (Nat × ByteArray × Nat) × Nat) :=
  if sepB (byteAt s o) then some (none, 1)
  else if letterB (byteAt s o) then (if rn nbyteB s o ≤ 30 then some (some (97, s.extract o (o + rn nbyteB s o), 0), rn nbyteB s o) else none)
  else if digitB (byteAt s o) then (if dv (stretch s o (rn digitB s o)) ≤ 1000000 then some (some (48, ⟨#[]⟩, dv (stretch s o (rn digitB s o))), rn digitB s o) else none)
  else if byteAt s o = 58 then (if o + 1 < s.size ∧ byteAt s (o + 1) = 45 then some (some (58, ⟨#[]⟩, 0), 2) else none)
  else if symB (byteAt s o) then some (some ((byteAt s o).toNat, ⟨#[]⟩, 0), 1)
  else none

def lexF (s : ByteArray) : Nat → Nat → List TkV → List TkV × Option Nat
  | 0, _, acc => (acc, none)
  | f + 1, o, acc => if o < s.size then (match nx s o with
    | none => (acc, some o)
    | some (none, n) => lexF s f (o + n) acc
    | some (some (k, nm, v), n) => lexF s f (o + n) (acc ++ [⟨k, nm, v, o⟩])) else (acc, none)
/-- a text's tokens, and the offset of the first thing that is none -/
def lexA (s : ByteArray) : List TkV × Option Nat := lexF s (s.size + 1) 0 []
/-- so far the tokens acc have been cut, up to offset o -/
def LexI (s : ByteArray) (o : Nat) (acc : List TkV) : Prop := o ≤ s.size ∧ ∃ f, s.size - o < f ∧ lexF s f o acc = lexA s
theorem LexI.start (s : ByteArray) : LexI s 0 [] := ⟨Nat.zero_le _, s.size + 1, by omega, rfl⟩
theorem LexI.done {s : ByteArray} {acc : List TkV} (h : LexI s s.size acc) : lexA s = (acc, none) := by
  obtain ⟨-, f, hf, e⟩ := h
  cases f with
  | zero => omega
  | succ f => rw [← e, lexF, if_neg (by omega)]
theorem LexI.bad {s : ByteArray} {o : Nat} {acc : List TkV} (h : LexI s o acc) (ho : o < s.size) (hn : nx s o = none) : lexA s = (acc, some o) := by
  obtain ⟨-, f, hf, e⟩ := h
  cases f with
  | zero => omega
  | succ f => rw [← e, lexF, if_pos ho, hn]
theorem LexI.sep {s : ByteArray} {o n : Nat} {acc : List TkV} (h : LexI s o acc) (ho : o < s.size) (hn : nx s o = some (none, n)) (h1 : 0 < n) (h2 : o + n ≤ s.size) : LexI s (o + n) acc := by
  obtain ⟨-, f, hf, e⟩ := h
  cases f with
  | zero => omega
  | succ f =>
    refine ⟨h2, f, by omega, ?_⟩
    rw [← e, lexF, if_pos ho, hn]
theorem LexI.tok {s : ByteArray} {o n k v : Nat} {nm : ByteArray} {acc : List TkV} (h : LexI s o acc) (ho : o < s.size) (hn : nx s o = some (some (k, nm, v), n)) (h1 : 0 < n) (h2 : o + n ≤ s.size) : LexI s (o + n) (acc ++ [⟨k, nm, v, o⟩]) := by
  obtain ⟨-, f, hf, e⟩ := h
  cases f with
  | zero => omega
  | succ f =>
    refine ⟨h2, f, by omega, ?_⟩
    rw [← e, lexF, if_pos ho, hn]

/-- the tokens that may be -/
structure TkOk (t : TkV) : Prop where
  k : t.k = 97 ∨ t.k = 48 ∨ t.k = 58 ∨ t.k = 40 ∨ t.k = 41 ∨ t.k = 44 ∨ t.k = 59 ∨ t.k = 46
  nm : t.k ≠ 97 → t.nm = ⟨#[]⟩
  nz : t.k = 97 → t.nm.size ≠ 0
  v : t.v ≤ 1000000
  vz : t.k = 97 → t.v = 0

end Go.Proofs.YtcdfoephhjacdaaGreatDoor
