import Derived.Lib.ItoaNum
/-
  Numbers as a text writes them: digits, and no zero ahead.
-/
namespace Go.Proofs.YtcdfoephhjacdaaDoor

def dgt (b : UInt8) : Bool := decide (48 ≤ b.toNat) && decide (b.toNat ≤ 57)
def dv (l : List UInt8) : Nat := l.foldl (fun n b => n * 10 + (b.toNat - 48)) 0
theorem dv_snoc (l : List UInt8) (b : UInt8) : dv (l ++ [b]) = dv l * 10 + (b.toNat - 48) := by simp [dv]
theorem dgt_num {b : UInt8} (h : dgt b = true) : 48 ≤ b.toNat ∧ b.toNat ≤ 57 := by
  simpa [dgt] using h
theorem dgt_of {d : Nat} (h : d < 10) : dgt (UInt8.ofNat (48 + d)) = true ∧ (UInt8.ofNat (48 + d)).toNat = 48 + d := by
  have e : (UInt8.ofNat (48 + d)).toNat = 48 + d := by
    rw [UInt8.toNat_ofNat']
    omega
  exact ⟨by unfold dgt; rw [e]; simp; omega, e⟩
theorem of_dgt {b : UInt8} (h : dgt b = true) : UInt8.ofNat (48 + (b.toNat - 48)) = b := by
  have h1 := dgt_num h
  apply UInt8.toNat_inj.1
  rw [(dgt_of (d := b.toNat - 48) (by omega)).2]
  omega

/-- a number as a text writes it -/
structure NumT (l : List UInt8) : Prop where
  ne : l ≠ []
  dg : ∀ b ∈ l, dgt b = true
  zo : l.head? = some 48 → l = [48]

theorem num_digits : ∀ (k : Nat) (l : List UInt8), l.length ≤ k → NumT l → Lib.decDigits (dv l) = l
  | 0, l, h, hn => absurd (List.length_eq_zero_iff.1 (by omega)) hn.ne
  | k + 1, l, h, hn => by
    rcases List.eq_nil_or_concat l with e | ⟨m, b, e⟩
    · exact absurd e hn.ne
    · rw [List.concat_eq_append] at e
      subst e
      have hb : dgt b = true := hn.dg b (by simp)
      have hb2 := dgt_num hb
      rw [dv_snoc]
      by_cases hm : m = []
      · subst hm
        rw [show dv [] = 0 from rfl, Nat.zero_mul, Nat.zero_add, Lib.decDigits, dif_pos (by omega), of_dgt hb]
        rfl
      · have hh : (m ++ [b]).head? = m.head? := by
          cases m with
          | nil => exact absurd rfl hm
          | cons x r => rfl
        have hz : m.head? ≠ some 48 := fun e => by
          have := hn.zo (hh.trans e)
          have := congrArg List.length this
          rw [List.length_append, List.length_singleton, List.length_singleton] at this
          exact hm (List.length_eq_zero_iff.1 (by omega))
        have hnm : NumT m := ⟨hm, fun x hx => hn.dg x (List.mem_append_left _ hx), fun e => absurd e hz⟩
        have ih := num_digits k m (by rw [List.length_append, List.length_singleton] at h; omega) hnm
        have h1 : 1 ≤ dv m := by
          rcases Nat.eq_zero_or_pos (dv m) with e | e
          · rw [e, Lib.decDigits, dif_pos (by omega)] at ih
            exact absurd (by rw [← ih]; rfl) hz
          · exact e
        rw [Lib.decDigits, dif_neg (by omega), show (dv m * 10 + (b.toNat - 48)) / 10 = dv m by omega, show (dv m * 10 + (b.toNat - 48)) % 10 = b.toNat - 48 by omega, ih, of_dgt hb]

theorem digits_num : ∀ (k n : Nat), n ≤ k → NumT (Lib.decDigits n) ∧ dv (Lib.decDigits n) = n
  | 0, n, h => by
    obtain rfl : n = 0 := by omega
    rw [Lib.decDigits, dif_pos (by omega)]
    exact ⟨⟨by simp, by decide, fun _ => rfl⟩, rfl⟩
  | k + 1, n, h => by
    rw [Lib.decDigits]
    by_cases h1 : n < 10
    · rw [dif_pos h1]
      have h2 := dgt_of h1
      refine ⟨⟨by simp, fun b hb => by rw [List.mem_singleton.1 hb]; exact h2.1, fun e => ?_⟩, by rw [show [UInt8.ofNat (48 + n)] = [] ++ [UInt8.ofNat (48 + n)] from rfl, dv_snoc, h2.2, show dv [] = 0 from rfl]; omega⟩
      simp only [List.head?_cons, Option.some.injEq] at e
      rw [e]
    · rw [dif_neg h1]
      obtain ⟨i1, i2⟩ := digits_num k (n / 10) (by omega)
      have h2 := dgt_of (d := n % 10) (by omega)
      refine ⟨⟨by simp, fun b hb => ?_, fun e => ?_⟩, ?_⟩
      · rcases List.mem_append.1 hb with hb | hb
        · exact i1.dg b hb
        · rw [List.mem_singleton.1 hb]; exact h2.1
      · have hh : (Lib.decDigits (n / 10) ++ [UInt8.ofNat (48 + n % 10)]).head? = (Lib.decDigits (n / 10)).head? := by
          cases hd : Lib.decDigits (n / 10) with
          | nil => exact absurd hd i1.ne
          | cons x r => rfl
        have := i1.zo (hh.symm.trans e)
        rw [this] at i2
        have : dv [48] = 0 := rfl
        omega
      · rw [dv_snoc, i2, h2.2]
        omega

theorem dv_grow (l m : List UInt8) : dv l ≤ dv (l ++ m) := by
  induction m generalizing l with
  | nil => simp
  | cons b m ih =>
    have := ih (l ++ [b])
    rw [List.append_assoc, List.singleton_append, dv_snoc] at this
    omega
theorem dv_take (l : List UInt8) (i : Nat) : dv (l.take i) ≤ dv l := by
  have := dv_grow (l.take i) (l.drop i)
  rwa [List.take_append_drop] at this
theorem dv_succ {l : List UInt8} {i : Nat} (h : i < l.length) : dv (l.take (i + 1)) = dv (l.take i) * 10 + ((l.getD i 0).toNat - 48) := by
  rw [List.take_add_one, List.getElem?_eq_getElem h, List.getD_eq_getElem?_getD, List.getElem?_eq_getElem h, Option.toList_some, Option.getD_some, dv_snoc]

def numTB (l : List UInt8) : Bool := decide (l ≠ []) && decide (∀ b ∈ l, dgt b = true) && decide (l.head? = some 48 → l = [48])
theorem numTB_iff {l : List UInt8} : numTB l = true ↔ NumT l := by
  unfold numTB
  rw [Bool.and_eq_true, Bool.and_eq_true, decide_eq_true_eq, decide_eq_true_eq, decide_eq_true_eq]
  exact ⟨fun h => ⟨h.1.1, h.1.2, h.2⟩, fun h => ⟨⟨h.ne, h.dg⟩, h.zo⟩⟩

/-- what a field gives as a number up to most -/
def rdN (l : List UInt8) (most : Nat) : Option Nat := if numTB l = true ∧ dv l ≤ most then some (dv l) else none
theorem rdN_some {l : List UInt8} {most n : Nat} : rdN l most = some n ↔ l = Lib.decDigits n ∧ n ≤ most := by
  unfold rdN
  constructor
  · intro h
    by_cases c : numTB l = true ∧ dv l ≤ most
    · rw [if_pos c] at h
      obtain rfl := Option.some.inj h
      exact ⟨(num_digits _ l (Nat.le_refl _) (numTB_iff.1 c.1)).symm, c.2⟩
    · rw [if_neg c] at h; cases h
  · rintro ⟨rfl, h⟩
    obtain ⟨h1, h2⟩ := digits_num n n (Nat.le_refl _)
    rw [if_pos ⟨numTB_iff.2 h1, by rw [h2]; exact h⟩, h2]

end Go.Proofs.YtcdfoephhjacdaaDoor
