import Derived.Test.YtoodbpijgnbfjaaGreatFq05
import Derived.Test.YtoodbpijgnbfjaaGreatFq10
import Derived.Test.YtoodbpijgnbfjaaGreatFq18
namespace Go.Proofs.YtoodbpijgnbfjaaGreat
open Go.RowKit

theorem dgs_mod : ∀ (i m : Nat), dgs (m % 7 ^ i) i = dgs m i
  | 0, _ => rfl
  | i + 1, m => by
    show ((m % 7 ^ (i + 1) / 7 ^ i % 7 : Nat) : Int) :: dgs (m % 7 ^ (i + 1)) i = ((m / 7 ^ i % 7 : Nat) : Int) :: dgs m i
    have h1 : m % 7 ^ (i + 1) / 7 ^ i = m / 7 ^ i % 7 := by rw [Nat.pow_succ, Nat.mod_mul_right_div_self]
    have h2 : dgs (m % 7 ^ (i + 1)) i = dgs m i := by
      rw [← dgs_mod i (m % 7 ^ (i + 1)), ← dgs_mod i m, Nat.pow_succ, Nat.mod_mul_right_mod]
    rw [h1, h2, Nat.mod_mod]
theorem dgs_lt : ∀ (k m m' : Nat), m < m' → m' < 7 ^ k → cmpL (dgs m k) (dgs m' k) < 0
  | 0, m, m', h, h' => by simp at h'; omega
  | k + 1, m, m', h, h' => by
    have hp : 0 < 7 ^ k := Nat.pow_pos (by decide)
    have e1 : m' / 7 ^ k < 7 := Nat.div_lt_of_lt_mul (by rw [← Nat.pow_succ]; exact h')
    have e2 : m / 7 ^ k ≤ m' / 7 ^ k := Nat.div_le_div_right (Nat.le_of_lt h)
    show cmpL (((m / 7 ^ k % 7 : Nat) : Int) :: dgs m k) (((m' / 7 ^ k % 7 : Nat) : Int) :: dgs m' k) < 0
    rw [Nat.mod_eq_of_lt e1, Nat.mod_eq_of_lt (by omega)]
    unfold cmpL
    by_cases e : m / 7 ^ k < m' / 7 ^ k
    · rw [if_pos (by omega)]; decide
    · have e3 : m / 7 ^ k = m' / 7 ^ k := by omega
      rw [if_neg (by omega), if_neg (by omega), ← dgs_mod k m, ← dgs_mod k m']
      refine dgs_lt k _ _ ?_ (Nat.mod_lt _ hp)
      have h1 := Nat.div_add_mod m (7 ^ k)
      have h2 := Nat.div_add_mod m' (7 ^ k)
      rw [e3] at h1
      omega
theorem dgs_all : ∀ p : List Int, (∀ x ∈ p, 0 ≤ x ∧ x < 7) → ∃ m, m < 7 ^ p.length ∧ dgs m p.length = p
  | [], _ => ⟨0, by decide, rfl⟩
  | x :: l, h => by
    obtain ⟨m, h1, h2⟩ := dgs_all l fun y hy => h y (List.mem_cons_of_mem _ hy)
    have hx := h x List.mem_cons_self
    have hp : 0 < 7 ^ l.length := Nat.pow_pos (by decide)
    have hd : (x.toNat * 7 ^ l.length + m) / 7 ^ l.length = x.toNat := by
      rw [Nat.mul_comm, Nat.mul_add_div hp, Nat.div_eq_of_lt h1, Nat.add_zero]
    have hm : (x.toNat * 7 ^ l.length + m) % 7 ^ l.length = m := by
      rw [Nat.mul_comm, Nat.mul_add_mod, Nat.mod_eq_of_lt h1]
    refine ⟨x.toNat * 7 ^ l.length + m, ?_, ?_⟩
    · rw [List.length_cons, Nat.pow_succ]
      have : x.toNat * 7 ^ l.length ≤ 6 * 7 ^ l.length := Nat.mul_le_mul_right _ (by omega)
      omega
    · show (((x.toNat * 7 ^ l.length + m) / 7 ^ l.length % 7 : Nat) : Int) :: dgs (x.toNat * 7 ^ l.length + m) l.length = x :: l
      rw [hd, Nat.mod_eq_of_lt (by omega), ← dgs_mod l.length, hm, h2]
      congr 1
      omega
theorem dgs_in : ∀ (k m : Nat), ∀ x ∈ dgs m k, 0 ≤ x ∧ x < 7
  | k + 1, m, x, h => by
    rcases List.mem_cons.1 h with rfl | h
    · omega
    · exact dgs_in k m x h
theorem brL_mem {ds : List RelV} {ats : List AtomV} {V : List ByteArray} (p : List Int) : p ∈ brL ds ats V (7 ^ V.length) ↔ p.length = V.length ∧ (∀ x ∈ p, 0 ≤ x ∧ x < 7) ∧ allB ds ats V p = true := by
  unfold brL
  rw [List.mem_map]
  constructor
  · rintro ⟨m, hm, rfl⟩
    exact ⟨dgs_len _ _, dgs_in _ _, (List.mem_filter.1 hm).2⟩
  · rintro ⟨h1, h2, h3⟩
    obtain ⟨m, hm, e⟩ := dgs_all p h2
    rw [h1] at hm e
    exact ⟨m, List.mem_filter.2 ⟨List.mem_range.2 hm, by rw [e]; exact h3⟩, e⟩
theorem brL_sl (ds : List RelV) (ats : List AtomV) (V : List ByteArray) : SL (brL ds ats V (7 ^ V.length)) := by
  unfold brL SL
  refine List.pairwise_map.2 (List.Pairwise.imp_of_mem (fun {a b} ha hb h => ?_) (List.Pairwise.filter _ (List.pairwise_lt_range (n := 7 ^ V.length))))
  exact dgs_lt _ _ _ h (List.mem_range.1 (List.mem_filter.1 hb).1)

theorem valN_skip {V : List ByteArray} {vals : List Int} {t : TermV} : ∀ {n : Nat}, (∀ i, i < n → (t.1.toList == (V.getD i noTx).toList) = false) → valN V vals t n = t.2
  | 0, _ => rfl
  | n + 1, h => by
    show (if t.1.toList == (V.getD n noTx).toList then _ else _) = _
    rw [h n (by omega), if_neg (by decide)]
    exact valN_skip fun i hi => h i (by omega)
theorem valN_at {V : List ByteArray} {vals : List Int} {t : TermV} {v : Nat} : ∀ {n : Nat}, v < n → (t.1.toList == (V.getD v noTx).toList) = true → (∀ i, i < n → i ≠ v → (t.1.toList == (V.getD i noTx).toList) = false) → valN V vals t n = vals.getD v 0
  | n + 1, hv, h, ho => by
    show (if t.1.toList == (V.getD n noTx).toList then _ else _) = _
    by_cases e : n = v
    · rw [e, h, if_pos rfl]
    · rw [ho n (by omega) e, if_neg (by decide)]
      exact valN_at (by omega) h fun i hi hne => ho i (by omega) hne
structure NmG (V : List ByteArray) : Prop where
  inj : ∀ i j, i < V.length → j < V.length → ((V.getD i noTx).toList == (V.getD j noTx).toList) = true → i = j
  ne : ∀ v, v < V.length → (V.getD v noTx).toList.isEmpty = false
theorem val_const {V : List ByteArray} (hV : NmG V) {vals : List Int} {t : TermV} (h : t.1.toList.isEmpty = true) : valT V vals t = t.2 := valN_skip fun i hi => by
  have h1 := hV.ne i hi
  have h2 : t.1.toList = [] := List.isEmpty_iff.1 h
  rw [h2]
  cases e : (V.getD i noTx).toList with
  | nil => rw [e] at h1; cases h1
  | cons a l => rfl
theorem val_var {V : List ByteArray} (hV : NmG V) {vals : List Int} {t : TermV} {v : Nat} (hv : v < V.length) (h : (t.1.toList == (V.getD v noTx).toList) = true) : valT V vals t = vals.getD v 0 := valN_at hv h fun i hi hne => by
  cases e : (t.1.toList == (V.getD i noTx).toList)
  · rfl
  · exfalso
    have h1 := eq_of_beq h
    have h2 := eq_of_beq e
    exact hne (hV.inj i v hi hv (by rw [← h2, ← h1]; exact beq_self_eq_true _))
def atV (V : List ByteArray) (ts : List TermV) (p : List Int) : List Int := (vrs V ts).map fun v => p.getD v 0
theorem vrs_memF {V : List ByteArray} {ts : List TermV} {v : Nat} : v ∈ vrs V ts ↔ v < V.length ∧ (lastO ts ts.length (V.getD v noTx)).isSome = true := by
  unfold vrs
  rw [List.mem_filter, List.mem_range]
theorem row_iff {V : List ByteArray} (hV : NmG V) {ts : List TermV} {row p : List Int} (hall : ∀ i, i < ts.length → (ts.getD i noTm).1.toList.isEmpty = false → hasT V (ts.getD i noTm).1 = true) :
    trmB V p ts row ts.length = true ↔ fitB ts row = true ∧ atP row (colP V ts) = atV V ts p := by
  have hcol : atP row (colP V ts) = (vrs V ts).map fun v => row.getD ((lastO ts ts.length (V.getD v noTx)).getD 0) 0 := by
    unfold atP colP
    rw [List.map_map]
    rfl
  have hvar : ∀ i, i < ts.length → (ts.getD i noTm).1.toList.isEmpty = false → ∃ v, v < V.length ∧ ((ts.getD i noTm).1.toList == (V.getD v noTx).toList) = true := fun i hi he => by
    obtain ⟨v, hv, e⟩ := hasT_ix (hall i hi he)
    exact ⟨v, hv, by rw [e]; exact beq_self_eq_true _⟩
  have hT : trmB V p ts row ts.length = true ↔ ∀ j, j < ts.length → row.getD j 0 = valT V p (ts.getD j noTm) := by
    unfold trmB
    rw [List.all_eq_true]
    exact ⟨fun h j hj => of_decide_eq_true (h j (List.mem_range.2 hj)), fun h j hj => decide_eq_true (h j (List.mem_range.1 hj))⟩
  rw [hT, hcol]
  unfold atV
  constructor
  · intro h
    refine ⟨fitB_true fun i hi => ?_, List.map_congr_left fun v hv => ?_⟩
    · cases he : (ts.getD i noTm).1.toList.isEmpty
      · refine fitAt_var he fun j hj hs => ?_
        obtain ⟨v, hv, e⟩ := hvar i hi he
        rw [h i hi, h j hj, val_var hV hv e, val_var hV hv (by rw [eq_of_beq hs]; exact e)]
      · rw [fitAt_const he]
        exact decide_eq_true (by rw [h i hi, val_const hV he])
    · obtain ⟨hv1, hv2⟩ := vrs_memF.1 hv
      obtain ⟨q, hq⟩ := Option.isSome_iff_exists.1 hv2
      rw [hq, Option.getD_some, h q (lastO_lt hq), val_var hV hv1 (lastO_is hq)]
  · rintro ⟨hf, hc⟩ j hj
    have hfj := fitB_at hf hj
    cases he : (ts.getD j noTm).1.toList.isEmpty
    · obtain ⟨v, hv, e⟩ := hvar j hj he
      have hs := lastO_some (ts := ts) (x := V.getD v noTx) hj e
      obtain ⟨q, hq⟩ := Option.isSome_iff_exists.1 hs
      have h1 := List.map_inj_left.1 hc v (vrs_memF.2 ⟨hv, hs⟩)
      rw [hq, Option.getD_some] at h1
      rw [val_var hV hv e, ← h1]
      exact fitAt_same hfj he (lastO_lt hq) (by rw [eq_of_beq (lastO_is hq), eq_of_beq e]; exact beq_self_eq_true _)
    · rw [fitAt_const he] at hfj
      rw [of_decide_eq_true hfj, val_const hV he]

end Go.Proofs.YtoodbpijgnbfjaaGreat
