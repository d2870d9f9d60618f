import Derived.Test.YtnbbbbfamlmfpaaGreatJn23
import Derived.Test.YtnbbbbfamlmfpaaGreatJn28
/-
  A side's next values as a function of its rows. Plain mathematics.
-/
namespace Go.Proofs.YtnbbbbfamlmfpaaGreat

def kA (R : List (List Int)) (q : List Int) : Nat := R.findIdx fun r => !decide (cmpL (r.take q.length) q < 0)
def nA (R : List (List Int)) (q : List Int) : Nat := (R.drop (kA R q)).findIdx fun r => !decide (r.take q.length = q)
/-- the next values behind q, in rows of m values -/
def nN (m : Nat) (R : List (List Int)) (q : List Int) : List Int := if q.length < m then VA R q (kA R q) (nA R q) else []
section
variable {R : List (List Int)} {q : List Int}
theorem kA_sk (hS : SL R) : Sk R q (kA R q) := by
  have hle : kA R q ≤ R.length := List.findIdx_le_length
  have hlo : ∀ j, j < kA R q → cmpL ((R.getD j []).take q.length) q < 0 := fun j hj => by
    have := List.not_of_lt_findIdx hj
    rw [Bool.not_eq_false', decide_eq_true_eq] at this
    rw [List.getD_eq_getElem?_getD, List.getElem?_eq_getElem (by omega)]
    exact this
  refine ⟨hle, hlo, fun j h1 h2 hc => ?_⟩
  have h3 : kA R q < R.length := by omega
  have h4 := List.findIdx_getElem (w := h3)
  rw [Bool.not_eq_true', decide_eq_false_iff_not] at h4
  refine h4 ?_
  have := sk_down hS h1 h2 hc
  rw [List.getD_eq_getElem?_getD, List.getElem?_eq_getElem h3] at this
  exact this
theorem nA_run : Run R q (kA R q) (nA R q) := by
  have hle : nA R q ≤ (R.drop (kA R q)).length := List.findIdx_le_length
  rw [List.length_drop] at hle
  have hk : kA R q ≤ R.length := List.findIdx_le_length
  refine ⟨by omega, fun j hj => ?_⟩
  have := List.not_of_lt_findIdx hj
  rw [Bool.not_eq_false', decide_eq_true_eq, List.getElem_drop] at this
  rw [List.getD_eq_getElem?_getD, List.getElem?_eq_getElem (by omega)]
  exact this
theorem nA_end (h : kA R q + nA R q < R.length) : (R.getD (kA R q + nA R q) []).take q.length ≠ q := by
  have h1 : nA R q < (R.drop (kA R q)).length := by rw [List.length_drop]; omega
  have h2 : (!decide (((R.drop (kA R q))[nA R q]'h1).take q.length = q)) = true := List.findIdx_getElem (w := h1)
  rw [Bool.not_eq_true', decide_eq_false_iff_not, List.getElem_drop] at h2
  rw [List.getD_eq_getElem?_getD, List.getElem?_eq_getElem h]
  exact h2
theorem run_uniq (hS : SL R) {k n : Nat} (hk : Sk R q k) (h : Run R q k n) (hE : k + n < R.length → (R.getD (k + n) []).take q.length ≠ q) : k = kA R q ∧ n = nA R q := by
  have h1 := kA_sk (q := q) hS
  have hkk : k = kA R q := by
    rcases Nat.lt_trichotomy k (kA R q) with h2 | h2 | h2
    · exact absurd (h1.lo k h2) (hk.hi k (Nat.le_refl _) (by have := h1.le; omega))
    · exact h2
    · exact absurd (hk.lo _ h2) (h1.hi _ (Nat.le_refl _) (by have := hk.le; omega))
  subst hkk
  refine ⟨rfl, ?_⟩
  have h3 := nA_run (R := R) (q := q)
  rcases Nat.lt_trichotomy n (nA R q) with h2 | h2 | h2
  · exact absurd (h3.beg n h2) (hE (by have := h3.le; omega))
  · exact h2
  · exact absurd (h.beg _ h2) (nA_end (by have := h.le; omega))
end
theorem nN_tm {m : Nat} {R : List (List Int)} (hS : SL R) (hl : ∀ r ∈ R, r.length = m) : TM R (fun p => p = [] ∨ ∃ r ∈ R, p <+: r) (nN m R) := by
  refine ⟨fun p => Iff.rfl, fun p _ x => ?_, fun p _ => ?_⟩
  · unfold nN
    by_cases h : p.length < m
    · rw [if_pos h, VA_all hS (fun r hr => by rw [hl r hr]; exact h) (kA_sk hS) nA_run nA_end]
      constructor
      · exact Or.inr
      · rintro (h1 | h1)
        · simp at h1
        · exact h1
    · rw [if_neg h]
      constructor
      · intro h1; cases h1
      · rintro (h1 | ⟨r, hr, h1⟩)
        · simp at h1
        · have := h1.length_le
          rw [List.length_append, List.length_singleton, hl r hr] at this
          omega
  · unfold nN
    by_cases h : p.length < m
    · rw [if_pos h]
      exact VA_asc hS (fun r hr => by rw [hl r hr]; exact h) _ nA_run
    · rw [if_neg h]; exact List.Pairwise.nil
/-- a side of a join in the model's memory: columns, rows -/
structure SdM where
  vars : List Int
  rows : List (List Int)
def noSd : SdM := ⟨[], []⟩
def sdO (o : List Int) (s : SdM) : Sd := ⟨hasO o s.vars, s.rows, nN s.vars.length s.rows⟩
structure SdM.Ok (s : SdM) : Prop where
  sl : SL s.rows
  len : ∀ r ∈ s.rows, r.length = s.vars.length
theorem sdO_ok {o : List Int} {s : SdM} (h : s.Ok) : (sdO o s).Ok := ⟨nN_tm h.sl h.len⟩
theorem begB_iff {R : List (List Int)} {q : List Int} : begB R q = true ↔ ∃ r ∈ R, q <+: r := by
  unfold begB
  rw [List.any_eq_true]
  constructor
  · rintro ⟨r, hr, h⟩
    refine ⟨r, hr, ?_⟩
    rw [← of_decide_eq_true h]
    exact List.take_prefix _ _
  · rintro ⟨r, hr, t, ht⟩
    exact ⟨r, hr, decide_eq_true (by rw [← ht, List.take_left])⟩

end Go.Proofs.YtnbbbbfamlmfpaaGreat
