import Derived.Test.YtcdfoephhjacdaaGreatDoorR03
import Derived.Test.YtcdfoephhjacdaaGreatDoorR04
import Derived.Test.YtcdfoephhjacdaaGreatDoorR05
import Derived.Test.YtcdfoephhjacdaaGreatDoorR06
import Derived.Test.YtcdfoephhjacdaaGreatDoorR08
/-
  Drawn data as a function of the code: plain mathematics.
-/
namespace Go.Proofs.YtcdfoephhjacdaaGreatDoor
open Go.RowKit

theorem FndA.uniq {ls : List (List Int)} {row : List Int} {k k' : Nat} {b b' : Bool} (h : FndA ls row k b) (h' : FndA ls row k' b') : k = k' ∧ b = b' := by
  have e : k = k' := by
    rcases Nat.lt_trichotomy k k' with h1 | h1 | h1
    · exact absurd (h'.2.1 k h1) (h.2.2.1 (Nat.lt_of_lt_of_le h1 h'.1))
    · exact h1
    · exact absurd (h.2.1 k' h1) (h'.2.2.1 (Nat.lt_of_lt_of_le h1 h.1))
  subst e
  refine ⟨rfl, ?_⟩
  have := h.2.2.2.trans h'.2.2.2.symm
  cases b <;> cases b' <;> simp_all
def fndK (ls : List (List Int)) (row : List Int) : Nat := ls.findIdx fun r => decide (¬ cmpL r row < 0)
def fndB (ls : List (List Int)) (row : List Int) : Bool := decide (fndK ls row < ls.length ∧ cmpL (ls.getD (fndK ls row) []) row = 0)
theorem fnd_is (ls : List (List Int)) (row : List Int) : FndA ls row (fndK ls row) (fndB ls row) := by
  refine ⟨List.findIdx_le_length, fun i hi => ?_, fun hk => ?_, by unfold fndB; rw [decide_eq_true_iff]⟩
  · have hl : i < ls.length := Nat.lt_of_lt_of_le hi List.findIdx_le_length
    have := List.not_of_lt_findIdx hi
    rw [List.getD_eq_getElem?_getD, List.getElem?_eq_getElem hl, Option.getD_some]
    simpa using this
  · have := List.findIdx_getElem (w := hk)
    rw [List.getD_eq_getElem?_getD, List.getElem?_eq_getElem hk, Option.getD_some]
    simpa [fndK] using this
def Srt (ls : List (List Int)) : Prop := ls.Pairwise fun a b => cmpL a b < 0
theorem Srt.at {ls : List (List Int)} (h : Srt ls) {i j : Nat} (hij : i < j) (hj : j < ls.length) : cmpL (ls.getD i []) (ls.getD j []) < 0 := by
  have := List.pairwise_iff_getElem.1 h i j (by omega) hj hij
  rw [List.getD_eq_getElem?_getD, List.getElem?_eq_getElem (show i < ls.length by omega), List.getD_eq_getElem?_getD, List.getElem?_eq_getElem hj]
  exact this
theorem Srt.put {ls : List (List Int)} {row : List Int} {k : Nat} {b : Bool} (h : Srt ls) (hf : FndA ls row k b) : Srt (putL ls k b row) := by
  obtain ⟨f1, f2, f3, f4⟩ := hf
  have hlo : ∀ x ∈ ls.take k, cmpL x row < 0 := fun x hx => by
    obtain ⟨i, hi, rfl⟩ := List.getElem_of_mem hx
    rw [List.length_take] at hi
    have := f2 i (by omega)
    rw [List.getD_eq_getElem?_getD, List.getElem?_eq_getElem (show i < ls.length by omega), Option.getD_some] at this
    rw [List.getElem_take]
    exact this
  have hhi : ∀ x ∈ ls.drop (afterK k b), cmpL row x < 0 := fun x hx => by
    obtain ⟨i, hi, rfl⟩ := List.getElem_of_mem hx
    rw [List.length_drop] at hi
    rw [List.getElem_drop]
    have hil : afterK k b + i < ls.length := by omega
    have eg : ls[afterK k b + i] = ls.getD (afterK k b + i) [] := by rw [List.getD_eq_getElem?_getD, List.getElem?_eq_getElem hil]; rfl
    rw [eg]
    cases b with
    | true =>
      obtain ⟨g1, g2⟩ := f4.1 rfl
      have e := cmpL_eq g2
      rw [← e]
      exact h.at (by show k < k + 1 + i; omega) hil
    | false =>
      have hk : k < ls.length := by have : afterK k false = k := rfl; omega
      have hne : ¬ cmpL (ls.getD k []) row = 0 := fun e => by have := f4.2 ⟨hk, e⟩; cases this
      have hlt : cmpL row (ls.getD k []) < 0 := by
        have := f3 hk
        rw [cmpL_neg]
        omega
      show cmpL row (ls.getD (k + i) []) < 0
      by_cases hi0 : i = 0
      · subst hi0; exact hlt
      · exact cmpL_trans hlt (h.at (by omega) (by have : afterK k false = k := rfl; omega))
  unfold putL Srt
  rw [List.pairwise_append, List.pairwise_append]
  refine ⟨⟨h.sublist (List.take_sublist _ _), List.pairwise_singleton _ _, fun x hx y hy => by rw [List.mem_singleton.1 hy]; exact hlo x hx⟩, h.sublist (List.drop_sublist _ _), fun x hx y hy => ?_⟩
  rw [List.mem_append, List.mem_singleton] at hx
  rcases hx with hx | rfl
  · exact cmpL_trans (hlo x hx) (hhi y hy)
  · exact hhi y hy
theorem put_all {α : Type} {P : α → Prop} {l : List α} {x : α} {k : Nat} {b : Bool} (h : ∀ y ∈ l, P y) (hx : P x) : ∀ y ∈ putL l k b x, P y := fun y hy => by
  unfold putL at hy
  rw [List.mem_append, List.mem_append, List.mem_singleton] at hy
  rcases hy with (hy | rfl) | hy
  · exact h y (List.mem_of_mem_take hy)
  · exact hx
  · exact h y (List.mem_of_mem_drop hy)
theorem put_len {α : Type} {l : List α} {x : α} {k : Nat} {b : Bool} (hk : k ≤ l.length) : (putL l k b x).length ≤ l.length + 1 := by
  rw [putL_len l b x hk]
  unfold afterK
  split <;> omega
theorem put_same {α β : Type} {l : List α} {m : List β} {x : α} {y : β} {k : Nat} {b : Bool} (h : l.length = m.length) : (putL l k b x).length = (putL m k b y).length := by
  unfold putL
  simp only [List.length_append, List.length_take, List.length_drop, List.length_singleton, h]

section
variable (L : Nat → Int) (n : Nat)
/-- a row of k values -/
def drwR (span : Nat) : Nat → CSt → List Int × CSt
  | 0, s => ([], s)
  | k + 1, s => ((drwR span k s).1 ++ [((pkF L n span (drwR span k s).2).1 : Int)], (pkF L n span (drwR span k s).2).2)
/-- k rows, one after another put in -/
def rowsF (span ar : Nat) : Nat → CSt → (List (List Int) × List Int) × CSt
  | 0, s => (([], []), s)
  | k + 1, s =>
    let p := rowsF span ar k s
    let r := drwR L n span ar p.2
    ((putL p.1.1 (fndK p.1.1 r.1) (fndB p.1.1 r.1) r.1, putL p.1.2 (fndK p.1.1 r.1) (fndB p.1.1 r.1) (wtD L n r.2)), (pkF L n 11 r.2).2)
end
theorem drwR_len (L : Nat → Int) (n span : Nat) (s : CSt) : ∀ k, (drwR L n span k s).1.length = k
  | 0 => rfl
  | k + 1 => by rw [drwR, List.length_append, drwR_len L n span s k]; rfl
theorem drwR_in (L : Nat → Int) (n span : Nat) (s : CSt) (hs : span ≤ 256) : ∀ k, ∀ x ∈ (drwR L n span k s).1, 0 ≤ x ∧ x ≤ 1000000
  | 0, x, hx => by simp [drwR] at hx
  | k + 1, x, hx => by
    rw [drwR, List.mem_append, List.mem_singleton] at hx
    rcases hx with hx | rfl
    · exact drwR_in L n span s hs k x hx
    · rcases pkF_lt (L := L) (n := n) (m := span) (s := (drwR L n span k s).2) with h | h <;> omega
theorem drwR_at (L : Nat → Int) (n span : Nat) (s : CSt) : ∀ k, (drwR L n span k s).2.1 ≤ s.1 + k
  | 0 => Nat.le_refl _
  | k + 1 => by
    have h1 := drwR_at L n span s k
    have h2 := pkF_at L n span (drwR L n span k s).2
    show (pkF L n span (drwR L n span k s).2).2.1 ≤ _
    omega
/-- what drawn rows are like -/
structure RowsG (ar m : Nat) (p : List (List Int) × List Int) : Prop where
  srt : Srt p.1
  len : ∀ r ∈ p.1, r.length = ar
  val : ∀ r ∈ p.1, ∀ x ∈ r, 0 ≤ x ∧ x ≤ 1000000
  few : p.1.length ≤ m
  ws : p.2.length = p.1.length
  wt : ∀ x ∈ p.2, -1000000 ≤ x ∧ x ≤ 1000000
theorem rowsF_good (L : Nat → Int) (n span ar : Nat) (s : CSt) (hs : span ≤ 256) : ∀ k, RowsG ar k (rowsF L n span ar k s).1
  | 0 => ⟨List.Pairwise.nil, fun r hr => by simp [rowsF] at hr, fun r hr => by simp [rowsF] at hr, Nat.le_refl _, rfl, fun x hx => by simp [rowsF] at hx⟩
  | k + 1 => by
    have h := rowsF_good L n span ar s hs k
    rw [rowsF]
    dsimp only
    generalize (rowsF L n span ar k s).1 = p at *
    have hr1 := drwR_len L n span (rowsF L n span ar k s).2 ar
    have hr2 := drwR_in L n span (rowsF L n span ar k s).2 hs ar
    generalize drwR L n span ar (rowsF L n span ar k s).2 = r at *
    have hf := fnd_is p.1 r.1
    exact ⟨h.srt.put hf, put_all h.len hr1, put_all h.val hr2, Nat.le_trans (put_len hf.1) (by have := h.few; omega), put_same h.ws, put_all h.wt (wtD_in L n r.2)⟩
theorem rowsF_at (L : Nat → Int) (n span ar : Nat) (s : CSt) : ∀ k, (rowsF L n span ar k s).2.1 ≤ s.1 + k * (ar + 1)
  | 0 => by show s.1 ≤ _; omega
  | k + 1 => by
    have h1 := rowsF_at L n span ar s k
    have h2 := drwR_at L n span (rowsF L n span ar k s).2 ar
    have h3 := pkF_at L n 11 (drwR L n span ar (rowsF L n span ar k s).2).2
    show (pkF L n 11 (drwR L n span ar (rowsF L n span ar k s).2).2).2.1 ≤ _
    rw [Nat.add_mul]
    omega

end Go.Proofs.YtcdfoephhjacdaaGreatDoor

/-
  Drawn relations, drawn data: plain mathematics.
-/
namespace Go.Proofs.YtcdfoephhjacdaaGreatDoor
open Go.RowKit

def nmD : List ByteArray := [⟨#[101]⟩, ⟨#[102]⟩, ⟨#[103]⟩, ⟨#[98, 105, 103, 95, 49]⟩, ⟨#[82, 50]⟩]
def arsD : List Nat := [2, 2, 1, 3]
section
variable (L : Nat → Int) (n : Nat)
def arD (i : Nat) (s : CSt) : Nat := if i = 0 then 2 else arsD.getD (pkF L n 4 s).1 0
def cntD (s : CSt) : Nat := if (pkF L n 12 (pkF L n 11 s).2).1 = 11 then 0 else 4 + (pkF L n 11 s).1
def relRw (span i : Nat) (s : CSt) : (List (List Int) × List Int) × CSt := rowsF L n span (arD L n i s) (cntD L n (pkF L n 4 s).2) (pkF L n 12 (pkF L n 11 (pkF L n 4 s).2).2).2
def relF (span i : Nat) (s : CSt) : RelV := ⟨nmD.getD i ⟨#[]⟩, (arD L n i s : Int), (relRw L n span i s).1.1, (relRw L n span i s).1.2⟩
def datF (span : Nat) : Nat → CSt → List RelV × CSt
  | 0, s => ([], s)
  | i + 1, s => ((datF span i s).1 ++ [relF L n span i (datF span i s).2], (relRw L n span i (datF span i s).2).2)
def numD (s : CSt) : Nat := 1 + (pkF L n 4 s).1
def spanD (s : CSt) : Nat := if (pkF L n 4 (pkF L n 2 s).2).1 = 3 then 3 + (pkF L n 4 (pkF L n 4 (pkF L n 2 s).2).2).1 else 2 + (pkF L n 2 s).1
def spanE (s : CSt) : CSt := if (pkF L n 4 (pkF L n 2 s).2).1 = 3 then (pkF L n 4 (pkF L n 4 (pkF L n 2 s).2).2).2 else (pkF L n 4 (pkF L n 2 s).2).2
/-- drawn data, and where the reader is then -/
def drawD (s : CSt) : List RelV × CSt := datF L n (spanD L n (pkF L n 4 s).2) (numD L n s) (spanE L n (pkF L n 4 s).2)
end
theorem pk_lt (L : Nat → Int) (n m : Nat) (s : CSt) (h : 0 < m) : (pkF L n m s).1 < m := by
  rcases pkF_lt (L := L) (n := n) (m := m) (s := s) with h1 | h1 <;> omega
theorem arD_in (L : Nat → Int) (n i : Nat) (s : CSt) : 1 ≤ arD L n i s ∧ arD L n i s ≤ 3 := by
  unfold arD
  split
  · omega
  · have hz := pk_lt L n 4 s (by omega)
    generalize (pkF L n 4 s).1 = z at *
    have : ∀ z : Fin 4, 1 ≤ arsD.getD z.1 0 ∧ arsD.getD z.1 0 ≤ 3 := by decide
    exact this ⟨z, hz⟩
theorem cntD_le (L : Nat → Int) (n : Nat) (s : CSt) : cntD L n s ≤ 14 := by
  unfold cntD
  have := pk_lt L n 11 s (by omega)
  split <;> omega
theorem relRw_good (L : Nat → Int) (n span i : Nat) (s : CSt) (hs : span ≤ 256) : RowsG (arD L n i s) 14 (relRw L n span i s).1 := by
  have h := rowsF_good L n span (arD L n i s) (pkF L n 12 (pkF L n 11 (pkF L n 4 s).2).2).2 hs (cntD L n (pkF L n 4 s).2)
  exact ⟨h.srt, h.len, h.val, Nat.le_trans h.few (cntD_le L n _), h.ws, h.wt⟩
theorem nmD_ok : ∀ i : Nat, i < 5 → relName (nmD.getD i ⟨#[]⟩) = true
  | 0, _ => by unfold relName; rw [ByteArray.toList_eq]; decide
  | 1, _ => by unfold relName; rw [ByteArray.toList_eq]; decide
  | 2, _ => by unfold relName; rw [ByteArray.toList_eq]; decide
  | 3, _ => by unfold relName; rw [ByteArray.toList_eq]; decide
  | 4, _ => by unfold relName; rw [ByteArray.toList_eq]; decide
  | i + 5, h => by omega
theorem nmD_ne : ∀ i j : Nat, i < j → j < 5 → nmD.getD i ⟨#[]⟩ ≠ nmD.getD j ⟨#[]⟩ := fun i j hij hj => by
  have : ∀ j : Fin 5, ∀ i : Fin 5, i.1 < j.1 → (nmD.getD i.1 ⟨#[]⟩).data ≠ (nmD.getD j.1 ⟨#[]⟩).data := by decide
  exact fun e => this ⟨j, hj⟩ ⟨i, by omega⟩ hij (congrArg ByteArray.data e)
theorem rows_ok {ar m : Nat} {p : List (List Int) × List Int} (h : RowsG ar m p) : rowsB p.1 (ar : Int) = true := by
  refine rowsB_true fun i hi => ?_
  unfold rowAt
  rw [Bool.and_eq_true, Bool.or_eq_true, decide_eq_true_eq, decide_eq_true_eq, decide_eq_true_eq]
  refine ⟨?_, ?_⟩
  · have hm : p.1.getD i [] ∈ p.1 := by rw [List.getD_eq_getElem?_getD, List.getElem?_eq_getElem hi]; exact List.getElem_mem hi
    rw [h.len _ hm]
  · by_cases e : i = 0
    · exact Or.inl e
    · exact Or.inr (h.srt.at (by omega) hi)
theorem relF_ok (L : Nat → Int) (n span i : Nat) (s : CSt) (hs : span ≤ 256) (hi : i < 5) : relB (relF L n span i s) = true := by
  have h := relRw_good L n span i s hs
  have h1 := arD_in L n i s
  unfold relB relF arityB
  simp only [Bool.and_eq_true, decide_eq_true_eq, List.all_eq_true]
  refine ⟨⟨⟨⟨⟨⟨nmD_ok i hi, by omega, by omega⟩, by have := h.few; omega⟩, rows_ok h⟩, fun r hr x hx => ?_⟩, h.ws⟩, fun x hx => ?_⟩
  · have := h.val r hr x hx
    unfold valB
    simp only [Bool.and_eq_true, decide_eq_true_eq]
    exact this
  · have := h.wt x hx
    unfold wtB
    simp only [Bool.and_eq_true, decide_eq_true_eq]
    exact this
/-- what drawn relations are like -/
structure DatG (k : Nat) (ds : List RelV) : Prop where
  len : ds.length = k
  rel : ∀ i, i < k → relB (ds.getD i noRel) = true
  nm : ∀ i, i < k → (ds.getD i noRel).name = nmD.getD i ⟨#[]⟩
  few : ∀ i, i < k → (ds.getD i noRel).rows.length ≤ 14
theorem datF_good (L : Nat → Int) (n span : Nat) (s : CSt) (hs : span ≤ 256) : ∀ k, k ≤ 5 → DatG k (datF L n span k s).1
  | 0, _ => ⟨rfl, fun i hi => absurd hi (Nat.not_lt_zero _), fun i hi => absurd hi (Nat.not_lt_zero _), fun i hi => absurd hi (Nat.not_lt_zero _)⟩
  | k + 1, hk => by
    have h := datF_good L n span s hs k (by omega)
    have hr := relF_ok L n span k (datF L n span k s).2 hs (by omega)
    have hg := relRw_good L n span k (datF L n span k s).2 hs
    rw [datF]
    dsimp only
    have hlen := h.len
    have hget : ∀ i, i < k → ((datF L n span k s).1 ++ [relF L n span k (datF L n span k s).2]).getD i noRel = (datF L n span k s).1.getD i noRel := fun i hi => by rw [List.getD_eq_getElem?_getD, List.getElem?_append_left (by omega), ← List.getD_eq_getElem?_getD]
    have hnew : ((datF L n span k s).1 ++ [relF L n span k (datF L n span k s).2]).getD k noRel = relF L n span k (datF L n span k s).2 := by rw [List.getD_eq_getElem?_getD, List.getElem?_append_right (by omega), hlen, Nat.sub_self]; rfl
    refine ⟨by rw [List.length_append, hlen]; rfl, fun i hi => ?_, fun i hi => ?_, fun i hi => ?_⟩
    all_goals
      by_cases e : i < k
      · rw [hget i e]
        first | exact h.rel i e | exact h.nm i e | exact h.few i e
      · obtain rfl : i = k := by omega
        rw [hnew]
        first | exact hr | rfl | exact hg.few
theorem DatG.ok {k : Nat} {ds : List RelV} (h : DatG k ds) (hk : k ≤ 5) : dataB ds = true := by
  refine dataB_true (by have := h.len; omega) fun i hi => ?_
  rw [h.len] at hi
  unfold relAtB
  rw [Bool.and_eq_true]
  refine ⟨h.rel i hi, ?_⟩
  rw [Bool.not_eq_true']
  unfold namedB
  rw [List.any_eq_false]
  intro j hj
  rw [List.mem_range] at hj
  rw [decide_eq_true_eq, h.nm i hi, h.nm j (by omega)]
  exact nmD_ne j i hj (by omega)
theorem drawD_ok (L : Nat → Int) (n : Nat) (s : CSt) : DatG (numD L n s) (drawD L n s).1 ∧ 1 ≤ numD L n s ∧ numD L n s ≤ 4 := by
  have h1 := pk_lt L n 4 s (by omega)
  have h2 : spanD L n (pkF L n 4 s).2 ≤ 256 := by
    unfold spanD
    have a1 := pk_lt L n 4 (pkF L n 4 (pkF L n 2 (pkF L n 4 s).2).2).2 (by omega)
    have a2 := pk_lt L n 2 (pkF L n 4 s).2 (by omega)
    split <;> omega
  unfold drawD numD
  exact ⟨datF_good L n _ _ h2 _ (by omega), by omega, by omega⟩

end Go.Proofs.YtcdfoephhjacdaaGreatDoor

/-
  A drawn query as a function of the code: plain mathematics (atoms; the head is put in later).
-/
namespace Go.Proofs.YtcdfoephhjacdaaGreatDoor
open Go.RowKit

def vnQ : List ByteArray := [⟨#[120]⟩, ⟨#[121]⟩, ⟨#[122]⟩, ⟨#[119]⟩, ⟨#[117, 95, 49]⟩, ⟨#[84]⟩]
def noB : ByteArray := ⟨#[]⟩
theorem vnQ_ok : ∀ i : Nat, i < 6 → nameB (vnQ.getD i noB) = true
  | 0, _ => by decide
  | 1, _ => by decide
  | 2, _ => by decide
  | 3, _ => by decide
  | 4, _ => by decide
  | 5, _ => by decide
  | i + 6, h => by omega
section
variable (L : Nat → Int) (n : Nat)
/-- the first i atoms of a ring of m variables over the relation nm -/
def ringQ (nm : ByteArray) (m : Nat) : Nat → CSt → List AtomV × CSt
  | 0, s => ([], s)
  | i + 1, s =>
    let p := ringQ nm m i s
    let a : TermV := (vnQ.getD i noB, 0)
    let b : TermV := (vnQ.getD ((i + 1) % m) noB, 0)
    (p.1 ++ [(nm, if (pkF L n 3 p.2).1 = 2 then [b, a] else [a, b])], (pkF L n 3 p.2).2)
/-- a variable's name: drawn; or the last used; or, at the very end, the first used -/
def varQ1 (k j : Nat) (used : List ByteArray) (s : CSt) : ByteArray × CSt :=
  let v := vnQ.getD (pkF L n k s).1 noB
  let s1 := (pkF L n k s).2
  if j = 0 ∧ 0 < used.length then (if 0 < (pkF L n 3 s1).1 then used.getD (used.length - 1) noB else v, (pkF L n 3 s1).2) else (v, s1)
def varQ (k j : Nat) (last : Bool) (used : List ByteArray) (s : CSt) : ByteArray × CSt :=
  let p := varQ1 L n k j used s
  if last = true ∧ 0 < used.length then (if (pkF L n 3 p.2).1 = 0 then used.getD 0 noB else p.1, (pkF L n 3 p.2).2) else p
/-- the first j terms of an atom: terms, used, where -/
def termsQ (k ar : Nat) (lastA : Bool) : Nat → List ByteArray → CSt → List TermV × List ByteArray × CSt
  | 0, used, s => ([], used, s)
  | j + 1, used, s =>
    let p := termsQ k ar lastA j used s
    if (pkF L n 14 p.2.2).1 = 13 then (p.1 ++ [(noB, ((pkF L n 3 (pkF L n 14 p.2.2).2).1 : Int))], p.2.1, (pkF L n 3 (pkF L n 14 p.2.2).2).2)
    else
      let v := varQ L n k j (lastA && decide (j + 1 = ar)) p.2.1 (pkF L n 14 p.2.2).2
      (p.1 ++ [(v.1, 0)], p.2.1 ++ [v.1], v.2)
end
def Usd (used : List ByteArray) : Prop := ∀ x ∈ used, nameB x = true
theorem usd_at {used : List ByteArray} (h : Usd used) {i : Nat} (hi : i < used.length) : nameB (used.getD i noB) = true := by
  rw [List.getD_eq_getElem?_getD, List.getElem?_eq_getElem hi, Option.getD_some]
  exact h _ (List.getElem_mem hi)
theorem varQ1_ok (L : Nat → Int) (n k j : Nat) (used : List ByteArray) (s : CSt) (hk : 0 < k) (hk6 : k ≤ 6) (hu : Usd used) : nameB (varQ1 L n k j used s).1 = true := by
  have hv := vnQ_ok (pkF L n k s).1 (by have := pk_lt L n k s hk; omega)
  unfold varQ1
  dsimp only
  split
  · rename_i h
    show nameB (if _ then _ else _) = true
    split
    · exact usd_at hu (by omega)
    · exact hv
  · exact hv
theorem varQ_ok (L : Nat → Int) (n k j : Nat) (last : Bool) (used : List ByteArray) (s : CSt) (hk : 0 < k) (hk6 : k ≤ 6) (hu : Usd used) : nameB (varQ L n k j last used s).1 = true := by
  have hv := varQ1_ok L n k j used s hk hk6 hu
  unfold varQ
  dsimp only
  split
  · rename_i h
    show nameB (if _ then _ else _) = true
    split
    · exact usd_at hu h.2
    · exact hv
  · exact hv
theorem name_term {x : ByteArray} (h : nameB x = true) : termB (x, 0) = true := by
  unfold termB
  have hne : x.toList.isEmpty = false := by
    unfold nameB at h
    simp only [Bool.and_eq_true, decide_eq_true_eq] at h
    rw [ByteArray.toList_eq]
    cases e : x.data.toList with
    | nil =>
      have hl : x.data.toList.length = x.size := by simp
      rw [e] at hl
      simp at hl
      omega
    | cons a l => rfl
  rw [hne]
  simp [h]
theorem num_term {z : Nat} (h : z ≤ 1000000) : termB (noB, (z : Int)) = true := by
  unfold termB
  have : noB.toList.isEmpty = true := by rw [ByteArray.toList_eq]; rfl
  rw [if_pos this]
  simp only [Bool.and_eq_true, decide_eq_true_eq]
  omega
theorem termsQ_ok (L : Nat → Int) (n k ar : Nat) (la : Bool) (used : List ByteArray) (s : CSt) (hk : 0 < k) (hk6 : k ≤ 6) (hu : Usd used) : ∀ j, (termsQ L n k ar la j used s).1.length = j ∧ (∀ t ∈ (termsQ L n k ar la j used s).1, termB t = true) ∧ Usd (termsQ L n k ar la j used s).2.1
  | 0 => ⟨rfl, fun t ht => by simp [termsQ] at ht, hu⟩
  | j + 1 => by
    obtain ⟨h1, h2, h3⟩ := termsQ_ok L n k ar la used s hk hk6 hu j
    rw [termsQ]
    dsimp only
    split
    · refine ⟨by rw [List.length_append, h1]; rfl, fun t ht => ?_, h3⟩
      rw [List.mem_append, List.mem_singleton] at ht
      rcases ht with ht | rfl
      · exact h2 t ht
      · exact num_term (by have := pk_lt L n 3 (pkF L n 14 (termsQ L n k ar la j used s).2.2).2 (by omega); omega)
    · have hv := varQ_ok L n k j (la && decide (j + 1 = ar)) (termsQ L n k ar la j used s).2.1 (pkF L n 14 (termsQ L n k ar la j used s).2.2).2 hk hk6 h3
      refine ⟨by rw [List.length_append, h1]; rfl, fun t ht => ?_, fun x hx => ?_⟩
      · rw [List.mem_append, List.mem_singleton] at ht
        rcases ht with ht | rfl
        · exact h2 t ht
        · exact name_term hv
      · rw [List.mem_append, List.mem_singleton] at hx
        rcases hx with hx | rfl
        · exact h3 x hx
        · exact hv

end Go.Proofs.YtcdfoephhjacdaaGreatDoor

/-
  A drawn query's atoms: plain mathematics.
-/
namespace Go.Proofs.YtcdfoephhjacdaaGreatDoor
open Go.RowKit

section
variable (L : Nat → Int) (n : Nat)
/-- the first i of cnt atoms over the data: atoms, used names, where -/
def atomsQ (ds : List RelV) (k cnt : Nat) : Nat → List ByteArray → CSt → List AtomV × List ByteArray × CSt
  | 0, used, s => ([], used, s)
  | i + 1, used, s =>
    let p := atomsQ ds k cnt i used s
    let r := ds.getD (pkF L n ds.length p.2.2).1 noRel
    let t := termsQ L n k r.ar.toNat (decide (i + 1 = cnt)) r.ar.toNat p.2.1 (pkF L n ds.length p.2.2).2
    (p.1 ++ [(r.name, t.1)], t.2.1, t.2.2)
end
theorem rel_parts {r : RelV} (h : relB r = true) : nameB r.name = true ∧ 1 ≤ r.ar ∧ r.ar ≤ 3 := by
  unfold relB relName arityB at h
  simp only [Bool.and_eq_true, decide_eq_true_eq] at h
  obtain ⟨⟨⟨⟨⟨⟨⟨h1, -⟩, h2, h3⟩, -⟩, -⟩, -⟩, -⟩, -⟩ := h
  exact ⟨h1, h2, h3⟩
theorem atomsQ_ok {m : Nat} {ds : List RelV} (hd : DatG m ds) (hm : 0 < m) (L : Nat → Int) (n k cnt : Nat) (used : List ByteArray) (s : CSt) (hk : 0 < k) (hk6 : k ≤ 6) (hu : Usd used) : ∀ i, (atomsQ L n ds k cnt i used s).1.length = i ∧ (∀ a ∈ (atomsQ L n ds k cnt i used s).1, atomB a = true ∧ a.2.length ≤ 3) ∧ Usd (atomsQ L n ds k cnt i used s).2.1
  | 0 => ⟨rfl, fun t ht => by simp [atomsQ] at ht, hu⟩
  | i + 1 => by
    obtain ⟨h1, h2, h3⟩ := atomsQ_ok hd hm L n k cnt used s hk hk6 hu i
    rw [atomsQ]
    dsimp only
    generalize atomsQ L n ds k cnt i used s = p at *
    have hz := pk_lt L n ds.length p.2.2 (by have := hd.len; omega)
    obtain ⟨r1, r2, r3⟩ := rel_parts (hd.rel (pkF L n ds.length p.2.2).1 (by have := hd.len; omega))
    generalize ds.getD (pkF L n ds.length p.2.2).1 noRel = r at *
    obtain ⟨t1, t2, t3⟩ := termsQ_ok L n k r.ar.toNat (decide (i + 1 = cnt)) p.2.1 (pkF L n ds.length p.2.2).2 hk hk6 h3 r.ar.toNat
    refine ⟨by rw [List.length_append, h1]; rfl, fun a ha => ?_, t3⟩
    rw [List.mem_append, List.mem_singleton] at ha
    rcases ha with ha | rfl
    · exact h2 a ha
    · refine ⟨?_, by show List.length _ ≤ 3; rw [t1]; omega⟩
      unfold atomB
      simp only [Bool.and_eq_true, decide_eq_true_eq, List.all_eq_true]
      exact ⟨⟨r1, by rw [t1]; omega⟩, t2⟩
theorem ringQ_ok (L : Nat → Int) (n : Nat) (nm : ByteArray) (hn : nameB nm = true) (m : Nat) (hm : 0 < m) (hm6 : m ≤ 6) (s : CSt) : ∀ i, i ≤ m → (ringQ L n nm m i s).1.length = i ∧ ∀ a ∈ (ringQ L n nm m i s).1, atomB a = true ∧ a.2.length ≤ 3
  | 0, _ => ⟨rfl, fun t ht => by simp [ringQ] at ht⟩
  | i + 1, hi => by
    obtain ⟨h1, h2⟩ := ringQ_ok L n nm hn m hm hm6 s i (by omega)
    rw [ringQ]
    dsimp only
    have two : ∀ x y : TermV, termB x = true → termB y = true → atomB (nm, [x, y]) = true := fun x y hx hy => by unfold atomB; simp [hn, hx, hy]
    have ta := name_term (vnQ_ok i (by omega))
    have tb := name_term (vnQ_ok ((i + 1) % m) (by have := Nat.mod_lt (i + 1) hm; omega))
    refine ⟨by rw [List.length_append, h1]; rfl, fun a ha => ?_⟩
    rw [List.mem_append, List.mem_singleton] at ha
    rcases ha with ha | rfl
    · exact h2 a ha
    · split
      · exact ⟨two _ _ tb ta, by simp⟩
      · exact ⟨two _ _ ta tb, by simp⟩

end Go.Proofs.YtcdfoephhjacdaaGreatDoor
