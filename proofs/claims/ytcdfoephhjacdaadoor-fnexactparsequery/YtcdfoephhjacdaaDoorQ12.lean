import Derived.Test.YtcdfoephhjacdaaDoorQ04
import Derived.Test.YtcdfoephhjacdaaDoorQ05
/-
  Sorted rows, each once: what merging halves gives, and what sorting and taking out neighbours that are alike gives, are one and the same.
-/
namespace Go.Proofs.YtcdfoephhjacdaaDoor

theorem cmpL_self : ∀ a : List Int, cmpL a a = 0
  | [] => rfl
  | x :: a => by simp [cmpL, cmpL_self a]
theorem cmpL_eq : ∀ {a b : List Int}, cmpL a b = 0 → a = b
  | [], [], _ => rfl
  | [], _ :: _, h => by simp [cmpL] at h
  | _ :: _, [], h => by simp [cmpL] at h
  | x :: a, y :: b, h => by
    simp only [cmpL] at h
    split at h
    · omega
    · split at h
      · omega
      · rw [cmpL_eq h, show x = y by omega]
theorem cmpL_neg : ∀ a b : List Int, cmpL b a = - cmpL a b
  | [], [] => rfl
  | [], _ :: _ => rfl
  | _ :: _, [] => rfl
  | x :: a, y :: b => by
    simp only [cmpL]
    by_cases h1 : x < y
    · rw [if_neg (by omega), if_pos h1, if_pos h1]; rfl
    · by_cases h2 : y < x
      · rw [if_pos h2, if_neg h1, if_pos h2]
      · rw [if_neg h2, if_neg h1, if_neg h1, if_neg h2]; exact cmpL_neg a b
theorem cmpL_trans : ∀ {a b c : List Int}, cmpL a b < 0 → cmpL b c < 0 → cmpL a c < 0
  | [], [], _, h, _ => by simp [cmpL] at h
  | [], _ :: _, [], _, h => by simp [cmpL] at h
  | [], _ :: _, _ :: _, _, _ => by simp [cmpL]
  | _ :: _, [], _, h, _ => by simp [cmpL] at h
  | _ :: _, _ :: _, [], _, h => by simp [cmpL] at h
  | x :: a, y :: b, z :: c, h1, h2 => by
    simp only [cmpL] at h1 h2 ⊢
    by_cases e1 : x < y
    · by_cases e2 : y < z
      · rw [if_pos (by omega)]; decide
      · rw [if_neg e2] at h2
        by_cases e3 : z < y
        · rw [if_pos e3] at h2; omega
        · rw [if_pos (by omega)]; decide
    · rw [if_neg e1] at h1
      by_cases e2 : y < x
      · rw [if_pos e2] at h1; omega
      · rw [if_neg e2] at h1
        by_cases e3 : y < z
        · rw [if_pos (by omega)]; decide
        · rw [if_neg e3] at h2
          by_cases e4 : z < y
          · rw [if_pos e4] at h2; omega
          · rw [if_neg e4] at h2
            rw [if_neg (by omega), if_neg (by omega)]
            exact cmpL_trans h1 h2

/-- ascending, each once -/
def SL (l : List (List Int)) : Prop := l.Pairwise fun a b => cmpL a b < 0

theorem SL.uniq : ∀ {a b : List (List Int)}, SL a → SL b → (∀ x, x ∈ a ↔ x ∈ b) → a = b
  | [], [], _, _, _ => rfl
  | [], y :: b, _, _, h => by have := (h y).2 (List.mem_cons_self ..); cases this
  | x :: a, [], _, _, h => by have := (h x).1 (List.mem_cons_self ..); cases this
  | x :: a, y :: b, ha, hb, h => by
    unfold SL at ha hb
    rw [List.pairwise_cons] at ha hb
    have hxy : x = y := by
      rcases List.mem_cons.1 ((h x).1 (List.mem_cons_self ..)) with e | e
      · exact e
      · rcases List.mem_cons.1 ((h y).2 (List.mem_cons_self ..)) with e2 | e2
        · exact e2.symm
        · have h1 := hb.1 x e
          have h2 := ha.1 y e2
          have := cmpL_trans h1 h2
          rw [cmpL_self] at this
          omega
    subst hxy
    rw [SL.uniq (a := a) (b := b) ha.2 hb.2 fun z => ?_]
    constructor
    · intro hz
      rcases List.mem_cons.1 ((h z).1 (List.mem_cons_of_mem _ hz)) with e | e
      · subst e; have := ha.1 _ hz; rw [cmpL_self] at this; omega
      · exact e
    · intro hz
      rcases List.mem_cons.1 ((h z).2 (List.mem_cons_of_mem _ hz)) with e | e
      · subst e; have := hb.1 _ hz; rw [cmpL_self] at this; omega
      · exact e

/-- merging: x stands ahead of what f merges, xa is both together -/
def mrgX (x : List Int) (f : List (List Int) → List (List Int)) (xa : List (List Int)) : List (List Int) → List (List Int)
  | [] => xa
  | y :: b => if cmpL x y < 0 then x :: f (y :: b) else if 0 < cmpL x y then y :: mrgX x f xa b else x :: f b
/-- merging -/
def mrg : List (List Int) → List (List Int) → List (List Int)
  | [] => fun b => b
  | x :: a => mrgX x (mrg a) (x :: a)
theorem mrg_nil_left (b : List (List Int)) : mrg [] b = b := rfl
theorem mrg_nil_right (a : List (List Int)) : mrg a [] = a := by cases a <;> rfl
theorem mrg_lt {x y : List Int} {a b : List (List Int)} (h : cmpL x y < 0) : mrg (x :: a) (y :: b) = x :: mrg a (y :: b) := if_pos h
theorem mrg_gt {x y : List Int} {a b : List (List Int)} (h : 0 < cmpL x y) : mrg (x :: a) (y :: b) = y :: mrg (x :: a) b := (if_neg (by omega)).trans (if_pos h)
theorem mrg_eq {x y : List Int} {a b : List (List Int)} (h1 : ¬ cmpL x y < 0) (h2 : ¬ 0 < cmpL x y) : mrg (x :: a) (y :: b) = x :: mrg a b := (if_neg h1).trans (if_neg h2)

theorem mem_mrg (z : List Int) : ∀ (n : Nat) (a b : List (List Int)), a.length + b.length ≤ n → (z ∈ mrg a b ↔ z ∈ a ∨ z ∈ b)
  | n, [], b, _ => by rw [mrg_nil_left]; simp
  | n, x :: a, [], _ => by rw [mrg_nil_right]; simp
  | n + 1, x :: a, y :: b, h => by
    simp only [List.length_cons] at h
    by_cases h1 : cmpL x y < 0
    · rw [mrg_lt h1, List.mem_cons, mem_mrg z n a (y :: b) (by simp only [List.length_cons]; omega), List.mem_cons, List.mem_cons, or_assoc]
    · by_cases h2 : 0 < cmpL x y
      · rw [mrg_gt h2, List.mem_cons, mem_mrg z n (x :: a) b (by simp only [List.length_cons]; omega), List.mem_cons, List.mem_cons]
        constructor
        · rintro (h | (h | h) | h)
          · exact Or.inr (Or.inl h)
          · exact Or.inl (Or.inl h)
          · exact Or.inl (Or.inr h)
          · exact Or.inr (Or.inr h)
        · rintro ((h | h) | (h | h))
          · exact Or.inr (Or.inl (Or.inl h))
          · exact Or.inr (Or.inl (Or.inr h))
          · exact Or.inl h
          · exact Or.inr (Or.inr h)
      · have e : x = y := cmpL_eq (by omega)
        subst e
        rw [mrg_eq h1 h2, List.mem_cons, mem_mrg z n a b (by omega), List.mem_cons, List.mem_cons]
        constructor
        · rintro (h | h | h)
          · exact Or.inl (Or.inl h)
          · exact Or.inl (Or.inr h)
          · exact Or.inr (Or.inr h)
        · rintro ((h | h) | (h | h))
          · exact Or.inl h
          · exact Or.inr (Or.inl h)
          · exact Or.inl h
          · exact Or.inr (Or.inr h)
  | 0, x :: a, y :: b, h => by simp only [List.length_cons] at h; omega

theorem SL.mrg : ∀ (n : Nat) (a b : List (List Int)), a.length + b.length ≤ n → SL a → SL b → SL (mrg a b)
  | n, [], b, _, _, hb => by rw [mrg_nil_left]; exact hb
  | n, x :: a, [], _, ha, _ => by rw [mrg_nil_right]; exact ha
  | 0, x :: a, y :: b, h, _, _ => by simp only [List.length_cons] at h; omega
  | n + 1, x :: a, y :: b, h, ha, hb => by
    simp only [List.length_cons] at h
    have ha' := List.pairwise_cons.1 ha
    have hb' := List.pairwise_cons.1 hb
    by_cases h1 : cmpL x y < 0
    · rw [mrg_lt h1]
      refine List.pairwise_cons.2 ⟨fun z hz => ?_, SL.mrg n a (y :: b) (by simp only [List.length_cons]; omega) ha'.2 hb⟩
      rcases (mem_mrg z _ a (y :: b) (Nat.le_refl _)).1 hz with h | h
      · exact ha'.1 z h
      · rcases List.mem_cons.1 h with rfl | h
        · exact h1
        · exact cmpL_trans h1 (hb'.1 z h)
    · by_cases h2 : 0 < cmpL x y
      · have h3 : cmpL y x < 0 := by rw [cmpL_neg]; omega
        rw [mrg_gt h2]
        refine List.pairwise_cons.2 ⟨fun z hz => ?_, SL.mrg n (x :: a) b (by simp only [List.length_cons]; omega) ha hb'.2⟩
        rcases (mem_mrg z _ (x :: a) b (Nat.le_refl _)).1 hz with h | h
        · rcases List.mem_cons.1 h with rfl | h
          · exact h3
          · exact cmpL_trans h3 (ha'.1 z h)
        · exact hb'.1 z h
      · have e : x = y := cmpL_eq (by omega)
        subst e
        rw [mrg_eq h1 h2]
        refine List.pairwise_cons.2 ⟨fun z hz => ?_, SL.mrg n a b (by omega) ha'.2 hb'.2⟩
        rcases (mem_mrg z _ a b (Nat.le_refl _)).1 hz with h | h
        · exact ha'.1 z h
        · exact hb'.1 z h

/-- halves sorted and merged -/
def srtN : Nat → List (List Int) → List (List Int)
  | 0, l => l
  | n + 1, l => if l.length < 2 then l else mrg (srtN n (l.take (l.length / 2))) (srtN n (l.drop (l.length / 2)))
theorem srtN_eq : ∀ (n m : Nat) (l : List (List Int)), l.length ≤ n → l.length ≤ m → srtN n l = srtN m l
  | 0, 0, _, _, _ => rfl
  | 0, m + 1, l, h, _ => (if_pos (show l.length < 2 by omega)).symm
  | n + 1, 0, l, _, h => if_pos (show l.length < 2 by omega)
  | n + 1, m + 1, l, hn, hm => by
    unfold srtN
    by_cases h : l.length < 2
    · rw [if_pos h, if_pos h]
    · rw [if_neg h, if_neg h, srtN_eq n m (l.take (l.length / 2)) (by rw [List.length_take]; omega) (by rw [List.length_take]; omega), srtN_eq n m (l.drop (l.length / 2)) (by rw [List.length_drop]; omega) (by rw [List.length_drop]; omega)]
def srt (l : List (List Int)) : List (List Int) := srtN l.length l
theorem srt_short {l : List (List Int)} (h : l.length < 2) : srt l = l := by
  unfold srt
  cases hn : l.length with
  | zero => rfl
  | succ n => exact if_pos h
theorem srt_long {l : List (List Int)} (h : ¬ l.length < 2) : srt l = mrg (srt (l.take (l.length / 2))) (srt (l.drop (l.length / 2))) := by
  unfold srt
  rw [srtN_eq l.length (l.length + 1) l (by omega) (by omega)]
  refine (if_neg h).trans ?_
  rw [srtN_eq l.length (l.take (l.length / 2)).length _ (by rw [List.length_take]; omega) (Nat.le_refl _), srtN_eq l.length (l.drop (l.length / 2)).length _ (by rw [List.length_drop]; omega) (Nat.le_refl _)]
theorem srt_ok : ∀ (n : Nat) (l : List (List Int)), l.length ≤ n → SL (srt l) ∧ ∀ z, z ∈ srt l ↔ z ∈ l
  | n, l, h => by
    by_cases h2 : l.length < 2
    · rw [srt_short h2]
      refine ⟨?_, fun z => Iff.rfl⟩
      match l, h2 with
      | [], _ => exact List.Pairwise.nil
      | [x], _ => exact List.pairwise_singleton _ _
    · rw [srt_long h2]
      match n with
      | 0 => omega
      | n + 1 =>
        obtain ⟨a1, a2⟩ := srt_ok n (l.take (l.length / 2)) (by rw [List.length_take]; omega)
        obtain ⟨b1, b2⟩ := srt_ok n (l.drop (l.length / 2)) (by rw [List.length_drop]; omega)
        refine ⟨SL.mrg _ _ _ (Nat.le_refl _) a1 b1, fun z => ?_⟩
        rw [mem_mrg z _ _ _ (Nat.le_refl _), a2, b2, ← List.mem_append, List.take_append_drop]
theorem srt_len_mrg : ∀ (n : Nat) (a b : List (List Int)), a.length + b.length ≤ n → (mrg a b).length ≤ a.length + b.length
  | n, [], b, _ => by rw [mrg_nil_left]; simp
  | n, x :: a, [], _ => by rw [mrg_nil_right]; simp
  | 0, x :: a, y :: b, h => by simp only [List.length_cons] at h; omega
  | n + 1, x :: a, y :: b, h => by
    simp only [List.length_cons] at h
    by_cases h1 : cmpL x y < 0
    · have := srt_len_mrg n a (y :: b) (by simp only [List.length_cons]; omega)
      rw [mrg_lt h1]; simp only [List.length_cons] at this ⊢; omega
    · by_cases h2 : 0 < cmpL x y
      · have := srt_len_mrg n (x :: a) b (by simp only [List.length_cons]; omega)
        rw [mrg_gt h2]; simp only [List.length_cons] at this ⊢; omega
      · have := srt_len_mrg n a b (by omega)
        rw [mrg_eq h1 h2]; simp only [List.length_cons]; omega
theorem srt_len : ∀ (n : Nat) (l : List (List Int)), l.length ≤ n → (srt l).length ≤ l.length
  | n, l, h => by
    by_cases h2 : l.length < 2
    · rw [srt_short h2]; exact Nat.le_refl _
    · rw [srt_long h2]
      match n with
      | 0 => omega
      | n + 1 =>
        have a1 := srt_len n (l.take (l.length / 2)) (by rw [List.length_take]; omega)
        have b1 := srt_len n (l.drop (l.length / 2)) (by rw [List.length_drop]; omega)
        have c1 := srt_len_mrg _ (srt (l.take (l.length / 2))) (srt (l.drop (l.length / 2))) (Nat.le_refl _)
        rw [List.length_take] at a1
        rw [List.length_drop] at b1
        omega

/-- neighbours that are alike are taken out -/
def cpt : List (List Int) → List (List Int)
  | [] => []
  | [x] => [x]
  | x :: y :: l => if x = y then cpt (y :: l) else x :: cpt (y :: l)
theorem mem_cpt (z : List Int) : ∀ l : List (List Int), z ∈ cpt l ↔ z ∈ l
  | [] => Iff.rfl
  | [x] => Iff.rfl
  | x :: y :: l => by
    rw [cpt]
    split
    · rename_i e
      subst e
      rw [mem_cpt z (x :: l)]
      simp
    · rw [List.mem_cons, mem_cpt z (y :: l), List.mem_cons (a := z) (b := x)]
theorem SL.cpt : ∀ l : List (List Int), (l.Pairwise fun a b => ¬ cmpL b a < 0) → SL (cpt l)
  | [], _ => List.Pairwise.nil
  | [x], _ => List.pairwise_singleton _ _
  | x :: y :: l, h => by
    have h' := List.pairwise_cons.1 h
    rw [Go.Proofs.YtcdfoephhjacdaaDoor.cpt]
    split
    · exact SL.cpt (y :: l) h'.2
    · rename_i ne
      refine List.pairwise_cons.2 ⟨fun z hz => ?_, SL.cpt (y :: l) h'.2⟩
      rw [mem_cpt] at hz
      have h1 := h'.1 z hz
      have h2 := h'.1 y (List.mem_cons_self ..)
      have hy : ¬ cmpL z y < 0 := by
        rcases List.mem_cons.1 hz with rfl | h3
        · rw [cmpL_self]; omega
        · exact (List.pairwise_cons.1 h'.2).1 z h3
      -- x < y, since x ≤ y and x ≠ y
      have hxy : cmpL x y < 0 := by
        have e1 := cmpL_neg x y
        rcases Int.lt_trichotomy (cmpL x y) 0 with h | h | h
        · exact h
        · exact absurd (cmpL_eq h) ne
        · omega
      have e2 := cmpL_neg y z
      rcases Int.lt_trichotomy (cmpL y z) 0 with h | h | h
      · exact cmpL_trans hxy h
      · rw [← cmpL_eq h]; exact hxy
      · omega
/-- the two ways meet -/
theorem cpt_srt {l l' : List (List Int)} (hs : l'.Pairwise fun a b => ¬ cmpL b a < 0) (hm : ∀ z, z ∈ l' ↔ z ∈ l) : cpt l' = srt l := by
  obtain ⟨a, b⟩ := srt_ok _ l (Nat.le_refl _)
  exact SL.uniq (SL.cpt l' hs) a fun z => by rw [mem_cpt, b, hm]

end Go.Proofs.YtcdfoephhjacdaaDoor

/-
  impl.areEdges, impl.inEdges.
-/
namespace Go.Proofs.YtcdfoephhjacdaaDoor
open Go.RowKit

def edgesB (es : List (List Int)) : Bool := decide (es.length ≤ 7) && es.all setB
def coverB (bag : List Int) (es : List (List Int)) : Bool := bag.all fun x => es.any fun e => decide (x ∈ e)

theorem all_getD {α : Type} (p : α → Bool) (d : α) (l : List α) (h : ∀ i, i < l.length → p (l.getD i d) = true) : l.all p = true := by
  rw [List.all_eq_true]
  intro x hx
  obtain ⟨j, hj, e⟩ := List.getElem_of_mem hx
  have := h j hj
  rw [List.getD_eq_getElem?_getD, List.getElem?_eq_getElem hj] at this
  rw [← e]; exact this

theorem all_getD_false {α : Type} (p : α → Bool) (d : α) (l : List α) (j : Nat) (hj : j < l.length) (h : p (l.getD j d) = false) : l.all p = false := by
  rw [List.all_eq_false]
  rw [List.getD_eq_getElem?_getD, List.getElem?_eq_getElem hj] at h
  exact ⟨_, List.getElem_mem hj, by simpa using h⟩

theorem plc_nil_iff (p : Nat → Bool) (k : Nat) : (plc p k).length = 0 ↔ ∀ i, i < k → p i = false := by
  unfold plc
  rw [List.length_map, List.length_eq_zero_iff, List.filter_eq_nil_iff]
  simp

theorem any_plc (x : Int) (es : List (List Int)) : (es.any fun e => decide (x ∈ e)) = !decide ((plc (fun i => decide (x ∈ es.getD i [])) es.length).length = 0) := by
  cases hb : (es.any fun e => decide (x ∈ e))
  · rw [eq_comm, Bool.not_eq_false', decide_eq_true_eq, plc_nil_iff]
    intro i hi
    rw [List.any_eq_false] at hb
    have := hb _ (List.getElem_mem hi)
    rw [List.getD_eq_getElem?_getD, List.getElem?_eq_getElem hi]
    simpa using this
  · rw [eq_comm, Bool.not_eq_true', decide_eq_false_iff_not, plc_nil_iff]
    intro hall
    rw [List.any_eq_true] at hb
    obtain ⟨e, he, h2⟩ := hb
    obtain ⟨j, hj, e1⟩ := List.getElem_of_mem he
    have := hall j hj
    rw [List.getD_eq_getElem?_getD, List.getElem?_eq_getElem hj] at this
    simp only [Option.getD_some, e1] at this
    rw [this] at h2
    exact Bool.noConfusion h2

end Go.Proofs.YtcdfoephhjacdaaDoor

/-
  spec.l1Zeros: n zeros.
-/
namespace Go.Proofs.YtcdfoephhjacdaaDoor
open Go.RowKit

def zs (k : Nat) : List Value := (List.replicate k [Value.int .i64 0, Value.int .i64 1]).flatten
theorem zs_succ (k : Nat) : zs (k + 1) = zs k ++ [.int .i64 0, .int .i64 1] := by
  simp [zs, List.replicate_succ', List.flatten_append]

theorem own_grow2 {B n s : Nat} {e : TypeId} {w wr w1 : World} {u : Value} {o : Obj} {xs : List Value} (hB : B ≤ wr.heap.size)
    (hown : wr.ownsRow B e s u n xs) (hnx : Below B w wr) (hgrow : (wr.alloc o).grownBy w1 u.ownBlock) : Below B w w1 :=
  (hnx.alloc hB o).grown hgrow (by simp; omega) (fun j hj => (hown.lt j hj).1)

end Go.Proofs.YtcdfoephhjacdaaDoor
