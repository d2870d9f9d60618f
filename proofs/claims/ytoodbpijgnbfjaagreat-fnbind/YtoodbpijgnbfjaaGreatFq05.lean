import Derived.Test.YtoodbpijgnbfjaaGreatFq00
namespace Go.Proofs.YtoodbpijgnbfjaaGreat

theorem cmpL_self : ∀ a : List Int, cmpL a a = 0
  | [] => rfl
  | x :: a => by simp [cmpL, cmpL_self a]
theorem cmpL_eq : ∀ {a b : List Int}, cmpL a b = 0 → a = b
  | [], [], _ => rfl
  | [], _ :: _, h => by simp [cmpL] at h
  | _ :: _, [], h => by simp [cmpL] at h
  | x :: a, y :: b, h => by
    simp only [cmpL] at h
    split at h
    · omega
    · split at h
      · omega
      · rw [cmpL_eq h, show x = y by omega]
theorem cmpL_neg : ∀ a b : List Int, cmpL b a = - cmpL a b
  | [], [] => rfl
  | [], _ :: _ => rfl
  | _ :: _, [] => rfl
  | x :: a, y :: b => by
    simp only [cmpL]
    by_cases h1 : x < y
    · rw [if_neg (by omega), if_pos h1, if_pos h1]; rfl
    · by_cases h2 : y < x
      · rw [if_pos h2, if_neg h1, if_pos h2]
      · rw [if_neg h2, if_neg h1, if_neg h1, if_neg h2]; exact cmpL_neg a b
theorem cmpL_trans : ∀ {a b c : List Int}, cmpL a b < 0 → cmpL b c < 0 → cmpL a c < 0
  | [], [], _, h, _ => by simp [cmpL] at h
  | [], _ :: _, [], _, h => by simp [cmpL] at h
  | [], _ :: _, _ :: _, _, _ => by simp [cmpL]
  | _ :: _, [], _, h, _ => by simp [cmpL] at h
  | _ :: _, _ :: _, [], _, h => by simp [cmpL] at h
  | x :: a, y :: b, z :: c, h1, h2 => by
    simp only [cmpL] at h1 h2 ⊢
    by_cases e1 : x < y
    · by_cases e2 : y < z
      · rw [if_pos (by omega)]; decide
      · rw [if_neg e2] at h2
        by_cases e3 : z < y
        · rw [if_pos e3] at h2; omega
        · rw [if_pos (by omega)]; decide
    · rw [if_neg e1] at h1
      by_cases e2 : y < x
      · rw [if_pos e2] at h1; omega
      · rw [if_neg e2] at h1
        by_cases e3 : y < z
        · rw [if_pos (by omega)]; decide
        · rw [if_neg e3] at h2
          by_cases e4 : z < y
          · rw [if_pos e4] at h2; omega
          · rw [if_neg e4] at h2
            rw [if_neg (by omega), if_neg (by omega)]
            exact cmpL_trans h1 h2

def SL (l : List (List Int)) : Prop := l.Pairwise fun a b => cmpL a b < 0

theorem SL.uniq : ∀ {a b : List (List Int)}, SL a → SL b → (∀ x, x ∈ a ↔ x ∈ b) → a = b
  | [], [], _, _, _ => rfl
  | [], y :: b, _, _, h => by have := (h y).2 (List.mem_cons_self ..); cases this
  | x :: a, [], _, _, h => by have := (h x).1 (List.mem_cons_self ..); cases this
  | x :: a, y :: b, ha, hb, h => by
    unfold SL at ha hb
    rw [List.pairwise_cons] at ha hb
    have hxy : x = y := by
      rcases List.mem_cons.1 ((h x).1 (List.mem_cons_self ..)) with e | e
      · exact e
      · rcases List.mem_cons.1 ((h y).2 (List.mem_cons_self ..)) with e2 | e2
        · exact e2.symm
        · have h1 := hb.1 x e
          have h2 := ha.1 y e2
          have := cmpL_trans h1 h2
          rw [cmpL_self] at this
          omega
    subst hxy
    rw [SL.uniq (a := a) (b := b) ha.2 hb.2 fun z => ?_]
    constructor
    · intro hz
      rcases List.mem_cons.1 ((h z).1 (List.mem_cons_of_mem _ hz)) with e | e
      · subst e; have := ha.1 _ hz; rw [cmpL_self] at this; omega
      · exact e
    · intro hz
      rcases List.mem_cons.1 ((h z).2 (List.mem_cons_of_mem _ hz)) with e | e
      · subst e; have := hb.1 _ hz; rw [cmpL_self] at this; omega
      · exact e

def mrgI (x : List Int) (a : List (List Int)) (f : List (List Int) → List (List Int)) : List (List Int) → List (List Int)
  | [] => x :: a
  | y :: b => if cmpL x y < 0 then x :: f (y :: b) else if 0 < cmpL x y then y :: mrgI x a f b else x :: f b
def mrg : List (List Int) → List (List Int) → List (List Int)
  | [], b => b
  | x :: a, b => mrgI x a (mrg a) b
theorem mrg_nil_left (b : List (List Int)) : mrg [] b = b := rfl
theorem mrg_nil_right (a : List (List Int)) : mrg a [] = a := by cases a <;> rfl
theorem mrg_lt {x y : List Int} {a b : List (List Int)} (h : cmpL x y < 0) : mrg (x :: a) (y :: b) = x :: mrg a (y :: b) := if_pos h
theorem mrg_gt {x y : List Int} {a b : List (List Int)} (h : 0 < cmpL x y) : mrg (x :: a) (y :: b) = y :: mrg (x :: a) b := (if_neg (by omega)).trans (if_pos h)
theorem mrg_eq {x y : List Int} {a b : List (List Int)} (h1 : ¬ cmpL x y < 0) (h2 : ¬ 0 < cmpL x y) : mrg (x :: a) (y :: b) = x :: mrg a b := (if_neg h1).trans (if_neg h2)

theorem mem_mrg (z : List Int) : ∀ (n : Nat) (a b : List (List Int)), a.length + b.length ≤ n → (z ∈ mrg a b ↔ z ∈ a ∨ z ∈ b)
  | n, [], b, _ => by rw [mrg_nil_left]; simp
  | n, x :: a, [], _ => by rw [mrg_nil_right]; simp
  | n + 1, x :: a, y :: b, h => by
    simp only [List.length_cons] at h
    by_cases h1 : cmpL x y < 0
    · rw [mrg_lt h1, List.mem_cons, mem_mrg z n a (y :: b) (by simp only [List.length_cons]; omega), List.mem_cons, List.mem_cons, or_assoc]
    · by_cases h2 : 0 < cmpL x y
      · rw [mrg_gt h2, List.mem_cons, mem_mrg z n (x :: a) b (by simp only [List.length_cons]; omega), List.mem_cons, List.mem_cons]
        constructor
        · rintro (h | (h | h) | h)
          · exact Or.inr (Or.inl h)
          · exact Or.inl (Or.inl h)
          · exact Or.inl (Or.inr h)
          · exact Or.inr (Or.inr h)
        · rintro ((h | h) | (h | h))
          · exact Or.inr (Or.inl (Or.inl h))
          · exact Or.inr (Or.inl (Or.inr h))
          · exact Or.inl h
          · exact Or.inr (Or.inr h)
      · have e : x = y := cmpL_eq (by omega)
        subst e
        rw [mrg_eq h1 h2, List.mem_cons, mem_mrg z n a b (by omega), List.mem_cons, List.mem_cons]
        constructor
        · rintro (h | h | h)
          · exact Or.inl (Or.inl h)
          · exact Or.inl (Or.inr h)
          · exact Or.inr (Or.inr h)
        · rintro ((h | h) | (h | h))
          · exact Or.inl h
          · exact Or.inr (Or.inl h)
          · exact Or.inl h
          · exact Or.inr (Or.inr h)
  | 0, x :: a, y :: b, h => by simp only [List.length_cons] at h; omega

theorem SL.mrg : ∀ (n : Nat) (a b : List (List Int)), a.length + b.length ≤ n → SL a → SL b → SL (mrg a b)
  | n, [], b, _, _, hb => by rw [mrg_nil_left]; exact hb
  | n, x :: a, [], _, ha, _ => by rw [mrg_nil_right]; exact ha
  | 0, x :: a, y :: b, h, _, _ => by simp only [List.length_cons] at h; omega
  | n + 1, x :: a, y :: b, h, ha, hb => by
    simp only [List.length_cons] at h
    have ha' := List.pairwise_cons.1 ha
    have hb' := List.pairwise_cons.1 hb
    by_cases h1 : cmpL x y < 0
    · rw [mrg_lt h1]
      refine List.pairwise_cons.2 ⟨fun z hz => ?_, SL.mrg n a (y :: b) (by simp only [List.length_cons]; omega) ha'.2 hb⟩
      rcases (mem_mrg z _ a (y :: b) (Nat.le_refl _)).1 hz with h | h
      · exact ha'.1 z h
      · rcases List.mem_cons.1 h with rfl | h
        · exact h1
        · exact cmpL_trans h1 (hb'.1 z h)
    · by_cases h2 : 0 < cmpL x y
      · have h3 : cmpL y x < 0 := by rw [cmpL_neg]; omega
        rw [mrg_gt h2]
        refine List.pairwise_cons.2 ⟨fun z hz => ?_, SL.mrg n (x :: a) b (by simp only [List.length_cons]; omega) ha hb'.2⟩
        rcases (mem_mrg z _ (x :: a) b (Nat.le_refl _)).1 hz with h | h
        · rcases List.mem_cons.1 h with rfl | h
          · exact h3
          · exact cmpL_trans h3 (ha'.1 z h)
        · exact hb'.1 z h
      · have e : x = y := cmpL_eq (by omega)
        subst e
        rw [mrg_eq h1 h2]
        refine List.pairwise_cons.2 ⟨fun z hz => ?_, SL.mrg n a b (by omega) ha'.2 hb'.2⟩
        rcases (mem_mrg z _ a b (Nat.le_refl _)).1 hz with h | h
        · exact ha'.1 z h
        · exact hb'.1 z h

def srtF : Nat → List (List Int) → List (List Int)
  | 0, l => l
  | n + 1, l => if l.length < 2 then l else mrg (srtF n (l.take (l.length / 2))) (srtF n (l.drop (l.length / 2)))
def srt (l : List (List Int)) : List (List Int) := srtF l.length l
theorem srtF_same : ∀ (n m : Nat) (l : List (List Int)), l.length ≤ n → l.length ≤ m → srtF n l = srtF m l
  | 0, 0, l, _, _ => rfl
  | 0, m + 1, l, h, _ => by unfold srtF; rw [if_pos (by omega)]
  | n + 1, 0, l, _, h => by unfold srtF; rw [if_pos (by omega)]
  | n + 1, m + 1, l, h1, h2 => by
    unfold srtF
    by_cases h : l.length < 2
    · rw [if_pos h, if_pos h]
    · rw [if_neg h, if_neg h, srtF_same n m _ (by rw [List.length_take]; omega) (by rw [List.length_take]; omega), srtF_same n m (l.drop _) (by rw [List.length_drop]; omega) (by rw [List.length_drop]; omega)]
theorem srt_short {l : List (List Int)} (h : l.length < 2) : srt l = l := by
  unfold srt
  cases e : l.length with
  | zero => rfl
  | succ n => exact if_pos h
theorem srt_long {l : List (List Int)} (h : ¬ l.length < 2) : srt l = mrg (srt (l.take (l.length / 2))) (srt (l.drop (l.length / 2))) := by
  rw [show srt l = srtF (l.length + 1) l from srtF_same _ _ _ (Nat.le_refl _) (Nat.le_succ _)]
  refine (if_neg h).trans ?_
  rw [srtF_same l.length _ (l.take _) (by rw [List.length_take]; omega) (Nat.le_refl _), srtF_same l.length _ (l.drop _) (by rw [List.length_drop]; omega) (Nat.le_refl _)]
  rfl
theorem srt_ok : ∀ (n : Nat) (l : List (List Int)), l.length ≤ n → SL (srt l) ∧ ∀ z, z ∈ srt l ↔ z ∈ l
  | n, l, h => by
    by_cases h2 : l.length < 2
    · rw [srt_short h2]
      refine ⟨?_, fun z => Iff.rfl⟩
      match l, h2 with
      | [], _ => exact List.Pairwise.nil
      | [x], _ => exact List.pairwise_singleton _ _
    · rw [srt_long h2]
      match n with
      | 0 => omega
      | n + 1 =>
        obtain ⟨a1, a2⟩ := srt_ok n (l.take (l.length / 2)) (by rw [List.length_take]; omega)
        obtain ⟨b1, b2⟩ := srt_ok n (l.drop (l.length / 2)) (by rw [List.length_drop]; omega)
        refine ⟨SL.mrg _ _ _ (Nat.le_refl _) a1 b1, fun z => ?_⟩
        rw [mem_mrg z _ _ _ (Nat.le_refl _), a2, b2, ← List.mem_append, List.take_append_drop]
theorem srt_len_mrg : ∀ (n : Nat) (a b : List (List Int)), a.length + b.length ≤ n → (mrg a b).length ≤ a.length + b.length
  | n, [], b, _ => by rw [mrg_nil_left]; simp
  | n, x :: a, [], _ => by rw [mrg_nil_right]; simp
  | 0, x :: a, y :: b, h => by simp only [List.length_cons] at h; omega
  | n + 1, x :: a, y :: b, h => by
    simp only [List.length_cons] at h
    by_cases h1 : cmpL x y < 0
    · have := srt_len_mrg n a (y :: b) (by simp only [List.length_cons]; omega)
      rw [mrg_lt h1]; simp only [List.length_cons] at this ⊢; omega
    · by_cases h2 : 0 < cmpL x y
      · have := srt_len_mrg n (x :: a) b (by simp only [List.length_cons]; omega)
        rw [mrg_gt h2]; simp only [List.length_cons] at this ⊢; omega
      · have := srt_len_mrg n a b (by omega)
        rw [mrg_eq h1 h2]; simp only [List.length_cons]; omega
theorem srt_len : ∀ (n : Nat) (l : List (List Int)), l.length ≤ n → (srt l).length ≤ l.length
  | n, l, h => by
    by_cases h2 : l.length < 2
    · rw [srt_short h2]; exact Nat.le_refl _
    · rw [srt_long h2]
      match n with
      | 0 => omega
      | n + 1 =>
        have a1 := srt_len n (l.take (l.length / 2)) (by rw [List.length_take]; omega)
        have b1 := srt_len n (l.drop (l.length / 2)) (by rw [List.length_drop]; omega)
        have c1 := srt_len_mrg _ (srt (l.take (l.length / 2))) (srt (l.drop (l.length / 2))) (Nat.le_refl _)
        rw [List.length_take] at a1
        rw [List.length_drop] at b1
        omega

def cpt : List (List Int) → List (List Int)
  | [] => []
  | [x] => [x]
  | x :: y :: l => if x = y then cpt (y :: l) else x :: cpt (y :: l)
theorem mem_cpt (z : List Int) : ∀ l : List (List Int), z ∈ cpt l ↔ z ∈ l
  | [] => Iff.rfl
  | [x] => Iff.rfl
  | x :: y :: l => by
    rw [cpt]
    split
    · rename_i e
      subst e
      rw [mem_cpt z (x :: l)]
      simp
    · rw [List.mem_cons, mem_cpt z (y :: l), List.mem_cons (a := z) (b := x)]
theorem SL.cpt : ∀ l : List (List Int), (l.Pairwise fun a b => ¬ cmpL b a < 0) → SL (cpt l)
  | [], _ => List.Pairwise.nil
  | [x], _ => List.pairwise_singleton _ _
  | x :: y :: l, h => by
    have h' := List.pairwise_cons.1 h
    rw [Go.Proofs.YtoodbpijgnbfjaaGreat.cpt]
    split
    · exact SL.cpt (y :: l) h'.2
    · rename_i ne
      refine List.pairwise_cons.2 ⟨fun z hz => ?_, SL.cpt (y :: l) h'.2⟩
      rw [mem_cpt] at hz
      have h1 := h'.1 z hz
      have h2 := h'.1 y (List.mem_cons_self ..)
      have hy : ¬ cmpL z y < 0 := by
        rcases List.mem_cons.1 hz with rfl | h3
        · rw [cmpL_self]; omega
        · exact (List.pairwise_cons.1 h'.2).1 z h3
      have hxy : cmpL x y < 0 := by
        have e1 := cmpL_neg x y
        rcases Int.lt_trichotomy (cmpL x y) 0 with h | h | h
        · exact h
        · exact absurd (cmpL_eq h) ne
        · omega
      have e2 := cmpL_neg y z
      rcases Int.lt_trichotomy (cmpL y z) 0 with h | h | h
      · exact cmpL_trans hxy h
      · rw [← cmpL_eq h]; exact hxy
      · omega
theorem cpt_srt {l l' : List (List Int)} (hs : l'.Pairwise fun a b => ¬ cmpL b a < 0) (hm : ∀ z, z ∈ l' ↔ z ∈ l) : cpt l' = srt l := by
  obtain ⟨a, b⟩ := srt_ok _ l (Nat.le_refl _)
  exact SL.uniq (SL.cpt l' hs) a fun z => by rw [mem_cpt, b, hm]

end Go.Proofs.YtoodbpijgnbfjaaGreat

namespace Go.Proofs.YtoodbpijgnbfjaaGreat
open Go.RowKit

end Go.Proofs.YtoodbpijgnbfjaaGreat

namespace Go.Proofs.YtoodbpijgnbfjaaGreat
open Go.RowKit

theorem own_below {B n s : Nat} {e : TypeId} {w w' : World} {v : Value} {xs : List Value} (h : w.ownsRow B e s v n xs) (hb : Below w.heap.size w w') : w'.ownsRow B e s v n xs := by
  obtain ⟨h1, h2⟩ := h
  refine ⟨h1, ?_⟩
  rcases h2 with h2 | ⟨g, cap, cur, hv, hg, hc, hr⟩
  · exact Or.inl h2
  · refine Or.inr ⟨g, cap, cur, hv, hg, ?_, hr⟩
    rw [hb.block g (by
      rcases Nat.lt_or_ge g w.heap.size with h3 | h3
      · exact h3
      · rw [Array.getElem?_eq_none h3] at hc; cases hc)]
    exact hc

end Go.Proofs.YtoodbpijgnbfjaaGreat

namespace Go.Proofs.YtoodbpijgnbfjaaGreat
open Go.RowKit

end Go.Proofs.YtoodbpijgnbfjaaGreat

namespace Go.Proofs.YtoodbpijgnbfjaaGreat
open Go.RowKit

theorem own_move {w w' : World} {B n s : Nat} {e : TypeId} {v : Value} {xs : List Value} (h : w.ownsRow B e s v n xs) (hb : ∀ g, v.ownBlock = some g → w'.heap[g]? = w.heap[g]?) : w'.ownsRow B e s v n xs := by
  obtain ⟨h1, h2⟩ := h
  refine ⟨h1, ?_⟩
  rcases h2 with h2 | ⟨g, cap, cur, rfl, hb', hc, hr⟩
  · exact Or.inl h2
  · exact Or.inr ⟨g, cap, cur, rfl, hb', (hb g rfl).trans hc, hr⟩

theorem own_is {w : World} {B : Nat} {v : Value} {l : List Int} (h : w.ownsRow B 3 1 v l.length (l.map (Value.int .i64))) : IS w v l := by
  rcases h.2 with ⟨rfl, h2⟩ | ⟨g, cap, cur, rfl, hb', hc, hr⟩
  · exact ⟨none, 0, by rw [h2], Or.inl h2⟩
  · refine ⟨_, cap, rfl, Or.inr ⟨g, 0, rfl, fun j hj => ?_⟩⟩
    rw [Nat.zero_add, h.cellAt j (by omega), List.getElem?_map, List.getElem?_eq_getElem hj, List.getD_eq_getElem?_getD, List.getElem?_eq_getElem hj]
    rfl

end Go.Proofs.YtoodbpijgnbfjaaGreat

namespace Go.Proofs.YtoodbpijgnbfjaaGreat

theorem cpt_cons (x y : List Int) (l : List (List Int)) : cpt (x :: y :: l) = if x = y then cpt (y :: l) else x :: cpt (y :: l) := by rw [cpt]
theorem cpt_single (x : List Int) : cpt [x] = [x] := by rw [cpt]
theorem cpt_snoc : ∀ (l : List (List Int)) (y z : List Int), cpt (l ++ [y, z]) = if y = z then cpt (l ++ [y]) else cpt (l ++ [y]) ++ [z]
  | [], y, z => by
    show cpt [y, z] = if y = z then cpt [y] else cpt [y] ++ [z]
    rw [cpt_cons, cpt_single, cpt_single]
    by_cases h : y = z
    · rw [if_pos h, if_pos h, h]
    · rw [if_neg h, if_neg h]; rfl
  | [x], y, z => by
    have ih : cpt [y, z] = if y = z then cpt [y] else cpt [y] ++ [z] := cpt_snoc [] y z
    show cpt (x :: y :: [z]) = if y = z then cpt [x, y] else cpt [x, y] ++ [z]
    rw [cpt_cons x y [z], ih, cpt_cons x y []]
    by_cases h1 : x = y
    · rw [if_pos h1, if_pos h1]
    · rw [if_neg h1, if_neg h1]
      by_cases h2 : y = z
      · rw [if_pos h2, if_pos h2]
      · rw [if_neg h2, if_neg h2]; rfl
  | x :: a :: l, y, z => by
    have ih : cpt (a :: (l ++ [y, z])) = if y = z then cpt (a :: (l ++ [y])) else cpt (a :: (l ++ [y])) ++ [z] := cpt_snoc (a :: l) y z
    show cpt (x :: a :: (l ++ [y, z])) = if y = z then cpt (x :: a :: (l ++ [y])) else cpt (x :: a :: (l ++ [y])) ++ [z]
    rw [cpt_cons, ih, cpt_cons]
    by_cases h1 : x = a
    · rw [if_pos h1, if_pos h1]
    · rw [if_neg h1, if_neg h1]
      by_cases h2 : y = z
      · rw [if_pos h2, if_pos h2]
      · rw [if_neg h2, if_neg h2]; rfl

theorem take_two {ls : List (List Int)} {j : Nat} (hj : j + 1 < ls.length) : ls.take (j + 2) = ls.take j ++ [ls.getD j [], ls.getD (j + 1) []] ∧ ls.take (j + 1) = ls.take j ++ [ls.getD j []] := by
  have e1 : ls.getD j [] = ls[j] := by rw [List.getD_eq_getElem?_getD, List.getElem?_eq_getElem (by omega)]; rfl
  have e2 : ls.getD (j + 1) [] = ls[j + 1] := by rw [List.getD_eq_getElem?_getD, List.getElem?_eq_getElem hj]; rfl
  rw [e1, e2]
  have h1 : ls.take (j + 1) = ls.take j ++ [ls[j]] := (List.take_append_getElem (by omega)).symm
  have h2 : ls.take (j + 2) = ls.take (j + 1) ++ [ls[j + 1]] := (List.take_append_getElem hj).symm
  exact ⟨by rw [h2, h1, List.append_assoc]; rfl, h1⟩
theorem cpt_hit {ls : List (List Int)} {j : Nat} (hj : j + 1 < ls.length) (h : ls.getD j [] = ls.getD (j + 1) []) : cpt (ls.take (j + 2)) = cpt (ls.take (j + 1)) := by
  obtain ⟨a, b⟩ := take_two hj
  rw [a, b, cpt_snoc, if_pos h]
theorem cpt_miss {ls : List (List Int)} {j : Nat} (hj : j + 1 < ls.length) (h : ¬ ls.getD j [] = ls.getD (j + 1) []) : cpt (ls.take (j + 2)) = cpt (ls.take (j + 1)) ++ [ls.getD (j + 1) []] := by
  obtain ⟨a, b⟩ := take_two hj
  rw [a, b, cpt_snoc, if_neg h]
theorem cpt_all {ls : List (List Int)} : ∀ j, j < ls.length → (∀ i, i < j → ¬ ls.getD i [] = ls.getD (i + 1) []) → cpt (ls.take (j + 1)) = ls.take (j + 1)
  | 0, h, _ => by
    match ls, h with
    | x :: l, _ => rfl
  | j + 1, h, hne => by
    rw [cpt_miss h (hne j (by omega)), cpt_all j (by omega) (fun i hi => hne i (by omega))]
    obtain ⟨a, b⟩ := take_two h
    rw [a, b, List.append_assoc]
    rfl
end Go.Proofs.YtoodbpijgnbfjaaGreat

namespace Go.Proofs.YtoodbpijgnbfjaaGreat

theorem pre_at {p s : List Int} {y : Int} (h : p ++ [y] <+: s) : p.length < s.length ∧ (∀ i, i < p.length → s.getD i 0 = p.getD i 0) ∧ s.getD p.length 0 = y := by
  obtain ⟨t, rfl⟩ := h
  refine ⟨by simp, fun i hi => ?_, ?_⟩
  · rw [List.getD_eq_getElem?_getD, List.getD_eq_getElem?_getD, List.append_assoc, List.getElem?_append_left hi]
  · rw [List.getD_eq_getElem?_getD, List.append_assoc, List.getElem?_append_right (Nat.le_refl _), Nat.sub_self]; rfl

theorem pre_le {p s r : List Int} {y x : Int} (h1 : p ++ [y] <+: s) (h2 : p ++ [x] <+: r) (h : cmpL s r < 0) : y ≤ x := by
  obtain ⟨a1, a2, a3⟩ := pre_at h1
  obtain ⟨b1, b2, b3⟩ := pre_at h2
  rcases Int.lt_or_le x y with h3 | h3
  · have := cmpL_gt (a := s) (b := r) a1 b1 (fun i hi => by rw [a2 i hi, b2 i hi]) (by rw [a3, b3]; exact h3)
    omega
  · exact h3

theorem pre_snoc {p l : List Int} {a : Int} : p <+: l ++ [a] ↔ p = l ++ [a] ∨ p <+: l := by
  rw [List.prefix_concat_iff]

theorem take_snoc {r : List Int} {i : Nat} (h : i < r.length) : r.take (i + 1) = r.take i ++ [r.getD i 0] := by
  rw [List.take_add_one, List.getElem?_eq_getElem h, List.getD_eq_getElem?_getD, List.getElem?_eq_getElem h]; rfl

theorem snoc_inj {p q : List Int} {x y : Int} (h : p ++ [x] = q ++ [y]) : p = q ∧ x = y := by
  have := List.append_inj' h rfl
  exact ⟨this.1, by simpa using this.2⟩

structure TM (rs : List (List Int)) (D : List Int → Prop) (N : List Int → List Int) : Prop where
  dom : ∀ p, D p ↔ p = [] ∨ ∃ r ∈ rs, p <+: r
  mem : ∀ p, D p → ∀ x, x ∈ N p ↔ D (p ++ [x])
  asc : ∀ p, D p → (N p).Pairwise (· < ·)

theorem TM.none : TM [] (fun p => p = []) (fun _ => []) :=
  ⟨fun p => by simp, fun p _ x => by simp, fun p _ => List.Pairwise.nil⟩

theorem TM.pre {rs : List (List Int)} {D : List Int → Prop} {N : List Int → List Int} (h : TM rs D N) {p q : List Int} (hq : D q) (hp : p <+: q) : D p := by
  rw [h.dom] at hq ⊢
  rcases hq with rfl | ⟨r, hr, hr'⟩
  · exact Or.inl (List.prefix_nil.1 hp)
  · exact Or.inr ⟨r, hr, hp.trans hr'⟩

section
variable {rs : List (List Int)} {r : List Int} {i : Nat} {D : List Int → Prop} {N : List Int → List Int}

theorem TM.begin (h : TM rs D N) : TM (rs ++ [r.take 0]) D N :=
  ⟨fun p => by
    rw [h.dom]
    constructor
    · rintro (h1 | ⟨s, hs, h1⟩)
      · exact Or.inl h1
      · exact Or.inr ⟨s, List.mem_append_left _ hs, h1⟩
    · rintro (h1 | ⟨s, hs, h1⟩)
      · exact Or.inl h1
      · rcases List.mem_append.1 hs with h2 | h2
        · exact Or.inr ⟨s, h2, h1⟩
        · simp at h2
          subst h2
          exact Or.inl (List.prefix_nil.1 h1), h.mem, h.asc⟩

theorem TM.here (h : TM (rs ++ [r.take i]) D N) : D (r.take i) := (h.dom _).2 (Or.inr ⟨r.take i, by simp, List.prefix_refl _⟩)

theorem TM.le (h : TM (rs ++ [r.take i]) D N) (hi : i < r.length) (hs : ∀ s ∈ rs, cmpL s r < 0) : ∀ y ∈ N (r.take i), y ≤ r.getD i 0 := fun y hy => by
  rw [h.mem _ h.here, h.dom] at hy
  rcases hy with h1 | ⟨s, hs', h1⟩
  · simp at h1
  · rcases List.mem_append.1 hs' with h2 | h2
    · refine pre_le h1 (r := r) ?_ (hs s h2)
      rw [← take_snoc hi]
      exact List.take_prefix _ _
    · simp at h2
      subst h2
      have := h1.length_le
      simp at this
      omega

theorem dom_step (h : TM (rs ++ [r.take i]) D N) (hi : i < r.length) (p : List Int) : (p = [] ∨ ∃ s ∈ rs ++ [r.take (i + 1)], p <+: s) ↔ D p ∨ p = r.take i ++ [r.getD i 0] := by
  rw [h.dom]
  constructor
  · rintro (h1 | ⟨s, hs, h1⟩)
    · exact Or.inl (Or.inl h1)
    · rcases List.mem_append.1 hs with h2 | h2
      · exact Or.inl (Or.inr ⟨s, List.mem_append_left _ h2, h1⟩)
      · simp only [List.mem_singleton] at h2
        subst h2
        rw [take_snoc hi, pre_snoc] at h1
        rcases h1 with h1 | h1
        · exact Or.inr h1
        · exact Or.inl (Or.inr ⟨_, List.mem_append_right _ (List.mem_singleton.2 rfl), h1⟩)
  · rintro ((h1 | ⟨s, hs, h1⟩) | h1)
    · exact Or.inl h1
    · rcases List.mem_append.1 hs with h2 | h2
      · exact Or.inr ⟨s, List.mem_append_left _ h2, h1⟩
      · simp only [List.mem_singleton] at h2
        subst h2
        refine Or.inr ⟨r.take (i + 1), List.mem_append_right _ (List.mem_singleton.2 rfl), ?_⟩
        rw [take_snoc hi, pre_snoc]
        exact Or.inr h1
    · refine Or.inr ⟨r.take (i + 1), List.mem_append_right _ (List.mem_singleton.2 rfl), ?_⟩
      rw [take_snoc hi, h1]
      exact List.prefix_refl _

theorem TM.hit (h : TM (rs ++ [r.take i]) D N) (hi : i < r.length) (hx : r.getD i 0 ∈ N (r.take i)) : TM (rs ++ [r.take (i + 1)]) D N :=
  ⟨fun p => by
    rw [dom_step h hi]
    constructor
    · exact Or.inl
    · rintro (h1 | h1)
      · exact h1
      · rw [h1]; exact (h.mem _ h.here _).1 hx, h.mem, h.asc⟩

def addD (D : List Int → Prop) (q : List Int) : List Int → Prop := fun p => D p ∨ p = q
def addN (N : List Int → List Int) (p : List Int) (x : Int) : List Int → List Int := fun q => if q = p then N p ++ [x] else if q = p ++ [x] then [] else N q
theorem snoc_ne (p : List Int) (x : Int) : p ++ [x] ≠ p := fun e => by have := congrArg List.length e; simp at this

theorem TM.miss (h : TM (rs ++ [r.take i]) D N) (hi : i < r.length) (hs : ∀ s ∈ rs, cmpL s r < 0) (hx : r.getD i 0 ∉ N (r.take i)) :
    TM (rs ++ [r.take (i + 1)]) (addD D (r.take i ++ [r.getD i 0])) (addN N (r.take i) (r.getD i 0)) := by
  have hle := h.le hi hs
  have hh := h.here
  have hno : ¬ D (r.take i ++ [r.getD i 0]) := fun hd => hx ((h.mem _ hh _).2 hd)
  have hdom := dom_step h hi
  generalize r.take (i + 1) = r1 at *
  generalize r.take i = p0 at *
  generalize r.getD i 0 = x at *
  refine ⟨fun p => (hdom p).symm, fun q hq y => ?_, fun q hq => ?_⟩
  · unfold addN addD
    by_cases e1 : q = p0
    · subst e1
      rw [if_pos rfl, List.mem_append, List.mem_singleton, h.mem _ hh]
      constructor
      · rintro (h1 | h1)
        · exact Or.inl h1
        · exact Or.inr (by rw [h1])
      · rintro (h1 | h1)
        · exact Or.inl h1
        · exact Or.inr (snoc_inj h1).2
    · rw [if_neg e1]
      by_cases e2 : q = p0 ++ [x]
      · subst e2
        rw [if_pos rfl]
        constructor
        · intro h1; cases h1
        · rintro (h1 | h1)
          · exact absurd (h.pre h1 (List.prefix_append _ _)) hno
          · exact absurd h1 (snoc_ne _ _)
      · rw [if_neg e2, h.mem _ (hq.resolve_right e2)]
        constructor
        · exact Or.inl
        · rintro (h1 | h1)
          · exact h1
          · exact absurd (snoc_inj h1).1 e1
  · unfold addN
    by_cases e1 : q = p0
    · subst e1
      rw [if_pos rfl, List.pairwise_append]
      refine ⟨h.asc _ hh, List.pairwise_singleton _ _, fun y hy z hz => ?_⟩
      rw [List.mem_singleton] at hz
      subst hz
      have := hle y hy
      rcases Int.lt_or_eq_of_le this with h1 | h1
      · exact h1
      · subst h1; exact absurd hy hx
    · rw [if_neg e1]
      by_cases e2 : q = p0 ++ [x]
      · rw [if_pos e2]; exact List.Pairwise.nil
      · rw [if_neg e2]; exact h.asc _ (hq.resolve_right e2)

theorem TM.done (h : TM (rs ++ [r.take r.length]) D N) : TM (rs ++ [r]) D N := by rw [List.take_length] at h; exact h
end

theorem last_of {l : List Int} {x : Int} (ha : l.Pairwise (· < ·)) (hm : x ∈ l) (hle : ∀ y ∈ l, y ≤ x) : 0 < l.length ∧ l.getD (l.length - 1) 0 = x := by
  have h0 : 0 < l.length := List.length_pos_of_mem hm
  refine ⟨h0, ?_⟩
  obtain ⟨j, hj, e⟩ := List.getElem_of_mem hm
  have hl : l.getD (l.length - 1) 0 = l[l.length - 1]'(by omega) := by rw [List.getD_eq_getElem?_getD, List.getElem?_eq_getElem (by omega)]; rfl
  have h1 := hle _ (List.getElem_mem (h := (by omega : l.length - 1 < l.length)))
  rw [hl]
  by_cases e2 : j = l.length - 1
  · subst e2; exact e
  · have := List.pairwise_iff_getElem.1 ha j (l.length - 1) hj (by omega) (by omega)
    omega
theorem last_not {l : List Int} {x : Int} (hm : x ∉ l) (h0 : 0 < l.length) : l.getD (l.length - 1) 0 ≠ x := fun e => hm (by
  rw [← e, List.getD_eq_getElem?_getD, List.getElem?_eq_getElem (by omega)]; exact List.getElem_mem _)

end Go.Proofs.YtoodbpijgnbfjaaGreat

namespace Go.Proofs.YtoodbpijgnbfjaaGreat

structure Sd where
  H : Nat → Bool
  rs : List (List Int)
  N : List Int → List Int
def Sd.D (s : Sd) (p : List Int) : Prop := p = [] ∨ ∃ r ∈ s.rs, p <+: r
structure Sd.Ok (s : Sd) : Prop where
  tm : TM s.rs s.D s.N
def prt (H : Nat → Bool) (p : List Int) : List Int := ((List.range p.length).filter H).map fun i => p.getD i 0
theorem prt_snoc (H : Nat → Bool) (p : List Int) (v : Int) : prt H (p ++ [v]) = prt H p ++ (if H p.length then [v] else []) := by
  unfold prt
  rw [List.length_append, List.length_singleton, List.range_succ, List.filter_append, List.map_append]
  congr 1
  · refine List.map_congr_left fun i hi => ?_
    have hi2 := List.mem_range.1 ((List.mem_filter.1 hi).1)
    rw [List.getD_eq_getElem?_getD, List.getElem?_append_left hi2, ← List.getD_eq_getElem?_getD]
  · by_cases h : H p.length
    · rw [if_pos h, List.filter_cons, if_pos h]
      simp [List.getD_eq_getElem?_getD]
    · rw [if_neg h, List.filter_cons, if_neg h]; rfl
def Hld (sds : List Sd) (p : List Int) : Prop := ∀ s ∈ sds, s.D (prt s.H p)
def mayB (sds : List Sd) (p : List Int) (v : Int) : Bool := sds.all fun s => !s.H p.length || decide (v ∈ s.N (prt s.H p))
theorem mayB_iff (sds : List Sd) (p : List Int) (v : Int) : mayB sds p v = true ↔ ∀ s ∈ sds, s.H p.length = true → v ∈ s.N (prt s.H p) := by
  unfold mayB
  rw [List.all_eq_true]
  refine ⟨fun h s hs hH => ?_, fun h s hs => ?_⟩
  · have := h s hs
    rw [hH] at this
    simpa using this
  · cases hH : s.H p.length
    · rfl
    · simpa using h s hs hH
theorem asc_uniq : ∀ {a b : List Int}, a.Pairwise (· < ·) → b.Pairwise (· < ·) → (∀ v, v ∈ a ↔ v ∈ b) → a = b
  | [], [], _, _, _ => rfl
  | [], y :: b, _, _, h => by have := (h y).2 List.mem_cons_self; cases this
  | x :: a, [], _, _, h => by have := (h x).1 List.mem_cons_self; cases this
  | x :: a, y :: b, ha, hb, h => by
    rw [List.pairwise_cons] at ha hb
    have hxy : x = y := by
      have h1 := (h x).1 List.mem_cons_self
      have h2 := (h y).2 List.mem_cons_self
      rw [List.mem_cons] at h1 h2
      rcases h1 with h1 | h1
      · exact h1
      · rcases h2 with h2 | h2
        · exact h2.symm
        · have := hb.1 x h1
          have := ha.1 y h2
          omega
    subst hxy
    rw [asc_uniq ha.2 hb.2 fun v => ?_]
    have := h v
    rw [List.mem_cons, List.mem_cons] at this
    constructor
    · intro hv
      rcases this.1 (Or.inr hv) with rfl | h1
      · have := ha.1 v hv; omega
      · exact h1
    · intro hv
      rcases this.2 (Or.inr hv) with rfl | h1
      · have := hb.1 v hv; omega
      · exact h1
def nxtBy (sds : List Sd) (g : Sd) (p : List Int) : List Int := (g.N (prt g.H p)).filter fun v => mayB sds p v
theorem nxtBy_same {sds : List Sd} (hok : ∀ s ∈ sds, s.Ok) {g f : Sd} (hg : g ∈ sds) (hf : f ∈ sds) {p : List Int} (hp : Hld sds p) (h1 : g.H p.length = true) (h2 : f.H p.length = true) : nxtBy sds g p = nxtBy sds f p := by
  refine asc_uniq ((((hok g hg).tm.asc _ (hp g hg))).filter _) ((((hok f hf).tm.asc _ (hp f hf))).filter _) fun v => ?_
  unfold nxtBy
  rw [List.mem_filter, List.mem_filter]
  constructor
  · rintro ⟨-, h⟩
    exact ⟨(mayB_iff sds p v).1 h f hf h2, h⟩
  · rintro ⟨-, h⟩
    exact ⟨(mayB_iff sds p v).1 h g hg h1, h⟩
def nxtS (sds : List Sd) (p : List Int) : List Int :=
  match sds.find? fun s => s.H p.length with
  | some f => nxtBy sds f p
  | none => []
theorem nxtS_by {sds : List Sd} (hok : ∀ s ∈ sds, s.Ok) {g : Sd} (hg : g ∈ sds) {p : List Int} (hp : Hld sds p) (h1 : g.H p.length = true) : nxtS sds p = nxtBy sds g p := by
  unfold nxtS
  cases hf : sds.find? (fun s => s.H p.length) with
  | none =>
    rw [List.find?_eq_none] at hf
    exact absurd h1 (hf g hg)
  | some f =>
    exact nxtBy_same hok (List.mem_of_find?_eq_some hf) hg hp (by have := List.find?_some hf; exact this) h1
theorem nxtS_asc {sds : List Sd} (hok : ∀ s ∈ sds, s.Ok) {p : List Int} (hp : Hld sds p) : (nxtS sds p).Pairwise (· < ·) := by
  unfold nxtS
  cases hf : sds.find? (fun s => s.H p.length) with
  | none => exact List.Pairwise.nil
  | some f => exact ((hok f (List.mem_of_find?_eq_some hf)).tm.asc _ (hp f (List.mem_of_find?_eq_some hf))).filter _
theorem Hld.snoc {sds : List Sd} (hok : ∀ s ∈ sds, s.Ok) {p : List Int} (hp : Hld sds p) {v : Int} (hv : v ∈ nxtS sds p) : Hld sds (p ++ [v]) := fun s hs => by
  rw [prt_snoc]
  cases hH : s.H p.length
  · rw [if_neg (by decide), List.append_nil]; exact hp s hs
  · rw [if_pos rfl]
    rw [nxtS_by hok hs hp hH] at hv
    unfold nxtBy at hv
    exact ((hok s hs).tm.mem _ (hp s hs) v).1 ((List.mem_filter.1 hv).1)
theorem lvlF_hld {sds : List Sd} (hok : ∀ s ∈ sds, s.Ok) {p : List Int} (hp : Hld sds p) : ∀ j, ∀ q ∈ lvlF (nxtS sds) p j, Hld sds q
  | 0, q, h => by simp [lvlF] at h; rw [h]; exact hp
  | j + 1, q, h => by
    simp only [lvlF, List.mem_flatMap, List.mem_map] at h
    obtain ⟨r, hr, v, hv, rfl⟩ := h
    exact (lvlF_hld hok hp j r hr).snoc hok hv

end Go.Proofs.YtoodbpijgnbfjaaGreat

namespace Go.Proofs.YtoodbpijgnbfjaaGreat
open Go.RowKit

set_option maxHeartbeats 1000000 in
theorem hInts_quiet (w : World) (v v' : Value) (l : List Int) (h : IS w v l) (h' : IS w v' l) (hl : l.length ≤ 1099511627776) :
    Calls Tryz.prog 25 #[v, v'] w fun e w' => e = .returned (.bool true) ∧ ∃ m, w' = w.drewN m := by
  obtain ⟨a, cap, rfl, hc⟩ := h
  obtain ⟨a', cap', rfl, hc'⟩ := h'
  obtain ⟨n, hn⟩ : ∃ n, n = l.length := ⟨_, rfl⟩
  rw [← hn] at hc hc' hl ⊢
  have HC := hid hc
  have HC' := hid hc'
  clear hc hc' hn
  have hne : ((n : Int) != (n : Int)) = false := by simp
  go_enter Tryz.func25, Tryz.ntmps25
  go_wp2
  go_loopw [13] (fun t wr => ∃ j : Nat, j ≤ n ∧ t = .int .i64 j ∧ Hid (∃ m, wr = w.drewN m)) (fun t _ => n - (intOf t).toNat)
  case atStart => exact ⟨0, Nat.zero_le _, rfl, hid ⟨0, rfl⟩⟩
  case round =>
    obtain ⟨j, hj, rfl, hB⟩ := hrel
    by_cases hjn : j < n
    · have i1 : (j : Int) < (n : Int) := by omega
      rcases HC.out with h0 | ⟨b, o, rfl, hcell⟩
      · omega
      · rcases HC'.out with h0 | ⟨b', o', rfl, hcell'⟩
        · omega
        · have c1 : wr.cell? ⟨b, o + j, none⟩ = some (.int .i64 (l.getD j 0)) := by obtain ⟨m, rfl⟩ := hB.out; exact hcell j hjn
          have c2 : wr.cell? ⟨b', o' + j, none⟩ = some (.int .i64 (l.getD j 0)) := by obtain ⟨m, rfl⟩ := hB.out; exact hcell' j hjn
          obtain ⟨x, hx⟩ : ∃ x, x = l.getD j 0 := ⟨_, rfl⟩
          rw [← hx] at c1 c2
          have hxx : (x != x) = false := by simp
          clear hcell hcell' hx
          go_wp2_with fail
          go_quiet (fail)
          go_wp2
          go_roundw
          case rel => exact ⟨j + 1, by omega, by go_num, hid (drewN_step _ hB.out)⟩
          case measure => simp [intOf]; omega
    · obtain rfl : j = n := by omega
      have i1 : ¬ ((j : Int) < (j : Int)) := by omega
      go_wp2
      go_ret
      exact ⟨rfl, hB.out⟩


set_option maxHeartbeats 2000000 in
set_option maxRecDepth 1000000 in
theorem hRows_quiet (w : World) (v v' : Value) (ls : List (List Int)) (h : ISS w v ls) (h' : ISS w v' ls) (hl : Short ls) :
    Calls Tryz.prog 10 #[v, v'] w fun e w' => e = .returned (.bool true) ∧ ∃ m, w' = w.drewN m := by
  obtain ⟨a, cap, rfl, hc⟩ := h
  obtain ⟨a', cap', rfl, hc'⟩ := h'
  obtain ⟨hl1, hl2⟩ := hl
  obtain ⟨n, hn⟩ : ∃ n, n = ls.length := ⟨_, rfl⟩
  rw [← hn] at hc hc' hl1 ⊢
  have HC := hid hc
  have HC' := hid hc'
  have HL := hid hl2
  clear hc hc' hn hl2
  have hne : ((n : Int) != (n : Int)) = false := by simp
  go_enter Tryz.func10, Tryz.ntmps10
  go_wp2
  go_loopw [13] (fun t wr => ∃ j : Nat, j ≤ n ∧ t = .int .i64 j ∧ Hid (∃ m, wr = w.drewN m)) (fun t _ => n - (intOf t).toNat)
  case atStart => exact ⟨0, Nat.zero_le _, rfl, hid ⟨0, rfl⟩⟩
  case round =>
    obtain ⟨j, hj, rfl, hB⟩ := hrel
    by_cases hjn : j < n
    · have i1 : (j : Int) < (n : Int) := by omega
      rcases HC.out with h0 | ⟨b, o, rfl, hcell⟩
      · omega
      · rcases HC'.out with h0 | ⟨b', o', rfl, hcell'⟩
        · omega
        · obtain ⟨u, d1, hu⟩ := hcell j hjn
          obtain ⟨u', d2, hu'⟩ := hcell' j hjn
          have c1 : wr.cell? ⟨b, o + j, none⟩ = some u := by obtain ⟨m, rfl⟩ := hB.out; exact d1
          have c2 : wr.cell? ⟨b', o' + j, none⟩ = some u' := by obtain ⟨m, rfl⟩ := hB.out; exact d2
          have HK : Hid (∀ q, Calls Tryz.prog 25 #[u, u'] (wr.drewN q) fun e w' => e = .returned (.bool true) ∧ ∃ m, w' = (wr.drewN q).drewN m) := fun q => by
            obtain ⟨m, rfl⟩ := hB.out
            exact hInts_quiet _ u u' (ls.getD j []) hu hu' (HL.out j)
          obtain ⟨a1, cap1, rfl, -⟩ := hu
          obtain ⟨a2, cap2, rfl, -⟩ := hu'
          clear hcell hcell' d1 d2
          go_wp2_with fail
          go_quiet ((go_at_call 25; exact Calls.quiet_of (HK.out _)))
          go_wp2
          go_roundw
          case rel => exact ⟨j + 1, by omega, by go_num, hid (drewN_step _ hB.out)⟩
          case measure => simp [intOf]; omega
    · obtain rfl : j = n := by omega
      have i1 : ¬ ((j : Int) < (j : Int)) := by omega
      go_wp2
      go_ret
      exact ⟨rfl, hB.out⟩

end Go.Proofs.YtoodbpijgnbfjaaGreat
