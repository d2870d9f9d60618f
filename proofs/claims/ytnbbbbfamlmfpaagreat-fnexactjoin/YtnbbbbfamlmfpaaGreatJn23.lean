import Derived.Deep.LoopGhost
import Derived.Laws.CopyOwn
import Derived.Laws.OwnMore
import Derived.Test.YtnbbbbfamlmfpaaGreatJn12
import Derived.Test.YtnbbbbfamlmfpaaGreatJn16
import Derived.Test.YtnbbbbfamlmfpaaGreatJn22
/-
  slices.Repeat of one 1.
-/
namespace Go.Proofs.YtnbbbbfamlmfpaaGreat
open Go.RowKit

end Go.Proofs.YtnbbbbfamlmfpaaGreat

/-
  impl: plainTable, projectedRows.
-/
namespace Go.Proofs.YtnbbbbfamlmfpaaGreat
open Go.RowKit

theorem own_shape {w : World} {B n s : Nat} {e : TypeId} {v : Value} {xs : List Value} (h : w.ownsRow B e s v n xs) : ∃ a cap, v = .slice a n cap := by
  rcases h.2 with ⟨rfl, hn⟩ | ⟨g, cap, cur, rfl, _⟩
  · exact ⟨none, 0, by rw [hn]⟩
  · exact ⟨_, cap, rfl⟩
/-- a row's block is none of another type; what is stored there does not reach it -/
theorem own_keep3 {W : World} {B s n p : Nat} {e e' : TypeId} {v : Value} {xs : List Value} {off : Nat} {y : Value} (h : W.ownsRow B e s v n xs) (ht : ∃ cur, W.heap[p]? = some (.cells cur e' (0, 0))) (he : e ≠ e') : (W.setCell ⟨p, off, none⟩ y).ownsRow B e s v n xs :=
  own_move h fun g hg => Below.heap_setCell _ _ _ _ (by rintro rfl; exact own_ne h ht he hg.symm)
theorem RQ.set {W : World} {B p off : Nat} {v y : Value} {us : List Value} {ls : List (List Int)} (h : RQ W B v us ls) (ht : ∃ cur, W.heap[p]? = some (.cells cur 41 (0, 0))) : RQ (W.setCell ⟨p, off, none⟩ y) B v us ls :=
  ⟨own_keep3 h.own ht (by decide), h.len, fun i hi => own_keep3 (h.each i hi) ht (by decide), h.ap⟩
theorem RQ.sl {W : World} {B : Nat} {v : Value} {us : List Value} {ls : List (List Int)} (h : RQ W B v us ls) : ∃ a cap, v = .slice a ls.length cap := own_shape h.own

/-- a table's block -/
structure TX (W : World) (p : Nat) (v0 v1 v2 : Value) : Prop where
  blk : W.heap[p]? = some (.cells #[v0, v1, v2] 41 (0, 0))
section
variable {W W' : World} {p : Nat} {v0 v1 v2 : Value}
theorem TX.lt (h : TX W p v0 v1 v2) : p < W.heap.size := by
  rcases Nat.lt_or_ge p W.heap.size with h1 | h1
  · exact h1
  · have := h.blk; rw [Array.getElem?_eq_none h1] at this; cases this
theorem TX.below (h : TX W p v0 v1 v2) (hb : Below W.heap.size W W') : TX W' p v0 v1 v2 := ⟨(hb.block p h.lt).trans h.blk⟩
theorem TX.c0 (h : TX W p v0 v1 v2) : W.cell? ⟨p, 0, none⟩ = some v0 := by rw [cell_of_row _ _ _ _ _ _ h.blk]; rfl
theorem TX.c1 (h : TX W p v0 v1 v2) : W.cell? ⟨p, 1, none⟩ = some v1 := by rw [cell_of_row _ _ _ _ _ _ h.blk]; rfl
theorem TX.c2 (h : TX W p v0 v1 v2) : W.cell? ⟨p, 2, none⟩ = some v2 := by rw [cell_of_row _ _ _ _ _ _ h.blk]; rfl
theorem TX.free (h : TX W p v0 v1 v2) (j : Nat) : W.frozen? ⟨p, j, none⟩ = false := by unfold World.frozen?; rw [h.blk]; simp
theorem TX.typ (h : TX W p v0 v1 v2) : ∃ cur, W.heap[p]? = some (.cells cur 41 (0, 0)) := ⟨_, h.blk⟩
theorem TX.made (W : World) (v0 v1 v2 : Value) : TX (W.alloc (.cells #[v0, v1, v2] 41)) W.heap.size v0 v1 v2 := ⟨heap_alloc_new _ _⟩
end

end Go.Proofs.YtnbbbbfamlmfpaaGreat

/-
  The places of variables: what a table's projection is.
-/
namespace Go.Proofs.YtnbbbbfamlmfpaaGreat

theorem vlF_at : ∀ (vs r : List Int) (p : Nat), vs.Pairwise (· < ·) → p < vs.length → vlF vs r (vs.getD p 0) = r.getD p 0
  | [], _, p, _, h => by simp at h
  | x :: vs, r, 0, _, _ => by simp [vlF]
  | x :: vs, r, p + 1, h, hp => by
    rw [List.pairwise_cons] at h
    simp only [List.length_cons] at hp
    have hm : vs.getD p 0 ∈ vs := by rw [List.getD_eq_getElem?_getD, List.getElem?_eq_getElem (by omega)]; exact List.getElem_mem _
    have hlt := h.1 _ hm
    show vlF (x :: vs) r (vs.getD p 0) = _
    rw [vlF, if_neg (by omega), vlF_at vs (r.drop 1) p h.2 (by omega), getD_drop, Nat.add_comm]

def subQ (a b : List Int) : Bool := a.all fun x => decide (x ∈ b)
end Go.Proofs.YtnbbbbfamlmfpaaGreat

/-
  What a semijoin keeps; seeking among sorted rows.
-/
namespace Go.Proofs.YtnbbbbfamlmfpaaGreat

theorem take_le : ∀ (n : Nat) {a b : List Int}, cmpL a b ≤ 0 → cmpL (a.take n) (b.take n) ≤ 0
  | 0, a, b, _ => by simp [cmpL]
  | n + 1, [], [], _ => by simp [cmpL]
  | n + 1, [], y :: b, _ => by simp [cmpL]
  | n + 1, x :: a, [], h => by simp [cmpL] at h
  | n + 1, x :: a, y :: b, h => by
    simp only [List.take_succ_cons]
    unfold cmpL at h ⊢
    by_cases h1 : x < y
    · rw [if_pos h1]; omega
    · rw [if_neg h1] at h ⊢
      by_cases h2 : y < x
      · rw [if_pos h2] at h; omega
      · rw [if_neg h2] at h ⊢
        exact take_le n h

theorem cmp_tri {a b c : List Int} (h1 : cmpL a b ≤ 0) (h2 : cmpL b c < 0) : cmpL a c < 0 := by
  rcases Int.lt_or_eq_of_le h1 with h | h
  · exact cmpL_trans h h2
  · rw [cmpL_eq h]; exact h2

theorem sl_le {rows : List (List Int)} (h : SL rows) {i j : Nat} (hij : i ≤ j) (hj : j < rows.length) : cmpL (rows.getD i []) (rows.getD j []) ≤ 0 := by
  rcases Nat.lt_or_ge i j with h1 | h1
  · have := List.pairwise_iff_getElem.1 h i j (by omega) hj h1
    rw [List.getD_eq_getElem?_getD, List.getElem?_eq_getElem (by omega), List.getD_eq_getElem?_getD, List.getElem?_eq_getElem hj]
    exact Int.le_of_lt this
  · rw [show i = j by omega, cmpL_self]; exact Int.le_refl _

/-- the place of the first row that does not come ahead of q -/
structure Sk (rows : List (List Int)) (q : List Int) (k : Nat) : Prop where
  le : k ≤ rows.length
  lo : ∀ j, j < k → cmpL ((rows.getD j []).take q.length) q < 0
  hi : ∀ j, k ≤ j → j < rows.length → ¬ cmpL ((rows.getD j []).take q.length) q < 0

def begB (rows : List (List Int)) (q : List Int) : Bool := rows.any fun r => decide (r.take q.length = q)

theorem sk_down {rows : List (List Int)} (h : SL rows) {q : List Int} {i j : Nat} (hij : i ≤ j) (hj : j < rows.length) (hc : cmpL ((rows.getD j []).take q.length) q < 0) : cmpL ((rows.getD i []).take q.length) q < 0 :=
  cmp_tri (take_le _ (sl_le h hij hj)) hc

theorem Sk.beg {rows : List (List Int)} {q : List Int} {k : Nat} (hS : SL rows) (h : Sk rows q k) : begB rows q = (decide (k < rows.length) && decide (cmpL ((rows.getD k []).take q.length) q = 0)) := by
  unfold begB
  by_cases hk : k < rows.length ∧ cmpL ((rows.getD k []).take q.length) q = 0
  · rw [decide_eq_true hk.1, decide_eq_true hk.2]
    refine List.any_eq_true.2 ⟨rows[k]'hk.1, List.getElem_mem _, decide_eq_true ?_⟩
    have := cmpL_eq hk.2
    rw [List.getD_eq_getElem?_getD, List.getElem?_eq_getElem hk.1] at this
    exact this
  · have e : (decide (k < rows.length) && decide (cmpL ((rows.getD k []).take q.length) q = 0)) = false := by
      rcases Classical.em (k < rows.length) with h1 | h1
      · rw [decide_eq_false (p := cmpL _ q = 0) (fun h2 => hk ⟨h1, h2⟩)]; simp
      · rw [decide_eq_false h1]; rfl
    rw [e, List.any_eq_false]
    intro r hr hc
    obtain ⟨j, hj, ej⟩ := List.getElem_of_mem hr
    have hc := of_decide_eq_true hc
    have e2 : (rows.getD j []).take q.length = q := by rw [List.getD_eq_getElem?_getD, List.getElem?_eq_getElem hj, ← hc, ← ej]; simp
    have hkj : k ≤ j := by
      rcases Nat.lt_or_ge j k with h1 | h1
      · have := h.lo j h1
        rw [e2, cmpL_self] at this
        omega
      · exact h1
    have h3 := take_le q.length (sl_le hS hkj hj)
    rw [e2] at h3
    have h4 := h.hi k (Nat.le_refl _) (by omega)
    exact hk ⟨by omega, by omega⟩

/-- the variables that both have -/
def shr (va vb : List Int) : List Int := va.filter fun x => decide (x ∈ vb)
theorem shr_right {va vb : List Int} {x : Int} (h : x ∈ shr va vb) : x ∈ vb := of_decide_eq_true (List.mem_filter.1 h).2
theorem shr_len (va vb : List Int) : (shr va vb).length ≤ va.length := List.length_filter_le _ _
/-- the places that are kept -/
def kp (p : Nat → Bool) (n : Nat) : List Nat := (List.range n).filter p
theorem kp_hit {p : Nat → Bool} {n : Nat} (h : p n = true) : kp p (n + 1) = kp p n ++ [n] := by
  unfold kp; rw [List.range_succ, List.filter_append]; simp [h]
theorem kp_miss {p : Nat → Bool} {n : Nat} (h : p n = false) : kp p (n + 1) = kp p n := by
  unfold kp; rw [List.range_succ, List.filter_append]; simp [h]
theorem kp_len (p : Nat → Bool) (n : Nat) : (kp p n).length ≤ n := Nat.le_trans (List.length_filter_le _ _) (by simp)
end Go.Proofs.YtnbbbbfamlmfpaaGreat

/-
  The rows that begin with a part lie one behind another; their next values, each once. Plain mathematics.
-/
namespace Go.Proofs.YtnbbbbfamlmfpaaGreat

def vlA (R : List (List Int)) (q : List Int) (i : Nat) : Int := (R.getD i []).getD q.length 0
def newA (R : List (List Int)) (q : List Int) (k j : Nat) : Bool := decide (j = 0) || !decide (vlA R q (k + j - 1) = vlA R q (k + j))
def VA (R : List (List Int)) (q : List Int) (k n : Nat) : List Int := (kp (newA R q k) n).map fun j => vlA R q (k + j)
/-- the first n rows from k on begin with q -/
structure Run (R : List (List Int)) (q : List Int) (k n : Nat) : Prop where
  le : k + n ≤ R.length
  beg : ∀ j, j < n → (R.getD (k + j) []).take q.length = q
section
variable {R : List (List Int)} {q : List Int} {k n : Nat}
theorem run_pre (hl : ∀ r ∈ R, q.length < r.length) {i : Nat} (hi : i < R.length) (h : (R.getD i []).take q.length = q) : q ++ [vlA R q i] <+: R.getD i [] := by
  have hm : R.getD i [] ∈ R := by rw [List.getD_eq_getElem?_getD, List.getElem?_eq_getElem hi]; exact List.getElem_mem hi
  have h1 := hl _ hm
  have e : q ++ [vlA R q i] = (R.getD i []).take (q.length + 1) := by rw [take_snoc h1, h]; rfl
  rw [e]
  exact List.take_prefix _ _
theorem run_le (hS : SL R) (hl : ∀ r ∈ R, q.length < r.length) {i j : Nat} (hij : i ≤ j) (hj : j < R.length) (h1 : (R.getD i []).take q.length = q) (h2 : (R.getD j []).take q.length = q) : vlA R q i ≤ vlA R q j := by
  by_cases e : i = j
  · subst e; exact Int.le_refl _
  · refine pre_le (run_pre hl (by omega) h1) (run_pre hl hj h2) ?_
    rw [List.getD_eq_getElem?_getD, List.getElem?_eq_getElem (show i < R.length by omega), List.getD_eq_getElem?_getD, List.getElem?_eq_getElem hj]
    exact List.pairwise_iff_getElem.1 hS i j (by omega) hj (by omega)
theorem VA_mem (x : Int) : ∀ n, x ∈ VA R q k n ↔ ∃ j, j < n ∧ vlA R q (k + j) = x
  | 0 => by unfold VA kp; simp
  | n + 1 => by
    have ih := VA_mem x n
    cases hb : newA R q k n
    · have e : VA R q k (n + 1) = VA R q k n := by unfold VA; rw [kp_miss hb]
      rw [e, ih]
      constructor
      · rintro ⟨j, hj, h⟩; exact ⟨j, by omega, h⟩
      · rintro ⟨j, hj, h⟩
        by_cases e2 : j = n
        · subst e2
          unfold newA at hb
          rw [Bool.or_eq_false_iff, decide_eq_false_iff_not, Bool.not_eq_false', decide_eq_true_eq] at hb
          exact ⟨j - 1, by omega, by rw [show k + (j - 1) = k + j - 1 by omega, hb.2]; exact h⟩
        · exact ⟨j, by omega, h⟩
    · have e : VA R q k (n + 1) = VA R q k n ++ [vlA R q (k + n)] := by unfold VA; rw [kp_hit hb, List.map_append]; rfl
      rw [e, List.mem_append, ih, List.mem_singleton]
      constructor
      · rintro (⟨j, hj, h⟩ | h)
        · exact ⟨j, by omega, h⟩
        · exact ⟨n, by omega, h.symm⟩
      · rintro ⟨j, hj, h⟩
        by_cases e2 : j = n
        · subst e2; exact Or.inr h.symm
        · exact Or.inl ⟨j, by omega, h⟩
theorem VA_asc (hS : SL R) (hl : ∀ r ∈ R, q.length < r.length) : ∀ n, Run R q k n → (VA R q k n).Pairwise (· < ·)
  | 0, _ => by unfold VA kp; simp
  | n + 1, h => by
    have ih := VA_asc hS hl n ⟨by have := h.le; omega, fun j hj => h.beg j (by omega)⟩
    cases hb : newA R q k n
    · have e : VA R q k (n + 1) = VA R q k n := by unfold VA; rw [kp_miss hb]
      rw [e]; exact ih
    · have e : VA R q k (n + 1) = VA R q k n ++ [vlA R q (k + n)] := by unfold VA; rw [kp_hit hb, List.map_append]; rfl
      rw [e, List.pairwise_append]
      refine ⟨ih, List.pairwise_singleton _ _, fun a ha b hb2 => ?_⟩
      rw [List.mem_singleton] at hb2
      subst hb2
      obtain ⟨j, hj, rfl⟩ := (VA_mem a n).1 ha
      have hle := h.le
      unfold newA at hb
      rw [Bool.or_eq_true, decide_eq_true_eq, Bool.not_eq_true', decide_eq_false_iff_not] at hb
      rcases hb with hb | hb
      · omega
      · have h1 := run_le hS hl (i := k + j) (j := k + n - 1) (by omega) (by omega) (h.beg j (by omega)) (by have := h.beg (n - 1) (by omega); rw [show k + (n - 1) = k + n - 1 by omega] at this; exact this)
        have h2 := run_le hS hl (i := k + n - 1) (j := k + n) (by omega) (by omega) (by have := h.beg (n - 1) (by omega); rw [show k + (n - 1) = k + n - 1 by omega] at this; exact this) (h.beg n (by omega))
        omega
/-- all rows that begin with the part: just behind them there is none -/
theorem VA_all (hS : SL R) (hl : ∀ r ∈ R, q.length < r.length) (hk : Sk R q k) (h : Run R q k n) (hE : k + n < R.length → (R.getD (k + n) []).take q.length ≠ q) (x : Int) : x ∈ VA R q k n ↔ ∃ r ∈ R, q ++ [x] <+: r := by
  rw [VA_mem]
  constructor
  · rintro ⟨j, hj, rfl⟩
    have hle := h.le
    refine ⟨R.getD (k + j) [], ?_, run_pre hl (by omega) (h.beg j hj)⟩
    rw [List.getD_eq_getElem?_getD, List.getElem?_eq_getElem (by omega)]
    exact List.getElem_mem _
  · rintro ⟨r, hr, hp⟩
    obtain ⟨i, hi, rfl⟩ := List.getElem_of_mem hr
    have hg : R.getD i [] = R[i] := by rw [List.getD_eq_getElem?_getD, List.getElem?_eq_getElem hi]; rfl
    rw [← hg] at hp
    obtain ⟨g1, g2, g3⟩ := pre_at hp
    have ht : (R.getD i []).take q.length = q := by
      obtain ⟨t, ht⟩ := hp
      rw [← ht, List.append_assoc, List.take_left]
    have hki : k ≤ i := by
      rcases Nat.lt_or_ge i k with h1 | h1
      · have := hk.lo i h1
        rw [ht, cmpL_self] at this
        omega
      · exact h1
    have hin : i < k + n := by
      rcases Nat.lt_or_ge i (k + n) with h1 | h1
      · exact h1
      · exfalso
        have h2 := take_le q.length (sl_le hS h1 hi)
        rw [ht] at h2
        have h3 := hk.hi (k + n) (by omega) (by omega)
        exact hE (by omega) (cmpL_eq (by omega))
    exact ⟨i - k, by omega, by rw [show k + (i - k) = i by omega]; exact g3⟩
end

end Go.Proofs.YtnbbbbfamlmfpaaGreat

/-
  spec: l2Seek, l2Begins.
-/
namespace Go.Proofs.YtnbbbbfamlmfpaaGreat
open Go.RowKit

theorem is_take {w : World} {ad : Addr} {n c m : Nat} {l : List Int} (h : IS w (.slice (some ad) n c) l) (hm : m ≤ l.length) : IS w (.slice (some ad) m c) (l.take m) := by
  obtain ⟨a, c', e, h1⟩ := h
  simp only [Value.slice.injEq] at e
  obtain ⟨rfl, -, rfl⟩ := e
  have hl : (l.take m).length = m := by rw [List.length_take]; omega
  refine ⟨_, c, by rw [hl], ?_⟩
  rcases h1 with h1 | ⟨b, o, e, h1⟩
  · exact Or.inl (by omega)
  · exact Or.inr ⟨b, o, e, fun j hj => by rw [getD_take (by omega)]; exact h1 j (by omega)⟩

set_option maxHeartbeats 4000000 in
set_option maxRecDepth 1000000 in
theorem l2Seek_calls (w : World) (vr vq : Value) (rows : List (List Int)) (q : List Int) (h : ISSc w vr rows) (hq : IS w vq q) (hS : SL rows) (hn : rows.length ≤ 1099511627776) (hl : ∀ r ∈ rows, q.length ≤ r.length ∧ r.length ≤ 1099511627776) :
    Calls Tryz.prog 52 #[vr, vq] w fun e w' => ∃ k : Nat, e = .returned (.int .i64 k) ∧ Sk rows q k ∧ ∃ d, w' = w.drewN d := by
  obtain ⟨ar, cr, rfl, hc⟩ := h
  have HC : Hid (∀ j, j < rows.length → ∃ (b o : Nat) (au : Option Addr) (lr cu : Nat), ar = some ⟨b, o, none⟩ ∧ w.cell? ⟨b, o + j, none⟩ = some (.slice au lr cu) ∧ q.length ≤ lr ∧ lr ≤ cu ∧ (au = none → lr = 0) ∧ ∀ d ad, au = some ad → Calls Tryz.prog 47 #[.slice (some ad) q.length cu, vq] (w.drewN d) fun e w' => e = .returned (.int .i64 (cmpL ((rows.getD j []).take q.length) q)) ∧ ∃ q', w' = (w.drewN d).drewN q') := hid fun j hj => by
    rcases hc with h0 | ⟨b, o, rfl, h⟩
    · omega
    · obtain ⟨u, h1, hI, a', n', c', e, hcap⟩ := h j hj
      have hm := hl _ (by rw [List.getD_eq_getElem?_getD, List.getElem?_eq_getElem hj]; exact List.getElem_mem _ : rows.getD j [] ∈ rows)
      have hI' := hI
      obtain ⟨au, cu, eu, h2⟩ := hI
      subst eu
      simp only [Value.slice.injEq] at e
      obtain ⟨-, rfl, rfl⟩ := e
      refine ⟨b, o, au, _, cu, rfl, h1, hm.1, hcap, fun e => ?_, fun d ad e => ?_⟩
      · rcases h2 with h2 | ⟨b2, o2, e2, -⟩
        · exact h2
        · rw [e] at e2; cases e2
      · subst e
        have h3 := is_take hI' hm.1
        exact l2Compare_calls (w.drewN d) _ vq _ q (h3.below (below_drewN (Below.refl _ _) d)) (hq.below (below_drewN (Below.refl _ _) d)) (by rw [List.length_take]; omega) (by omega)
  have HD : Hid (∀ i j, i ≤ j → j < rows.length → cmpL ((rows.getD j []).take q.length) q < 0 → cmpL ((rows.getD i []).take q.length) q < 0) := hid fun i j hij hj hc => sk_down hS hij hj hc
  have HF : Hid (∀ k, k ≤ rows.length → (∀ t, t < k → cmpL ((rows.getD t []).take q.length) q < 0) → (∀ t, k ≤ t → t < rows.length → ¬ cmpL ((rows.getD t []).take q.length) q < 0) → Sk rows q k) := hid fun k h1 h2 h3 => ⟨h1, h2, h3⟩
  have KN : Hid (q.length = 0 → ∀ d cu j, Calls Tryz.prog 47 #[.slice none 0 cu, vq] (w.drewN d) fun e w' => e = .returned (.int .i64 (cmpL ((rows.getD j []).take q.length) q)) ∧ ∃ q', w' = (w.drewN d).drewN q') := hid fun h0 d cu j => by
    rw [h0, List.take_zero]
    exact l2Compare_calls (w.drewN d) _ vq [] q ⟨none, cu, rfl, Or.inl rfl⟩ (hq.below (below_drewN (Below.refl _ _) d)) (by simp) (by omega)
  clear hc hS hl
  obtain ⟨aq, cq, rfl, -⟩ := hq
  generalize rows.length = n at *
  generalize hm : q.length = m at *
  have HMq := hid hm
  clear hm
  obtain ⟨C, hC⟩ : ∃ C : Nat → Int, C = fun j => cmpL ((rows.getD j []).take m) q := ⟨_, rfl⟩
  have HCC : Hid (∀ j, cmpL ((rows.getD j []).take m) q = C j) := hid fun j => by rw [hC]
  simp only [HCC.out] at HC HD HF KN
  clear hC HCC
  go_enter Tryz.func52, Tryz.ntmps52
  go_wp2
  go_loopg [5, 6] n (fun g s5 s6 wr => ∃ lo hi d : Nat, s5 = .int .i64 lo ∧ s6 = .int .i64 hi ∧ lo ≤ hi ∧ hi ≤ n ∧ hi - lo ≤ g ∧ wr = w.drewN d ∧ Hid ((∀ t, t < lo → C t < 0) ∧ (∀ t, hi ≤ t → t < n → ¬ C t < 0)))
  case atStart => exact ⟨0, n, 0, rfl, rfl, Nat.zero_le _, Nat.le_refl _, by omega, rfl, hid ⟨fun t ht => absurd ht (Nat.not_lt_zero _), fun t h1 h2 => by omega⟩⟩
  case round =>
    obtain ⟨lo, hi, d, rfl, rfl, hlh, hin, hg, rfl, I⟩ := hrel
    by_cases hlt : lo < hi
    · obtain ⟨b, o, au, lr, cu, ea, c1, hmr, hrc, hno, hcall⟩ := HC.out ((lo + hi) / 2) (by omega)
      subst ea
      have hmc : m ≤ cu := by omega
      have KC : Hid (∀ d, Calls Tryz.prog 47 #[.slice au m cu, .slice aq m cq] (w.drewN d) fun e w' => e = .returned (.int .i64 (C ((lo + hi) / 2))) ∧ ∃ q', w' = (w.drewN d).drewN q') := hid fun d => by
        cases au with
        | none => 
          have h0 : m = 0 := by have := hno rfl; omega
          have := KN.out h0 d cu ((lo + hi) / 2)
          rw [h0] at this ⊢
          exact this
        | some ad => exact hcall d ad rfl
      have HUp : Hid (C ((lo + hi) / 2) < 0 → ∀ t, t < (lo + hi) / 2 + 1 → C t < 0) := hid fun h t ht => HD.out t ((lo + hi) / 2) (by omega) (by omega) h
      have HDn : Hid (¬ C ((lo + hi) / 2) < 0 → ∀ t, (lo + hi) / 2 ≤ t → t < n → ¬ C t < 0) := hid fun h t h1 h2 h3 => h (HD.out ((lo + hi) / 2) t h1 h2 h3)
      clear hcall hno HC KN HD HF
      generalize C ((lo + hi) / 2) = y at *
      by_cases hy : y < 0
      · have HI2 : Hid ((∀ t, t < (lo + hi) / 2 + 1 → C t < 0) ∧ (∀ t, hi ≤ t → t < n → ¬ C t < 0)) := hid ⟨HUp.out hy, I.out.2⟩
        have hy' : decide (y < 0) = true := decide_eq_true hy
        clear I HUp HDn
        go_wp2_with fail
        refine (KC.out _).mono ?_
        rintro e w2 ⟨rfl, d2, rfl⟩
        go_wp2_with fail
        go_roundg (hi - ((lo + hi) / 2 + 1))
        case measure => omega
        case rel => exact ⟨(lo + hi) / 2 + 1, hi, _, by rw [show ((lo : Int) + (hi : Int)) / 2 + 1 = (((lo + hi) / 2 + 1 : Nat) : Int) by omega], rfl, by omega, hin, Nat.le_refl _, rfl, HI2⟩
      · have HI2 : Hid ((∀ t, t < lo → C t < 0) ∧ (∀ t, (lo + hi) / 2 ≤ t → t < n → ¬ C t < 0)) := hid ⟨I.out.1, HDn.out hy⟩
        have hy' : decide (y < 0) = false := decide_eq_false hy
        clear I HUp HDn
        go_wp2_with fail
        refine (KC.out _).mono ?_
        rintro e w2 ⟨rfl, d2, rfl⟩
        go_wp2_with fail
        go_roundg ((lo + hi) / 2 - lo)
        case measure => omega
        case rel => exact ⟨lo, (lo + hi) / 2, _, rfl, by rw [show ((lo : Int) + (hi : Int)) / 2 = (((lo + hi) / 2 : Nat) : Int) by omega], by omega, by omega, Nat.le_refl _, rfl, HI2⟩
    · obtain rfl : hi = lo := by omega
      have HE := hid (HF.out hi hin I.out.1 (fun t h1 h2 => by have := I.out.2 t h1 h2; omega))
      clear HC HD HF KN I
      go_wp2_with fail
      go_ret
      exact ⟨_, rfl, HE.out, _, rfl⟩

set_option maxHeartbeats 4000000 in
set_option maxRecDepth 1000000 in
theorem l2Begins_calls (w : World) (vr vq : Value) (rows : List (List Int)) (q : List Int) (h : ISSc w vr rows) (hq : IS w vq q) (hS : SL rows) (hn : rows.length ≤ 1099511627776) (hl : ∀ r ∈ rows, q.length ≤ r.length ∧ r.length ≤ 1099511627776) :
    Calls Tryz.prog 53 #[vr, vq] w fun e w' => e = .returned (.bool (begB rows q)) ∧ ∃ d, w' = w.drewN d := by
  have KS := hid (l2Seek_calls w vr vq rows q h hq hS hn hl)
  have HB : Hid (∀ k, Sk rows q k → k ≤ rows.length ∧ begB rows q = (decide (k < rows.length) && decide (cmpL ((rows.getD k []).take q.length) q = 0))) := hid fun k hk => ⟨hk.le, hk.beg hS⟩
  obtain ⟨ar, cr, rfl, hc⟩ := h
  have HC : Hid (∀ j, j < rows.length → ∃ (b o : Nat) (au : Option Addr) (lr cu : Nat), ar = some ⟨b, o, none⟩ ∧ w.cell? ⟨b, o + j, none⟩ = some (.slice au lr cu) ∧ q.length ≤ lr ∧ lr ≤ cu ∧ ∀ d, Calls Tryz.prog 47 #[.slice au q.length cu, vq] (w.drewN d) fun e w' => e = .returned (.int .i64 (cmpL ((rows.getD j []).take q.length) q)) ∧ ∃ q', w' = (w.drewN d).drewN q') := hid fun j hj => by
    rcases hc with h0 | ⟨b, o, rfl, h⟩
    · omega
    · obtain ⟨u, h1, hI, a', n', c', e, hcap⟩ := h j hj
      have hm := hl _ (by rw [List.getD_eq_getElem?_getD, List.getElem?_eq_getElem hj]; exact List.getElem_mem _ : rows.getD j [] ∈ rows)
      have hI' := hI
      obtain ⟨au, cu, eu, h2⟩ := hI
      subst eu
      simp only [Value.slice.injEq] at e
      obtain ⟨-, rfl, rfl⟩ := e
      refine ⟨b, o, au, _, cu, rfl, h1, hm.1, hcap, fun d => ?_⟩
      have hqd := hq.below (below_drewN (Below.refl _ _) d)
      cases au with
      | none =>
        have h0 : (rows.getD j []).length = 0 := by
          rcases h2 with h2 | ⟨b2, o2, e2, -⟩
          · exact h2
          · cases e2
        have e1 : (rows.getD j []).take q.length = [] := by rw [List.length_eq_zero_iff.1 h0, List.take_nil]
        have e2 : q.length = 0 := by omega
        rw [e1, e2]
        exact l2Compare_calls (w.drewN d) _ vq [] q ⟨none, cu, rfl, Or.inl rfl⟩ hqd (by simp) (by omega)
      | some ad =>
        have h3 := is_take hI' hm.1
        exact l2Compare_calls (w.drewN d) _ vq _ q (h3.below (below_drewN (Below.refl _ _) d)) hqd (by rw [List.length_take]; omega) (by omega)
  clear hc hS hl
  obtain ⟨aq, cq, rfl, -⟩ := hq
  generalize begB rows q = ans at *
  obtain ⟨C, hC⟩ : ∃ C : Nat → Int, C = fun j => cmpL ((rows.getD j []).take q.length) q := ⟨_, rfl⟩
  have HCC : Hid (∀ j, cmpL ((rows.getD j []).take q.length) q = C j) := hid fun j => by rw [hC]
  simp only [HCC.out] at HC HB
  clear hC HCC
  generalize rows.length = n at *
  generalize q.length = m at *
  go_enter Tryz.func53, Tryz.ntmps53
  go_wp2_with fail
  refine KS.out.mono ?_
  rintro e w2 ⟨k, rfl, hk, d, rfl⟩
  obtain ⟨hkn, hans⟩ := HB.out k hk
  clear KS HB hk
  by_cases hlt : k < n
  · obtain ⟨b, o, au, lr, cu, ea, c1, hmr, hrc, hcall⟩ := HC.out k hlt
    subst ea
    have i1 : (k : Int) < (n : Int) := by omega
    have hmc : m ≤ cu := by omega
    have KC := hid hcall
    have HA : Hid (ans = decide (C k = 0)) := hid (by rw [hans, decide_eq_true hlt, Bool.true_and])
    clear hcall HC hans
    generalize C k = y at *
    go_wp2_with fail
    refine (KC.out _).mono ?_
    rintro e w3 ⟨rfl, d3, rfl⟩
    go_wp2_with fail
    go_ret
    exact ⟨ret_bool (by rw [HA.out]; first | rfl | simp), _, rfl⟩
  · have i1 : ¬ ((k : Int) < (n : Int)) := by omega
    rw [decide_eq_false hlt, Bool.false_and] at hans
    subst hans
    clear HC
    go_wp2_with fail
    go_ret
    exact ⟨rfl, _, rfl⟩

end Go.Proofs.YtnbbbbfamlmfpaaGreat
