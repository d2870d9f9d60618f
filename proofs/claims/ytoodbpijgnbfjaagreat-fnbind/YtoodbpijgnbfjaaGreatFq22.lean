import Derived.Deep.LoopGhost
import Derived.Laws.Bits64b
import Derived.Laws.CopyOwn
import Derived.Laws.OwnMore
import Derived.Lib.SliceRun
import Derived.Test.YtoodbpijgnbfjaaGreatFq05
import Derived.Test.YtoodbpijgnbfjaaGreatFq06
import Derived.Test.YtoodbpijgnbfjaaGreatFq07
import Derived.Test.YtoodbpijgnbfjaaGreatFq21
namespace Go.Proofs.YtoodbpijgnbfjaaGreat
open Go.RowKit

set_option maxHeartbeats 1000000 in
set_option maxRecDepth 1000000 in
theorem cloneI_calls (w : World) (v : Value) (l : List Int) (h : IS w v l) (hl : l.length ≤ 100000) :
    Calls Tryz.prog 115 #[v] w fun e w' => ∃ v', e = .returned v' ∧ w'.ownsRow w.heap.size 3 1 v' l.length (l.map (Value.int .i64)) ∧ Below w.heap.size w w' := by
  obtain ⟨i0, hi, hz0, hz1, hz2⟩ := info_parts Tryz.infoInt
  obtain ⟨a, cap, rfl, hc⟩ := h
  cases a with
  | none =>
    have h0 : l.length = 0 := by
      rcases hc with h0 | ⟨b, o, e, -⟩
      · exact h0
      · cases e
    have e0 : l = [] := List.eq_nil_of_length_eq_zero h0
    subst e0
    have hq : ∀ w : World, (binOp .eql 33 (.slice none 0 cap) (.slice none 0 0)).run Tryz.prog w = .ok (.bool true) w := fun w => Lib.run_eql_slice_nil w 33 3 none 0 cap 0 0 Tryz.underlying33
    go_enter Tryz.func115, Tryz.ntmps115
    go_wp2
    go_ret
    exact ⟨_, rfl, World.ownsRow_nil _ _ _ _, Below.refl _ _⟩
  | some ad =>
    have hq : ∀ w : World, (binOp .eql 33 (.slice (some ad) l.length cap) (.slice none 0 0)).run Tryz.prog w = .ok (.bool false) w := fun w => Lib.run_eql_slice_nil w 33 3 (some ad) l.length cap 0 0 Tryz.underlying33
    have hown : (w.alloc (.cells #[] 3)).ownsRow w.heap.size 3 1 (.slice (some ⟨w.heap.size, 0, none⟩) 0 0) 0 [] := World.ownsRow_made w #[] 0 (Nat.le_refl _) (by decide) rfl
    have hbA : Below w.heap.size w (w.alloc (.cells #[] 3)) := (Below.refl _ _).alloc (Nat.le_refl _) _
    by_cases h0 : l.length = 0
    · have e0 : l = [] := List.eq_nil_of_length_eq_zero h0
      subst e0
      have hq0 : ∀ w : World, (binOp .eql 33 (.slice (some ad) 0 cap) (.slice none 0 0)).run Tryz.prog w = .ok (.bool false) w := hq
      clear hq hc h0
      go_enter Tryz.func115, Tryz.ntmps115
      go_wp2_with (first | (at_builtin; refine wpList_append_own _ rfl _ _ 33 rfl w.heap.size 3 i0 (.int .i64 0) 1 8 Tryz.underlying33 hi hz0 hz1 hz2 rfl (by decide) (.slice (some ⟨w.heap.size, 0, none⟩) 0 0) 0 [] rfl hown ad 0 cap [] rfl rfl (fun j u hu => by simp at hu) (fun u hu => by cases hu) (by unfold maxLen; omega) (by omega) (by simp) ?_; intro v3 w3 hown3 hgrow3 _) | fail)
      go_ret
      exact ⟨_, rfl, hown3, hbA.grown hgrow3 (by simp) (fun k hk => (hown.lt k hk).1)⟩
    · obtain ⟨b, o, e, hc'⟩ : ∃ b o, some ad = some (⟨b, o, none⟩ : Addr) ∧ ∀ j, j < l.length → w.cell? ⟨b, o + j, none⟩ = some (.int .i64 (l.getD j 0)) := by
        rcases hc with h1 | h1
        · omega
        · exact h1
      obtain rfl := Option.some.inj e
      clear hc e
      have hnews : ∀ j u, (l.map (Value.int .i64))[j]? = some u → (w.alloc (.cells #[] 3)).cell? ((⟨b, o, none⟩ : Addr).add j) = some u := fun j u hu => by
        have hj : j < l.length := by
          rcases Nat.lt_or_ge j l.length with h | h
          · exact h
          · rw [List.getElem?_eq_none (by simpa using h)] at hu; cases hu
        rw [show ((⟨b, o, none⟩ : Addr).add j) = ⟨b, o + j, none⟩ by unfold Addr.add; split <;> simp_all, hbA.cell (p := ⟨b, o + j, none⟩) (World.block_lt_of_cell? w _ (hc' j hj)), hc' j hj, ← hu, List.getElem?_map, List.getD_eq_getElem?_getD, List.getElem?_eq_getElem hj]
        rfl
      have HNW := hid hnews
      clear hnews hc'
      obtain ⟨n, hn⟩ : ∃ n, n = l.length := ⟨_, rfl⟩
      have HN := hid hn
      rw [← hn] at hq hl h0 ⊢
      clear hn
      go_enter Tryz.func115, Tryz.ntmps115
      go_wp2_with (first | (at_builtin; refine wpList_append_lies _ rfl _ _ 33 rfl w.heap.size 3 i0 (.int .i64 0) 1 8 Tryz.underlying33 hi hz0 hz1 hz2 rfl (by decide) (.slice (some ⟨w.heap.size, 0, none⟩) 0 0) 0 [] rfl hown ⟨b, o, none⟩ n cap (l.map (Value.int .i64)) rfl (by rw [List.length_map, HN.out]; omega) HNW.out (fun u hu => by obtain ⟨x, _, rfl⟩ := List.mem_map.1 hu; rfl) (by omega) (by unfold maxLen; omega) (by omega) (by simp) _ rfl ?_; intro g3 cp3 w3 hown3 hgrow3 hat3 hlt3) | fail)
      go_ret
      refine ⟨_, rfl, ?_, hbA.grown hgrow3 (by simp) (fun k hk => (hown.lt k hk).1)⟩
      simpa using hown3

end Go.Proofs.YtoodbpijgnbfjaaGreat

namespace Go.Proofs.YtoodbpijgnbfjaaGreat
open Go.RowKit

end Go.Proofs.YtoodbpijgnbfjaaGreat

namespace Go.Proofs.YtoodbpijgnbfjaaGreat
open Go.RowKit

end Go.Proofs.YtoodbpijgnbfjaaGreat

namespace Go.Proofs.YtoodbpijgnbfjaaGreat
open Go.RowKit

theorem own_shape {w : World} {B n s : Nat} {e : TypeId} {v : Value} {xs : List Value} (h : w.ownsRow B e s v n xs) : ∃ a cap, v = .slice a n cap := by
  rcases h.2 with ⟨rfl, hn⟩ | ⟨g, cap, cur, rfl, _⟩
  · exact ⟨none, 0, by rw [hn]⟩
  · exact ⟨_, cap, rfl⟩
structure TX (W : World) (p : Nat) (v0 v1 v2 : Value) : Prop where
  blk : W.heap[p]? = some (.cells #[v0, v1, v2] 71 (0, 0))
section
variable {W W' : World} {p : Nat} {v0 v1 v2 : Value}
theorem TX.lt (h : TX W p v0 v1 v2) : p < W.heap.size := by
  rcases Nat.lt_or_ge p W.heap.size with h1 | h1
  · exact h1
  · have := h.blk; rw [Array.getElem?_eq_none h1] at this; cases this
theorem TX.below (h : TX W p v0 v1 v2) (hb : Below W.heap.size W W') : TX W' p v0 v1 v2 := ⟨(hb.block p h.lt).trans h.blk⟩
theorem TX.c0 (h : TX W p v0 v1 v2) : W.cell? ⟨p, 0, none⟩ = some v0 := by rw [cell_of_row _ _ _ _ _ _ h.blk]; rfl
theorem TX.c1 (h : TX W p v0 v1 v2) : W.cell? ⟨p, 1, none⟩ = some v1 := by rw [cell_of_row _ _ _ _ _ _ h.blk]; rfl
theorem TX.c2 (h : TX W p v0 v1 v2) : W.cell? ⟨p, 2, none⟩ = some v2 := by rw [cell_of_row _ _ _ _ _ _ h.blk]; rfl
theorem TX.made (W : World) (v0 v1 v2 : Value) : TX (W.alloc (.cells #[v0, v1, v2] 71)) W.heap.size v0 v1 v2 := ⟨heap_alloc_new _ _⟩
end

end Go.Proofs.YtoodbpijgnbfjaaGreat

namespace Go.Proofs.YtoodbpijgnbfjaaGreat

theorem uniqI : ∀ {a b : List Int}, a.Pairwise (· < ·) → b.Pairwise (· < ·) → (∀ x, x ∈ a ↔ x ∈ b) → a = b
  | [], [], _, _, _ => rfl
  | [], y :: b, _, _, h => by have := (h y).2 (List.mem_cons_self ..); cases this
  | x :: a, [], _, _, h => by have := (h x).1 (List.mem_cons_self ..); cases this
  | x :: a, y :: b, ha, hb, h => by
    rw [List.pairwise_cons] at ha hb
    have hxy : x = y := by
      rcases List.mem_cons.1 ((h x).1 (List.mem_cons_self ..)) with e | e
      · exact e
      · rcases List.mem_cons.1 ((h y).2 (List.mem_cons_self ..)) with e2 | e2
        · exact e2.symm
        · have h1 := hb.1 x e
          have h2 := ha.1 y e2
          omega
    subst hxy
    rw [uniqI (a := a) (b := b) ha.2 hb.2 fun z => ?_]
    constructor
    · intro hz
      rcases List.mem_cons.1 ((h z).1 (List.mem_cons_of_mem _ hz)) with e | e
      · subst e; have := ha.1 _ hz; omega
      · exact e
    · intro hz
      rcases List.mem_cons.1 ((h z).2 (List.mem_cons_of_mem _ hz)) with e | e
      · subst e; have := hb.1 _ hz; omega
      · exact e

theorem vlF_at : ∀ (vs r : List Int) (p : Nat), vs.Pairwise (· < ·) → p < vs.length → vlF vs r (vs.getD p 0) = r.getD p 0
  | [], _, p, _, h => by simp at h
  | x :: vs, r, 0, _, _ => by simp [vlF]
  | x :: vs, r, p + 1, h, hp => by
    rw [List.pairwise_cons] at h
    simp only [List.length_cons] at hp
    have hm : vs.getD p 0 ∈ vs := by rw [List.getD_eq_getElem?_getD, List.getElem?_eq_getElem (by omega)]; exact List.getElem_mem _
    have hlt := h.1 _ hm
    show vlF (x :: vs) r (vs.getD p 0) = _
    rw [vlF, if_neg (by omega), vlF_at vs (r.drop 1) p h.2 (by omega), getD_drop, Nat.add_comm]

theorem places_vals (vs vars : List Int) : (plc (fun i => decide (vs.getD i 0 ∈ vars)) vs.length).map (fun p => vs.getD p.toNat 0) = vs.filter (fun x => decide (x ∈ vars)) := by
  unfold plc
  rw [List.map_map]
  have e : vs = (List.range vs.length).map (fun i => vs.getD i 0) := by
    refine List.ext_getElem? fun i => ?_
    by_cases h : i < vs.length
    · rw [List.getElem?_map, List.getElem?_range h, List.getElem?_eq_getElem h, Option.map_some, List.getD_eq_getElem?_getD, List.getElem?_eq_getElem h]; rfl
    · rw [List.getElem?_eq_none (by omega), List.getElem?_eq_none (by simp; omega)]
  have h2 : vs.filter (fun x => decide (x ∈ vars)) = ((List.range vs.length).filter fun i => decide (vs.getD i 0 ∈ vars)).map fun i => vs.getD i 0 := by
    conv => lhs; rw [e]
    rw [List.filter_map]
    rfl
  rw [h2]
  rfl

theorem proj_row {vs vars r : List Int} (h1 : vs.Pairwise (· < ·)) (h2 : vars.Pairwise (· < ·)) (hs : ∀ x ∈ vars, x ∈ vs) : atP r (plc (fun i => decide (vs.getD i 0 ∈ vars)) vs.length) = prjR vs vars r := by
  have hv : vs.filter (fun x => decide (x ∈ vars)) = vars := uniqI (h1.filter _) h2 fun x => by
    rw [List.mem_filter, decide_eq_true_eq]
    exact ⟨fun h => h.2, fun h => ⟨hs x h, h⟩⟩
  unfold prjR atP
  conv => rhs; rw [← hv, ← places_vals]
  rw [List.map_map]
  refine List.map_congr_left fun p hp => ?_
  unfold plc at hp
  rw [List.mem_map] at hp
  obtain ⟨j, hj, e⟩ := hp
  rw [List.mem_filter, List.mem_range] at hj
  simp only [Int.ofNat_eq_natCast] at e
  subst e
  simp only [Function.comp_apply, Int.toNat_natCast]
  rw [vlF_at vs r j h1 hj.1]
def subQ (a b : List Int) : Bool := a.all fun x => decide (x ∈ b)
end Go.Proofs.YtoodbpijgnbfjaaGreat

namespace Go.Proofs.YtoodbpijgnbfjaaGreat

theorem take_le : ∀ (n : Nat) {a b : List Int}, cmpL a b ≤ 0 → cmpL (a.take n) (b.take n) ≤ 0
  | 0, a, b, _ => by simp [cmpL]
  | n + 1, [], [], _ => by simp [cmpL]
  | n + 1, [], y :: b, _ => by simp [cmpL]
  | n + 1, x :: a, [], h => by simp [cmpL] at h
  | n + 1, x :: a, y :: b, h => by
    simp only [List.take_succ_cons]
    unfold cmpL at h ⊢
    by_cases h1 : x < y
    · rw [if_pos h1]; omega
    · rw [if_neg h1] at h ⊢
      by_cases h2 : y < x
      · rw [if_pos h2] at h; omega
      · rw [if_neg h2] at h ⊢
        exact take_le n h

theorem cmp_tri {a b c : List Int} (h1 : cmpL a b ≤ 0) (h2 : cmpL b c < 0) : cmpL a c < 0 := by
  rcases Int.lt_or_eq_of_le h1 with h | h
  · exact cmpL_trans h h2
  · rw [cmpL_eq h]; exact h2

theorem sl_le {rows : List (List Int)} (h : SL rows) {i j : Nat} (hij : i ≤ j) (hj : j < rows.length) : cmpL (rows.getD i []) (rows.getD j []) ≤ 0 := by
  rcases Nat.lt_or_ge i j with h1 | h1
  · have := List.pairwise_iff_getElem.1 h i j (by omega) hj h1
    rw [List.getD_eq_getElem?_getD, List.getElem?_eq_getElem (by omega), List.getD_eq_getElem?_getD, List.getElem?_eq_getElem hj]
    exact Int.le_of_lt this
  · rw [show i = j by omega, cmpL_self]; exact Int.le_refl _

structure Sk (rows : List (List Int)) (q : List Int) (k : Nat) : Prop where
  le : k ≤ rows.length
  lo : ∀ j, j < k → cmpL ((rows.getD j []).take q.length) q < 0
  hi : ∀ j, k ≤ j → j < rows.length → ¬ cmpL ((rows.getD j []).take q.length) q < 0

theorem sk_down {rows : List (List Int)} (h : SL rows) {q : List Int} {i j : Nat} (hij : i ≤ j) (hj : j < rows.length) (hc : cmpL ((rows.getD j []).take q.length) q < 0) : cmpL ((rows.getD i []).take q.length) q < 0 :=
  cmp_tri (take_le _ (sl_le h hij hj)) hc

def shr (va vb : List Int) : List Int := va.filter fun x => decide (x ∈ vb)
theorem shr_right {va vb : List Int} {x : Int} (h : x ∈ shr va vb) : x ∈ vb := of_decide_eq_true (List.mem_filter.1 h).2
theorem shr_len (va vb : List Int) : (shr va vb).length ≤ va.length := List.length_filter_le _ _
def kp (p : Nat → Bool) (n : Nat) : List Nat := (List.range n).filter p
theorem kp_hit {p : Nat → Bool} {n : Nat} (h : p n = true) : kp p (n + 1) = kp p n ++ [n] := by
  unfold kp; rw [List.range_succ, List.filter_append]; simp [h]
theorem kp_miss {p : Nat → Bool} {n : Nat} (h : p n = false) : kp p (n + 1) = kp p n := by
  unfold kp; rw [List.range_succ, List.filter_append]; simp [h]
theorem kp_len (p : Nat → Bool) (n : Nat) : (kp p n).length ≤ n := Nat.le_trans (List.length_filter_le _ _) (by simp)
end Go.Proofs.YtoodbpijgnbfjaaGreat

namespace Go.Proofs.YtoodbpijgnbfjaaGreat

def vlA (R : List (List Int)) (q : List Int) (i : Nat) : Int := (R.getD i []).getD q.length 0
def newA (R : List (List Int)) (q : List Int) (k j : Nat) : Bool := decide (j = 0) || !decide (vlA R q (k + j - 1) = vlA R q (k + j))
def VA (R : List (List Int)) (q : List Int) (k n : Nat) : List Int := (kp (newA R q k) n).map fun j => vlA R q (k + j)
structure Run (R : List (List Int)) (q : List Int) (k n : Nat) : Prop where
  le : k + n ≤ R.length
  beg : ∀ j, j < n → (R.getD (k + j) []).take q.length = q
section
variable {R : List (List Int)} {q : List Int} {k n : Nat}
theorem run_pre (hl : ∀ r ∈ R, q.length < r.length) {i : Nat} (hi : i < R.length) (h : (R.getD i []).take q.length = q) : q ++ [vlA R q i] <+: R.getD i [] := by
  have hm : R.getD i [] ∈ R := by rw [List.getD_eq_getElem?_getD, List.getElem?_eq_getElem hi]; exact List.getElem_mem hi
  have h1 := hl _ hm
  have e : q ++ [vlA R q i] = (R.getD i []).take (q.length + 1) := by rw [take_snoc h1, h]; rfl
  rw [e]
  exact List.take_prefix _ _
theorem run_le (hS : SL R) (hl : ∀ r ∈ R, q.length < r.length) {i j : Nat} (hij : i ≤ j) (hj : j < R.length) (h1 : (R.getD i []).take q.length = q) (h2 : (R.getD j []).take q.length = q) : vlA R q i ≤ vlA R q j := by
  by_cases e : i = j
  · subst e; exact Int.le_refl _
  · refine pre_le (run_pre hl (by omega) h1) (run_pre hl hj h2) ?_
    rw [List.getD_eq_getElem?_getD, List.getElem?_eq_getElem (show i < R.length by omega), List.getD_eq_getElem?_getD, List.getElem?_eq_getElem hj]
    exact List.pairwise_iff_getElem.1 hS i j (by omega) hj (by omega)
theorem VA_mem (x : Int) : ∀ n, x ∈ VA R q k n ↔ ∃ j, j < n ∧ vlA R q (k + j) = x
  | 0 => by unfold VA kp; simp
  | n + 1 => by
    have ih := VA_mem x n
    cases hb : newA R q k n
    · have e : VA R q k (n + 1) = VA R q k n := by unfold VA; rw [kp_miss hb]
      rw [e, ih]
      constructor
      · rintro ⟨j, hj, h⟩; exact ⟨j, by omega, h⟩
      · rintro ⟨j, hj, h⟩
        by_cases e2 : j = n
        · subst e2
          unfold newA at hb
          rw [Bool.or_eq_false_iff, decide_eq_false_iff_not, Bool.not_eq_false', decide_eq_true_eq] at hb
          exact ⟨j - 1, by omega, by rw [show k + (j - 1) = k + j - 1 by omega, hb.2]; exact h⟩
        · exact ⟨j, by omega, h⟩
    · have e : VA R q k (n + 1) = VA R q k n ++ [vlA R q (k + n)] := by unfold VA; rw [kp_hit hb, List.map_append]; rfl
      rw [e, List.mem_append, ih, List.mem_singleton]
      constructor
      · rintro (⟨j, hj, h⟩ | h)
        · exact ⟨j, by omega, h⟩
        · exact ⟨n, by omega, h.symm⟩
      · rintro ⟨j, hj, h⟩
        by_cases e2 : j = n
        · subst e2; exact Or.inr h.symm
        · exact Or.inl ⟨j, by omega, h⟩
theorem VA_asc (hS : SL R) (hl : ∀ r ∈ R, q.length < r.length) : ∀ n, Run R q k n → (VA R q k n).Pairwise (· < ·)
  | 0, _ => by unfold VA kp; simp
  | n + 1, h => by
    have ih := VA_asc hS hl n ⟨by have := h.le; omega, fun j hj => h.beg j (by omega)⟩
    cases hb : newA R q k n
    · have e : VA R q k (n + 1) = VA R q k n := by unfold VA; rw [kp_miss hb]
      rw [e]; exact ih
    · have e : VA R q k (n + 1) = VA R q k n ++ [vlA R q (k + n)] := by unfold VA; rw [kp_hit hb, List.map_append]; rfl
      rw [e, List.pairwise_append]
      refine ⟨ih, List.pairwise_singleton _ _, fun a ha b hb2 => ?_⟩
      rw [List.mem_singleton] at hb2
      subst hb2
      obtain ⟨j, hj, rfl⟩ := (VA_mem a n).1 ha
      have hle := h.le
      unfold newA at hb
      rw [Bool.or_eq_true, decide_eq_true_eq, Bool.not_eq_true', decide_eq_false_iff_not] at hb
      rcases hb with hb | hb
      · omega
      · have h1 := run_le hS hl (i := k + j) (j := k + n - 1) (by omega) (by omega) (h.beg j (by omega)) (by have := h.beg (n - 1) (by omega); rw [show k + (n - 1) = k + n - 1 by omega] at this; exact this)
        have h2 := run_le hS hl (i := k + n - 1) (j := k + n) (by omega) (by omega) (by have := h.beg (n - 1) (by omega); rw [show k + (n - 1) = k + n - 1 by omega] at this; exact this) (h.beg n (by omega))
        omega
theorem VA_all (hS : SL R) (hl : ∀ r ∈ R, q.length < r.length) (hk : Sk R q k) (h : Run R q k n) (hE : k + n < R.length → (R.getD (k + n) []).take q.length ≠ q) (x : Int) : x ∈ VA R q k n ↔ ∃ r ∈ R, q ++ [x] <+: r := by
  rw [VA_mem]
  constructor
  · rintro ⟨j, hj, rfl⟩
    have hle := h.le
    refine ⟨R.getD (k + j) [], ?_, run_pre hl (by omega) (h.beg j hj)⟩
    rw [List.getD_eq_getElem?_getD, List.getElem?_eq_getElem (by omega)]
    exact List.getElem_mem _
  · rintro ⟨r, hr, hp⟩
    obtain ⟨i, hi, rfl⟩ := List.getElem_of_mem hr
    have hg : R.getD i [] = R[i] := by rw [List.getD_eq_getElem?_getD, List.getElem?_eq_getElem hi]; rfl
    rw [← hg] at hp
    obtain ⟨g1, g2, g3⟩ := pre_at hp
    have ht : (R.getD i []).take q.length = q := by
      obtain ⟨t, ht⟩ := hp
      rw [← ht, List.append_assoc, List.take_left]
    have hki : k ≤ i := by
      rcases Nat.lt_or_ge i k with h1 | h1
      · have := hk.lo i h1
        rw [ht, cmpL_self] at this
        omega
      · exact h1
    have hin : i < k + n := by
      rcases Nat.lt_or_ge i (k + n) with h1 | h1
      · exact h1
      · exfalso
        have h2 := take_le q.length (sl_le hS h1 hi)
        rw [ht] at h2
        have h3 := hk.hi (k + n) (by omega) (by omega)
        exact hE (by omega) (cmpL_eq (by omega))
    exact ⟨i - k, by omega, by rw [show k + (i - k) = i by omega]; exact g3⟩
end

end Go.Proofs.YtoodbpijgnbfjaaGreat

namespace Go.Proofs.YtoodbpijgnbfjaaGreat
open Go.RowKit

end Go.Proofs.YtoodbpijgnbfjaaGreat

namespace Go.Proofs.YtoodbpijgnbfjaaGreat
open Go.RowKit

end Go.Proofs.YtoodbpijgnbfjaaGreat

namespace Go.Proofs.YtoodbpijgnbfjaaGreat
open Go.RowKit

theorem setB_okAt {l : List Int} (h : setB l = true) {i : Nat} (hi : i < l.length) : okAt l i = true := by
  unfold setB at h
  rw [List.all_eq_true] at h
  exact h i (by simpa using hi)
theorem setB_low {l : List Int} (h : setB l = true) : ∀ i, i < l.length → (i : Int) ≤ l.getD i 0 ∧ l.getD i 0 < 6
  | 0, hi => by
    have := setB_okAt h hi
    unfold okAt at this
    simp only [Bool.and_eq_true, decide_eq_true_eq] at this
    omega
  | i + 1, hi => by
    have := setB_okAt h hi
    have ih := setB_low h i (by omega)
    unfold okAt at this
    simp only [Bool.and_eq_true, Bool.or_eq_true, decide_eq_true_eq, Nat.add_sub_cancel] at this
    omega
theorem setB_six {l : List Int} (h : setB l = true) : l.length ≤ 6 := by
  rcases Nat.lt_or_ge 6 l.length with h1 | h1
  · have := setB_low h 6 h1
    omega
  · exact h1
theorem setB_pw {l : List Int} (h : setB l = true) : l.Pairwise (· < ·) := by
  have step : ∀ j, j < l.length → ∀ i, i < j → l.getD i 0 < l.getD j 0 := by
    intro j
    induction j with
    | zero => intro _ i hi; omega
    | succ j ih =>
      intro hj i hi
      have := setB_okAt h hj
      unfold okAt at this
      simp only [Bool.and_eq_true, Bool.or_eq_true, decide_eq_true_eq, Nat.add_sub_cancel] at this
      by_cases e : i = j
      · subst e; omega
      · have := ih (by omega) i (by omega); omega
  rw [List.pairwise_iff_getElem]
  intro i j hi hj hij
  have := step j hj i hij
  rw [List.getD_eq_getElem?_getD, List.getElem?_eq_getElem hi, List.getD_eq_getElem?_getD, List.getElem?_eq_getElem hj] at this
  exact this
theorem tableB_rows {vs : List Int} {rows : List (List Int)} {ws : List Int} (h : tableB vs rows ws = true) : setB vs = true ∧ rows.length ≤ 10000 ∧ ∀ r ∈ rows, r.length = vs.length := by
  unfold tableB at h
  simp only [Bool.and_eq_true, decide_eq_true_eq] at h
  refine ⟨h.1.1.1, h.1.1.2, fun r hr => ?_⟩
  obtain ⟨i, hi, e⟩ := List.getElem_of_mem hr
  have h1 := h.1.2
  unfold rowsB at h1
  rw [List.all_eq_true] at h1
  have h2 := h1 i (by simpa using hi)
  unfold rowAt at h2
  simp only [Bool.and_eq_true, decide_eq_true_eq] at h2
  rw [List.getD_eq_getElem?_getD, List.getElem?_eq_getElem hi, Option.getD_some, e] at h2
  omega
end Go.Proofs.YtoodbpijgnbfjaaGreat
