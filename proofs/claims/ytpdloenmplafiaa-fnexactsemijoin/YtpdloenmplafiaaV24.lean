import Derived.Lib.SliceRun
import Derived.Test.YtpdloenmplafiaaV23
/-
  slices.CompactFunc over rows made anew, by slices.Equal.
-/
namespace Go.Proofs.Ytpdloenmplafiaa
open Go.RowKit

def Ap' (u v : Value) : Prop := ∀ g, u.ownBlock = some g → v.ownBlock ≠ some g

/-- k rows stand, j rows have been looked at -/
structure Cst (w wr : World) (B g cap : Nat) (us : List Value) (ls : List (List Int)) (k j : Nat) (uo : List Value) : Prop where
  os : wr.os = w.os
  tape : wr.tape = w.tape
  output : wr.output = w.output
  size : wr.heap.size = w.heap.size
  far : ∀ b, b ≠ g → wr.heap[b]? = w.heap[b]?
  typ : ∃ cur, wr.heap[g]? = some (.cells cur 22 (0, 0)) ∧ cur.size = cap
  len : uo.length = k
  lk : (cpt (ls.take j)).length = k
  kj : k < j
  jn : j ≤ ls.length
  head : ∀ p, p < k → wr.cell? ⟨g, p, none⟩ = some (uo.getD p undef)
  tail : ∀ p, j ≤ p + 1 → p < ls.length → wr.cell? ⟨g, p, none⟩ = some (us.getD p undef)
  each : ∀ p, p < k → w.ownsRow B 3 1 (uo.getD p undef) ((cpt (ls.take j)).getD p []).length (((cpt (ls.take j)).getD p []).map (Value.int .i64))
  ap : ∀ p q, p < q → q < k → Ap' (uo.getD p undef) (uo.getD q undef)
  apt : ∀ p q, p < k → j ≤ q → q < ls.length → Ap' (uo.getD p undef) (us.getD q undef)

section
variable {w wr : World} {B g cap k j : Nat} {us uo : List Value} {ls : List (List Int)}
theorem Cst.drewN (h : Cst w wr B g cap us ls k j uo) (m : Nat) : Cst w (wr.drewN m) B g cap us ls k j uo := ⟨h.os, h.tape, h.output, h.size, h.far, h.typ, h.len, h.lk, h.kj, h.jn, h.head, h.tail, h.each, h.ap, h.apt⟩
theorem Cst.skip (h : Cst w wr B g cap us ls k j uo) (hj : j < ls.length) (e : ls.getD (j - 1) [] = ls.getD j []) : Cst w wr B g cap us ls k (j + 1) uo := by
  have hkj := h.kj
  obtain ⟨i, rfl⟩ : ∃ i, j = i + 1 := ⟨j - 1, by omega⟩
  have hc : cpt (ls.take (i + 1 + 1)) = cpt (ls.take (i + 1)) := cpt_hit hj (by simpa using e)
  exact ⟨h.os, h.tape, h.output, h.size, h.far, h.typ, h.len, by rw [hc]; exact h.lk, by omega, hj, h.head, fun p hp hn => h.tail p (by omega) hn, by rw [hc]; exact h.each, h.ap, fun p q hp hq hn => h.apt p q hp (by omega) hn⟩
theorem getD_app_ltC {α : Type} {l : List α} {x d : α} {i : Nat} (h : i < l.length) : (l ++ [x]).getD i d = l.getD i d := by
  rw [List.getD_eq_getElem?_getD, List.getElem?_append_left h, ← List.getD_eq_getElem?_getD]
theorem getD_app_last {α : Type} {l : List α} {x d : α} {i : Nat} (h : i = l.length) : (l ++ [x]).getD i d = x := by
  rw [List.getD_eq_getElem?_getD, List.getElem?_append_right (by omega), show i - l.length = 0 by omega]; rfl
theorem Cst.keep (h : Cst w wr B g cap us ls k j uo) (hR : RQ w B (.slice (some ⟨g, 0, none⟩) ls.length cap) us ls) (hj : j < ls.length) (e : ¬ ls.getD (j - 1) [] = ls.getD j []) : Cst w (wr.setCell ⟨g, k, none⟩ (us.getD j undef)) B g cap us ls (k + 1) (j + 1) (uo ++ [us.getD j undef]) := by
  have hkj := h.kj
  have hl := h.len
  have hlk := h.lk
  obtain ⟨i, rfl⟩ : ∃ i, j = i + 1 := ⟨j - 1, by omega⟩
  have hc : cpt (ls.take (i + 1 + 1)) = cpt (ls.take (i + 1)) ++ [ls.getD (i + 1) []] := cpt_miss hj (by simpa using e)
  have hsame := h.tail k
  refine ⟨h.os, h.tape, h.output, by rw [World.size_setCell]; exact h.size, fun b hb => (Below.heap_setCell _ _ _ _ hb).trans (h.far b hb), ?_, by simp [hl], by rw [hc]; simp [hlk], by omega, hj, fun p hp => ?_, fun p hp hn => ?_, fun p hp => ?_, fun p q hpq hq => ?_, fun p q hp hq hn => ?_⟩
  · obtain ⟨cur, h1, h2⟩ := h.typ
    exact ⟨_, heap_setCell_same _ _ _ _ _ _ h1, by simp [h2]⟩
  · by_cases e1 : p = k
    · subst e1
      rw [getD_app_last hl.symm]
      obtain ⟨cur, h1, h2⟩ := h.typ
      have hex : ∃ u, wr.cell? ⟨g, p, none⟩ = some u := by
        rw [cell_of_row _ _ _ _ _ _ h1]
        have hcp : ls.length ≤ cap := by
          rcases hR.own.2 with ⟨e, -⟩ | ⟨g', cap', cur', e, -, -, hcc, -⟩
          · cases e
          · simp only [Value.slice.injEq] at e
            obtain ⟨-, -, rfl⟩ := e
            exact hcc
        exact ⟨_, Array.getElem?_eq_getElem (by omega)⟩
      obtain ⟨u, hu⟩ := hex
      exact World.cell?_setCell_same _ _ _ hu
    · rw [getD_app_ltC (by omega), World.cell?_setCell_other _ _ _ _ (by intro e2; simp only [Addr.mk.injEq] at e2; omega)]
      exact h.head p (by omega)
  · rw [World.cell?_setCell_other _ _ _ _ (by intro e2; simp only [Addr.mk.injEq] at e2; omega)]
    exact h.tail p (by omega) hn
  · rw [hc]
    by_cases e1 : p = k
    · subst e1
      rw [getD_app_last hl.symm, getD_app_last hlk.symm]
      exact hR.each _ hj
    · rw [getD_app_ltC (by omega), getD_app_ltC (by omega)]
      exact h.each p (by omega)
  · rw [getD_app_ltC (by omega)]
    by_cases e1 : q = k
    · subst e1
      rw [getD_app_last hl.symm]
      exact h.apt p _ (by omega) (Nat.le_refl _) hj
    · rw [getD_app_ltC (by omega)]
      exact h.ap p q hpq (by omega)
  · by_cases e1 : p = k
    · subst e1
      rw [getD_app_last hl.symm]
      exact fun g' h1 => hR.ap _ q (by omega) hn g' h1
    · rw [getD_app_ltC (by omega)]
      exact h.apt p q (by omega) (by omega) hn
/-- at the first two that are alike -/
theorem Cst.start (hR : RQ w B (.slice (some ⟨g, 0, none⟩) ls.length cap) us ls) {K : Nat} (hK : 0 < K) (hKn : K < ls.length) (hne : ∀ i, i + 1 < K → ¬ ls.getD i [] = ls.getD (i + 1) []) (e : ls.getD (K - 1) [] = ls.getD K []) (m : Nat) : Cst w (w.drewN m) B g cap us ls K (K + 1) (us.take K) := by
  obtain ⟨i, rfl⟩ : ∃ i, K = i + 1 := ⟨K - 1, by omega⟩
  have hl := hR.len
  have hc : cpt (ls.take (i + 1 + 1)) = ls.take (i + 1) := (cpt_hit hKn (by simpa using e)).trans (cpt_all i (by omega) fun q hq => hne q (by omega))
  have hcell : ∀ p, p < ls.length → w.cell? ⟨g, p, none⟩ = some (us.getD p undef) := fun p hp => by
    obtain ⟨g', cap', e1, -, h1⟩ := hR.get hp
    simp only [Value.slice.injEq, Option.some.injEq, Addr.mk.injEq, and_true, true_and] at e1
    obtain ⟨rfl, -⟩ := e1
    exact h1
  refine ⟨rfl, rfl, rfl, rfl, fun _ _ => rfl, ?_, by rw [List.length_take]; omega, by rw [hc, List.length_take]; omega, by omega, by omega, fun p hp => by rw [getD_take hp]; exact hcell p (by omega), fun p _ hn => hcell p hn, fun p hp => ?_, fun p q hpq hq => ?_, fun p q hp hq hn => ?_⟩
  · rcases hR.own.2 with ⟨e1, -⟩ | ⟨g', cap', cur, e1, -, h1, -, -, h2, -⟩
    · cases e1
    · simp only [Value.slice.injEq, Option.some.injEq, Addr.mk.injEq, and_true, true_and] at e1
      obtain ⟨rfl, rfl⟩ := e1
      exact ⟨cur, h1, by omega⟩
  · rw [hc, getD_take hp, getD_take hp]; exact hR.each p (by omega)
  · rw [getD_take (by omega), getD_take hq]; exact fun g' h1 => hR.ap p q hpq (by omega) g' h1
  · rw [getD_take hp]; exact fun g' h1 => hR.ap p q (by omega) hn g' h1
end

end Go.Proofs.Ytpdloenmplafiaa

/-
  slices.CompactFunc, walked.
-/
namespace Go.Proofs.Ytpdloenmplafiaa
open Go.RowKit

theorem typ_setC {e : TypeId} {c : Nat} : ∀ (vs : List Value) (o : Nat) (W : World) (m : Nat), (∃ cur, W.heap[c]? = some (.cells cur e (0, 0)) ∧ cur.size = m) → ∃ cur, (W.setCells c o vs).heap[c]? = some (.cells cur e (0, 0)) ∧ cur.size = m
  | [], _, _, _, h => h
  | _ :: r, o, _, m, h => typ_setC r (o + 1) _ m (by
    obtain ⟨cur, h1, h2⟩ := h
    exact ⟨_, heap_setCell_same _ _ _ _ _ _ h1, by simp [h2]⟩)
theorem far_setC {c b : Nat} (hb : b ≠ c) : ∀ (vs : List Value) (o : Nat) (W : World), (W.setCells c o vs).heap[b]? = W.heap[b]?
  | [], _, _ => rfl
  | _ :: r, o, _ => (far_setC hb r (o + 1) _).trans (Below.heap_setCell _ _ _ _ hb)
theorem size_setC {c : Nat} : ∀ (vs : List Value) (o : Nat) (W : World), (W.setCells c o vs).heap.size = W.heap.size
  | [], _, _ => rfl
  | v :: r, o, W => (size_setC r (o + 1) (W.setCell ⟨c, o, none⟩ v)).trans (World.size_setCell _ _ _)
theorem env_setC {c : Nat} : ∀ (vs : List Value) (o : Nat) (W : World), (W.setCells c o vs).os = W.os ∧ (W.setCells c o vs).tape = W.tape ∧ (W.setCells c o vs).output = W.output
  | [], _, _ => ⟨rfl, rfl, rfl⟩
  | v :: r, o, W => env_setC r (o + 1) (W.setCell ⟨c, o, none⟩ v)

theorem Cst.fin {w wr : World} {B g cap k : Nat} {us uo : List Value} {ls : List (List Int)} (h : Cst w wr B g cap us ls k ls.length uo) (hR : RQ w B (.slice (some ⟨g, 0, none⟩) ls.length cap) us ls) (vs : List Value) :
    RQ (wr.setCells g k vs) B (.slice (some ⟨g, 0, none⟩) k cap) uo (cpt ls) ∧ Below B w (wr.setCells g k vs) := by
  obtain ⟨hB, hcap, hmax⟩ : B ≤ g ∧ ls.length ≤ cap ∧ cap ≤ maxLen := by
    rcases hR.own.2 with ⟨e, -⟩ | ⟨g', cap', cur, e, hb', hc, h1, h2, -⟩
    · cases e
    · simp only [Value.slice.injEq, Option.some.injEq, Addr.mk.injEq, true_and, and_true] at e
      obtain ⟨rfl, rfl⟩ := e
      exact ⟨hb', h1, h2⟩
  have hl := h.len
  have hlk := h.lk
  have hkj := h.kj
  have heach := h.each
  rw [List.take_length] at hlk heach
  obtain ⟨cur, hcur, hcs⟩ := typ_setC vs k wr cap h.typ
  have hcell : ∀ p, p < k → cur[p]? = some (uo.getD p undef) := fun p hp => by
    have h1 := h.head p hp
    rw [← World.cell?_setCells_out g vs k wr ⟨g, p, none⟩ (fun _ _ => Or.inl hp), cell_of_row _ _ _ _ _ _ hcur] at h1
    exact h1
  have hfar : ∀ b, b ≠ g → (wr.setCells g k vs).heap[b]? = w.heap[b]? := fun b hb => (far_setC hb vs k wr).trans (h.far b hb)
  have hty : ∃ cur, w.heap[g]? = some (.cells cur 22 (0, 0)) := own_typ hR.own rfl
  refine ⟨⟨?_, by omega, fun i hi => ?_, fun i j hij hj => h.ap i j hij (by omega)⟩, ?_⟩
  · rw [hlk]
    refine ⟨by omega, Or.inr ⟨g, cap, cur, rfl, hB, hcur, by omega, hmax, by omega, ?_⟩⟩
    refine List.ext_getElem? fun p => ?_
    rw [Nat.mul_one]
    by_cases hp : p < k
    · rw [List.getElem?_take_of_lt hp, Array.getElem?_toList, hcell p hp, List.getD_eq_getElem?_getD, List.getElem?_eq_getElem (by omega)]
      rfl
    · rw [List.getElem?_eq_none (by rw [List.length_take]; omega), List.getElem?_eq_none (by omega)]
  · exact own_move (heach i (by omega)) fun q hq => hfar q (by
      rintro rfl
      exact own_ne (heach i (by omega)) hty (by decide) hq.symm)
  · obtain ⟨e1, e2, e3⟩ := env_setC (c := g) vs k wr
    exact ⟨e1.trans h.os, e2.trans h.tape, e3.trans h.output, by rw [size_setC, h.size]; exact Nat.le_refl _, fun b hb => hfar b (by omega)⟩

set_option maxHeartbeats 4000000 in
set_option maxRecDepth 1000000 in
theorem compactRows_calls (w : World) (B g cap : Nat) (us : List Value) (ls : List (List Int)) (hR : RQ w B (.slice (some ⟨g, 0, none⟩) ls.length cap) us ls) (hM : ∀ i, (ls.getD i []).length ≤ 1099511627776) (hn : ls.length ≤ 1000000) :
    Calls Try.prog 154 #[.slice (some ⟨g, 0, none⟩) ls.length cap, .func (.func 155) #[] #[]] w fun e w' => ∃ v uo, e = .returned v ∧ RQ w' B v uo (cpt ls) ∧ Below B w w' := by
  have HR := hid hR
  have eg : ∀ args w, (callFunc 155 args).run Try.prog w = .ok (.enter 155 args) w := enters_of Try.func155 (by kernel_rfl) rfl
  have HDr : Hid (∀ q, RQ (w.drewN q) B (.slice (some ⟨g, 0, none⟩) ls.length cap) us ls ∧ Below B w (w.drewN q)) := hid fun q => ⟨⟨hR.own, hR.len, hR.each, hR.ap⟩, ⟨rfl, rfl, rfl, Nat.le_refl _, fun _ _ => rfl⟩⟩
  by_cases h2 : ls.length < 2
  · have hc : cpt ls = ls := by
      match ls, h2 with
      | [], _ => rfl
      | [x], _ => rfl
    have i1 : (ls.length : Int) < 2 := by omega
    rw [hc]
    clear hR hM
    go_enter Try.func154, Try.ntmps154
    go_wp2
    go_ret
    exact ⟨_, us, rfl, HR.out, Below.refl _ _⟩
  · obtain ⟨hcap⟩ : ls.length ≤ cap ∧ True := by
      rcases hR.own.2 with ⟨e, -⟩ | ⟨g', cap', cur, e, hb', hc, h1, -⟩
      · cases e
      · simp only [Value.slice.injEq] at e
        obtain ⟨-, -, rfl⟩ := e
        exact ⟨h1, trivial⟩
    have HCell : Hid (∀ p, p < ls.length → w.cell? ⟨g, p, none⟩ = some (us.getD p undef)) := hid fun p hp => by
      obtain ⟨g', cap', e1, -, h1⟩ := hR.get hp
      simp only [Value.slice.injEq, Option.some.injEq, Addr.mk.injEq, and_true, true_and] at e1
      obtain ⟨rfl, -⟩ := e1
      exact h1
    have HSl : Hid (∀ p, p < ls.length → ∃ a c, us.getD p undef = .slice a (ls.getD p []).length c) := hid fun p hp => by
      rcases (hR.each p hp).2 with ⟨e, hn⟩ | ⟨g, cap, cur, e, _⟩
      · exact ⟨none, 0, by rw [e, hn]⟩
      · exact ⟨_, cap, e⟩
    have KQ : Hid (∀ (W : World) (p q : Nat), (∀ b, b ≠ g → W.heap[b]? = w.heap[b]?) → p < ls.length → q < ls.length → ∀ m, Calls Try.prog 155 #[us.getD p undef, us.getD q undef] (W.drewN m) fun e w' => e = .returned (.bool (decide (ls.getD p [] = ls.getD q []))) ∧ ∃ r, w' = (W.drewN m).drewN r) := hid fun W p q hW hp hq m => by
      have hty : ∃ cur, w.heap[g]? = some (.cells cur 22 (0, 0)) := own_typ hR.own rfl
      have mv : ∀ i, i < ls.length → IS (W.drewN m) (us.getD i undef) (ls.getD i []) := fun i hi => own_is (w := W.drewN m) (B := B) (own_move (w' := W.drewN m) (hR.each i hi) fun b hb => hW b (by
        rintro rfl
        exact own_ne (hR.each i hi) hty (by decide) hb.symm))
      exact sEqual_calls (W.drewN m) _ _ _ _ (mv p hp) (mv q hq) (hM p) (hM q)
    have HAll : Hid ((∀ i, i + 1 < ls.length → ¬ ls.getD i [] = ls.getD (i + 1) []) → cpt ls = ls) := hid fun h => by
      have := cpt_all (ls := ls) (ls.length - 1) (by omega) (fun i hi => h i (by omega))
      rw [show ls.length - 1 + 1 = ls.length by omega, List.take_length] at this
      exact this
    have HSt : Hid (∀ K m, 0 < K → K < ls.length → (∀ i, i + 1 < K → ¬ ls.getD i [] = ls.getD (i + 1) []) → ls.getD (K - 1) [] = ls.getD K [] → Cst w (w.drewN m) B g cap us ls K (K + 1) (us.take K)) := hid fun K m h1 h3 h4 h5 => Cst.start hR h1 h3 h4 h5 m
    clear hR hM
    have q2 : ¬ ((ls.length : Int) < 2) := by omega
    obtain ⟨n, hn'⟩ : ∃ n, n = ls.length := ⟨_, rfl⟩
    have HN := hid hn'
    rw [← hn'] at HCell HSl KQ HAll HSt HDr hn hcap h2 q2 ⊢
    clear hn'
    go_enter Try.func154, Try.ntmps154
    go_wp2_with fail
    go_loopw [5] (fun t wr => ∃ k : Nat, 1 ≤ k ∧ k ≤ n ∧ t = .int .i64 k ∧ Hid (∃ q, wr = w.drewN q) ∧ Hid (∀ i, i + 1 < k → ¬ ls.getD i [] = ls.getD (i + 1) [])) (fun t _ => n - (intOf t).toNat)
    case atStart => exact ⟨1, Nat.le_refl _, by omega, rfl, hid ⟨0, rfl⟩, hid (fun i hi => by omega)⟩
    case round =>
      obtain ⟨k, hk1, hk, rfl, hQ, hne⟩ := hrel
      by_cases hkn : k < n
      · have i1 : (k : Int) < (n : Int) := by omega
        have i2 : ((k : Int) - 1).toNat = k - 1 := by omega
        have c1 : wr.cell? ⟨g, k, none⟩ = some (us.getD k undef) := by obtain ⟨q, rfl⟩ := hQ.out; exact HCell.out k hkn
        have c2 : wr.cell? ⟨g, k - 1, none⟩ = some (us.getD (k - 1) undef) := by obtain ⟨q, rfl⟩ := hQ.out; exact HCell.out (k - 1) (by omega)
        have KQ1 : Hid (∀ m, Calls Try.prog 155 #[us.getD k undef, us.getD (k - 1) undef] (wr.drewN m) fun e w' => e = .returned (.bool (decide (ls.getD k [] = ls.getD (k - 1) []))) ∧ ∃ r, w' = (wr.drewN m).drewN r) := hid fun m => by
          obtain ⟨q, rfl⟩ := hQ.out
          exact KQ.out (w.drewN q) k (k - 1) (fun _ _ => rfl) hkn (by omega) m
        obtain ⟨a1, k1, e1⟩ := HSl.out k hkn
        obtain ⟨a2, k2, e2⟩ := HSl.out (k - 1) (by omega)
        rw [e1] at c1 KQ1
        rw [e2] at c2 KQ1
        have i3 : ¬ ((k : Int) - 1 < 0) := by omega
        have i4 : (k : Int) - 1 < (n : Int) := by omega
        have i5 : (0 : Int) ≤ (k : Int) - 1 := by omega
        by_cases hd : ls.getD k [] = ls.getD (k - 1) []
        · rw [decide_eq_true hd] at KQ1
          generalize (ls.getD k []).length = m1 at *
          generalize (ls.getD (k - 1) []).length = m2 at *
          go_upto_region 6 with fail
          go_quiet (first | (go_at_call 155; exact Calls.quiet_of (KQ1.out _)))
          have HC0 : Hid (Cst w (wr.drewN nq) B g cap us ls k (k + 1) (us.take k)) := hid (by
            obtain ⟨q, rfl⟩ := hQ.out
            rw [World.drewN_drewN]
            exact HSt.out k (q + nq) (by omega) hkn hne.out hd.symm)
          clear c1 c2 KQ1 e1 e2 hQ hne hd HSt HAll HDr HCell i2 i3 i4 i5
          generalize wr.drewN nq = W5 at HC0 ⊢
          have q5 : ¬ cap = k := by omega
          have q6 : k ≤ cap := by omega
          go_wp2_with fail
          go_loopw [5, 7] (fun t5 t7 wr => ∃ kk k2 : Nat, 1 ≤ k2 ∧ k + k2 ≤ n ∧ t5 = .int .i64 kk ∧ t7 = .int .i64 k2 ∧ Hid (∃ uo, Cst w wr B g cap us ls kk (k + k2) uo)) (fun _ t7 _ => n - (intOf t7).toNat)
          case atStart => exact ⟨k, 1, Nat.le_refl _, by omega, rfl, rfl, hid ⟨_, HC0.out⟩⟩
          case round =>
            clear HC0
            obtain ⟨kk, k2, hk2, hkk2, rfl, rfl, HT⟩ := hrel
            obtain ⟨uo, hC⟩ := HT.out
            have HC := hid hC
            have hkj := hC.kj
            clear HT hC
            have HEx : Hid (∃ u, wr.cell? ⟨g, kk, none⟩ = some u) := hid (by
              obtain ⟨cur, h1, h3⟩ := HC.out.typ
              rw [cell_of_row _ _ _ _ _ _ h1]
              exact ⟨_, Array.getElem?_eq_getElem (by omega)⟩)
            have f1 : ∀ p, wr.frozen? ⟨g, p, none⟩ = false := fun p => by
              obtain ⟨cur, h1, -⟩ := HC.out.typ
              unfold World.frozen?
              rw [h1]
              simp
            by_cases hlt : k + k2 < n
            · have j1 : (k2 : Int) < ((n - k : Nat) : Int) := by omega
              have j2 : ((k2 : Int) - 1).toNat = k2 - 1 := by omega
              have j3 : ¬ ((k2 : Int) - 1 < 0) := by omega
              have j4 : (k2 : Int) - 1 < ((n - k : Nat) : Int) := by omega
              have j5 : (0 : Int) ≤ (k2 : Int) - 1 := by omega
              have j6 : (kk : Int) < (n : Int) := by omega
              have d1 : wr.cell? ⟨g, k + k2, none⟩ = some (us.getD (k + k2) undef) := HC.out.tail (k + k2) (by omega) (by rw [← HN.out]; omega)
              have d2 : wr.cell? ⟨g, k + (k2 - 1), none⟩ = some (us.getD (k + (k2 - 1)) undef) := HC.out.tail (k + (k2 - 1)) (by omega) (by rw [← HN.out]; omega)
              have KQ1 := hid (KQ.out wr (k + k2) (k + (k2 - 1)) HC.out.far hlt (by omega))
              obtain ⟨a3, k3, e1⟩ := HSl.out (k + k2) hlt
              obtain ⟨a4, k4, e2⟩ := HSl.out (k + (k2 - 1)) (by omega)
              have HE1 := hid e1
              rw [e1] at d1 KQ1
              rw [e2] at d2 KQ1
              clear e1 e2
              have ej : k + k2 - 1 = k + (k2 - 1) := by omega
              by_cases hd : ls.getD (k + k2) [] = ls.getD (k + (k2 - 1)) []
              · rw [decide_eq_true hd] at KQ1
                have HNx := hid (HC.out.skip (by rw [← HN.out]; exact hlt) (by rw [ej]; exact hd.symm))
                generalize (ls.getD (k + k2) []).length = m3 at *
                generalize (ls.getD (k + (k2 - 1)) []).length = m4 at *
                clear ej hd
                go_upto_region 11 with fail
                go_quiet (first | (go_at_call 155; exact Calls.quiet_of (KQ1.out _)))
                have HNy := hid (HNx.out.drewN nq)
                go_wp2_with fail
                go_roundw
                case rel => exact ⟨kk, k2 + 1, by omega, by omega, rfl, by go_num, hid ⟨_, HNy.out⟩⟩
                case measure => simp [intOf]; omega
              · rw [decide_eq_false hd] at KQ1
                have HNx : Hid (∀ q, Cst w ((wr.drewN q).setCell ⟨g, kk, none⟩ (us.getD (k + k2) undef)) B g cap us ls (kk + 1) (k + k2 + 1) (uo ++ [us.getD (k + k2) undef])) := hid fun q => (HC.out.drewN q).keep HR.out (by rw [← HN.out]; exact hlt) (by rw [ej]; exact fun e => hd e.symm)
                rw [HE1.out] at HNx
                obtain ⟨u9, d3⟩ := HEx.out
                have f3 := f1 kk
                generalize (ls.getD (k + k2) []).length = m3 at *
                generalize (ls.getD (k + (k2 - 1)) []).length = m4 at *
                clear ej hd f1
                go_upto_region 11 with fail
                go_quiet (first | (go_at_call 155; exact Calls.quiet_of (KQ1.out _)))
                have HNy := hid (HNx.out nq)
                go_wp2_with fail
                go_roundw
                case rel => exact ⟨kk + 1, k2 + 1, by omega, by omega, by go_num, by go_num, hid ⟨_, HNy.out⟩⟩
                case measure => simp [intOf]; omega
            · have j1 : ¬ ((k2 : Int) < ((n - k : Nat) : Int)) := by omega
              obtain rfl : k2 = n - k := by omega
              have HF : Hid (RQ (wr.setCells g kk (List.replicate (n - kk) (.slice none 0 0))) B (.slice (some ⟨g, 0, none⟩) kk cap) uo (cpt ls) ∧ Below B w (wr.setCells g kk (List.replicate (n - kk) (.slice none 0 0)))) := hid (by
                have h := HC.out
                rw [show k + (n - k) = ls.length by rw [← HN.out]; omega] at h
                exact h.fin HR.out _)
              have hclr : ∀ ty, (Builtin.clear_ #[23] ty #[.slice (some ⟨g, kk, none⟩) (n - kk) (cap - kk)]).run Try.prog wr = .ok (.tuple #[]) (wr.setCells g kk (List.replicate (n - kk) (.slice none 0 0))) := fun ty =>
                Lib.run_clear_slice wr 23 22 ty (.slice none 0 0) Try.underlying23 (fun _ => by kernel_rfl) rfl rfl g kk (n - kk) (cap - kk) (by omega) (fun j hj => by
                  obtain ⟨cur, h1, h3⟩ := HC.out.typ
                  rw [cell_of_row _ _ _ _ _ _ h1, Array.getElem?_eq_getElem (by omega)]
                  rfl) (fun j _ => f1 _)
              have q7 : ¬ cap = kk := by omega
              have q8 : kk ≤ cap := by omega
              have q9 : kk ≤ n := by omega
              clear HC HEx f1
              go_wp2_with fail
              go_ret
              exact ⟨_, rfl, ⟨uo, HF.out.1⟩, HF.out.2⟩
        · rw [decide_eq_false hd] at KQ1
          have hN : Hid (∀ i, i + 1 < k + 1 → ¬ ls.getD i [] = ls.getD (i + 1) []) := hid fun i hi => by
            by_cases e : i + 1 < k
            · exact hne.out i e
            · obtain rfl : k = i + 1 := by omega
              simpa using fun e => hd e.symm
          generalize (ls.getD k []).length = m1 at *
          generalize (ls.getD (k - 1) []).length = m2 at *
          clear hd
          go_upto_region 6 with fail
          go_quiet (first | (go_at_call 155; exact Calls.quiet_of (KQ1.out _)))
          go_wp2_with fail
          go_roundw
          case rel => exact ⟨k + 1, by omega, by omega, by go_num, hid (drewN_step _ hQ.out), hN⟩
          case measure => simp [intOf]; omega
      · obtain rfl : k = n := by omega
        have i1 : ¬ ((k : Int) < (k : Int)) := by omega
        have HF : Hid (∃ q, wr = w.drewN q ∧ RQ (w.drewN q) B (.slice (some ⟨g, 0, none⟩) k cap) us (cpt ls) ∧ Below B w (w.drewN q)) := hid (by
          obtain ⟨q, e⟩ := hQ.out
          exact ⟨q, e, by rw [HAll.out hne.out]; exact (HDr.out q).1, (HDr.out q).2⟩)
        go_wp2_with fail
        go_ret
        obtain ⟨q, rfl, h1, h3⟩ := HF.out
        exact ⟨_, rfl, ⟨us, h1⟩, h3⟩

end Go.Proofs.Ytpdloenmplafiaa
