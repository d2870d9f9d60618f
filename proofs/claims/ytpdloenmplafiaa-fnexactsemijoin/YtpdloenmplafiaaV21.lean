import Derived.Test.YtpdloenmplafiaaV20
/-
  spec: l2Value, l2Values.
-/
namespace Go.Proofs.Ytpdloenmplafiaa
open Go.RowKit

/-- the value that a row gives to a variable -/
def vlF : List Int → List Int → Int → Int
  | [], _, _ => 0
  | x :: vs, r, v => if x = v then r.getD 0 0 else vlF vs (r.drop 1) v
def prjR (vs vars row : List Int) : List Int := vars.map (vlF vs row)
theorem prjR_len (vs vars row : List Int) : (prjR vs vars row).length = vars.length := by simp [prjR]
theorem vlF_hit {vs row : List Int} {v : Int} {j : Nat} (hj : j < vs.length) (h : vs.getD j 0 = v) : vlF (vs.drop j) (row.drop j) v = row.getD j 0 := by
  rw [drop_getD hj, vlF, if_pos h, getD_drop, Nat.add_zero]
theorem vlF_miss {vs row : List Int} {v : Int} {j : Nat} (hj : j < vs.length) (h : ¬ vs.getD j 0 = v) : vlF (vs.drop j) (row.drop j) v = vlF (vs.drop (j + 1)) (row.drop (j + 1)) v := by
  rw [drop_getD hj, vlF, if_neg h, List.drop_drop]

set_option maxHeartbeats 1000000 in
theorem l2Value_calls (w : World) (v0 v1 v2 vr : Value) (vs row : List Int) (n1 n2 : Nat) (h1 : ∃ a c, v1 = .slice a n1 c) (h2 : ∃ a c, v2 = .slice a n2 c) (h : IS w v0 vs) (hr : IS w vr row) (x : Int) (hl : vs.length ≤ 1099511627776) (hlr : row.length = vs.length) :
    Calls Try.prog 123 #[.agg #[v0, v1, v2], vr, .int .i64 x] w fun e w' => e = .returned (.int .i64 (vlF vs row x)) ∧ Below w.heap.size w w' := by
  obtain ⟨a1, c1, rfl⟩ := h1
  obtain ⟨a2, c2, rfl⟩ := h2
  obtain ⟨a, cap, rfl, hc⟩ := h
  obtain ⟨ar, capr, rfl, hcr⟩ := hr
  obtain ⟨W1, hW1⟩ : ∃ W1, W1 = w.alloc (.cells #[.slice a vs.length cap, .slice a1 n1 c1, .slice a2 n2 c2] 53) := ⟨_, rfl⟩
  have HB1 : Hid (Below w.heap.size w W1) := hid (by rw [hW1]; exact (Below.refl _ _).alloc (Nat.le_refl _) _)
  have d0 : W1.cell? ⟨w.heap.size, 0, none⟩ = some (.slice a vs.length cap) := by rw [hW1, World.cell?_alloc_at _ _ _ _ rfl]; rfl
  have HC : Hid (∀ j, j < vs.length → ∃ b o, a = some ⟨b, o, none⟩ ∧ W1.cell? ⟨b, o + j, none⟩ = some (.int .i64 (vs.getD j 0))) := hid fun j hj => by
    rcases hc with h0 | ⟨b, o, rfl, h⟩
    · omega
    · exact ⟨b, o, rfl, (HB1.out.cell (World.block_lt_of_cell? w _ (h j hj))).trans (h j hj)⟩
  have HCr : Hid (∀ j, j < vs.length → ∃ b o, ar = some ⟨b, o, none⟩ ∧ W1.cell? ⟨b, o + j, none⟩ = some (.int .i64 (row.getD j 0))) := hid fun j hj => by
    rcases hcr with h0 | ⟨b, o, rfl, h⟩
    · omega
    · exact ⟨b, o, rfl, (HB1.out.cell (World.block_lt_of_cell? w _ (h j (by omega)))).trans (h j (by omega))⟩
  have HH : Hid (∀ j, j < vs.length → vs.getD j 0 = x → vlF (vs.drop j) (row.drop j) x = row.getD j 0) := hid fun j hj e => vlF_hit hj e
  have HM : Hid (∀ j, j < vs.length → ¬ vs.getD j 0 = x → vlF (vs.drop j) (row.drop j) x = vlF (vs.drop (j + 1)) (row.drop (j + 1)) x) := hid fun j hj e => vlF_miss hj e
  have HE : Hid (vlF (vs.drop vs.length) (row.drop vs.length) x = 0) := hid (by rw [List.drop_length]; rfl)
  rw [hlr]
  clear hc hcr hlr
  obtain ⟨n, hn⟩ : ∃ n, n = vs.length := ⟨_, rfl⟩
  rw [← hn] at HC HCr HH HM HE hl d0 hW1 ⊢
  clear hn
  go_enter Try.func123, Try.ntmps123
  go_upto_region 1 with fail
  rw [← hW1]
  clear hW1
  go_wp2_with fail
  go_loop [12] (fun t => ∃ j : Nat, j ≤ n ∧ t = .int .i64 j ∧ Hid (vlF (vs.drop j) (row.drop j) x = vlF vs row x)) (fun t => n - (intOf t).toNat)
  case atStart => exact ⟨0, Nat.zero_le _, rfl, hid rfl⟩
  case round =>
    obtain ⟨j, hj, rfl, hok⟩ := hrel
    by_cases hjn : j < n
    · have i1 : (j : Int) < (n : Int) := by omega
      obtain ⟨b, o, ea, e1⟩ := HC.out j hjn
      subst ea
      by_cases hx : vs.getD j 0 = x
      · obtain ⟨b2, o2, ea, e2⟩ := HCr.out j hjn
        subst ea
        have hf := hid ((HH.out j hjn hx).symm.trans hok.out)
        rw [hx] at e1
        generalize row.getD j 0 = y at *
        clear hx
        go_wp2
        go_ret
        exact ⟨ret_int hf.out, HB1.out⟩
      · have hf := hid ((HM.out j hjn hx).symm.trans hok.out)
        generalize vs.getD j 0 = y at *
        go_wp2
        go_round
        case rel => exact ⟨j + 1, by omega, by go_num, hf⟩
        case measure => simp [intOf]; omega
    · obtain rfl : j = n := by omega
      have i1 : ¬ ((j : Int) < (j : Int)) := by omega
      have hf := hid (HE.out.symm.trans hok.out)
      go_wp2
      go_ret
      exact ⟨ret_int hf.out, HB1.out⟩

set_option maxHeartbeats 2000000 in
set_option maxRecDepth 1000000 in
theorem l2Values_calls (w : World) (v0 v1 v2 vr vv : Value) (vs row vars : List Int) (n1 n2 : Nat) (h1 : ∃ a c, v1 = .slice a n1 c) (h2 : ∃ a c, v2 = .slice a n2 c) (h : IS w v0 vs) (hr : IS w vr row) (hv : IS w vv vars) (hl : vs.length ≤ 1099511627776) (hlr : row.length = vs.length) (hlv : vars.length ≤ 1000) :
    Calls Try.prog 79 #[.agg #[v0, v1, v2], vr, vv] w fun e w' => ∃ v, e = .returned v ∧ w'.ownsRow w.heap.size 3 1 v (prjR vs vars row).length ((prjR vs vars row).map (Value.int .i64)) ∧ Below w.heap.size w w' := by
  obtain ⟨i0, hi, hz0, hz1, hz2⟩ := info_parts Try.infoInt
  have KV : Hid (∀ W x, Below w.heap.size w W → Calls Try.prog 123 #[.agg #[v0, v1, v2], vr, .int .i64 x] W fun e w' => e = .returned (.int .i64 (vlF vs row x)) ∧ Below W.heap.size W w') := hid fun W x hW => l2Value_calls W v0 v1 v2 vr vs row n1 n2 h1 h2 (h.below hW) (hr.below hW) x hl hlr
  obtain ⟨a1, c1, rfl⟩ := h1
  obtain ⟨a2, c2, rfl⟩ := h2
  obtain ⟨a, cap, rfl, -⟩ := h
  obtain ⟨ar, capr, rfl, -⟩ := hr
  obtain ⟨av, capv, rfl, hcv⟩ := hv
  obtain ⟨W1, hW1⟩ : ∃ W1, W1 = w.alloc (.cells #[.slice a vs.length cap, .slice a1 n1 c1, .slice a2 n2 c2] 53) := ⟨_, rfl⟩
  have hB1 : Below w.heap.size w W1 := by rw [hW1]; exact (Below.refl _ _).alloc (Nat.le_refl _) _
  have HBx : Hid (W1.heap[w.heap.size]? = some (.cells #[.slice a vs.length cap, .slice a1 n1 c1, .slice a2 n2 c2] 53 (0, 0))) := hid (by rw [hW1]; exact heap_alloc_new _ _)
  have hs1 : W1.heap.size = w.heap.size + 1 := by rw [hW1]; simp
  have HS0 : Hid (Below w.heap.size w (W1.alloc (.cells #[] 3)) ∧ (W1.alloc (.cells #[] 3)).ownsRow w.heap.size 3 1 (.slice (some ⟨w.heap.size + 1, 0, none⟩) 0 0) 0 [] ∧ (W1.alloc (.cells #[] 3)).heap[w.heap.size]? = some (.cells #[.slice a vs.length cap, .slice a1 n1 c1, .slice a2 n2 c2] 53 (0, 0))) := hid (by
    refine ⟨hB1.alloc hB1.size _, ?_, (Below.heap_alloc _ _ _ (by omega)).trans HBx.out⟩
    have := World.ownsRow_made W1 (e := 3) (size := 1) (base := w.heap.size) #[] 0 (by omega) (by decide) rfl
    rw [hs1] at this
    exact this)
  have HC : Hid (∀ W, Below w.heap.size w W → ∀ j, j < vars.length → ∃ b o, av = some ⟨b, o, none⟩ ∧ W.cell? ⟨b, o + j, none⟩ = some (.int .i64 (vars.getD j 0))) := hid fun W hW j hj => by
    rcases hcv with h0 | ⟨b, o, rfl, h⟩
    · omega
    · exact ⟨b, o, rfl, (hW.cell (World.block_lt_of_cell? w _ (h j hj))).trans (h j hj)⟩
  have HP : Hid (∀ j, j < vars.length → (prjR vs (vars.take (j + 1)) row).map (Value.int .i64) = (prjR vs (vars.take j) row).map (Value.int .i64) ++ [.int .i64 (vlF vs row (vars.getD j 0))]) := hid fun j hj => by
    unfold prjR
    rw [List.take_add_one, List.getElem?_eq_getElem hj, List.getD_eq_getElem?_getD, List.getElem?_eq_getElem hj, List.map_append, List.map_append]
    rfl
  have HP0 : Hid ((prjR vs (vars.take 0) row).map (Value.int .i64) = []) := hid rfl
  have HPn : Hid (prjR vs (vars.take vars.length) row = prjR vs vars row) := hid (by rw [List.take_length])
  rw [prjR_len]
  clear hcv hB1 HBx hlr hl
  obtain ⟨n, hn⟩ : ∃ n, n = vars.length := ⟨_, rfl⟩
  rw [← hn] at HC HP HPn hlv ⊢
  clear hn
  generalize vs.length = nv at *
  generalize row.length = nr at *
  go_enter Try.func79, Try.ntmps79
  go_upto_region 1 with fail
  rw [← hW1]
  clear hW1
  go_wp2_with fail
  generalize W1.alloc (.cells #[] 3) = W2 at *
  go_loopw [7, 13] (fun u t wr => ∃ (j : Nat) (vo : Value), j ≤ n ∧ t = .int .i64 j ∧ vo = u ∧ Hid (Below w.heap.size w wr ∧ wr.ownsRow w.heap.size 3 1 vo j ((prjR vs (vars.take j) row).map (Value.int .i64)) ∧ wr.heap[w.heap.size]? = some (.cells #[.slice a nv cap, .slice a1 n1 c1, .slice a2 n2 c2] 53 (0, 0)))) (fun _ t _ => n - (intOf t).toNat)
  case atStart => exact ⟨0, _, Nat.zero_le _, rfl, rfl, hid ⟨HS0.out.1, by rw [HP0.out]; exact HS0.out.2.1, HS0.out.2.2⟩⟩
  case round =>
    clear HS0 HP0
    obtain ⟨j, vo, hj, rfl, rfl, HT⟩ := hrel
    by_cases hjn : j < n
    · have i1 : (j : Int) < (n : Int) := by omega
      obtain ⟨b, o, ea, e1⟩ := HC.out wr HT.out.1 j hjn
      subst ea
      have d0 : wr.cell? ⟨w.heap.size, 0, none⟩ = some (.slice a nv cap) := by rw [cell_of_row _ _ _ _ _ _ HT.out.2.2]; rfl
      have d1 : wr.cell? ⟨w.heap.size, 1, none⟩ = some (.slice a1 n1 c1) := by rw [cell_of_row _ _ _ _ _ _ HT.out.2.2]; rfl
      have d2 : wr.cell? ⟨w.heap.size, 2, none⟩ = some (.slice a2 n2 c2) := by rw [cell_of_row _ _ _ _ _ _ HT.out.2.2]; rfl
      have KV1 := hid (KV.out wr (vars.getD j 0) HT.out.1)
      have HPj := hid (HP.out j hjn)
      generalize vlF vs row (vars.getD j 0) = y at *
      generalize vars.getD j 0 = x at *
      go_wp2_with fail
      refine KV1.out.mono ?_
      rintro e w3 ⟨rfl, hb3⟩
      have HN : Hid (Below w.heap.size w w3 ∧ w3.ownsRow w.heap.size 3 1 vo j ((prjR vs (vars.take j) row).map (Value.int .i64)) ∧ w3.heap[w.heap.size]? = some (.cells #[.slice a nv cap, .slice a1 n1 c1, .slice a2 n2 c2] 53 (0, 0))) := hid ⟨bt HT.out.1 hb3, own_below HT.out.2.1 hb3, (hb3.block _ (World.block_lt_of_cell? wr _ d0)).trans HT.out.2.2⟩
      clear HT hb3 KV1 d0 d1 d2 e1
      have hs3 := HN.out.1.size
      go_wp2_with (first | (at_builtin; refine wpList_append_lies _ rfl _ _ 22 rfl w.heap.size 3 i0 (.int .i64 0) 1 8 Try.underlying22 hi hz0 hz1 hz2 rfl (by decide) vo _ _ rfl (HN.out.2.1.alloc _) ⟨_, 0, none⟩ 1 1 [.int .i64 y] rfl rfl (new1_cell _ _ _) (fun u hu => by simp at hu; subst hu; rfl) (by decide) (by unfold maxLen; omega) (by omega) (by simp; omega) _ rfl ?_; intro g3 cp3 w4 hown4 hgrow4 hat4 hlt4) | fail)
      go_roundw
      case rel =>
        refine ⟨j + 1, _, by omega, by go_num, rfl, hid ⟨(HN.out.1.alloc hs3 _).grown hgrow4 (by simp; omega) (fun q hq => (HN.out.2.1.lt q hq).1), by rw [HPj.out]; exact hown4, ?_⟩⟩
        refine ((hgrow4.block _ (by simp; have := World.block_lt_of_cell? w3 ⟨w.heap.size, 0, none⟩ (by rw [cell_of_row _ _ _ _ _ _ HN.out.2.2]; rfl); simp at this; omega) (own_ne HN.out.2.1 ⟨_, HN.out.2.2⟩ (by decide))).trans (Below.heap_alloc _ _ _ ?_)).trans HN.out.2.2
        exact World.block_lt_of_cell? w3 ⟨w.heap.size, 0, none⟩ (by rw [cell_of_row _ _ _ _ _ _ HN.out.2.2]; rfl)
      case measure => simp [intOf]; omega
    · obtain rfl : j = n := by omega
      have i1 : ¬ ((j : Int) < (j : Int)) := by omega
      go_wp2_with fail
      go_ret
      have h2 := HT.out.2.1
      rw [HPn.out] at h2
      exact ⟨_, rfl, h2, HT.out.1⟩

end Go.Proofs.Ytpdloenmplafiaa

/-
  Rows made anew, listed in a slice of the call's own; impl.valuesAt.
-/
namespace Go.Proofs.Ytpdloenmplafiaa
open Go.RowKit

theorem kept_of {W w3 : World} {v : Value} {o : Obj} {b : Nat} (hg : (W.alloc o).grownBy w3 v.ownBlock) (hb : b < W.heap.size) (hne : some b ≠ v.ownBlock) : w3.heap[b]? = W.heap[b]? :=
  (hg.block b (by simp; omega) hne).trans (Below.heap_alloc _ _ _ hb)

/-- rows, each in a row of its own, no two of them sharing a block -/
structure RQ (W : World) (B : Nat) (v : Value) (us : List Value) (ls : List (List Int)) : Prop where
  own : W.ownsRow B 22 1 v ls.length us
  len : us.length = ls.length
  each : ∀ i, i < ls.length → W.ownsRow B 3 1 (us.getD i undef) (ls.getD i []).length ((ls.getD i []).map (Value.int .i64))
  ap : ∀ i j, i < j → j < ls.length → ∀ g, (us.getD i undef).ownBlock = some g → (us.getD j undef).ownBlock ≠ some g
section
variable {W W' w3 : World} {B B' : Nat} {v v' u : Value} {us : List Value} {ls : List (List Int)} {l : List Int} {o : Obj}
theorem RQ.below (h : RQ W B v us ls) (hb : Below W.heap.size W W') : RQ W' B v us ls := ⟨own_below h.own hb, h.len, fun i hi => own_below (h.each i hi) hb, h.ap⟩
theorem RQ.base (h : RQ W B v us ls) (hB : B' ≤ B) : RQ W B' v us ls := ⟨own_base h.own hB, h.len, fun i hi => own_base (h.each i hi) hB, h.ap⟩
theorem RQ.step (h : RQ W B v us ls) (hu : W.ownsRow B 3 1 u l.length (l.map (Value.int .i64))) (hn : ∀ i, i < ls.length → ∀ g, (us.getD i undef).ownBlock = some g → u.ownBlock ≠ some g)
    (hown : w3.ownsRow B 22 1 v' (ls.length + 1) (us ++ [u])) (hg : (W.alloc o).grownBy w3 v.ownBlock) : RQ w3 B v' (us ++ [u]) (ls ++ [l]) := by
  have hint : ∀ {x : Value} {k : Nat} {xs : List Value}, W.ownsRow B 3 1 x k xs → w3.ownsRow B 3 1 x k xs := fun hx =>
    own_move hx fun g hgx => kept_of hg (hx.lt g hgx).2 (own_ne h.own (own_typ hx hgx) (by decide))
  have hl := h.len
  have e1 : ∀ i, i < ls.length → (us ++ [u]).getD i undef = us.getD i undef := fun i hi => by rw [List.getD_eq_getElem?_getD, List.getElem?_append_left (by omega), ← List.getD_eq_getElem?_getD]
  have e2 : (us ++ [u]).getD ls.length undef = u := by rw [List.getD_eq_getElem?_getD, List.getElem?_append_right (by omega), show ls.length - us.length = 0 by omega]; rfl
  have f1 : ∀ i, i < ls.length → (ls ++ [l]).getD i [] = ls.getD i [] := fun i hi => by rw [List.getD_eq_getElem?_getD, List.getElem?_append_left hi, ← List.getD_eq_getElem?_getD]
  have f2 : (ls ++ [l]).getD ls.length [] = l := by rw [List.getD_eq_getElem?_getD, List.getElem?_append_right (Nat.le_refl _), Nat.sub_self]; rfl
  refine ⟨by rw [List.length_append]; exact hown, by simp [hl], fun i hi => ?_, fun i j hij hj g => ?_⟩
  · rw [List.length_append, List.length_singleton] at hi
    by_cases e : i < ls.length
    · rw [e1 i e, f1 i e]; exact hint (h.each i e)
    · obtain rfl : i = ls.length := by omega
      rw [e2, f2]; exact hint hu
  · rw [List.length_append, List.length_singleton] at hj
    rw [e1 i (by omega)]
    by_cases e : j < ls.length
    · rw [e1 j e]; exact h.ap i j hij e g
    · obtain rfl : j = ls.length := by omega
      rw [e2]; exact hn i (by omega) g
theorem RQ.get (h : RQ W B v us ls) {i : Nat} (hi : i < ls.length) : ∃ g cap, v = .slice (some ⟨g, 0, none⟩) ls.length cap ∧ ls.length ≤ cap ∧ W.cell? ⟨g, i, none⟩ = some (us.getD i undef) := by
  rcases h.own.2 with ⟨-, h2⟩ | ⟨g, cap, cur, rfl, hb', hc, hn, -, -, ht⟩
  · omega
  · refine ⟨g, cap, rfl, hn, ?_⟩
    have hlen := h.len
    rw [cell_of_row _ _ _ _ _ _ hc, List.getD_eq_getElem?_getD, List.getElem?_eq_getElem (by omega), Option.getD_some, ← List.getElem?_eq_getElem (by omega : i < us.length), ← ht, List.getElem?_take_of_lt (by omega), Array.getElem?_toList]
theorem RQ.rs (h : RQ W B v us ls) : RS W W v us ls := by
  refine ⟨?_, h.len, fun i hi => ⟨own_is (h.each i hi), own_cap (h.each i hi)⟩⟩
  rcases h.own.2 with ⟨rfl, hn⟩ | ⟨g, cap, cur, rfl, hb', hc, hn, -⟩
  · exact ⟨none, 0, by rw [hn], by omega, Or.inl hn⟩
  · refine ⟨_, cap, rfl, hn, Or.inr ⟨g, 0, rfl, fun j hj => ?_⟩⟩
    obtain ⟨g', cap', e, -, hc'⟩ := h.get hj
    simp only [Value.slice.injEq, Option.some.injEq, Addr.mk.injEq] at e
    obtain ⟨⟨rfl, -⟩, -⟩ := e
    rw [Nat.zero_add]; exact hc'
end

/-- the values at some places -/
def atP (row places : List Int) : List Int := places.map fun p => row.getD p.toNat 0
theorem atP_len (row places : List Int) : (atP row places).length = places.length := by simp [atP]

set_option maxHeartbeats 2000000 in
set_option maxRecDepth 1000000 in
theorem valuesAt_calls (w : World) (vr vp : Value) (row places : List Int) (hr : IS w vr row) (hp : IS w vp places) (hlp : places.length ≤ 1000) (hin : ∀ p ∈ places, 0 ≤ p ∧ p < row.length) :
    Calls Try.prog 81 #[vr, vp] w fun e w' => ∃ v, e = .returned v ∧ w'.ownsRow w.heap.size 3 1 v (atP row places).length ((atP row places).map (Value.int .i64)) ∧ Below w.heap.size w w' := by
  obtain ⟨i0, hi, hz0, hz1, hz2⟩ := info_parts Try.infoInt
  obtain ⟨ar, capr, rfl, hcr⟩ := hr
  obtain ⟨ap, capp, rfl, hcp⟩ := hp
  have HC : Hid (∀ W, Below w.heap.size w W → ∀ j, j < places.length → ∃ (b o q br oo : Nat), ap = some ⟨b, o, none⟩ ∧ ar = some ⟨br, oo, none⟩ ∧ q < row.length ∧ W.cell? ⟨b, o + j, none⟩ = some (.int .i64 (q : Int)) ∧ W.cell? ⟨br, oo + q, none⟩ = some (.int .i64 (row.getD q 0)) ∧ places.getD j 0 = (q : Int)) := hid fun W hW j hj => by
    have hm : places.getD j 0 ∈ places := by rw [List.getD_eq_getElem?_getD, List.getElem?_eq_getElem hj]; exact List.getElem_mem _
    obtain ⟨h0, h1⟩ := hin _ hm
    have e : places.getD j 0 = ((places.getD j 0).toNat : Int) := by omega
    rcases hcp with h2 | ⟨b, o, rfl, h2⟩
    · omega
    · rcases hcr with h3 | ⟨br, oo, rfl, h3⟩
      · omega
      · refine ⟨b, o, (places.getD j 0).toNat, br, oo, rfl, rfl, by omega, ?_, ?_, e⟩
        · rw [← e]; exact (hW.cell (World.block_lt_of_cell? w _ (h2 j hj))).trans (h2 j hj)
        · exact (hW.cell (World.block_lt_of_cell? w _ (h3 _ (by omega)))).trans (h3 _ (by omega))
  have HP : Hid (∀ j q, j < places.length → places.getD j 0 = ((q : Nat) : Int) → (atP row (places.take (j + 1))).map (Value.int .i64) = (atP row (places.take j)).map (Value.int .i64) ++ [.int .i64 (row.getD q 0)]) := hid fun j q hj e => by
    unfold atP
    rw [List.take_add_one, List.getElem?_eq_getElem hj, List.map_append, List.map_append]
    rw [List.getD_eq_getElem?_getD, List.getElem?_eq_getElem hj] at e
    simp only [Option.getD_some] at e
    simp [e]
  have HP0 : Hid ((atP row (places.take 0)).map (Value.int .i64) = []) := hid rfl
  have HPn : Hid (atP row (places.take places.length) = atP row places) := hid (by rw [List.take_length])
  rw [atP_len]
  clear hcr hcp hin
  obtain ⟨n, hn⟩ : ∃ n, n = places.length := ⟨_, rfl⟩
  obtain ⟨nr, hnr⟩ : ∃ nr, nr = row.length := ⟨_, rfl⟩
  rw [← hn] at HC HP HPn hlp ⊢
  rw [← hnr] at HC ⊢
  clear hn hnr
  go_enter Try.func81, Try.ntmps81
  go_wp2_with (at_make; refine wpList_make_own _ rfl _ _ 22 rfl w.heap.size 3 i0 (.int .i64 0) 1 Try.underlying22 hi hz0 hz1 _ _ _ n rfl rfl rfl ?b2 ?b3 (Nat.le_refl _) ?_)
  case b2 => rw [hz2]; omega
  case b3 => unfold maxLen; omega
  intro w0 hown0 hgrow0
  have HS0 : Hid (w0.ownsRow w.heap.size 3 1 (.slice (some ⟨w.heap.size, 0, none⟩) 0 n) 0 [] ∧ Below w.heap.size w w0) := hid ⟨hown0, (Below.refl _ _).grown hgrow0 (Nat.le_refl _) (fun j hj => by cases hj)⟩
  clear hgrow0 hown0
  go_wp2_with fail
  go_loopw [5, 13] (fun u t wr => ∃ (j : Nat) (vo : Value), j ≤ n ∧ t = .int .i64 j ∧ vo = u ∧ Hid (wr.ownsRow w.heap.size 3 1 vo j ((atP row (places.take j)).map (Value.int .i64)) ∧ Below w.heap.size w wr)) (fun _ t _ => n - (intOf t).toNat)
  case atStart => exact ⟨0, _, Nat.zero_le _, rfl, rfl, hid ⟨by rw [HP0.out]; exact HS0.out.1, HS0.out.2⟩⟩
  case round =>
    clear HS0 HP0
    obtain ⟨j, vo, hj, rfl, rfl, HT⟩ := hrel
    by_cases hjn : j < n
    · have i1 : (j : Int) < (n : Int) := by omega
      obtain ⟨b, o, q, br, oo, ea, eb, hq, e1, e2, e3⟩ := HC.out wr HT.out.2 j hjn
      subst ea eb
      have i2 : (q : Int) < (nr : Int) := by omega
      have HPj := hid (HP.out j q hjn e3)
      have hs3 := HT.out.2.size
      clear e3
      generalize row.getD q 0 = y at *
      go_wp2_with (first | (at_builtin; refine wpList_append_lies _ rfl _ _ 22 rfl w.heap.size 3 i0 (.int .i64 0) 1 8 Try.underlying22 hi hz0 hz1 hz2 rfl (by decide) vo _ _ rfl (HT.out.1.alloc _) ⟨_, 0, none⟩ 1 1 [.int .i64 y] rfl rfl (new1_cell _ _ _) (fun u hu => by simp at hu; subst hu; rfl) (by decide) (by unfold maxLen; omega) (by omega) (by simp; omega) _ rfl ?_; intro g3 cp3 w4 hown4 hgrow4 hat4 hlt4) | fail)
      go_roundw
      case rel => exact ⟨j + 1, _, by omega, by go_num, rfl, hid ⟨by rw [HPj.out]; exact hown4, (HT.out.2.alloc hs3 _).grown hgrow4 (by simp; omega) (fun q hq => (HT.out.1.lt q hq).1)⟩⟩
      case measure => simp [intOf]; omega
    · obtain rfl : j = n := by omega
      have i1 : ¬ ((j : Int) < (j : Int)) := by omega
      go_wp2_with fail
      go_ret
      have h2 := HT.out.1
      rw [HPn.out] at h2
      exact ⟨_, rfl, h2, HT.out.2⟩

end Go.Proofs.Ytpdloenmplafiaa
