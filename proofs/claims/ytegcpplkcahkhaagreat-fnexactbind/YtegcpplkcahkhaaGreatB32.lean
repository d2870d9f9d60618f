import Derived.Test.YtegcpplkcahkhaaGreatB31
/-
  spec: l2Value, l2Values.
-/
namespace Go.Proofs.YtegcpplkcahkhaaGreat
open Go.RowKit

/-- the value that a row gives to a variable -/
def vlF : List Int → List Int → Int → Int
  | [], _, _ => 0
  | x :: vs, r, v => if x = v then r.getD 0 0 else vlF vs (r.drop 1) v
def prjR (vs vars row : List Int) : List Int := vars.map (vlF vs row)
theorem prjR_len (vs vars row : List Int) : (prjR vs vars row).length = vars.length := by simp [prjR]
theorem vlF_hit {vs row : List Int} {v : Int} {j : Nat} (hj : j < vs.length) (h : vs.getD j 0 = v) : vlF (vs.drop j) (row.drop j) v = row.getD j 0 := by
  rw [drop_getD hj, vlF, if_pos h, getD_drop, Nat.add_zero]
theorem vlF_miss {vs row : List Int} {v : Int} {j : Nat} (hj : j < vs.length) (h : ¬ vs.getD j 0 = v) : vlF (vs.drop j) (row.drop j) v = vlF (vs.drop (j + 1)) (row.drop (j + 1)) v := by
  rw [drop_getD hj, vlF, if_neg h, List.drop_drop]

end Go.Proofs.YtegcpplkcahkhaaGreat

/-
  Rows made anew, listed in a slice of the call's own; impl.valuesAt.
-/
namespace Go.Proofs.YtegcpplkcahkhaaGreat
open Go.RowKit

theorem kept_of {W w3 : World} {v : Value} {o : Obj} {b : Nat} (hg : (W.alloc o).grownBy w3 v.ownBlock) (hb : b < W.heap.size) (hne : some b ≠ v.ownBlock) : w3.heap[b]? = W.heap[b]? :=
  (hg.block b (by simp; omega) hne).trans (Below.heap_alloc _ _ _ hb)

/-- rows, each in a row of its own, no two of them sharing a block -/
structure RQ (W : World) (B : Nat) (v : Value) (us : List Value) (ls : List (List Int)) : Prop where
  own : W.ownsRow B 57 1 v ls.length us
  len : us.length = ls.length
  each : ∀ i, i < ls.length → W.ownsRow B 3 1 (us.getD i undef) (ls.getD i []).length ((ls.getD i []).map (Value.int .i64))
  ap : ∀ i j, i < j → j < ls.length → ∀ g, (us.getD i undef).ownBlock = some g → (us.getD j undef).ownBlock ≠ some g
section
variable {W W' w3 : World} {B B' : Nat} {v v' u : Value} {us : List Value} {ls : List (List Int)} {l : List Int} {o : Obj}
theorem RQ.below (h : RQ W B v us ls) (hb : Below W.heap.size W W') : RQ W' B v us ls := ⟨own_below h.own hb, h.len, fun i hi => own_below (h.each i hi) hb, h.ap⟩
theorem RQ.base (h : RQ W B v us ls) (hB : B' ≤ B) : RQ W B' v us ls := ⟨own_base h.own hB, h.len, fun i hi => own_base (h.each i hi) hB, h.ap⟩
theorem RQ.step (h : RQ W B v us ls) (hu : W.ownsRow B 3 1 u l.length (l.map (Value.int .i64))) (hn : ∀ i, i < ls.length → ∀ g, (us.getD i undef).ownBlock = some g → u.ownBlock ≠ some g)
    (hown : w3.ownsRow B 57 1 v' (ls.length + 1) (us ++ [u])) (hg : (W.alloc o).grownBy w3 v.ownBlock) : RQ w3 B v' (us ++ [u]) (ls ++ [l]) := by
  have hint : ∀ {x : Value} {k : Nat} {xs : List Value}, W.ownsRow B 3 1 x k xs → w3.ownsRow B 3 1 x k xs := fun hx =>
    own_move hx fun g hgx => kept_of hg (hx.lt g hgx).2 (own_ne h.own (own_typ hx hgx) (by decide))
  have hl := h.len
  have e1 : ∀ i, i < ls.length → (us ++ [u]).getD i undef = us.getD i undef := fun i hi => by rw [List.getD_eq_getElem?_getD, List.getElem?_append_left (by omega), ← List.getD_eq_getElem?_getD]
  have e2 : (us ++ [u]).getD ls.length undef = u := by rw [List.getD_eq_getElem?_getD, List.getElem?_append_right (by omega), show ls.length - us.length = 0 by omega]; rfl
  have f1 : ∀ i, i < ls.length → (ls ++ [l]).getD i [] = ls.getD i [] := fun i hi => by rw [List.getD_eq_getElem?_getD, List.getElem?_append_left hi, ← List.getD_eq_getElem?_getD]
  have f2 : (ls ++ [l]).getD ls.length [] = l := by rw [List.getD_eq_getElem?_getD, List.getElem?_append_right (Nat.le_refl _), Nat.sub_self]; rfl
  refine ⟨by rw [List.length_append]; exact hown, by simp [hl], fun i hi => ?_, fun i j hij hj g => ?_⟩
  · rw [List.length_append, List.length_singleton] at hi
    by_cases e : i < ls.length
    · rw [e1 i e, f1 i e]; exact hint (h.each i e)
    · obtain rfl : i = ls.length := by omega
      rw [e2, f2]; exact hint hu
  · rw [List.length_append, List.length_singleton] at hj
    rw [e1 i (by omega)]
    by_cases e : j < ls.length
    · rw [e1 j e]; exact h.ap i j hij e g
    · obtain rfl : j = ls.length := by omega
      rw [e2]; exact hn i (by omega) g
theorem RQ.get (h : RQ W B v us ls) {i : Nat} (hi : i < ls.length) : ∃ g cap, v = .slice (some ⟨g, 0, none⟩) ls.length cap ∧ ls.length ≤ cap ∧ W.cell? ⟨g, i, none⟩ = some (us.getD i undef) := by
  rcases h.own.2 with ⟨-, h2⟩ | ⟨g, cap, cur, rfl, hb', hc, hn, -, -, ht⟩
  · omega
  · refine ⟨g, cap, rfl, hn, ?_⟩
    have hlen := h.len
    rw [cell_of_row _ _ _ _ _ _ hc, List.getD_eq_getElem?_getD, List.getElem?_eq_getElem (by omega), Option.getD_some, ← List.getElem?_eq_getElem (by omega : i < us.length), ← ht, List.getElem?_take_of_lt (by omega), Array.getElem?_toList]
theorem RQ.rs (h : RQ W B v us ls) : RS W W v us ls := by
  refine ⟨?_, h.len, fun i hi => ⟨own_is (h.each i hi), own_cap (h.each i hi)⟩⟩
  rcases h.own.2 with ⟨rfl, hn⟩ | ⟨g, cap, cur, rfl, hb', hc, hn, -⟩
  · exact ⟨none, 0, by rw [hn], by omega, Or.inl hn⟩
  · refine ⟨_, cap, rfl, hn, Or.inr ⟨g, 0, rfl, fun j hj => ?_⟩⟩
    obtain ⟨g', cap', e, -, hc'⟩ := h.get hj
    simp only [Value.slice.injEq, Option.some.injEq, Addr.mk.injEq] at e
    obtain ⟨⟨rfl, -⟩, -⟩ := e
    rw [Nat.zero_add]; exact hc'
end

/-- the values at some places -/
def atP (row places : List Int) : List Int := places.map fun p => row.getD p.toNat 0
theorem atP_len (row places : List Int) : (atP row places).length = places.length := by simp [atP]

set_option maxHeartbeats 2000000 in
set_option maxRecDepth 1000000 in
theorem valuesAt_calls (w : World) (vr vp : Value) (row places : List Int) (hr : IS w vr row) (hp : IS w vp places) (hlp : places.length ≤ 1000) (hin : ∀ p ∈ places, 0 ≤ p ∧ p < row.length) :
    Calls Tryz.prog 62 #[vr, vp] w fun e w' => ∃ v, e = .returned v ∧ w'.ownsRow w.heap.size 3 1 v (atP row places).length ((atP row places).map (Value.int .i64)) ∧ Below w.heap.size w w' := by
  obtain ⟨i0, hi, hz0, hz1, hz2⟩ := info_parts Tryz.infoInt
  obtain ⟨ar, capr, rfl, hcr⟩ := hr
  obtain ⟨ap, capp, rfl, hcp⟩ := hp
  have HC : Hid (∀ W, Below w.heap.size w W → ∀ j, j < places.length → ∃ (b o q br oo : Nat), ap = some ⟨b, o, none⟩ ∧ ar = some ⟨br, oo, none⟩ ∧ q < row.length ∧ W.cell? ⟨b, o + j, none⟩ = some (.int .i64 (q : Int)) ∧ W.cell? ⟨br, oo + q, none⟩ = some (.int .i64 (row.getD q 0)) ∧ places.getD j 0 = (q : Int)) := hid fun W hW j hj => by
    have hm : places.getD j 0 ∈ places := by rw [List.getD_eq_getElem?_getD, List.getElem?_eq_getElem hj]; exact List.getElem_mem _
    obtain ⟨h0, h1⟩ := hin _ hm
    have e : places.getD j 0 = ((places.getD j 0).toNat : Int) := by omega
    rcases hcp with h2 | ⟨b, o, rfl, h2⟩
    · omega
    · rcases hcr with h3 | ⟨br, oo, rfl, h3⟩
      · omega
      · refine ⟨b, o, (places.getD j 0).toNat, br, oo, rfl, rfl, by omega, ?_, ?_, e⟩
        · rw [← e]; exact (hW.cell (World.block_lt_of_cell? w _ (h2 j hj))).trans (h2 j hj)
        · exact (hW.cell (World.block_lt_of_cell? w _ (h3 _ (by omega)))).trans (h3 _ (by omega))
  have HP : Hid (∀ j q, j < places.length → places.getD j 0 = ((q : Nat) : Int) → (atP row (places.take (j + 1))).map (Value.int .i64) = (atP row (places.take j)).map (Value.int .i64) ++ [.int .i64 (row.getD q 0)]) := hid fun j q hj e => by
    unfold atP
    rw [List.take_add_one, List.getElem?_eq_getElem hj, List.map_append, List.map_append]
    rw [List.getD_eq_getElem?_getD, List.getElem?_eq_getElem hj] at e
    simp only [Option.getD_some] at e
    simp [e]
  have HP0 : Hid ((atP row (places.take 0)).map (Value.int .i64) = []) := hid rfl
  have HPn : Hid (atP row (places.take places.length) = atP row places) := hid (by rw [List.take_length])
  rw [atP_len]
  clear hcr hcp hin
  obtain ⟨n, hn⟩ : ∃ n, n = places.length := ⟨_, rfl⟩
  obtain ⟨nr, hnr⟩ : ∃ nr, nr = row.length := ⟨_, rfl⟩
  rw [← hn] at HC HP HPn hlp ⊢
  rw [← hnr] at HC ⊢
  clear hn hnr
  go_enter Tryz.func62, Tryz.ntmps62
  go_wp2_with (at_make; refine wpList_make_own _ rfl _ _ 57 rfl w.heap.size 3 i0 (.int .i64 0) 1 Tryz.underlying57 hi hz0 hz1 _ _ _ n rfl rfl rfl ?b2 ?b3 (Nat.le_refl _) ?_)
  case b2 => rw [hz2]; omega
  case b3 => unfold maxLen; omega
  intro w0 hown0 hgrow0
  have HS0 : Hid (w0.ownsRow w.heap.size 3 1 (.slice (some ⟨w.heap.size, 0, none⟩) 0 n) 0 [] ∧ Below w.heap.size w w0) := hid ⟨hown0, (Below.refl _ _).grown hgrow0 (Nat.le_refl _) (fun j hj => by cases hj)⟩
  clear hgrow0 hown0
  go_wp2_with fail
  go_loopw [5, 13] (fun u t wr => ∃ (j : Nat) (vo : Value), j ≤ n ∧ t = .int .i64 j ∧ vo = u ∧ Hid (wr.ownsRow w.heap.size 3 1 vo j ((atP row (places.take j)).map (Value.int .i64)) ∧ Below w.heap.size w wr)) (fun _ t _ => n - (intOf t).toNat)
  case atStart => exact ⟨0, _, Nat.zero_le _, rfl, rfl, hid ⟨by rw [HP0.out]; exact HS0.out.1, HS0.out.2⟩⟩
  case round =>
    clear HS0 HP0
    obtain ⟨j, vo, hj, rfl, rfl, HT⟩ := hrel
    by_cases hjn : j < n
    · have i1 : (j : Int) < (n : Int) := by omega
      obtain ⟨b, o, q, br, oo, ea, eb, hq, e1, e2, e3⟩ := HC.out wr HT.out.2 j hjn
      subst ea eb
      have i2 : (q : Int) < (nr : Int) := by omega
      have HPj := hid (HP.out j q hjn e3)
      have hs3 := HT.out.2.size
      clear e3
      generalize row.getD q 0 = y at *
      go_wp2_with (first | (at_builtin; refine wpList_append_lies _ rfl _ _ 57 rfl w.heap.size 3 i0 (.int .i64 0) 1 8 Tryz.underlying57 hi hz0 hz1 hz2 rfl (by decide) vo _ _ rfl (HT.out.1.alloc _) ⟨_, 0, none⟩ 1 1 [.int .i64 y] rfl rfl (new1_cell _ _ _) (fun u hu => by simp at hu; subst hu; rfl) (by decide) (by unfold maxLen; omega) (by omega) (by simp; omega) _ rfl ?_; intro g3 cp3 w4 hown4 hgrow4 hat4 hlt4) | fail)
      go_roundw
      case rel => exact ⟨j + 1, _, by omega, by go_num, rfl, hid ⟨by rw [HPj.out]; exact hown4, (HT.out.2.alloc hs3 _).grown hgrow4 (by simp; omega) (fun q hq => (HT.out.1.lt q hq).1)⟩⟩
      case measure => simp [intOf]; omega
    · obtain rfl : j = n := by omega
      have i1 : ¬ ((j : Int) < (j : Int)) := by omega
      go_wp2_with fail
      go_ret
      have h2 := HT.out.1
      rw [HPn.out] at h2
      exact ⟨_, rfl, h2, HT.out.2⟩

end Go.Proofs.YtegcpplkcahkhaaGreat
