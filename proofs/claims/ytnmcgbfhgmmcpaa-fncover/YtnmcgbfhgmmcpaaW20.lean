import Derived.Deep.AppendLies
import Derived.Deep.RegionLaw
import Derived.Deep.RegionWith
import Derived.Test.YtnmcgbfhgmmcpaaW17
import Derived.Test.YtnmcgbfhgmmcpaaW18
import Derived.Test.YtnmcgbfhgmmcpaaW19
/-
  impl.coverProgram, impl.packingProgram: a program's rows, each a list of its own.
-/
namespace Go.Proofs.Ytnmcgbfhgmmcpaa
open Go.RowKit

theorem Try.infoIS : (Try.prog.info? 23).map (fun i => (i.zero, i.size, i.bytes)) = some (some (.slice none 0 0), 1, 24) := by kernel_rfl

/-- a program in block pB, its rows in rows of their own from block B on -/
structure PR (W : World) (B pB : Nat) (u : Int) (bel : Bool) (vr : Value) (vs : List Value) (rows : List (List Int)) : Prop where
  typ : ∃ cur, W.heap[pB]? = some (.cells cur 82 (0, 0))
  c0 : W.cell? ⟨pB, 0, none⟩ = some (.int .i64 u)
  c1 : W.cell? ⟨pB, 1, none⟩ = some vr
  c2 : W.cell? ⟨pB, 2, none⟩ = some (.bool bel)
  f1 : W.frozen? ⟨pB, 1, none⟩ = false
  own : W.ownsRow B 23 1 vr rows.length vs
  len : vs.length = rows.length
  each : ∀ i, i < rows.length → W.ownsRow B 3 1 (vs.getD i undef) (rows.getD i []).length ((rows.getD i []).map (Value.int .i64))

theorem PR.below {W W' : World} {B pB : Nat} {u : Int} {bel : Bool} {vr : Value} {vs : List Value} {rows : List (List Int)} (h : PR W B pB u bel vr vs rows) (hb : Below W.heap.size W W') : PR W' B pB u bel vr vs rows where
  typ := by rw [hb.block pB (lt_of_typ h.typ)]; exact h.typ
  c0 := (hb.cell (p := ⟨pB, 0, none⟩) (lt_of_typ h.typ)).trans h.c0
  c1 := (hb.cell (p := ⟨pB, 1, none⟩) (lt_of_typ h.typ)).trans h.c1
  c2 := (hb.cell (p := ⟨pB, 2, none⟩) (lt_of_typ h.typ)).trans h.c2
  f1 := (hb.frozen (p := ⟨pB, 1, none⟩) (lt_of_typ h.typ)).trans h.f1
  own := own_below h.own hb
  len := h.len
  each i hi := own_below (h.each i hi) hb

/-- the row's own block holds cells of its type -/
theorem own_typ {w : World} {B n s g : Nat} {e : TypeId} {v : Value} {xs : List Value} (h : w.ownsRow B e s v n xs) (hg : v.ownBlock = some g) : ∃ cur, w.heap[g]? = some (.cells cur e (0, 0)) := by
  rcases h.2 with ⟨rfl, _⟩ | ⟨g', cap, cur, rfl, _, hc, _⟩
  · simp [Value.ownBlock] at hg
  · simp only [Value.ownBlock, Option.some.injEq] at hg
    subst hg
    exact ⟨cur, hc⟩

theorem PR.step {W w3 : World} {B pB : Nat} {u : Int} {bel : Bool} {vr vr' v : Value} {vs : List Value} {rows : List (List Int)} {l : List Int} {o : Obj} (h : PR W B pB u bel vr vs rows)
    (hv : W.ownsRow B 3 1 v l.length (l.map (Value.int .i64))) (hown : w3.ownsRow B 23 1 vr' (rows.length + 1) (vs ++ [v])) (hg : (W.alloc o).grownBy w3 vr.ownBlock) :
    PR (w3.setCell ⟨pB, 1, none⟩ vr') B pB u bel vr' (vs ++ [v]) (rows ++ [l]) := by
  have hsz : (W.alloc o).heap.size = W.heap.size + 1 := by simp
  have hk : ∀ b, b < W.heap.size → some b ≠ vr.ownBlock → w3.heap[b]? = W.heap[b]? := fun b hb hne => (hg.block b (by omega) hne).trans (Below.heap_alloc _ _ _ hb)
  have hp3 : w3.heap[pB]? = W.heap[pB]? := hk pB (lt_of_typ h.typ) (own_ne h.own h.typ (by decide))
  have ht3 : ∃ cur, w3.heap[pB]? = some (.cells cur 82 (0, 0)) := by rw [hp3]; exact h.typ
  have hog : Og pB w3 (w3.setCell ⟨pB, 1, none⟩ vr') := (Og.refl _ _).set _ _
  have hint : ∀ {x : Value} {k : Nat} {xs : List Value}, W.ownsRow B 3 1 x k xs → (w3.setCell ⟨pB, 1, none⟩ vr').ownsRow B 3 1 x k xs := fun hx =>
    own_og (own_move hx (w' := w3) (fun g hgx => hk g ((hx.lt g hgx).2) (fun e => own_ne h.own (own_typ hx hgx) (by decide) e))) hog ht3 (by decide)
  refine ⟨?_, ?_, ?_, ?_, ?_, ?_, ?_, fun i hi => ?_⟩
  · obtain ⟨cur, hc⟩ := ht3
    exact ⟨_, heap_setCell_same _ _ _ _ _ _ hc⟩
  · exact (World.cell?_setCell_other _ _ _ _ (by simp)).trans ((World.cell?_of_block (w := W) (a := ⟨pB, 0, none⟩) hp3).trans h.c0)
  · exact World.cell?_setCell_same _ _ _ ((World.cell?_of_block (w := W) (a := ⟨pB, 1, none⟩) hp3).trans h.c1)
  · exact (World.cell?_setCell_other _ _ _ _ (by simp)).trans ((World.cell?_of_block (w := W) (a := ⟨pB, 2, none⟩) hp3).trans h.c2)
  · rw [World.frozen?_setCell]; exact (World.frozen?_of_block (w := W) (a := ⟨pB, 1, none⟩) hp3).trans h.f1
  · rw [List.length_append]; exact own_og hown hog ht3 (by decide)
  · rw [List.length_append, List.length_append, h.len]; rfl
  · rw [List.length_append] at hi
    simp only [List.length_cons, List.length_nil] at hi
    by_cases e : i < rows.length
    · have h1 : (rows ++ [l]).getD i [] = rows.getD i [] := by rw [List.getD_eq_getElem?_getD, List.getElem?_append_left e, ← List.getD_eq_getElem?_getD]
      have h2 : (vs ++ [v]).getD i undef = vs.getD i undef := by rw [List.getD_eq_getElem?_getD, List.getElem?_append_left (by rw [h.len]; exact e), ← List.getD_eq_getElem?_getD]
      rw [h1, h2]
      exact hint (h.each i e)
    · obtain rfl : i = rows.length := by omega
      have h1 : (rows ++ [l]).getD rows.length [] = l := by rw [List.getD_eq_getElem?_getD, List.getElem?_append_right (Nat.le_refl _)]; simp
      have h2 : (vs ++ [v]).getD rows.length undef = v := by rw [List.getD_eq_getElem?_getD, List.getElem?_append_right (by rw [h.len]; exact Nat.le_refl _), h.len]; simp
      rw [h1, h2]
      exact hint hv

/-- the rows of the cover's program -/
def coverRows (bag : List Int) (es : List (List Int)) : List (List Int) := bag.map fun x => plc (fun i => decide (x ∈ es.getD i [])) es.length

theorem coverRows_succ (bag : List Int) (es : List (List Int)) (k : Nat) (h : k < bag.length) : coverRows (bag.take (k + 1)) es = coverRows (bag.take k) es ++ [plc (fun i => decide (bag.getD k 0 ∈ es.getD i [])) es.length] := by
  unfold coverRows
  rw [List.take_add_one, List.getElem?_eq_getElem h, List.getD_eq_getElem?_getD (l := bag), List.getElem?_eq_getElem h]
  simp only [Option.toList_some, List.map_append, List.map_cons, List.map_nil, Option.getD_some]

theorem coverRows_len (bag : List Int) (es : List (List Int)) : (coverRows bag es).length = bag.length := by simp [coverRows]

theorem PR.other {W : World} {B pB c o : Nat} {u : Int} {bel : Bool} {vr v : Value} {vs : List Value} {rows : List (List Int)} (h : PR W B pB u bel vr vs rows) (ht : ∃ cur, W.heap[c]? = some (.cells cur 82 (0, 0))) (hc : c ≠ pB) : PR (W.setCell ⟨c, o, none⟩ v) B pB u bel vr vs rows := by
  have hog : Og c W (W.setCell ⟨c, o, none⟩ v) := (Og.refl _ _).set _ _
  have hp : (W.setCell ⟨c, o, none⟩ v).heap[pB]? = W.heap[pB]? := hog.block pB (Ne.symm hc)
  exact ⟨by rw [hp]; exact h.typ, (World.cell?_of_block (w := W) (a := ⟨pB, 0, none⟩) hp).trans h.c0, (World.cell?_of_block (w := W) (a := ⟨pB, 1, none⟩) hp).trans h.c1, (World.cell?_of_block (w := W) (a := ⟨pB, 2, none⟩) hp).trans h.c2, (World.frozen?_of_block (w := W) (a := ⟨pB, 1, none⟩) hp).trans h.f1,
    own_og h.own hog ht (by decide), h.len, fun i hi => own_og (h.each i hi) hog ht (by decide)⟩

theorem typ_set {W : World} {c o : Nat} {v : Value} {e : TypeId} (h : ∃ cur, W.heap[c]? = some (.cells cur e (0, 0))) : ∃ cur, (W.setCell ⟨c, o, none⟩ v).heap[c]? = some (.cells cur e (0, 0)) := by
  obtain ⟨cur, h⟩ := h
  exact ⟨_, heap_setCell_same _ _ _ _ _ _ h⟩

theorem own_base {w : World} {B B' n s : Nat} {e : TypeId} {v : Value} {xs : List Value} (h : w.ownsRow B e s v n xs) (hB : B' ≤ B) : w.ownsRow B' e s v n xs := by
  obtain ⟨h1, h2⟩ := h
  refine ⟨h1, ?_⟩
  rcases h2 with h2 | ⟨g, cap, cur, hv, hg, hr⟩
  · exact Or.inl h2
  · exact Or.inr ⟨g, cap, cur, hv, Nat.le_trans hB hg, hr⟩

set_option maxHeartbeats 4000000 in
set_option maxRecDepth 1000000 in
theorem coverProgram_calls (w : World) (vb ve : Value) (bag : List Int) (es : List (List Int)) (hb : IS w vb bag) (h : ISS w ve es) (hlb : bag.length ≤ 1000) (hl : Short es) :
    Calls Try.prog 46 #[vb, ve] w fun e w' => ∃ vr vs, e = .returned (.agg #[.int .i64 es.length, vr, .bool true]) ∧ PR w' w.heap.size (w.heap.size + 1) es.length true vr vs (coverRows bag es) ∧ Below w.heap.size w w' := by
  obtain ⟨i0, hi, hz0, hz1, hz2⟩ := info_parts Try.infoIS
  have HE := hid h
  have HL := hid hl
  obtain ⟨a, cap, rfl, hc⟩ := hb
  obtain ⟨a', cap', rfl, -⟩ := h
  obtain ⟨n, hn⟩ : ∃ n, n = bag.length := ⟨_, rfl⟩
  have HN := hid hn
  have HC := hid hc
  rw [← hn] at HC hlb ⊢
  clear hc hn hl
  have hP0 : PR ((w.alloc (.cells #[.int .i64 0, .slice none 0 0, .bool false] 82)).alloc (.cells #[.int .i64 es.length, .slice none 0 0, .bool true] 82)) w.heap.size (w.heap.size + 1) es.length true (.slice none 0 0) [] [] :=
    ⟨⟨_, by have := heap_alloc_new (w.alloc (.cells #[.int .i64 0, .slice none 0 0, .bool false] 82)) (.cells #[.int .i64 es.length, .slice none 0 0, .bool true] 82); simpa using this⟩, by simp [go_sem], by simp [go_sem], by simp [go_sem], by simp [go_sem], World.ownsRow_nil _ _ _ _, rfl, fun i hi => by simp at hi⟩
  have HP0 := hid hP0
  clear hP0
  go_enter Try.func46, Try.ntmps46
  go_wp2
  go_loopw [13] (fun t wr => ∃ k : Nat, k ≤ n ∧ t = .int .i64 k ∧ w.heap.size + 1 < wr.heap.size ∧ Hid (Below w.heap.size w wr ∧ wr.heap[w.heap.size]? = some (.cells #[.int .i64 0, .slice none 0 0, .bool false] 82 (0, 0)) ∧ ∃ vr vs, PR wr w.heap.size (w.heap.size + 1) es.length true vr vs (coverRows (bag.take k) es))) (fun t _ => n - (intOf t).toNat)
  case atStart => exact ⟨0, Nat.zero_le _, rfl, by simp, hid ⟨((Below.refl _ _).alloc (Nat.le_refl _) _).alloc (by simp) _, by rw [Below.heap_alloc _ _ _ (by simp)]; exact heap_alloc_new _ _, _, _, HP0.out⟩⟩
  case round =>
    clear HP0
    obtain ⟨k, hk, rfl, hsz, hH⟩ := hrel
    obtain ⟨hnx, hr0, vr, vs, hPR⟩ := hH.out
    by_cases hkn : k < n
    · have i1 : (k : Int) < (n : Int) := by omega
      rcases HC.out with h0 | ⟨b, o, rfl, hcell⟩
      · omega
      · have d0 := hcell k hkn
        have c1 : wr.cell? ⟨b, o + k, none⟩ = some (.int .i64 (bag.getD k 0)) := (hnx.cell (p := ⟨b, o + k, none⟩) (World.block_lt_of_cell? w _ d0)).trans d0
        have HEr := hid (HE.out.below hnx)
        have hkl : k < bag.length := by rw [← HN.out]; exact hkn
        have HSU := hid (coverRows_succ bag es k hkl)
        have hrl : (coverRows (bag.take k) es).length = k := by rw [coverRows_len, List.length_take]; omega
        have c5 := hPR.c1
        have f5 := hPR.f1
        have hown := hPR.own
        rw [hrl] at hown
        have HPR := hid hPR
        have HNX := hid hnx
        have HRR := hid hr0
        have hns := hnx.size
        clear hH hPR hnx hcell d0 hr0
        obtain ⟨pl, hpl⟩ : ∃ q, q = plc (fun i => decide (bag.getD k 0 ∈ es.getD i [])) es.length := ⟨_, rfl⟩
        have K1 : Hid (∀ W, ISS W (.slice a' es.length cap') es → Calls Try.prog 87 #[.int .i64 (bag.getD k 0), .slice a' es.length cap'] W fun e w' => ∃ v, e = .returned v ∧ w'.ownsRow W.heap.size 3 1 v pl.length (pl.map (Value.int .i64)) ∧ Below W.heap.size W w') := hid (fun W hW => by rw [hpl]; exact edgesWith_calls W _ _ es hW HL.out)
        rw [← hpl] at HSU
        clear hpl
        generalize bag.getD k 0 = x at *
        go_wp2_with fail
        go_region_law (first
          | (go_simp; go_at_call 87; refine (K1.out wr.drew HEr.out).mono ?_; rintro e w2 ⟨v, rfl, hv, hb2'⟩; have hb2 : Below wr.heap.size wr w2 := (Below.refl _ _).drew.trans hb2'; obtain ⟨av, cv, rfl, -⟩ := own_is hv; have c6 : w2.cell? ⟨w.heap.size + 1, 1, none⟩ = some vr := (hb2.cell (p := ⟨w.heap.size + 1, 1, none⟩) hsz).trans c5; have hsz2 : w.heap.size + 1 < w2.heap.size := Nat.lt_of_lt_of_le hsz hb2.size; have c8 : ∀ o', (w2.alloc o').cell? ⟨w.heap.size + 1, 1, none⟩ = some vr := fun o' => (World.cell?_alloc_past _ _ _ hsz2).trans c6)
          | (refine step_append_lies _ (by rfl) _ _ _ (by rfl) w.heap.size 23 i0 (.slice none 0 0) 1 24 Try.underlying24 hi hz0 hz1 hz2 rfl (by decide) vr k vs (by rfl) ((own_below hown hb2).alloc _) ⟨w2.heap.size, 0, none⟩ 1 1 [.slice av pl.length cv] (by rfl) (by rfl) (new1_cell _ _ _) (fun u hu => by simp at hu; subst hu; rfl) (by decide) (by unfold maxLen; omega) (by omega) (by have := hb2.size; simp at this ⊢; omega) (w2.heap.size + 1) (by simp) ?_; intro g3 cp3 w3 hown3 hgrow hat3 hlt3; have hp3 : w3.heap[w.heap.size + 1]? = w2.heap[w.heap.size + 1]? := (hgrow.block _ (by simp; omega) (own_ne (own_below hown hb2) (HPR.out.below hb2).typ (by decide))).trans (Below.heap_alloc _ _ _ hsz2); have c7 : w3.cell? ⟨w.heap.size + 1, 1, none⟩ = some vr := (World.cell?_of_block (w := w2) (a := ⟨w.heap.size + 1, 1, none⟩) hp3).trans c6; have f7 : w3.frozen? ⟨w.heap.size + 1, 1, none⟩ = false := (World.frozen?_of_block (w := w2) (a := ⟨w.heap.size + 1, 1, none⟩) hp3).trans (HPR.out.below hb2).f1))
        all_goals
          have hR2 : w2.heap[w.heap.size]? = some (.cells #[.int .i64 0, .slice none 0 0, .bool false] 82 (0, 0)) := (hb2.block _ (by omega)).trans HRR.out
          have hR3 : w3.heap[w.heap.size]? = some (.cells #[.int .i64 0, .slice none 0 0, .bool false] 82 (0, 0)) := ((hgrow.block _ (by simp; omega) (own_ne (own_below hown hb2) ⟨_, hR2⟩ (by decide))).trans (Below.heap_alloc _ _ _ (by omega))).trans hR2
          have hB3 : Below w.heap.size w w3 := own_grow2 (by omega) (own_below hown hb2) (bt HNX.out hb2) hgrow
          have hP3 := (HPR.out.below hb2).step (own_base hv hns) (by rw [hrl]; exact hown3) hgrow
          have HF : Hid (Below w.heap.size w (w3.setCell ⟨w.heap.size + 1, 1, none⟩ (.slice (some ⟨g3, 0, none⟩) (k + 1) cp3)) ∧ (w3.setCell ⟨w.heap.size + 1, 1, none⟩ (.slice (some ⟨g3, 0, none⟩) (k + 1) cp3)).heap[w.heap.size]? = some (.cells #[.int .i64 0, .slice none 0 0, .bool false] 82 (0, 0)) ∧ ∃ vr vs, PR (w3.setCell ⟨w.heap.size + 1, 1, none⟩ (.slice (some ⟨g3, 0, none⟩) (k + 1) cp3)) w.heap.size (w.heap.size + 1) es.length true vr vs (coverRows (bag.take (k + 1)) es)) :=
            hid ⟨hB3.setCell (by show w.heap.size ≤ w.heap.size + 1; omega) _, (Below.heap_setCell _ _ _ _ (by show w.heap.size ≠ w.heap.size + 1; omega)).trans hR3, _, _, by rw [HSU.out]; exact hP3⟩
          have hs3 : w.heap.size + 1 < w3.heap.size := by have := hgrow.size; simp at this; omega
          clear hR2 hR3 hB3 hP3 hgrow hown3 hv hb2 hb2'
          go_wp2
          go_roundw
          case rel => exact ⟨k + 1, by omega, by go_num, by simpa [World.setCell] using hs3, HF⟩
          case measure => simp [intOf]; omega
    · obtain rfl : k = n := by omega
      have i1 : ¬ ((k : Int) < (k : Int)) := by omega
      rw [HN.out, List.take_length] at hPR
      have c0 := hPR.c0
      have c1 := hPR.c1
      have c2 := hPR.c2
      have z0 : wr.cell? ⟨w.heap.size, 0, none⟩ = some (.int .i64 0) := by rw [cell_of_row _ _ _ _ _ _ hr0]; rfl
      have z1 : wr.cell? ⟨w.heap.size, 1, none⟩ = some (.slice none 0 0) := by rw [cell_of_row _ _ _ _ _ _ hr0]; rfl
      have z2 : wr.cell? ⟨w.heap.size, 2, none⟩ = some (.bool false) := by rw [cell_of_row _ _ _ _ _ _ hr0]; rfl
      have y0 : wr.frozen? ⟨w.heap.size, 0, none⟩ = false := frozen_of_row _ _ _ _ _ hr0
      have y1 : wr.frozen? ⟨w.heap.size, 1, none⟩ = false := frozen_of_row _ _ _ _ _ hr0
      have y2 : wr.frozen? ⟨w.heap.size, 2, none⟩ = false := frozen_of_row _ _ _ _ _ hr0
      obtain ⟨av, cv, hvr⟩ : ∃ av cv, vr = .slice av (coverRows bag es).length cv := by
        rcases hPR.own.2 with ⟨rfl, h2⟩ | ⟨g, cp, cur, rfl, -⟩
        · exact ⟨none, 0, by rw [h2]⟩
        · exact ⟨_, _, rfl⟩
      subst hvr
      have HPR := hid hPR
      have HNX := hid hnx
      have HR0 := hid hr0
      clear hH hPR hnx hr0
      generalize (coverRows bag es).length = m at *
      go_wp2
      refine bodyPost_ret (v := .agg #[.int .i64 es.length, .slice av m cv, .bool true]) (by simp [results, Try.results46, go_sem, z0, z1, z2]) rfl
        ⟨_, rfl, ⟨_, ((HPR.out.other ⟨_, HR0.out⟩ (by omega)).other (typ_set ⟨_, HR0.out⟩) (by omega)).other (typ_set (typ_set ⟨_, HR0.out⟩)) (by omega)⟩, ((HNX.out.setCell (Nat.le_refl _) _).setCell (Nat.le_refl _) _).setCell (Nat.le_refl _) _⟩

end Go.Proofs.Ytnmcgbfhgmmcpaa

/-
  impl.packingProgram.
-/
namespace Go.Proofs.Ytnmcgbfhgmmcpaa
open Go.RowKit

/-- the rows of the packing's program -/
def packRows (bag : List Int) (es : List (List Int)) : List (List Int) := es.map fun e => plc (fun i => decide (bag.getD i 0 ∈ e)) bag.length

theorem packRows_succ (bag : List Int) (es : List (List Int)) (k : Nat) (h : k < es.length) : packRows bag (es.take (k + 1)) = packRows bag (es.take k) ++ [plc (fun i => decide (bag.getD i 0 ∈ es.getD k [])) bag.length] := by
  unfold packRows
  rw [List.take_add_one, List.getElem?_eq_getElem h, List.getD_eq_getElem?_getD (l := es), List.getElem?_eq_getElem h]
  simp only [Option.toList_some, List.map_append, List.map_cons, List.map_nil, Option.getD_some]

theorem packRows_len (bag : List Int) (es : List (List Int)) : (packRows bag es).length = es.length := by simp [packRows]

set_option maxHeartbeats 4000000 in
set_option maxRecDepth 1000000 in
theorem packingProgram_calls (w : World) (vb ve : Value) (bag : List Int) (es : List (List Int)) (hb : IS w vb bag) (h : ISS w ve es) (hlb : bag.length ≤ 1000) (hl : Short es) (hle : es.length ≤ 1000) :
    Calls Try.prog 47 #[vb, ve] w fun e w' => ∃ vr vs, e = .returned (.agg #[.int .i64 bag.length, vr, .bool false]) ∧ PR w' w.heap.size (w.heap.size + 1) bag.length false vr vs (packRows bag es) ∧ Below w.heap.size w w' := by
  obtain ⟨i0, hi, hz0, hz1, hz2⟩ := info_parts Try.infoIS
  have HE := hid hb
  have HL := hid hl.2
  obtain ⟨a, cap, rfl, hc⟩ := h
  obtain ⟨a', cap', rfl, -⟩ := hb
  obtain ⟨n, hn⟩ : ∃ n, n = es.length := ⟨_, rfl⟩
  have HN := hid hn
  have HC := hid hc
  rw [← hn] at HC hle ⊢
  clear hc hn hl
  have hP0 : PR ((w.alloc (.cells #[.int .i64 0, .slice none 0 0, .bool false] 82)).alloc (.cells #[.int .i64 bag.length, .slice none 0 0, .bool false] 82)) w.heap.size (w.heap.size + 1) bag.length false (.slice none 0 0) [] [] :=
    ⟨⟨_, by have := heap_alloc_new (w.alloc (.cells #[.int .i64 0, .slice none 0 0, .bool false] 82)) (.cells #[.int .i64 bag.length, .slice none 0 0, .bool false] 82); simpa using this⟩, by simp [go_sem], by simp [go_sem], by simp [go_sem], by simp [go_sem], World.ownsRow_nil _ _ _ _, rfl, fun i hi => by simp at hi⟩
  have HP0 := hid hP0
  clear hP0
  go_enter Try.func47, Try.ntmps47
  go_wp2
  go_loopw [13] (fun t wr => ∃ k : Nat, k ≤ n ∧ t = .int .i64 k ∧ w.heap.size + 1 < wr.heap.size ∧ Hid (Below w.heap.size w wr ∧ wr.heap[w.heap.size]? = some (.cells #[.int .i64 0, .slice none 0 0, .bool false] 82 (0, 0)) ∧ ∃ vr vs, PR wr w.heap.size (w.heap.size + 1) bag.length false vr vs (packRows bag (es.take k)))) (fun t _ => n - (intOf t).toNat)
  case atStart => exact ⟨0, Nat.zero_le _, rfl, by simp, hid ⟨((Below.refl _ _).alloc (Nat.le_refl _) _).alloc (by simp) _, by rw [Below.heap_alloc _ _ _ (by simp)]; exact heap_alloc_new _ _, _, _, HP0.out⟩⟩
  case round =>
    clear HP0
    obtain ⟨k, hk, rfl, hsz, hH⟩ := hrel
    obtain ⟨hnx, hr0, vr, vs, hPR⟩ := hH.out
    by_cases hkn : k < n
    · have i1 : (k : Int) < (n : Int) := by omega
      rcases HC.out with h0 | ⟨b, o, rfl, hcell⟩
      · omega
      · obtain ⟨ue, d0, hue⟩ := hcell k hkn
        have c1 : wr.cell? ⟨b, o + k, none⟩ = some ue := (hnx.cell (p := ⟨b, o + k, none⟩) (World.block_lt_of_cell? w _ d0)).trans d0
        have HUE := hid (hue.below hnx)
        obtain ⟨ae, ce, rfl, -⟩ := hue
        have HEr := hid (HE.out.below hnx)
        have hkl : k < es.length := by rw [← HN.out]; exact hkn
        have HSU := hid (packRows_succ bag es k hkl)
        have hrl : (packRows bag (es.take k)).length = k := by rw [packRows_len, List.length_take]; omega
        have c5 := hPR.c1
        have f5 := hPR.f1
        have hown := hPR.own
        rw [hrl] at hown
        have HPR := hid hPR
        have HNX := hid hnx
        have HRR := hid hr0
        have hns := hnx.size
        clear hH hPR hnx hcell d0 hr0
        obtain ⟨pl, hpl⟩ : ∃ q, q = plc (fun i => decide (bag.getD i 0 ∈ es.getD k [])) bag.length := ⟨_, rfl⟩
        have K1 : Hid (∀ W, IS W (.slice a' bag.length cap') bag → IS W (.slice ae (es.getD k []).length ce) (es.getD k []) → Calls Try.prog 92 #[.slice a' bag.length cap', .slice ae (es.getD k []).length ce] W fun e w' => ∃ v, e = .returned v ∧ w'.ownsRow W.heap.size 3 1 v pl.length (pl.map (Value.int .i64)) ∧ Below W.heap.size W w') := hid (fun W hW hW' => by rw [hpl]; exact placesIn_calls W _ _ bag (es.getD k []) hW hW' (by omega) (HL.out k))
        rw [← hpl] at HSU
        clear hpl
        generalize es.getD k [] = ed at *
        generalize ed.length = edl at *
        go_wp2_with fail
        go_region_law (first
          | (go_simp; go_at_call 92; refine (K1.out wr.drew HEr.out HUE.out).mono ?_; rintro e w2 ⟨v, rfl, hv, hb2'⟩; have hb2 : Below wr.heap.size wr w2 := (Below.refl _ _).drew.trans hb2'; obtain ⟨av, cv, rfl, -⟩ := own_is hv; have c6 : w2.cell? ⟨w.heap.size + 1, 1, none⟩ = some vr := (hb2.cell (p := ⟨w.heap.size + 1, 1, none⟩) hsz).trans c5; have hsz2 : w.heap.size + 1 < w2.heap.size := Nat.lt_of_lt_of_le hsz hb2.size; have c8 : ∀ o', (w2.alloc o').cell? ⟨w.heap.size + 1, 1, none⟩ = some vr := fun o' => (World.cell?_alloc_past _ _ _ hsz2).trans c6)
          | (refine step_append_lies _ (by rfl) _ _ _ (by rfl) w.heap.size 23 i0 (.slice none 0 0) 1 24 Try.underlying24 hi hz0 hz1 hz2 rfl (by decide) vr k vs (by rfl) ((own_below hown hb2).alloc _) ⟨w2.heap.size, 0, none⟩ 1 1 [.slice av pl.length cv] (by rfl) (by rfl) (new1_cell _ _ _) (fun u hu => by simp at hu; subst hu; rfl) (by decide) (by unfold maxLen; omega) (by omega) (by have := hb2.size; simp at this ⊢; omega) (w2.heap.size + 1) (by simp) ?_; intro g3 cp3 w3 hown3 hgrow hat3 hlt3; have hp3 : w3.heap[w.heap.size + 1]? = w2.heap[w.heap.size + 1]? := (hgrow.block _ (by simp; omega) (own_ne (own_below hown hb2) (HPR.out.below hb2).typ (by decide))).trans (Below.heap_alloc _ _ _ hsz2); have c7 : w3.cell? ⟨w.heap.size + 1, 1, none⟩ = some vr := (World.cell?_of_block (w := w2) (a := ⟨w.heap.size + 1, 1, none⟩) hp3).trans c6; have f7 : w3.frozen? ⟨w.heap.size + 1, 1, none⟩ = false := (World.frozen?_of_block (w := w2) (a := ⟨w.heap.size + 1, 1, none⟩) hp3).trans (HPR.out.below hb2).f1))
        all_goals
          have hR2 : w2.heap[w.heap.size]? = some (.cells #[.int .i64 0, .slice none 0 0, .bool false] 82 (0, 0)) := (hb2.block _ (by omega)).trans HRR.out
          have hR3 : w3.heap[w.heap.size]? = some (.cells #[.int .i64 0, .slice none 0 0, .bool false] 82 (0, 0)) := ((hgrow.block _ (by simp; omega) (own_ne (own_below hown hb2) ⟨_, hR2⟩ (by decide))).trans (Below.heap_alloc _ _ _ (by omega))).trans hR2
          have hB3 : Below w.heap.size w w3 := own_grow2 (by omega) (own_below hown hb2) (bt HNX.out hb2) hgrow
          have hP3 := (HPR.out.below hb2).step (own_base hv hns) (by rw [hrl]; exact hown3) hgrow
          have HF : Hid (Below w.heap.size w (w3.setCell ⟨w.heap.size + 1, 1, none⟩ (.slice (some ⟨g3, 0, none⟩) (k + 1) cp3)) ∧ (w3.setCell ⟨w.heap.size + 1, 1, none⟩ (.slice (some ⟨g3, 0, none⟩) (k + 1) cp3)).heap[w.heap.size]? = some (.cells #[.int .i64 0, .slice none 0 0, .bool false] 82 (0, 0)) ∧ ∃ vr vs, PR (w3.setCell ⟨w.heap.size + 1, 1, none⟩ (.slice (some ⟨g3, 0, none⟩) (k + 1) cp3)) w.heap.size (w.heap.size + 1) bag.length false vr vs (packRows bag (es.take (k + 1)))) :=
            hid ⟨hB3.setCell (by show w.heap.size ≤ w.heap.size + 1; omega) _, (Below.heap_setCell _ _ _ _ (by show w.heap.size ≠ w.heap.size + 1; omega)).trans hR3, _, _, by rw [HSU.out]; exact hP3⟩
          have hs3 : w.heap.size + 1 < w3.heap.size := by have := hgrow.size; simp at this; omega
          clear hR2 hR3 hB3 hP3 hgrow hown3 hv hb2 hb2'
          go_wp2
          go_roundw
          case rel => exact ⟨k + 1, by omega, by go_num, by simpa [World.setCell] using hs3, HF⟩
          case measure => simp [intOf]; omega
    · obtain rfl : k = n := by omega
      have i1 : ¬ ((k : Int) < (k : Int)) := by omega
      rw [HN.out, List.take_length] at hPR
      have c0 := hPR.c0
      have c1 := hPR.c1
      have c2 := hPR.c2
      have z0 : wr.cell? ⟨w.heap.size, 0, none⟩ = some (.int .i64 0) := by rw [cell_of_row _ _ _ _ _ _ hr0]; rfl
      have z1 : wr.cell? ⟨w.heap.size, 1, none⟩ = some (.slice none 0 0) := by rw [cell_of_row _ _ _ _ _ _ hr0]; rfl
      have z2 : wr.cell? ⟨w.heap.size, 2, none⟩ = some (.bool false) := by rw [cell_of_row _ _ _ _ _ _ hr0]; rfl
      have y0 : wr.frozen? ⟨w.heap.size, 0, none⟩ = false := frozen_of_row _ _ _ _ _ hr0
      have y1 : wr.frozen? ⟨w.heap.size, 1, none⟩ = false := frozen_of_row _ _ _ _ _ hr0
      have y2 : wr.frozen? ⟨w.heap.size, 2, none⟩ = false := frozen_of_row _ _ _ _ _ hr0
      obtain ⟨av, cv, hvr⟩ : ∃ av cv, vr = .slice av (packRows bag es).length cv := by
        rcases hPR.own.2 with ⟨rfl, h2⟩ | ⟨g, cp, cur, rfl, -⟩
        · exact ⟨none, 0, by rw [h2]⟩
        · exact ⟨_, _, rfl⟩
      subst hvr
      have HPR := hid hPR
      have HNX := hid hnx
      have HR0 := hid hr0
      clear hH hPR hnx hr0
      generalize (packRows bag es).length = m at *
      go_wp2
      refine bodyPost_ret (v := .agg #[.int .i64 bag.length, .slice av m cv, .bool false]) (by simp [results, Try.results47, go_sem, z0, z1, z2]) rfl
        ⟨_, rfl, ⟨_, ((HPR.out.other ⟨_, HR0.out⟩ (by omega)).other (typ_set ⟨_, HR0.out⟩) (by omega)).other (typ_set (typ_set ⟨_, HR0.out⟩)) (by omega)⟩, ((HNX.out.setCell (Nat.le_refl _) _).setCell (Nat.le_refl _) _).setCell (Nat.le_refl _) _⟩

end Go.Proofs.Ytnmcgbfhgmmcpaa
