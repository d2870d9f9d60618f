import Derived.Test.YtcdfoephhjacdaaDoorQ25
import Derived.Test.YtcdfoephhjacdaaDoorQ35
/-
  The data in the making: relations, each with lists of its own.
-/
namespace Go.Proofs.YtcdfoephhjacdaaDoor
open Go.RowKit

/-- a relation that has been read -/
structure RelOf (r : RdV) (d : RelV) : Prop where
  name : d.name = r.nm
  ar : d.ar = (r.ar : Int)
  ex : ∃ ss : List T3, ss.Perm (r.rs.map Prod.fst) ∧ (ss.Pairwise fun a b => ¬ cmpL (tl b) (tl a) < 0) ∧ d.rows = rowsT r.ar ss ∧ d.ws = wtsT r.rs ss

/-- the cells of a relation -/
def relC (d : RelV) (vr vw : Value) : List Value := [.string d.name, .int .i64 d.ar, vr, vw]

structure DQ (W : World) (B : Nat) (v : Value) (ds : List RelV) (vr vw : Nat → Value) (us : Nat → List Value) (lo hi : Nat → Nat) : Prop where
  own : W.ownsRow B 77 4 v ds.length ((List.range ds.length).flatMap fun i => relC (ds.getD i noRel) (vr i) (vw i))
  rq : ∀ i, i < ds.length → RQ W (lo i) (vr i) (us i) (ds.getD i noRel).rows
  ow : ∀ i, i < ds.length → W.ownsRow (lo i) 3 1 (vw i) (ds.getD i noRel).ws.length ((ds.getD i noRel).ws.map (Value.int .i64))
  ap : ∀ i, i < ds.length → ∀ j, j < (ds.getD i noRel).rows.length → ApR ((us i).getD j undef) (vw i)
  up : ∀ i, i < ds.length → (∀ g, (vw i).ownBlock = some g → g < hi i) ∧ ∀ j, j < (ds.getD i noRel).rows.length → ∀ g, ((us i).getD j undef).ownBlock = some g → g < hi i
  low : ∀ i, i < ds.length → B ≤ lo i ∧ hi i ≤ W.heap.size
  sep : ∀ i j, i < j → j < ds.length → hi i ≤ lo j

section
variable {W W' w3 : World} {B p q : Nat} {v v' v2 v3 : Value} {ds : List RelV} {vr vw : Nat → Value} {us : Nat → List Value} {lo hi : Nat → Nat} {d : RelV} {o : Obj} {us5 : List Value} {E0 hi' : Nat}
theorem DQ.nil (W : World) (B : Nat) : DQ W B (.slice none 0 0) [] vr vw us lo hi :=
  ⟨World.ownsRow_nil _ _ _ _, fun _ h => absurd h (Nat.not_lt_zero _), fun _ h => absurd h (Nat.not_lt_zero _), fun _ h => absurd h (Nat.not_lt_zero _), fun _ h => absurd h (Nat.not_lt_zero _), fun _ h => absurd h (Nat.not_lt_zero _), fun _ _ _ h => absurd h (Nat.not_lt_zero _)⟩
theorem DQ.below (h : DQ W B v ds vr vw us lo hi) (hb : Below W.heap.size W W') : DQ W' B v ds vr vw us lo hi :=
  ⟨own_below h.own hb, fun i hi' => (h.rq i hi').below hb, fun i hi' => own_below (h.ow i hi') hb, h.ap, h.up, fun i hi' => ⟨(h.low i hi').1, Nat.le_trans (h.low i hi').2 hb.size⟩, h.sep⟩
theorem DQ.base {B' : Nat} (h : DQ W B v ds vr vw us lo hi) (hB : B' ≤ B) : DQ W B' v ds vr vw us lo hi :=
  ⟨own_base h.own hB, h.rq, h.ow, h.ap, h.up, fun i hi' => ⟨Nat.le_trans hB (h.low i hi').1, (h.low i hi').2⟩, h.sep⟩
/-- a store into a block of another type -/
theorem RQ.setG {W : World} {B p off : Nat} {v y : Value} {us : List Value} {ls : List (List Int)} {e : TypeId} (h : RQ W B v us ls) (ht : ∃ cur, W.heap[p]? = some (.cells cur e (0, 0))) (h1 : 75 ≠ e) (h2 : 3 ≠ e) : RQ (W.setCell ⟨p, off, none⟩ y) B v us ls :=
  ⟨own_keepR h.own ht h1, h.len, fun i hi => own_keepR (h.each i hi) ht h2, h.ap⟩
theorem DQ.set (h : DQ W B v ds vr vw us lo hi) {off : Nat} {y : Value} (ht : ∃ cur, W.heap[p]? = some (.cells cur 24 (0, 0))) : DQ (W.setCell ⟨p, off, none⟩ y) B v ds vr vw us lo hi :=
  ⟨own_keepR h.own ht (by decide), fun i hi' => (h.rq i hi').setG ht (by decide) (by decide), fun i hi' => own_keepR (h.ow i hi') ht (by decide), h.ap, h.up, fun i hi' => ⟨(h.low i hi').1, by rw [World.size_setCell]; exact (h.low i hi').2⟩, h.sep⟩
theorem own_grownG {W w3 : World} {B B' n n' s s' : Nat} {e e' : TypeId} {v u : Value} {xs ys : List Value} {o : Obj} (h : W.ownsRow B e s u n xs) (hv : W.ownsRow B' e' s' v n' ys) (hne : e ≠ e') (hg : (W.alloc o).grownBy w3 v.ownBlock) : w3.ownsRow B e s u n xs :=
  own_move h fun g hgx => kept_of hg (h.lt g hgx).2 (own_ne hv (own_typ h hgx) (Ne.symm hne))
theorem RQ.grownG {W w3 : World} {B B' n' s' : Nat} {e' : TypeId} {v u : Value} {us : List Value} {ls : List (List Int)} {ys : List Value} {o : Obj} (h : RQ W B u us ls) (hv : W.ownsRow B' e' s' v n' ys) (h1 : 75 ≠ e') (h2 : 3 ≠ e') (hg : (W.alloc o).grownBy w3 v.ownBlock) : RQ w3 B u us ls :=
  ⟨own_grownG h.own hv h1 hg, h.len, fun i hi => own_grownG (h.each i hi) hv h2 hg, h.ap⟩
def updF {α : Type} (f : Nat → α) (n : Nat) (x : α) : Nat → α := fun i => if i = n then x else f i
theorem updF_same {α : Type} (f : Nat → α) (n : Nat) (x : α) : updF f n x n = x := if_pos rfl
theorem updF_other {α : Type} (f : Nat → α) {n i : Nat} (x : α) (h : i ≠ n) : updF f n x i = f i := if_neg h
/-- one relation more -/
theorem DQ.push (h : DQ W B v ds vr vw us lo hi) (hE : hi' = W.heap.size) (hq : RQ W E0 v2 us5 d.rows) (ho : W.ownsRow E0 3 1 v3 d.ws.length (d.ws.map (Value.int .i64))) (ha : ∀ j, j < d.rows.length → ApR (us5.getD j undef) v3) (hE0 : B ≤ E0) (hup : ∀ i, i < ds.length → hi i ≤ E0)
    (hown : w3.ownsRow B 77 4 v' (ds.length + 1) (((List.range ds.length).flatMap fun i => relC (ds.getD i noRel) (vr i) (vw i)) ++ relC d v2 v3)) (hg : (W.alloc o).grownBy w3 v.ownBlock) (ht : ∃ cur, w3.heap[p]? = some (.cells cur 24 (0, 0))) :
    DQ (w3.setCell ⟨p, 0, none⟩ v') B v' (ds ++ [d]) (updF vr ds.length v2) (updF vw ds.length v3) (updF us ds.length us5) (updF lo ds.length E0) (updF hi ds.length hi') := by
  have hlen : (ds ++ [d]).length = ds.length + 1 := by simp
  have hget : ∀ i, i < ds.length → (ds ++ [d]).getD i noRel = ds.getD i noRel := fun i hi => by rw [List.getD_eq_getElem?_getD, List.getElem?_append_left hi, ← List.getD_eq_getElem?_getD]
  have hgetn : (ds ++ [d]).getD ds.length noRel = d := by simp [List.getD_eq_getElem?_getD]
  have hsz : W.heap.size ≤ (w3.setCell ⟨p, 0, none⟩ v').heap.size := by rw [World.size_setCell]; have := hg.size; simp at this; omega
  subst hE
  refine ⟨?_, fun i hi' => ?_, fun i hi' => ?_, fun i hi' => ?_, fun i hi' => ?_, fun i hi' => ?_, fun i j hij hj => ?_⟩
  · rw [hlen]
    have e : ((List.range (ds.length + 1)).flatMap fun i => relC ((ds ++ [d]).getD i noRel) (updF vr ds.length v2 i) (updF vw ds.length v3 i)) = ((List.range ds.length).flatMap fun i => relC (ds.getD i noRel) (vr i) (vw i)) ++ relC d v2 v3 := by
      rw [List.range_succ, List.flatMap_append]
      congr 1
      · rw [List.flatMap_def, List.flatMap_def]
        congr 1
        refine List.map_congr_left fun i hi => ?_
        have hi2 := List.mem_range.1 hi
        rw [hget i hi2, updF_other _ _ (by omega), updF_other _ _ (by omega)]
      · rw [List.flatMap_singleton, hgetn, updF_same, updF_same]
    rw [e]
    exact own_keepR hown ht (by decide)
  · rw [hlen] at hi'
    by_cases e : i = ds.length
    · subst e
      rw [hgetn, updF_same, updF_same, updF_same]
      exact (hq.grownG h.own (by decide) (by decide) hg).setG ht (by decide) (by decide)
    · rw [hget i (by omega), updF_other _ _ e, updF_other _ _ e, updF_other _ _ e]
      exact ((h.rq i (by omega)).grownG h.own (by decide) (by decide) hg).setG ht (by decide) (by decide)
  · rw [hlen] at hi'
    by_cases e : i = ds.length
    · subst e
      rw [hgetn, updF_same, updF_same]
      exact own_keepR (own_grownG ho h.own (by decide) hg) ht (by decide)
    · rw [hget i (by omega), updF_other _ _ e, updF_other _ _ e]
      exact own_keepR (own_grownG (h.ow i (by omega)) h.own (by decide) hg) ht (by decide)
  · rw [hlen] at hi'
    by_cases e : i = ds.length
    · subst e
      rw [hgetn, updF_same, updF_same]
      exact ha
    · rw [hget i (by omega), updF_other _ _ e, updF_other _ _ e]
      exact h.ap i (by omega)
  · rw [hlen] at hi'
    by_cases e : i = ds.length
    · subst e
      rw [hgetn, updF_same, updF_same, updF_same]
      exact ⟨fun g hg' => (ho.lt g hg').2, fun j hj g hg' => ((hq.each j hj).lt g hg').2⟩
    · rw [hget i (by omega), updF_other _ _ e, updF_other _ _ e, updF_other _ _ e]
      exact h.up i (by omega)
  · rw [hlen] at hi'
    by_cases e : i = ds.length
    · subst e
      rw [updF_same, updF_same]
      exact ⟨hE0, hsz⟩
    · rw [updF_other _ _ e, updF_other _ _ e]
      exact ⟨(h.low i (by omega)).1, Nat.le_trans (h.low i (by omega)).2 hsz⟩
  · rw [hlen] at hj
    rw [updF_other _ _ (by omega : i ≠ ds.length)]
    by_cases e : j = ds.length
    · subst e
      rw [updF_same]
      exact hup i hij
    · rw [updF_other _ _ e]
      exact h.sep i j hij (by omega)
end

end Go.Proofs.YtcdfoephhjacdaaDoor

/-
  impl: (*reading).data.
-/
namespace Go.Proofs.YtcdfoephhjacdaaDoor
open Go.RowKit Go.Maps

theorem Tryd.infoRe : (Tryd.prog.info? 77).map (fun i => (i.zero, i.size, i.bytes)) = some (some (.agg #[.string ⟨#[]⟩, .int .i64 0, .slice none 0 0, .slice none 0 0]), 4, 72) := by kernel_rfl

/-- the relations that have been read, in their order -/
def DsOf (st : List RdV) (ds : List RelV) : Prop := ds.length = st.length ∧ ∀ i, i < st.length → RelOf (st.getD i noRd) (ds.getD i noRel)
/-- the first k of them -/
def DsTo (st : List RdV) (k : Nat) (ds : List RelV) : Prop := ds.length = k ∧ ∀ i, i < k → RelOf (st.getD i noRd) (ds.getD i noRel)
theorem DsTo.push {st : List RdV} {k : Nat} {ds : List RelV} {d : RelV} (h : DsTo st k ds) (hd : RelOf (st.getD k noRd) d) : DsTo st (k + 1) (ds ++ [d]) := by
  refine ⟨by rw [List.length_append, h.1]; rfl, fun i hi => ?_⟩
  by_cases e : i < k
  · have e1 : (ds ++ [d]).getD i noRel = ds.getD i noRel := by rw [List.getD_eq_getElem?_getD, List.getElem?_append_left (by rw [h.1]; exact e), ← List.getD_eq_getElem?_getD]
    rw [e1]; exact h.2 i e
  · obtain rfl : i = k := by omega
    have : (ds ++ [d]).getD i noRel = d := by rw [← h.1]; simp [List.getD_eq_getElem?_getD]
    rw [this]; exact hd
theorem bx_set {W : World} {p q : Nat} {t : TypeId} {v y : Value} (h : Boxed W p t v) (hne : p ≠ q) : Boxed (W.setCell ⟨q, 0, none⟩ y) p t v := (Below.heap_setCell _ _ _ _ hne).trans h
theorem bx_below {W W' : World} {p : Nat} {t : TypeId} {v : Value} (h : Boxed W p t v) (hb : Below W.heap.size W W') : Boxed W' p t v := (hb.block p h.lt).trans h
theorem bx_grown {W w3 : World} {p B n s : Nat} {t e : TypeId} {v u : Value} {xs : List Value} {o : Obj} (h : Boxed W p t v) (hu : W.ownsRow B e s u n xs) (hne : e ≠ t) (hg : (W.alloc o).grownBy w3 u.ownBlock) : Boxed w3 p t v := (kept_of hg h.lt (own_ne hu ⟨_, h⟩ hne)).trans h

/-- the loop's state -/
def DSt (w : World) (st : List RdV) (q p : Nat) (k : Nat) (W : World) : Prop := ∃ v ds vr vw us lo hi, Below w.heap.size w W ∧ Boxed W q 24 (.slice none 0 0) ∧ Boxed W p 24 v ∧ DsTo st k ds ∧ DQ W w.heap.size v ds vr vw us lo hi

/-- how data ends -/
def DatE (w : World) (st : List RdV) (e : Ending) (w' : World) : Prop := ∃ v ds vr vw us lo hi, e = .returned (.agg #[v]) ∧ DsOf st ds ∧ DQ w' w.heap.size v ds vr vw us lo hi ∧ Below w.heap.size w w'

set_option maxHeartbeats 8000000 in
set_option maxRecDepth 1000000 in
theorem data_calls (w : World) (B R : Nat) (st : List RdV) (vR : Value) (bP : Nat) (rb mb : Nat → Nat) (DD : Nat → DataW Unit) (h : RdI w B R st vR bP rb mb DD) (hok : StOk st) :
    Calls Tryd.prog 19 #[.pointer (some ⟨R, 0, none⟩)] w (DatE w st) := by
  obtain ⟨i0, hi, hz0, hz1, hz2⟩ := info_parts Tryd.infoRe
  obtain ⟨W1, hW1⟩ : ∃ W1, W1 = (w.alloc (.cells #[.slice none 0 0] 24)).alloc (.cells #[.slice none 0 0] 24) := ⟨_, rfl⟩
  have hB1 : Below w.heap.size w W1 := by rw [hW1]; exact ((Below.refl _ _).alloc (Nat.le_refl _) _).alloc (by simp) _
  have HS1 : Hid (DSt w st w.heap.size (w.heap.size + 1) 0 W1) := hid ⟨_, [], fun _ => undef, fun _ => undef, fun _ => [], fun _ => 0, fun _ => 0, hB1, by rw [hW1]; exact (Boxed.new w _ _).alloc _, by rw [hW1]; have := Boxed.new (w.alloc (.cells #[.slice none 0 0] 24)) 24 (.slice none 0 0); rw [World.size_alloc] at this; exact this, ⟨rfl, fun i hi => absurd hi (Nat.not_lt_zero _)⟩, DQ.nil _ _⟩
  obtain ⟨aR, cR, rfl⟩ := own_shapeR h.own
  have c0 : W1.cell? ⟨R, 0, none⟩ = some (.slice aR st.length cR) := bclR hB1 (by rw [cell_of_row _ _ _ _ _ _ h.blk]; rfl)
  have H := hid h
  have HOK := hid hok
  clear hB1 h hok
  obtain ⟨n, hn⟩ : ∃ n, n = st.length := ⟨_, rfl⟩
  have HN := hid hn
  rw [← hn] at c0
  have hn50 : n ≤ 50 := by rw [hn]; exact HOK.out.1
  clear hn
  go_enter Tryd.func19, Tryd.ntmps19
  go_upto_region 2 with fail
  rw [← hW1]
  clear hW1
  go_wp2_with fail
  clear c0
  go_loopw [11] (fun t wr => ∃ i : Nat, i ≤ n ∧ t = .int .i64 i ∧ Hid (DSt w st w.heap.size (w.heap.size + 1) i wr)) (fun t _ => n - (intOf t).toNat)
  case atStart => exact ⟨0, Nat.zero_le _, rfl, HS1⟩
  case round =>
    clear HS1
    obtain ⟨i, hin, rfl, HH⟩ := hrel
    obtain ⟨v, ds, vr, vw, us, lo, hi', hB, hq, hp, hds, hD⟩ := HH.out
    have HB := hid hB
    have HQb := hid hq
    have HPb := hid hp
    have HDS := hid hds
    have HD := hid hD
    clear HH hB hq hp hds hD
    by_cases hlt : i < n
    · have i1 : (i : Int) < (n : Int) := by omega
      have hls : i < st.length := by rw [← HN.out]; exact hlt
      obtain ⟨gR, cR', eR, -⟩ := H.out.own.form (by omega)
      simp only [Value.slice.injEq, true_and] at eR
      obtain ⟨rfl, rfl⟩ := eR
      have c2 : wr.cell? ⟨gR, i, none⟩ = some (.pointer (some ⟨rb i, 0, none⟩)) := bclR HB.out (by rw [H.out.own.cellAt i (by omega), List.getElem?_map, List.getElem?_range hls]; rfl)
      have KR : Hid (∀ W, Below w.heap.size w W → Calls Tryd.prog 41 #[.pointer (some ⟨rb i, 0, none⟩)] W fun e w' => ∃ (v2 v3 : Value) (us5 : List Value) (d : RelV), e = .returned (.agg #[.string d.name, .int .i64 d.ar, v2, v3]) ∧ RelOf (st.getD i noRd) d ∧ RQ w' W.heap.size v2 us5 d.rows ∧ w'.ownsRow W.heap.size 3 1 v3 d.ws.length (d.ws.map (Value.int .i64)) ∧ (∀ j, j < d.rows.length → ApR (us5.getD j undef) v3) ∧ Below W.heap.size W w') := hid fun W hW => by
        have hI := H.out.below hW
        have hc := hI.rel i hls
        have hk := HOK.out.2 i hls
        refine (relation_calls W (rb i) (mb i) (st.getD i noRd).nm (st.getD i noRd).ar (st.getD i noRd).rs (DD i) (by rw [cell_of_row _ _ _ _ _ _ hc]; rfl) (by rw [cell_of_row _ _ _ _ _ _ hc]; rfl) (by rw [cell_of_row _ _ _ _ _ _ hc]; rfl) (hI.tps i hls) hk.1 hk.2).mono ?_
        rintro e w' ⟨v2, v3, us5, ss, rfl, h1, h2, h3, h4, h5, h6⟩
        exact ⟨v2, v3, us5, ⟨(st.getD i noRd).nm, ((st.getD i noRd).ar : Int), rowsT (st.getD i noRd).ar ss, wtsT (st.getD i noRd).rs ss⟩, rfl, ⟨rfl, rfl, ss, h1, h2, rfl, rfl⟩, h3, h4, fun j hj => h5 j (by simpa [rowsT] using hj), h6⟩
      have hlds : ds.length = i := HDS.out.1
      go_upto_region 5 with fail
      have c1 := HPb.out.cell
      go_region_law (first
        | (refine step_append_lies _ (by rfl) _ _ 22 (by rfl) w.heap.size 77 i0 (.agg #[.string ⟨#[]⟩, .int .i64 0, .slice none 0 0, .slice none 0 0]) 4 72 Tryd.underlying22 hi hz0 hz1 hz2 rfl (by decide) v _ _ (by rfl) (HD5.out.own.alloc _) ⟨w5.heap.size, 0, none⟩ 1 1 (relC d5 (.slice a25 d5.rows.length k25) (.slice a35 d5.ws.length k35)) (by rfl) rfl HNW.out HONE.out (by decide) (by unfold maxLen; omega) (by omega) (by have := HB5.out.size; simp; omega) _ rfl ?_; intro g6 cp6 w6 hown6 hgrow6 hat6 hlt6; have b6 := bx_grown HP5.out HD5.out.own (by decide) hgrow6; have c6 := b6.cell; have f6 := b6.frozen)
        | (go_simp; go_at_call 41; (with_reducible refine (KR.out _ HB.out.drew).mono ?_); rintro e w5 ⟨v25, v35, us5, d5, rfl, hro5, hrq5, how5, hap5, hb5'⟩; have hb5 := drew_below2R hb5'; have HB5 := hid (bt HB.out hb5); have HP5 := hid (bx_below HPb.out hb5); have HQ5 := hid (bx_below HQb.out hb5); have HD5 := hid (HD.out.below hb5); have HX5 := hid (And.intro hro5 (And.intro hrq5 (And.intro how5 (And.intro hap5 hb5)))); have c5 := HP5.out.cell; have c5c : ∀ ob, (w5.alloc ob).cell? ⟨w.heap.size + 1, 0, none⟩ = some v := fun ob => (HP5.out.alloc ob).cell; obtain ⟨a25, k25, e25⟩ := own_shapeR hrq5.own; obtain ⟨a35, k35, e35⟩ := own_shapeR how5; subst e25 e35; have HONE : Hid (∀ u ∈ relC d5 (.slice a25 d5.rows.length k25) (.slice a35 d5.ws.length k35), u.oneCell' = true) := hid (fun u hu => by simp [relC] at hu; rcases hu with rfl | rfl | rfl | rfl <;> rfl); have HNW : Hid (∀ j u, (relC d5 (.slice a25 d5.rows.length k25) (.slice a35 d5.ws.length k35))[j]? = some u → (w5.alloc (.cells #[.string d5.name, .int .i64 d5.ar, .slice a25 d5.rows.length k25, .slice a35 d5.ws.length k35] 77)).cell? ((⟨w5.heap.size, 0, none⟩ : Addr).add j) = some u) := hid (World.news_of_block (World.alloc_heap_new w5 _)); clear hro5 hrq5 how5 hap5 hb5')
        | fail)
      all_goals
        go_wp2_with fail
        go_roundw
        case rel =>
          obtain ⟨hro, hrq, how, hap, hb5⟩ := HX5.out
          have hN := HD5.out.push (hi' := w5.heap.size) rfl hrq how hap HB.out.size (fun j hj => (HD.out.low j hj).2) hown6 hgrow6 ⟨_, b6⟩
          simp only [hlds] at hN
          refine ⟨i + 1, by omega, by go_num, hid ⟨_, _, _, _, _, _, _, ((HB5.out.alloc HB5.out.size _).grown hgrow6 (by have := HB5.out.size; simp; omega) (fun g hg => (HD5.out.own.lt g hg).1)).setCell (by simp) _, bx_set (bx_grown HQ5.out HD5.out.own (by decide) hgrow6) (by omega), Boxed.set _ b6, HDS.out.push hro, hN⟩⟩
        case measure => simp [intOf]; omega
    · obtain rfl : i = n := by omega
      have i1 : ¬ ((i : Int) < (i : Int)) := by omega
      have HF : Hid (DsOf st ds) := hid ⟨by rw [← HN.out]; exact HDS.out.1, fun j hj => HDS.out.2 j (by rw [HN.out]; exact hj)⟩
      obtain ⟨aV, cV, rfl⟩ := own_shapeR HD.out.own
      have b1 := HQb.out.cell
      have f1 := HQb.out.frozen
      have d1 := HPb.out.cell
      have HTy : Hid (∃ cur, wr.heap[w.heap.size]? = some (.cells cur 24 (0, 0))) := hid ⟨_, HQb.out⟩
      generalize ds.length = ld at *
      go_wp2_with fail
      refine bodyPost_ret (v := .agg #[.slice aV ld cV]) (by simp [results, Tryd.results19, go_sem, b1]) rfl ?_
      exact ⟨_, ds, vr, vw, us, lo, hi', rfl, HF.out, HD.out.set HTy.out, HB.out.setCell (Nat.le_refl _) _⟩

end Go.Proofs.YtcdfoephhjacdaaDoor

/-
  The lines of a text, one after another.
-/
namespace Go.Proofs.YtcdfoephhjacdaaDoor
open Go.RowKit

/-- the state behind k lines -/
def prT (ls : List (List UInt8)) : Nat → Option (List RdV)
  | 0 => some []
  | k + 1 => (prT ls k).bind fun st => takA st (ls.getD k [])

theorem stOk_nil : StOk [] := ⟨Nat.zero_le _, fun _ hi => absurd hi (Nat.not_lt_zero _)⟩
theorem takA_ok {st st' : List RdV} {l : List UInt8} (hs : StOk st) (h : takA st l = some st') : StOk st' := by
  unfold takA at h
  split at h
  · cases h; exact hs
  · dsimp only at h
    split at h
    · split at h
      · rename_i hd
        cases h
        unfold decA at hd
        simp only [Bool.and_eq_true, decide_eq_true_eq, Bool.not_eq_true', decide_eq_false_iff_not] at hd
        obtain ⟨⟨⟨⟨⟨-, h50⟩, -⟩, -⟩, har⟩, -⟩ := hd
        unfold arityB at har
        simp only [Bool.and_eq_true, decide_eq_true_eq] at har
        refine ⟨by rw [List.length_append, List.length_singleton]; have := hs.1; omega, fun i hi => ?_⟩
        rw [List.length_append, List.length_singleton] at hi
        by_cases e : i < st.length
        · rw [List.getD_eq_getElem?_getD, List.getElem?_append_left e, ← List.getD_eq_getElem?_getD]
          exact hs.2 i e
        · obtain rfl : i = st.length := by omega
          rw [List.getD_eq_getElem?_getD, List.getElem?_append_right (Nat.le_refl _), Nat.sub_self]
          exact ⟨Nat.zero_le _, by show 1 ≤ numN _ 3; omega, by show numN _ 3 ≤ 3; omega⟩
      · cases h
    · split at h
      · rename_i hd
        cases h
        simp only [Bool.and_eq_true] at hd
        obtain ⟨hk, hsto⟩ := hd
        have hpl := (plcP_of hk).1
        rw [List.length_map] at hpl
        unfold stoA at hsto
        simp only [Bool.and_eq_true, Bool.or_eq_true, decide_eq_true_eq, Bool.not_eq_true', decide_eq_false_iff_not] at hsto
        obtain ⟨-, hfull⟩ := hsto
        refine ⟨by rw [List.length_set]; exact hs.1, fun i hi => ?_⟩
        rw [List.length_set] at hi
        generalize plcP (st.map RdV.nm) ⟨((spl 32 l).getD 0 []).toArray⟩ = p at *
        by_cases e : i = p
        · subst e
          rw [getD_set_same hpl]
          have h3 := hs.2 i hpl
          refine ⟨?_, h3.2⟩
          show (updT _ _ _).length ≤ 2000
          rw [updT_len]
          split
          · exact h3.1
          · rename_i hno
            rcases hfull with hf | hf
            · exact absurd hf hno
            · have := h3.1; omega
        · rw [getD_set_other e]
          exact hs.2 i hi
      · cases h
theorem prT_ok {ls : List (List UInt8)} : ∀ {k : Nat} {st : List RdV}, prT ls k = some st → StOk st
  | 0, st, h => by cases h; exact stOk_nil
  | k + 1, st, h => by
    rw [prT, Option.bind_eq_some_iff] at h
    obtain ⟨st0, h0, h1⟩ := h
    exact takA_ok (prT_ok h0) h1

/-- how impl.ParseData ends -/
def ParE (w : World) (l : List UInt8) (e : Ending) (w' : World) : Prop := Below w.heap.size w w' ∧
  ((60000 < l.length ∧ e = .returned (.tuple #[.agg #[.slice none 0 0], .int .i64 (-1)])) ∨
   (l.length ≤ 60000 ∧ ∃ k, k < (spl 10 l).length ∧ (∃ st, prT (spl 10 l) k = some st) ∧ prT (spl 10 l) (k + 1) = none ∧ e = .returned (.tuple #[.agg #[.slice none 0 0], .int .i64 ((k : Int) + 1)])) ∨
   (l.length ≤ 60000 ∧ ∃ st, prT (spl 10 l) (spl 10 l).length = some st ∧ ∃ v ds vr vw us lo hi, e = .returned (.tuple #[.agg #[v], .int .i64 0]) ∧ DsOf st ds ∧ DQ w' w.heap.size v ds vr vw us lo hi))

end Go.Proofs.YtcdfoephhjacdaaDoor
