import Derived.Test.YtcdfoephhjacdaaDoorQ51
import Derived.Test.YtcdfoephhjacdaaDoorQ53
/-
  laws.markData, laws.heldData.
-/
namespace Go.Proofs.YtcdfoephhjacdaaDoor
open Go.RowKit

set_option maxHeartbeats 1000000 in
set_option maxRecDepth 1000000 in
theorem markRelationS_nil (w : World) (a : Option Addr) (cap : Nat) (k : Int) : Calls Tryd.prog 21 #[.slice a 0 cap, .int .i64 k] w fun e w' => e = .returned (.int .i64 k) ∧ w' = w := by
  go_enter Tryd.func21, Tryd.ntmps21
  go_wp2
  go_loopw [1, 5] (fun u t wr => t = .int .i64 0 ∧ u = .int .i64 k ∧ wr = w) (fun _ t _ => 0 - (intOf t).toNat)
  case atStart => exact ⟨rfl, rfl, rfl⟩
  case round =>
    obtain ⟨rfl, rfl, rfl⟩ := hrel
    go_wp2
    go_ret
    exact ⟨rfl, rfl⟩
set_option maxHeartbeats 1000000 in
set_option maxRecDepth 1000000 in
theorem heldRelationS_nil (w : World) (a : Option Addr) (cap : Nat) (k : Int) : Calls Tryd.prog 22 #[.slice a 0 cap, .int .i64 k] w fun e w' => e = .returned (.int .i64 k) ∧ w' = w := by
  go_enter Tryd.func22, Tryd.ntmps22
  go_wp2
  go_loopw [1, 5] (fun u t wr => t = .int .i64 0 ∧ u = .int .i64 k ∧ wr = w) (fun _ t _ => 0 - (intOf t).toNat)
  case atStart => exact ⟨rfl, rfl, rfl⟩
  case round =>
    obtain ⟨rfl, rfl, rfl⟩ := hrel
    go_wp2
    go_ret
    exact ⟨rfl, rfl⟩

/-- boxes of data stand -/
def KeepD (W W' : World) : Prop := ∀ (q : Nat) (cur : Array Value), W.heap[q]? = some (.cells cur 24 (0, 0)) → W'.heap[q]? = W.heap[q]?
/-- the relations are marked, and found again -/
theorem rels_marks (w : World) (B : Nat) (v : Value) (ds : List RelV) (vr vw : Nat → Value) (us : Nat → List Value) (lo hi : Nat → Nat) (hD : DQ w B v ds vr vw us lo hi) (hF : FewD ds) :
    Calls Tryd.prog 21 #[v, .int .i64 1] w fun e w' => ∃ m : Nat, e = .returned (.int .i64 (m : Int)) ∧ Below B w w' ∧ KeepD w w' ∧ ∀ W, Below w'.heap.size w' W → Calls Tryd.prog 22 #[v, .int .i64 1] W fun e w'' => e = .returned (.int .i64 (m : Int)) ∧ Below W.heap.size W w'' := by
  rcases hD.own.2 with ⟨rfl, hn⟩ | ⟨g, cap, cur, rfl, -⟩
  · refine (markRelationS_nil w none 0 1).mono ?_
    rintro e w' ⟨rfl, rfl⟩
    refine ⟨1, rfl, Below.refl _ _, fun _ _ _ => rfl, fun W _ => ?_⟩
    refine (heldRelationS_nil W none 0 1).mono ?_
    rintro e w'' ⟨rfl, rfl⟩
    exact ⟨rfl, Below.refl _ _⟩
  · refine (markRelationS_calls w B g cap ds vr vw us lo hi 1 hD hF (by omega) (by omega)).mono ?_
    rintro e w' ⟨rfl, hM⟩
    refine ⟨_, rfl, hM.bel, fun q cur hq => hM.far q (heap_lt hq) (fun e => ?_) (fun j hj hf => ?_), fun W hb => ?_⟩
    · obtain ⟨cu2, hc2⟩ := own_typ hD.own (g := g) rfl
      rw [e, hc2] at hq
      simp only [Option.some.injEq, Obj.cells.injEq] at hq
      exact absurd hq.2.1 (by decide)
    · obtain ⟨cu2, hc2⟩ := (hD.ft hj hf).2.2.2
      rw [hc2] at hq
      simp only [Option.some.injEq, Obj.cells.injEq] at hq
      exact absurd hq.2.1 (by decide)
    have hH := hM.hd hD rfl
    have hH2 : HdD W g ds vr vw 1 := ⟨fun j hj => by
        obtain ⟨⟨a2, m2, k2, e2, c2⟩, a3, m3, k3, e3, c3⟩ := hH.row j hj
        exact ⟨⟨a2, m2, k2, e2, bclR hb c2⟩, a3, m3, k3, e3, bclR hb c3⟩, fun j hj => ⟨bclR hb (hH.done j hj).1, bclR hb (hH.done j hj).2⟩, fun j hj W' hb' => hH.held j hj W' (bt hb hb')⟩
    exact heldRelationS_calls W g cap ds vr vw 1 hH2 hF (by omega) (by omega)

set_option maxHeartbeats 1000000 in
set_option maxRecDepth 1000000 in
theorem heldData_calls (W : World) (a : Option Addr) (n cap m : Nat) (hK : ∀ W', Below W.heap.size W W' → Calls Tryd.prog 22 #[.slice a n cap, .int .i64 1] W' fun e w'' => e = .returned (.int .i64 (m : Int)) ∧ Below W'.heap.size W' w'') :
    Calls Tryd.prog 9 #[.agg #[.slice a n cap], .int .i64 1] W fun e w'' => e = .returned (.int .i64 (m : Int)) ∧ Below W.heap.size W w'' := by
  obtain ⟨W1, hW1⟩ : ∃ W1, W1 = W.alloc (.cells #[.slice a n cap] 24) := ⟨_, rfl⟩
  have hb : Below W.heap.size W W1 := by rw [hW1]; exact (Below.refl _ _).alloc (Nat.le_refl _) _
  have hX : Boxed W1 W.heap.size 24 (.slice a n cap) := by rw [hW1]; exact Boxed.new _ _ _
  have d0 := hX.cell
  have K := hid (hK W1 hb)
  have HB := hid hb
  have g1 : ¬ ((m : Int) < 0) := by omega
  clear hK hb hX
  go_enter Tryd.func9, Tryd.ntmps9
  go_upto_region 1 with fail
  rw [← hW1]
  clear hW1
  go_wp2_with (first | (go_at_call 22; refine K.out.mono ?_; rintro e w2 ⟨rfl, hb2⟩; have HB2 := hid (bt HB.out hb2); clear hb2) | fail)
  go_ret
  exact ⟨rfl, HB2.out⟩

set_option maxHeartbeats 1000000 in
set_option maxRecDepth 1000000 in
theorem data_marks (w : World) (B : Nat) (v : Value) (ds : List RelV) (vr vw : Nat → Value) (us : Nat → List Value) (lo hi : Nat → Nat) (hD : DQ w B v ds vr vw us lo hi) (hF : FewD ds) (hB : B ≤ w.heap.size) :
    Calls Tryd.prog 8 #[.agg #[v], .int .i64 1] w fun e w' => ∃ m : Nat, e = .returned (.int .i64 (m : Int)) ∧ Below B w w' ∧ KeepD w w' ∧ ∀ W, Below w'.heap.size w' W → Calls Tryd.prog 9 #[.agg #[v], .int .i64 1] W fun e w'' => e = .returned (.int .i64 (m : Int)) ∧ Below W.heap.size W w'' := by
  obtain ⟨a, cap, rfl⟩ := own_shapeR hD.own
  obtain ⟨W1, hW1⟩ : ∃ W1, W1 = w.alloc (.cells #[.slice a ds.length cap] 24) := ⟨_, rfl⟩
  have hb : Below w.heap.size w W1 := by rw [hW1]; exact (Below.refl _ _).alloc (Nat.le_refl _) _
  have hX : Boxed W1 w.heap.size 24 (.slice a ds.length cap) := by rw [hW1]; exact Boxed.new _ _ _
  have d0 := hX.cell
  have K := hid (rels_marks W1 B _ ds vr vw us lo hi (hD.below hb) hF)
  have HB := hid (hb.mono hB)
  have HKD : Hid (∀ w2, KeepD W1 w2 → KeepD w w2) := hid fun w2 h q cur hq => (h q cur ((hb.block q (heap_lt hq)).trans hq)).trans (hb.block q (heap_lt hq))
  clear hD hF hb hX
  generalize ds.length = n at *
  go_enter Tryd.func8, Tryd.ntmps8
  go_upto_region 1 with fail
  rw [← hW1]
  clear hW1
  go_wp2_with (first | (go_at_call 21; refine K.out.mono ?_; rintro e w2 ⟨m, rfl, hb2, hd2, hk2⟩; have HB2 := hid (HB.out.trans hb2); have HK2 := hid hk2; have HD2 := hid (HKD.out w2 hd2); clear hb2 hk2 hd2) | fail)
  go_ret
  exact ⟨m, rfl, HB2.out, HD2.out, fun W hW => heldData_calls W a n cap m fun W' hb' => HK2.out W' (bt hW hb')⟩

end Go.Proofs.YtcdfoephhjacdaaDoor

/-
  Both answers of ParseData are one.
-/
namespace Go.Proofs.YtcdfoephhjacdaaDoor
open Go.RowKit

theorem DQ.irels {W : World} {B : Nat} {v : Value} {ds : List RelV} {vr vw : Nat → Value} {us : Nat → List Value} {lo hi : Nat → Nat} (h : DQ W B v ds vr vw us lo hi) : IRelS W v ds := by
  rcases h.own.2 with ⟨rfl, hn⟩ | ⟨g, cap, cur, rfl, hx⟩
  · exact ⟨none, 0, by rw [hn], Or.inl hn⟩
  · refine ⟨_, cap, rfl, Or.inr ⟨g, 0, rfl, fun j hj => ?_⟩⟩
    have hc : ∀ x, x < 4 → W.cell? ⟨g, j * 4 + x, none⟩ = (relC (ds.getD j noRel) (vr j) (vw j))[x]? := fun x hx => by
      rw [h.own.cellAt _ (by omega), flat4 _ (fun _ => rfl) _ j x hj hx]
    rw [Nat.zero_add]
    refine ⟨vr j, vw j, hc 0 (by decide), hc 1 (by decide), hc 2 (by decide), hc 3 (by decide), ?_, own_is (h.ow j hj)⟩
    have hq := h.rq j hj
    rcases hq.own.2 with ⟨e, hn⟩ | ⟨g2, cap2, cur2, e, -, -, h1, -⟩
    · exact ⟨none, 0, by rw [e, hn], Or.inl hn⟩
    · refine ⟨_, cap2, e, Or.inr ⟨g2, 0, rfl, fun m hm => ⟨(us j).getD m undef, ?_, own_is (hq.each m hm)⟩⟩⟩
      obtain ⟨g3, cap3, e3, -, hc3⟩ := hq.get hm
      rw [e] at e3
      simp only [Value.slice.injEq, Option.some.injEq, Addr.mk.injEq, true_and, and_true] at e3
      rw [Nat.zero_add, e3.1]
      exact hc3

/-- names are short -/
def NmS (st : List RdV) : Prop := ∀ i, i < st.length → (st.getD i noRd).nm.size ≤ 30
theorem takA_nm {st st' : List RdV} {l : List UInt8} (hs : NmS st) (h : takA st l = some st') : NmS st' := by
  unfold takA at h
  split at h
  · cases h; exact hs
  · dsimp only at h
    split at h
    · split at h
      · rename_i hd
        cases h
        unfold decA at hd
        simp only [Bool.and_eq_true] at hd
        have hnm := hd.2
        unfold relName nameB at hnm
        simp only [Bool.and_eq_true, decide_eq_true_eq] at hnm
        intro i hi
        rw [List.length_append, List.length_singleton] at hi
        by_cases e : i < st.length
        · rw [List.getD_eq_getElem?_getD, List.getElem?_append_left e, ← List.getD_eq_getElem?_getD]
          exact hs i e
        · obtain rfl : i = st.length := by omega
          rw [List.getD_eq_getElem?_getD, List.getElem?_append_right (Nat.le_refl _), Nat.sub_self]
          exact hnm.1.1.1.2
      · cases h
    · split at h
      · rename_i hd
        cases h
        simp only [Bool.and_eq_true] at hd
        have hpl := (plcP_of hd.1).1
        rw [List.length_map] at hpl
        intro i hi
        rw [List.length_set] at hi
        generalize plcP (st.map RdV.nm) ⟨((spl 32 l).getD 0 []).toArray⟩ = p at *
        by_cases e : i = p
        · subst e
          rw [getD_set_same hpl]
          exact hs i hpl
        · rw [getD_set_other e]
          exact hs i hi
      · cases h
theorem prT_nm {ls : List (List UInt8)} : ∀ {k : Nat} {st : List RdV}, prT ls k = some st → NmS st
  | 0, st, h => by cases h; exact fun _ hi => absurd hi (Nat.not_lt_zero _)
  | k + 1, st, h => by
    rw [prT, Option.bind_eq_some_iff] at h
    obtain ⟨st0, h0, h1⟩ := h
    exact takA_nm (prT_nm h0) h1

theorem prT_none {ls : List (List UInt8)} {k : Nat} (h : prT ls k = none) : ∀ m, prT ls (k + m) = none
  | 0 => h
  | m + 1 => by rw [← Nat.add_assoc, prT, prT_none h m]; rfl

/-- what a text says: the number answered, the data -/
def DsG (l : List UInt8) (c : Int) (ds : List RelV) : Prop :=
  (60000 < l.length ∧ c = -1 ∧ ds = []) ∨ (l.length ≤ 60000 ∧ ∃ k, (∃ st, prT (spl 10 l) k = some st) ∧ prT (spl 10 l) (k + 1) = none ∧ k < (spl 10 l).length ∧ c = (k : Int) + 1 ∧ ds = []) ∨
  (l.length ≤ 60000 ∧ ∃ st, prT (spl 10 l) (spl 10 l).length = some st ∧ c = 0 ∧ DsOf st ds)

theorem dsOf_uniq {st : List RdV} {ds ds2 : List RelV} (hg : GoodS st) (h : DsOf st ds) (h2 : DsOf st ds2) : ds = ds2 := by
  refine List.ext_getElem? fun j => ?_
  by_cases hj : j < st.length
  · have e := relOf_uniq (hg j hj).1 (h.2 j hj) (h2.2 j hj)
    have h3 : j < ds.length := by rw [h.1]; exact hj
    have h4 : j < ds2.length := by rw [h2.1]; exact hj
    rw [List.getElem?_eq_getElem h3, List.getElem?_eq_getElem h4]
    rw [List.getD_eq_getElem?_getD, List.getD_eq_getElem?_getD, List.getElem?_eq_getElem h3, List.getElem?_eq_getElem h4] at e
    exact congrArg some e
  · rw [List.getElem?_eq_none (by rw [h.1]; omega), List.getElem?_eq_none (by rw [h2.1]; omega)]

theorem DsG.uniq {l : List UInt8} {c c2 : Int} {ds ds2 : List RelV} (h : DsG l c ds) (h2 : DsG l c2 ds2) : c = c2 ∧ ds = ds2 := by
  rcases h with ⟨a1, rfl, rfl⟩ | ⟨a1, k, ⟨st, hk⟩, hk1, hkl, rfl, rfl⟩ | ⟨a1, st, hs, rfl, ho⟩ <;> rcases h2 with ⟨b1, rfl, rfl⟩ | ⟨b1, k', ⟨st', hk'⟩, hk1', hkl', rfl, rfl⟩ | ⟨b1, st', hs', rfl, ho'⟩
  · exact ⟨rfl, rfl⟩
  · omega
  · omega
  · omega
  · rcases Nat.lt_trichotomy k k' with e | e | e
    · have := prT_none hk1 (k' - (k + 1))
      rw [show k + 1 + (k' - (k + 1)) = k' by omega, hk'] at this
      cases this
    · subst e; exact ⟨rfl, rfl⟩
    · have := prT_none hk1' (k - (k' + 1))
      rw [show k' + 1 + (k - (k' + 1)) = k by omega, hk] at this
      cases this
  · have := prT_none hk1 ((spl 10 l).length - (k + 1))
    rw [show k + 1 + ((spl 10 l).length - (k + 1)) = (spl 10 l).length by omega, hs'] at this
    cases this
  · omega
  · have := prT_none hk1' ((spl 10 l).length - (k' + 1))
    rw [show k' + 1 + ((spl 10 l).length - (k' + 1)) = (spl 10 l).length by omega, hs] at this
    cases this
  · rw [hs] at hs'
    cases hs'
    exact ⟨rfl, dsOf_uniq (prT_good hs) ho ho'⟩

theorem lenR_of {ls : List (List Int)} {m : Nat} (h : ∀ j, (ls.getD j []).length ≤ m) : ∀ n, lenR ls n ≤ n * m
  | 0 => Nat.zero_le _
  | n + 1 => by
    rw [lenR, Nat.add_mul, Nat.one_mul]
    have := lenR_of h n
    have := h n
    omega

theorem relOf_facts {r : RdV} {d : RelV} (h : RelOf r d) : d.rows.length = r.rs.length ∧ d.ws.length = r.rs.length ∧ ∀ j, (d.rows.getD j []).length ≤ 3 := by
  obtain ⟨ss, hp, -, e1, e2⟩ := h.ex
  have hl := hp.length_eq
  rw [List.length_map] at hl
  refine ⟨by rw [e1]; unfold rowsT; rw [List.length_map, hl], by rw [e2]; unfold wtsT; rw [List.length_map, hl], fun j => ?_⟩
  rw [e1]
  unfold rowsT
  rw [List.getD_eq_getElem?_getD, List.getElem?_map]
  cases hj : ss[j]? with
  | none => exact Nat.zero_le _
  | some x =>
    show ((tl x).take _).length ≤ 3
    rw [List.length_take]
    show min _ 3 ≤ 3
    omega

theorem getD_out {α : Type} {l : List α} {j : Nat} {d : α} (h : l.length ≤ j) : l.getD j d = d := by rw [List.getD_eq_getElem?_getD, List.getElem?_eq_none h]; rfl

theorem dsOf_few {st : List RdV} {ds : List RelV} (h : DsOf st ds) (hs : StOk st) (hn : NmS st) : FewD ds ∧ OkRels ds := by
  have hf : ∀ j, j < ds.length → lenR (ds.getD j noRel).rows (ds.getD j noRel).rows.length ≤ 6000 ∧ (ds.getD j noRel).rows.length ≤ 2000 ∧ (ds.getD j noRel).ws.length ≤ 2000 ∧ (∀ m, ((ds.getD j noRel).rows.getD m []).length ≤ 3) ∧ (ds.getD j noRel).name.size ≤ 30 := fun j hj => by
    rw [h.1] at hj
    obtain ⟨f1, f2, f3⟩ := relOf_facts (h.2 j hj)
    have h2 := (hs.2 j hj).1
    have h4 := lenR_of f3 (ds.getD j noRel).rows.length
    refine ⟨by omega, by omega, by omega, f3, ?_⟩
    rw [(h.2 j hj).name]
    exact hn j hj
  have h50 : ds.length ≤ 50 := by rw [h.1]; exact hs.1
  refine ⟨⟨h50, fun j hj => ⟨by have := (hf j hj).1; omega, (hf j hj).2.1, (hf j hj).2.2.1⟩⟩, by omega, fun j => ?_⟩
  by_cases hj : j < ds.length
  · obtain ⟨-, h2, h3, h4, h5⟩ := hf j hj
    exact ⟨by omega, ⟨by omega, fun m => by have := h4 m; omega⟩, by omega⟩
  · rw [getD_out (by omega)]
    exact ⟨by decide, ⟨by decide, fun m => by simp [noRel]⟩, by decide⟩

theorem DsG.few {l : List UInt8} {c : Int} {ds : List RelV} (h : DsG l c ds) : FewD ds ∧ OkRels ds := by
  have h0 : FewD [] ∧ OkRels [] := dsOf_few (st := []) ⟨rfl, fun _ h => absurd h (Nat.not_lt_zero _)⟩ stOk_nil (fun _ h => absurd h (Nat.not_lt_zero _))
  rcases h with ⟨-, -, rfl⟩ | ⟨-, k, -, -, -, -, rfl⟩ | ⟨-, st, hs, -, ho⟩
  · exact h0
  · exact h0
  · exact dsOf_few ho (prT_ok hs) (prT_nm hs)

theorem ParSE.all {w w' : World} {l : List UInt8} {e : Ending} (h : ParSE w l e w') : ∃ v c ds, e = .returned (.tuple #[.agg #[v], .int .i64 c]) ∧ DsG l c ds ∧ IRelS w' v ds ∧ Below w.heap.size w w' := by
  obtain ⟨hb, ⟨a, he⟩ | ⟨a, k, hk, hs, hn, he⟩ | ⟨a, st, hs, v, ds, vr, vw, us, he, ho, hq⟩⟩ := h
  · exact ⟨_, _, [], he, Or.inl ⟨a, rfl, rfl⟩, ⟨none, 0, rfl, Or.inl rfl⟩, hb⟩
  · exact ⟨_, _, [], he, Or.inr (Or.inl ⟨a, k, hs, hn, hk, rfl, rfl⟩), ⟨none, 0, rfl, Or.inl rfl⟩, hb⟩
  · exact ⟨v, 0, ds, he, Or.inr (Or.inr ⟨a, st, hs, rfl, ho⟩), hq.irels, hb⟩
theorem ParE.all {w w' : World} {l : List UInt8} {e : Ending} (h : ParE w l e w') : ∃ v c ds, e = .returned (.tuple #[.agg #[v], .int .i64 c]) ∧ DsG l c ds ∧ (∃ vr vw us lo hi, DQ w' w.heap.size v ds vr vw us lo hi) ∧ Below w.heap.size w w' := by
  obtain ⟨hb, ⟨a, he⟩ | ⟨a, k, hk, hs, hn, he⟩ | ⟨a, st, hs, v, ds, vr, vw, us, lo, hi, he, ho, hq⟩⟩ := h
  · exact ⟨_, _, [], he, Or.inl ⟨a, rfl, rfl⟩, ⟨fun _ => undef, fun _ => undef, fun _ => [], fun _ => 0, fun _ => 0, DQ.nil _ _⟩, hb⟩
  · exact ⟨_, _, [], he, Or.inr (Or.inl ⟨a, k, hs, hn, hk, rfl, rfl⟩), ⟨fun _ => undef, fun _ => undef, fun _ => [], fun _ => 0, fun _ => 0, DQ.nil _ _⟩, hb⟩
  · exact ⟨v, 0, ds, he, Or.inr (Or.inr ⟨a, st, hs, rfl, ho⟩), ⟨vr, vw, us, lo, hi, hq⟩, hb⟩

end Go.Proofs.YtcdfoephhjacdaaDoor

/-
  laws.FnExactParseData, walked.
-/
namespace Go.Proofs.YtcdfoephhjacdaaDoor
open Go.RowKit

theorem IRelS.sl {w : World} {v : Value} {ds : List RelV} (h : IRelS w v ds) : ∃ a cap, v = .slice a ds.length cap := by
  obtain ⟨a, cap, e, -⟩ := h
  exact ⟨a, cap, e⟩

set_option maxHeartbeats 4000000 in
set_option maxRecDepth 1000000 in
theorem parseData_walk (w : World) (s : ByteArray) (m : Int) (hm : w.cell? ⟨2, 0, none⟩ = some (.int .i64 m)) (hs : s.size ≤ 9223372036854775807) :
    Calls Tryd.prog 3 #[.string s] w fun e w' => e = .returned (.bool true) ∧ Below w.heap.size w w' := by
  by_cases hbig : 1048576 < s.size
  · have q1 : (1048576 : Int) < (s.size : Int) := by omega
    go_enter Tryd.func3, Tryd.ntmps3
    go_wp2_with fail
    go_ret
    exact ⟨rfl, Below.refl _ _⟩
  have q1 : ¬ ((1048576 : Int) < (s.size : Int)) := by omega
  have K1 : Hid (Calls Tryd.prog 5 #[.string s] w fun e w' => ∃ a cap c ds, e = .returned (.tuple #[.agg #[.slice a ds.length cap], .int .i64 c]) ∧ DsG s.data.toList c ds ∧ IRelS w' (.slice a ds.length cap) ds ∧ Below w.heap.size w w') := hid ((sParse_calls w s (by omega)).mono fun e w' h => by
    obtain ⟨v, c, ds, he, hd, hi, hb⟩ := h.all
    obtain ⟨a, cap, rfl⟩ := hi.sl
    exact ⟨a, cap, c, ds, he, hd, hi, hb⟩)
  have KI : Hid (∀ W, Below w.heap.size w W → Calls Tryd.prog 6 #[.string s] W fun e w' => ∃ a cap c ds, e = .returned (.tuple #[.agg #[.slice a ds.length cap], .int .i64 c]) ∧ DsG s.data.toList c ds ∧ (∃ vr vw us lo hi, DQ w' W.heap.size (.slice a ds.length cap) ds vr vw us lo hi) ∧ Below W.heap.size W w') := hid fun W hW => (iParse_calls W s m (bclR hW hm) (by omega)).mono fun e w' h => by
    obtain ⟨v, c, ds, he, hd, ⟨vr, vw, us, lo, hi, hq⟩, hb⟩ := h.all
    obtain ⟨a, cap, rfl⟩ := own_shapeR hq.own
    exact ⟨a, cap, c, ds, he, hd, ⟨vr, vw, us, lo, hi, hq⟩, hb⟩
  clear hm hs hbig
  go_enter Tryd.func3, Tryd.ntmps3
  go_wp2_with fail
  refine K1.out.mono ?_
  rintro e w1 ⟨a1, k1, c, ds, rfl, hd1, hi1, hb1⟩
  obtain ⟨W1, hW1⟩ : ∃ W1, W1 = w1.alloc (.cells #[.slice a1 ds.length k1] 24) := ⟨_, rfl⟩
  have hB1 : Below w1.heap.size w1 W1 := by rw [hW1]; exact (Below.refl _ _).alloc (Nat.le_refl _) _
  have HX1 : Hid (Boxed W1 w1.heap.size 24 (.slice a1 ds.length k1)) := hid (by rw [hW1]; exact Boxed.new _ _ _)
  have HS1 : Hid (W1.heap.size = w1.heap.size + 1) := hid (by rw [hW1]; simp)
  have HD1 := hid hd1
  have HI1 := hid (hi1.below hB1)
  have HB1 := hid (bt hb1 hB1)
  have HF := hid hd1.few
  clear hd1 hi1 hb1 hB1 K1
  go_upto_region 4 with fail
  rw [← hW1]
  clear hW1
  obtain ⟨P1, hP1⟩ : ∃ P1, P1 = w1.heap.size := ⟨_, rfl⟩
  rw [← hP1] at HX1 HS1 ⊢
  clear hP1
  go_wp2_with fail
  refine (KI.out W1 HB1.out).mono ?_
  rintro e w2 ⟨a2, k2, c2, ds2, rfl, hd2, hq2, hb2⟩
  obtain ⟨rfl, rfl⟩ := HD1.out.uniq hd2
  obtain ⟨W2, hW2⟩ : ∃ W2, W2 = w2.alloc (.cells #[.slice a2 ds.length k2] 24) := ⟨_, rfl⟩
  have hB2 : Below w2.heap.size w2 W2 := by rw [hW2]; exact (Below.refl _ _).alloc (Nat.le_refl _) _
  have HX2 : Hid (Boxed W2 w2.heap.size 24 (.slice a2 ds.length k2)) := hid (by rw [hW2]; exact Boxed.new _ _ _)
  have HB2 := hid (bt hb2 hB2)
  have HQ2 : Hid (∃ vr vw us lo hi, DQ W2 W1.heap.size (.slice a2 ds.length k2) ds vr vw us lo hi) := hid (by
    obtain ⟨vr, vw, us, lo, hi, hq⟩ := hq2
    exact ⟨vr, vw, us, lo, hi, hq.below hB2⟩)
  have HX12 := hid (bx_below HX1.out HB2.out)
  clear hd2 hq2 hb2 hB2
  go_upto_region 5 with fail
  rw [← hW2]
  clear hW2
  obtain ⟨P2, hP2⟩ : ∃ P2, P2 = w2.heap.size := ⟨_, rfl⟩
  rw [← hP2] at HX2 ⊢
  clear hP2
  have x1 := HX12.out.cell
  have x2 := HX2.out.cell
  have KE : Hid (Calls Tryd.prog 7 #[.agg #[.slice a2 ds.length k2], .agg #[.slice a1 ds.length k1]] W2 fun e w' => e = .returned (.bool true) ∧ Below W2.heap.size W2 w') := hid (by
    obtain ⟨vr, vw, us, lo, hi, hq⟩ := HQ2.out
    exact eqData_same W2 _ _ ds hq.irels (HI1.out.below HB2.out) HF.out.2)
  have qc : (c != c) = false := by simp
  generalize ds.length = n at *
  go_upto_region 8 with (first | (go_at_call 7; refine KE.out.mono ?_; rintro e w3 ⟨rfl, hb3⟩; have HB3 := hid hb3; clear hb3) | fail)
  have x23 := bclR HB3.out x2
  have HX23 := hid (bx_below HX2.out HB3.out)
  have HX13 := hid (bx_below HX12.out HB3.out)
  have HB23 := hid (bt HB2.out HB3.out)
  have KMk : Hid (Calls Tryd.prog 8 #[.agg #[.slice a2 n k2], .int .i64 1] w3 fun e w' => ∃ m : Nat, e = .returned (.int .i64 (m : Int)) ∧ Below W1.heap.size w3 w' ∧ KeepD w3 w' ∧ ∀ W, Below w'.heap.size w' W → Calls Tryd.prog 9 #[.agg #[.slice a2 n k2], .int .i64 1] W fun e w'' => e = .returned (.int .i64 (m : Int)) ∧ Below W.heap.size W w'') := hid (by
    obtain ⟨vr, vw, us, lo, hi, hq⟩ := HQ2.out
    exact data_marks w3 W1.heap.size _ ds vr vw us lo hi (hq.below HB3.out) HF.out.1 HB23.out.size)
  clear x1 x2 KE HX2 HX12 HB3
  go_wp2_with fail
  refine KMk.out.mono ?_
  rintro e w4 ⟨mm, rfl, hb4, hk4, hh4⟩
  have hx4 : Boxed w4 P2 24 (.slice a2 n k2) := (hk4 P2 _ HX23.out).trans HX23.out
  have hx14 : Boxed w4 P1 24 (.slice a1 n k1) := (hk4 P1 _ HX13.out).trans HX13.out
  have HX14 := hid hx14
  have x24 := hx4.cell
  have KH := hid (hh4 w4 (Below.refl _ _))
  have HB4 : Hid (Below W1.heap.size W1 w4) := hid (HB23.out.trans hb4)
  have g1 : ¬ ((mm : Int) < 0) := by omega
  have g2 : ((mm : Int) != (mm : Int)) = false := by simp
  clear x23 HX23 HX13 HB23 KMk hb4 hk4 hh4 hx4 hx14 HQ2 HB2
  go_upto_region 15 with (first | (go_at_call 9; refine KH.out.mono ?_; rintro e w5 ⟨rfl, hb5⟩; have HB5 := hid (bt HB4.out hb5); have HX15 := hid (bx_below HX14.out hb5); clear hb5) | fail)
  clear KH x24 HX14 HB4
  go_wp2_with fail
  refine (KI.out w5 (bt HB1.out HB5.out)).mono ?_
  rintro e w6 ⟨a6, k6, c6, ds6, rfl, hd6, hq6, hb6⟩
  obtain ⟨rfl, rfl⟩ := HD1.out.uniq hd6
  obtain ⟨W6, hW6⟩ : ∃ W6, W6 = w6.alloc (.cells #[.slice a6 ds.length k6] 24) := ⟨_, rfl⟩
  have hB6 : Below w6.heap.size w6 W6 := by rw [hW6]; exact (Below.refl _ _).alloc (Nat.le_refl _) _
  have HX6 : Hid (Boxed W6 w6.heap.size 24 (.slice a6 ds.length k6)) := hid (by rw [hW6]; exact Boxed.new _ _ _)
  have HX16 := hid (bx_below HX15.out (bt hb6 hB6))
  have HB6 := hid (bt HB5.out (bt hb6 hB6))
  have KE : Hid (Calls Tryd.prog 7 #[.agg #[.slice a6 ds.length k6], .agg #[.slice a1 n k1]] W6 fun e w' => e = .returned (.bool true) ∧ Below W6.heap.size W6 w') := hid (by
    obtain ⟨vr, vw, us, lo, hi, hq⟩ := hq6
    exact eqData_same W6 _ _ ds (hq.below hB6).irels (HI1.out.below HB6.out) HF.out.2)
  clear hd6 hq6 hb6 hB6 HX15 HB5 KI
  go_upto_region 16 with fail
  rw [← hW6]
  clear hW6
  obtain ⟨P6, hP6⟩ : ∃ P6, P6 = w6.heap.size := ⟨_, rfl⟩
  rw [← hP6] at HX6 ⊢
  clear hP6
  have x1 := HX16.out.cell
  have x6 := HX6.out.cell
  generalize ds.length = n6 at *
  go_wp2_with (first | (go_at_call 7; refine KE.out.mono ?_; rintro e w7 ⟨rfl, hb7⟩; have HB7 := hid (bt (bt HB1.out HB6.out) hb7); clear hb7) | fail)
  go_ret
  exact ⟨rfl, HB7.out⟩

end Go.Proofs.YtcdfoephhjacdaaDoor
