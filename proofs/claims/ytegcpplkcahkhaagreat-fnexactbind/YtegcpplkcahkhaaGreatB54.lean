import Derived.Deep.RegionHeld3
import Derived.Test.YtegcpplkcahkhaaGreatB08
import Derived.Test.YtegcpplkcahkhaaGreatB12
import Derived.Test.YtegcpplkcahkhaaGreatB15
import Derived.Test.YtegcpplkcahkhaaGreatB19
import Derived.Test.YtegcpplkcahkhaaGreatB46
import Derived.Test.YtegcpplkcahkhaaGreatB47
import Derived.Test.YtegcpplkcahkhaaGreatB48
import Derived.Test.YtegcpplkcahkhaaGreatB50
import Derived.Test.YtegcpplkcahkhaaGreatB53
/-
  Both sides' tables as plain values; laws.eqTableS.
-/
namespace Go.Proofs.YtegcpplkcahkhaaGreat
open Go.RowKit

def tvM (t : MbR) : TbV := ⟨t.vs, t.ps.map Prod.snd, t.ws⟩

theorem vrs_le6 {V : List ByteArray} {ts : List TermV} (h : V.length ≤ 6) : (vrsI V ts).length ≤ 6 := by
  have := vrsN_len V ts V.length
  rw [vrsN_all] at this
  omega

theorem tabOf_ok {ds : List RelV} {q : QV} {t : TbR} {j : Nat} (hc : (checkP ds q).1 = 0) (hq : OkQ q) (hj : j < q.atoms.length) (h : TabOf ds (VL q.atoms q.atoms.length) (q.atoms.getD j noAt) t) : TvOk (tvB t) := by
  obtain ⟨k, hk, h1, h2, h3, -⟩ := h
  obtain ⟨hkl, hB⟩ := btH_of hc hq hj hk
  have hl : t.rows.length ≤ 2000 := by
    have e1 := h3.length_eq
    have e2 := fndL_len (VL q.atoms q.atoms.length) (q.atoms.getD j noAt).2 (ds.getD k noRel).rows (ds.getD k noRel).ws (ds.getD k noRel).rows.length
    have e3 := hB.n
    rw [List.length_zip] at e1
    omega
  refine ⟨by show t.vs.length ≤ 6; rw [h1]; exact vrs_le6 hB.vl, Nat.le_trans hl (by omega), by show t.ws.length ≤ 10000; omega, fun r hr => ?_⟩
  have hr' : r ∈ t.rows := hr
  obtain ⟨i, hi, rfl⟩ := List.getElem_of_mem hr'
  have hm : (t.rows[i], t.ws[i]) ∈ t.rows.zip t.ws := by
    have : (t.rows.zip t.ws)[i]'(by rw [List.length_zip]; omega) = (t.rows[i], t.ws[i]) := List.getElem_zip
    rw [← this]; exact List.getElem_mem _
  have hm2 := h3.mem_iff.1 hm
  obtain ⟨p, -, e⟩ := List.mem_map.1 hm2
  have e1 : t.rows[i] = atP ((ds.getD k noRel).rows.getD p []) (colP (VL q.atoms q.atoms.length) (q.atoms.getD j noAt).2) := (congrArg Prod.fst e).symm
  rw [e1, atP_len, colP_len]
  have := vrs_le6 (V := VL q.atoms q.atoms.length) (ts := (q.atoms.getD j noAt).2) hB.vl
  simpa [vrsI] using this

theorem tabs_same {ds : List RelV} {q : QV} {tl : List TbR} {tm : List MbR} (hq : OkQ q) (l1 : tl.length = if (checkP ds q).1 = 0 then q.atoms.length else 0) (l2 : tm.length = if (checkP ds q).1 = 0 then q.atoms.length else 0)
    (h1 : ∀ j, j < tl.length → TabOf ds (VL q.atoms q.atoms.length) (q.atoms.getD j noAt) (tl.getD j noTb)) (h2 : ∀ j, j < tm.length → STab ds (VL q.atoms q.atoms.length) (q.atoms.getD j noAt) (tm.getD j noMb)) :
    tl.map tvB = tm.map tvM ∧ tl.length ≤ 7 ∧ ∀ t ∈ tl, TvOk (tvB t) := by
  by_cases hc : (checkP ds q).1 = 0
  · rw [if_pos hc] at l1 l2
    have h7 := (checkP_zero hc).2.2.1
    refine ⟨List.ext_getElem (by simp; omega) fun j hj hj' => ?_, by omega, fun t ht => ?_⟩
    · simp only [List.length_map] at hj hj'
      have a1 := h1 j hj
      have a2 := h2 j hj'
      rw [List.getElem_map, List.getElem_map]
      rw [show tl.getD j noTb = tl[j] by rw [List.getD_eq_getElem?_getD, List.getElem?_eq_getElem hj, Option.getD_some]] at a1
      rw [show tm.getD j noMb = tm[j] by rw [List.getD_eq_getElem?_getD, List.getElem?_eq_getElem hj', Option.getD_some]] at a2
      generalize tl[j] = t at *
      generalize tm[j] = m at *
      obtain ⟨k, r1, v1, e1, p1, s1⟩ := a1
      obtain ⟨k', r2, v2, sp⟩ := a2
      have ek := RelIx.one r1 r2
      obtain rfl : k = k' := by omega
      obtain ⟨hkl, hB⟩ := btH_of hc hq (by omega) r1
      obtain ⟨er, ew⟩ := SpT.same sp hB (rel_rows (checkP_zero hc).1 hkl).2.2.2 e1 p1 s1
      unfold tvB tvM
      rw [v1, v2, er, ew]
    · obtain ⟨j, hj, rfl⟩ := List.getElem_of_mem ht
      have a1 := h1 j hj
      rw [show tl.getD j noTb = tl[j] by rw [List.getD_eq_getElem?_getD, List.getElem?_eq_getElem hj, Option.getD_some]] at a1
      exact tabOf_ok hc hq (by omega) a1
  · rw [if_neg hc] at l1 l2
    have e1 := List.length_eq_zero_iff.1 l1
    have e2 := List.length_eq_zero_iff.1 l2
    subst e1 e2
    exact ⟨rfl, by simp, fun t ht => by simp at ht⟩

theorem MTs.its {W : World} {B : Nat} {v : Value} {tl : List MbR} (h : MTs W B v tl) : ITs W v (tl.map tvM) := by
  obtain ⟨a, cap, e, hc⟩ := own3 mcs (fun _ => rfl) noMb h.own
  refine ⟨a, cap, by rw [List.length_map]; exact e, ?_⟩
  rcases hc with h0 | ⟨g, ea, -, hc⟩
  · exact Or.inl (by rw [List.length_map]; exact h0)
  · refine Or.inr ⟨g, 0, ea, fun j hj => ?_⟩
    rw [List.length_map] at hj
    have ht : MWr W B (tl.getD j noMb) := h.each _ (by rw [List.getD_eq_getElem?_getD, List.getElem?_eq_getElem hj]; exact List.getElem_mem _)
    have eg : (tl.map tvM).getD j noTv = tvM (tl.getD j noMb) := by
      rw [List.getD_eq_getElem?_getD, List.getD_eq_getElem?_getD, List.getElem?_map, List.getElem?_eq_getElem hj]; rfl
    rw [eg, Nat.zero_add]
    refine ⟨_, _, _, hc j 0 hj (by omega), hc j 1 hj (by omega), hc j 2 hj (by omega), own_is ht.o0, ?_, own_is ht.o2⟩
    generalize tl.getD j noMb = m at *
    show ISS W m.v1 (m.ps.map Prod.snd)
    rcases ht.o1.2 with ⟨e0, hn⟩ | ⟨g', cap', cur, e0, hb', hh, hn, -, -, hx⟩
    · exact ⟨none, 0, by rw [e0, List.length_map, hn], Or.inl (by rw [List.length_map]; exact hn)⟩
    · refine ⟨_, cap', by rw [e0, List.length_map], Or.inr ⟨g', 0, rfl, fun i hi => ?_⟩⟩
      rw [List.length_map] at hi
      refine ⟨m.ps[i].1, ?_, ?_⟩
      · rw [Nat.zero_add, cell_of_row _ _ _ _ _ _ hh, ← Array.getElem?_toList, ← List.getElem?_take_of_lt (by omega : i < m.ps.length * 1), hx, List.getElem?_map, List.getElem?_eq_getElem hi]; rfl
      · have : (m.ps.map Prod.snd).getD i [] = m.ps[i].2 := by rw [List.getD_eq_getElem?_getD, List.getElem?_map, List.getElem?_eq_getElem hi]; rfl
        rw [this]
        exact own_is (ht.each _ (List.getElem_mem _))

end Go.Proofs.YtegcpplkcahkhaaGreat

/-
  laws.FnExactBind, walked.
-/
namespace Go.Proofs.YtegcpplkcahkhaaGreat
open Go.RowKit

set_option maxHeartbeats 2000000 in
set_option maxRecDepth 1000000 in
theorem szQueryL_calls (w : World) (vh va : Value) (q : QV) (left : Int) (hl0 : 0 ≤ left) (hl1 : left ≤ 1048576) (h : IQ w vh va q) (hq : FitQ q) :
    Calls Tryz.prog 5 #[.agg #[.string q.name, vh, .int .i64 q.ring, va], .int .i64 left] w fun e w' => ∃ z : Int, e = .returned (.int .i64 z) ∧ Below w.heap.size w w' ∧ (z = -1 ∨ (0 ≤ z ∧ OkQ q)) := by
  have HB : Hid (Below w.heap.size w (w.alloc (.cells #[.string q.name, vh, .int .i64 q.ring, va] 28))) := hid ((Below.refl _ _).alloc (Nat.le_refl _) _)
  have hs := hq.name
  have HI := hid h
  have HQ := hid hq
  obtain ⟨a1, k1, e1, -⟩ := h.head
  obtain ⟨a2, k2, e2, -⟩ := h.atoms
  subst e1 e2
  clear h hq
  obtain ⟨W1, hW1⟩ : ∃ W, W = w.alloc (.cells #[.string q.name, .slice a1 q.head.length k1, .int .i64 q.ring, .slice a2 q.atoms.length k2] 28) := ⟨_, rfl⟩
  have c0 : W1.cell? ⟨w.heap.size, 0, none⟩ = some (.string q.name) := by rw [hW1, World.cell?_alloc_at _ _ _ _ rfl]; rfl
  have c1 : W1.cell? ⟨w.heap.size, 1, none⟩ = some (.slice a1 q.head.length k1) := by rw [hW1, World.cell?_alloc_at _ _ _ _ rfl]; rfl
  have c3 : W1.cell? ⟨w.heap.size, 3, none⟩ = some (.slice a2 q.atoms.length k2) := by rw [hW1, World.cell?_alloc_at _ _ _ _ rfl]; rfl
  have hlt : w.heap.size < W1.heap.size := by rw [hW1]; simp
  rw [← hW1] at HB
  by_cases h3 : left - (q.name.size : Int) < 0
  · generalize q.name = s at *
    go_enter Tryz.func5, Tryz.ntmps5
    go_upto_region 1 with fail
    rw [← hW1]
    clear hW1
    go_wp2
    go_ret
    exact ⟨_, rfl, HB.out, Or.inl rfl⟩
  · have K := hid (szStringS_calls W1 _ q.head (left - (q.name.size : Int)) (HI.out.head.below HB.out) HQ.out.len HQ.out.head (by omega) (by omega))
    have HNM : Hid (q.name.size ≤ 1048576) := hid (by omega)
    generalize hnm : q.name = s at *
    have HE := hid hnm
    clear hnm
    go_enter Tryz.func5, Tryz.ntmps5
    go_upto_region 1 with fail
    rw [← hW1]
    clear hW1
    go_wp2_with fail
    refine K.out.mono ?_
    rintro e w2 ⟨z, rfl, hw2, hz⟩
    subst w2
    clear K
    rcases hz with rfl | ⟨g0, g1, g2, g3⟩
    · go_wp2
      go_ret
      exact ⟨_, rfl, HB.out, Or.inl rfl⟩
    · have hneg : ¬ (z < 0) := by omega
      have HG := hid (And.intro g2 g3)
      have K := hid (szAtomS_calls W1 _ q.atoms z (HI.out.atoms.below HB.out) HQ.out.alen HQ.out.atoms g0 (by omega))
      clear g2 g3
      go_wp2_with fail
      refine K.out.mono ?_
      rintro e w3 ⟨z3, rfl, hb3, hz3⟩
      have HB3 := hid (bt HB.out hb3)
      clear hb3 K
      rcases hz3 with rfl | ⟨k0, k1', k2', k3⟩
      · go_wp2
        go_ret
        exact ⟨_, rfl, HB3.out, Or.inl rfl⟩
      · have hneg : ¬ (z3 < 0) := by omega
        have HK := hid k3
        clear k3
        go_wp2
        go_ret
        exact ⟨_, rfl, HB3.out, Or.inr ⟨k0, by rw [HE.out]; exact HNM.out, by have := HG.out.1; omega, fun j hj => by have := HG.out.2 j hj; omega, by omega, HK.out⟩⟩


/-- the boxes of a law's data and query -/
structure BQ (s : Nat) (d0 q0 q1 q2 q3 : Value) (W : World) : Prop where
  d : W.cell? ⟨s, 0, none⟩ = some d0
  c0 : W.cell? ⟨s + 1, 0, none⟩ = some q0
  c1 : W.cell? ⟨s + 1, 1, none⟩ = some q1
  c2 : W.cell? ⟨s + 1, 2, none⟩ = some q2
  c3 : W.cell? ⟨s + 1, 3, none⟩ = some q3
theorem BQ.step {s : Nat} {d0 q0 q1 q2 q3 : Value} {W W' : World} (h : BQ s d0 q0 q1 q2 q3 W) (hb : Below W.heap.size W W') : BQ s d0 q0 q1 q2 q3 W' :=
  ⟨bcl' hb h.d, bcl' hb h.c0, bcl' hb h.c1, bcl' hb h.c2, bcl' hb h.c3⟩
theorem bq5 {w5 W : World} {s : Nat} {d0 q0 q1 q2 q3 : Value} (h : BQ s d0 q0 q1 q2 q3 w5) (hb : Below w5.heap.size w5 W) :
    W.cell? ⟨s, 0, none⟩ = some d0 ∧ W.cell? ⟨s + 1, 0, none⟩ = some q0 ∧ W.cell? ⟨s + 1, 1, none⟩ = some q1 ∧ W.cell? ⟨s + 1, 2, none⟩ = some q2 ∧ W.cell? ⟨s + 1, 3, none⟩ = some q3 ∧ Below w5.heap.size w5 W :=
  ⟨bcl' hb h.d, bcl' hb h.c0, bcl' hb h.c1, bcl' hb h.c2, bcl' hb h.c3, hb⟩
theorem bq6 {w5 W : World} {s X : Nat} {d0 q0 q1 q2 q3 x0 : Value} (h : BQ s d0 q0 q1 q2 q3 w5) (k : w5.cell? ⟨X, 0, none⟩ = some x0) (hb : Below w5.heap.size w5 W) :
    W.cell? ⟨s, 0, none⟩ = some d0 ∧ W.cell? ⟨X, 0, none⟩ = some x0 ∧ Below w5.heap.size w5 W := ⟨bcl' hb h.d, bcl' hb k, hb⟩
/-- four cells in a block -/
structure BY (s : Nat) (q0 q1 q2 q3 : Value) (W : World) : Prop where
  c0 : W.cell? ⟨s, 0, none⟩ = some q0
  c1 : W.cell? ⟨s, 1, none⟩ = some q1
  c2 : W.cell? ⟨s, 2, none⟩ = some q2
  c3 : W.cell? ⟨s, 3, none⟩ = some q3
theorem BY.step {s : Nat} {q0 q1 q2 q3 : Value} {W W' : World} (h : BY s q0 q1 q2 q3 W) (hb : Below W.heap.size W W') : BY s q0 q1 q2 q3 W' :=
  ⟨bcl' hb h.c0, bcl' hb h.c1, bcl' hb h.c2, bcl' hb h.c3⟩
theorem BY.start (w : World) (q0 q1 q2 q3 : Value) (t : TypeId) : BY w.heap.size q0 q1 q2 q3 (w.alloc (.cells #[q0, q1, q2, q3] t)) :=
  ⟨by rw [World.cell?_alloc_at _ _ _ _ rfl]; rfl, by rw [World.cell?_alloc_at _ _ _ _ rfl]; rfl, by rw [World.cell?_alloc_at _ _ _ _ rfl]; rfl, by rw [World.cell?_alloc_at _ _ _ _ rfl]; rfl⟩
theorem bq8 {w5 W : World} {s Y : Nat} {d0 q0 q1 q2 q3 y0 y1 y2 y3 : Value} (h : BQ s d0 q0 q1 q2 q3 w5) (k : BY Y y0 y1 y2 y3 w5) (hb : Below w5.heap.size w5 W) :
    W.cell? ⟨s + 1, 0, none⟩ = some q0 ∧ W.cell? ⟨s + 1, 1, none⟩ = some q1 ∧ W.cell? ⟨s + 1, 2, none⟩ = some q2 ∧ W.cell? ⟨s + 1, 3, none⟩ = some q3 ∧ W.cell? ⟨Y, 0, none⟩ = some y0 ∧ W.cell? ⟨Y, 1, none⟩ = some y1 ∧ W.cell? ⟨Y, 2, none⟩ = some y2 ∧ W.cell? ⟨Y, 3, none⟩ = some y3 ∧ Below w5.heap.size w5 W :=
  ⟨bcl' hb h.c0, bcl' hb h.c1, bcl' hb h.c2, bcl' hb h.c3, bcl' hb k.c0, bcl' hb k.c1, bcl' hb k.c2, bcl' hb k.c3, hb⟩

theorem Fr.belN {lo hi N : Nat} {a b : World} (h : Fr lo hi a b) (h1 : N ≤ lo) (h2 : N ≤ a.heap.size) : Below N a b := ⟨h.os, h.tape, h.output, h.size, fun x hx => h.block x (by omega) (Or.inl (by omega))⟩
theorem TBs.move {W W' : World} {B : Nat} {v : Value} {tl : List TbR} (h : TBs W B v tl) (hb : ∀ g, B ≤ g → g < W.heap.size → W'.heap[g]? = W.heap[g]?) : TBs W' B v tl :=
  have mv : ∀ {e : TypeId} {s : Nat} {x : Value} {k : Nat} {xs : List Value}, W.ownsRow B e s x k xs → W'.ownsRow B e s x k xs := fun hx => own_move hx fun g hg => hb g (hx.lt g hg).1 (hx.lt g hg).2
  ⟨mv h.own, fun t ht => have k := h.each t ht; ⟨mv k.o0, ⟨mv k.rq.own, k.rq.len, fun i hi => mv (k.rq.each i hi), k.rq.ap⟩, mv k.o2, k.a02, k.a0, k.a2⟩, h.ap⟩
theorem Sh1.mv {W W' : World} {g i m hi : Nat} (h : Sh1 W g i m hi) (hb : ∀ b, g ≤ b → b < W.heap.size → W'.heap[b]? = W.heap[b]?) (hs : W.heap.size ≤ W'.heap.size) : Sh1 W' g i m hi := by
  obtain ⟨⟨u, h0⟩, h1, gt, h2, h3, h4, h5, h6⟩ := h
  have hg : g < W.heap.size := World.block_lt_of_cell? W _ h0
  have hbk := hb g (Nat.le_refl _) hg
  have hb2 := hb gt (by omega) h5
  refine ⟨⟨u, (World.cell?_of_block (w := W) (a := ⟨g, i * 2, none⟩) hbk).trans h0⟩, (World.frozen?_of_block (w := W) (a := ⟨g, i * 2, none⟩) hbk).trans h1, gt, (World.cell?_of_block (w := W) (a := ⟨g, i * 2 + 1, none⟩) hbk).trans h2, h3, h4, Nat.lt_of_lt_of_le h5 hs, fun j hj => ?_⟩
  obtain ⟨⟨v, k0⟩, k1⟩ := h6 j hj
  exact ⟨⟨v, (World.cell?_of_block (w := W) (a := ⟨gt, j, none⟩) hb2).trans k0⟩, (World.frozen?_of_block (w := W) (a := ⟨gt, j, none⟩) hb2).trans k1⟩
theorem BY.mv {s : Nat} {q0 q1 q2 q3 : Value} {W W' : World} (h : BY s q0 q1 q2 q3 W) (hb : W'.heap[s]? = W.heap[s]?) : BY s q0 q1 q2 q3 W' :=
  have mv : ∀ q, W'.cell? ⟨s, q, none⟩ = W.cell? ⟨s, q, none⟩ := fun q => World.cell?_of_block (w := W) (a := ⟨s, q, none⟩) hb
  ⟨(mv 0).trans h.c0, (mv 1).trans h.c1, (mv 2).trans h.c2, (mv 3).trans h.c3⟩
def BOk (TV : List TbV) : Prop := TV.length ≤ 1048576 ∧ ∀ j, j < TV.length → TvOk (TV.getD j noTv)
theorem bok_of {tl : List TbR} (h7 : tl.length ≤ 7) (h : ∀ t ∈ tl, TvOk (tvB t)) : BOk (tl.map tvB) := by
  refine ⟨by rw [List.length_map]; omega, fun j hj => ?_⟩
  rw [List.length_map] at hj
  rw [List.getD_eq_getElem?_getD, List.getElem?_map, List.getElem?_eq_getElem hj]
  exact h _ (List.getElem_mem _)
/-- the model's answer, as far as the law asks -/
def TvAns (ds : List RelV) (q : QV) (TV : List TbV) : Prop := ∀ tl : List TbR, tl.length = (if (checkP ds q).1 = 0 then q.atoms.length else 0) → (∀ j, j < tl.length → TabOf ds (VL q.atoms q.atoms.length) (q.atoms.getD j noAt) (tl.getD j noTb)) → tl.map tvB = TV ∧ tl.length ≤ 7 ∧ ∀ t ∈ tl, TvOk (tvB t)
def SAns (ds : List RelV) (q : QV) (v : Value) (TV : List TbV) (w' : World) : Prop := ITs w' v TV ∧ (∃ a n cap, v = .slice a n cap) ∧ TvAns ds q TV
theorem sBind_ans (W : World) (v vh va : Value) (ds : List RelV) (q : QV) (h : IRelS W v ds) (hr : OkRels ds) (hcap : ∀ a n cap, v = .slice a n cap → n ≤ cap) (hi : IQ W vh va q) (hq : OkQ q) :
    Calls Tryz.prog 6 #[.agg #[v], .agg #[.string q.name, vh, .int .i64 q.ring, va]] W fun e w' => ∃ u TV, e = .returned u ∧ SAns ds q u TV w' ∧ Below W.heap.size W w' := by
  refine (sBind_calls W v vh va ds q h hr hcap hi hq).mono ?_
  rintro e w' ⟨u, rfl, tm, hM, hl, hS, hb⟩
  obtain ⟨a, c, eu⟩ := own_shapeW hM.own
  exact ⟨u, tm.map tvM, rfl, ⟨hM.its, ⟨a, _, c, eu⟩, fun tl l1 h1 => tabs_same hq l1 hl h1 hS⟩, hb⟩
theorem iBind_ans (W : World) (v vh va : Value) (ds : List RelV) (q : QV) (TV : List TbV) (h : IRelS W v ds) (hr : OkRels ds) (hi : IQ W vh va q) (hq : OkQ q) (hcap : ∀ a n cap, vh = .slice a n cap → n ≤ cap)
    (hT : TvAns ds q TV) :
    Calls Tryz.prog 9 #[.agg #[v], .agg #[.string q.name, vh, .int .i64 q.ring, va]] W fun e w' => ∃ a n c tl, e = .returned (.slice a n c) ∧ TBs w' W.heap.size (.slice a n c) tl ∧ tl.map tvB = TV ∧ tl.length ≤ 7 ∧ (∀ t ∈ tl, TvOk (tvB t)) ∧ Below W.heap.size W w' := by
  refine (iBind_calls W v vh va ds q h hr hi hq hcap).mono ?_
  rintro e w' ⟨u, rfl, tl, hM, hl, hS, hb⟩
  obtain ⟨a, c, eu⟩ := own_shapeW hM.own
  subst eu
  obtain ⟨h1, h2, h3⟩ := hT tl hl hS
  exact ⟨_, _, _, tl, rfl, hM, h1, h2, h3, hb⟩

set_option maxHeartbeats 16000000 in
set_option maxRecDepth 1000000 in
theorem bind_walk (w : World) (vd vh va : Value) (ds : List RelV) (q : QV) (hd : IRelS w vd ds) (hl : ds.length ≤ 9223372036854775807) (hr : ∀ j, FitRel (ds.getD j noRel)) (hi : IQ w vh va q) (hq : FitQ q) :
    Calls Tryz.prog 3 #[.agg #[vd], .agg #[.string q.name, vh, .int .i64 q.ring, va]] w fun e w' => e = .returned (.bool true) ∧ Below w.heap.size w w' := by
  have HD := hid hd
  have HI := hid hi
  have HFQ := hid hq
  obtain ⟨a0, k0, rfl, -⟩ := hd
  obtain ⟨a1, k1, e1, -⟩ := hi.head
  obtain ⟨a2, k2, e2, -⟩ := hi.atoms
  subst e1 e2
  obtain ⟨W1, hW1⟩ : ∃ W, W = w.alloc (.cells #[.slice a0 ds.length k0] 24) := ⟨_, rfl⟩
  obtain ⟨W2, hW2⟩ : ∃ W, W = W1.alloc (.cells #[.string q.name, .slice a1 q.head.length k1, .int .i64 q.ring, .slice a2 q.atoms.length k2] 28) := ⟨_, rfl⟩
  have b1 : Below w.heap.size w W1 := by rw [hW1]; exact (Below.refl _ _).alloc (Nat.le_refl _) _
  have b2 : Below W1.heap.size W1 W2 := by rw [hW2]; exact (Below.refl _ _).alloc (Nat.le_refl _) _
  have s1 : W1.heap.size = w.heap.size + 1 := by rw [hW1]; simp
  have BY2 := BY.start W1 (.string q.name) (.slice a1 q.head.length k1) (.int .i64 q.ring) (.slice a2 q.atoms.length k2) 28
  rw [← hW2, s1] at BY2
  have HA2 : Hid (BQ w.heap.size (.slice a0 ds.length k0) (.string q.name) (.slice a1 q.head.length k1) (.int .i64 q.ring) (.slice a2 q.atoms.length k2) W2) := hid ⟨bcl' b2 (by rw [hW1, World.cell?_alloc_at _ _ _ _ rfl]; rfl), BY2.c0, BY2.c1, BY2.c2, BY2.c3⟩
  have HB2 := hid (bt b1 b2)
  have HW : Hid (W2 = (w.alloc (.cells #[.slice a0 ds.length k0] 24)).alloc (.cells #[.string q.name, .slice a1 q.head.length k1, .int .i64 q.ring, .slice a2 q.atoms.length k2] 28)) := hid (by rw [hW2, hW1])
  have K0 := hid (szData_calls W2 _ ds 1048576 (HD.out.below HB2.out) hl hr (by omega) (by omega))
  clear hW1 hW2 b1 b2 s1 BY2 hi hq hr hl
  have x0 := HA2.out.d
  by_cases hbig : (1048576 : Int) < rtot ds ds.length
  · rw [if_pos hbig] at K0
    go_enter Tryz.func3, Tryz.ntmps3
    go_upto_region 1 with fail
    rw [← HW.out]
    clear HW
    go_wp2_with fail
    refine K0.out.mono ?_
    rintro e w1 ⟨rfl, hb1⟩
    go_wp2_with fail
    go_ret
    exact ⟨rfl, bt HB2.out hb1⟩
  rw [if_neg hbig] at K0
  have HR := hid (okRels_of (show rtot ds ds.length ≤ 1048576 by omega))
  have hn0 : ds.length ≤ 1048576 := by have := rtot_le ds ds.length 0 (by omega); rw [rtot_zero] at this; omega
  obtain ⟨l1, hl1⟩ : ∃ l : Int, l = 1048576 - rtot ds ds.length := ⟨_, rfl⟩
  rw [← hl1] at K0
  have g1 : ¬ (l1 < 0) := by omega
  have g1' : l1 ≤ 1048576 := by omega
  have HRt : Hid (rtot ds ds.length ≤ 1048576) := hid (by omega)
  clear hl1 hbig
  go_enter Tryz.func3, Tryz.ntmps3
  go_upto_region 1 with fail
  rw [← HW.out]
  clear HW
  go_wp2_with fail
  refine K0.out.mono ?_
  rintro e w1 ⟨rfl, hb1⟩
  have HA3 := hid (HA2.out.step hb1)
  have HB3 := hid (bt HB2.out hb1)
  have y0 := HA3.out.c0
  have y1 := HA3.out.c1
  have y2 := HA3.out.c2
  have y3 := HA3.out.c3
  have K1 := hid (szQueryL_calls w1 _ _ q l1 (by omega) g1' (HI.out.below HB3.out) HFQ.out)
  clear hb1 K0 x0 HA2 HB2
  go_wp2_with fail
  refine K1.out.mono ?_
  rintro e w2 ⟨z, rfl, hb2, hz⟩
  have HA4 := hid (HA3.out.step hb2)
  have HB4 := hid (bt HB3.out hb2)
  clear hb2 K1 y0 y1 y2 y3 HA3 HB3
  rcases hz with rfl | ⟨hz0, hOK⟩
  · go_wp2_with fail
    go_ret
    exact ⟨rfl, HB4.out⟩
  have g2 : ¬ (z < 0) := by omega
  have HOQ := hid hOK
  clear hOK
  have KS : Hid (∀ W' u uh ua, IRelS W' u ds → (∀ a n cap, u = .slice a n cap → n ≤ cap) → IQ W' uh ua q → Calls Tryz.prog 6 #[.agg #[u], .agg #[.string q.name, uh, .int .i64 q.ring, ua]] W' fun e w' => ∃ u TV, e = .returned u ∧ SAns ds q u TV w' ∧ Below W'.heap.size W' w') := hid fun W' u uh ua h1 h2 h3 => sBind_ans W' u uh ua ds q h1 HR.out h2 h3 HOQ.out
  have KI : Hid (∀ W' u uh ua TV, IRelS W' u ds → IQ W' uh ua q → (∀ a n cap, uh = .slice a n cap → n ≤ cap) → _ → Calls Tryz.prog 9 #[.agg #[u], .agg #[.string q.name, uh, .int .i64 q.ring, ua]] W' _) := hid fun W' u uh ua TV h1 h3 h2 h4 => iBind_ans W' u uh ua ds q TV h1 HR.out h3 HOQ.out h2 h4
  have KTD : Hid (∀ W', Below w2.heap.size w2 W' → Calls Tryz.prog 7 #[.agg #[.slice a0 ds.length k0]] W' fun e w' => ∃ g, e = .returned (.agg #[.slice (some ⟨g, 0, none⟩) ds.length ds.length]) ∧ IRelS w' (.slice (some ⟨g, 0, none⟩) ds.length ds.length) ds ∧ Below W'.heap.size W' w' ∧ W'.heap.size ≤ g ∧ g < w'.heap.size ∧ ShD g w'.heap.size w' g ds) := hid fun W' h => (toData_calls W' _ ds (HD.out.below (bt HB4.out h)) HR.out hn0).mono (by
    rintro e w' ⟨g, rfl, ho, h1, h2, hb⟩
    exact ⟨g, rfl, ho.irels, hb, Nat.le_of_lt h1, h2, ho.sh⟩)
  have KTQ : Hid (∀ W', Below w2.heap.size w2 W' → Calls Tryz.prog 8 #[.agg #[.string q.name, .slice a1 q.head.length k1, .int .i64 q.ring, .slice a2 q.atoms.length k2]] W' fun e w' => ∃ gh ga, e = .returned (.agg #[.string q.name, .slice (some ⟨gh, 0, none⟩) q.head.length q.head.length, .int .i64 q.ring, .slice (some ⟨ga, 0, none⟩) q.atoms.length q.atoms.length]) ∧ IQ w' (.slice (some ⟨gh, 0, none⟩) q.head.length q.head.length) (.slice (some ⟨ga, 0, none⟩) q.atoms.length q.atoms.length) q ∧ Below W'.heap.size W' w' ∧ OwnQ w' W'.heap.size gh ga q) := hid fun W' h => (toQuery_calls W' _ _ q (HI.out.below (bt HB4.out h)) HOQ.out).mono (by
    rintro e w' ⟨gh, ga, rfl, ho, hb⟩
    exact ⟨gh, ga, rfl, ho.is, hb, ho⟩)
  have KED : Hid (∀ W' u u', IRelS W' u ds → IRelS W' u' ds → _) := hid fun W' u u' h1 h2 => eqData_same W' u u' ds h1 h2 HR.out
  have KEQ : Hid (∀ W' uh ua th ta, IQ W' uh ua q → IQ W' th ta q → _) := hid fun W' uh ua th ta h1 h2 => eqQuery_same W' uh ua th ta q h1 h2 HOQ.out
  have KMD : Hid (∀ W' lo hi g cap, ShD lo hi W' g ds → lo ≤ g → g < hi → _) := hid fun W' lo hi g cap h1 h2 h3 => markData_mk W' lo hi g cap ds h1 h2 h3 HRt.out
  have KMQ : Hid (∀ W' k lo gh ga hi, 0 < k → k ≤ 3000000 → OwnSt W' gh q.head → ShAt W' ga q.atoms.length hi (fun i => (q.atoms.getD i noAt).2.length) → lo ≤ gh → gh < ga → ga < hi → _) := hid fun W' k lo gh ga hi h1 h2 h3 h4 h5 h6 h7 => markQueryK_calls W' k lo gh ga hi h1 h2 q h3 h4 h5 h6 h7 HOQ.out
  have KEB : Hid (∀ W' u u' TV, ITs W' u TV → ITs W' u' TV → BOk TV → _) := hid fun W' u u' TV h1 h2 h3 => eqTableS_ok W' u u' TV h1 h2 h3.1 h3.2
  have HSQ : Hid (∀ W' lo gh ga, OwnQ W' lo gh ga q → OwnSt W' gh q.head ∧ ShAt W' ga q.atoms.length W'.heap.size (fun i => (q.atoms.getD i noAt).2.length) ∧ lo ≤ gh ∧ gh < ga ∧ ga < W'.heap.size) := hid fun W' lo gh ga h => ⟨h.head, h.atoms.shape, h.lh, h.la, h.atoms.2⟩
  have HQL : Hid (q.head.length = q.head.length) := hid rfl
  clear HQL HD HI HFQ HR HOQ hn0 HRt
  generalize q.name = nm at *
  generalize q.ring = rg at *
  generalize hhn : q.head.length = hn at *
  generalize han : q.atoms.length = an at *
  generalize hdn : ds.length = dn at *
  clear hhn han hdn
  have HSW : Hid (∀ W', (W'.cell? ⟨w.heap.size, 0, none⟩ = some (.slice a0 dn k0) ∧ W'.cell? ⟨w.heap.size + 1, 0, none⟩ = some (.string nm) ∧ W'.cell? ⟨w.heap.size + 1, 1, none⟩ = some (.slice a1 hn k1) ∧ W'.cell? ⟨w.heap.size + 1, 2, none⟩ = some (.int .i64 rg) ∧ W'.cell? ⟨w.heap.size + 1, 3, none⟩ = some (.slice a2 an k2) ∧ Below w2.heap.size w2 W') → Below w2.heap.size w2 W') := hid fun W' h => h.2.2.2.2.2
  have KDW : Hid (∀ W', (W'.cell? ⟨w.heap.size, 0, none⟩ = some (.slice a0 dn k0) ∧ W'.cell? ⟨w.heap.size + 1, 0, none⟩ = some (.string nm) ∧ W'.cell? ⟨w.heap.size + 1, 1, none⟩ = some (.slice a1 hn k1) ∧ W'.cell? ⟨w.heap.size + 1, 2, none⟩ = some (.int .i64 rg) ∧ W'.cell? ⟨w.heap.size + 1, 3, none⟩ = some (.slice a2 an k2) ∧ Below w2.heap.size w2 W') → _) := hid fun W' h => KTD.out W' (HSW.out W' h)
  have KQW : Hid (∀ W', (W'.cell? ⟨w.heap.size, 0, none⟩ = some (.slice a0 dn k0) ∧ W'.cell? ⟨w.heap.size + 1, 0, none⟩ = some (.string nm) ∧ W'.cell? ⟨w.heap.size + 1, 1, none⟩ = some (.slice a1 hn k1) ∧ W'.cell? ⟨w.heap.size + 1, 2, none⟩ = some (.int .i64 rg) ∧ W'.cell? ⟨w.heap.size + 1, 3, none⟩ = some (.slice a2 an k2) ∧ Below w2.heap.size w2 W') → _) := hid fun W' h => KTQ.out W' (HSW.out W' h)
  go_wp2_with fail
  go_region_held3 (fun W' => W'.cell? ⟨w.heap.size, 0, none⟩ = some (.slice a0 dn k0) ∧ W'.cell? ⟨w.heap.size + 1, 0, none⟩ = some (.string nm) ∧ W'.cell? ⟨w.heap.size + 1, 1, none⟩ = some (.slice a1 hn k1) ∧ W'.cell? ⟨w.heap.size + 1, 2, none⟩ = some (.int .i64 rg) ∧ W'.cell? ⟨w.heap.size + 1, 3, none⟩ = some (.slice a2 an k2) ∧ Below w2.heap.size w2 W')
    (first | exact bq5 HA4.out (Below.refl _ _).drew | exact bq5 HA4.out (bt (Below.refl _ _).drew hbA) | exact bq5 HA4.out (bt (Below.refl _ _).drew hbP) | (refine bq5 HA4.out (bt (HSW.out _ ?_) hbA); assumption) | (refine bq5 HA4.out (bt (HSW.out _ ?_) hbP); assumption) | (refine bq5 HA4.out (bt (HSW.out _ ?_) hbK); assumption))
    (first
      | (go_at_call 7; refine (KDW.out _ ?_).mono ?_; assumption; rintro e w' ⟨gA, rfl, hA, hbA, -, -, -⟩)
      | (go_at_call 8; refine (KQW.out _ ?_).mono ?_; assumption; rintro e w' ⟨gh, ga, rfl, hP, hbP, -⟩)
      | (go_at_call 6; refine (KS.out _ _ _ _ (hA.below hbP) (fun a n cap e => by simp only [Value.slice.injEq] at e; omega) hP).mono ?_; rintro e w' ⟨vS, TV, rfl, ⟨hSI, ⟨aS, nS, cS, eS⟩, hSA⟩, hbK⟩; subst eS)
      | (go_at_call 6; refine (KS.out _ _ _ _ hA (fun a n cap e => by simp only [Value.slice.injEq] at e; omega) (hP.below hbA)).mono ?_; rintro e w' ⟨vS, TV, rfl, ⟨hSI, ⟨aS, nS, cS, eS⟩, hSA⟩, hbK⟩; subst eS)
      | fail)
  have hbK' : Below w2.heap.size w2 w' := by
    refine HSW.out _ ?_
    assumption
  have HB5 := hid hbK'
  have HA5 := hid (HA4.out.step hbK')
  have HSI := hid hSI
  have HSA := hid hSA
  have HBW3 : Hid (∀ W', Below w'.heap.size w' W' → Below w2.heap.size w2 W') := hid fun W' h => bt hbK' h
  clear hbA hbP hbK hbK' hA hP KDW KQW HSW hSI hSA
  generalize w' = w3 at *
  have x0 := HA5.out.d
  go_wp2_with fail
  refine (KTD.out w3 HB5.out).mono ?_
  rintro e w4 ⟨gd, rfl, hX, hb4, hgd0, hgd1, hSh⟩
  have B4 : Below w4.heap.size w4 (w4.alloc (.cells #[.slice (some ⟨gd, 0, none⟩) dn dn] 35)) := (Below.refl _ _).alloc (Nat.le_refl _) _
  have X4 : (w4.alloc (.cells #[.slice (some ⟨gd, 0, none⟩) dn dn] 35)).cell? ⟨w4.heap.size, 0, none⟩ = some (.slice (some ⟨gd, 0, none⟩) dn dn) := by rw [World.cell?_alloc_at _ _ _ _ rfl]; rfl
  have S4 : w4.heap.size < (w4.alloc (.cells #[.slice (some ⟨gd, 0, none⟩) dn dn] 35)).heap.size := by simp
  go_upto_region 10 with fail
  obtain ⟨X, hXe⟩ : ∃ X, X = w4.heap.size := ⟨_, rfl⟩
  rw [← hXe] at X4 S4 hgd1 hSh ⊢
  generalize w4.alloc (.cells #[.slice (some ⟨gd, 0, none⟩) dn dn] 35) = W5 at *
  have HB6 := hid (bt HB5.out (bt hb4 B4))
  have H36 := hid (bt hb4 B4)
  have HA6 := hid (HA5.out.step (bt hb4 B4))
  have HXD := hid (hX.below B4)
  have HX4 := hid X4
  have HSh := hid (hSh.kp (Mk.of_below B4))
  clear x0 hb4 B4 X4 hX hXe hSh HB5 HA5
  have y0 := HA6.out.c0
  have y1 := HA6.out.c1
  have y2 := HA6.out.c2
  have y3 := HA6.out.c3
  go_wp2_with fail
  refine (KTQ.out W5 HB6.out).mono ?_
  rintro e w6 ⟨gh, ga, rfl, hY, hb6, hOQ⟩
  have B6 : Below w6.heap.size w6 (w6.alloc (.cells #[.string nm, .slice (some ⟨gh, 0, none⟩) hn hn, .int .i64 rg, .slice (some ⟨ga, 0, none⟩) an an] 39)) := (Below.refl _ _).alloc (Nat.le_refl _) _
  have Y6 := BY.start w6 (.string nm) (.slice (some ⟨gh, 0, none⟩) hn hn) (.int .i64 rg) (.slice (some ⟨ga, 0, none⟩) an an) 39
  have S6 : w6.heap.size < (w6.alloc (.cells #[.string nm, .slice (some ⟨gh, 0, none⟩) hn hn, .int .i64 rg, .slice (some ⟨ga, 0, none⟩) an an] 39)).heap.size := by simp
  go_upto_region 11 with fail
  obtain ⟨Y, hYe⟩ : ∃ Y, Y = w6.heap.size := ⟨_, rfl⟩
  obtain ⟨q1, q2, q3, q4, q5⟩ := HSQ.out w6 _ _ _ hOQ
  have hs56 := hb6.size
  rw [← hYe] at Y6 S6 q2 q5 hs56 ⊢
  generalize w6.alloc (.cells #[.string nm, .slice (some ⟨gh, 0, none⟩) hn hn, .int .i64 rg, .slice (some ⟨ga, 0, none⟩) an an] 39) = W7 at *
  have hb57 := bt hb6 B6
  have HB7 := hid (bt HB6.out hb57)
  have H37 := hid (bt H36.out hb57)
  have HA7 := hid (HA6.out.step hb57)
  have HXD7 := hid (HXD.out.below hb57)
  have HX7 := hid (bcl' hb57 HX4.out)
  have HYQ7 := hid (hY.below B6)
  have HY7 := hid Y6
  have HSh7 := hid (HSh.out.kp (Mk.of_below hb57))
  have HQh : Hid (OwnSt W7 gh q.head ∧ ShAt W7 ga an Y (fun i => (q.atoms.getD i noAt).2.length)) := hid ⟨q1.below B6, fun i hi => (q2 i hi).bel B6⟩
  clear y0 y1 y2 y3 hb6 B6 Y6 hY hYe hb57 HB6 HA6 HXD HX4 HSh H36 q1 q2 hOQ HSQ
  have x0 := HX7.out
  have y0 := HY7.out.c0
  have y1 := HY7.out.c1
  have y2 := HY7.out.c2
  have y3 := HY7.out.c3
  go_wp2_with fail
  refine (KI.out W7 _ _ _ TV HXD7.out HYQ7.out (fun a n cap e => by simp only [Value.slice.injEq] at e; omega) HSA.out).mono ?_
  rintro e W8 ⟨aG, nG, cG, tl, rfl, hTB, hTV, h7, hOk, hb8⟩
  have HOK := hid (And.intro h7 hOk)
  have HBO : Hid (BOk TV) := hid (by rw [← hTV]; exact bok_of h7 hOk)
  have HTB := hid hTB
  have HTE := hid hTV
  have HB8 := hid (bt HB7.out hb8)
  have H38 := hid (bt H37.out hb8)
  have HA8 := hid (HA7.out.step hb8)
  have HXD8 := hid (HXD7.out.below hb8)
  have HX8 := hid (bcl' hb8 HX7.out)
  have HYQ8 := hid (HYQ7.out.below hb8)
  have HY8 := hid (HY7.out.step hb8)
  have HSh8 := hid (HSh7.out.kp (Mk.of_below hb8))
  have HQ8 : Hid (OwnSt W8 gh q.head ∧ ShAt W8 ga an Y (fun i => (q.atoms.getD i noAt).2.length)) := hid ⟨HQh.out.1.below hb8, fun i hi => (HQh.out.2 i hi).bel hb8⟩
  have hs37 := H37.out.size
  have hs38 := hb8.size
  have KE8 := hid (KEB.out W8 (.slice aG nG cG) (.slice aS nS cS) TV (by rw [← hTV]; exact hTB.its) (HSI.out.below H38.out) HBO.out)
  clear x0 y0 y1 y2 y3 hb8 HB7 HA7 HXD7 HX7 HYQ7 HY7 HSh7 HQh H37 hTB hTV h7 hOk
  obtain ⟨B, hB⟩ : ∃ B, B = W7.heap.size := ⟨_, rfl⟩
  rw [← hB] at HTB hs37 hs38 S6
  clear hB
  go_wp2_with fail
  refine KE8.out.mono ?_
  rintro e W9 ⟨rfl, hb9⟩
  have HTB9 := hid (HTB.out.below hb9)
  have H39 := hid (bt H38.out hb9)
  have HB9 := hid (bt HB8.out hb9)
  have HA9 := hid (HA8.out.step hb9)
  have HXD9 := hid (HXD8.out.below hb9)
  have HX9 := hid (bcl' hb9 HX8.out)
  have HYQ9 := hid (HYQ8.out.below hb9)
  have HY9 := hid (HY8.out.step hb9)
  have HSh9 := hid (HSh8.out.kp (Mk.of_below hb9))
  have HQ9 : Hid (OwnSt W9 gh q.head ∧ ShAt W9 ga an Y (fun i => (q.atoms.getD i noAt).2.length)) := hid ⟨HQ8.out.1.below hb9, fun i hi => (HQ8.out.2 i hi).bel hb9⟩
  have hs39 := hb9.size
  clear hb9 KE8 HTB H38 HB8 HA8 HXD8 HX8 HYQ8 HY8 HSh8 HQ8
  have HSW : Hid (∀ W', (W'.cell? ⟨w.heap.size, 0, none⟩ = some (.slice a0 dn k0) ∧ W'.cell? ⟨X, 0, none⟩ = some (.slice (some ⟨gd, 0, none⟩) dn dn) ∧ Below W9.heap.size W9 W') → Below W9.heap.size W9 W') := hid fun W' h => h.2.2
  have KDW : Hid (∀ W', (W'.cell? ⟨w.heap.size, 0, none⟩ = some (.slice a0 dn k0) ∧ W'.cell? ⟨X, 0, none⟩ = some (.slice (some ⟨gd, 0, none⟩) dn dn) ∧ Below W9.heap.size W9 W') → _) := hid fun W' h => KTD.out W' (bt HB9.out (HSW.out W' h))
  have HDW : Hid (∀ W', (W'.cell? ⟨w.heap.size, 0, none⟩ = some (.slice a0 dn k0) ∧ W'.cell? ⟨X, 0, none⟩ = some (.slice (some ⟨gd, 0, none⟩) dn dn) ∧ Below W9.heap.size W9 W') → IRelS W' (.slice (some ⟨gd, 0, none⟩) dn dn) ds) := hid fun W' h => HXD9.out.below (HSW.out W' h)
  go_wp2_with fail
  go_region_held3 (fun W' => W'.cell? ⟨w.heap.size, 0, none⟩ = some (.slice a0 dn k0) ∧ W'.cell? ⟨X, 0, none⟩ = some (.slice (some ⟨gd, 0, none⟩) dn dn) ∧ Below W9.heap.size W9 W')
    (first | exact bq6 HA9.out HX9.out (Below.refl _ _).drew | exact bq6 HA9.out HX9.out (bt (Below.refl _ _).drew hbP) | (refine bq6 HA9.out HX9.out (bt (HSW.out _ ?_) hbP); assumption) | (refine bq6 HA9.out HX9.out (bt (HSW.out _ ?_) hbK); assumption))
    (first
      | (go_at_call 7; refine (KDW.out _ ?_).mono ?_; assumption; rintro e w' ⟨gq, rfl, hP, hbP, -, -, -⟩)
      | (go_at_call 11; refine (KED.out _ _ _ (HDW.out _ ?_) hP).mono ?_; assumption; rintro e w' ⟨rfl, hbK⟩)
      | fail)
  have hbK' : Below W9.heap.size W9 w' := by
    refine HSW.out _ ?_
    assumption
  have HTB10 := hid (HTB9.out.below hbK')
  have H310 := hid (bt H39.out hbK')
  have HB10 := hid (bt HB9.out hbK')
  have HA10 := hid (HA9.out.step hbK')
  have HX10 := hid (bcl' hbK' HX9.out)
  have HYQ10 := hid (HYQ9.out.below hbK')
  have HY10 := hid (HY9.out.step hbK')
  have HSh10 := hid (HSh9.out.kp (Mk.of_below hbK'))
  have HQ10 : Hid (OwnSt w' gh q.head ∧ ShAt w' ga an Y (fun i => (q.atoms.getD i noAt).2.length)) := hid ⟨HQ9.out.1.below hbK', fun i hi => (HQ9.out.2 i hi).bel hbK'⟩
  have hs310 := hbK'.size
  clear hbP hbK hbK' hP KDW HDW HSW HTB9 H39 HB9 HA9 HXD9 HX9 HYQ9 HY9 HSh9 HQ9
  generalize w' = W10 at *
  have HSW : Hid (∀ W', (W'.cell? ⟨w.heap.size + 1, 0, none⟩ = some (.string nm) ∧ W'.cell? ⟨w.heap.size + 1, 1, none⟩ = some (.slice a1 hn k1) ∧ W'.cell? ⟨w.heap.size + 1, 2, none⟩ = some (.int .i64 rg) ∧ W'.cell? ⟨w.heap.size + 1, 3, none⟩ = some (.slice a2 an k2) ∧ W'.cell? ⟨Y, 0, none⟩ = some (.string nm) ∧ W'.cell? ⟨Y, 1, none⟩ = some (.slice (some ⟨gh, 0, none⟩) hn hn) ∧ W'.cell? ⟨Y, 2, none⟩ = some (.int .i64 rg) ∧ W'.cell? ⟨Y, 3, none⟩ = some (.slice (some ⟨ga, 0, none⟩) an an) ∧ Below W10.heap.size W10 W') → Below W10.heap.size W10 W') := hid fun W' h => h.2.2.2.2.2.2.2.2
  have KQW : Hid (∀ W', (W'.cell? ⟨w.heap.size + 1, 0, none⟩ = some (.string nm) ∧ W'.cell? ⟨w.heap.size + 1, 1, none⟩ = some (.slice a1 hn k1) ∧ W'.cell? ⟨w.heap.size + 1, 2, none⟩ = some (.int .i64 rg) ∧ W'.cell? ⟨w.heap.size + 1, 3, none⟩ = some (.slice a2 an k2) ∧ W'.cell? ⟨Y, 0, none⟩ = some (.string nm) ∧ W'.cell? ⟨Y, 1, none⟩ = some (.slice (some ⟨gh, 0, none⟩) hn hn) ∧ W'.cell? ⟨Y, 2, none⟩ = some (.int .i64 rg) ∧ W'.cell? ⟨Y, 3, none⟩ = some (.slice (some ⟨ga, 0, none⟩) an an) ∧ Below W10.heap.size W10 W') → _) := hid fun W' h => KTQ.out W' (bt HB10.out (HSW.out W' h))
  have HQW : Hid (∀ W', (W'.cell? ⟨w.heap.size + 1, 0, none⟩ = some (.string nm) ∧ W'.cell? ⟨w.heap.size + 1, 1, none⟩ = some (.slice a1 hn k1) ∧ W'.cell? ⟨w.heap.size + 1, 2, none⟩ = some (.int .i64 rg) ∧ W'.cell? ⟨w.heap.size + 1, 3, none⟩ = some (.slice a2 an k2) ∧ W'.cell? ⟨Y, 0, none⟩ = some (.string nm) ∧ W'.cell? ⟨Y, 1, none⟩ = some (.slice (some ⟨gh, 0, none⟩) hn hn) ∧ W'.cell? ⟨Y, 2, none⟩ = some (.int .i64 rg) ∧ W'.cell? ⟨Y, 3, none⟩ = some (.slice (some ⟨ga, 0, none⟩) an an) ∧ Below W10.heap.size W10 W') → IQ W' (.slice (some ⟨gh, 0, none⟩) hn hn) (.slice (some ⟨ga, 0, none⟩) an an) q) := hid fun W' h => HYQ10.out.below (HSW.out W' h)
  go_wp2_with fail
  go_region_held3 (fun W' => W'.cell? ⟨w.heap.size + 1, 0, none⟩ = some (.string nm) ∧ W'.cell? ⟨w.heap.size + 1, 1, none⟩ = some (.slice a1 hn k1) ∧ W'.cell? ⟨w.heap.size + 1, 2, none⟩ = some (.int .i64 rg) ∧ W'.cell? ⟨w.heap.size + 1, 3, none⟩ = some (.slice a2 an k2) ∧ W'.cell? ⟨Y, 0, none⟩ = some (.string nm) ∧ W'.cell? ⟨Y, 1, none⟩ = some (.slice (some ⟨gh, 0, none⟩) hn hn) ∧ W'.cell? ⟨Y, 2, none⟩ = some (.int .i64 rg) ∧ W'.cell? ⟨Y, 3, none⟩ = some (.slice (some ⟨ga, 0, none⟩) an an) ∧ Below W10.heap.size W10 W')
    (first | exact bq8 HA10.out HY10.out (Below.refl _ _).drew | exact bq8 HA10.out HY10.out (bt (Below.refl _ _).drew hbP) | (refine bq8 HA10.out HY10.out (bt (HSW.out _ ?_) hbP); assumption) | (refine bq8 HA10.out HY10.out (bt (HSW.out _ ?_) hbK); assumption))
    (first
      | (go_at_call 8; refine (KQW.out _ ?_).mono ?_; assumption; rintro e w' ⟨q0, q1, rfl, hP, hbP, -⟩)
      | (go_at_call 12; refine (KEQ.out _ _ _ _ _ (HQW.out _ ?_) hP).mono ?_; assumption; rintro e w' ⟨rfl, hbK⟩)
      | fail)
  have hbK' : Below W10.heap.size W10 w' := by
    refine HSW.out _ ?_
    assumption
  have HTB11 := hid (HTB10.out.below hbK')
  have H311 := hid (bt H310.out hbK')
  have x0 := bcl' hbK' HX10.out
  have HY11 := hid (HY10.out.step hbK')
  have HQ11 : Hid (OwnSt w' gh q.head ∧ ShAt w' ga an Y (fun i => (q.atoms.getD i noAt).2.length)) := hid ⟨HQ10.out.1.below hbK', fun i hi => (HQ10.out.2 i hi).bel hbK'⟩
  have hs311 := hbK'.size
  have KM1 := hid (KMD.out w' gd X gd dn (HSh10.out.kp (Mk.of_below hbK')) (Nat.le_refl _) hgd1)
  have HB11 := hid (bt HB10.out hbK')
  clear hbP hbK hbK' hP KQW HQW HSW HTB10 H310 HA10 HX10 HYQ10 HY10 HSh10 HQ10 KMD HB10
  generalize w' = W11 at *
  -- the arguments are marked
  go_wp2_with fail
  refine KM1.out.mono ?_
  rintro e W12 ⟨z1, rfl, hz0, hz1, hm12⟩
  have hf12 := hm12.fr
  have HTB12 := hid (HTB11.out.move fun g h1 h2 => hf12.block g h2 (Or.inr (by omega)))
  have H312 := hid (H311.out.trans (hf12.belN hgd0 H311.out.size))
  have HY12 := hid (HY11.out.mv (hf12.block Y (by omega) (Or.inr (by omega))))
  have KM2 := hid (KMQ.out W12 z1 W5.heap.size gh ga Y hz0 (by omega) (HQ11.out.1.move (hf12.block gh HQ11.out.1.lt (Or.inr (by omega))) hf12.size) (fun i hi => (HQ11.out.2 i hi).mv (fun b h1 h2 => hf12.block b h2 (Or.inr (by omega))) hf12.size) q3 q4 q5)
  have hs312 := hf12.size
  clear hm12 hf12 KM1 x0 HTB11 H311 HY11 HQ11 KMQ
  have y0 := HY12.out.c0
  have y1 := HY12.out.c1
  have y2 := HY12.out.c2
  have y3 := HY12.out.c3
  go_wp2_with fail
  refine KM2.out.mono ?_
  rintro e W13 ⟨z2, rfl, hf13⟩
  have HTB13 := hid (HTB12.out.move fun g h1 h2 => hf13.block g h2 (Or.inr (by omega)))
  have hle3 : w3.heap.size ≤ W5.heap.size := by omega
  have H313 := hid (H312.out.trans (hf13.belN hle3 H312.out.size))
  have KE13 := hid (KEB.out W13 (.slice aG nG cG) (.slice aS nS cS) TV (by rw [← HTE.out]; exact HTB13.out.its) (HSI.out.below H313.out) HBO.out)
  have g2' : ¬ ((z2 : Int) < 0) := by omega
  clear hf13 KM2 y0 y1 y2 y3 HTB12 H312 HY12
  go_wp2_with fail
  refine KE13.out.mono ?_
  rintro e W14 ⟨rfl, hb14⟩
  have HTB14 := hid (HTB13.out.below hb14)
  have H314 := hid (bt H313.out hb14)
  have KT := hid (markTableS_calls W14 B _ tl HTB14.out (Nat.le_trans HOK.out.1 (by omega)) HOK.out.2)
  clear hb14 KE13 HTB13 H313
  -- the answer is marked
  go_wp2_with fail
  refine KT.out.mono ?_
  rintro e W15 ⟨rfl, hM⟩
  have KH := hid (heldTableS_calls W14 W15 B _ tl HTB14.out (Nat.le_trans HOK.out.1 (by omega)) HOK.out.2 hM)
  have H315 := hid (H314.out.trans (hM.bel.mono hs37))
  obtain ⟨m, hm⟩ : ∃ m : Nat, m = 1 + lenB (tl.flatMap flP) (tl.flatMap flP).length := ⟨_, rfl⟩
  rw [← hm] at KH ⊢
  have g3 : ¬ ((m : Int) < 0) := by omega
  have g4 : ((m : Int) != (m : Int)) = false := by simp
  clear hM KT HTB14 H314 hm HOK
  go_wp2_with fail
  refine KH.out.mono ?_
  rintro e W16 ⟨rfl, hw16⟩
  subst W16
  clear KH
  have hs23 := HB11.out.size
  have HB15 : Hid (Below w2.heap.size w2 W15) := hid (HBW3.out W15 H315.out)
  have HA15 := hid (HA4.out.step HB15.out)
  have HSW : Hid (∀ W', (W'.cell? ⟨w.heap.size, 0, none⟩ = some (.slice a0 dn k0) ∧ W'.cell? ⟨w.heap.size + 1, 0, none⟩ = some (.string nm) ∧ W'.cell? ⟨w.heap.size + 1, 1, none⟩ = some (.slice a1 hn k1) ∧ W'.cell? ⟨w.heap.size + 1, 2, none⟩ = some (.int .i64 rg) ∧ W'.cell? ⟨w.heap.size + 1, 3, none⟩ = some (.slice a2 an k2) ∧ Below W15.heap.size W15 W') → Below W15.heap.size W15 W') := hid fun W' h => h.2.2.2.2.2
  have KDW : Hid (∀ W', (W'.cell? ⟨w.heap.size, 0, none⟩ = some (.slice a0 dn k0) ∧ W'.cell? ⟨w.heap.size + 1, 0, none⟩ = some (.string nm) ∧ W'.cell? ⟨w.heap.size + 1, 1, none⟩ = some (.slice a1 hn k1) ∧ W'.cell? ⟨w.heap.size + 1, 2, none⟩ = some (.int .i64 rg) ∧ W'.cell? ⟨w.heap.size + 1, 3, none⟩ = some (.slice a2 an k2) ∧ Below W15.heap.size W15 W') → _) := hid fun W' h => KTD.out W' (bt HB15.out (HSW.out W' h))
  have KQW : Hid (∀ W', (W'.cell? ⟨w.heap.size, 0, none⟩ = some (.slice a0 dn k0) ∧ W'.cell? ⟨w.heap.size + 1, 0, none⟩ = some (.string nm) ∧ W'.cell? ⟨w.heap.size + 1, 1, none⟩ = some (.slice a1 hn k1) ∧ W'.cell? ⟨w.heap.size + 1, 2, none⟩ = some (.int .i64 rg) ∧ W'.cell? ⟨w.heap.size + 1, 3, none⟩ = some (.slice a2 an k2) ∧ Below W15.heap.size W15 W') → _) := hid fun W' h => KTQ.out W' (bt HB15.out (HSW.out W' h))
  go_wp2_with fail
  go_region_held3 (fun W' => W'.cell? ⟨w.heap.size, 0, none⟩ = some (.slice a0 dn k0) ∧ W'.cell? ⟨w.heap.size + 1, 0, none⟩ = some (.string nm) ∧ W'.cell? ⟨w.heap.size + 1, 1, none⟩ = some (.slice a1 hn k1) ∧ W'.cell? ⟨w.heap.size + 1, 2, none⟩ = some (.int .i64 rg) ∧ W'.cell? ⟨w.heap.size + 1, 3, none⟩ = some (.slice a2 an k2) ∧ Below W15.heap.size W15 W')
    (first | exact bq5 HA15.out (Below.refl _ _).drew | exact bq5 HA15.out (bt (Below.refl _ _).drew hbA) | exact bq5 HA15.out (bt (Below.refl _ _).drew hbP) | (refine bq5 HA15.out (bt (HSW.out _ ?_) hbA); assumption) | (refine bq5 HA15.out (bt (HSW.out _ ?_) hbP); assumption) | (refine bq5 HA15.out (bt (HSW.out _ ?_) hbK); assumption))
    (first
      | (go_at_call 7; refine (KDW.out _ ?_).mono ?_; assumption; rintro e w' ⟨gA, rfl, hA, hbA, -, -, -⟩)
      | (go_at_call 8; refine (KQW.out _ ?_).mono ?_; assumption; rintro e w' ⟨gh', ga', rfl, hP, hbP, -⟩)
      | (go_at_call 9; refine (KI.out _ _ _ _ TV (hA.below hbP) hP (fun a n cap e => by simp only [Value.slice.injEq] at e; omega) HSA.out).mono ?_; rintro e w' ⟨aH, nH, cH, th, rfl, hTH, hTh, -, -, hbK⟩)
      | (go_at_call 9; refine (KI.out _ _ _ _ TV hA (hP.below hbA) (fun a n cap e => by simp only [Value.slice.injEq] at e; omega) HSA.out).mono ?_; rintro e w' ⟨aH, nH, cH, th, rfl, hTH, hTh, -, -, hbK⟩)
      | fail)
  have hbK' : Below W15.heap.size W15 w' := by
    refine HSW.out _ ?_
    assumption
  have KE17 := hid (KEB.out w' (.slice aH nH cH) (.slice aS nS cS) TV (by rw [← hTh]; exact hTH.its) (HSI.out.below (bt H315.out hbK')) HBO.out)
  have HB17 := hid (bt HB15.out hbK')
  clear hbA hbP hbK hbK' hA hP hTH hTh KDW KQW HSW
  generalize w' = W17 at *
  go_wp2_with fail
  refine KE17.out.mono ?_
  rintro e W18 ⟨rfl, hb18⟩
  have HB18 := hid (bt HB4.out (bt HB17.out hb18))
  clear hb18 KE17
  go_wp2_with fail
  go_ret
  exact ⟨rfl, HB18.out⟩

end Go.Proofs.YtegcpplkcahkhaaGreat
