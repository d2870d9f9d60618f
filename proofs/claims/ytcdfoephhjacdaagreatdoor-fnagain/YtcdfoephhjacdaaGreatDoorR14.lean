import Derived.Test.YtcdfoephhjacdaaGreatDoorR06
import Derived.Test.YtcdfoephhjacdaaGreatDoorR09
import Derived.Test.YtcdfoephhjacdaaGreatDoorR12
import Derived.Test.YtcdfoephhjacdaaGreatDoorR13
/-
  A drawn query, and the query of DrawChecked: functions of the code; it has a good shape, and its text is short: plain mathematics.
-/
namespace Go.Proofs.YtcdfoephhjacdaaGreatDoor
open Go.RowKit

section
variable (L : Nat → Int) (n : Nat)
/-- the head drawn over the first i variables -/
def hdQ (vs : List ByteArray) : Nat → CSt → List ByteArray × CSt
  | 0, s => ([], s)
  | i + 1, s => (if (pkF L n 5 (hdQ vs i s).2).1 ≤ 2 then vs.getD i noB :: (hdQ vs i s).1 else (hdQ vs i s).1, (pkF L n 5 (hdQ vs i s).2).2)
/-- the ring's atoms, how many atoms follow, where -/
def preQ (ds : List RelV) (cnt : Nat) (s : CSt) : List AtomV × Nat × CSt :=
  if (pkF L n 4 s).1 = 0 then
    let m := 3 + (pkF L n 2 (pkF L n 4 s).2).1
    let R := ringQ L n (ds.getD 0 noRel).name m m (pkF L n 2 (pkF L n 4 s).2).2
    (R.1, (pkF L n 2 R.2).1, (pkF L n 2 R.2).2)
  else ([], cnt, (pkF L n 4 s).2)
def kQ (s : CSt) : Nat := 2 + (pkF L n 4 (pkF L n 4 s).2).1
def cQ (s : CSt) : Nat := 1 + (pkF L n 4 (pkF L n 4 (pkF L n 4 s).2).2).1
def sQ (s : CSt) : CSt := (pkF L n 4 (pkF L n 4 (pkF L n 4 s).2).2).2
def atsQ (ds : List RelV) (s : CSt) : List AtomV × CSt :=
  let p := preQ L n ds (cQ L n s) (sQ L n s)
  let A := atomsQ L n ds (kQ L n s) p.2.1 p.2.1 [] p.2.2
  (p.1 ++ A.1, A.2.2)
/-- the drawn query -/
def drawQ (ds : List RelV) (s : CSt) : QV × CSt :=
  let a := atsQ L n ds s
  let H := hdQ L n (VL a.1 a.1.length) (VL a.1 a.1.length).length a.2
  (⟨⟨#[113]⟩, H.1, ((pkF L n 4 s).1 : Int), a.1⟩, H.2)
end
def rwsQ (ds : List RelV) (nm : ByteArray) : Nat := (ds.getD (ds.findIdx fun r => r.name.toList == nm.toList) noRel).rows.length
def prodQ (ds : List RelV) (ats : List AtomV) : Nat → Nat
  | 0 => 1
  | i + 1 => prodQ ds ats i * (rwsQ ds (ats.getD i noAt).1 + 1)
def cutK (ds : List RelV) (ats : List AtomV) : Nat := (List.range ats.length).findIdx fun i => decide (30000 < prodQ ds ats (i + 1))
/-- what DrawChecked makes of the drawn query -/
def chkQ (ds : List RelV) (q : QV) : QV :=
  ⟨q.name, q.head.filter (fun h => hasT (VL (q.atoms.take (cutK ds q.atoms)) (q.atoms.take (cutK ds q.atoms)).length) h), q.ring, q.atoms.take (cutK ds q.atoms)⟩

theorem addV_mem {L : List ByteArray} {t : TermV} {x : ByteArray} (h : x ∈ addV L t) : x ∈ L ∨ (x = t.1 ∧ t.1.toList.isEmpty = false) := by
  unfold addV at h
  split at h
  · exact Or.inl h
  · rename_i hc
    rw [List.mem_append, List.mem_singleton] at h
    rcases h with h | h
    · exact Or.inl h
    · refine Or.inr ⟨h, ?_⟩
      rw [Bool.or_eq_true] at hc
      exact Bool.eq_false_iff.2 fun e => hc (Or.inl e)
theorem fold_mem : ∀ (ts : List TermV) (L : List ByteArray) {x : ByteArray}, x ∈ ts.foldl addV L → x ∈ L ∨ ∃ t ∈ ts, x = t.1 ∧ t.1.toList.isEmpty = false
  | [], L, x, h => Or.inl h
  | t :: ts, L, x, h => by
    rcases fold_mem ts (addV L t) h with h1 | ⟨t', ht, h2⟩
    · rcases addV_mem h1 with h3 | h3
      · exact Or.inl h3
      · exact Or.inr ⟨t, List.mem_cons_self .., h3⟩
    · exact Or.inr ⟨t', List.mem_cons_of_mem _ ht, h2⟩
theorem vl_mem : ∀ (xs : List AtomV) (L : List ByteArray) {x : ByteArray}, x ∈ xs.foldl (fun L a => a.2.foldl addV L) L → x ∈ L ∨ ∃ a ∈ xs, ∃ t ∈ a.2, x = t.1 ∧ t.1.toList.isEmpty = false
  | [], L, x, h => Or.inl h
  | a :: xs, L, x, h => by
    rcases vl_mem xs _ h with h1 | ⟨a', ha, h2⟩
    · rcases fold_mem a.2 L h1 with h3 | ⟨t, ht, h3⟩
      · exact Or.inl h3
      · exact Or.inr ⟨a, List.mem_cons_self .., t, ht, h3⟩
    · exact Or.inr ⟨a', List.mem_cons_of_mem _ ha, h2⟩
theorem vl_name {ats : List AtomV} (h : ∀ a ∈ ats, atomB a = true) {i : Nat} : ∀ x ∈ VL ats i, nameB x = true := fun x hx => by
  rcases vl_mem _ _ hx with h1 | ⟨a, ha, t, ht, rfl, he⟩
  · cases h1
  · have hb := h a (List.mem_of_mem_take ha)
    unfold atomB at hb
    simp only [Bool.and_eq_true, List.all_eq_true] at hb
    have := hb.2 t ht
    unfold termB at this
    rw [if_neg (by rw [he]; decide), Bool.and_eq_true] at this
    exact this.1
theorem fold_len : ∀ (ts : List TermV) (L : List ByteArray), (ts.foldl addV L).length ≤ L.length + ts.length
  | [], L => Nat.le_refl _
  | t :: ts, L => by
    have h1 := fold_len ts (addV L t)
    have h2 := addV_len L t
    show (ts.foldl addV (addV L t)).length ≤ _
    rw [List.length_cons]
    omega
theorem vl_len : ∀ (xs : List AtomV) (L : List ByteArray), (∀ a ∈ xs, a.2.length ≤ 3) → (xs.foldl (fun L a => a.2.foldl addV L) L).length ≤ L.length + 3 * xs.length
  | [], L, _ => Nat.le_refl _
  | a :: xs, L, h => by
    have h1 := vl_len xs (a.2.foldl addV L) fun b hb => h b (List.mem_cons_of_mem _ hb)
    have h2 := fold_len a.2 L
    have h3 := h a (List.mem_cons_self ..)
    show (xs.foldl (fun L a => a.2.foldl addV L) (a.2.foldl addV L)).length ≤ _
    rw [List.length_cons]
    omega
theorem VL_few {ats : List AtomV} (h : ∀ a ∈ ats, a.2.length ≤ 3) (i : Nat) : (VL ats i).length ≤ 3 * ats.length := by
  have h1 := vl_len (ats.take i) [] fun a ha => h a (List.mem_of_mem_take ha)
  have h2 : (ats.take i).length ≤ ats.length := by rw [List.length_take]; omega
  unfold VL
  simp only [List.length_nil] at h1
  omega
theorem hdQ_ok (L : Nat → Int) (n : Nat) (vs : List ByteArray) (s : CSt) : ∀ i, i ≤ vs.length → (hdQ L n vs i s).1.length ≤ i ∧ ∀ x ∈ (hdQ L n vs i s).1, x ∈ vs
  | 0, _ => ⟨Nat.le_refl _, fun x hx => by cases hx⟩
  | i + 1, hi => by
    obtain ⟨h1, h2⟩ := hdQ_ok L n vs s i (by omega)
    rw [hdQ]
    dsimp only
    have hm : vs.getD i noB ∈ vs := by rw [List.getD_eq_getElem?_getD, List.getElem?_eq_getElem (by omega)]; exact List.getElem_mem _
    split
    · refine ⟨by rw [List.length_cons]; omega, fun x hx => ?_⟩
      rcases List.mem_cons.1 hx with rfl | hx
      · exact hm
      · exact h2 x hx
    · exact ⟨by omega, h2⟩
/-- right atoms, few -/
structure AtsG (xs : List AtomV) : Prop where
  pos : 1 ≤ xs.length
  few : xs.length ≤ 5
  ok : ∀ a ∈ xs, atomB a = true ∧ a.2.length ≤ 3
theorem atsQ_ok {m : Nat} {ds : List RelV} (hd : DatG m ds) (hm : 0 < m) (L : Nat → Int) (n : Nat) (s : CSt) : AtsG (atsQ L n ds s).1 := by
  have hk : 0 < kQ L n s ∧ kQ L n s ≤ 6 := by unfold kQ; have := pk_lt L n 4 (pkF L n 4 s).2 (by omega); omega
  have hc : 1 ≤ cQ L n s ∧ cQ L n s ≤ 4 := by unfold cQ; have := pk_lt L n 4 (pkF L n 4 (pkF L n 4 s).2).2 (by omega); omega
  have hu : Usd [] := fun x hx => by cases hx
  unfold atsQ
  dsimp only
  have hA := atomsQ_ok hd hm L n (kQ L n s) (preQ L n ds (cQ L n s) (sQ L n s)).2.1 [] (preQ L n ds (cQ L n s) (sQ L n s)).2.2 hk.1 hk.2 hu (preQ L n ds (cQ L n s) (sQ L n s)).2.1
  have hp : ((preQ L n ds (cQ L n s) (sQ L n s)).1.length + (preQ L n ds (cQ L n s) (sQ L n s)).2.1 ≤ 5 ∧ 1 ≤ (preQ L n ds (cQ L n s) (sQ L n s)).1.length + (preQ L n ds (cQ L n s) (sQ L n s)).2.1) ∧ ∀ a ∈ (preQ L n ds (cQ L n s) (sQ L n s)).1, atomB a = true ∧ a.2.length ≤ 3 := by
    unfold preQ
    split
    · have hz := pk_lt L n 2 (pkF L n 4 (sQ L n s)).2 (by omega)
      have hr := ringQ_ok L n (ds.getD 0 noRel).name (rel_parts (hd.rel 0 hm)).1 (3 + (pkF L n 2 (pkF L n 4 (sQ L n s)).2).1) (by omega) (by omega) (pkF L n 2 (pkF L n 4 (sQ L n s)).2).2 _ (Nat.le_refl _)
      have hz2 := pk_lt L n 2 (ringQ L n (ds.getD 0 noRel).name (3 + (pkF L n 2 (pkF L n 4 (sQ L n s)).2).1) (3 + (pkF L n 2 (pkF L n 4 (sQ L n s)).2).1) (pkF L n 2 (pkF L n 4 (sQ L n s)).2).2).2 (by omega)
      dsimp only
      exact ⟨⟨by rw [hr.1]; omega, by rw [hr.1]; omega⟩, hr.2⟩
    · exact ⟨⟨by simp only [List.length_nil]; omega, by simp only [List.length_nil]; omega⟩, fun a ha => by cases ha⟩
  generalize preQ L n ds (cQ L n s) (sQ L n s) = p at *
  refine ⟨by rw [List.length_append, hA.1]; exact hp.1.2, by rw [List.length_append, hA.1]; exact hp.1.1, fun a ha => ?_⟩
  rcases List.mem_append.1 ha with ha | ha
  · exact hp.2 a ha
  · exact hA.2.1 a ha
theorem rwsQ_le {m : Nat} {ds : List RelV} (hd : DatG m ds) (nm : ByteArray) : rwsQ ds nm ≤ 14 := by
  unfold rwsQ
  by_cases h : ds.findIdx (fun r => r.name.toList == nm.toList) < ds.length
  · exact hd.few _ (by have := hd.len; omega)
  · rw [List.getD_eq_getElem?_getD, List.getElem?_eq_none (by omega)]
    exact Nat.zero_le _
theorem cutK_ok {m : Nat} {ds : List RelV} (hd : DatG m ds) {ats : List AtomV} (h : 1 ≤ ats.length) : 1 ≤ cutK ds ats ∧ cutK ds ats ≤ ats.length := by
  refine ⟨?_, ?_⟩
  · refine Nat.pos_of_ne_zero fun e => ?_
    unfold cutK at e
    rw [List.findIdx_eq (by rw [List.length_range]; omega)] at e
    have h1 := e.1
    rw [List.getElem_range, decide_eq_true_eq] at h1
    have h2 : prodQ ds ats (0 + 1) = 1 * (rwsQ ds (ats.getD 0 noAt).1 + 1) := rfl
    rw [h2] at h1
    have h3 := rwsQ_le hd (ats.getD 0 noAt).1
    omega
  · have := List.findIdx_le_length (xs := List.range ats.length) (p := fun i => decide (30000 < prodQ ds ats (i + 1)))
    rw [List.length_range] at this
    exact this
theorem chk_of {m : Nat} {ds : List RelV} (hd : DatG m ds) {q : QV} (hA : AtsG q.atoms) (h1 : nameB q.name = true) (h2 : 0 ≤ q.ring) (h3 : q.ring ≤ 3) (h4 : ∀ x ∈ q.head, nameB x = true) (h5 : q.head.length ≤ 15) : shapeB (chkQ ds q) = true ∧ AtsG (chkQ ds q).atoms ∧ (chkQ ds q).head.length ≤ 15 := by
  have hc := cutK_ok hd (ats := q.atoms) hA.pos
  have hG : AtsG (q.atoms.take (cutK ds q.atoms)) := ⟨by rw [List.length_take]; have := hA.pos; omega, by rw [List.length_take]; have := hA.few; omega, fun a ha => hA.ok a (List.mem_of_mem_take ha)⟩
  refine ⟨?_, hG, ?_⟩
  · unfold shapeB
    simp only [Bool.and_eq_true, decide_eq_true_eq, List.all_eq_true]
    exact ⟨⟨⟨⟨⟨h1, h2⟩, h3⟩, hG.pos⟩, fun x hx => h4 x (List.mem_filter.1 hx).1⟩, fun a ha => (hG.ok a ha).1⟩
  · exact Nat.le_trans (List.length_filter_le _ _) h5
theorem drawQ_parts (L : Nat → Int) (n : Nat) (ds : List RelV) (s : CSt) : (drawQ L n ds s).1.atoms = (atsQ L n ds s).1 ∧ (drawQ L n ds s).1.name = ⟨#[113]⟩ ∧ (drawQ L n ds s).1.ring = ((pkF L n 4 s).1 : Int) ∧ (drawQ L n ds s).1.head = (hdQ L n (VL (atsQ L n ds s).1 (atsQ L n ds s).1.length) (VL (atsQ L n ds s).1 (atsQ L n ds s).1.length).length (atsQ L n ds s).2).1 := by
  refine ⟨?_, ?_, ?_, ?_⟩ <;> (unfold drawQ; dsimp only)
theorem chkQ_ok {m : Nat} {ds : List RelV} (hd : DatG m ds) (hm : 0 < m) (L : Nat → Int) (n : Nat) (s : CSt) : shapeB (chkQ ds (drawQ L n ds s).1) = true ∧ AtsG (chkQ ds (drawQ L n ds s).1).atoms ∧ (chkQ ds (drawQ L n ds s).1).head.length ≤ 15 := by
  have hA := atsQ_ok hd hm L n s
  obtain ⟨e1, e2, e3, e4⟩ := drawQ_parts L n ds s
  have hz := pk_lt L n 4 s (by omega)
  have hH := hdQ_ok L n (VL (atsQ L n ds s).1 (atsQ L n ds s).1.length) (atsQ L n ds s).2 _ (Nat.le_refl _)
  rw [← e4] at hH
  generalize (drawQ L n ds s).1 = q at *
  generalize (atsQ L n ds s).1 = xs at *
  have hV := vl_name (ats := xs) (i := xs.length) fun a ha => (hA.ok a ha).1
  have hF := VL_few (ats := xs) (fun a ha => (hA.ok a ha).2) xs.length
  refine chk_of hd (by rw [e1]; exact hA) (by rw [e2]; decide) (by rw [e3]; omega) (by rw [e3]; omega) (fun x hx => hV x (hH.2 x hx)) ?_
  have := hH.1
  have := hA.few
  omega
theorem short_query {q : QV} (h : shapeB q = true) (ha : AtsG q.atoms) (hh : q.head.length ≤ 15) : (prqT q).length ≤ 3000 := by
  have h0 := h
  unfold shapeB at h
  simp only [Bool.and_eq_true, decide_eq_true_eq, List.all_eq_true] at h
  obtain ⟨⟨⟨⟨⟨h1, h2⟩, h3⟩, h4⟩, h5⟩, h6⟩ := h
  have e1 := name_len h1
  have e2 := jn_len 30 (q.head.map bts) fun x hx => by
    obtain ⟨t, ht, rfl⟩ := List.mem_map.1 hx
    rw [bts_len]
    exact name_len (h5 t ht)
  rw [List.length_map] at e2
  have e3 := jn_len 128 (q.atoms.map atomT) fun x hx => by
    obtain ⟨a, ht, rfl⟩ := List.mem_map.1 hx
    obtain ⟨g1, g2⟩ := ha.ok a ht
    have g3 := g1
    unfold atomB at g3
    simp only [Bool.and_eq_true, decide_eq_true_eq, List.all_eq_true] at g3
    have g4 := jn_len 30 (a.2.map termT) fun x hx => by
      obtain ⟨t, ht, rfl⟩ := List.mem_map.1 hx
      exact termT_len (g3.2 t ht)
    rw [List.length_map] at g4
    have g5 := name_len g3.1.1
    unfold atomT
    simp only [List.length_append, bts_len, List.length_cons, List.length_nil]
    omega
  rw [List.length_map] at e3
  have e4 := ha.few
  have e5 : (headT q).length ≤ 480 + 32 := by
    unfold headT
    rw [List.length_append]
    split
    · have : (bts (ringB q.ring)).length ≤ 30 := by
        rw [bts_len]
        unfold ringB
        split
        · decide
        · split
          · decide
          · split <;> decide
      simp only [List.length_append, List.length_cons, List.length_nil]
      omega
    · simp only [List.length_nil]
      omega
  unfold prqT
  rw [if_pos h0]
  simp only [List.length_append, bts_len, List.length_cons, List.length_nil]
  omega

end Go.Proofs.YtcdfoephhjacdaaGreatDoor

/-
  Right queries: what l3Vars wants of them.
-/
namespace Go.Proofs.YtcdfoephhjacdaaGreatDoor
open Go.RowKit

theorem okq_ofO {q : QV} (h : shapeB q = true) (ha : AtsG q.atoms) (hh : q.head.length ≤ 15) : OkQ q := by
  unfold shapeB at h
  simp only [Bool.and_eq_true, decide_eq_true_eq, List.all_eq_true] at h
  obtain ⟨⟨⟨⟨⟨h1, h2⟩, h3⟩, h4⟩, h5⟩, h6⟩ := h
  have hm : ∀ j, j < q.atoms.length → q.atoms.getD j noAt ∈ q.atoms := fun j hj => by rw [List.getD_eq_getElem?_getD, List.getElem?_eq_getElem hj]; exact List.getElem_mem hj
  refine ⟨by have := name_len h1; omega, by omega, fun j hj => ?_, by have := ha.few; omega, fun j hj => ?_⟩
  · have : q.head.getD j noTx ∈ q.head := by rw [List.getD_eq_getElem?_getD, List.getElem?_eq_getElem hj]; exact List.getElem_mem hj
    have := name_len (h5 _ this)
    omega
  · obtain ⟨g1, g2⟩ := ha.ok _ (hm j hj)
    unfold atomB at g1
    simp only [Bool.and_eq_true, decide_eq_true_eq, List.all_eq_true] at g1
    refine ⟨by have := name_len g1.1.1; omega, by omega, fun k hk => ?_⟩
    have hk2 : (q.atoms.getD j noAt).2.getD k noTm ∈ (q.atoms.getD j noAt).2 := by rw [List.getD_eq_getElem?_getD (l := (q.atoms.getD j noAt).2), List.getElem?_eq_getElem hk]; exact List.getElem_mem hk
    have := g1.2 _ hk2
    unfold termB at this
    split at this
    · rename_i he
      have : ((q.atoms.getD j noAt).2.getD k noTm).1.size = 0 := by
        rw [ByteArray.toList_eq] at he
        have h9 := List.isEmpty_iff.1 he
        have h8 : ((q.atoms.getD j noAt).2.getD k noTm).1.data.toList.length = ((q.atoms.getD j noAt).2.getD k noTm).1.size := by simp
        rw [h9] at h8
        simpa using h8.symm
      omega
    · rw [Bool.and_eq_true] at this
      have := name_len this.1
      omega
theorem okq_genO {q : QV} (h1 : q.name.size ≤ 1048576) (h5 : ∀ x ∈ q.head, nameB x = true) (ha : AtsG q.atoms) (hh : q.head.length ≤ 15) : OkQ q := by
  have hs : shapeB ⟨⟨#[113]⟩, q.head, 0, q.atoms⟩ = true := by
    unfold shapeB
    simp only [Bool.and_eq_true, decide_eq_true_eq, List.all_eq_true]
    exact ⟨⟨⟨⟨⟨by decide, by decide⟩, by decide⟩, ha.pos⟩, h5⟩, fun a h => (ha.ok a h).1⟩
  have := okq_ofO hs ha hh
  exact ⟨h1, this.len, this.head, this.alen, this.atoms⟩
theorem boxq_cellsO {W : World} {p : Nat} {x0 x1 x2 x3 : Value} {t : TypeId} (h : W.heap[p]? = some (.cells #[x0, x1, x2, x3] t (0, 0))) : W.cell? ⟨p, 0, none⟩ = some x0 ∧ W.cell? ⟨p, 1, none⟩ = some x1 ∧ W.cell? ⟨p, 2, none⟩ = some x2 ∧ W.cell? ⟨p, 3, none⟩ = some x3 ∧ W.frozen? ⟨p, 0, none⟩ = false ∧ W.frozen? ⟨p, 1, none⟩ = false ∧ W.frozen? ⟨p, 2, none⟩ = false ∧ W.frozen? ⟨p, 3, none⟩ = false := by
  have hf : ∀ o, W.frozen? ⟨p, o, none⟩ = false := fun o => by unfold World.frozen?; rw [show W.heap[p]? = _ from h]; simp
  refine ⟨?_, ?_, ?_, ?_, hf 0, hf 1, hf 2, hf 3⟩ <;> (rw [cell_of_row _ _ _ _ _ _ h]; rfl)

end Go.Proofs.YtcdfoephhjacdaaGreatDoor

/-
  The text of data.
-/
namespace Go.Proofs.YtcdfoephhjacdaaGreatDoor

def nmL (r : RelV) : List UInt8 := r.name.data.toList
def lineR (r : RelV) : List UInt8 := [114, 101, 108, 32] ++ nmL r ++ [32] ++ Lib.itoa r.ar ++ [10]
def lineW (r : RelV) (i : Nat) : List UInt8 := nmL r ++ [32] ++ rowT (r.rows.getD i []) ++ [32] ++ Lib.itoa (r.ws.getD i 0) ++ [10]
def relT (r : RelV) : Nat → List UInt8
  | 0 => lineR r
  | k + 1 => relT r k ++ lineW r k
def datT (ds : List RelV) : Nat → List UInt8
  | 0 => []
  | j + 1 => datT ds j ++ relT (ds.getD j noRel) (ds.getD j noRel).rows.length

/-- a relation that is right -/
structure GR (r : RelV) : Prop where
  nm : (nmL r).length ≤ 30
  nz : r.name.size ≤ 30
  a1 : 1 ≤ r.ar
  a3 : r.ar ≤ 3
  n : r.rows.length ≤ 2000
  wl : r.ws.length = r.rows.length
  row : ∀ i, i < r.rows.length → (r.rows.getD i []).length ≤ 3 ∧ 1 ≤ (r.rows.getD i []).length ∧ ∀ x ∈ r.rows.getD i [], 0 ≤ x ∧ x ≤ 1000000
  wt : ∀ i, i < r.rows.length → -1000000 ≤ r.ws.getD i 0 ∧ r.ws.getD i 0 ≤ 1000000

theorem GR.lR {r : RelV} (h : GR r) : (lineR r).length ≤ 1000 := by
  have h1 := itoa_len r.ar
  have h2 := h.a1
  have h3 := h.a3
  have h4 := h.nm
  unfold lineR
  simp only [List.length_append, List.length_cons, List.length_nil]
  omega
theorem GR.lW {r : RelV} (h : GR r) {i : Nat} (hi : i < r.rows.length) : (lineW r i).length ≤ 5000000 := by
  obtain ⟨h1, -, h2⟩ := h.row i hi
  have h3 := rowT_len 1000000 (r.rows.getD i []) fun x hx => by have := h2 x hx; omega
  have h4 := itoa_len (r.ws.getD i 0)
  have h5 := h.wt i hi
  have h6 := h.nm
  unfold lineW
  simp only [List.length_append, List.length_cons, List.length_nil]
  omega
theorem GR.lT {r : RelV} (h : GR r) : ∀ k, k ≤ r.rows.length → (relT r k).length ≤ 1000 + k * 5000000
  | 0, _ => by have := h.lR; show (lineR r).length ≤ _; omega
  | k + 1, hk => by
    have h1 := GR.lT h k (by omega)
    have h2 := h.lW (i := k) (by omega)
    show (relT r k ++ lineW r k).length ≤ _
    rw [List.length_append]
    omega
theorem dat_len {ds : List RelV} (h : ∀ j, j < ds.length → GR (ds.getD j noRel)) : ∀ j, j ≤ ds.length → (datT ds j).length ≤ j * 10000001000
  | 0, _ => by simp [datT]
  | j + 1, hj => by
    have h1 := dat_len h j (by omega)
    have h2 := (h j (by omega)).lT _ (Nat.le_refl _)
    have h3 := (h j (by omega)).n
    show (datT ds j ++ relT _ _).length ≤ _
    rw [List.length_append]
    omega

theorem gr_of {ds : List RelV} (h : dataB ds = true) : ds.length ≤ 50 ∧ ∀ j, j < ds.length → GR (ds.getD j noRel) := by
  unfold dataB at h
  simp only [Bool.and_eq_true, decide_eq_true_eq, List.all_eq_true] at h
  refine ⟨h.1, fun j hj => ?_⟩
  have h1 := h.2 j (List.mem_range.2 hj)
  unfold relAtB relB at h1
  generalize ds.getD j noRel = r at *
  simp only [Bool.and_eq_true, decide_eq_true_eq, List.all_eq_true] at h1
  obtain ⟨⟨⟨⟨⟨⟨⟨h2, h3⟩, h4⟩, h5⟩, h6⟩, h7⟩, h8⟩, -⟩ := h1
  unfold arityB at h3
  simp only [Bool.and_eq_true, decide_eq_true_eq] at h3
  have hz : r.name.size ≤ 30 := by
    unfold relName nameB at h2
    simp only [Bool.and_eq_true, decide_eq_true_eq] at h2
    omega
  have hrl : ∀ i, i < r.rows.length → ((r.rows.getD i []).length : Int) = r.ar := fun i hi => by
    unfold rowsB at h5
    rw [List.all_eq_true] at h5
    have h9 := h5 i (by simpa using hi)
    unfold rowAt at h9
    simp only [Bool.and_eq_true, decide_eq_true_eq] at h9
    omega
  refine ⟨by unfold nmL; rw [Array.length_toList]; exact hz, hz, h3.1, h3.2, h4, h7, fun i hi => ⟨by have := hrl i hi; omega, by have := hrl i hi; omega, fun x hx => ?_⟩, fun i hi => ?_⟩
  · have hm : r.rows.getD i [] ∈ r.rows := by rw [List.getD_eq_getElem?_getD, List.getElem?_eq_getElem hi]; exact List.getElem_mem _
    have := h6 _ hm x hx
    unfold valB at this
    simpa using this
  · have hm : r.ws.getD i 0 ∈ r.ws := by rw [List.getD_eq_getElem?_getD, List.getElem?_eq_getElem (by omega)]; exact List.getElem_mem _
    have := h8 _ hm
    unfold wtB at this
    simpa using this

end Go.Proofs.YtcdfoephhjacdaaGreatDoor

/-
  Drawn data print short.
-/
namespace Go.Proofs.YtcdfoephhjacdaaGreatDoor
open Go.RowKit

theorem itoa_small {n : Int} (h0 : -1000000 ≤ n) (h1 : n ≤ 1000000) : (Lib.itoa n).length ≤ 8 := by
  unfold Lib.itoa
  split
  · have := digs_len2 6 n.natAbs (by omega)
    rw [List.length_cons]
    omega
  · have := digs_len2 6 n.toNat (by omega)
    omega
theorem rowT_small : ∀ (l : List Int), (∀ x ∈ l, 0 ≤ x ∧ x ≤ 1000000) → (rowT l).length ≤ l.length * 9
  | [], _ => by simp [rowT, Lib.join_nil]
  | [a], h => by
    have := itoa_small (n := a) (by have := h a (by simp); omega) (h a (by simp)).2
    unfold rowT
    rw [List.map_singleton, Lib.join_one]
    simp only [List.length_cons, List.length_nil]
    omega
  | a :: b :: l, h => by
    have h1 := itoa_small (n := a) (by have := h a (by simp); omega) (h a (by simp)).2
    have h2 := rowT_small (b :: l) fun x hx => h x (List.mem_cons_of_mem _ hx)
    have e : rowT (a :: b :: l) = Lib.itoa a ++ (32 :: rowT (b :: l)) := by
      unfold rowT
      rw [List.map_cons, List.map_cons, Lib.join_cons, Lib.join_cons]
      simp [Lib.joinTail]
    rw [e, List.length_append, List.length_cons]
    simp only [List.length_cons] at h2 ⊢
    omega
theorem lineR_small {r : RelV} (h : GR r) : (lineR r).length ≤ 50 := by
  have h1 := itoa_small (n := r.ar) (by have := h.a1; omega) (by have := h.a3; omega)
  have h4 := h.nm
  unfold lineR
  simp only [List.length_append, List.length_cons, List.length_nil]
  omega
theorem lineW_small {r : RelV} (h : GR r) {i : Nat} (hi : i < r.rows.length) : (lineW r i).length ≤ 80 := by
  obtain ⟨h1, -, h2⟩ := h.row i hi
  have h3 := rowT_small (r.rows.getD i []) h2
  have h5 := h.wt i hi
  have h4 := itoa_small h5.1 h5.2
  have h6 := h.nm
  unfold lineW
  simp only [List.length_append, List.length_cons, List.length_nil]
  omega
theorem relT_small {r : RelV} (h : GR r) : ∀ k, k ≤ r.rows.length → (relT r k).length ≤ 50 + k * 80
  | 0, _ => by have := lineR_small h; show (lineR r).length ≤ _; omega
  | k + 1, hk => by
    have h1 := relT_small h k (by omega)
    have h2 := lineW_small h (i := k) (by omega)
    show (relT r k ++ lineW r k).length ≤ _
    rw [List.length_append]
    omega
theorem datT_small {ds : List RelV} (h : ∀ j, j < ds.length → GR (ds.getD j noRel)) (hf : ∀ j, j < ds.length → (ds.getD j noRel).rows.length ≤ 14) : ∀ j, j ≤ ds.length → (datT ds j).length ≤ j * 1200
  | 0, _ => by simp [datT]
  | j + 1, hj => by
    have h1 := datT_small h hf j (by omega)
    have h2 := relT_small (h j (by omega)) _ (Nat.le_refl _)
    have h3 := hf j (by omega)
    show (datT ds j ++ relT _ _).length ≤ _
    rw [List.length_append]
    omega
/-- the text of drawn data is no longer than may be -/
theorem DatG.short {k : Nat} {ds : List RelV} (h : DatG k ds) (hk : k ≤ 5) : (datT ds ds.length).length ≤ 6000 := by
  have h1 := datT_small (gr_of (h.ok hk)).2 (fun j hj => h.few j (by have := h.len; omega)) ds.length (Nat.le_refl _)
  have := h.len
  omega

end Go.Proofs.YtcdfoephhjacdaaGreatDoor
