import Derived.Test.YtoodbpijgnbfjaaGreatFq18
import Derived.Test.YtoodbpijgnbfjaaGreatFq19
import Derived.Test.YtoodbpijgnbfjaaGreatFq23
import Derived.Test.YtoodbpijgnbfjaaGreatFq26
import Derived.Test.YtoodbpijgnbfjaaGreatFq28
namespace Go.Proofs.YtoodbpijgnbfjaaGreat
open Go.RowKit

def NdT (L : List ByteArray) : Prop := L.Pairwise fun a b => (a.toList == b.toList) = false
theorem addV_nd {L : List ByteArray} {t : TermV} (h : NdT L) : NdT (addV L t) := by
  unfold addV
  split
  · exact h
  · rename_i he
    refine List.pairwise_append.2 ⟨h, List.pairwise_singleton _ _, fun a ha b hb => ?_⟩
    rw [List.mem_singleton] at hb
    subst hb
    cases e : (a.toList == t.1.toList)
    · rfl
    · exfalso
      apply he
      rw [Bool.or_eq_true]
      right
      unfold hasT
      rw [List.any_eq_true]
      exact ⟨a, ha, e⟩
theorem fold_nd : ∀ (l : List TermV) {L : List ByteArray}, NdT L → NdT (l.foldl addV L)
  | [], _, h => h
  | _ :: l, _, h => fold_nd l (addV_nd h)
theorem folds_nd : ∀ (l : List AtomV) {L : List ByteArray}, NdT L → NdT (l.foldl (fun L a => a.2.foldl addV L) L)
  | [], _, h => h
  | a :: l, _, h => folds_nd l (fold_nd a.2 h)
theorem getD_ofF {α : Type} {l : List α} {d : α} {i : Nat} (h : i < l.length) : l.getD i d = l[i] := by rw [List.getD_eq_getElem?_getD, List.getElem?_eq_getElem h, Option.getD_some]
theorem VL_nd (ats : List AtomV) : NdT (VL ats ats.length) := by rw [VL_whole]; exact folds_nd ats List.Pairwise.nil
theorem VL_nm (ats : List AtomV) : NmG (VL ats ats.length) := by
  have h := List.pairwise_iff_getElem.1 (VL_nd ats)
  refine ⟨fun i j hi hj e => ?_, fun v hv => VL_ne ats hv⟩
  rw [getD_ofF hi, getD_ofF hj] at e
  rcases Nat.lt_trichotomy i j with h1 | h1 | h1
  · rw [h i j hi hj h1] at e; cases e
  · exact h1
  · have h2 := h j i hj hi h1
    rw [beq_tx, decide_eq_true_eq] at e
    rw [beq_tx, decide_eq_false_iff_not] at h2
    exact absurd e.symm h2
theorem tab_memF {V : List ByteArray} {ts : List TermV} {R rows : List (List Int)} {W ws : List Int} {n : Nat} (h2 : rows.length = ws.length) (h3 : (rows.zip ws).Perm (fndL V ts R W n)) (r : List Int) :
    r ∈ rows ↔ ∃ j, j < n ∧ fitB ts (R.getD j []) = true ∧ atP (R.getD j []) (colP V ts) = r := by
  have e : rows = (rows.zip ws).map Prod.fst := (List.map_fst_zip (by omega)).symm
  rw [e, (h3.map Prod.fst).mem_iff]
  unfold fndL
  rw [List.map_map, List.mem_map]
  constructor
  · rintro ⟨j, hj, e⟩
    rw [List.mem_filter, List.mem_range] at hj
    exact ⟨j, hj.1, hj.2, e⟩
  · rintro ⟨j, h1, h2, e⟩
    exact ⟨j, List.mem_filter.2 ⟨List.mem_range.2 h1, h2⟩, e⟩
theorem data_inj {ds : List RelV} (h : dataB ds = true) {i j : Nat} (hi : i < ds.length) (hj : j < ds.length) (e : (ds.getD i noRel).name = (ds.getD j noRel).name) : i = j := by
  unfold dataB at h
  rw [Bool.and_eq_true, List.all_eq_true] at h
  have key : ∀ i j, i < j → j < ds.length → (ds.getD i noRel).name ≠ (ds.getD j noRel).name := fun i j hij hj e => by
    have h1 := h.2 j (List.mem_range.2 hj)
    unfold relAtB namedB at h1
    rw [Bool.and_eq_true, Bool.not_eq_true', List.any_eq_false] at h1
    exact h1.2 i (List.mem_range.2 hij) (decide_eq_true e)
  rcases Nat.lt_trichotomy i j with h1 | h1 | h1
  · exact absurd e (key i j h1 hj)
  · exact h1
  · exact absurd e.symm (key j i h1 hi)
theorem atB_iff {ds : List RelV} {q : QV} {t : TbR} {j : Nat} (hc : (checkP ds q).1 = 0) (hq : OkQ q) (hj : j < q.atoms.length) (h : TabOf ds (VL q.atoms q.atoms.length) (q.atoms.getD j noAt) t) (p : List Int) :
    atB ds (VL q.atoms q.atoms.length) p (q.atoms.getD j noAt) = true ↔ atV (VL q.atoms q.atoms.length) (q.atoms.getD j noAt).2 p ∈ t.rows := by
  obtain ⟨k, hk, h1, h2, h3, -⟩ := h
  obtain ⟨hkl, hB⟩ := btH_of hc hq hj hk
  have hd := (checkP_zero hc).1
  have hkn : ((ds.getD k noRel).name.toList == (q.atoms.getD j noAt).1.toList) = true := by
    rcases hk with ⟨e, -⟩ | ⟨k', e, -, h, -⟩
    · omega
    · obtain rfl : k = k' := by omega
      exact h
  rw [tab_memF h2 h3]
  have hr : ∀ i, trmB (VL q.atoms q.atoms.length) p (q.atoms.getD j noAt).2 ((ds.getD k noRel).rows.getD i []) (q.atoms.getD j noAt).2.length = true ↔ _ := fun i => row_iff (VL_nm q.atoms) (row := (ds.getD k noRel).rows.getD i []) (p := p) hB.all
  constructor
  · intro h
    unfold atB at h
    rw [List.any_eq_true] at h
    obtain ⟨k', hk', h⟩ := h
    unfold relD at h
    rw [Bool.and_eq_true, List.any_eq_true] at h
    obtain ⟨hn, i, hi, h⟩ := h
    obtain rfl : k' = k := data_inj hd (List.mem_range.1 hk') hkl (by
      rw [beq_tx, decide_eq_true_eq] at hn hkn
      rw [hn, hkn])
    exact ⟨i, List.mem_range.1 hi, (hr i).1 h⟩
  · rintro ⟨i, hi, h⟩
    exact atB_yes hkl hkn hi ((hr i).2 h)
theorem upL_at {k i : Nat} (h : i < k) : (upL k).getD i 0 = (i : Int) := by
  unfold upL
  rw [getD_ofF (by simpa using h)]
  simp
theorem vrsI_mem {V : List ByteArray} {ts : List TermV} {v : Nat} : (v : Int) ∈ vrsI V ts ↔ v ∈ vrs V ts := by
  unfold vrsI
  rw [List.mem_map]
  refine ⟨?_, fun h => ⟨v, h, rfl⟩⟩
  rintro ⟨u, hu, e⟩
  obtain rfl : u = v := Int.ofNat.inj e
  exact hu
theorem vrs_lt {V : List ByteArray} {ts : List TermV} {v : Nat} (h : v ∈ vrs V ts) : v < V.length := (vrs_memF.1 h).1
theorem vrs_as (V : List ByteArray) (ts : List TermV) (P : Nat → Bool) (h : ∀ v, v < V.length → P v = decide ((v : Int) ∈ vrsI V ts)) : (List.range V.length).filter P = vrs V ts := by
  have e : vrs V ts = (List.range V.length).filter fun v => (lastO ts ts.length (V.getD v noTx)).isSome := rfl
  rw [e]
  refine List.filter_congr fun v hv => ?_
  rw [h v (List.mem_range.1 hv)]
  have := vrs_memF (V := V) (ts := ts) (v := v)
  cases e2 : (lastO ts ts.length (V.getD v noTx)).isSome
  · rw [decide_eq_false_iff_not, vrsI_mem, this, e2]
    rintro ⟨-, h⟩
    cases h
  · rw [decide_eq_true_eq, vrsI_mem, this, e2]
    exact ⟨List.mem_range.1 hv, rfl⟩
theorem shr_up (V : List ByteArray) (ts : List TermV) : shr (upL V.length) (vrsI V ts) = vrsI V ts := by
  unfold shr upL
  rw [List.filter_map, vrs_as V ts ((fun x => decide (x ∈ vrsI V ts)) ∘ Int.ofNat) fun _ _ => rfl]
  rfl
theorem vrsI_asc (V : List ByteArray) (ts : List TermV) : (vrsI V ts).Pairwise (· < ·) := by
  unfold vrsI vrs
  exact List.pairwise_map.2 ((List.Pairwise.filter _ List.pairwise_lt_range).imp fun h => Int.ofNat_lt.2 h)
theorem atP_all {r : List Int} {n : Nat} (h : r.length = n) : atP r ((List.range n).map Int.ofNat) = r := by
  unfold atP
  refine List.ext_getElem (by simp [h]) fun i hi hi' => ?_
  simp only [List.getElem_map, List.getElem_range]
  exact getD_ofF hi'
theorem prj_same {vs r : List Int} (h : vs.Pairwise (· < ·)) (hl : r.length = vs.length) : prjR vs vs r = r := by
  rw [← proj_row h h fun x hx => hx]
  have e : plc (fun i => decide (vs.getD i 0 ∈ vs)) vs.length = (List.range vs.length).map Int.ofNat := by
    unfold plc
    congr 1
    rw [List.filter_eq_self]
    intro i hi
    exact decide_eq_true (getD_memG (List.mem_range.1 hi))
  rw [e, atP_all hl]
theorem prt_up (V : List ByteArray) (ts : List TermV) {p : List Int} (hp : p.length = V.length) : prt (hasO (upL V.length) (vrsI V ts)) p = atV V ts p := by
  unfold prt atV
  rw [hp, vrs_as V ts _ fun v hv => by unfold hasO; rw [upL_at hv]]
theorem atV_len (V : List ByteArray) (ts : List TermV) (p : List Int) : (atV V ts p).length = (vrsI V ts).length := by
  unfold atV vrsI
  rw [List.length_map, List.length_map]
structure TbF (V : List ByteArray) (ts : List TermV) (t : TbV) : Prop where
  vs : t.vs = vrsI V ts
  len : ∀ r ∈ t.rows, r.length = (vrsI V ts).length
theorem sd_rows {V : List ByteArray} {ts : List TermV} {t : TbV} (h : TbF V ts t) (r : List Int) : r ∈ (sdO (upL V.length) (sdT (upL V.length) t)).rs ↔ r ∈ t.rows := by
  show r ∈ srt (t.rows.map (prjR t.vs (shr (upL V.length) t.vs))) ↔ _
  rw [(srt_ok _ _ (Nat.le_refl _)).2, h.vs, shr_up, List.mem_map]
  constructor
  · rintro ⟨s, hs, e⟩
    rw [prj_same (vrsI_asc V ts) (h.len s hs)] at e
    rw [← e]; exact hs
  · exact fun hr => ⟨r, hr, prj_same (vrsI_asc V ts) (h.len r hr)⟩
theorem sd_H {V : List ByteArray} {ts : List TermV} {t : TbV} (h : TbF V ts t) : (sdO (upL V.length) (sdT (upL V.length) t)).H = hasO (upL V.length) (vrsI V ts) := by
  show hasO (upL V.length) (shr (upL V.length) t.vs) = _
  rw [h.vs, shr_up]
theorem sd_D {V : List ByteArray} {ts : List TermV} {t : TbV} (h : TbF V ts t) (hne : 0 < t.rows.length) {p : List Int} (hp : p.length = V.length) :
    (sdO (upL V.length) (sdT (upL V.length) t)).D (prt (sdO (upL V.length) (sdT (upL V.length) t)).H p) ↔ atV V ts p ∈ t.rows := by
  rw [sd_H h, prt_up V ts hp]
  have hl := atV_len V ts p
  constructor
  · rintro (e | ⟨r, hr, e⟩)
    · have h1 : t.rows[0] ∈ t.rows := List.getElem_mem hne
      have h2 := h.len _ h1
      rw [← hl, e] at h2
      rw [e, ← List.eq_nil_of_length_eq_zero h2]
      exact h1
    · have hr' := (sd_rows h r).1 hr
      rw [e.eq_of_length (by rw [hl, h.len r hr'])]
      exact hr'
  · exact fun hr => Or.inr ⟨_, (sd_rows h _).2 hr, List.prefix_rfl⟩

end Go.Proofs.YtoodbpijgnbfjaaGreat

namespace Go.Proofs.YtoodbpijgnbfjaaGreat
open Go.RowKit

structure BdF (ds : List RelV) (q : QV) (tl : List TbR) : Prop where
  zc : (checkP ds q).1 = 0
  ok : OkQ q
  len : tl.length = q.atoms.length
  tab : ∀ j, j < tl.length → TabOf ds (VL q.atoms q.atoms.length) (q.atoms.getD j noAt) (tl.getD j noTb)
  val : ∀ i, i < ds.length → ∀ r ∈ (ds.getD i noRel).rows, ∀ x ∈ r, 0 ≤ x ∧ x < 6
  five : (VL q.atoms q.atoms.length).length ≤ 5
section
variable {ds : List RelV} {q : QV} {tl : List TbR}
theorem BdF.row (h : BdF ds q tl) {j : Nat} (hj : j < tl.length) {r : List Int} (hr : r ∈ (tl.getD j noTb).rows) : r.length = (vrsI (VL q.atoms q.atoms.length) (q.atoms.getD j noAt).2).length ∧ ∀ x ∈ r, 0 ≤ x ∧ x < 6 := by
  obtain ⟨k, hk, h1, h2, h3, -⟩ := h.tab j hj
  obtain ⟨hkl, hB⟩ := btH_of h.zc h.ok (by have := h.len; omega) hk
  obtain ⟨i, hi, -, rfl⟩ := (tab_memF h2 h3 r).1 hr
  refine ⟨by rw [atP_len, colP_len]; unfold vrsI; rw [List.length_map], fun x hx => ?_⟩
  unfold atP at hx
  obtain ⟨c, -, rfl⟩ := List.mem_map.1 hx
  rw [List.getD_eq_getElem?_getD]
  cases e : ((ds.getD k noRel).rows.getD i [])[c.toNat]? with
  | none => exact ⟨Int.le_refl _, by decide⟩
  | some y => exact h.val k hkl _ (getD_memG hi) y (List.mem_of_getElem? e)
theorem BdF.tbF (h : BdF ds q tl) {j : Nat} (hj : j < tl.length) : TbF (VL q.atoms q.atoms.length) (q.atoms.getD j noAt).2 (tvB (tl.getD j noTb)) :=
  ⟨(h.tab j hj).choose_spec.2.1, fun _ hr => (h.row hj hr).1⟩
theorem BdF.mem {P : TbV → Prop} (h : ∀ j, j < tl.length → P (tvB (tl.getD j noTb))) : ∀ t ∈ tl.map tvB, P t := fun t ht => by
  obtain ⟨s, hs, rfl⟩ := List.mem_map.1 ht
  obtain ⟨j, hj, rfl⟩ := List.getElem_of_mem hs
  have := h j hj
  rw [getD_ofF hj] at this
  exact this
theorem BdF.at {j : Nat} (hj : j < tl.length) : tvB (tl.getD j noTb) ∈ tl.map tvB := List.mem_map_of_mem (getD_memG hj)
theorem BdF.cov (h : BdF ds q tl) {v : Nat} (hv : v < (VL q.atoms q.atoms.length).length) : ∃ j, j < tl.length ∧ v ∈ vrs (VL q.atoms q.atoms.length) (q.atoms.getD j noAt).2 := by
  have h1 : (VL q.atoms q.atoms.length).getD v noTx ∈ VL q.atoms q.atoms.length := getD_memG hv
  rw [VL_whole] at h1
  rcases vl_mem q.atoms [] h1 with h2 | ⟨a, ha, t, ht, e, -⟩
  · cases h2
  · obtain ⟨j, hj, rfl⟩ := List.getElem_of_mem ha
    obtain ⟨i, hi, rfl⟩ := List.getElem_of_mem ht
    rw [← VL_whole] at e
    refine ⟨j, by rw [h.len]; exact hj, vrs_memF.2 ⟨hv, ?_⟩⟩
    rw [getD_ofF hj]
    refine lastO_some hi ?_
    rw [getD_ofF hi, e]
    exact beq_self_eq_true _
theorem BdF.side (h : BdF ds q tl) {v : Nat} (hv : v < (VL q.atoms q.atoms.length).length) : ∃ j, j < tl.length ∧ (sdO (upL (VL q.atoms q.atoms.length).length) (sdT (upL (VL q.atoms q.atoms.length).length) (tvB (tl.getD j noTb)))) ∈ sdsJ (tl.map tvB) (upL (VL q.atoms q.atoms.length).length) ∧ (sdO (upL (VL q.atoms q.atoms.length).length) (sdT (upL (VL q.atoms q.atoms.length).length) (tvB (tl.getD j noTb)))).H v = true := by
  obtain ⟨j, hj, hm⟩ := h.cov hv
  refine ⟨j, hj, List.mem_map_of_mem (List.mem_map_of_mem (BdF.at hj)), ?_⟩
  rw [sd_H (h.tbF hj)]
  unfold hasO
  rw [upL_at hv]
  exact decide_eq_true (vrsI_mem.2 hm)
theorem BdF.lv (h : BdF ds q tl) (p : List Int) : p ∈ lvJ (tl.map tvB) (upL (VL q.atoms q.atoms.length).length) (VL q.atoms q.atoms.length).length ↔ p.length = (VL q.atoms q.atoms.length).length ∧ ∀ j, j < tl.length → atV (VL q.atoms q.atoms.length) (q.atoms.getD j noAt).2 p ∈ (tl.getD j noTb).rows := by
  have hE : empJ (tl.map tvB) = false ↔ ∀ j, j < tl.length → 0 < (tl.getD j noTb).rows.length := by
    unfold empJ
    rw [List.any_eq_false]
    refine ⟨fun h1 j hj => ?_, fun h1 => BdF.mem (P := fun t => ¬ decide (t.rows.length = 0) = true) fun j hj => ?_⟩
    · have := h1 _ (BdF.at hj)
      rw [decide_eq_true_eq] at this
      exact Nat.pos_of_ne_zero this
    · have := h1 j hj
      rw [decide_eq_true_eq]
      show ¬ (tl.getD j noTb).rows.length = 0
      omega
  have hH : (∀ j, j < tl.length → 0 < (tl.getD j noTb).rows.length) → p.length = (VL q.atoms q.atoms.length).length → (Hld (sdsJ (tl.map tvB) (upL (VL q.atoms q.atoms.length).length)) p ↔ ∀ j, j < tl.length → atV (VL q.atoms q.atoms.length) (q.atoms.getD j noAt).2 p ∈ (tl.getD j noTb).rows) := fun hpos hp => by
    refine ⟨fun h1 j hj => (sd_D (h.tbF hj) (hpos j hj) hp).1 (h1 _ (List.mem_map_of_mem (List.mem_map_of_mem (BdF.at hj)))), fun h1 s hs => ?_⟩
    unfold sdsJ at hs
    rw [List.map_map] at hs
    obtain ⟨t, ht, rfl⟩ := List.mem_map.1 hs
    exact BdF.mem (P := fun t => ((sdO (upL (VL q.atoms q.atoms.length).length)) ((sdT (upL (VL q.atoms q.atoms.length).length)) t)).D (prt ((sdO (upL (VL q.atoms q.atoms.length).length)) ((sdT (upL (VL q.atoms q.atoms.length).length)) t)).H p)) (fun j hj => (sd_D (h.tbF hj) (hpos j hj) hp).2 (h1 j hj)) t ht
  have hL := lvl_mem (sdsJ_ok (tl.map tvB) (upL (VL q.atoms q.atoms.length).length)) (VL q.atoms q.atoms.length).length (fun v hv => by
    obtain ⟨j, -, h1, h2⟩ := h.side hv
    exact ⟨_, h1, h2⟩) p
  unfold lvJ nxJ
  cases e : empJ (tl.map tvB)
  · rw [if_neg (by decide), hL]
    exact and_congr_right fun hp => hH (hE.1 e) hp
  · rw [if_pos rfl]
    refine ⟨fun h1 => (by cases h1), ?_⟩
    rintro ⟨-, h1⟩
    have := hE.2 fun j hj => List.length_pos_of_mem (h1 j hj)
    rw [this] at e
    cases e
theorem BdF.lv_eq (h : BdF ds q tl) : lvJ (tl.map tvB) (upL (VL q.atoms q.atoms.length).length) (VL q.atoms q.atoms.length).length = brL ds q.atoms (VL q.atoms q.atoms.length) (7 ^ (VL q.atoms q.atoms.length).length) := by
  refine SL.uniq ?_ (brL_sl _ _ _) fun p => ?_
  · unfold lvJ
    split
    · exact List.Pairwise.nil
    · exact lvl_sl (sdsJ_ok _ _) _
  · rw [h.lv p, brL_mem p]
    have hl := h.len
    have hall : allB ds q.atoms (VL q.atoms q.atoms.length) p = true ↔ ∀ j, j < tl.length → atV (VL q.atoms q.atoms.length) (q.atoms.getD j noAt).2 p ∈ (tl.getD j noTb).rows := by
      refine ⟨fun h1 j hj => ?_, fun h1 => allB_yes fun j hj => (atB_iff h.zc h.ok hj (h.tab j (by omega)) p).2 (h1 j (by omega))⟩
      unfold allB at h1
      exact (atB_iff h.zc h.ok (by omega) (h.tab j hj) p).1 (List.all_eq_true.1 h1 _ (getD_memG (by omega)))
    rw [hall]
    refine and_congr_right fun hp => ⟨fun h1 => ⟨fun x hx => ?_, h1⟩, fun h1 => h1.2⟩
    obtain ⟨v, hv, rfl⟩ := List.getElem_of_mem hx
    obtain ⟨j, hj, hm⟩ := h.cov (v := v) (by omega)
    have h2 := (h.row hj (h1 j hj)).2 (p.getD v 0) (by unfold atV; exact List.mem_map_of_mem (f := fun v => p.getD v 0) hm)
    rw [getD_ofF hv] at h2
    omega
end
theorem asc_few : ∀ {l : List Int} {a b : Int}, a ≤ b → l.Pairwise (· < ·) → (∀ x ∈ l, a ≤ x ∧ x < b) → (l.length : Int) ≤ b - a
  | [], a, b, hab, _, _ => by simp; omega
  | x :: l, a, b, _, h, hx => by
    have h1 := hx x List.mem_cons_self
    have h2 := List.pairwise_cons.1 h
    have := asc_few (l := l) (a := x + 1) (b := b) (by omega) h2.2 fun y hy => ⟨by have := h2.1 y hy; omega, (hx y (List.mem_cons_of_mem _ hy)).2⟩
    rw [List.length_cons]
    omega
theorem flat_few {α β : Type} {f : α → List β} {m : Nat} : ∀ {l : List α}, (∀ a ∈ l, (f a).length ≤ m) → (l.flatMap f).length ≤ m * l.length
  | [], _ => by simp
  | a :: l, h => by
    have h1 := h a List.mem_cons_self
    have h2 := flat_few (l := l) fun b hb => h b (List.mem_cons_of_mem _ hb)
    rw [List.flatMap_cons, List.length_append, List.length_cons, Nat.mul_succ]
    omega
section
variable {ds : List RelV} {q : QV} {tl : List TbR}
theorem BdF.size (h : BdF ds q tl) : ∀ i, i ≤ (VL q.atoms q.atoms.length).length → (lvJ (tl.map tvB) (upL (VL q.atoms q.atoms.length).length) i).length ≤ 6 ^ i
  | 0, _ => lvJ_zero _ _
  | i + 1, hi => by
    have ih := h.size i (by omega)
    rw [lvJ_succ]
    refine Nat.le_trans (flat_few (m := 6) fun p hp => ?_) (by rw [Nat.pow_succ, Nat.mul_comm]; exact Nat.mul_le_mul_right _ ih)
    rw [List.length_map]
    have hh := lvJ_hld p hp
    have hpl := lvJ_len p hp
    have := asc_few (a := 0) (b := 6) (by decide) (nxtS_asc (sdsJ_ok (tl.map tvB) (upL (VL q.atoms q.atoms.length).length)) hh) fun v hv => by
      have h1 := hh.snoc (sdsJ_ok _ _) hv
      obtain ⟨j, hj, hg, hH⟩ := h.side (v := p.length) (by omega)
      have h2 := h1 _ hg
      rw [prt_snoc, if_pos hH] at h2
      rcases h2 with h2 | ⟨r, hr, h2⟩
      · simp at h2
      · exact (h.row hj ((sd_rows (h.tbF hj) r).1 hr)).2 v (h2.subset (by simp))
    unfold nxJ
    omega
theorem BdF.sm (h : BdF ds q tl) : smJ (tl.map tvB) (upL (VL q.atoms q.atoms.length).length) (VL q.atoms q.atoms.length).length = true := by
  unfold smJ
  rw [List.all_eq_true]
  intro i hi
  rw [List.mem_range] at hi
  have h5 := h.five
  exact decide_eq_true (Nat.le_trans (h.size (i + 1) (by omega)) (Nat.le_trans (Nat.pow_le_pow_right (by decide) (show i + 1 ≤ 5 by omega)) (by decide)))
theorem pw_at {α : Type} {R : α → α → Prop} {l : List α} {d : α} (h : l.Pairwise R) {i : Nat} (hi : i < l.length) (h0 : i ≠ 0) : R (l.getD (i - 1) d) (l.getD i d) := by
  have := List.pairwise_iff_getElem.1 h (i - 1) i (by omega) hi (by omega)
  rw [getD_ofF hi, getD_ofF (show i - 1 < l.length by omega)]
  exact this
theorem BdF.tabJ (h : BdF ds q tl) {j : Nat} (hj : j < tl.length) : tabJ (tvB (tl.getD j noTb)) = true := by
  obtain ⟨k, hk, h1, h2, h3, h4⟩ := h.tab j hj
  have hl := h.len
  obtain ⟨hkl, hB⟩ := btH_of h.zc h.ok (by omega) hk
  have hr := rel_rows (checkP_zero h.zc).1 hkl
  have e : (tl.getD j noTb).rows = ((tl.getD j noTb).rows.zip (tl.getD j noTb).ws).map Prod.fst := (List.map_fst_zip (by omega)).symm
  have hn : (tl.getD j noTb).rows.Nodup := by
    rw [e]
    exact (h3.map Prod.fst).nodup_iff.2 (fnd_nodup hB hr.2.2.2 _ (Nat.le_refl _))
  have hs := strict_ofL h4 hn
  have hln : (tl.getD j noTb).rows.length ≤ 2000 := by
    have e1 := h3.length_eq
    have e2 := fndL_len (VL q.atoms q.atoms.length) (q.atoms.getD j noAt).2 (ds.getD k noRel).rows (ds.getD k noRel).ws (ds.getD k noRel).rows.length
    have e3 := hB.n
    rw [List.length_zip] at e1
    omega
  have h5 := h.five
  show tableB (tl.getD j noTb).vs (tl.getD j noTb).rows (tl.getD j noTb).ws = true
  unfold tableB
  simp only [Bool.and_eq_true, decide_eq_true_eq]
  refine ⟨⟨⟨?_, by omega⟩, rowsB_true fun i hi => ?_⟩, by omega⟩
  · rw [h1]
    refine setB_true fun i hi => ?_
    have ha := vrsI_asc (VL q.atoms q.atoms.length) (q.atoms.getD j noAt).2
    have hm := getD_memG (d := 0) hi
    unfold okAt
    simp only [Bool.and_eq_true, Bool.or_eq_true, decide_eq_true_eq]
    have hb : ∀ x ∈ vrsI (VL q.atoms q.atoms.length) (q.atoms.getD j noAt).2, 0 ≤ x ∧ x < 6 := fun x hx => by
      unfold vrsI at hx
      obtain ⟨v, hv, rfl⟩ := List.mem_map.1 hx
      have := vrs_lt hv
      show 0 ≤ (v : Int) ∧ (v : Int) < 6
      omega
    refine ⟨hb _ hm, ?_⟩
    by_cases h0 : i = 0
    · exact Or.inl h0
    · exact Or.inr (pw_at ha hi h0)
  · unfold rowAt
    simp only [Bool.and_eq_true, Bool.or_eq_true, decide_eq_true_eq]
    refine ⟨by rw [(h.row hj (getD_memG hi)).1, h1], ?_⟩
    by_cases h0 : i = 0
    · exact Or.inl h0
    · exact Or.inr (pw_at hs hi h0)
theorem BdF.ord (h : BdF ds q tl) : ordJ (tl.map tvB) (upL (VL q.atoms q.atoms.length).length) = true := by
  rw [ordJ_perm]
  have e : vrJ (tl.map tvB) = upL (VL q.atoms q.atoms.length).length := by
    refine asc_uniq (plc_pw _ _) ?_ fun x => ?_
    · unfold upL
      exact List.pairwise_map.2 (List.pairwise_lt_range.imp fun h => Int.ofNat_lt.2 h)
    · unfold vrJ upL
      rw [mem_plc, List.mem_map]
      have h5 := h.five
      constructor
      · rintro ⟨i, hi, hp, rfl⟩
        unfold hasJ at hp
        obtain ⟨t, ht, hm⟩ := List.any_eq_true.1 hp
        refine ⟨i, List.mem_range.2 ?_, rfl⟩
        refine BdF.mem (P := fun t => decide ((i : Int) ∈ t.vs) = true → i < _) (fun j hj hm => ?_) t ht hm
        rw [decide_eq_true_eq, (h.tbF hj).vs, vrsI_mem] at hm
        exact vrs_lt hm
      · rintro ⟨i, hi, rfl⟩
        rw [List.mem_range] at hi
        obtain ⟨j, hj, hm⟩ := h.cov hi
        refine ⟨i, by omega, ?_, rfl⟩
        unfold hasJ
        rw [List.any_eq_true]
        exact ⟨_, BdF.at hj, decide_eq_true (by rw [(h.tbF hj).vs]; exact vrsI_mem.2 hm)⟩
  rw [e]
theorem BdF.okJ (h : BdF ds q tl) : okJ (tl.map tvB) (upL (VL q.atoms q.atoms.length).length) = true := by
  unfold Go.Proofs.YtoodbpijgnbfjaaGreat.okJ
  rw [h.ord, List.all_eq_true.2 (BdF.mem fun j hj => h.tabJ hj), decide_eq_true (by rw [List.length_map, h.len]; have := (checkP_zero h.zc).2.2.1; omega)]
  rfl
theorem BdF.all (h : BdF ds q tl) : rowJ (tl.map tvB) (upL (VL q.atoms q.atoms.length).length) = brL ds q.atoms (VL q.atoms q.atoms.length) (7 ^ (VL q.atoms q.atoms.length).length)
    ∧ 0 ≤ visJ (tl.map tvB) (upL (VL q.atoms q.atoms.length).length) ∧ ((VL q.atoms q.atoms.length).length = 0 ∨ ((brL ds q.atoms (VL q.atoms q.atoms.length) (7 ^ (VL q.atoms q.atoms.length).length)).length : Int) ≤ visJ (tl.map tvB) (upL (VL q.atoms q.atoms.length).length)) := by
  obtain ⟨h1, h2⟩ := rowJ_yes h.okJ
  rw [upL_len, if_pos h.sm] at h1 h2
  rw [h1, h2, ← h.lv_eq]
  refine ⟨rfl, by omega, ?_⟩
  cases hk : (VL q.atoms q.atoms.length).length with
  | zero => exact Or.inl rfl
  | succ m =>
    right
    rw [viJ_succ]
    omega
end

end Go.Proofs.YtoodbpijgnbfjaaGreat

namespace Go.Proofs.YtoodbpijgnbfjaaGreat
open Go.RowKit

def U5 : List ByteArray := [⟨#[120]⟩, ⟨#[121]⟩, ⟨#[122]⟩, ⟨#[119]⟩, ⟨#[117, 95, 49]⟩]
theorem vnQ_5 : ∀ i : Nat, i < 5 → vnQ.getD i noB ∈ U5
  | 0, _ => .head _
  | 1, _ => .tail _ (.head _)
  | 2, _ => .tail _ (.tail _ (.head _))
  | 3, _ => .tail _ (.tail _ (.tail _ (.head _)))
  | 4, _ => .tail _ (.tail _ (.tail _ (.tail _ (.head _))))
  | i + 5, h => by omega
def Us5 (used : List ByteArray) : Prop := ∀ x ∈ used, x ∈ U5
theorem us5_at {used : List ByteArray} (h : Us5 used) {i : Nat} (hi : i < used.length) : used.getD i noB ∈ U5 := h _ (getD_memG hi)
theorem varQ1_5 (L : Nat → Int) (n k j : Nat) (used : List ByteArray) (s : CSt) (hk : 0 < k) (hk5 : k ≤ 5) (hu : Us5 used) : (varQ1 L n k j used s).1 ∈ U5 := by
  have hv := vnQ_5 (pkF L n k s).1 (by have := pk_lt L n k s hk; omega)
  unfold varQ1
  dsimp only
  split
  · rename_i h
    show (if _ then _ else _) ∈ U5
    split
    · exact us5_at hu (by omega)
    · exact hv
  · exact hv
theorem varQ_5 (L : Nat → Int) (n k j : Nat) (last : Bool) (used : List ByteArray) (s : CSt) (hk : 0 < k) (hk5 : k ≤ 5) (hu : Us5 used) : (varQ L n k j last used s).1 ∈ U5 := by
  have hv := varQ1_5 L n k j used s hk hk5 hu
  unfold varQ
  dsimp only
  split
  · rename_i h
    show (if _ then _ else _) ∈ U5
    split
    · exact us5_at hu h.2
    · exact hv
  · exact hv
def Tm5 (t : TermV) : Prop := t.1.toList.isEmpty = true ∨ t.1 ∈ U5
theorem termsQ_5 (L : Nat → Int) (n k ar : Nat) (la : Bool) (used : List ByteArray) (s : CSt) (hk : 0 < k) (hk5 : k ≤ 5) (hu : Us5 used) : ∀ j, (termsQ L n k ar la j used s).1.length = j ∧ (∀ t ∈ (termsQ L n k ar la j used s).1, Tm5 t) ∧ Us5 (termsQ L n k ar la j used s).2.1
  | 0 => ⟨rfl, fun t ht => by simp [termsQ] at ht, hu⟩
  | j + 1 => by
    obtain ⟨h1, h2, h3⟩ := termsQ_5 L n k ar la used s hk hk5 hu j
    rw [termsQ]
    dsimp only
    split
    · refine ⟨by rw [List.length_append, h1]; rfl, fun t ht => ?_, h3⟩
      rw [List.mem_append, List.mem_singleton] at ht
      rcases ht with ht | rfl
      · exact h2 t ht
      · exact Or.inl (by rw [ByteArray.toList_eq]; rfl)
    · have hv := varQ_5 L n k j (la && decide (j + 1 = ar)) (termsQ L n k ar la j used s).2.1 (pkF L n 14 (termsQ L n k ar la j used s).2.2).2 hk hk5 h3
      refine ⟨by rw [List.length_append, h1]; rfl, fun t ht => ?_, fun x hx => ?_⟩
      · rw [List.mem_append, List.mem_singleton] at ht
        rcases ht with ht | rfl
        · exact h2 t ht
        · exact Or.inr hv
      · rw [List.mem_append, List.mem_singleton] at hx
        rcases hx with hx | rfl
        · exact h3 x hx
        · exact hv
structure AtFb (ds : List RelV) (a : AtomV) : Prop where
  rel : ∃ k, k < ds.length ∧ a.1 = (ds.getD k noRel).name ∧ (ds.getD k noRel).ar = (a.2.length : Int)
  tm : ∀ t ∈ a.2, Tm5 t
theorem atomsQ_5 {m : Nat} {ds : List RelV} (hd : DatG m ds) (hm : 0 < m) (L : Nat → Int) (n k cnt : Nat) (used : List ByteArray) (s : CSt) (hk : 0 < k) (hk5 : k ≤ 5) (hu : Us5 used) : ∀ i, (∀ a ∈ (atomsQ L n ds k cnt i used s).1, AtFb ds a) ∧ Us5 (atomsQ L n ds k cnt i used s).2.1
  | 0 => ⟨fun t ht => by simp [atomsQ] at ht, hu⟩
  | i + 1 => by
    obtain ⟨h2, h3⟩ := atomsQ_5 hd hm L n k cnt used s hk hk5 hu i
    rw [atomsQ]
    dsimp only
    generalize atomsQ L n ds k cnt i used s = p at *
    have hz := pk_lt L n ds.length p.2.2 (by have := hd.len; omega)
    obtain ⟨r1, r2, r3⟩ := rel_parts (hd.rel (pkF L n ds.length p.2.2).1 (by have := hd.len; omega))
    obtain ⟨t1, t2, t3⟩ := termsQ_5 L n k (ds.getD (pkF L n ds.length p.2.2).1 noRel).ar.toNat (decide (i + 1 = cnt)) p.2.1 (pkF L n ds.length p.2.2).2 hk hk5 h3 (ds.getD (pkF L n ds.length p.2.2).1 noRel).ar.toNat
    refine ⟨fun a ha => ?_, t3⟩
    rw [List.mem_append, List.mem_singleton] at ha
    rcases ha with ha | rfl
    · exact h2 a ha
    · exact ⟨⟨_, hz, rfl, by dsimp only; rw [t1]; omega⟩, t2⟩
theorem ringQ_5 {ds : List RelV} (hd : 0 < ds.length) (h2 : (ds.getD 0 noRel).ar = 2) (L : Nat → Int) (n : Nat) (m : Nat) (hm : 0 < m) (hm5 : m ≤ 5) (s : CSt) : ∀ i, i ≤ m → ∀ a ∈ (ringQ L n (ds.getD 0 noRel).name m i s).1, AtFb ds a
  | 0, _ => fun t ht => by simp [ringQ] at ht
  | i + 1, hi => by
    have h := ringQ_5 hd h2 L n m hm hm5 s i (by omega)
    rw [ringQ]
    dsimp only
    intro a ha
    rw [List.mem_append, List.mem_singleton] at ha
    have ta := vnQ_5 i (by omega)
    have tb := vnQ_5 ((i + 1) % m) (by have := Nat.mod_lt (i + 1) hm; omega)
    rcases ha with ha | rfl
    · exact h a ha
    · refine ⟨⟨0, hd, rfl, ?_⟩, fun t ht => ?_⟩
      · dsimp only
        split <;> (rw [h2]; rfl)
      · dsimp only at ht
        split at ht <;> (simp only [List.mem_cons, List.not_mem_nil, or_false] at ht; rcases ht with rfl | rfl <;> first | exact Or.inr ta | exact Or.inr tb)
theorem atsQ_5 {m : Nat} {ds : List RelV} (hd : DatG m ds) (hm : 0 < m) (h2 : (ds.getD 0 noRel).ar = 2) (L : Nat → Int) (n : Nat) (s : CSt) : ∀ a ∈ (atsQ L n ds s).1, AtFb ds a := by
  have hk : 0 < kQ L n s ∧ kQ L n s ≤ 5 := by unfold kQ; have := pk_lt L n 4 (pkF L n 4 s).2 (by omega); omega
  unfold atsQ
  dsimp only
  have hA := atomsQ_5 hd hm L n (kQ L n s) (preQ L n ds (cQ L n s) (sQ L n s)).2.1 [] (preQ L n ds (cQ L n s) (sQ L n s)).2.2 hk.1 hk.2 (fun x hx => by cases hx) (preQ L n ds (cQ L n s) (sQ L n s)).2.1
  intro a ha
  rcases List.mem_append.1 ha with ha | ha
  · unfold preQ at ha
    split at ha
    · have hz := pk_lt L n 2 (pkF L n 4 (sQ L n s)).2 (by omega)
      exact ringQ_5 (by have := hd.len; omega) h2 L n (3 + (pkF L n 2 (pkF L n 4 (sQ L n s)).2).1) (by omega) (by omega) (pkF L n 2 (pkF L n 4 (sQ L n s)).2).2 _ (Nat.le_refl _) a ha
    · cases ha
  · exact hA.1 a ha
theorem drwR_5 (L : Nat → Int) (n span : Nat) (s : CSt) (h0 : 0 < span) : ∀ k, ∀ x ∈ (drwR L n span k s).1, 0 ≤ x ∧ x < (span : Int)
  | 0, x, hx => by simp [drwR] at hx
  | k + 1, x, hx => by
    rw [drwR, List.mem_append, List.mem_singleton] at hx
    rcases hx with hx | rfl
    · exact drwR_5 L n span s h0 k x hx
    · have := pk_lt L n span (drwR L n span k s).2 h0
      omega
theorem rowsF_5 (L : Nat → Int) (n span ar : Nat) (s : CSt) (h0 : 0 < span) : ∀ k, ∀ r ∈ (rowsF L n span ar k s).1.1, ∀ x ∈ r, 0 ≤ x ∧ x < (span : Int)
  | 0 => fun r hr => by simp [rowsF] at hr
  | k + 1 => by
    have h := rowsF_5 L n span ar s h0 k
    rw [rowsF]
    dsimp only
    exact put_all h (drwR_5 L n span _ h0 ar)
theorem datF_5 (L : Nat → Int) (n span : Nat) (s : CSt) (h0 : 0 < span) : ∀ k, (∀ d ∈ (datF L n span k s).1, ∀ r ∈ d.rows, ∀ x ∈ r, 0 ≤ x ∧ x < (span : Int)) ∧ (datF L n span k s).1.length = k ∧ (0 < k → ((datF L n span k s).1.getD 0 noRel).ar = 2)
  | 0 => ⟨fun d hd => by simp [datF] at hd, rfl, fun h => absurd h (by decide)⟩
  | k + 1 => by
    obtain ⟨h1, h2, h3⟩ := datF_5 L n span s h0 k
    rw [datF]
    dsimp only
    refine ⟨fun d hd => ?_, by rw [List.length_append, h2]; rfl, fun _ => ?_⟩
    · rw [List.mem_append, List.mem_singleton] at hd
      rcases hd with hd | rfl
      · exact h1 d hd
      · exact rowsF_5 L n span _ _ h0 _
    · by_cases e : k = 0
      · subst e
        rfl
      · rw [List.getD_eq_getElem?_getD, List.getElem?_append_left (by omega), ← List.getD_eq_getElem?_getD]
        exact h3 (by omega)
theorem spanD_5 (L : Nat → Int) (n : Nat) (s : CSt) : 0 < spanD L n s ∧ spanD L n s ≤ 6 := by
  unfold spanD
  have a1 := pk_lt L n 4 (pkF L n 4 (pkF L n 2 s).2).2 (by omega)
  have a2 := pk_lt L n 2 s (by omega)
  split <;> omega
theorem dsC_5 (L : Nat → Int) (n : Nat) : (∀ i, i < (dsC L n).length → ∀ r ∈ ((dsC L n).getD i noRel).rows, ∀ x ∈ r, 0 ≤ x ∧ x < 6) ∧ ((dsC L n).getD 0 noRel).ar = 2 := by
  have hs := spanD_5 L n (pkF L n 4 (0, 0)).2
  have h := datF_5 L n (spanD L n (pkF L n 4 (0, 0)).2) (spanE L n (pkF L n 4 (0, 0)).2) hs.1 (numD L n (0, 0))
  refine ⟨fun i hi r hr x hx => ?_, h.2.2 (by unfold numD; omega)⟩
  have := h.1 _ (getD_memG hi) r hr x hx
  omega
theorem hdQ_nd (L : Nat → Int) (n : Nat) {vs : List ByteArray} (hv : NdT vs) (s : CSt) : ∀ i, i ≤ vs.length → NdT (hdQ L n vs i s).1 ∧ ∀ x ∈ (hdQ L n vs i s).1, ∃ j, j < i ∧ x = vs.getD j noB
  | 0, _ => ⟨List.Pairwise.nil, fun x hx => by simp [hdQ] at hx⟩
  | i + 1, hi => by
    obtain ⟨h1, h2⟩ := hdQ_nd L n hv s i (by omega)
    rw [hdQ]
    dsimp only
    split
    · refine ⟨List.pairwise_cons.2 ⟨fun x hx => ?_, h1⟩, fun x hx => ?_⟩
      · obtain ⟨j, hj, rfl⟩ := h2 x hx
        have h3 := List.pairwise_iff_getElem.1 hv j i (by omega) (by omega) hj
        rw [getD_ofF (show i < vs.length by omega), getD_ofF (show j < vs.length by omega)]
        rw [beq_tx, decide_eq_false_iff_not] at h3 ⊢
        exact fun e => h3 e.symm
      · rcases List.mem_cons.1 hx with rfl | hx
        · exact ⟨i, by omega, rfl⟩
        · obtain ⟨j, hj, e⟩ := h2 x hx
          exact ⟨j, by omega, e⟩
    · exact ⟨h1, fun x hx => by obtain ⟨j, hj, e⟩ := h2 x hx; exact ⟨j, by omega, e⟩⟩
theorem nd_le : ∀ {l m : List ByteArray}, NdT l → (∀ x ∈ l, x ∈ m) → l.length ≤ m.length
  | [], _, _, _ => Nat.zero_le _
  | a :: l, m, h, hm => by
    have h1 := List.pairwise_cons.1 h
    have ha := hm a List.mem_cons_self
    have := nd_le (l := l) (m := m.filter fun y => !decide (a = y)) h1.2 fun x hx => by
      have hne : ¬ a = x := fun e => by
        have := h1.1 x hx
        rw [beq_tx, decide_eq_false_iff_not] at this
        exact this e
      exact List.mem_filter.2 ⟨hm x (List.mem_cons_of_mem _ hx), by rw [decide_eq_false hne]; rfl⟩
    have h2 : (m.filter fun y => !decide (a = y)).length < m.length := List.length_filter_lt_length_iff_exists.2 ⟨a, ha, by simp⟩
    rw [List.length_cons]
    omega
theorem VL_5 {ds : List RelV} {ats : List AtomV} (h : ∀ a ∈ ats, AtFb ds a) : (VL ats ats.length).length ≤ 5 := by
  refine nd_le (m := U5) (VL_nd ats) fun x hx => ?_
  rw [VL_whole] at hx
  rcases vl_mem ats [] hx with h1 | ⟨a, ha, t, ht, e, hne⟩
  · cases h1
  · rcases (h a ha).tm t ht with h2 | h2
    · rw [h2] at hne; cases hne
    · rw [e]; exact h2
structure DrF (ds : List RelV) (q : QV) : Prop where
  zc : (checkP ds q).1 = 0
  ok : OkQ q
  val : ∀ i, i < ds.length → ∀ r ∈ (ds.getD i noRel).rows, ∀ x ∈ r, 0 ≤ x ∧ x < 6
  five : (VL q.atoms q.atoms.length).length ≤ 5
  shp : shapeB q = true
  tm3 : ∀ a ∈ q.atoms, a.2.length ≤ 3
theorem atF_code {ds : List RelV} (hd : dataB ds = true) {a : AtomV} (h : AtFb ds a) : atomCode ds a = 0 := by
  obtain ⟨k, hk, e1, e2⟩ := h.rel
  have hix : RelIx ds a.1 (k : Int) := Or.inr ⟨k, rfl, hk, by rw [e1]; exact beq_self_eq_true _, fun i hi => by
    cases e : ((ds.getD i noRel).name.toList == a.1.toList)
    · rfl
    · rw [beq_tx, decide_eq_true_eq, e1] at e
      have := data_inj hd (by omega) hk e
      omega⟩
  rw [hix.code_yes.2, if_pos e2]
theorem drF (L : Nat → Int) (n : Nat) : DrF (dsC L n) (qC L n) := by
  obtain ⟨hG, hm1, hm4⟩ := drawD_ok L n (0, 0)
  have h5 := dsC_5 L n
  have ed : (drawD L n (0, 0)).1 = dsC L n := rfl
  obtain ⟨s, es⟩ : ∃ s, s = (drawD L n (0, 0)).2 := ⟨_, rfl⟩
  have eq : qC L n = chkQ (dsC L n) (drawQ L n (dsC L n) s).1 := by rw [es]; rfl
  rw [ed] at hG
  rw [eq]
  generalize numD L n (0, 0) = m at *
  generalize dsC L n = ds at *
  clear eq ed es
  have hd := hG.ok (by omega)
  have hc := chkQ_ok hG (by omega) L n s
  have hA := atsQ_5 hG (by omega) h5.2 L n s
  obtain ⟨e1, -, -, e4⟩ := drawQ_parts L n ds s
  have hH := (hdQ_nd L n (VL_nd (atsQ L n ds s).1) (atsQ L n ds s).2 _ (Nat.le_refl _)).1
  rw [← e4] at hH
  rw [← e1] at hA
  generalize (drawQ L n ds s).1 = q0 at *
  obtain ⟨q, hq⟩ : ∃ q, q = chkQ ds q0 := ⟨_, rfl⟩
  have hat : ∀ a ∈ q.atoms, AtFb ds a := fun a ha => by rw [hq] at ha; exact hA a (List.mem_of_mem_take ha)
  have hhd : NdT q.head := by rw [hq]; exact List.Pairwise.filter _ hH
  have hht : ∀ x ∈ q.head, hasT (VL q.atoms q.atoms.length) x = true := fun x hx => by rw [hq] at hx ⊢; exact (List.mem_filter.1 hx).2
  rw [← hq] at hc ⊢
  have hok : OkQ q := okq_of hc.1 hc.2.1 hc.2.2
  have hsh : shapeB q = true := hc.1
  have hfew : q.atoms.length ≤ 5 := hc.2.1.few
  have h55 := VL_5 hat
  have hd' : dataB ds = true := hd
  refine ⟨?_, hok, h5.1, h55, hsh, fun a ha => (hc.2.1.ok a ha).2⟩
  unfold checkP
  rw [if_neg (by rw [hd']; decide), if_neg (by rw [hsh]; decide), if_neg (by omega), find_range_none fun i hi => by
    rw [decide_eq_false_iff_not]
    exact fun h => h (atF_code hd' (hat _ (getD_memG hi)))]
  dsimp only
  rw [if_neg (by omega), find_range_none fun j hj => by
    unfold headBad
    rw [hht _ (getD_memG hj), Bool.not_true, Bool.false_or]
    unfold hasT
    rw [List.any_eq_false]
    intro x hx
    obtain ⟨i, hi, rfl⟩ := List.getElem_of_mem hx
    rw [List.length_take] at hi
    have := List.pairwise_iff_getElem.1 hhd i j (by omega) hj (by omega)
    rw [List.getElem_take, getD_ofF hj, this]
    decide]
theorem DrF.bd {ds : List RelV} {q : QV} (h : DrF ds q) {tl : List TbR} (hl : tl.length = if (checkP ds q).1 = 0 then q.atoms.length else 0) (ht : ∀ j, j < tl.length → TabOf ds (VL q.atoms q.atoms.length) (q.atoms.getD j noAt) (tl.getD j noTb)) : BdF ds q tl := by
  rw [if_pos h.zc] at hl
  exact ⟨h.zc, h.ok, hl, ht, h.val, h.five⟩
theorem DrF.vars {ds : List RelV} {q : QV} (h : DrF ds q) : varsQ q = VL q.atoms q.atoms.length := by
  unfold varsQ
  rw [if_pos h.shp]

end Go.Proofs.YtoodbpijgnbfjaaGreat
