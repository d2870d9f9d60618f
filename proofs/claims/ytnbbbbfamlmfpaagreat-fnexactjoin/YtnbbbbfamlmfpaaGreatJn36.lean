import Derived.Test.YtnbbbbfamlmfpaaGreatJn13
import Derived.Test.YtnbbbbfamlmfpaaGreatJn33
import Derived.Test.YtnbbbbfamlmfpaaGreatJn34
/-
  A join's answer: levels, their sizes. Plain mathematics.
-/
namespace Go.Proofs.YtnbbbbfamlmfpaaGreat
open Go.RowKit

def sdsJ (tl : List TbV) (o : List Int) : List Sd := (tl.map (sdT o)).map (sdO o)
def nxJ (tl : List TbV) (o : List Int) : List Int → List Int := nxtS (sdsJ tl o)
theorem sdsJ_ok (tl : List TbV) (o : List Int) : ∀ s ∈ sdsJ tl o, s.Ok := fun s hs => by
  obtain ⟨m, hm, rfl⟩ := List.mem_map.1 hs
  obtain ⟨t, -, rfl⟩ := List.mem_map.1 hm
  exact sdO_ok (sdT_ok o t)
/-- a table without rows -/
def empJ (tl : List TbV) : Bool := tl.any fun t => decide (t.rows.length = 0)
def lvJ (tl : List TbV) (o : List Int) (j : Nat) : List (List Int) := if empJ tl then [] else lvlF (nxJ tl o) [] j
theorem lvJ_succ (tl : List TbV) (o : List Int) (j : Nat) : lvJ tl o (j + 1) = (lvJ tl o j).flatMap fun q => (nxJ tl o q).map fun v => q ++ [v] := by
  unfold lvJ
  by_cases h : empJ tl
  · rw [if_pos h, if_pos h]; rfl
  · rw [if_neg h, if_neg h]; rfl
/-- all levels up to the j-th are small -/
def smJ (tl : List TbV) (o : List Int) (j : Nat) : Bool := (List.range j).all fun i => decide ((lvJ tl o (i + 1)).length ≤ 10000)
def viJ (tl : List TbV) (o : List Int) (j : Nat) : Nat := ((List.range j).map fun i => (lvJ tl o (i + 1)).length).sum
theorem smJ_succ (tl : List TbV) (o : List Int) (j : Nat) : smJ tl o (j + 1) = (smJ tl o j && decide ((lvJ tl o (j + 1)).length ≤ 10000)) := by
  unfold smJ
  rw [List.range_succ, List.all_append]
  simp
theorem viJ_succ (tl : List TbV) (o : List Int) (j : Nat) : viJ tl o (j + 1) = viJ tl o j + (lvJ tl o (j + 1)).length := by
  unfold viJ
  rw [List.range_succ, List.map_append, List.sum_append]
  simp
theorem smJ_false {tl : List TbV} {o : List Int} {j k : Nat} (hjk : j < k) (h : ¬ (lvJ tl o (j + 1)).length ≤ 10000) : smJ tl o k = false := by
  unfold smJ
  rw [List.all_eq_false]
  exact ⟨j, List.mem_range.2 hjk, by simpa using h⟩
theorem viJ_le {tl : List TbV} {o : List Int} : ∀ {j : Nat}, smJ tl o j = true → viJ tl o j ≤ j * 10000
  | 0, _ => Nat.le_refl _
  | j + 1, h => by
    rw [smJ_succ, Bool.and_eq_true, decide_eq_true_eq] at h
    rw [viJ_succ]
    have := viJ_le h.1
    omega
theorem lvJ_zero (tl : List TbV) (o : List Int) : (lvJ tl o 0).length ≤ 1 := by
  unfold lvJ
  by_cases h : empJ tl
  · rw [if_pos h]; exact Nat.zero_le _
  · rw [if_neg h]; exact Nat.le_refl _
theorem smJ_lv {tl : List TbV} {o : List Int} : ∀ {j : Nat}, smJ tl o j = true → (lvJ tl o j).length ≤ 10000
  | 0, _ => Nat.le_trans (lvJ_zero tl o) (by decide)
  | j + 1, h => by
    rw [smJ_succ, Bool.and_eq_true, decide_eq_true_eq] at h
    exact h.2
theorem lvJ_len {tl : List TbV} {o : List Int} {j : Nat} : ∀ q ∈ lvJ tl o j, q.length = j := fun q hq => by
  unfold lvJ at hq
  by_cases h : empJ tl
  · rw [if_pos h] at hq; cases hq
  · rw [if_neg h] at hq
    have := lvlF_len _ _ j q hq
    simpa using this
theorem hldJ_nil (tl : List TbV) (o : List Int) : Hld (sdsJ tl o) [] := fun s _ => Or.inl (by unfold prt; rfl)
theorem lvJ_hld {tl : List TbV} {o : List Int} {j : Nat} : ∀ q ∈ lvJ tl o j, Hld (sdsJ tl o) q := fun q hq => by
  unfold lvJ at hq
  by_cases h : empJ tl
  · rw [if_pos h] at hq; cases hq
  · rw [if_neg h] at hq
    exact lvlF_hld (sdsJ_ok tl o) (hldJ_nil tl o) j q hq
theorem VA_len (R : List (List Int)) (q : List Int) (k n : Nat) : (VA R q k n).length ≤ n := by
  unfold VA
  rw [List.length_map]
  exact kp_len _ _
theorem nN_len (m : Nat) (R : List (List Int)) (q : List Int) : (nN m R q).length ≤ R.length := by
  unfold nN
  by_cases h : q.length < m
  · rw [if_pos h]
    have := VA_len R q (kA R q) (nA R q)
    have h2 := (nA_run (R := R) (q := q)).le
    omega
  · rw [if_neg h]; exact Nat.zero_le _
theorem sdT_rows (o : List Int) (t : TbV) : (sdT o t).rows.length ≤ t.rows.length := by
  have := srt_len _ (t.rows.map (prjR t.vs (shr o t.vs))) (Nat.le_refl _)
  rw [List.length_map] at this
  exact this
theorem nxJ_len {tl : List TbV} {o : List Int} (hok : ∀ t ∈ tl, TvJ t) (p : List Int) : (nxJ tl o p).length ≤ 10000 := by
  unfold nxJ nxtS
  cases hf : (sdsJ tl o).find? (fun s => s.H p.length) with
  | none => exact Nat.zero_le _
  | some f =>
    have hm := List.mem_of_find?_eq_some hf
    unfold sdsJ at hm
    obtain ⟨m, hm2, rfl⟩ := List.mem_map.1 hm
    obtain ⟨t, ht, rfl⟩ := List.mem_map.1 hm2
    show (nxtBy (sdsJ tl o) (sdO o (sdT o t)) p).length ≤ 10000
    unfold nxtBy
    refine Nat.le_trans (List.length_filter_le _ _) (Nat.le_trans (nN_len _ _ _) (Nat.le_trans (sdT_rows o t) (hok t ht).n))
theorem hasO_shr {o vs : List Int} {i : Nat} (hi : i < o.length) : hasO o (shr o vs) i = decide (o.getD i 0 ∈ vs) := by
  unfold hasO
  by_cases h : o.getD i 0 ∈ vs
  · rw [decide_eq_true h]
    refine decide_eq_true (List.mem_filter.2 ⟨?_, decide_eq_true h⟩)
    rw [List.getD_eq_getElem?_getD, List.getElem?_eq_getElem hi]
    exact List.getElem_mem hi
  · rw [decide_eq_false h]
    exact decide_eq_false fun h1 => h (shr_right h1)
/-- how many of the first places a side has -/
theorem prt_cnt (H : Nat → Bool) (p : List Int) : (prt H p).length = ((List.range p.length).filter H).length := by
  unfold prt
  rw [List.length_map]
theorem filter_range {l : List Int} {q : Int → Bool} : ∀ k, k ≤ l.length → ((l.take k).filter q).length = ((List.range k).filter fun i => q (l.getD i 0)).length
  | 0, _ => rfl
  | k + 1, h => by
    have ih := filter_range (l := l) (q := q) k (by omega)
    rw [List.range_succ, List.filter_append, List.length_append, ← ih, take_snoc (show k < l.length by omega), List.filter_append, List.length_append]
    congr 1
    by_cases e : q (l.getD k 0)
    · simp only [List.filter_cons, e, if_true, List.filter_nil, List.length_cons, List.length_nil]
    · simp only [List.filter_cons, e, if_false, List.filter_nil, List.length_nil, Bool.false_eq_true]
theorem prt_shr {o vs p : List Int} (hp : p.length ≤ o.length) : (prt (hasO o (shr o vs)) p).length = ((o.take p.length).filter fun x => decide (x ∈ vs)).length := by
  rw [prt_cnt, filter_range p.length hp]
  congr 1
  refine List.filter_congr fun i hi => ?_
  exact hasO_shr (by have := List.mem_range.1 hi; omega)
theorem cntJ {o vs p : List Int} (hp : p.length < o.length) : (prt (hasO o (shr o vs)) p).length ≤ (shr o vs).length ∧ (hasO o (shr o vs) p.length = true → (prt (hasO o (shr o vs)) p).length < (shr o vs).length) := by
  have e : o.take (p.length + 1) ++ o.drop (p.length + 1) = o := List.take_append_drop _ _
  have hs : (shr o vs).length = ((o.take p.length).filter fun x => decide (x ∈ vs)).length + (if o.getD p.length 0 ∈ vs then 1 else 0) + ((o.drop (p.length + 1)).filter fun x => decide (x ∈ vs)).length := by
    unfold shr
    conv => lhs; rw [← e]
    rw [List.filter_append, List.length_append, take_snoc hp, List.filter_append, List.length_append]
    congr 1
    congr 1
    by_cases h : o.getD p.length 0 ∈ vs
    · rw [if_pos h]; simp only [List.filter_cons, decide_eq_true h, if_true, List.filter_nil, List.length_cons, List.length_nil]
    · rw [if_neg h]; simp only [List.filter_cons, decide_eq_false h, List.filter_nil, List.length_nil, Bool.false_eq_true, if_false]
  rw [prt_shr (by omega), hs]
  refine ⟨by omega, fun h => ?_⟩
  rw [hasO_shr hp, decide_eq_true_eq] at h
  rw [if_pos h]
  omega
/-- every variable of the order is some table's -/
def CovJ (tl : List TbV) (o : List Int) : Prop := ∀ i, i < o.length → ∃ t ∈ tl, o.getD i 0 ∈ t.vs
theorem fstJ {tl : List TbV} {o : List Int} (h : CovJ tl o) {i : Nat} (hi : i < o.length) : fstK o (tl.map (sdT o)) i < (tl.map (sdT o)).length := by
  obtain ⟨t, ht, h1⟩ := h i hi
  exact fstK_lt ⟨sdT o t, List.mem_map_of_mem ht, by show hasO o (shr o t.vs) i = true; rw [hasO_shr hi]; exact decide_eq_true h1⟩

end Go.Proofs.YtnbbbbfamlmfpaaGreat

/-
  The variables of tables; what an order of them is. Plain mathematics.
-/
namespace Go.Proofs.YtnbbbbfamlmfpaaGreat
open Go.RowKit

def hasJ (tl : List TbV) (i : Nat) : Bool := tl.any fun t => decide ((i : Int) ∈ t.vs)
def vrJ (tl : List TbV) : List Int := plc (hasJ tl) 6
theorem vrJ_len (tl : List TbV) : (vrJ tl).length ≤ 6 := plc_le _ _
theorem plc_pw (p : Nat → Bool) (k : Nat) : (plc p k).Pairwise (· < ·) := by
  unfold plc
  refine List.pairwise_map.2 ((List.pairwise_lt_range.filter _).imp fun {a b} h => ?_)
  show (a : Int) < (b : Int)
  omega
theorem vrJ_nodup (tl : List TbV) : (vrJ tl).Nodup := (plc_pw _ _).imp fun {a b} h => by omega
theorem mem_plc {p : Nat → Bool} {k : Nat} {x : Int} : x ∈ plc p k ↔ ∃ i, i < k ∧ p i = true ∧ (i : Int) = x := by
  unfold plc
  rw [List.mem_map]
  constructor
  · rintro ⟨i, hi, rfl⟩
    obtain ⟨h1, h2⟩ := List.mem_filter.1 hi
    exact ⟨i, List.mem_range.1 h1, h2, rfl⟩
  · rintro ⟨i, h1, h2, rfl⟩
    exact ⟨i, List.mem_filter.2 ⟨List.mem_range.2 h1, h2⟩, rfl⟩
theorem perm_of : ∀ {vr o : List Int}, vr.Nodup → (∀ x ∈ vr, x ∈ o) → o.length = vr.length → vr.Perm o
  | [], o, _, _, hl => by
    have : o = [] := List.length_eq_zero_iff.1 hl
    rw [this]
  | a :: r, o, hn, hs, hl => by
    rw [List.nodup_cons] at hn
    have ha := hs a List.mem_cons_self
    have h1 := List.perm_cons_erase ha
    have h2 : r.Perm (o.erase a) := perm_of hn.2 (fun x hx => (List.mem_erase_of_ne (fun e => hn.1 (by rw [← e]; exact hx))).2 (hs x (List.mem_cons_of_mem _ hx))) (by rw [List.length_erase_of_mem ha, hl]; simp)
    exact (h2.cons a).trans h1.symm
/-- the order is one of just the tables' variables -/
def ordJ (tl : List TbV) (o : List Int) : Bool := decide (o.length = (vrJ tl).length) && subQ (vrJ tl) o
theorem ordJ_perm {tl : List TbV} {o : List Int} : ordJ tl o = true ↔ (vrJ tl).Perm o := by
  unfold ordJ
  rw [Bool.and_eq_true, decide_eq_true_eq]
  constructor
  · rintro ⟨h1, h2⟩
    refine perm_of (vrJ_nodup tl) (fun x hx => ?_) h1
    unfold subQ at h2
    rw [List.all_eq_true] at h2
    exact of_decide_eq_true (h2 x hx)
  · intro h
    refine ⟨h.length_eq.symm, ?_⟩
    unfold subQ
    rw [List.all_eq_true]
    exact fun x hx => decide_eq_true (h.subset hx)
theorem ordJ_cov {tl : List TbV} {o : List Int} (h : ordJ tl o = true) : CovJ tl o := fun i hi => by
  have hm : o.getD i 0 ∈ vrJ tl := (ordJ_perm.1 h).symm.subset (by rw [List.getD_eq_getElem?_getD, List.getElem?_eq_getElem hi]; exact List.getElem_mem hi)
  obtain ⟨k, -, h2, h3⟩ := mem_plc.1 hm
  unfold hasJ at h2
  obtain ⟨t, ht, h4⟩ := List.any_eq_true.1 h2
  exact ⟨t, ht, by rw [← h3]; exact of_decide_eq_true h4⟩
def tabJ (t : TbV) : Bool := tableB t.vs t.rows t.ws
theorem tabJ_ok {t : TbV} (h : tabJ t = true) : TvJ t := by
  obtain ⟨h1, h2, h3⟩ := tableB_rows h
  exact ⟨setB_six h1, h2, h3⟩
/-- all is as Join wants it -/
def okJ (tl : List TbV) (o : List Int) : Bool := decide (tl.length ≤ 8) && tl.all tabJ && ordJ tl o
/-- what Join answers -/
def rowJ (tl : List TbV) (o : List Int) : List (List Int) := if okJ tl o && smJ tl o o.length then lvJ tl o o.length else []
def visJ (tl : List TbV) (o : List Int) : Int := if okJ tl o && smJ tl o o.length then (viJ tl o o.length : Int) else -1
theorem rowJ_no {tl : List TbV} {o : List Int} (h : okJ tl o = false) : rowJ tl o = [] ∧ visJ tl o = -1 := by
  unfold rowJ visJ
  rw [h]
  exact ⟨rfl, rfl⟩
theorem rowJ_yes {tl : List TbV} {o : List Int} (h : okJ tl o = true) : rowJ tl o = (if smJ tl o o.length then lvJ tl o o.length else []) ∧ visJ tl o = (if smJ tl o o.length then (viJ tl o o.length : Int) else -1) := by
  unfold rowJ visJ
  rw [h, Bool.true_and]
  exact ⟨rfl, rfl⟩
theorem hasJ_take {tl : List TbV} {j : Nat} (hj : j < tl.length) (i : Nat) : hasJ (tl.take (j + 1)) i = (hasJ (tl.take j) i || decide ((i : Int) ∈ (tl.getD j noTv).vs)) := by
  unfold hasJ
  rw [List.take_add_one, List.getElem?_eq_getElem hj, List.any_append, List.getD_eq_getElem?_getD, List.getElem?_eq_getElem hj]
  simp
theorem vrJ_take {tl : List TbV} {j : Nat} (hj : j < tl.length) : plc (fun i : Nat => decide ((i : Int) ∈ vrJ (tl.take j)) || decide ((i : Int) ∈ (tl.getD j noTv).vs)) 6 = vrJ (tl.take (j + 1)) := by
  unfold vrJ plc
  congr 1
  refine List.filter_congr fun i hi => ?_
  rw [hasJ_take hj]
  congr 1
  rw [Bool.eq_iff_iff, decide_eq_true_eq]
  show (i : Int) ∈ plc (hasJ (tl.take j)) 6 ↔ _
  rw [mem_plc]
  constructor
  · rintro ⟨k, -, h1, h2⟩
    have : k = i := by omega
    rw [← this]; exact h1
  · intro h
    exact ⟨i, List.mem_range.1 hi, h, rfl⟩

end Go.Proofs.YtnbbbbfamlmfpaaGreat

/-
  spec.l5Join.
-/
namespace Go.Proofs.YtnbbbbfamlmfpaaGreat
open Go.RowKit

theorem bl_alloc' {A X : World} (h : Below A.heap.size A X) (o : Obj) : Below A.heap.size A (X.alloc o) := h.alloc h.size o
/-- rows, none of them nil -/
def ISSn (w : World) (v : Value) (ls : List (List Int)) : Prop := ∃ a cap, v = .slice a ls.length cap ∧ (ls.length = 0 ∨ ∃ b o, a = some ⟨b, o, none⟩ ∧ ∀ j, j < ls.length → ∃ ad c, w.cell? ⟨b, o + j, none⟩ = some (.slice (some ad) (ls.getD j []).length c) ∧ IS w (.slice (some ad) (ls.getD j []).length c) (ls.getD j []))
theorem ISSn.below {w w' : World} {v : Value} {ls : List (List Int)} (h : ISSn w v ls) (hb : Below w.heap.size w w') : ISSn w' v ls := by
  obtain ⟨a, cap, e, h1⟩ := h
  refine ⟨a, cap, e, ?_⟩
  rcases h1 with h1 | ⟨b, o, ea, h1⟩
  · exact Or.inl h1
  · refine Or.inr ⟨b, o, ea, fun j hj => ?_⟩
    obtain ⟨ad, c, h2, h3⟩ := h1 j hj
    exact ⟨ad, c, upJ2 hb h2, h3.below hb⟩
theorem ISSn.iss {w : World} {v : Value} {ls : List (List Int)} (h : ISSn w v ls) : ISS w v ls := by
  obtain ⟨a, cap, e, h1⟩ := h
  refine ⟨a, cap, e, ?_⟩
  rcases h1 with h1 | ⟨b, o, ea, h1⟩
  · exact Or.inl h1
  · refine Or.inr ⟨b, o, ea, fun j hj => ?_⟩
    obtain ⟨ad, c, h2, h3⟩ := h1 j hj
    exact ⟨_, h2, h3⟩
theorem RQ.issn {W : World} {B : Nat} {v : Value} {us : List Value} {ls : List (List Int)} (h : RQ W B v us ls) (hp : ∀ i, i < ls.length → 0 < (ls.getD i []).length) : ISSn W v ls := by
  obtain ⟨a, cap, e, -⟩ := h.rs.sl
  refine ⟨a, cap, e, ?_⟩
  by_cases h0 : ls.length = 0
  · exact Or.inl h0
  · obtain ⟨g, cap', e', -, -⟩ := h.get (i := 0) (by omega)
    rw [e] at e'
    simp only [Value.slice.injEq] at e'
    refine Or.inr ⟨g, 0, e'.1, fun j hj => ?_⟩
    obtain ⟨g2, cap2, e2, -, hc⟩ := h.get hj
    rw [e] at e2
    simp only [Value.slice.injEq] at e2
    have hg : g2 = g := by have := e2.1.symm.trans e'.1; simpa using this
    subst hg
    have ho := h.each j hj
    obtain ⟨g3, c3, e3, -⟩ := own_at ho (hp j hj)
    refine ⟨⟨g3, 0, none⟩, c3, by rw [Nat.zero_add, hc, e3], ?_⟩
    rw [← e3]
    exact own_is ho
theorem newsN {w : World} {ad : Addr} {n c : Nat} {l : List Int} (h : IS w (.slice (some ad) n c) l) : ∀ j u, (l.map (Value.int .i64))[j]? = some u → w.cell? (ad.add j) = some u := fun j u hu => by
  have hj : j < l.length := by
    rcases Nat.lt_or_ge j l.length with h | h
    · exact h
    · rw [List.getElem?_eq_none (by simpa using h)] at hu; cases hu
  obtain ⟨a', c', e, hh⟩ := h
  simp only [Value.slice.injEq] at e
  rcases hh with h0 | ⟨b, o, ea, hh⟩
  · omega
  · have e2 : ad = ⟨b, o, none⟩ := Option.some.inj (e.1.trans ea)
    rw [e2, show ((⟨b, o, none⟩ : Addr).add j) = ⟨b, o + j, none⟩ by unfold Addr.add; split <;> simp_all, hh j hj, ← hu, List.getElem?_map, List.getD_eq_getElem?_getD, List.getElem?_eq_getElem hj]
    rfl
theorem ISds.below {W W' : World} {v : Value} {ss : List SdM} (h : ISds W v ss) (hb : Below W.heap.size W W') : ISds W' v ss := by
  obtain ⟨a, cap, e, h1⟩ := h
  refine ⟨a, cap, e, h1.imp id ?_⟩
  rintro ⟨b, o, ea, h2⟩
  exact ⟨b, o, ea, fun j hj => (h2 j hj).below hb⟩
/-- the first rows of a level, each with what may follow it -/
def nxL (f : List Int → List Int) (L : List (List Int)) (i : Nat) : List (List Int) := (L.take i).flatMap fun q => (f q).map fun v => q ++ [v]
theorem nxL_succ (f : List Int → List Int) {L : List (List Int)} {i : Nat} (hi : i < L.length) : nxL f L (i + 1) = nxL f L i ++ (f (L.getD i [])).map fun v => L.getD i [] ++ [v] := by
  unfold nxL
  rw [List.take_add_one, List.getElem?_eq_getElem hi, List.flatMap_append, List.getD_eq_getElem?_getD, List.getElem?_eq_getElem hi]
  simp
theorem nxL_le (f : List Int → List Int) (L : List (List Int)) (i : Nat) : (nxL f L i).length ≤ (L.flatMap fun q => (f q).map fun v => q ++ [v]).length := by
  have e : L.flatMap (fun q => (f q).map fun v => q ++ [v]) = nxL f L i ++ (L.drop i).flatMap fun q => (f q).map fun v => q ++ [v] := by
    unfold nxL
    rw [← List.flatMap_append, List.take_append_drop]
  rw [e, List.length_append]
  omega
def mxL (q : List Int) (xs : List Int) (m : Nat) : List (List Int) := (xs.take m).map fun v => q ++ [v]
theorem mxL_succ {q xs : List Int} {m : Nat} (h : m < xs.length) : mxL q xs (m + 1) = mxL q xs m ++ [q ++ [xs.getD m 0]] := by
  unfold mxL
  rw [take_snoc h, List.map_append]
  rfl
theorem mxL_len {q xs : List Int} {m : Nat} (h : m ≤ xs.length) : (mxL q xs m).length = m := by
  unfold mxL
  rw [List.length_map, List.length_take]
  omega

end Go.Proofs.YtnbbbbfamlmfpaaGreat
