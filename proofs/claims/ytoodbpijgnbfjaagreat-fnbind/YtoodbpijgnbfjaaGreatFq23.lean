import Derived.BigQuiet
import Derived.Deep.CutBlock
import Derived.Deep.DeepCutAuto
import Derived.Deep.LoopGhost
import Derived.Deep.QuietTactic
import Derived.Deep.RegionHeld3
import Derived.Deep.RegionHeldLaw
import Derived.Test.YtoodbpijgnbfjaaGreatFq02
import Derived.Test.YtoodbpijgnbfjaaGreatFq05
import Derived.Test.YtoodbpijgnbfjaaGreatFq07
import Derived.Test.YtoodbpijgnbfjaaGreatFq22
namespace Go.Proofs.YtoodbpijgnbfjaaGreat
open Go.RowKit

def hasO (o vars : List Int) (i : Nat) : Bool := decide (o.getD i 0 ∈ vars)
end Go.Proofs.YtoodbpijgnbfjaaGreat

namespace Go.Proofs.YtoodbpijgnbfjaaGreat

def kA (R : List (List Int)) (q : List Int) : Nat := R.findIdx fun r => !decide (cmpL (r.take q.length) q < 0)
def nA (R : List (List Int)) (q : List Int) : Nat := (R.drop (kA R q)).findIdx fun r => !decide (r.take q.length = q)
def nN (m : Nat) (R : List (List Int)) (q : List Int) : List Int := if q.length < m then VA R q (kA R q) (nA R q) else []
section
variable {R : List (List Int)} {q : List Int}
theorem kA_sk (hS : SL R) : Sk R q (kA R q) := by
  have hle : kA R q ≤ R.length := List.findIdx_le_length
  have hlo : ∀ j, j < kA R q → cmpL ((R.getD j []).take q.length) q < 0 := fun j hj => by
    have := List.not_of_lt_findIdx hj
    rw [Bool.not_eq_false', decide_eq_true_eq] at this
    rw [List.getD_eq_getElem?_getD, List.getElem?_eq_getElem (by omega)]
    exact this
  refine ⟨hle, hlo, fun j h1 h2 hc => ?_⟩
  have h3 : kA R q < R.length := by omega
  have h4 := List.findIdx_getElem (w := h3)
  rw [Bool.not_eq_true', decide_eq_false_iff_not] at h4
  refine h4 ?_
  have := sk_down hS h1 h2 hc
  rw [List.getD_eq_getElem?_getD, List.getElem?_eq_getElem h3] at this
  exact this
theorem nA_run : Run R q (kA R q) (nA R q) := by
  have hle : nA R q ≤ (R.drop (kA R q)).length := List.findIdx_le_length
  rw [List.length_drop] at hle
  have hk : kA R q ≤ R.length := List.findIdx_le_length
  refine ⟨by omega, fun j hj => ?_⟩
  have := List.not_of_lt_findIdx hj
  rw [Bool.not_eq_false', decide_eq_true_eq, List.getElem_drop] at this
  rw [List.getD_eq_getElem?_getD, List.getElem?_eq_getElem (by omega)]
  exact this
theorem nA_end (h : kA R q + nA R q < R.length) : (R.getD (kA R q + nA R q) []).take q.length ≠ q := by
  have h1 : nA R q < (R.drop (kA R q)).length := by rw [List.length_drop]; omega
  have h2 : (!decide (((R.drop (kA R q))[nA R q]'h1).take q.length = q)) = true := List.findIdx_getElem (w := h1)
  rw [Bool.not_eq_true', decide_eq_false_iff_not, List.getElem_drop] at h2
  rw [List.getD_eq_getElem?_getD, List.getElem?_eq_getElem h]
  exact h2
end
theorem nN_tm {m : Nat} {R : List (List Int)} (hS : SL R) (hl : ∀ r ∈ R, r.length = m) : TM R (fun p => p = [] ∨ ∃ r ∈ R, p <+: r) (nN m R) := by
  refine ⟨fun p => Iff.rfl, fun p _ x => ?_, fun p _ => ?_⟩
  · unfold nN
    by_cases h : p.length < m
    · rw [if_pos h, VA_all hS (fun r hr => by rw [hl r hr]; exact h) (kA_sk hS) nA_run nA_end]
      constructor
      · exact Or.inr
      · rintro (h1 | h1)
        · simp at h1
        · exact h1
    · rw [if_neg h]
      constructor
      · intro h1; cases h1
      · rintro (h1 | ⟨r, hr, h1⟩)
        · simp at h1
        · have := h1.length_le
          rw [List.length_append, List.length_singleton, hl r hr] at this
          omega
  · unfold nN
    by_cases h : p.length < m
    · rw [if_pos h]
      exact VA_asc hS (fun r hr => by rw [hl r hr]; exact h) _ nA_run
    · rw [if_neg h]; exact List.Pairwise.nil
structure SdM where
  vars : List Int
  rows : List (List Int)
def sdO (o : List Int) (s : SdM) : Sd := ⟨hasO o s.vars, s.rows, nN s.vars.length s.rows⟩
structure SdM.Ok (s : SdM) : Prop where
  sl : SL s.rows
  len : ∀ r ∈ s.rows, r.length = s.vars.length
theorem sdO_ok {o : List Int} {s : SdM} (h : s.Ok) : (sdO o s).Ok := ⟨nN_tm h.sl h.len⟩
end Go.Proofs.YtoodbpijgnbfjaaGreat

namespace Go.Proofs.YtoodbpijgnbfjaaGreat
open Go.RowKit

end Go.Proofs.YtoodbpijgnbfjaaGreat

namespace Go.Proofs.YtoodbpijgnbfjaaGreat
open Go.RowKit

section
variable {P : Program} (w : World)
end
end Go.Proofs.YtoodbpijgnbfjaaGreat

namespace Go.Proofs.YtoodbpijgnbfjaaGreat
open Go.RowKit

def sdT (o : List Int) (t : TbV) : SdM := ⟨shr o t.vs, srt (t.rows.map (prjR t.vs (shr o t.vs)))⟩
theorem sdT_ok (o : List Int) (t : TbV) : (sdT o t).Ok := by
  refine ⟨(srt_ok _ _ (Nat.le_refl _)).1, fun r hr => ?_⟩
  obtain ⟨q, -, rfl⟩ := List.mem_map.1 (((srt_ok _ (t.rows.map (prjR t.vs (shr o t.vs))) (Nat.le_refl _)).2 r).1 hr)
  exact prjR_len _ _ _
structure TvJ (t : TbV) : Prop where
  vs : t.vs.length ≤ 6
  n : t.rows.length ≤ 10000
  len : ∀ r ∈ t.rows, r.length = t.vs.length
end Go.Proofs.YtoodbpijgnbfjaaGreat

namespace Go.Proofs.YtoodbpijgnbfjaaGreat
open Go.RowKit

end Go.Proofs.YtoodbpijgnbfjaaGreat

namespace Go.Proofs.YtoodbpijgnbfjaaGreat
open Go.RowKit

def sdsJ (tl : List TbV) (o : List Int) : List Sd := (tl.map (sdT o)).map (sdO o)
def nxJ (tl : List TbV) (o : List Int) : List Int → List Int := nxtS (sdsJ tl o)
theorem sdsJ_ok (tl : List TbV) (o : List Int) : ∀ s ∈ sdsJ tl o, s.Ok := fun s hs => by
  obtain ⟨m, hm, rfl⟩ := List.mem_map.1 hs
  obtain ⟨t, -, rfl⟩ := List.mem_map.1 hm
  exact sdO_ok (sdT_ok o t)
def empJ (tl : List TbV) : Bool := tl.any fun t => decide (t.rows.length = 0)
def lvJ (tl : List TbV) (o : List Int) (j : Nat) : List (List Int) := if empJ tl then [] else lvlF (nxJ tl o) [] j
theorem lvJ_succ (tl : List TbV) (o : List Int) (j : Nat) : lvJ tl o (j + 1) = (lvJ tl o j).flatMap fun q => (nxJ tl o q).map fun v => q ++ [v] := by
  unfold lvJ
  by_cases h : empJ tl
  · rw [if_pos h, if_pos h]; rfl
  · rw [if_neg h, if_neg h]; rfl
def smJ (tl : List TbV) (o : List Int) (j : Nat) : Bool := (List.range j).all fun i => decide ((lvJ tl o (i + 1)).length ≤ 10000)
def viJ (tl : List TbV) (o : List Int) (j : Nat) : Nat := ((List.range j).map fun i => (lvJ tl o (i + 1)).length).sum
theorem viJ_succ (tl : List TbV) (o : List Int) (j : Nat) : viJ tl o (j + 1) = viJ tl o j + (lvJ tl o (j + 1)).length := by
  unfold viJ
  rw [List.range_succ, List.map_append, List.sum_append]
  simp
theorem smJ_false {tl : List TbV} {o : List Int} {j k : Nat} (hjk : j < k) (h : ¬ (lvJ tl o (j + 1)).length ≤ 10000) : smJ tl o k = false := by
  unfold smJ
  rw [List.all_eq_false]
  exact ⟨j, List.mem_range.2 hjk, by simpa using h⟩
theorem lvJ_zero (tl : List TbV) (o : List Int) : (lvJ tl o 0).length ≤ 1 := by
  unfold lvJ
  by_cases h : empJ tl
  · rw [if_pos h]; exact Nat.zero_le _
  · rw [if_neg h]; exact Nat.le_refl _
theorem lvJ_len {tl : List TbV} {o : List Int} {j : Nat} : ∀ q ∈ lvJ tl o j, q.length = j := fun q hq => by
  unfold lvJ at hq
  by_cases h : empJ tl
  · rw [if_pos h] at hq; cases hq
  · rw [if_neg h] at hq
    have := lvlF_len _ _ j q hq
    simpa using this
theorem hldJ_nil (tl : List TbV) (o : List Int) : Hld (sdsJ tl o) [] := fun s _ => Or.inl (by unfold prt; rfl)
theorem lvJ_hld {tl : List TbV} {o : List Int} {j : Nat} : ∀ q ∈ lvJ tl o j, Hld (sdsJ tl o) q := fun q hq => by
  unfold lvJ at hq
  by_cases h : empJ tl
  · rw [if_pos h] at hq; cases hq
  · rw [if_neg h] at hq
    exact lvlF_hld (sdsJ_ok tl o) (hldJ_nil tl o) j q hq
theorem VA_len (R : List (List Int)) (q : List Int) (k n : Nat) : (VA R q k n).length ≤ n := by
  unfold VA
  rw [List.length_map]
  exact kp_len _ _
theorem nN_len (m : Nat) (R : List (List Int)) (q : List Int) : (nN m R q).length ≤ R.length := by
  unfold nN
  by_cases h : q.length < m
  · rw [if_pos h]
    have := VA_len R q (kA R q) (nA R q)
    have h2 := (nA_run (R := R) (q := q)).le
    omega
  · rw [if_neg h]; exact Nat.zero_le _
theorem sdT_rows (o : List Int) (t : TbV) : (sdT o t).rows.length ≤ t.rows.length := by
  have := srt_len _ (t.rows.map (prjR t.vs (shr o t.vs))) (Nat.le_refl _)
  rw [List.length_map] at this
  exact this
theorem hasO_shr {o vs : List Int} {i : Nat} (hi : i < o.length) : hasO o (shr o vs) i = decide (o.getD i 0 ∈ vs) := by
  unfold hasO
  by_cases h : o.getD i 0 ∈ vs
  · rw [decide_eq_true h]
    refine decide_eq_true (List.mem_filter.2 ⟨?_, decide_eq_true h⟩)
    rw [List.getD_eq_getElem?_getD, List.getElem?_eq_getElem hi]
    exact List.getElem_mem hi
  · rw [decide_eq_false h]
    exact decide_eq_false fun h1 => h (shr_right h1)
theorem prt_cnt (H : Nat → Bool) (p : List Int) : (prt H p).length = ((List.range p.length).filter H).length := by
  unfold prt
  rw [List.length_map]
theorem filter_range {l : List Int} {q : Int → Bool} : ∀ k, k ≤ l.length → ((l.take k).filter q).length = ((List.range k).filter fun i => q (l.getD i 0)).length
  | 0, _ => rfl
  | k + 1, h => by
    have ih := filter_range (l := l) (q := q) k (by omega)
    rw [List.range_succ, List.filter_append, List.length_append, ← ih, take_snoc (show k < l.length by omega), List.filter_append, List.length_append]
    congr 1
    by_cases e : q (l.getD k 0)
    · simp only [List.filter_cons, e, if_true, List.filter_nil, List.length_cons, List.length_nil]
    · simp only [List.filter_cons, e, if_false, List.filter_nil, List.length_nil, Bool.false_eq_true]
theorem prt_shr {o vs p : List Int} (hp : p.length ≤ o.length) : (prt (hasO o (shr o vs)) p).length = ((o.take p.length).filter fun x => decide (x ∈ vs)).length := by
  rw [prt_cnt, filter_range p.length hp]
  congr 1
  refine List.filter_congr fun i hi => ?_
  exact hasO_shr (by have := List.mem_range.1 hi; omega)
theorem cntJ {o vs p : List Int} (hp : p.length < o.length) : (prt (hasO o (shr o vs)) p).length ≤ (shr o vs).length ∧ (hasO o (shr o vs) p.length = true → (prt (hasO o (shr o vs)) p).length < (shr o vs).length) := by
  have e : o.take (p.length + 1) ++ o.drop (p.length + 1) = o := List.take_append_drop _ _
  have hs : (shr o vs).length = ((o.take p.length).filter fun x => decide (x ∈ vs)).length + (if o.getD p.length 0 ∈ vs then 1 else 0) + ((o.drop (p.length + 1)).filter fun x => decide (x ∈ vs)).length := by
    unfold shr
    conv => lhs; rw [← e]
    rw [List.filter_append, List.length_append, take_snoc hp, List.filter_append, List.length_append]
    congr 1
    congr 1
    by_cases h : o.getD p.length 0 ∈ vs
    · rw [if_pos h]; simp only [List.filter_cons, decide_eq_true h, if_true, List.filter_nil, List.length_cons, List.length_nil]
    · rw [if_neg h]; simp only [List.filter_cons, decide_eq_false h, List.filter_nil, List.length_nil, Bool.false_eq_true, if_false]
  rw [prt_shr (by omega), hs]
  refine ⟨by omega, fun h => ?_⟩
  rw [hasO_shr hp, decide_eq_true_eq] at h
  rw [if_pos h]
  omega
def CovJ (tl : List TbV) (o : List Int) : Prop := ∀ i, i < o.length → ∃ t ∈ tl, o.getD i 0 ∈ t.vs
end Go.Proofs.YtoodbpijgnbfjaaGreat

namespace Go.Proofs.YtoodbpijgnbfjaaGreat
open Go.RowKit

theorem Sd.D.pre {s : Sd} {p q : List Int} (h : s.D q) (hp : p <+: q) : s.D p := by
  rcases h with rfl | ⟨r, hr, h⟩
  · exact Or.inl (List.prefix_nil.1 hp)
  · exact Or.inr ⟨r, hr, hp.trans h⟩
theorem Hld.pre {sds : List Sd} {p : List Int} {v : Int} (h : Hld sds (p ++ [v])) : Hld sds p := fun s hs => by
  have h1 := h s hs
  rw [prt_snoc] at h1
  exact h1.pre (List.prefix_append _ _)
theorem nxt_mem {sds : List Sd} (hok : ∀ s ∈ sds, s.Ok) {p : List Int} {v : Int} {g : Sd} (hg : g ∈ sds) (hH : g.H p.length = true) (h : Hld sds (p ++ [v])) : v ∈ nxtS sds p := by
  have hp := h.pre
  have key : ∀ s ∈ sds, s.H p.length = true → v ∈ s.N (prt s.H p) := fun s hs hs1 => by
    have h1 := h s hs
    rw [prt_snoc, if_pos hs1] at h1
    exact ((hok s hs).tm.mem (prt s.H p) (hp s hs) v).2 h1
  rw [nxtS_by hok hg hp hH]
  unfold nxtBy
  exact List.mem_filter.2 ⟨key g hg hH, (mayB_iff _ _ _).2 key⟩
theorem lvl_mem {sds : List Sd} (hok : ∀ s ∈ sds, s.Ok) : ∀ n, (∀ j, j < n → ∃ g ∈ sds, g.H j = true) → ∀ q : List Int, q ∈ lvlF (nxtS sds) [] n ↔ q.length = n ∧ Hld sds q
  | 0, _, q => by
    show q ∈ [[]] ↔ _
    rw [List.mem_singleton]
    refine ⟨?_, fun h => List.eq_nil_of_length_eq_zero h.1⟩
    rintro rfl
    exact ⟨rfl, fun s _ => Or.inl (by unfold prt; rfl)⟩
  | n + 1, hH, q => by
    have ih := lvl_mem hok n fun j hj => hH j (by omega)
    show q ∈ (lvlF (nxtS sds) [] n).flatMap (fun q => (nxtS sds q).map fun v => q ++ [v]) ↔ _
    rw [List.mem_flatMap]
    constructor
    · rintro ⟨p, hp, hq⟩
      obtain ⟨v, hv, rfl⟩ := List.mem_map.1 hq
      obtain ⟨h1, h2⟩ := (ih p).1 hp
      exact ⟨by rw [List.length_append, h1]; rfl, h2.snoc hok hv⟩
    · rintro ⟨h1, h2⟩
      rcases List.eq_nil_or_concat q with rfl | ⟨p, v, rfl⟩
      · simp at h1
      · rw [List.concat_eq_append] at h1 h2 ⊢
        rw [List.length_append, List.length_singleton] at h1
        have hpl : p.length = n := by omega
        obtain ⟨g, hg, hgH⟩ := hH n (by omega)
        exact ⟨p, (ih p).2 ⟨hpl, h2.pre⟩, List.mem_map.2 ⟨v, nxt_mem hok hg (by rw [hpl]; exact hgH) h2, rfl⟩⟩
theorem cmp_app : ∀ {a b : List Int}, a.length = b.length → cmpL a b < 0 → ∀ x y, cmpL (a ++ [x]) (b ++ [y]) < 0
  | [], [], _, h, _, _ => by simp [cmpL] at h
  | a :: l, b :: l2, hl, h, x, y => by
    simp only [List.length_cons, Nat.add_right_cancel_iff] at hl
    rw [List.cons_append, List.cons_append]
    unfold cmpL at h ⊢
    split at h
    · rename_i h1; rw [if_pos h1]; exact h
    · rename_i h1
      rw [if_neg h1]
      split at h
      · rename_i h2; rw [if_pos h2]; exact h
      · rename_i h2; rw [if_neg h2]; exact cmp_app hl h x y
theorem cmp_last : ∀ (a : List Int) {x y : Int}, x < y → cmpL (a ++ [x]) (a ++ [y]) < 0
  | [], x, y, h => by simp [cmpL, h]
  | a :: l, x, y, h => by
    rw [List.cons_append, List.cons_append]
    unfold cmpL
    rw [if_neg (by omega), if_neg (by omega)]
    exact cmp_last l h
theorem lvl_sl {sds : List Sd} (hok : ∀ s ∈ sds, s.Ok) : ∀ n, SL (lvlF (nxtS sds) [] n)
  | 0 => List.pairwise_singleton _ _
  | n + 1 => by
    have ih := lvl_sl hok n
    show ((lvlF (nxtS sds) [] n).flatMap fun q => (nxtS sds q).map fun v => q ++ [v]).Pairwise _
    refine List.pairwise_flatMap.2 ⟨fun q hq => ?_, ?_⟩
    · have hh := lvlF_hld hok (p := []) (fun s _ => Or.inl (by unfold prt; rfl)) n q hq
      exact List.pairwise_map.2 ((nxtS_asc hok hh).imp fun h => cmp_last q h)
    · refine List.Pairwise.imp_of_mem (fun {a b} ha hb h x hx y hy => ?_) ih
      obtain ⟨u, -, rfl⟩ := List.mem_map.1 hx
      obtain ⟨v, -, rfl⟩ := List.mem_map.1 hy
      have la := lvlF_len _ _ n a ha
      have lb := lvlF_len _ _ n b hb
      exact cmp_app (by omega) h u v

end Go.Proofs.YtoodbpijgnbfjaaGreat

namespace Go.Proofs.YtoodbpijgnbfjaaGreat
open Go.RowKit

def hasJ (tl : List TbV) (i : Nat) : Bool := tl.any fun t => decide ((i : Int) ∈ t.vs)
def vrJ (tl : List TbV) : List Int := plc (hasJ tl) 6
theorem vrJ_len (tl : List TbV) : (vrJ tl).length ≤ 6 := plc_le _ _
theorem plc_pw (p : Nat → Bool) (k : Nat) : (plc p k).Pairwise (· < ·) := by
  unfold plc
  refine List.pairwise_map.2 ((List.pairwise_lt_range.filter _).imp fun {a b} h => ?_)
  show (a : Int) < (b : Int)
  omega
theorem vrJ_nodup (tl : List TbV) : (vrJ tl).Nodup := (plc_pw _ _).imp fun {a b} h => by omega
theorem mem_plc {p : Nat → Bool} {k : Nat} {x : Int} : x ∈ plc p k ↔ ∃ i, i < k ∧ p i = true ∧ (i : Int) = x := by
  unfold plc
  rw [List.mem_map]
  constructor
  · rintro ⟨i, hi, rfl⟩
    obtain ⟨h1, h2⟩ := List.mem_filter.1 hi
    exact ⟨i, List.mem_range.1 h1, h2, rfl⟩
  · rintro ⟨i, h1, h2, rfl⟩
    exact ⟨i, List.mem_filter.2 ⟨List.mem_range.2 h1, h2⟩, rfl⟩
theorem perm_of : ∀ {vr o : List Int}, vr.Nodup → (∀ x ∈ vr, x ∈ o) → o.length = vr.length → vr.Perm o
  | [], o, _, _, hl => by
    have : o = [] := List.length_eq_zero_iff.1 hl
    rw [this]
  | a :: r, o, hn, hs, hl => by
    rw [List.nodup_cons] at hn
    have ha := hs a List.mem_cons_self
    have h1 := List.perm_cons_erase ha
    have h2 : r.Perm (o.erase a) := perm_of hn.2 (fun x hx => (List.mem_erase_of_ne (fun e => hn.1 (by rw [← e]; exact hx))).2 (hs x (List.mem_cons_of_mem _ hx))) (by rw [List.length_erase_of_mem ha, hl]; simp)
    exact (h2.cons a).trans h1.symm
def ordJ (tl : List TbV) (o : List Int) : Bool := decide (o.length = (vrJ tl).length) && subQ (vrJ tl) o
theorem ordJ_perm {tl : List TbV} {o : List Int} : ordJ tl o = true ↔ (vrJ tl).Perm o := by
  unfold ordJ
  rw [Bool.and_eq_true, decide_eq_true_eq]
  constructor
  · rintro ⟨h1, h2⟩
    refine perm_of (vrJ_nodup tl) (fun x hx => ?_) h1
    unfold subQ at h2
    rw [List.all_eq_true] at h2
    exact of_decide_eq_true (h2 x hx)
  · intro h
    refine ⟨h.length_eq.symm, ?_⟩
    unfold subQ
    rw [List.all_eq_true]
    exact fun x hx => decide_eq_true (h.subset hx)
theorem ordJ_cov {tl : List TbV} {o : List Int} (h : ordJ tl o = true) : CovJ tl o := fun i hi => by
  have hm : o.getD i 0 ∈ vrJ tl := (ordJ_perm.1 h).symm.subset (by rw [List.getD_eq_getElem?_getD, List.getElem?_eq_getElem hi]; exact List.getElem_mem hi)
  obtain ⟨k, -, h2, h3⟩ := mem_plc.1 hm
  unfold hasJ at h2
  obtain ⟨t, ht, h4⟩ := List.any_eq_true.1 h2
  exact ⟨t, ht, by rw [← h3]; exact of_decide_eq_true h4⟩
def tabJ (t : TbV) : Bool := tableB t.vs t.rows t.ws
theorem tabJ_ok {t : TbV} (h : tabJ t = true) : TvJ t := by
  obtain ⟨h1, h2, h3⟩ := tableB_rows h
  exact ⟨setB_six h1, h2, h3⟩
def okJ (tl : List TbV) (o : List Int) : Bool := decide (tl.length ≤ 8) && tl.all tabJ && ordJ tl o
def rowJ (tl : List TbV) (o : List Int) : List (List Int) := if okJ tl o && smJ tl o o.length then lvJ tl o o.length else []
def visJ (tl : List TbV) (o : List Int) : Int := if okJ tl o && smJ tl o o.length then (viJ tl o o.length : Int) else -1
theorem rowJ_no {tl : List TbV} {o : List Int} (h : okJ tl o = false) : rowJ tl o = [] ∧ visJ tl o = -1 := by
  unfold rowJ visJ
  rw [h]
  exact ⟨rfl, rfl⟩
theorem rowJ_yes {tl : List TbV} {o : List Int} (h : okJ tl o = true) : rowJ tl o = (if smJ tl o o.length then lvJ tl o o.length else []) ∧ visJ tl o = (if smJ tl o o.length then (viJ tl o o.length : Int) else -1) := by
  unfold rowJ visJ
  rw [h, Bool.true_and]
  exact ⟨rfl, rfl⟩
theorem hasJ_take {tl : List TbV} {j : Nat} (hj : j < tl.length) (i : Nat) : hasJ (tl.take (j + 1)) i = (hasJ (tl.take j) i || decide ((i : Int) ∈ (tl.getD j noTv).vs)) := by
  unfold hasJ
  rw [List.take_add_one, List.getElem?_eq_getElem hj, List.any_append, List.getD_eq_getElem?_getD, List.getElem?_eq_getElem hj]
  simp
end Go.Proofs.YtoodbpijgnbfjaaGreat
