import Derived.Deep.RegionHeld3
import Derived.Test.YtcgboccdffgkfaaDoorPa34
import Derived.Test.YtcgboccdffgkfaaDoorPa41
import Derived.Test.YtcgboccdffgkfaaDoorPa43
/-
  Rows put in their places, and tuples sorted at the end: the same.
-/
namespace Go.Proofs.YtcgboccdffgkfaaDoor
open Go.RowKit

/-- zeros behind the row -/
def ztT (ar : Nat) (x : T3) : Prop := (ar ≤ 1 → x.b = 0) ∧ (ar ≤ 2 → x.c = 0)
theorem tl_take {ar : Nat} (h1 : 1 ≤ ar) (h3 : ar ≤ 3) {x y : T3} (hx : ztT ar x) (hy : ztT ar y) (h : (tl x).take ar = (tl y).take ar) : x = y := by
  obtain rfl | rfl | rfl : ar = 1 ∨ ar = 2 ∨ ar = 3 := by omega
  · have e : x.a = y.a := by simpa [tl] using h
    exact T3.ext3 e (by rw [hx.1 (by omega), hy.1 (by omega)]) (by rw [hx.2 (by omega), hy.2 (by omega)])
  · have e : x.a = y.a ∧ x.b = y.b := by simpa [tl] using h
    exact T3.ext3 e.1 e.2 (by rw [hx.2 (by omega), hy.2 (by omega)])
  · exact tl_inj (by simpa [tl] using h)
theorem cmp_take {ar : Nat} (h1 : 1 ≤ ar) (h3 : ar ≤ 3) {x y : T3} (hx : ztT ar x) (hy : ztT ar y) : cmpL ((tl x).take ar) ((tl y).take ar) = cmpL (tl x) (tl y) := by
  obtain rfl | rfl | rfl : ar = 1 ∨ ar = 2 ∨ ar = 3 := by omega
  · simp only [tl, List.take, cmpL, hx.1 (by omega : (1:Nat) ≤ 1), hy.1 (by omega : (1:Nat) ≤ 1), hx.2 (by omega : (1:Nat) ≤ 2), hy.2 (by omega : (1:Nat) ≤ 2), Int.lt_irrefl, if_false]
  · simp only [tl, List.take, cmpL, hx.2 (by omega : (2:Nat) ≤ 2), hy.2 (by omega : (2:Nat) ≤ 2), Int.lt_irrefl, if_false]
  · rfl
/-- ascending, all different -/
def LtT (a b : T3) : Prop := cmpL (tl a) (tl b) < 0
theorem LtT.no {a b : T3} (h : LtT a b) (k : LtT b a) : False := by
  unfold LtT at *
  have := cmpL_neg (tl a) (tl b)
  omega
theorem LtT.irr {a : T3} (h : LtT a a) : False := h.no h
theorem srt_uniq : ∀ {l1 l2 : List T3}, l1.Pairwise LtT → l2.Pairwise LtT → (∀ x, x ∈ l1 ↔ x ∈ l2) → l1 = l2
  | [], [], _, _, _ => rfl
  | [], b :: r2, _, _, h => absurd ((h b).2 (List.mem_cons_self ..)) (by simp)
  | a :: r1, [], _, _, h => absurd ((h a).1 (List.mem_cons_self ..)) (by simp)
  | a :: r1, b :: r2, h1, h2, h => by
    rw [List.pairwise_cons] at h1 h2
    have e : a = b := by
      rcases List.mem_cons.1 ((h a).1 (List.mem_cons_self ..)) with e | ha
      · exact e
      · rcases List.mem_cons.1 ((h b).2 (List.mem_cons_self ..)) with e | hb
        · exact e.symm
        · exact ((h1.1 b hb).no (h2.1 a ha)).elim
    subst e
    rw [srt_uniq h1.2 h2.2 fun x => ?_]
    constructor
    · intro hx
      rcases List.mem_cons.1 ((h x).1 (List.mem_cons_of_mem _ hx)) with e | hx2
      · subst e; exact (h1.1 x hx).irr.elim
      · exact hx2
    · intro hx
      rcases List.mem_cons.1 ((h x).2 (List.mem_cons_of_mem _ hx)) with e | hx2
      · subst e; exact (h2.1 x hx).irr.elim
      · exact hx2
theorem strict_of {ss : List T3} (h : ss.Pairwise fun a b => ¬ cmpL (tl b) (tl a) < 0) (hn : ss.Nodup) : ss.Pairwise LtT := by
  rw [List.pairwise_iff_getElem] at h ⊢
  intro i j hi hj hij
  have h1 := h i j hi hj hij
  unfold LtT
  have h2 := cmpL_neg (tl ss[i]) (tl ss[j])
  rcases Int.lt_trichotomy (cmpL (tl ss[i]) (tl ss[j])) 0 with e | e | e
  · exact e
  · have e1 := tl_inj (cmpL_eq e)
    exact absurd e1 ((List.pairwise_iff_getElem.1 hn) i j hi hj hij)
  · omega
theorem relOf_uniq {r : RdV} {d d2 : RelV} (hn : (r.rs.map Prod.fst).Nodup) (h : RelOf r d) (h2 : RelOf r d2) : d = d2 := by
  obtain ⟨ss, p1, s1, e1, e2⟩ := h.ex
  obtain ⟨ss2, p2, s2, f1, f2⟩ := h2.ex
  have := srt_uniq (strict_of s1 (p1.nodup_iff.2 hn)) (strict_of s2 (p2.nodup_iff.2 hn)) (fun x => by rw [p1.mem_iff, p2.mem_iff])
  subst this
  cases d
  cases d2
  have hn1 := h.name
  have hn2 := h2.name
  have ha1 := h.ar
  have ha2 := h2.ar
  simp only at *
  subst hn1 ha1 e1 e2 f1 f2
  rw [hn2, ha2]

/-- what holds of the rows so far -/
def GoodR (r : RdV) : Prop := (r.rs.map Prod.fst).Nodup ∧ (∀ x ∈ r.rs.map Prod.fst, ztT r.ar x) ∧ 1 ≤ r.ar ∧ r.ar ≤ 3

theorem valT_upd {rs : List (T3 × Int)} (hn : (rs.map Prod.fst).Nodup) (x y : T3) (v : Int) (hy : y ∈ (updT rs x v).map Prod.fst) : valT (updT rs x v) y = if y = x then v else valT rs y := by
  have key : ∀ {l : List (T3 × Int)}, (l.map Prod.fst).Nodup → ∀ p ∈ l, valT l p.1 = p.2 := fun {l} hl p hp => by
    unfold valT
    cases hf : l.find? (fun q => decide (q.1 = p.1)) with
    | none =>
      rw [List.find?_eq_none] at hf
      exact absurd (hf p hp) (by simp)
    | some q =>
      have h1 := List.find?_some hf
      have h2 := List.mem_of_find?_eq_some hf
      simp only [decide_eq_true_eq] at h1
      have e : q = p := by
        obtain ⟨i, hi, ei⟩ := List.getElem_of_mem h2
        obtain ⟨j, hj, ej⟩ := List.getElem_of_mem hp
        have hpw := List.pairwise_iff_getElem.1 hl
        rcases Nat.lt_trichotomy i j with hl1 | hl1 | hl1
        · have := hpw i j (by simpa using hi) (by simpa using hj) hl1
          simp only [List.getElem_map, ei, ej] at this
          exact absurd h1 this
        · subst hl1; rw [← ei, ← ej]
        · have := hpw j i (by simpa using hj) (by simpa using hi) hl1
          simp only [List.getElem_map, ei, ej] at this
          exact absurd h1.symm this
      rw [e]; rfl
  have hnu : ((updT rs x v).map Prod.fst).Nodup := by
    rw [updT_keys]
    split
    · exact hn
    · rename_i hno
      refine List.nodup_append.2 ⟨hn, by simp, fun a ha c hc => ?_⟩
      rw [List.mem_singleton] at hc
      subst hc
      exact fun e => hno (e ▸ ha)
  obtain ⟨p, hp, rfl⟩ := List.mem_map.1 hy
  rw [key hnu p hp]
  rcases updT_mem hp with ⟨e1, e2⟩ | ⟨e1, e2⟩
  · rw [if_pos e1, e2]
  · rw [if_neg e1, key hn p e2]

theorem map_putL {α β : Type} (g : α → β) (l : List α) (k : Nat) (there : Bool) (x : α) : (putL l k there x).map g = putL (l.map g) k there (g x) := by
  unfold putL
  rw [List.map_append, List.map_append, List.map_take, List.map_drop]; rfl

/-- a row put in its place -/
theorem relOf_put {r : RdV} {d : RelV} (hg : GoodR r) (h : RelOf r d) {x : T3} (hx : ztT r.ar x) (v : Int) {k : Nat} {there : Bool} (hF : FndA d.rows ((tl x).take r.ar) k there) :
    there = decide (x ∈ r.rs.map Prod.fst) ∧ (putL d.rows k there ((tl x).take r.ar)).length = (updT r.rs x v).length ∧ RelOf ⟨r.nm, r.ar, updT r.rs x v⟩ ⟨d.name, d.ar, putL d.rows k there ((tl x).take r.ar), putL d.ws k there v⟩ := by
  obtain ⟨hn, hz, h1, h3⟩ := hg
  obtain ⟨ss, hp, hs, e1, e2⟩ := h.ex
  have hnd : ss.Nodup := hp.nodup_iff.2 hn
  have hst := strict_of hs hnd
  have hzs : ∀ y ∈ ss, ztT r.ar y := fun y hy => hz y (hp.mem_iff.1 hy)
  have hlen : d.rows.length = ss.length := by rw [e1]; unfold rowsT; rw [List.length_map]
  have hget : ∀ i (hi : i < ss.length), d.rows.getD i [] = (tl ss[i]).take r.ar := fun i hi => by rw [e1]; unfold rowsT; rw [List.getD_eq_getElem?_getD, List.getElem?_map, List.getElem?_eq_getElem hi]; rfl
  obtain ⟨hk, hlt, hge, hth⟩ := hF
  have hcmp : ∀ i (hi : i < ss.length), cmpL (d.rows.getD i []) ((tl x).take r.ar) = cmpL (tl ss[i]) (tl x) := fun i hi => by rw [hget i hi]; exact cmp_take h1 h3 (hzs _ (List.getElem_mem _)) hx
  have hbef : ∀ i (hi : i < ss.length), i < k → LtT ss[i] x := fun i hi hik => by have := hlt i hik; rw [hcmp i hi] at this; exact this
  have hpw := List.pairwise_iff_getElem.1 hst
  cases hb : there
  · rw [hb] at hth
    have hno : x ∉ ss := fun hm => by
      obtain ⟨j, hj, ej⟩ := List.getElem_of_mem hm
      rcases Nat.lt_or_ge j k with hjk | hjk
      · have := hbef j hj hjk; rw [ej] at this; exact this.irr
      · have hkl : k < d.rows.length := by omega
        rcases Nat.eq_or_lt_of_le hjk with e | e
        · subst e
          have hc := hcmp k hj
          rw [ej, cmpL_self] at hc
          exact absurd (hth.2 ⟨hkl, hc⟩) (by decide)
        · have hks : k < ss.length := by omega
          have h4 := hpw k j hks hj e
          rw [ej] at h4
          have := hge hkl
          rw [hcmp k hks] at this
          exact this h4
    have hnk : x ∉ r.rs.map Prod.fst := fun hm => hno (hp.mem_iff.2 hm)
    have haft : ∀ i (hi : i < ss.length), k ≤ i → LtT x ss[i] := fun i hi hik => by
      have hkl : k < d.rows.length := by omega
      have hks : k < ss.length := by omega
      have h5 : LtT x ss[k] := by
        have h6 := hge hkl
        have h7 : ¬ cmpL (d.rows.getD k []) ((tl x).take r.ar) = 0 := fun e => absurd (hth.2 ⟨hkl, e⟩) (by decide)
        rw [hcmp k hks] at h6 h7
        unfold LtT
        have := cmpL_neg (tl x) (tl ss[k])
        omega
      rcases Nat.eq_or_lt_of_le hik with e | e
      · subst e; exact h5
      · exact cmpL_trans h5 (hpw k i hks hi e)
    have hps : (putL ss k false x).Perm (ss ++ [x]) := by
      unfold putL afterK
      simp only [Bool.false_eq_true, if_false]
      have : (ss.take k ++ [x] ++ ss.drop k).Perm (ss.take k ++ ss.drop k ++ [x]) := by
        rw [List.append_assoc, List.append_assoc]
        exact List.Perm.append_left _ List.perm_append_comm
      rw [List.take_append_drop] at this
      exact this
    refine ⟨by rw [decide_eq_false hnk], ?_, h.name, h.ar, putL ss k false x, ?_, ?_, ?_, ?_⟩
    · rw [putL_len _ _ _ hk, updT_len, if_neg hnk]
      have := hp.length_eq
      rw [List.length_map] at this
      unfold afterK
      simp
      omega
    · rw [updT_keys, if_neg hnk]
      exact hps.trans (List.Perm.append_right _ hp)
    · have hlt2 : (putL ss k false x).Pairwise LtT := by
        unfold putL afterK
        simp only [Bool.false_eq_true, if_false]
        rw [List.append_assoc, List.pairwise_append]
        refine ⟨hst.sublist (List.take_sublist ..), ?_, fun a ha b hb => ?_⟩
        · rw [List.singleton_append, List.pairwise_cons]
          refine ⟨fun b hb => ?_, hst.sublist (List.drop_sublist ..)⟩
          obtain ⟨i, hi, ei⟩ := List.getElem_of_mem hb
          rw [List.getElem_drop] at ei
          rw [← ei]
          rw [List.length_drop] at hi
          exact haft _ (by omega) (by omega)
        · obtain ⟨i, hi, ei⟩ := List.getElem_of_mem ha
          rw [List.getElem_take] at ei
          rw [List.length_take] at hi
          rcases List.mem_append.1 hb with hb | hb
          · rw [List.mem_singleton] at hb
            subst hb
            rw [← ei]
            exact hbef i (by omega) (by omega)
          · obtain ⟨j, hj, ej⟩ := List.getElem_of_mem hb
            rw [List.getElem_drop] at ej
            rw [List.length_drop] at hj
            rw [← ei, ← ej]
            exact hpw i (k + j) (by omega) (by omega) (by omega)
      exact hlt2.imp fun hab hba => LtT.no hab hba
    · show putL d.rows k false ((tl x).take r.ar) = rowsT r.ar (putL ss k false x)
      unfold rowsT
      rw [map_putL, e1]; rfl
    · show putL d.ws k false v = wtsT (updT r.rs x v) (putL ss k false x)
      have hm : (putL ss k false x).map (valT (updT r.rs x v)) = putL (ss.map (valT r.rs)) k false v := by
        have hmem : ∀ y ∈ ss, valT (updT r.rs x v) y = valT r.rs y := fun y hy => by
          have hne : y ≠ x := fun e => hno (e ▸ hy)
          rw [valT_upd hn x y v (by rw [updT_keys, if_neg hnk]; exact List.mem_append_left _ (hp.mem_iff.1 hy)), if_neg hne]
        have hxv : valT (updT r.rs x v) x = v := by
          rw [valT_upd hn x x v (by rw [updT_keys, if_neg hnk]; exact List.mem_append_right _ (List.mem_singleton.2 rfl)), if_pos rfl]
        rw [map_putL, hxv]
        congr 1
        exact List.map_congr_left hmem
      unfold wtsT
      rw [hm, e2]; rfl
  · rw [hb] at hth
    obtain ⟨hkl, hc0⟩ := hth.1 rfl
    have hks : k < ss.length := by omega
    have hxk : ss[k] = x := by
      rw [hcmp k hks] at hc0
      exact tl_inj (cmpL_eq hc0)
    have hmx : x ∈ ss := by rw [← hxk]; exact List.getElem_mem _
    have hmk : x ∈ r.rs.map Prod.fst := hp.mem_iff.1 hmx
    have hput : ∀ {α : Type} (l : List α) (y : α) (hl : k < l.length), l[k] = y → putL l k true y = l := fun {α} l y hl hy => by
      unfold putL afterK
      simp only [if_true]
      rw [← hy, List.append_assoc, List.singleton_append, List.getElem_cons_drop, List.take_append_drop]
    refine ⟨by rw [decide_eq_true hmk], ?_, h.name, h.ar, ss, ?_, hs, ?_, ?_⟩
    · rw [putL_len _ _ _ hk, updT_len, if_pos hmk]
      have := hp.length_eq
      rw [List.length_map] at this
      unfold afterK
      simp
      omega
    · rw [updT_keys, if_pos hmk]; exact hp
    · show putL d.rows k true ((tl x).take r.ar) = rowsT r.ar ss
      rw [← e1]
      refine hput d.rows _ hkl ?_
      have := hget k hks
      rw [List.getD_eq_getElem?_getD, List.getElem?_eq_getElem hkl, Option.getD_some, hxk] at this
      exact this
    · show putL d.ws k true v = wtsT (updT r.rs x v) ss
      have hm : (putL ss k true x).map (valT (updT r.rs x v)) = ss.map (valT (updT r.rs x v)) := by rw [hput ss x hks hxk]
      have hxv : valT (updT r.rs x v) x = v := by rw [valT_upd hn x x v (by rw [updT_keys, if_pos hmk]; exact hmk), if_pos rfl]
      unfold wtsT
      rw [← hm, map_putL, hxv, e2]
      unfold wtsT putL
      have ht : ∀ y, y ∈ ss.take k → valT r.rs y = valT (updT r.rs x v) y := fun y hy => by
        have hys : y ∈ ss := List.mem_of_mem_take hy
        have hne : y ≠ x := fun e => by
          obtain ⟨i, hi, ei⟩ := List.getElem_of_mem hy
          rw [List.getElem_take] at ei
          rw [List.length_take] at hi
          have := hpw i k (by omega) hks (by omega)
          rw [ei, hxk, e] at this
          exact this.irr
        rw [valT_upd hn x y v (by rw [updT_keys, if_pos hmk]; exact hp.mem_iff.1 hys), if_neg hne]
      have hd : ∀ y, y ∈ ss.drop (k + 1) → valT r.rs y = valT (updT r.rs x v) y := fun y hy => by
        have hys : y ∈ ss := List.mem_of_mem_drop hy
        have hne : y ≠ x := fun e => by
          obtain ⟨i, hi, ei⟩ := List.getElem_of_mem hy
          rw [List.getElem_drop] at ei
          rw [List.length_drop] at hi
          have := hpw k (k + 1 + i) hks (by omega) (by omega)
          rw [ei, hxk, e] at this
          exact this.irr
        rw [valT_upd hn x y v (by rw [updT_keys, if_pos hmk]; exact hp.mem_iff.1 hys), if_neg hne]
      unfold afterK
      simp only [if_true]
      rw [← List.map_take, ← List.map_drop, ← List.map_take, ← List.map_drop, List.map_congr_left ht, List.map_congr_left hd]

end Go.Proofs.YtcgboccdffgkfaaDoor

/-
  What spec.l2Line says of a line.
-/
namespace Go.Proofs.YtcgboccdffgkfaaDoor
open Go.RowKit

theorem num_alike1 {s : ByteArray} {v : Int} {ok : Bool} (h : l2NumA s.data.toList 1 3 v ok) : ok = (numG s 3 && arityB (numN s 3)) ∧ (ok = true → v = numN s 3) := by
  have hi : ∀ n : Nat, Lib.itoa (n : Int) = Lib.decDigits n := fun n => by unfold Lib.itoa; rw [if_neg (by omega)]; rfl
  unfold numG numN arityB
  cases hr : rdN s.data.toList 3 with
  | some n =>
    obtain ⟨e1, e2⟩ := rdN_some.1 hr
    simp only [Option.getD_some, Option.isSome_some, Bool.true_and]
    by_cases hn : 1 ≤ n
    · obtain ⟨h1, h2⟩ := h.2 (n : Int) (by rw [hi]; exact e1) (by simp; omega) (by omega) (by omega)
      refine ⟨?_, fun _ => h2⟩
      rw [h1, decide_eq_true (by omega : (1 : Int) ≤ (n : Int)), decide_eq_true (by omega : (n : Int) ≤ 3)]; rfl
    · have hz : n = 0 := by omega
      subst hz
      cases ok
      · exact ⟨rfl, fun h' => absurd h' (by decide)⟩
      · obtain ⟨f1, f2, f3⟩ := h.1 rfl
        obtain ⟨k, rfl⟩ : ∃ k : Nat, v = (k : Int) := ⟨v.toNat, by omega⟩
        rw [hi] at f1
        have hk := rdN_some.2 (⟨f1, by omega⟩ : s.data.toList = Lib.decDigits k ∧ k ≤ 3)
        rw [hr] at hk
        simp only [Option.some.injEq] at hk
        omega
  | none =>
    simp only [Option.isSome_none, Bool.false_and]
    cases ok
    · exact ⟨rfl, fun h' => absurd h' (by decide)⟩
    · obtain ⟨f1, f2, f3⟩ := h.1 rfl
      obtain ⟨k, rfl⟩ : ∃ k : Nat, v = (k : Int) := ⟨v.toNat, by omega⟩
      rw [hi] at f1
      have hk := rdN_some.2 (⟨f1, by omega⟩ : s.data.toList = Lib.decDigits k ∧ k ≤ 3)
      rw [hr] at hk; cases hk

/-- whether a relation has the name -/
def namS (ds : List RelV) (s : ByteArray) : Bool := ds.any fun d => d.name.toList == s.toList
theorem relIx_no {ds : List RelV} {s : ByteArray} {z : Int} (h : RelIx ds s z) : (decide (0 ≤ z)) = namS ds s := by
  unfold namS
  rcases h with ⟨rfl, h⟩ | ⟨j, rfl, hj, h1, -⟩
  · rw [show decide ((0 : Int) ≤ -1) = false from rfl]
    symm
    rw [List.any_eq_false]
    intro d hd
    obtain ⟨i, hi, e⟩ := List.getElem_of_mem hd
    have := h i hi
    rw [List.getD_eq_getElem?_getD, List.getElem?_eq_getElem hi, Option.getD_some, e] at this
    rw [this]; simp
  · rw [decide_eq_true (by omega : (0 : Int) ≤ (j : Int))]
    symm
    rw [List.any_eq_true]
    refine ⟨ds.getD j noRel, ?_, h1⟩
    rw [List.getD_eq_getElem?_getD, List.getElem?_eq_getElem hj]
    exact List.getElem_mem _
/-- whether a relation may be told of here -/
def decS (ds : List RelV) (f : List (List UInt8)) : Bool := decide (f.length = 3) && nameB ⟨(f.getD 1 []).toArray⟩ && !((⟨(f.getD 1 []).toArray⟩ : ByteArray).toList == [114, 101, 108]) && !namS ds ⟨(f.getD 1 []).toArray⟩ && !decide (ds.length = 50) && (numG ⟨(f.getD 2 []).toArray⟩ 3 && arityB (numN ⟨(f.getD 2 []).toArray⟩ 3))

/-- blocks of texts and of data stand -/
def KeepU (W W' : World) : Prop := ∀ (k : Nat) (cur : Array Value) (t : TypeId), (t = 9 ∨ t = 24) → W.heap[k]? = some (.cells cur t (0, 0)) → W'.heap[k]? = W.heap[k]?
theorem KeepU.of {W W' : World} (h : ∀ k, k < W.heap.size → W'.heap[k]? = W.heap[k]?) : KeepU W W' := fun k _ _ _ hk => h k (heap_lt hk)
theorem KeepU.below {W W' : World} (h : Below W.heap.size W W') : KeepU W W' := KeepU.of fun k hk => h.block k hk
theorem KeepU.trans {a b c : World} (h : KeepU a b) (k : KeepU b c) : KeepU a c := fun j cur t ht hj => by
  have h1 := h j cur t ht hj
  exact (k j cur t ht (h1.trans hj)).trans h1

/-- a slice of any kind -/
def SlV (x : Value) : Prop := ∃ a n c, x = .slice a n c
/-- how spec.l2Line ends -/
def LinE (w : World) (B : Nat) (ok : Bool) (P : World → Value → Prop) (e : Ending) (w' : World) : Prop := ∃ v', e = .returned (.tuple #[.agg #[v'], .bool ok]) ∧ SlV v' ∧ Below B w w' ∧ KeepU w w' ∧ (ok = true → P w' v')

end Go.Proofs.YtcgboccdffgkfaaDoor

/-
  spec.l2Line at a line that tells of a relation.
-/
namespace Go.Proofs.YtcgboccdffgkfaaDoor
open Go.RowKit

theorem Tryd.infoReS : (Tryd.prog.info? 55).map (fun i => (i.zero, i.size, i.bytes)) = some (some (.agg #[.string ⟨#[]⟩, .int .i64 0, .slice none 0 0, .slice none 0 0]), 4, 72) := by kernel_rfl

/-- the argument and the result in their boxes -/
theorem two_boxes (w : World) (v : Value) : ∃ W1, W1 = (w.alloc (.cells #[v] 24)).alloc (.cells #[.slice none 0 0] 24) ∧ Below w.heap.size w W1 ∧ Boxed W1 w.heap.size 24 v ∧ Boxed W1 (w.heap.size + 1) 24 (.slice none 0 0) := by
  refine ⟨_, rfl, ((Below.refl _ _).alloc (Nat.le_refl _) _).alloc (by simp) _, (Boxed.new w _ _).alloc _, ?_⟩
  have := Boxed.new (w.alloc (.cells #[v] 24)) 24 (.slice none 0 0)
  rw [World.size_alloc] at this
  exact this

theorem KeepU.grown {w W w3 : World} {B n s : Nat} {e : TypeId} {v : Value} {xs : List Value} {o : Obj} (h : KeepU w W) (ho : W.ownsRow B e s v n xs) (he : e ≠ 9 ∧ e ≠ 24) (hg : (W.alloc o).grownBy w3 v.ownBlock) : KeepU w w3 := fun k cur t ht hk => by
  have h1 := h k cur t ht hk
  have hW : W.heap[k]? = some (.cells cur t (0, 0)) := h1.trans hk
  have hne : e ≠ t := by rcases ht with rfl | rfl; exact he.1; exact he.2
  rw [kept_of hg (heap_lt hW) (own_ne ho ⟨_, hW⟩ hne), h1]
theorem KeepU.set {w W : World} {p j : Nat} {y : Value} (h : KeepU w W) (hp : w.heap.size ≤ p) : KeepU w (W.setCell ⟨p, j, none⟩ y) := fun k cur t ht hk => by
  have := heap_lt hk
  rw [Below.heap_setCell _ _ _ _ (show k ≠ p by omega), h k cur t ht hk]
theorem SQ.setD {W : World} {B p off : Nat} {v y : Value} {ds : List RelV} {vr vw : Nat → Value} {us : Nat → List Value} (h : SQ W B v ds vr vw us) (ht : ∃ cur, W.heap[p]? = some (.cells cur 24 (0, 0))) : SQ (W.setCell ⟨p, off, none⟩ y) B v ds vr vw us :=
  ⟨own_keepR h.own ht (by decide), fun i hi => ⟨own_keepR (h.rw i hi).own ht (by decide), (h.rw i hi).len, fun j hj => own_keepR ((h.rw i hi).each j hj) ht (by decide)⟩, fun i hi => own_keepR (h.ow i hi) ht (by decide), h.eq, h.nil⟩

/-- what the line comes to -/
def DecP (B : Nat) (ds : List RelV) (f : List (List UInt8)) (w' : World) (v' : Value) : Prop := ∃ vr vw us, SQ w' B v' (ds ++ [⟨⟨(f.getD 1 []).toArray⟩, (numN ⟨(f.getD 2 []).toArray⟩ 3 : Int), [], []⟩]) vr vw us

set_option maxHeartbeats 8000000 in
set_option maxRecDepth 1000000 in
theorem l2Line_rel (w : World) (B : Nat) (v : Value) (ds : List RelV) (vr vw : Nat → Value) (us : Nat → List Value) (h : SQ w B v ds vr vw us) (hB : B ≤ w.heap.size) (hds : ds.length ≤ 50) (vf : Value) (f : List (List UInt8)) (hf : FS w vf f) (hf1 : 1 ≤ f.length) (hfl : ∀ j, (f.getD j []).length ≤ 1000000) (hrel : f.getD 0 [] = [114, 101, 108]) :
    Calls Tryd.prog 15 #[.agg #[v], vf] w (LinE w B (decS ds f) (DecP B ds f)) := by
  obtain ⟨i0, hi, hz0, hz1, hz2⟩ := info_parts Tryd.infoReS
  obtain ⟨W1, hW1, hB1, hX1, hY1⟩ := two_boxes w v
  obtain ⟨a, c, rfl, hc, hcell⟩ := hf
  obtain ⟨g, o, rfl, hcs⟩ : ∃ g o, a = some ⟨g, o, none⟩ ∧ ∀ j, j < f.length → w.cell? ⟨g, o + j, none⟩ = some (.string ⟨(f.getD j []).toArray⟩) := by
    rcases hcell with e | e
    · omega
    · exact e
  have HCS := hid hcs
  have c0 : W1.cell? ⟨g, o, none⟩ = some (.string ⟨(f.getD 0 []).toArray⟩) := bclR hB1 (by have := hcs 0 (by omega); rw [Nat.add_zero] at this; exact this)
  have q0 : ((⟨(f.getD 0 []).toArray⟩ : ByteArray).toList == [114, 101, 108]) = true := by rw [ByteArray.toList_eq, hrel]; rfl
  obtain ⟨aV, cV, rfl⟩ := own_shapeR h.own
  have HS := hid (h.below hB1)
  have HB1 := hid hB1
  have HX1 := hid hX1
  have HY1 := hid hY1
  have d0 := hX1.cell
  have r0 := hY1.cell
  have rf := hY1.frozen
  have hsz : ∀ j, (⟨(f.getD j []).toArray⟩ : ByteArray).size ≤ 1000000 := fun j => by show (f.getD j []).toArray.size ≤ _; rw [List.size_toArray]; exact hfl j
  have HSZ := hid hsz
  have HNo : Hid (∀ w' x, SlV x → decS ds f = false → Below w.heap.size w w' → LinE w B (decS ds f) (DecP B ds f) (.returned (.tuple #[.agg #[x], .bool false])) w') := hid fun w' x hx hd hb => ⟨x, by rw [hd], hx, hb.mono hB, KeepU.below hb, fun ht => absurd (hd.symm.trans ht) (by decide)⟩
  clear hcell hcs hrel hfl h hB1 hX1 hY1 hsz
  obtain ⟨n, hn⟩ : ∃ n, n = f.length := ⟨_, rfl⟩
  have HN := hid hn
  rw [← hn] at hc hf1 ⊢
  clear hn
  have hn0 : (0 : Int) < (n : Int) := by omega
  by_cases h3 : n = 3
  · subst h3
    have c1 : W1.cell? ⟨g, o + 1, none⟩ = some (.string ⟨(f.getD 1 []).toArray⟩) := bclR HB1.out (HCS.out 1 (by rw [← HN.out]; decide))
    have c2 : W1.cell? ⟨g, o + 2, none⟩ = some (.string ⟨(f.getD 2 []).toArray⟩) := bclR HB1.out (HCS.out 2 (by rw [← HN.out]; decide))
    have KN : Hid (∀ W, Calls Tryd.prog 32 #[.string ⟨(f.getD 1 []).toArray⟩] W fun e w' => e = .returned (.bool (nameB ⟨(f.getD 1 []).toArray⟩)) ∧ w' = W) := hid fun W => l2Name_calls W _ (by have := HSZ.out 1; omega)
    have HDn : Hid (decS ds f = (nameB ⟨(f.getD 1 []).toArray⟩ && !((⟨(f.getD 1 []).toArray⟩ : ByteArray).toList == [114, 101, 108]) && !namS ds ⟨(f.getD 1 []).toArray⟩ && !decide (ds.length = 50) && (numG ⟨(f.getD 2 []).toArray⟩ 3 && arityB (numN ⟨(f.getD 2 []).toArray⟩ 3)))) := hid (by unfold decS; rw [decide_eq_true HN.out.symm, Bool.true_and])
    cases hnm : nameB ⟨(f.getD 1 []).toArray⟩
    · have HD : Hid (decS ds f = false) := hid (by rw [HDn.out, hnm]; rfl)
      rw [hnm] at KN
      clear hnm HDn
      generalize (⟨(f.getD 0 []).toArray⟩ : ByteArray) = f0 at *
      generalize (⟨(f.getD 1 []).toArray⟩ : ByteArray) = f1 at *
      generalize ds.length = ld at *
      go_enter Tryd.func15, Tryd.ntmps15
      go_upto_region 1 with fail
      rw [← hW1]
      clear hW1
      go_upto_region 2 with fail
      go_quiet (first | (go_at_call 32; exact Calls.quiet_of_same (KN.out _)) | fail)
      have HBq := hid (bt HB1.out (below_drewN (Below.refl _ _) nq))
      have d0' := bclR (below_drewN (Below.refl _ _) nq) d0
      have r0' := bclR (below_drewN (Below.refl _ _) nq) r0
      have rf' : (W1.drewN nq).frozen? ⟨w.heap.size + 1, 0, none⟩ = false := rf
      generalize W1.drewN nq = wq at *
      go_wp2_with fail
      refine bodyPost_ret (v := .tuple #[.agg #[.slice aV ld cV], .bool false]) (by simp [results, Tryd.results15, go_sem, r0']) rfl ?_
      exact HNo.out _ _ ⟨_, _, _, rfl⟩ HD.out (HBq.out.setCell (by simp) _)
    · rw [hnm] at KN HDn
      cases hq : ((⟨(f.getD 1 []).toArray⟩ : ByteArray).toList == [114, 101, 108])
      · rw [hq] at HDn
        have KR0 : Hid (∀ W, (W.cell? ⟨w.heap.size, 0, none⟩ = some (.slice aV ds.length cV) ∧ W.cell? ⟨g, o + 1, none⟩ = some (.string ⟨(f.getD 1 []).toArray⟩) ∧ Below W1.heap.size W1 W) → Calls Tryd.prog 33 #[.agg #[.slice aV ds.length cV], .string ⟨(f.getD 1 []).toArray⟩] W fun e w' => (if namS ds ⟨(f.getD 1 []).toArray⟩ then ∃ j : Nat, e = .returned (.int .i64 (j : Int)) else e = .returned (.int .i64 (-1))) ∧ Below W1.heap.size W1 w') := hid fun W hW => by
          refine (l2Rel_calls W _ ds _ (HS.out.below hW.2.2).irels (by omega)).mono ?_
          rintro e w' ⟨z, rfl, hz, hb⟩
          refine ⟨?_, bt hW.2.2 hb⟩
          have e1 := relIx_no hz
          rcases hz with ⟨rfl, -⟩ | ⟨j, rfl, -⟩
          · rw [← e1]; rfl
          · rw [← e1, decide_eq_true (by omega : (0 : Int) ≤ (j : Int)), if_pos rfl]; exact ⟨j, rfl⟩
        have HSS : Hid (∀ W, Below W1.heap.size W1 W → W.cell? ⟨w.heap.size, 0, none⟩ = some (.slice aV ds.length cV) ∧ W.cell? ⟨g, o + 1, none⟩ = some (.string ⟨(f.getD 1 []).toArray⟩) ∧ Below W1.heap.size W1 W) := hid fun W hW => ⟨bclR hW d0, bclR hW c1, hW⟩
        cases hkn : namS ds ⟨(f.getD 1 []).toArray⟩
        · rw [hkn] at HDn
          have KR : Hid (∀ W, (W.cell? ⟨w.heap.size, 0, none⟩ = some (.slice aV ds.length cV) ∧ W.cell? ⟨g, o + 1, none⟩ = some (.string ⟨(f.getD 1 []).toArray⟩) ∧ Below W1.heap.size W1 W) → Calls Tryd.prog 33 #[.agg #[.slice aV ds.length cV], .string ⟨(f.getD 1 []).toArray⟩] W fun e w' => e = .returned (.int .i64 (-1)) ∧ Below W1.heap.size W1 w') := hid fun W hW => (KR0.out W hW).mono fun e w' h => by rw [hkn, if_neg (by decide)] at h; exact h
          have HSW : Hid (∀ W, (W.cell? ⟨w.heap.size, 0, none⟩ = some (.slice aV ds.length cV) ∧ W.cell? ⟨g, o + 1, none⟩ = some (.string ⟨(f.getD 1 []).toArray⟩) ∧ Below W1.heap.size W1 W) → Below W1.heap.size W1 W) := hid fun W hW => hW.2.2
          obtain ⟨b50, q5⟩ : ∃ b50, ((ds.length : Int) == 50) = b50 := ⟨_, rfl⟩
          have HQ5 := hid q5
          have KNu : Hid (∀ W, Calls Tryd.prog 34 #[.string ⟨(f.getD 2 []).toArray⟩, .int .i64 1, .int .i64 3] W fun e w' => ∃ x : Int, e = .returned (.tuple #[.int .i64 x, .bool (numG ⟨(f.getD 2 []).toArray⟩ 3 && arityB (numN ⟨(f.getD 2 []).toArray⟩ 3))]) ∧ ((numG ⟨(f.getD 2 []).toArray⟩ 3 && arityB (numN ⟨(f.getD 2 []).toArray⟩ 3)) = true → x = numN ⟨(f.getD 2 []).toArray⟩ 3) ∧ Below W.heap.size W w') := hid fun W => (l2Number_calls W ⟨(f.getD 2 []).toArray⟩ 1 3 (by have := HSZ.out 2; omega)).mono fun e w' ⟨x, ok, h1, h2, h3⟩ => by
            obtain ⟨e1, e2⟩ := num_alike1 h2
            exact ⟨x, by rw [← e1]; exact h1, by rw [← e1]; exact e2, h3⟩
          have HD5 : Hid (b50 = true → decS ds f = false) := hid fun hb => by
            have hl : ds.length = 50 := by
              have e := HQ5.out
              rw [hb] at e
              have := eq_of_beq e
              omega
            rw [HDn.out, decide_eq_true hl]; rfl
          have HD6 : Hid (b50 = false → decS ds f = (numG ⟨(f.getD 2 []).toArray⟩ 3 && arityB (numN ⟨(f.getD 2 []).toArray⟩ 3))) := hid fun hb => by
            have hl : ds.length ≠ 50 := fun e => by
              have e2 := HQ5.out
              rw [hb, e] at e2
              cases e2
            rw [HDn.out, decide_eq_false hl]; simp
          have HY : Hid (∀ w' x, SlV x → decS ds f = true → DecP B ds f w' x → Below B w w' → KeepU w w' → LinE w B (decS ds f) (DecP B ds f) (.returned (.tuple #[.agg #[x], .bool true])) w') := hid fun w' x hx hd hp hb hk => ⟨x, by rw [hd], hx, hb, hk, fun _ => hp⟩
          have HNB : Hid (∀ w' x, SlV x → decS ds f = false → Below B w w' → KeepU w w' → LinE w B (decS ds f) (DecP B ds f) (.returned (.tuple #[.agg #[x], .bool false])) w') := hid fun w' x hx hd hb hk => ⟨x, by rw [hd], hx, hb, hk, fun ht => absurd (hd.symm.trans ht) (by decide)⟩
          have HP : Hid (∀ w' x vr' vw' us', SQ w' B x (ds ++ [⟨⟨(f.getD 1 []).toArray⟩, (numN ⟨(f.getD 2 []).toArray⟩ 3 : Int), [], []⟩]) vr' vw' us' → DecP B ds f w' x) := hid fun w' x vr' vw' us' h => ⟨vr', vw', us', h⟩
          clear hnm HDn hkn KR0 HCS HSZ HN
          generalize hPP : DecP B ds f = PP at *
          clear hPP
          generalize decS ds f = dS at *
          generalize (⟨(f.getD 0 []).toArray⟩ : ByteArray) = f0 at *
          generalize (⟨(f.getD 1 []).toArray⟩ : ByteArray) = f1 at *
          generalize (⟨(f.getD 2 []).toArray⟩ : ByteArray) = f2 at *
          generalize (numG f2 3 && arityB (numN f2 3)) = gA at *
          generalize numN f2 3 = nA at *
          go_enter Tryd.func15, Tryd.ntmps15
          go_upto_region 1 with fail
          rw [← hW1]
          clear hW1
          go_upto_region 2 with fail
          go_cut [51] from 22 to 51 (fun b wx => b = .bool b50 ∧ Hid (Below W1.heap.size W1 wx))
          case first =>
            first | go_region_held3 (fun W => W.cell? ⟨w.heap.size, 0, none⟩ = some (.slice aV ds.length cV) ∧ W.cell? ⟨g, o + 1, none⟩ = some (.string f1) ∧ Below W1.heap.size W1 W)
                (first | exact HSS.out _ (Below.refl _ _).drew | exact HSS.out _ hb6 | (refine HSS.out _ ?_; assumption) | fail)
                (first | (go_at_call 32; refine (KN.out _).mono ?_; rintro e w5 ⟨rfl, rfl⟩) | (go_at_call 33; refine (KR.out _ ?_).mono ?_; assumption; rintro e w6 ⟨rfl, hb6⟩) | fail) | fail
            all_goals (go_wp2_with fail; go_meet)
            all_goals exact ⟨rfl, hid (HSW.out _ (by assumption))⟩
          case rest =>
            obtain ⟨rfl, hcut⟩ := hcut
            have HBc := hid hcut.out
            clear hcut KN KR HSS HSW q5
            have d1 := bclR HBc.out d0
            have r1 := bclR HBc.out r0
            have rf1 : wc.frozen? ⟨w.heap.size + 1, 0, none⟩ = false := by rw [World.frozen?_of_block (HBc.out.block _ (World.block_lt_of_cell? W1 _ r0))]; exact rf
            have c1' := bclR HBc.out c1
            have c2' := bclR HBc.out c2
            have HSc := hid (HS.out.below HBc.out)
            have HXc := hid (bx_below HX1.out HBc.out)
            have HYc := hid (bx_below HY1.out HBc.out)
            have HBw := hid (bt HB1.out HBc.out)
            clear d0 r0 rf c1 c2 c0 HS HX1 HY1 HBc HB1
            generalize wc = wA at *
            cases b50
            · have HD := hid (HD6.out rfl)
              clear HD5 HD6 HQ5 HNo
              go_upto_region 5 with (first | (go_at_call 34; refine (KNu.out _).mono ?_; rintro e w8 ⟨x8, rfl, hx8, hb8⟩) | fail)
              have HS8 := hid (HSc.out.below hb8)
              have HX8 := hid (bx_below HXc.out hb8)
              have HY8 := hid (bx_below HYc.out hb8)
              have HBw8 := hid (bt HBw.out hb8)
              have HX8v := hid hx8
              have c18 := bclR hb8 c1'
              have c18c : ∀ ob, (w8.alloc ob).cell? ⟨g, o + 1, none⟩ = some (.string f1) := fun ob => bclR ((Below.refl _ _).alloc (Nat.le_refl _) ob) c18
              have d8 := HX8.out.cell
              have d8c : ∀ ob, (w8.alloc ob).cell? ⟨w.heap.size, 0, none⟩ = some (.slice aV ds.length cV) := fun ob => (HX8.out.alloc ob).cell
              have HSd := hid (HS8.out.below (Below.refl w8.heap.size w8).drew)
              have HXd : Hid (Boxed w8.drew w.heap.size 24 (.slice aV ds.length cV)) := hid HX8.out
              have HYd : Hid (Boxed w8.drew (w.heap.size + 1) 24 (.slice none 0 0)) := hid HY8.out
              have HNW : Hid (∀ j u, (relS ⟨f1, x8, [], []⟩ (.slice none 0 0) (.slice none 0 0))[j]? = some u → (w8.drew.alloc (.cells #[.string f1, .int .i64 x8, .slice none 0 0, .slice none 0 0] 55)).cell? ((⟨w8.heap.size, 0, none⟩ : Addr).add j) = some u) := hid (World.news_of_block (World.alloc_heap_new w8.drew _))
              have HONE : Hid (∀ u ∈ relS ⟨f1, x8, [], []⟩ (.slice none 0 0) (.slice none 0 0), u.oneCell' = true) := hid (fun u hu => by simp [relS] at hu; rcases hu with rfl | rfl | rfl | rfl <;> rfl)
              have hb8s := HBw8.out.size
              clear hb8 hx8 c1' c2' d1 r1 rf1 HSc HXc HYc HBw KNu
              go_region_law (first
                | (refine step_append_lies _ (by rfl) _ _ 22 (by rfl) B 55 i0 (.agg #[.string ⟨#[]⟩, .int .i64 0, .slice none 0 0, .slice none 0 0]) 4 72 Tryd.underlying22 hi hz0 hz1 hz2 rfl (by decide) (.slice aV ds.length cV) _ _ (by rfl) (HSd.out.own.alloc _) ⟨w8.heap.size, 0, none⟩ 1 1 (relS ⟨f1, x8, [], []⟩ (.slice none 0 0) (.slice none 0 0)) (by rfl) rfl HNW.out HONE.out (by decide) (by unfold maxLen; omega) (by omega) (by simp; omega) _ rfl ?_; intro g9 cp9 w9 hown9 hgrow9 hat9 hlt9; have bX := bx_grown HXd.out HSd.out.own (by decide) hgrow9; have bY := bx_grown HYd.out HSd.out.own (by decide) hgrow9; have cX := bX.cell; have fX := bX.frozen)
                | fail)
              all_goals
                have bX2 := Boxed.set (Value.slice (some ⟨g9, 0, none⟩) (ds.length + 1) cp9) bX
                have bY2 := bx_set (q := w.heap.size) (y := Value.slice (some ⟨g9, 0, none⟩) (ds.length + 1) cp9) bY (by omega)
                have HN9 := hid (HSd.out.add (nm := f1) (ar := x8) hown9 hgrow9 ⟨_, bX⟩)
                have HB9 : Hid (Below B w (w9.setCell ⟨w.heap.size, 0, none⟩ (.slice (some ⟨g9, 0, none⟩) (ds.length + 1) cp9))) := hid (((((HBw8.out.mono hB).drew).alloc (by simp; omega) _).grown hgrow9 (by simp; omega) (fun k e => (HSd.out.own.lt k e).1)).setCell (by simp; omega) _)
                have HK9 : Hid (KeepU w (w9.setCell ⟨w.heap.size, 0, none⟩ (.slice (some ⟨g9, 0, none⟩) (ds.length + 1) cp9))) := hid (KeepU.set (KeepU.grown (KeepU.below HBw8.out.drew) HSd.out.own (by decide) hgrow9) (Nat.le_refl _))
                have x0 := bX2.cell
                have y0 := bY2.cell
                have y1 := bY2.frozen
                have HY2 := hid bY2
                clear cX fX bX bY hown9 hgrow9 hat9 hlt9 bX2 bY2
                generalize w9.setCell ⟨w.heap.size, 0, none⟩ (.slice (some ⟨g9, 0, none⟩) (ds.length + 1) cp9) = wB at *
                go_wp2_with fail
                refine bodyPost_ret (v := .tuple #[.agg #[.slice (some ⟨g9, 0, none⟩) (ds.length + 1) cp9], .bool gA]) (by simp [results, Tryd.results15, go_sem, y0]) rfl ?_
                have hBf := HB9.out.setCell (p := ⟨w.heap.size + 1, 0, none⟩) (by simp; omega) (.slice (some ⟨g9, 0, none⟩) (ds.length + 1) cp9)
                have hKf : KeepU w (wB.setCell ⟨w.heap.size + 1, 0, none⟩ (.slice (some ⟨g9, 0, none⟩) (ds.length + 1) cp9)) := HK9.out.set (by omega)
                cases gA
                · exact HNB.out _ _ ⟨_, _, _, rfl⟩ HD.out hBf hKf
                · have hx := HX8v.out rfl
                  subst hx
                  exact HY.out _ _ ⟨_, _, _, rfl⟩ HD.out (HP.out _ _ _ _ _ (HN9.out.setD ⟨_, HY2.out⟩)) hBf hKf
            · have HD := hid (HD5.out rfl)
              go_wp2_with fail
              refine bodyPost_ret (v := .tuple #[.agg #[.slice aV ds.length cV], .bool false]) (by simp [results, Tryd.results15, go_sem, r1]) rfl ?_
              exact HNo.out _ _ ⟨_, _, _, rfl⟩ HD.out (HBw.out.setCell (by simp) _)
        · have HD : Hid (decS ds f = false) := hid (by rw [HDn.out, hkn]; rfl)
          have KR : Hid (∀ W, (W.cell? ⟨w.heap.size, 0, none⟩ = some (.slice aV ds.length cV) ∧ W.cell? ⟨g, o + 1, none⟩ = some (.string ⟨(f.getD 1 []).toArray⟩) ∧ Below W1.heap.size W1 W) → Calls Tryd.prog 33 #[.agg #[.slice aV ds.length cV], .string ⟨(f.getD 1 []).toArray⟩] W fun e w' => (∃ j : Nat, e = .returned (.int .i64 (j : Int))) ∧ Below W1.heap.size W1 w') := hid fun W hW => (KR0.out W hW).mono fun e w' h => by rw [hkn, if_pos rfl] at h; exact h
          clear hnm HDn hkn KR0
          generalize (⟨(f.getD 0 []).toArray⟩ : ByteArray) = f0 at *
          generalize (⟨(f.getD 1 []).toArray⟩ : ByteArray) = f1 at *
          generalize ds.length = ld at *
          go_enter Tryd.func15, Tryd.ntmps15
          go_upto_region 1 with fail
          rw [← hW1]
          clear hW1
          go_upto_region 2 with fail
          first | go_region_law (first | (go_simp; go_at_call 32; refine (KN.out _).mono ?_; rintro e w5 ⟨rfl, rfl⟩) | (go_simp; go_at_call 33; refine (KR.out _ (HSS.out _ (Below.refl _ _).drew)).mono ?_; rintro e w6 ⟨⟨z, rfl⟩, hb6⟩; have HB6 := hid hb6; have d6 := bclR hb6 d0; have r6 := bclR hb6 r0; have f6 : w6.frozen? ⟨w.heap.size + 1, 0, none⟩ = false := (by rw [World.frozen?_of_block (hb6.block _ (World.block_lt_of_cell? W1 _ r0))]; exact rf); clear hb6) | fail) | fail
          all_goals
            go_wp2_with fail
            refine bodyPost_ret (v := .tuple #[.agg #[.slice aV ld cV], .bool false]) (by simp [results, Tryd.results15, go_sem, r6]) rfl ?_
            exact HNo.out _ _ ⟨_, _, _, rfl⟩ HD.out ((bt HB1.out HB6.out).setCell (by simp) _)
      · have HD : Hid (decS ds f = false) := hid (by rw [HDn.out, hq]; rfl)
        clear hnm HDn
        generalize (⟨(f.getD 0 []).toArray⟩ : ByteArray) = f0 at *
        generalize (⟨(f.getD 1 []).toArray⟩ : ByteArray) = f1 at *
        generalize ds.length = ld at *
        go_enter Tryd.func15, Tryd.ntmps15
        go_upto_region 1 with fail
        rw [← hW1]
        clear hW1
        go_upto_region 2 with fail
        go_quiet (first | (go_at_call 32; exact Calls.quiet_of_same (KN.out _)) | fail)
        have HBq := hid (bt HB1.out (below_drewN (Below.refl _ _) nq))
        have d0' := bclR (below_drewN (Below.refl _ _) nq) d0
        have r0' := bclR (below_drewN (Below.refl _ _) nq) r0
        have rf' : (W1.drewN nq).frozen? ⟨w.heap.size + 1, 0, none⟩ = false := rf
        generalize W1.drewN nq = wq at *
        go_wp2_with fail
        refine bodyPost_ret (v := .tuple #[.agg #[.slice aV ld cV], .bool false]) (by simp [results, Tryd.results15, go_sem, r0']) rfl ?_
        exact HNo.out _ _ ⟨_, _, _, rfl⟩ HD.out (HBq.out.setCell (by simp) _)
  · have HD : Hid (decS ds f = false) := hid (by unfold decS; rw [decide_eq_false (by rw [← HN.out]; exact h3)]; rfl)
    have q1 : ((n : Int) != 3) = true := by simp; omega
    generalize (⟨(f.getD 0 []).toArray⟩ : ByteArray) = f0 at *
    generalize ds.length = ld at *
    go_enter Tryd.func15, Tryd.ntmps15
    go_upto_region 1 with fail
    rw [← hW1]
    clear hW1
    go_upto_region 2 with fail
    go_quiet (fail)
    have HBq := hid (bt HB1.out (below_drewN (Below.refl _ _) nq))
    have d0' := bclR (below_drewN (Below.refl _ _) nq) d0
    have r0' := bclR (below_drewN (Below.refl _ _) nq) r0
    have rf' : (W1.drewN nq).frozen? ⟨w.heap.size + 1, 0, none⟩ = false := rf
    generalize W1.drewN nq = wq at *
    go_wp2_with fail
    refine bodyPost_ret (v := .tuple #[.agg #[.slice aV ld cV], .bool false]) (by simp [results, Tryd.results15, go_sem, r0']) rfl ?_
    exact HNo.out _ _ ⟨_, _, _, rfl⟩ HD.out (HBq.out.setCell (by simp) _)

end Go.Proofs.YtcgboccdffgkfaaDoor

/-
  spec.l2Put among the relations; what a row's line comes to.
-/
namespace Go.Proofs.YtcgboccdffgkfaaDoor
open Go.RowKit

theorem putL_two {α β : Type} {us : List α} {ls : List β} (hl : us.length = ls.length) {k : Nat} (hk : k ≤ ls.length) (there : Bool) (x : α) (y : β) (d1 : α) (d2 : β) {j : Nat} (hj : j < (putL ls k there y).length) :
    ((putL us k there x).getD j d1 = x ∧ (putL ls k there y).getD j d2 = y) ∨ ∃ j', j' < ls.length ∧ (putL us k there x).getD j d1 = us.getD j' d1 ∧ (putL ls k there y).getD j d2 = ls.getD j' d2 := by
  rw [putL_len ls there y hk] at hj
  have ht1 : (us.take k ++ [x]).length = k + 1 := by rw [List.length_append, List.length_take, List.length_singleton]; omega
  have ht2 : (ls.take k ++ [y]).length = k + 1 := by rw [List.length_append, List.length_take, List.length_singleton]; omega
  unfold putL
  by_cases h1 : j < k
  · refine Or.inr ⟨j, by omega, ?_, ?_⟩
    · rw [List.getD_eq_getElem?_getD, List.getElem?_append_left (by omega), List.getElem?_append_left (by rw [List.length_take]; omega), List.getElem?_take_of_lt h1, ← List.getD_eq_getElem?_getD]
    · rw [List.getD_eq_getElem?_getD, List.getElem?_append_left (by omega), List.getElem?_append_left (by rw [List.length_take]; omega), List.getElem?_take_of_lt h1, ← List.getD_eq_getElem?_getD]
  · by_cases h2 : j = k
    · subst h2
      refine Or.inl ⟨?_, ?_⟩
      · rw [List.getD_eq_getElem?_getD, List.getElem?_append_left (by omega), List.getElem?_append_right (by rw [List.length_take]; omega), List.length_take, show j - min j us.length = 0 by omega]; rfl
      · rw [List.getD_eq_getElem?_getD, List.getElem?_append_left (by omega), List.getElem?_append_right (by rw [List.length_take]; omega), List.length_take, show j - min j ls.length = 0 by omega]; rfl
    · refine Or.inr ⟨afterK k there + (j - (k + 1)), by omega, ?_, ?_⟩
      · rw [List.getD_eq_getElem?_getD, List.getElem?_append_right (by omega), ht1, List.getElem?_drop, ← List.getD_eq_getElem?_getD]
      · rw [List.getD_eq_getElem?_getD, List.getElem?_append_right (by omega), ht2, List.getElem?_drop, ← List.getD_eq_getElem?_getD]

theorem RWs.putL {W w' : World} {B : Nat} {v v1 v2 vrow : Value} {us : List Value} {ls : List (List Int)} {row : List Int} {k n2 : Nat} {there : Bool} {ys : List Value} (h : RWs W B v us ls) (hB : B ≤ W.heap.size) (hk : k ≤ ls.length) (hr : W.ownsRow B 3 1 vrow row.length (row.map (Value.int .i64))) (hp : Pt W w' v1 v2 (putL us k there vrow).length n2 (putL us k there vrow) ys) : RWs w' B v1 (Go.Proofs.YtcgboccdffgkfaaDoor.putL us k there vrow) (Go.Proofs.YtcgboccdffgkfaaDoor.putL ls k there row) := by
  have hl := h.len
  have e : (Go.Proofs.YtcgboccdffgkfaaDoor.putL us k there vrow).length = (Go.Proofs.YtcgboccdffgkfaaDoor.putL ls k there row).length := by rw [putL_len us there vrow (by omega), putL_len ls there row hk, hl]
  refine ⟨by rw [← e]; exact own_base hp.own1 hB, e, fun j hj => ?_⟩
  rcases putL_two hl hk there vrow row undef [] hj with ⟨h1, h2⟩ | ⟨j', hj', h1, h2⟩
  · rw [h1, h2]; exact own_below hr hp.bel
  · rw [h1, h2]; exact own_below (h.each j' hj') hp.bel

theorem l2Put_any {W : World} {B : Nat} {v : Value} {ds : List RelV} {vr vw : Nat → Value} {us : Nat → List Value} (h : SQ W B v ds vr vw us) {i : Nat} (hi : i < ds.length) (h2 : (ds.getD i noRel).rows.length ≤ 2000) (h3 : ∀ j, j < (ds.getD i noRel).rows.length → ((ds.getD i noRel).rows.getD j []).length ≤ 1099511627776) {vrow : Value} {row : List Int} (hr : W.ownsRow B 3 1 vrow row.length (row.map (Value.int .i64))) (hrl : row.length ≤ 1099511627776) (wt : Int) :
    Calls Tryd.prog 35 #[vr i, vw i, vrow, .int .i64 wt] W (PutE W (us i) (ds.getD i noRel).rows (ds.getD i noRel).ws row vrow wt) := by
  have hR := h.rw i hi
  have hW := h.ow i hi
  have hE := h.eq i hi
  have hone : vrow.oneCell' = true := by obtain ⟨a, c, rfl⟩ := own_shapeR hr; rfl
  by_cases he : (ds.getD i noRel).rows = []
  · obtain ⟨e1, e2⟩ := h.nil i hi he
    have hw0 : (ds.getD i noRel).ws = [] := List.eq_nil_of_length_eq_zero (by rw [hE, he]; rfl)
    have hu0 : us i = [] := List.eq_nil_of_length_eq_zero (by rw [hR.len, he]; rfl)
    rw [e1, e2, he, hw0, hu0]
    exact l2Put_first W vrow row wt (own_is hr) hrl
  · have hpos : 0 < (ds.getD i noRel).rows.length := List.length_pos_iff.2 he
    obtain ⟨g1, c1, e1, -, -⟩ := hR.own.form hpos
    obtain ⟨g2, c2, e2, -, -⟩ := hW.form (by omega)
    have hI := hR.iss
    have hc1 : (ds.getD i noRel).rows.length ≤ c1 := by
      rcases hR.own.2 with ⟨e, hz⟩ | ⟨g, cap, cur, e, -, -, hcap, -⟩
      · omega
      · rw [e1] at e; cases e; exact hcap
    have hc2 : (ds.getD i noRel).rows.length ≤ c2 := by
      rcases hW.2 with ⟨e, hz⟩ | ⟨g, cap, cur, e, -, -, hcap, -⟩
      · omega
      · rw [e2] at e; cases e; omega
    have ho1 := hR.own
    rw [e1] at ho1 hI ⊢
    rw [e2] at hW ⊢
    rw [hE] at hW ⊢
    refine l2Put_more W g1 _ c1 g2 c2 vrow (us i) _ _ row wt rfl hR.len hE hc1 hc2 h2 hI h3 (fun j u hj => ?_) (fun u hu => ?_) (fun j u hj => ?_) (own_is hr) hone hrl
    · have hjl := (List.getElem?_eq_some_iff.1 hj).1
      rw [ho1.cellAt j (by have := hR.len; omega)]; exact hj
    · obtain ⟨j, hj, e⟩ := List.getElem_of_mem hu
      have hx := hR.each j (by have := hR.len; omega)
      rw [List.getD_eq_getElem?_getD, List.getElem?_eq_getElem hj, Option.getD_some, e] at hx
      obtain ⟨a, c, rfl⟩ := own_shapeR hx
      rfl
    · have hjl := (List.getElem?_eq_some_iff.1 hj).1
      rw [List.length_map] at hjl
      rw [hW.cellAt j (by omega)]; exact hj

/-- the values of a row's fields -/
def rowF (f : List (List UInt8)) (n : Nat) : List Int := (List.range n).map fun j => (numF (f.getD (j + 1) []) : Int)
/-- whether a row's fields are right -/
def rowB (ar : Nat) (f : List (List UInt8)) : Bool := decide (f.length = ar + 2) && (List.range ar).all (fun j => okF (f.getD (j + 1) [])) && okW (f.getD (ar + 1) [])
/-- what a row's line comes to -/
def RowP (B : Nat) (ds : List RelV) (f : List (List UInt8)) (i ar : Nat) (ok : Bool) (w' : World) (v' : Value) : Prop :=
  ∃ k there, FndA (ds.getD i noRel).rows (rowF f ar) k there ∧ ok = decide ((putL (ds.getD i noRel).rows k there (rowF f ar)).length ≤ 2000) ∧
    ∃ vr vw us, SQ w' B v' (ds.set i ⟨(ds.getD i noRel).name, (ds.getD i noRel).ar, putL (ds.getD i noRel).rows k there (rowF f ar), putL (ds.getD i noRel).ws k there (wtF (f.getD (ar + 1) []))⟩) vr vw us
/-- how spec.l2Line ends at a row's line -/
def RowE (w : World) (B : Nat) (ds : List RelV) (f : List (List UInt8)) (e : Ending) (w' : World) : Prop :=
  ∃ v' ok, e = .returned (.tuple #[.agg #[v'], .bool ok]) ∧ SlV v' ∧ Below B w w' ∧ KeepU w w' ∧
    ((ok = false ∧ (namS ds ⟨(f.getD 0 []).toArray⟩ = false ∨ ∃ i ar : Nat, RelIx ds ⟨(f.getD 0 []).toArray⟩ i ∧ (ds.getD i noRel).ar = ar ∧ rowB ar f = false)) ∨
     ∃ i ar : Nat, RelIx ds ⟨(f.getD 0 []).toArray⟩ i ∧ (ds.getD i noRel).ar = ar ∧ rowB ar f = true ∧ RowP B ds f i ar ok w' v')

end Go.Proofs.YtcgboccdffgkfaaDoor
