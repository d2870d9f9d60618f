import Derived.Test.YtcdfoephhjacdaaDoorQ36
import Derived.Test.YtcdfoephhjacdaaDoorQ43
import Derived.Test.YtcdfoephhjacdaaDoorQ45
/-
  Rows put in their places, and tuples sorted at the end: the same.
-/
namespace Go.Proofs.YtcdfoephhjacdaaDoor
open Go.RowKit

/-- zeros behind the row -/
def ztT (ar : Nat) (x : T3) : Prop := (ar ≤ 1 → x.b = 0) ∧ (ar ≤ 2 → x.c = 0)
theorem tl_take {ar : Nat} (h1 : 1 ≤ ar) (h3 : ar ≤ 3) {x y : T3} (hx : ztT ar x) (hy : ztT ar y) (h : (tl x).take ar = (tl y).take ar) : x = y := by
  obtain rfl | rfl | rfl : ar = 1 ∨ ar = 2 ∨ ar = 3 := by omega
  · have e : x.a = y.a := by simpa [tl] using h
    exact T3.ext3 e (by rw [hx.1 (by omega), hy.1 (by omega)]) (by rw [hx.2 (by omega), hy.2 (by omega)])
  · have e : x.a = y.a ∧ x.b = y.b := by simpa [tl] using h
    exact T3.ext3 e.1 e.2 (by rw [hx.2 (by omega), hy.2 (by omega)])
  · exact tl_inj (by simpa [tl] using h)
theorem cmp_take {ar : Nat} (h1 : 1 ≤ ar) (h3 : ar ≤ 3) {x y : T3} (hx : ztT ar x) (hy : ztT ar y) : cmpL ((tl x).take ar) ((tl y).take ar) = cmpL (tl x) (tl y) := by
  obtain rfl | rfl | rfl : ar = 1 ∨ ar = 2 ∨ ar = 3 := by omega
  · simp only [tl, List.take, cmpL, hx.1 (by omega : (1:Nat) ≤ 1), hy.1 (by omega : (1:Nat) ≤ 1), hx.2 (by omega : (1:Nat) ≤ 2), hy.2 (by omega : (1:Nat) ≤ 2), Int.lt_irrefl, if_false]
  · simp only [tl, List.take, cmpL, hx.2 (by omega : (2:Nat) ≤ 2), hy.2 (by omega : (2:Nat) ≤ 2), Int.lt_irrefl, if_false]
  · rfl
/-- ascending, all different -/
def LtT (a b : T3) : Prop := cmpL (tl a) (tl b) < 0
theorem LtT.no {a b : T3} (h : LtT a b) (k : LtT b a) : False := by
  unfold LtT at *
  have := cmpL_neg (tl a) (tl b)
  omega
theorem LtT.irr {a : T3} (h : LtT a a) : False := h.no h
theorem srt_uniq : ∀ {l1 l2 : List T3}, l1.Pairwise LtT → l2.Pairwise LtT → (∀ x, x ∈ l1 ↔ x ∈ l2) → l1 = l2
  | [], [], _, _, _ => rfl
  | [], b :: r2, _, _, h => absurd ((h b).2 (List.mem_cons_self ..)) (by simp)
  | a :: r1, [], _, _, h => absurd ((h a).1 (List.mem_cons_self ..)) (by simp)
  | a :: r1, b :: r2, h1, h2, h => by
    rw [List.pairwise_cons] at h1 h2
    have e : a = b := by
      rcases List.mem_cons.1 ((h a).1 (List.mem_cons_self ..)) with e | ha
      · exact e
      · rcases List.mem_cons.1 ((h b).2 (List.mem_cons_self ..)) with e | hb
        · exact e.symm
        · exact ((h1.1 b hb).no (h2.1 a ha)).elim
    subst e
    rw [srt_uniq h1.2 h2.2 fun x => ?_]
    constructor
    · intro hx
      rcases List.mem_cons.1 ((h x).1 (List.mem_cons_of_mem _ hx)) with e | hx2
      · subst e; exact (h1.1 x hx).irr.elim
      · exact hx2
    · intro hx
      rcases List.mem_cons.1 ((h x).2 (List.mem_cons_of_mem _ hx)) with e | hx2
      · subst e; exact (h2.1 x hx).irr.elim
      · exact hx2
theorem strict_of {ss : List T3} (h : ss.Pairwise fun a b => ¬ cmpL (tl b) (tl a) < 0) (hn : ss.Nodup) : ss.Pairwise LtT := by
  rw [List.pairwise_iff_getElem] at h ⊢
  intro i j hi hj hij
  have h1 := h i j hi hj hij
  unfold LtT
  have h2 := cmpL_neg (tl ss[i]) (tl ss[j])
  rcases Int.lt_trichotomy (cmpL (tl ss[i]) (tl ss[j])) 0 with e | e | e
  · exact e
  · have e1 := tl_inj (cmpL_eq e)
    exact absurd e1 ((List.pairwise_iff_getElem.1 hn) i j hi hj hij)
  · omega
theorem relOf_uniq {r : RdV} {d d2 : RelV} (hn : (r.rs.map Prod.fst).Nodup) (h : RelOf r d) (h2 : RelOf r d2) : d = d2 := by
  obtain ⟨ss, p1, s1, e1, e2⟩ := h.ex
  obtain ⟨ss2, p2, s2, f1, f2⟩ := h2.ex
  have := srt_uniq (strict_of s1 (p1.nodup_iff.2 hn)) (strict_of s2 (p2.nodup_iff.2 hn)) (fun x => by rw [p1.mem_iff, p2.mem_iff])
  subst this
  cases d
  cases d2
  have hn1 := h.name
  have hn2 := h2.name
  have ha1 := h.ar
  have ha2 := h2.ar
  simp only at *
  subst hn1 ha1 e1 e2 f1 f2
  rw [hn2, ha2]

/-- what holds of the rows so far -/
def GoodR (r : RdV) : Prop := (r.rs.map Prod.fst).Nodup ∧ (∀ x ∈ r.rs.map Prod.fst, ztT r.ar x) ∧ 1 ≤ r.ar ∧ r.ar ≤ 3

theorem valT_upd {rs : List (T3 × Int)} (hn : (rs.map Prod.fst).Nodup) (x y : T3) (v : Int) (hy : y ∈ (updT rs x v).map Prod.fst) : valT (updT rs x v) y = if y = x then v else valT rs y := by
  have key : ∀ {l : List (T3 × Int)}, (l.map Prod.fst).Nodup → ∀ p ∈ l, valT l p.1 = p.2 := fun {l} hl p hp => by
    unfold valT
    cases hf : l.find? (fun q => decide (q.1 = p.1)) with
    | none =>
      rw [List.find?_eq_none] at hf
      exact absurd (hf p hp) (by simp)
    | some q =>
      have h1 := List.find?_some hf
      have h2 := List.mem_of_find?_eq_some hf
      simp only [decide_eq_true_eq] at h1
      have e : q = p := by
        obtain ⟨i, hi, ei⟩ := List.getElem_of_mem h2
        obtain ⟨j, hj, ej⟩ := List.getElem_of_mem hp
        have hpw := List.pairwise_iff_getElem.1 hl
        rcases Nat.lt_trichotomy i j with hl1 | hl1 | hl1
        · have := hpw i j (by simpa using hi) (by simpa using hj) hl1
          simp only [List.getElem_map, ei, ej] at this
          exact absurd h1 this
        · subst hl1; rw [← ei, ← ej]
        · have := hpw j i (by simpa using hj) (by simpa using hi) hl1
          simp only [List.getElem_map, ei, ej] at this
          exact absurd h1.symm this
      rw [e]; rfl
  have hnu : ((updT rs x v).map Prod.fst).Nodup := by
    rw [updT_keys]
    split
    · exact hn
    · rename_i hno
      refine List.nodup_append.2 ⟨hn, by simp, fun a ha c hc => ?_⟩
      rw [List.mem_singleton] at hc
      subst hc
      exact fun e => hno (e ▸ ha)
  obtain ⟨p, hp, rfl⟩ := List.mem_map.1 hy
  rw [key hnu p hp]
  rcases updT_mem hp with ⟨e1, e2⟩ | ⟨e1, e2⟩
  · rw [if_pos e1, e2]
  · rw [if_neg e1, key hn p e2]

theorem map_putL {α β : Type} (g : α → β) (l : List α) (k : Nat) (there : Bool) (x : α) : (putL l k there x).map g = putL (l.map g) k there (g x) := by
  unfold putL
  rw [List.map_append, List.map_append, List.map_take, List.map_drop]; rfl

/-- a row put in its place -/
theorem relOf_put {r : RdV} {d : RelV} (hg : GoodR r) (h : RelOf r d) {x : T3} (hx : ztT r.ar x) (v : Int) {k : Nat} {there : Bool} (hF : FndA d.rows ((tl x).take r.ar) k there) :
    there = decide (x ∈ r.rs.map Prod.fst) ∧ (putL d.rows k there ((tl x).take r.ar)).length = (updT r.rs x v).length ∧ RelOf ⟨r.nm, r.ar, updT r.rs x v⟩ ⟨d.name, d.ar, putL d.rows k there ((tl x).take r.ar), putL d.ws k there v⟩ := by
  obtain ⟨hn, hz, h1, h3⟩ := hg
  obtain ⟨ss, hp, hs, e1, e2⟩ := h.ex
  have hnd : ss.Nodup := hp.nodup_iff.2 hn
  have hst := strict_of hs hnd
  have hzs : ∀ y ∈ ss, ztT r.ar y := fun y hy => hz y (hp.mem_iff.1 hy)
  have hlen : d.rows.length = ss.length := by rw [e1]; unfold rowsT; rw [List.length_map]
  have hget : ∀ i (hi : i < ss.length), d.rows.getD i [] = (tl ss[i]).take r.ar := fun i hi => by rw [e1]; unfold rowsT; rw [List.getD_eq_getElem?_getD, List.getElem?_map, List.getElem?_eq_getElem hi]; rfl
  obtain ⟨hk, hlt, hge, hth⟩ := hF
  have hcmp : ∀ i (hi : i < ss.length), cmpL (d.rows.getD i []) ((tl x).take r.ar) = cmpL (tl ss[i]) (tl x) := fun i hi => by rw [hget i hi]; exact cmp_take h1 h3 (hzs _ (List.getElem_mem _)) hx
  have hbef : ∀ i (hi : i < ss.length), i < k → LtT ss[i] x := fun i hi hik => by have := hlt i hik; rw [hcmp i hi] at this; exact this
  have hpw := List.pairwise_iff_getElem.1 hst
  cases hb : there
  · rw [hb] at hth
    have hno : x ∉ ss := fun hm => by
      obtain ⟨j, hj, ej⟩ := List.getElem_of_mem hm
      rcases Nat.lt_or_ge j k with hjk | hjk
      · have := hbef j hj hjk; rw [ej] at this; exact this.irr
      · have hkl : k < d.rows.length := by omega
        rcases Nat.eq_or_lt_of_le hjk with e | e
        · subst e
          have hc := hcmp k hj
          rw [ej, cmpL_self] at hc
          exact absurd (hth.2 ⟨hkl, hc⟩) (by decide)
        · have hks : k < ss.length := by omega
          have h4 := hpw k j hks hj e
          rw [ej] at h4
          have := hge hkl
          rw [hcmp k hks] at this
          exact this h4
    have hnk : x ∉ r.rs.map Prod.fst := fun hm => hno (hp.mem_iff.2 hm)
    have haft : ∀ i (hi : i < ss.length), k ≤ i → LtT x ss[i] := fun i hi hik => by
      have hkl : k < d.rows.length := by omega
      have hks : k < ss.length := by omega
      have h5 : LtT x ss[k] := by
        have h6 := hge hkl
        have h7 : ¬ cmpL (d.rows.getD k []) ((tl x).take r.ar) = 0 := fun e => absurd (hth.2 ⟨hkl, e⟩) (by decide)
        rw [hcmp k hks] at h6 h7
        unfold LtT
        have := cmpL_neg (tl x) (tl ss[k])
        omega
      rcases Nat.eq_or_lt_of_le hik with e | e
      · subst e; exact h5
      · exact cmpL_trans h5 (hpw k i hks hi e)
    have hps : (putL ss k false x).Perm (ss ++ [x]) := by
      unfold putL afterK
      simp only [Bool.false_eq_true, if_false]
      have : (ss.take k ++ [x] ++ ss.drop k).Perm (ss.take k ++ ss.drop k ++ [x]) := by
        rw [List.append_assoc, List.append_assoc]
        exact List.Perm.append_left _ List.perm_append_comm
      rw [List.take_append_drop] at this
      exact this
    refine ⟨by rw [decide_eq_false hnk], ?_, h.name, h.ar, putL ss k false x, ?_, ?_, ?_, ?_⟩
    · rw [putL_len _ _ _ hk, updT_len, if_neg hnk]
      have := hp.length_eq
      rw [List.length_map] at this
      unfold afterK
      simp
      omega
    · rw [updT_keys, if_neg hnk]
      exact hps.trans (List.Perm.append_right _ hp)
    · have hlt2 : (putL ss k false x).Pairwise LtT := by
        unfold putL afterK
        simp only [Bool.false_eq_true, if_false]
        rw [List.append_assoc, List.pairwise_append]
        refine ⟨hst.sublist (List.take_sublist ..), ?_, fun a ha b hb => ?_⟩
        · rw [List.singleton_append, List.pairwise_cons]
          refine ⟨fun b hb => ?_, hst.sublist (List.drop_sublist ..)⟩
          obtain ⟨i, hi, ei⟩ := List.getElem_of_mem hb
          rw [List.getElem_drop] at ei
          rw [← ei]
          rw [List.length_drop] at hi
          exact haft _ (by omega) (by omega)
        · obtain ⟨i, hi, ei⟩ := List.getElem_of_mem ha
          rw [List.getElem_take] at ei
          rw [List.length_take] at hi
          rcases List.mem_append.1 hb with hb | hb
          · rw [List.mem_singleton] at hb
            subst hb
            rw [← ei]
            exact hbef i (by omega) (by omega)
          · obtain ⟨j, hj, ej⟩ := List.getElem_of_mem hb
            rw [List.getElem_drop] at ej
            rw [List.length_drop] at hj
            rw [← ei, ← ej]
            exact hpw i (k + j) (by omega) (by omega) (by omega)
      exact hlt2.imp fun hab hba => LtT.no hab hba
    · show putL d.rows k false ((tl x).take r.ar) = rowsT r.ar (putL ss k false x)
      unfold rowsT
      rw [map_putL, e1]; rfl
    · show putL d.ws k false v = wtsT (updT r.rs x v) (putL ss k false x)
      have hm : (putL ss k false x).map (valT (updT r.rs x v)) = putL (ss.map (valT r.rs)) k false v := by
        have hmem : ∀ y ∈ ss, valT (updT r.rs x v) y = valT r.rs y := fun y hy => by
          have hne : y ≠ x := fun e => hno (e ▸ hy)
          rw [valT_upd hn x y v (by rw [updT_keys, if_neg hnk]; exact List.mem_append_left _ (hp.mem_iff.1 hy)), if_neg hne]
        have hxv : valT (updT r.rs x v) x = v := by
          rw [valT_upd hn x x v (by rw [updT_keys, if_neg hnk]; exact List.mem_append_right _ (List.mem_singleton.2 rfl)), if_pos rfl]
        rw [map_putL, hxv]
        congr 1
        exact List.map_congr_left hmem
      unfold wtsT
      rw [hm, e2]; rfl
  · rw [hb] at hth
    obtain ⟨hkl, hc0⟩ := hth.1 rfl
    have hks : k < ss.length := by omega
    have hxk : ss[k] = x := by
      rw [hcmp k hks] at hc0
      exact tl_inj (cmpL_eq hc0)
    have hmx : x ∈ ss := by rw [← hxk]; exact List.getElem_mem _
    have hmk : x ∈ r.rs.map Prod.fst := hp.mem_iff.1 hmx
    have hput : ∀ {α : Type} (l : List α) (y : α) (hl : k < l.length), l[k] = y → putL l k true y = l := fun {α} l y hl hy => by
      unfold putL afterK
      simp only [if_true]
      rw [← hy, List.append_assoc, List.singleton_append, List.getElem_cons_drop, List.take_append_drop]
    refine ⟨by rw [decide_eq_true hmk], ?_, h.name, h.ar, ss, ?_, hs, ?_, ?_⟩
    · rw [putL_len _ _ _ hk, updT_len, if_pos hmk]
      have := hp.length_eq
      rw [List.length_map] at this
      unfold afterK
      simp
      omega
    · rw [updT_keys, if_pos hmk]; exact hp
    · show putL d.rows k true ((tl x).take r.ar) = rowsT r.ar ss
      rw [← e1]
      refine hput d.rows _ hkl ?_
      have := hget k hks
      rw [List.getD_eq_getElem?_getD, List.getElem?_eq_getElem hkl, Option.getD_some, hxk] at this
      exact this
    · show putL d.ws k true v = wtsT (updT r.rs x v) ss
      have hm : (putL ss k true x).map (valT (updT r.rs x v)) = ss.map (valT (updT r.rs x v)) := by rw [hput ss x hks hxk]
      have hxv : valT (updT r.rs x v) x = v := by rw [valT_upd hn x x v (by rw [updT_keys, if_pos hmk]; exact hmk), if_pos rfl]
      unfold wtsT
      rw [← hm, map_putL, hxv, e2]
      unfold wtsT putL
      have ht : ∀ y, y ∈ ss.take k → valT r.rs y = valT (updT r.rs x v) y := fun y hy => by
        have hys : y ∈ ss := List.mem_of_mem_take hy
        have hne : y ≠ x := fun e => by
          obtain ⟨i, hi, ei⟩ := List.getElem_of_mem hy
          rw [List.getElem_take] at ei
          rw [List.length_take] at hi
          have := hpw i k (by omega) hks (by omega)
          rw [ei, hxk, e] at this
          exact this.irr
        rw [valT_upd hn x y v (by rw [updT_keys, if_pos hmk]; exact hp.mem_iff.1 hys), if_neg hne]
      have hd : ∀ y, y ∈ ss.drop (k + 1) → valT r.rs y = valT (updT r.rs x v) y := fun y hy => by
        have hys : y ∈ ss := List.mem_of_mem_drop hy
        have hne : y ≠ x := fun e => by
          obtain ⟨i, hi, ei⟩ := List.getElem_of_mem hy
          rw [List.getElem_drop] at ei
          rw [List.length_drop] at hi
          have := hpw k (k + 1 + i) hks (by omega) (by omega)
          rw [ei, hxk, e] at this
          exact this.irr
        rw [valT_upd hn x y v (by rw [updT_keys, if_pos hmk]; exact hp.mem_iff.1 hys), if_neg hne]
      unfold afterK
      simp only [if_true]
      rw [← List.map_take, ← List.map_drop, ← List.map_take, ← List.map_drop, List.map_congr_left ht, List.map_congr_left hd]

end Go.Proofs.YtcdfoephhjacdaaDoor

/-
  What spec.l2Line says of a line.
-/
namespace Go.Proofs.YtcdfoephhjacdaaDoor
open Go.RowKit

theorem num_alike1 {s : ByteArray} {v : Int} {ok : Bool} (h : l2NumA s.data.toList 1 3 v ok) : ok = (numG s 3 && arityB (numN s 3)) ∧ (ok = true → v = numN s 3) := by
  have hi : ∀ n : Nat, Lib.itoa (n : Int) = Lib.decDigits n := fun n => by unfold Lib.itoa; rw [if_neg (by omega)]; rfl
  unfold numG numN arityB
  cases hr : rdN s.data.toList 3 with
  | some n =>
    obtain ⟨e1, e2⟩ := rdN_some.1 hr
    simp only [Option.getD_some, Option.isSome_some, Bool.true_and]
    by_cases hn : 1 ≤ n
    · obtain ⟨h1, h2⟩ := h.2 (n : Int) (by rw [hi]; exact e1) (by simp; omega) (by omega) (by omega)
      refine ⟨?_, fun _ => h2⟩
      rw [h1, decide_eq_true (by omega : (1 : Int) ≤ (n : Int)), decide_eq_true (by omega : (n : Int) ≤ 3)]; rfl
    · have hz : n = 0 := by omega
      subst hz
      cases ok
      · exact ⟨rfl, fun h' => absurd h' (by decide)⟩
      · obtain ⟨f1, f2, f3⟩ := h.1 rfl
        obtain ⟨k, rfl⟩ : ∃ k : Nat, v = (k : Int) := ⟨v.toNat, by omega⟩
        rw [hi] at f1
        have hk := rdN_some.2 (⟨f1, by omega⟩ : s.data.toList = Lib.decDigits k ∧ k ≤ 3)
        rw [hr] at hk
        simp only [Option.some.injEq] at hk
        omega
  | none =>
    simp only [Option.isSome_none, Bool.false_and]
    cases ok
    · exact ⟨rfl, fun h' => absurd h' (by decide)⟩
    · obtain ⟨f1, f2, f3⟩ := h.1 rfl
      obtain ⟨k, rfl⟩ : ∃ k : Nat, v = (k : Int) := ⟨v.toNat, by omega⟩
      rw [hi] at f1
      have hk := rdN_some.2 (⟨f1, by omega⟩ : s.data.toList = Lib.decDigits k ∧ k ≤ 3)
      rw [hr] at hk; cases hk

/-- whether a relation has the name -/
def namS (ds : List RelV) (s : ByteArray) : Bool := ds.any fun d => d.name.toList == s.toList
theorem relIx_no {ds : List RelV} {s : ByteArray} {z : Int} (h : RelIx ds s z) : (decide (0 ≤ z)) = namS ds s := by
  unfold namS
  rcases h with ⟨rfl, h⟩ | ⟨j, rfl, hj, h1, -⟩
  · rw [show decide ((0 : Int) ≤ -1) = false from rfl]
    symm
    rw [List.any_eq_false]
    intro d hd
    obtain ⟨i, hi, e⟩ := List.getElem_of_mem hd
    have := h i hi
    rw [List.getD_eq_getElem?_getD, List.getElem?_eq_getElem hi, Option.getD_some, e] at this
    rw [this]; simp
  · rw [decide_eq_true (by omega : (0 : Int) ≤ (j : Int))]
    symm
    rw [List.any_eq_true]
    refine ⟨ds.getD j noRel, ?_, h1⟩
    rw [List.getD_eq_getElem?_getD, List.getElem?_eq_getElem hj]
    exact List.getElem_mem _
/-- whether a relation may be told of here -/
def decS (ds : List RelV) (f : List (List UInt8)) : Bool := decide (f.length = 3) && nameB ⟨(f.getD 1 []).toArray⟩ && !((⟨(f.getD 1 []).toArray⟩ : ByteArray).toList == [114, 101, 108]) && !namS ds ⟨(f.getD 1 []).toArray⟩ && !decide (ds.length = 50) && (numG ⟨(f.getD 2 []).toArray⟩ 3 && arityB (numN ⟨(f.getD 2 []).toArray⟩ 3))

/-- blocks of texts and of data stand -/
def KeepU (W W' : World) : Prop := ∀ (k : Nat) (cur : Array Value) (t : TypeId), (t = 9 ∨ t = 24) → W.heap[k]? = some (.cells cur t (0, 0)) → W'.heap[k]? = W.heap[k]?
theorem KeepU.of {W W' : World} (h : ∀ k, k < W.heap.size → W'.heap[k]? = W.heap[k]?) : KeepU W W' := fun k _ _ _ hk => h k (heap_lt hk)
theorem KeepU.below {W W' : World} (h : Below W.heap.size W W') : KeepU W W' := KeepU.of fun k hk => h.block k hk
theorem KeepU.trans {a b c : World} (h : KeepU a b) (k : KeepU b c) : KeepU a c := fun j cur t ht hj => by
  have h1 := h j cur t ht hj
  exact (k j cur t ht (h1.trans hj)).trans h1

/-- a slice of any kind -/
def SlV (x : Value) : Prop := ∃ a n c, x = .slice a n c
/-- how spec.l2Line ends -/
def LinE (w : World) (B : Nat) (ok : Bool) (P : World → Value → Prop) (e : Ending) (w' : World) : Prop := ∃ v', e = .returned (.tuple #[.agg #[v'], .bool ok]) ∧ SlV v' ∧ Below B w w' ∧ KeepU w w' ∧ (ok = true → P w' v')

end Go.Proofs.YtcdfoephhjacdaaDoor
