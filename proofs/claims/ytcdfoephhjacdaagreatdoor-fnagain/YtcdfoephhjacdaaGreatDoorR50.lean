import Derived.Test.YtcdfoephhjacdaaGreatDoorR03
import Derived.Test.YtcdfoephhjacdaaGreatDoorR11
import Derived.Test.YtcdfoephhjacdaaGreatDoorR14
import Derived.Test.YtcdfoephhjacdaaGreatDoorR35
/-
  The lines of data's text and their fields: plain mathematics.
-/
namespace Go.Proofs.YtcdfoephhjacdaaGreatDoor
open Go.RowKit

def Fre (c : UInt8) (l : List UInt8) : Prop := ∀ x ∈ l, x ≠ c
theorem Fre.app {c : UInt8} {a b : List UInt8} (h : Fre c a) (k : Fre c b) : Fre c (a ++ b) := fun x hx => by
  rcases List.mem_append.1 hx with hx | hx
  · exact h x hx
  · exact k x hx
/-- lines, each with its end -/
def txtL (ls : List (List UInt8)) : List UInt8 := ls.flatMap fun l => l ++ [10]
theorem txtL_app (a b : List (List UInt8)) : txtL (a ++ b) = txtL a ++ txtL b := List.flatMap_append
theorem spl_txtL : ∀ {ls : List (List UInt8)}, (∀ l ∈ ls, Fre 10 l) → spl 10 (txtL ls) = ls ++ [[]]
  | [], _ => rfl
  | l :: ls, h => by
    have e : txtL (l :: ls) = l ++ 10 :: txtL ls := by simp [txtL]
    rw [e, spl_cut _ (h l (List.mem_cons_self ..)), spl_txtL fun x hx => h x (List.mem_cons_of_mem _ hx)]
    rfl
theorem spl_join {c : UInt8} : ∀ (l : List (List UInt8)) (a : List UInt8), (∀ x ∈ a :: l, Fre c x) → spl c (Lib.join (a :: l) [c]) = a :: l
  | [], a, h => by rw [Lib.join_one, spl_none (h a (by simp))]
  | b :: l, a, h => by
    have e : Lib.join (a :: b :: l) [c] = a ++ c :: Lib.join (b :: l) [c] := by
      rw [Lib.join_cons, Lib.join_cons]
      simp [Lib.joinTail]
    rw [e, spl_cut _ (h a (by simp)), spl_join l b fun x hx => h x (List.mem_cons_of_mem _ hx)]
theorem Fre.join {c d : UInt8} (hd : d ≠ c) : ∀ (l : List (List UInt8)), (∀ x ∈ l, Fre c x) → Fre c (Lib.join l [d])
  | [], _ => fun x hx => by rw [Lib.join_nil] at hx; cases hx
  | [a], h => by rw [Lib.join_one]; exact h a (by simp)
  | a :: b :: l, h => by
    have e : Lib.join (a :: b :: l) [d] = a ++ (d :: Lib.join (b :: l) [d]) := by
      rw [Lib.join_cons, Lib.join_cons]
      simp [Lib.joinTail]
    rw [e]
    refine (h a (by simp)).app fun x hx => ?_
    rcases List.mem_cons.1 hx with rfl | hx
    · exact hd
    · exact Fre.join hd (b :: l) (fun y hy => h y (List.mem_cons_of_mem _ hy)) x hx
theorem itoa_bytes (n : Int) : ∀ b ∈ Lib.itoa n, b = 45 ∨ dgt b = true := fun b hb => by
  unfold Lib.itoa at hb
  split at hb
  · rcases List.mem_cons.1 hb with rfl | hb
    · exact Or.inl rfl
    · exact Or.inr ((digits_num _ _ (Nat.le_refl _)).1.dg b hb)
  · exact Or.inr ((digits_num _ _ (Nat.le_refl _)).1.dg b hb)
theorem itoa_free (n : Int) {c : UInt8} (h : c = 10 ∨ c = 32) : Fre c (Lib.itoa n) := fun b hb e => by
  subst e
  rcases itoa_bytes n b hb with h1 | h1
  · rcases h with h | h <;> rw [h] at h1 <;> exact absurd h1 (by decide)
  · rcases h with h | h <;> rw [h] at h1 <;> exact absurd h1 (by decide)
theorem name_free {nm : ByteArray} (h : nameB nm = true) {c : UInt8} (hc : c = 10 ∨ c = 32) : Fre c nm.data.toList := fun b hb e => by
  subst e
  unfold nameB at h
  simp only [Bool.and_eq_true, decide_eq_true_eq, List.all_eq_true, List.mem_range] at h
  obtain ⟨i, hi, e⟩ := List.getElem_of_mem hb
  have hl : nm.data.toList.length = nm.size := by simp
  have := h.2 i (by omega)
  unfold byteAt at this
  rw [List.getD_eq_getElem?_getD, List.getElem?_eq_getElem hi, Option.getD_some, e] at this
  rcases hc with hc | hc <;> rw [hc] at this <;> exact absurd this (by decide)

/-- a relation's own line; a row's line: their fields -/
def flR (r : RelV) : List (List UInt8) := [[114, 101, 108], nmL r, Lib.itoa r.ar]
def flW (r : RelV) (i : Nat) : List (List UInt8) := nmL r :: ((r.rows.getD i []).map Lib.itoa ++ [Lib.itoa (r.ws.getD i 0)])
def lnF (fs : List (List UInt8)) : List UInt8 := Lib.join fs [32]
def lnsR (r : RelV) : Nat → List (List UInt8)
  | 0 => [lnF (flR r)]
  | k + 1 => lnsR r k ++ [lnF (flW r k)]
def lnsD (ds : List RelV) : Nat → List (List UInt8)
  | 0 => []
  | j + 1 => lnsD ds j ++ lnsR (ds.getD j noRel) (ds.getD j noRel).rows.length
theorem lineR_is (r : RelV) : lineR r = lnF (flR r) ++ [10] := by
  unfold lineR lnF flR
  rw [Lib.join_cons]
  simp [Lib.joinTail]
theorem lineW_is {r : RelV} {i : Nat} (h : r.rows.getD i [] ≠ []) : lineW r i = lnF (flW r i) ++ [10] := by
  unfold lineW lnF flW
  have e : rowT (r.rows.getD i []) ++ [32] ++ Lib.itoa (r.ws.getD i 0) = Lib.join ((r.rows.getD i []).map Lib.itoa ++ [Lib.itoa (r.ws.getD i 0)]) [32] := by
    rw [join_snoc, if_neg (by simpa using h)]
    rfl
  have e2 : ∀ (a : List UInt8) (l : List (List UInt8)), l ≠ [] → Lib.join (a :: l) [32] = a ++ [32] ++ Lib.join l [32] := fun a l hl => by
    cases l with
    | nil => exact absurd rfl hl
    | cons b l => rw [Lib.join_cons, Lib.join_cons]; simp [Lib.joinTail]
  rw [e2 _ _ (by simp), ← e]
  simp only [List.append_assoc]
theorem relT_is {r : RelV} (h : ∀ i, i < r.rows.length → r.rows.getD i [] ≠ []) : ∀ k, k ≤ r.rows.length → relT r k = txtL (lnsR r k)
  | 0, _ => by
    show lineR r = txtL [lnF (flR r)]
    rw [lineR_is]; simp [txtL]
  | k + 1, hk => by
    show relT r k ++ lineW r k = txtL (lnsR r k ++ [lnF (flW r k)])
    rw [relT_is h k (by omega), txtL_app, lineW_is (h k (by omega))]
    simp [txtL]
theorem datT_is {ds : List RelV} (h : ∀ j, j < ds.length → GR (ds.getD j noRel)) : ∀ j, j ≤ ds.length → datT ds j = txtL (lnsD ds j)
  | 0, _ => rfl
  | j + 1, hj => by
    show datT ds j ++ relT _ _ = txtL (lnsD ds j ++ lnsR _ _)
    rw [datT_is h j (by omega), txtL_app, relT_is (fun i hi e => ?_) _ (Nat.le_refl _)]
    have := ((h j (by omega)).row i hi).2.1
    rw [e] at this
    simp at this
theorem flR_free {r : RelV} (h : nameB r.name = true) {c : UInt8} (hc : c = 10 ∨ c = 32) : ∀ f ∈ flR r, Fre c f := fun f hf => by
  unfold flR at hf
  simp only [List.mem_cons, List.not_mem_nil, or_false] at hf
  rcases hf with rfl | rfl | rfl
  · intro x hx e
    subst e
    rcases hc with rfl | rfl <;> exact absurd hx (by decide)
  · exact name_free h hc
  · exact itoa_free _ hc
theorem flW_free {r : RelV} (h : nameB r.name = true) (i : Nat) {c : UInt8} (hc : c = 10 ∨ c = 32) : ∀ f ∈ flW r i, Fre c f := fun f hf => by
  unfold flW at hf
  rw [List.mem_cons, List.mem_append, List.mem_singleton, List.mem_map] at hf
  rcases hf with rfl | ⟨x, -, rfl⟩ | rfl
  · exact name_free h hc
  · exact itoa_free _ hc
  · exact itoa_free _ hc
theorem flR_spl {r : RelV} (h : nameB r.name = true) : spl 32 (lnF (flR r)) = flR r := spl_join _ _ (flR_free h (Or.inr rfl))
theorem flW_spl {r : RelV} (h : nameB r.name = true) (i : Nat) : spl 32 (lnF (flW r i)) = flW r i := spl_join _ _ (flW_free h i (Or.inr rfl))
theorem lnsR_free {r : RelV} (h : nameB r.name = true) : ∀ k, ∀ l ∈ lnsR r k, Fre 10 l
  | 0, l, hl => by
    rw [lnsR, List.mem_singleton] at hl
    subst hl
    exact Fre.join (by decide) _ (flR_free h (Or.inl rfl))
  | k + 1, l, hl => by
    rw [lnsR, List.mem_append, List.mem_singleton] at hl
    rcases hl with hl | rfl
    · exact lnsR_free h k l hl
    · exact Fre.join (by decide) _ (flW_free h k (Or.inl rfl))
theorem lnsD_free {ds : List RelV} (h : ∀ j, j < ds.length → nameB (ds.getD j noRel).name = true) : ∀ j, j ≤ ds.length → ∀ l ∈ lnsD ds j, Fre 10 l
  | 0, _, l, hl => by cases hl
  | j + 1, hj, l, hl => by
    rw [lnsD, List.mem_append] at hl
    rcases hl with hl | hl
    · exact lnsD_free h j (by omega) l hl
    · exact lnsR_free (h j (by omega)) _ l hl
theorem names_of {ds : List RelV} (h : dataB ds = true) : ∀ j, j < ds.length → nameB (ds.getD j noRel).name = true := fun j hj => by
  unfold dataB at h
  simp only [Bool.and_eq_true, decide_eq_true_eq, List.all_eq_true] at h
  have h1 := h.2 j (List.mem_range.2 hj)
  unfold relAtB relB relName at h1
  simp only [Bool.and_eq_true] at h1
  exact h1.1.1.1.1.1.1.1.1
/-- the lines of data's text -/
theorem data_lines {ds : List RelV} (h : dataB ds = true) : spl 10 (datT ds ds.length) = lnsD ds ds.length ++ [[]] := by
  rw [datT_is (gr_of h).2 _ (Nat.le_refl _)]
  exact spl_txtL (lnsD_free (names_of h) _ (Nat.le_refl _))

end Go.Proofs.YtcdfoephhjacdaaGreatDoor

/-
  Rows put in their places, and tuples sorted at the end: the same.
-/
namespace Go.Proofs.YtcdfoephhjacdaaGreatDoor
open Go.RowKit

/-- zeros behind the row -/
def ztT (ar : Nat) (x : T3) : Prop := (ar ≤ 1 → x.b = 0) ∧ (ar ≤ 2 → x.c = 0)
theorem cmp_take {ar : Nat} (h1 : 1 ≤ ar) (h3 : ar ≤ 3) {x y : T3} (hx : ztT ar x) (hy : ztT ar y) : cmpL ((tl x).take ar) ((tl y).take ar) = cmpL (tl x) (tl y) := by
  obtain rfl | rfl | rfl : ar = 1 ∨ ar = 2 ∨ ar = 3 := by omega
  · simp only [tl, List.take, cmpL, hx.1 (by omega : (1:Nat) ≤ 1), hy.1 (by omega : (1:Nat) ≤ 1), hx.2 (by omega : (1:Nat) ≤ 2), hy.2 (by omega : (1:Nat) ≤ 2), Int.lt_irrefl, if_false]
  · simp only [tl, List.take, cmpL, hx.2 (by omega : (2:Nat) ≤ 2), hy.2 (by omega : (2:Nat) ≤ 2), Int.lt_irrefl, if_false]
  · rfl
/-- ascending, all different -/
def LtT (a b : T3) : Prop := cmpL (tl a) (tl b) < 0
theorem LtT.no {a b : T3} (h : LtT a b) (k : LtT b a) : False := by
  unfold LtT at *
  have := cmpL_neg (tl a) (tl b)
  omega
theorem LtT.irr {a : T3} (h : LtT a a) : False := h.no h
theorem srt_uniq : ∀ {l1 l2 : List T3}, l1.Pairwise LtT → l2.Pairwise LtT → (∀ x, x ∈ l1 ↔ x ∈ l2) → l1 = l2
  | [], [], _, _, _ => rfl
  | [], b :: r2, _, _, h => absurd ((h b).2 (List.mem_cons_self ..)) (by simp)
  | a :: r1, [], _, _, h => absurd ((h a).1 (List.mem_cons_self ..)) (by simp)
  | a :: r1, b :: r2, h1, h2, h => by
    rw [List.pairwise_cons] at h1 h2
    have e : a = b := by
      rcases List.mem_cons.1 ((h a).1 (List.mem_cons_self ..)) with e | ha
      · exact e
      · rcases List.mem_cons.1 ((h b).2 (List.mem_cons_self ..)) with e | hb
        · exact e.symm
        · exact ((h1.1 b hb).no (h2.1 a ha)).elim
    subst e
    rw [srt_uniq h1.2 h2.2 fun x => ?_]
    constructor
    · intro hx
      rcases List.mem_cons.1 ((h x).1 (List.mem_cons_of_mem _ hx)) with e | hx2
      · subst e; exact (h1.1 x hx).irr.elim
      · exact hx2
    · intro hx
      rcases List.mem_cons.1 ((h x).2 (List.mem_cons_of_mem _ hx)) with e | hx2
      · subst e; exact (h2.1 x hx).irr.elim
      · exact hx2
theorem strict_of {ss : List T3} (h : ss.Pairwise fun a b => ¬ cmpL (tl b) (tl a) < 0) (hn : ss.Nodup) : ss.Pairwise LtT := by
  rw [List.pairwise_iff_getElem] at h ⊢
  intro i j hi hj hij
  have h1 := h i j hi hj hij
  unfold LtT
  have h2 := cmpL_neg (tl ss[i]) (tl ss[j])
  rcases Int.lt_trichotomy (cmpL (tl ss[i]) (tl ss[j])) 0 with e | e | e
  · exact e
  · have e1 := tl_inj (cmpL_eq e)
    exact absurd e1 ((List.pairwise_iff_getElem.1 hn) i j hi hj hij)
  · omega
theorem relOf_uniq {r : RdV} {d d2 : RelV} (hn : (r.rs.map Prod.fst).Nodup) (h : RelOf r d) (h2 : RelOf r d2) : d = d2 := by
  obtain ⟨ss, p1, s1, e1, e2⟩ := h.ex
  obtain ⟨ss2, p2, s2, f1, f2⟩ := h2.ex
  have := srt_uniq (strict_of s1 (p1.nodup_iff.2 hn)) (strict_of s2 (p2.nodup_iff.2 hn)) (fun x => by rw [p1.mem_iff, p2.mem_iff])
  subst this
  cases d
  cases d2
  have hn1 := h.name
  have hn2 := h2.name
  have ha1 := h.ar
  have ha2 := h2.ar
  simp only at *
  subst hn1 ha1 e1 e2 f1 f2
  rw [hn2, ha2]

/-- what holds of the rows so far -/
def GoodR (r : RdV) : Prop := (r.rs.map Prod.fst).Nodup ∧ (∀ x ∈ r.rs.map Prod.fst, ztT r.ar x) ∧ 1 ≤ r.ar ∧ r.ar ≤ 3

theorem valT_upd {rs : List (T3 × Int)} (hn : (rs.map Prod.fst).Nodup) (x y : T3) (v : Int) (hy : y ∈ (updT rs x v).map Prod.fst) : valT (updT rs x v) y = if y = x then v else valT rs y := by
  have key : ∀ {l : List (T3 × Int)}, (l.map Prod.fst).Nodup → ∀ p ∈ l, valT l p.1 = p.2 := fun {l} hl p hp => by
    unfold valT
    cases hf : l.find? (fun q => decide (q.1 = p.1)) with
    | none =>
      rw [List.find?_eq_none] at hf
      exact absurd (hf p hp) (by simp)
    | some q =>
      have h1 := List.find?_some hf
      have h2 := List.mem_of_find?_eq_some hf
      simp only [decide_eq_true_eq] at h1
      have e : q = p := by
        obtain ⟨i, hi, ei⟩ := List.getElem_of_mem h2
        obtain ⟨j, hj, ej⟩ := List.getElem_of_mem hp
        have hpw := List.pairwise_iff_getElem.1 hl
        rcases Nat.lt_trichotomy i j with hl1 | hl1 | hl1
        · have := hpw i j (by simpa using hi) (by simpa using hj) hl1
          simp only [List.getElem_map, ei, ej] at this
          exact absurd h1 this
        · subst hl1; rw [← ei, ← ej]
        · have := hpw j i (by simpa using hj) (by simpa using hi) hl1
          simp only [List.getElem_map, ei, ej] at this
          exact absurd h1.symm this
      rw [e]; rfl
  have hnu : ((updT rs x v).map Prod.fst).Nodup := by
    rw [updT_keys]
    split
    · exact hn
    · rename_i hno
      refine List.nodup_append.2 ⟨hn, by simp, fun a ha c hc => ?_⟩
      rw [List.mem_singleton] at hc
      subst hc
      exact fun e => hno (e ▸ ha)
  obtain ⟨p, hp, rfl⟩ := List.mem_map.1 hy
  rw [key hnu p hp]
  rcases updT_mem hp with ⟨e1, e2⟩ | ⟨e1, e2⟩
  · rw [if_pos e1, e2]
  · rw [if_neg e1, key hn p e2]

theorem map_putL {α β : Type} (g : α → β) (l : List α) (k : Nat) (there : Bool) (x : α) : (putL l k there x).map g = putL (l.map g) k there (g x) := by
  unfold putL
  rw [List.map_append, List.map_append, List.map_take, List.map_drop]; rfl

/-- a row put in its place -/
theorem relOf_put {r : RdV} {d : RelV} (hg : GoodR r) (h : RelOf r d) {x : T3} (hx : ztT r.ar x) (v : Int) {k : Nat} {there : Bool} (hF : FndA d.rows ((tl x).take r.ar) k there) :
    there = decide (x ∈ r.rs.map Prod.fst) ∧ (putL d.rows k there ((tl x).take r.ar)).length = (updT r.rs x v).length ∧ RelOf ⟨r.nm, r.ar, updT r.rs x v⟩ ⟨d.name, d.ar, putL d.rows k there ((tl x).take r.ar), putL d.ws k there v⟩ := by
  obtain ⟨hn, hz, h1, h3⟩ := hg
  obtain ⟨ss, hp, hs, e1, e2⟩ := h.ex
  have hnd : ss.Nodup := hp.nodup_iff.2 hn
  have hst := strict_of hs hnd
  have hzs : ∀ y ∈ ss, ztT r.ar y := fun y hy => hz y (hp.mem_iff.1 hy)
  have hlen : d.rows.length = ss.length := by rw [e1]; unfold rowsT; rw [List.length_map]
  have hget : ∀ i (hi : i < ss.length), d.rows.getD i [] = (tl ss[i]).take r.ar := fun i hi => by rw [e1]; unfold rowsT; rw [List.getD_eq_getElem?_getD, List.getElem?_map, List.getElem?_eq_getElem hi]; rfl
  obtain ⟨hk, hlt, hge, hth⟩ := hF
  have hcmp : ∀ i (hi : i < ss.length), cmpL (d.rows.getD i []) ((tl x).take r.ar) = cmpL (tl ss[i]) (tl x) := fun i hi => by rw [hget i hi]; exact cmp_take h1 h3 (hzs _ (List.getElem_mem _)) hx
  have hbef : ∀ i (hi : i < ss.length), i < k → LtT ss[i] x := fun i hi hik => by have := hlt i hik; rw [hcmp i hi] at this; exact this
  have hpw := List.pairwise_iff_getElem.1 hst
  cases hb : there
  · rw [hb] at hth
    have hno : x ∉ ss := fun hm => by
      obtain ⟨j, hj, ej⟩ := List.getElem_of_mem hm
      rcases Nat.lt_or_ge j k with hjk | hjk
      · have := hbef j hj hjk; rw [ej] at this; exact this.irr
      · have hkl : k < d.rows.length := by omega
        rcases Nat.eq_or_lt_of_le hjk with e | e
        · subst e
          have hc := hcmp k hj
          rw [ej, cmpL_self] at hc
          exact absurd (hth.2 ⟨hkl, hc⟩) (by decide)
        · have hks : k < ss.length := by omega
          have h4 := hpw k j hks hj e
          rw [ej] at h4
          have := hge hkl
          rw [hcmp k hks] at this
          exact this h4
    have hnk : x ∉ r.rs.map Prod.fst := fun hm => hno (hp.mem_iff.2 hm)
    have haft : ∀ i (hi : i < ss.length), k ≤ i → LtT x ss[i] := fun i hi hik => by
      have hkl : k < d.rows.length := by omega
      have hks : k < ss.length := by omega
      have h5 : LtT x ss[k] := by
        have h6 := hge hkl
        have h7 : ¬ cmpL (d.rows.getD k []) ((tl x).take r.ar) = 0 := fun e => absurd (hth.2 ⟨hkl, e⟩) (by decide)
        rw [hcmp k hks] at h6 h7
        unfold LtT
        have := cmpL_neg (tl x) (tl ss[k])
        omega
      rcases Nat.eq_or_lt_of_le hik with e | e
      · subst e; exact h5
      · exact cmpL_trans h5 (hpw k i hks hi e)
    have hps : (putL ss k false x).Perm (ss ++ [x]) := by
      unfold putL afterK
      simp only [Bool.false_eq_true, if_false]
      have : (ss.take k ++ [x] ++ ss.drop k).Perm (ss.take k ++ ss.drop k ++ [x]) := by
        rw [List.append_assoc, List.append_assoc]
        exact List.Perm.append_left _ List.perm_append_comm
      rw [List.take_append_drop] at this
      exact this
    refine ⟨by rw [decide_eq_false hnk], ?_, h.name, h.ar, putL ss k false x, ?_, ?_, ?_, ?_⟩
    · rw [putL_len _ _ _ hk, updT_len, if_neg hnk]
      have := hp.length_eq
      rw [List.length_map] at this
      unfold afterK
      simp
      omega
    · rw [updT_keys, if_neg hnk]
      exact hps.trans (List.Perm.append_right _ hp)
    · have hlt2 : (putL ss k false x).Pairwise LtT := by
        unfold putL afterK
        simp only [Bool.false_eq_true, if_false]
        rw [List.append_assoc, List.pairwise_append]
        refine ⟨hst.sublist (List.take_sublist ..), ?_, fun a ha b hb => ?_⟩
        · rw [List.singleton_append, List.pairwise_cons]
          refine ⟨fun b hb => ?_, hst.sublist (List.drop_sublist ..)⟩
          obtain ⟨i, hi, ei⟩ := List.getElem_of_mem hb
          rw [List.getElem_drop] at ei
          rw [← ei]
          rw [List.length_drop] at hi
          exact haft _ (by omega) (by omega)
        · obtain ⟨i, hi, ei⟩ := List.getElem_of_mem ha
          rw [List.getElem_take] at ei
          rw [List.length_take] at hi
          rcases List.mem_append.1 hb with hb | hb
          · rw [List.mem_singleton] at hb
            subst hb
            rw [← ei]
            exact hbef i (by omega) (by omega)
          · obtain ⟨j, hj, ej⟩ := List.getElem_of_mem hb
            rw [List.getElem_drop] at ej
            rw [List.length_drop] at hj
            rw [← ei, ← ej]
            exact hpw i (k + j) (by omega) (by omega) (by omega)
      exact hlt2.imp fun hab hba => LtT.no hab hba
    · show putL d.rows k false ((tl x).take r.ar) = rowsT r.ar (putL ss k false x)
      unfold rowsT
      rw [map_putL, e1]; rfl
    · show putL d.ws k false v = wtsT (updT r.rs x v) (putL ss k false x)
      have hm : (putL ss k false x).map (valT (updT r.rs x v)) = putL (ss.map (valT r.rs)) k false v := by
        have hmem : ∀ y ∈ ss, valT (updT r.rs x v) y = valT r.rs y := fun y hy => by
          have hne : y ≠ x := fun e => hno (e ▸ hy)
          rw [valT_upd hn x y v (by rw [updT_keys, if_neg hnk]; exact List.mem_append_left _ (hp.mem_iff.1 hy)), if_neg hne]
        have hxv : valT (updT r.rs x v) x = v := by
          rw [valT_upd hn x x v (by rw [updT_keys, if_neg hnk]; exact List.mem_append_right _ (List.mem_singleton.2 rfl)), if_pos rfl]
        rw [map_putL, hxv]
        congr 1
        exact List.map_congr_left hmem
      unfold wtsT
      rw [hm, e2]; rfl
  · rw [hb] at hth
    obtain ⟨hkl, hc0⟩ := hth.1 rfl
    have hks : k < ss.length := by omega
    have hxk : ss[k] = x := by
      rw [hcmp k hks] at hc0
      exact tl_inj (cmpL_eq hc0)
    have hmx : x ∈ ss := by rw [← hxk]; exact List.getElem_mem _
    have hmk : x ∈ r.rs.map Prod.fst := hp.mem_iff.1 hmx
    have hput : ∀ {α : Type} (l : List α) (y : α) (hl : k < l.length), l[k] = y → putL l k true y = l := fun {α} l y hl hy => by
      unfold putL afterK
      simp only [if_true]
      rw [← hy, List.append_assoc, List.singleton_append, List.getElem_cons_drop, List.take_append_drop]
    refine ⟨by rw [decide_eq_true hmk], ?_, h.name, h.ar, ss, ?_, hs, ?_, ?_⟩
    · rw [putL_len _ _ _ hk, updT_len, if_pos hmk]
      have := hp.length_eq
      rw [List.length_map] at this
      unfold afterK
      simp
      omega
    · rw [updT_keys, if_pos hmk]; exact hp
    · show putL d.rows k true ((tl x).take r.ar) = rowsT r.ar ss
      rw [← e1]
      refine hput d.rows _ hkl ?_
      have := hget k hks
      rw [List.getD_eq_getElem?_getD, List.getElem?_eq_getElem hkl, Option.getD_some, hxk] at this
      exact this
    · show putL d.ws k true v = wtsT (updT r.rs x v) ss
      have hm : (putL ss k true x).map (valT (updT r.rs x v)) = ss.map (valT (updT r.rs x v)) := by rw [hput ss x hks hxk]
      have hxv : valT (updT r.rs x v) x = v := by rw [valT_upd hn x x v (by rw [updT_keys, if_pos hmk]; exact hmk), if_pos rfl]
      unfold wtsT
      rw [← hm, map_putL, hxv, e2]
      unfold wtsT putL
      have ht : ∀ y, y ∈ ss.take k → valT r.rs y = valT (updT r.rs x v) y := fun y hy => by
        have hys : y ∈ ss := List.mem_of_mem_take hy
        have hne : y ≠ x := fun e => by
          obtain ⟨i, hi, ei⟩ := List.getElem_of_mem hy
          rw [List.getElem_take] at ei
          rw [List.length_take] at hi
          have := hpw i k (by omega) hks (by omega)
          rw [ei, hxk, e] at this
          exact this.irr
        rw [valT_upd hn x y v (by rw [updT_keys, if_pos hmk]; exact hp.mem_iff.1 hys), if_neg hne]
      have hd : ∀ y, y ∈ ss.drop (k + 1) → valT r.rs y = valT (updT r.rs x v) y := fun y hy => by
        have hys : y ∈ ss := List.mem_of_mem_drop hy
        have hne : y ≠ x := fun e => by
          obtain ⟨i, hi, ei⟩ := List.getElem_of_mem hy
          rw [List.getElem_drop] at ei
          rw [List.length_drop] at hi
          have := hpw k (k + 1 + i) hks (by omega) (by omega)
          rw [ei, hxk, e] at this
          exact this.irr
        rw [valT_upd hn x y v (by rw [updT_keys, if_pos hmk]; exact hp.mem_iff.1 hys), if_neg hne]
      unfold afterK
      simp only [if_true]
      rw [← List.map_take, ← List.map_drop, ← List.map_take, ← List.map_drop, List.map_congr_left ht, List.map_congr_left hd]

end Go.Proofs.YtcdfoephhjacdaaGreatDoor

/-
  What is printed of right data is read as these data.
-/
namespace Go.Proofs.YtcdfoephhjacdaaGreatDoor
open Go.RowKit

/-- the lines one after another -/
def rdL (st : List RdV) : List (List UInt8) → Option (List RdV)
  | [] => some st
  | l :: ls => (takA st l).bind fun st' => rdL st' ls
theorem rdL_app (st : List RdV) : ∀ (a b : List (List UInt8)), rdL st (a ++ b) = (rdL st a).bind fun st' => rdL st' b
  | [], b => rfl
  | l :: a, b => by
    show (takA st l).bind (fun st' => rdL st' (a ++ b)) = ((takA st l).bind fun st' => rdL st' a).bind fun st' => rdL st' b
    cases takA st l with
    | none => rfl
    | some s => exact rdL_app s a b
theorem prT_rdL (ls : List (List UInt8)) : ∀ k, k ≤ ls.length → prT ls k = rdL [] (ls.take k)
  | 0, _ => rfl
  | k + 1, hk => by
    rw [prT, prT_rdL ls k (by omega), List.take_add_one, List.getElem?_eq_getElem (by omega), rdL_app, List.getD_eq_getElem?_getD, List.getElem?_eq_getElem (by omega)]
    cases rdL [] (ls.take k) with
    | none => rfl
    | some s =>
      show takA s ls[k] = (takA s ls[k]).bind fun st' => some st'
      cases takA s ls[k] <;> rfl
def cl (x : Int) : Int := if 0 ≤ x ∧ x ≤ 1000000 then x else 0
theorem cl_in (x : Int) : 0 ≤ cl x ∧ cl x ≤ 1000000 := by unfold cl; split <;> omega
theorem cl_same {x : Int} (h : 0 ≤ x ∧ x ≤ 1000000) : cl x = x := if_pos h
/-- a row as a tuple -/
def t3 (r : List Int) : T3 := ⟨(cl (r.getD 0 0), cl (r.getD 1 0), cl (r.getD 2 0)), cl_in _, cl_in _, cl_in _⟩
def rdK (d : RelV) (k : Nat) : RdV := ⟨d.name, d.ar.toNat, (List.range k).map fun i => (t3 (d.rows.getD i []), d.ws.getD i 0)⟩
theorem rdK_succ (d : RelV) (k : Nat) : (rdK d (k + 1)).rs = (rdK d k).rs ++ [(t3 (d.rows.getD k []), d.ws.getD k 0)] := by
  show (List.range (k + 1)).map _ = (List.range k).map _ ++ _
  rw [List.range_succ, List.map_append]; rfl
/-- what is wanted of a relation -/
structure RG (d : RelV) : Prop where
  nm : relName d.name = true
  a1 : 1 ≤ d.ar
  a3 : d.ar ≤ 3
  n : d.rows.length ≤ 2000
  len : ∀ i, i < d.rows.length → ((d.rows.getD i []).length : Int) = d.ar
  val : ∀ i, i < d.rows.length → ∀ x ∈ d.rows.getD i [], 0 ≤ x ∧ x ≤ 1000000
  asc : ∀ i, 0 < i → i < d.rows.length → cmpL (d.rows.getD (i - 1) []) (d.rows.getD i []) < 0
  ws : d.ws.length = d.rows.length
  wt : ∀ i, i < d.rows.length → -1000000 ≤ d.ws.getD i 0 ∧ d.ws.getD i 0 ≤ 1000000
theorem rg_of {d : RelV} (h : relB d = true) : RG d := by
  unfold relB arityB rowsB rowAt at h
  simp only [Bool.and_eq_true, Bool.or_eq_true, decide_eq_true_eq, List.all_eq_true, List.mem_range] at h
  obtain ⟨⟨⟨⟨⟨⟨h1, h2, h3⟩, h4⟩, h5⟩, h6⟩, h7⟩, h8⟩ := h
  have hm : ∀ i, i < d.rows.length → d.rows.getD i [] ∈ d.rows := fun i hi => by rw [List.getD_eq_getElem?_getD, List.getElem?_eq_getElem hi]; exact List.getElem_mem hi
  refine ⟨h1, h2, h3, h4, fun i hi => (h5 i hi).1, fun i hi x hx => ?_, fun i h0 hi => ?_, h7, fun i hi => ?_⟩
  · have := h6 _ (hm i hi) x hx
    unfold valB at this
    simpa using this
  · rcases (h5 i hi).2 with e | e
    · omega
    · exact e
  · have hw : d.ws.getD i 0 ∈ d.ws := by rw [List.getD_eq_getElem?_getD, List.getElem?_eq_getElem (by omega)]; exact List.getElem_mem _
    have := h8 _ hw
    unfold wtB at this
    simpa using this
theorem RG.lt {d : RelV} (h : RG d) {i : Nat} : ∀ j, i < j → j < d.rows.length → cmpL (d.rows.getD i []) (d.rows.getD j []) < 0
  | 0, hi, _ => by omega
  | j + 1, hi, hj => by
    have h1 := h.asc (j + 1) (by omega) hj
    rw [Nat.add_sub_cancel] at h1
    by_cases e : i = j
    · subst e; exact h1
    · exact cmpL_trans (h.lt j (by omega) (by omega)) h1
theorem three (r : List Int) (n : Nat) (h1 : 1 ≤ n) (h3 : n ≤ 3) (hl : r.length = n) (hv : ∀ x ∈ r, 0 ≤ x ∧ x ≤ 1000000) : (tl (t3 r)).take n = r := by
  obtain rfl | rfl | rfl : n = 1 ∨ n = 2 ∨ n = 3 := by omega
  · match r, hl with
    | [x], _ => simp only [List.mem_cons, List.not_mem_nil, or_false, forall_eq] at hv; simp [tl, t3, T3.a, cl_same hv]
  · match r, hl with
    | [x, y], _ =>
      simp only [List.mem_cons, List.not_mem_nil, or_false, forall_eq_or_imp, forall_eq] at hv
      simp [tl, t3, T3.a, T3.b, cl_same hv.1, cl_same hv.2]
  · match r, hl with
    | [x, y, z], _ =>
      simp only [List.mem_cons, List.not_mem_nil, or_false, forall_eq_or_imp, forall_eq] at hv
      simp [tl, t3, T3.a, T3.b, T3.c, cl_same hv.1, cl_same hv.2.1, cl_same hv.2.2]
theorem RG.row {d : RelV} (h : RG d) {i : Nat} (hi : i < d.rows.length) : (tl (t3 (d.rows.getD i []))).take d.ar.toNat = d.rows.getD i [] :=
  three _ _ (by have := h.a1; omega) (by have := h.a3; omega) (by have := h.len i hi; omega) (h.val i hi)
theorem RG.inj {d : RelV} (h : RG d) {i j : Nat} (hi : i < d.rows.length) (hj : j < d.rows.length) (e : t3 (d.rows.getD i []) = t3 (d.rows.getD j [])) : i = j := by
  have e2 : d.rows.getD i [] = d.rows.getD j [] := by rw [← h.row hi, ← h.row hj, e]
  have hs : ∀ l : List Int, ¬ cmpL l l < 0 := fun l hl => by have := cmpL_neg l l; omega
  rcases Nat.lt_trichotomy i j with h1 | h1 | h1
  · have := h.lt j h1 hj; rw [e2] at this; exact absurd this (hs _)
  · exact h1
  · have := h.lt i h1 hi; rw [e2] at this; exact absurd this (hs _)
theorem RG.new {d : RelV} (h : RG d) {k : Nat} (hk : k < d.rows.length) : ¬ t3 (d.rows.getD k []) ∈ (rdK d k).rs.map Prod.fst := fun hm => by
  unfold rdK at hm
  simp only [List.map_map, List.mem_map, List.mem_range, Function.comp_apply] at hm
  obtain ⟨i, hi, e⟩ := hm
  have := h.inj (by omega) hk e
  omega
theorem RG.look {d : RelV} (h : RG d) : ∀ k, k ≤ d.rows.length → ∀ i, i < k → valT (rdK d k).rs (t3 (d.rows.getD i [])) = d.ws.getD i 0
  | 0, _, i, hi => by omega
  | k + 1, hk, i, hi => by
    unfold valT
    rw [rdK_succ, List.find?_append]
    by_cases e : i < k
    · have h1 := h.look k (by omega) i e
      unfold valT at h1
      have h2 : ((rdK d k).rs.find? fun p => decide (p.1 = t3 (d.rows.getD i []))).isSome = true := by
        rw [List.find?_isSome]
        exact ⟨(t3 (d.rows.getD i []), d.ws.getD i 0), by unfold rdK; exact List.mem_map.2 ⟨i, List.mem_range.2 e, rfl⟩, by simp⟩
      obtain ⟨x, hx⟩ := Option.isSome_iff_exists.1 h2
      rw [hx] at h1 ⊢
      exact h1
    · obtain rfl : i = k := by omega
      have h2 : ((rdK d i).rs.find? fun p => decide (p.1 = t3 (d.rows.getD i []))) = none := by
        rw [List.find?_eq_none]
        intro p hp
        rw [decide_eq_true_eq]
        exact fun e => h.new (k := i) (by omega) (by rw [← e]; exact List.mem_map_of_mem hp)
      rw [h2]
      simp
theorem RG.of {d : RelV} (h : RG d) : RelOf (rdK d d.rows.length) d := by
  have hk : (rdK d d.rows.length).rs.map Prod.fst = (List.range d.rows.length).map fun i => t3 (d.rows.getD i []) := by unfold rdK; rw [List.map_map]; rfl
  refine ⟨rfl, by show d.ar = ((d.ar.toNat : Nat) : Int); have := h.a1; omega, (List.range d.rows.length).map (fun i => t3 (d.rows.getD i [])), by rw [hk], ?_, ?_, ?_⟩
  · rw [List.pairwise_map]
    refine List.Pairwise.imp_of_mem (fun {i j} hi hj hij => ?_) (List.pairwise_lt_range (n := d.rows.length))
    have hi' := List.mem_range.1 hi
    have hj' := List.mem_range.1 hj
    intro hc
    have h1 := h.lt j hij hj'
    have hz : ∀ m, m < d.rows.length → ztT d.ar.toNat (t3 (d.rows.getD m [])) := fun m hm => by
      have hl := h.len m hm
      refine ⟨fun ha => ?_, fun ha => ?_⟩
      · show cl ((d.rows.getD m []).getD 1 0) = 0
        rw [List.getD_eq_getElem?_getD, List.getElem?_eq_none (by omega)]; rfl
      · show cl ((d.rows.getD m []).getD 2 0) = 0
        rw [List.getD_eq_getElem?_getD, List.getElem?_eq_none (by omega)]; rfl
    have h2 := cmp_take (by have := h.a1; omega) (by have := h.a3; omega) (hz j hj') (hz i hi')
    rw [h.row hi', h.row hj'] at h2
    have h3 := cmpL_neg (d.rows.getD i []) (d.rows.getD j [])
    omega
  · unfold rowsT
    refine List.ext_getElem (by simp) fun i h1 h2 => ?_
    have h9 := h.row h1
    have e0 : d.rows.getD i [] = d.rows[i] := by rw [List.getD_eq_getElem?_getD, List.getElem?_eq_getElem h1]; rfl
    simp only [List.getElem_map, List.getElem_range]
    rw [← e0]
    exact h9.symm
  · unfold wtsT
    refine List.ext_getElem (by simp [h.ws]) fun i h1 h2 => ?_
    have h9 := h.look d.rows.length (Nat.le_refl _) i (by have := h.ws; omega)
    have e0 : d.ws.getD i 0 = d.ws[i] := by rw [List.getD_eq_getElem?_getD, List.getElem?_eq_getElem h1]; rfl
    simp only [List.getElem_map, List.getElem_range]
    rw [h9, e0]

theorem nat_num {n most : Nat} (h : n ≤ most) : numG ⟨(Lib.itoa (n : Int)).toArray⟩ most = true ∧ numN ⟨(Lib.itoa (n : Int)).toArray⟩ most = n := by
  have e : Lib.itoa (n : Int) = Lib.decDigits n := by unfold Lib.itoa; rw [if_neg (by omega)]; simp
  have h1 : rdN (Lib.itoa (n : Int)) most = some n := rdN_some.2 ⟨e, h⟩
  unfold numG numN
  have e2 : (⟨(Lib.itoa (n : Int)).toArray⟩ : ByteArray).data.toList = Lib.itoa (n : Int) := by simp
  rw [e2, h1]
  exact ⟨rfl, rfl⟩
theorem wt_num {x : Int} (h : -1000000 ≤ x) (h2 : x ≤ 1000000) : okW (Lib.itoa x) = true ∧ wtF (Lib.itoa x) = x := by
  unfold okW wtF wtG wtN
  have e2 : (⟨(Lib.itoa x).toArray⟩ : ByteArray).data.toList = Lib.itoa x := by simp
  by_cases hx : x < 0
  · obtain ⟨m, rfl⟩ : ∃ m : Nat, x = -(m : Int) := ⟨x.natAbs, by omega⟩
    have e : Lib.itoa (-(m : Int)) = 45 :: Lib.itoa (m : Int) := by unfold Lib.itoa; rw [if_pos (by omega), if_neg (by omega)]; simp
    have hm : isMinus ⟨(Lib.itoa (-(m : Int))).toArray⟩ = true := by unfold isMinus; rw [e2, e]; simp
    have hc : cutM ⟨(Lib.itoa (-(m : Int))).toArray⟩ = ⟨(Lib.itoa (m : Int)).toArray⟩ := by unfold cutM; rw [if_pos hm, e2, e]; rfl
    rw [if_pos hm, if_pos hm, hc]
    obtain ⟨g1, g2⟩ := nat_num (n := m) (most := 1000000) (by omega)
    rw [g1, g2]
    refine ⟨?_, rfl⟩
    simp; omega
  · obtain ⟨m, rfl⟩ : ∃ m : Nat, x = (m : Int) := ⟨x.natAbs, by omega⟩
    have hm : isMinus ⟨(Lib.itoa (m : Int)).toArray⟩ = false := by
      unfold isMinus
      rw [e2]
      have e : Lib.itoa (m : Int) = Lib.decDigits m := by unfold Lib.itoa; rw [if_neg (by omega)]; simp
      rw [e]
      simpa using dig_head m
    rw [if_neg (by rw [hm]; decide), if_neg (by rw [hm]; decide)]
    obtain ⟨g1, g2⟩ := nat_num (n := m) (most := 1000000) (by omega)
    exact ⟨g1, by rw [g2]⟩
theorem nm_mk (r : RelV) : (⟨(nmL r).toArray⟩ : ByteArray) = r.name := by unfold nmL; simp
theorem join_head (a : List UInt8) (l : List (List UInt8)) (c : UInt8) (t : List UInt8) (h : a = c :: t) : ∃ t', Lib.join (a :: l) [32] = c :: t' := by
  subst h
  cases l with
  | nil => exact ⟨t, Lib.join_one _ _⟩
  | cons b l => exact ⟨_, by rw [Lib.join_cons]; rfl⟩
theorem RG.rel {d : RelV} (h : RG d) {st : List RdV} (hn : hasP (st.map RdV.nm) d.name = false) (hl : st.length < 50) : takA st (lnF (flR d)) = some (st ++ [rdK d 0]) := by
  have hnm : nameB d.name = true := by have := h.nm; unfold relName at this; rw [Bool.and_eq_true] at this; exact this.1
  have hm : mute (lnF (flR d)) = false := by
    obtain ⟨t', e⟩ := join_head [114, 101, 108] [nmL d, Lib.itoa d.ar] 114 [101, 108] rfl
    unfold mute lnF flR
    rw [e]
    rfl
  unfold takA
  rw [if_neg (by rw [hm]; decide)]
  dsimp only
  rw [flR_spl hnm]
  have ha : d.ar = ((d.ar.toNat : Nat) : Int) := by have := h.a1; omega
  obtain ⟨g1, g2⟩ := nat_num (n := d.ar.toNat) (most := 3) (by have := h.a3; omega)
  rw [← ha] at g1 g2
  have e1 : (flR d).getD 0 [] = [114, 101, 108] := rfl
  have e2 : (flR d).drop 1 = [nmL d, Lib.itoa d.ar] := rfl
  rw [if_pos e1, e2]
  have hd : decA st [nmL d, Lib.itoa d.ar] = true := by
    unfold decA
    show (decide (2 = 2) && !decide (st.length = 50) && !hasP (st.map RdV.nm) ⟨(nmL d).toArray⟩ && numG ⟨(Lib.itoa d.ar).toArray⟩ 3 && arityB (numN ⟨(Lib.itoa d.ar).toArray⟩ 3) && relName ⟨(nmL d).toArray⟩) = true
    rw [nm_mk, hn, g1, g2, h.nm]
    unfold arityB
    have := h.a1
    have := h.a3
    simp
    omega
  rw [if_pos hd]
  show some (st ++ [⟨⟨(nmL d).toArray⟩, numN ⟨(Lib.itoa d.ar).toArray⟩ 3, []⟩]) = _
  rw [nm_mk, g2]
  rfl

theorem any_pos {L : List ByteArray} {s : ByteArray} (h : hasP L s = false) : (L ++ [s]).findIdx (fun x => x.toList == s.toList) = L.length := by
  rw [List.findIdx_append]
  have h1 : L.findIdx (fun x => x.toList == s.toList) = L.length := by
    rw [List.findIdx_eq_length]
    intro x hx
    unfold hasP at h
    rw [List.any_eq_false] at h
    exact Bool.eq_false_iff.2 (h x hx)
  rw [h1, if_neg (Nat.lt_irrefl _)]
  simp [List.findIdx_cons]
theorem getD_memF {l : List Int} {j : Nat} (h : j < l.length) : l.getD j 0 ∈ l := by
  rw [List.getD_eq_getElem?_getD, List.getElem?_eq_getElem h]
  exact List.getElem_mem h
theorem map_itoa {l : List Int} {j : Nat} (h : j < l.length) (x : List UInt8) : (l.map Lib.itoa ++ [x]).getD j [] = Lib.itoa (l.getD j 0) := by
  rw [List.getD_eq_getElem?_getD, List.getElem?_append_left (by rw [List.length_map]; omega), List.getElem?_map, List.getElem?_eq_getElem h, List.getD_eq_getElem?_getD, List.getElem?_eq_getElem h]
  rfl
theorem flW_at {d : RelV} {k : Nat} (hk : (d.rows.getD k []).length = d.ar.toNat) : ((flW d k).drop 1).length = d.ar.toNat + 1 ∧ (∀ j, j < d.ar.toNat → ((flW d k).drop 1).getD j [] = Lib.itoa ((d.rows.getD k []).getD j 0)) ∧ ((flW d k).drop 1).getD d.ar.toNat [] = Lib.itoa (d.ws.getD k 0) := by
  have e : (flW d k).drop 1 = (d.rows.getD k []).map Lib.itoa ++ [Lib.itoa (d.ws.getD k 0)] := rfl
  rw [e]
  refine ⟨by rw [List.length_append, List.length_map, hk]; rfl, fun j hj => ?_, ?_⟩
  · exact map_itoa (by omega) _
  · rw [List.getD_eq_getElem?_getD, List.getElem?_append_right (by rw [List.length_map]; omega), List.length_map, hk, Nat.sub_self]
    rfl
theorem RG.wt1 {d : RelV} (h : RG d) {st : List RdV} (hn : hasP (st.map RdV.nm) d.name = false) {k : Nat} (hk : k < d.rows.length) : takA (st ++ [rdK d k]) (lnF (flW d k)) = some (st ++ [rdK d (k + 1)]) := by
  have hnm : nameB d.name = true := by have := h.nm; unfold relName at this; rw [Bool.and_eq_true] at this; exact this.1
  have hne : nmL d ≠ [114, 101, 108] := by
    have := h.nm
    unfold relName at this
    rw [Bool.and_eq_true, Bool.not_eq_true'] at this
    intro e
    have h2 := this.2
    rw [ByteArray.toList_eq] at h2
    rw [show d.name.data.toList = nmL d from rfl, e] at h2
    exact absurd h2 (by decide)
  have hm : mute (lnF (flW d k)) = false := by
    have hlen : (nmL d).length = d.name.size := by unfold nmL; simp
    have hnb := hnm
    unfold nameB at hnb
    simp only [Bool.and_eq_true, decide_eq_true_eq, List.all_eq_true, List.mem_range] at hnb
    cases e : nmL d with
    | nil => rw [e] at hlen; simp at hlen; omega
    | cons c t =>
      obtain ⟨t', e2⟩ := join_head (nmL d) ((d.rows.getD k []).map Lib.itoa ++ [Lib.itoa (d.ws.getD k 0)]) c t e
      unfold mute lnF flW
      rw [e2]
      have hc : c ≠ 35 := fun e3 => by
        have h1 := hnb.1.2
        unfold byteAt at h1
        rw [show d.name.data.toList = nmL d from rfl, e, e3] at h1
        have h2 : letterB 35 = true := h1
        exact absurd h2 (by decide)
      simp [hc]
  have harl : (d.rows.getD k []).length = d.ar.toNat := by have := h.len k hk; omega
  have h1a := h.a1
  have h3a := h.a3
  have hval := h.val k hk
  obtain ⟨f1, f2, f3⟩ := flW_at harl
  have hgx : ∀ j, j < d.ar.toNat → 0 ≤ (d.rows.getD k []).getD j 0 ∧ (d.rows.getD k []).getD j 0 ≤ 1000000 := fun j hj => by
    exact hval _ (getD_memF (by omega))
  have hokj : ∀ j, j < d.ar.toNat → okF (((flW d k).drop 1).getD j []) = true ∧ (numF (((flW d k).drop 1).getD j []) : Int) = (d.rows.getD k []).getD j 0 := fun j hj => by
    rw [f2 j hj]
    have hx := hgx j hj
    obtain ⟨m, hm'⟩ : ∃ m : Nat, (d.rows.getD k []).getD j 0 = (m : Int) := ⟨((d.rows.getD k []).getD j 0).toNat, by omega⟩
    rw [hm']
    obtain ⟨g1, g2⟩ := nat_num (n := m) (most := 1000000) (by omega)
    unfold okF numF
    exact ⟨g1, by rw [g2]⟩
  have hvF : ∀ j, valF ((flW d k).drop 1) d.ar.toNat j = cl ((d.rows.getD k []).getD j 0) := fun j => by
    unfold valF
    by_cases hj : j < d.ar.toNat
    · rw [if_pos hj, (hokj j hj).2, cl_same (hgx j hj)]
    · rw [if_neg hj, List.getD_eq_getElem?_getD, List.getElem?_eq_none (by omega)]; rfl
  have htup : tupF ((flW d k).drop 1) d.ar.toNat = t3 (d.rows.getD k []) := T3.ext3 (hvF 0) (hvF 1) (hvF 2)
  obtain ⟨w1, w2⟩ := wt_num (h.wt k hk).1 (h.wt k hk).2
  unfold takA
  rw [if_neg (by rw [hm]; decide)]
  dsimp only
  rw [flW_spl hnm]
  have e1 : (flW d k).getD 0 [] = nmL d := rfl
  rw [e1, if_neg hne, nm_mk]
  have hL : (st ++ [rdK d k]).map RdV.nm = st.map RdV.nm ++ [d.name] := by rw [List.map_append]; rfl
  have hp : plcP ((st ++ [rdK d k]).map RdV.nm) d.name = st.length := by
    unfold plcP
    rw [hL, any_pos hn, List.length_map]
  have hh : hasP ((st ++ [rdK d k]).map RdV.nm) d.name = true := by
    rw [hL]
    unfold hasP
    simp
  have hr : (st ++ [rdK d k]).getD st.length noRd = rdK d k := by rw [List.getD_eq_getElem?_getD, List.getElem?_append_right (Nat.le_refl _), Nat.sub_self]; rfl
  rw [hp, hr, hh, Bool.true_and]
  have hnew := h.new hk
  have hsto : stoA (rdK d k).ar (rdK d k).rs ((flW d k).drop 1) = true := by
    unfold stoA
    show (decide (((flW d k).drop 1).length = d.ar.toNat + 1) && (List.range d.ar.toNat).all (fun j => okF (((flW d k).drop 1).getD j [])) && okW (((flW d k).drop 1).getD d.ar.toNat []) && (decide (tupF ((flW d k).drop 1) d.ar.toNat ∈ (rdK d k).rs.map Prod.fst) || !decide ((rdK d k).rs.length = 2000))) = true
    have hlr : (rdK d k).rs.length = k := by unfold rdK; simp
    have hall : (List.range d.ar.toNat).all (fun j => okF (((flW d k).drop 1).getD j [])) = true := by rw [List.all_eq_true]; exact fun j hj => (hokj j (List.mem_range.1 hj)).1
    rw [f1, f3, w1, hlr, hall]
    have := h.n
    simp
    omega
  rw [if_pos hsto]
  have hu : updT (rdK d k).rs (tupF ((flW d k).drop 1) (rdK d k).ar) (wtF (((flW d k).drop 1).getD (rdK d k).ar [])) = (rdK d (k + 1)).rs := by
    show updT (rdK d k).rs (tupF ((flW d k).drop 1) d.ar.toNat) (wtF (((flW d k).drop 1).getD d.ar.toNat [])) = _
    rw [htup, f3, w2, rdK_succ]
    unfold updT
    rw [if_neg hnew]
  rw [hu, List.set_append_right _ _ (Nat.le_refl _), Nat.sub_self]
  rfl
theorem RG.lines {d : RelV} (h : RG d) {st : List RdV} (hn : hasP (st.map RdV.nm) d.name = false) (hl : st.length < 50) : ∀ k, k ≤ d.rows.length → rdL st (lnsR d k) = some (st ++ [rdK d k])
  | 0, _ => by
    show (takA st (lnF (flR d))).bind _ = _
    rw [h.rel hn hl]; rfl
  | k + 1, hk => by
    rw [lnsR, rdL_app, h.lines hn hl k (by omega)]
    show (takA (st ++ [rdK d k]) (lnF (flW d k))).bind _ = _
    rw [h.wt1 hn hk]; rfl
theorem data_read {ds : List RelV} (h : dataB ds = true) : ∀ j, j ≤ ds.length → rdL [] (lnsD ds j) = some ((List.range j).map fun i => rdK (ds.getD i noRel) (ds.getD i noRel).rows.length)
  | 0, _ => rfl
  | j + 1, hj => by
    have hd := h
    unfold dataB at hd
    simp only [Bool.and_eq_true, decide_eq_true_eq, List.all_eq_true, List.mem_range] at hd
    have hj1 := hd.2 j (by omega)
    unfold relAtB at hj1
    rw [Bool.and_eq_true, Bool.not_eq_true'] at hj1
    have hG := rg_of hj1.1
    rw [lnsD, rdL_app, data_read h j (by omega)]
    show rdL _ (lnsR (ds.getD j noRel) (ds.getD j noRel).rows.length) = _
    rw [hG.lines ?_ (by rw [List.length_map, List.length_range]; omega) _ (Nat.le_refl _), List.range_succ, List.map_append]
    · rfl
    · have h2 := hj1.2
      unfold namedB at h2
      rw [List.any_eq_false] at h2
      unfold hasP
      rw [List.any_eq_false]
      intro x hx
      rw [List.map_map, List.mem_map] at hx
      obtain ⟨i, hi, rfl⟩ := hx
      have := h2 i hi
      rw [decide_eq_true_eq] at this
      intro e
      refine this ?_
      have e2 := eq_of_beq e
      rw [ByteArray.toList_eq, ByteArray.toList_eq] at e2
      have e3 : ((rdK (ds.getD i noRel) (ds.getD i noRel).rows.length).nm).data = (ds.getD j noRel).name.data := Array.toList_inj.1 e2
      exact ByteArray.ext e3
/-- right data, printed and read: the same data -/
theorem data_round {ds : List RelV} (h : dataB ds = true) : ∃ st, prT (spl 10 (datT ds ds.length)) (spl 10 (datT ds ds.length)).length = some st ∧ DsOf st ds ∧ ∀ i, i < st.length → ((st.getD i noRd).rs.map Prod.fst).Nodup := by
  rw [data_lines h]
  refine ⟨(List.range ds.length).map fun i => rdK (ds.getD i noRel) (ds.getD i noRel).rows.length, ?_, ?_, ?_⟩
  · rw [prT_rdL _ _ (Nat.le_refl _), List.take_length, rdL_app, data_read h _ (Nat.le_refl _)]
    rfl
  · refine ⟨by simp, fun i hi => ?_⟩
    rw [List.length_map, List.length_range] at hi
    have hd := h
    unfold dataB at hd
    simp only [Bool.and_eq_true, decide_eq_true_eq, List.all_eq_true, List.mem_range] at hd
    have hj1 := hd.2 i hi
    unfold relAtB at hj1
    rw [Bool.and_eq_true] at hj1
    rw [List.getD_eq_getElem?_getD, List.getElem?_map, List.getElem?_range hi]
    exact (rg_of hj1.1).of
  · intro i hi
    rw [List.length_map, List.length_range] at hi
    have hd := h
    unfold dataB at hd
    simp only [Bool.and_eq_true, decide_eq_true_eq, List.all_eq_true, List.mem_range] at hd
    have hj1 := hd.2 i hi
    unfold relAtB at hj1
    rw [Bool.and_eq_true] at hj1
    have hG := rg_of hj1.1
    rw [List.getD_eq_getElem?_getD, List.getElem?_map, List.getElem?_range hi]
    show ((rdK (ds.getD i noRel) (ds.getD i noRel).rows.length).rs.map Prod.fst).Nodup
    unfold rdK
    rw [List.map_map]
    refine List.pairwise_map.2 ?_
    refine List.Pairwise.imp_of_mem (fun {a b} ha hb hab => ?_) (List.pairwise_lt_range (n := (ds.getD i noRel).rows.length))
    exact fun e => absurd (hG.inj (List.mem_range.1 ha) (List.mem_range.1 hb) e) (by omega)

end Go.Proofs.YtcdfoephhjacdaaGreatDoor
