import Derived.Test.YtegcpplkcahkhaaGreatBd23
import Derived.Test.YtegcpplkcahkhaaGreatBd31
import Derived.Test.YtegcpplkcahkhaaGreatBd35
import Derived.Test.YtegcpplkcahkhaaGreatBd42
import Derived.Test.YtegcpplkcahkhaaGreatBd43
/-
  Both make the same tables: rows that fit differ at their variables; sorted lists with the same pairs are one.
-/
namespace Go.Proofs.YtegcpplkcahkhaaGreat
open Go.RowKit

theorem atP_col (row : List Int) (V : List ByteArray) (ts : List TermV) : atP row (colP V ts) = (vrs V ts).map fun v => row.getD ((lastO ts ts.length (V.getD v noTx)).getD 0) 0 := by
  unfold atP colP
  rw [List.map_map]
  refine List.map_congr_left fun v _ => ?_
  simp only [Function.comp_def, Int.toNat_natCast]

/-- rows that fit are told by their variables' values -/
theorem fit_inj {V : List ByteArray} {ts : List TermV} {r1 r2 : List Int} (hall : ∀ i, i < ts.length → (ts.getD i noTm).1.toList.isEmpty = false → hasT V (ts.getD i noTm).1 = true) (h1 : fitB ts r1 = true) (h2 : fitB ts r2 = true) (l1 : r1.length = ts.length) (l2 : r2.length = ts.length) (h : atP r1 (colP V ts) = atP r2 (colP V ts)) : r1 = r2 := by
  rw [atP_col, atP_col] at h
  have hv := List.map_inj_left.1 h
  have key : ∀ i, i < ts.length → r1.getD i 0 = r2.getD i 0 := fun i hi => by
    cases he : (ts.getD i noTm).1.toList.isEmpty
    · obtain ⟨v, hvl, hvx⟩ := hasT_ix (hall i hi he)
      have hs : (lastO ts ts.length (ts.getD i noTm).1).isSome = true := lastO_some hi (by simp)
      obtain ⟨q, hq⟩ := Option.isSome_iff_exists.1 hs
      have hm : v ∈ vrs V ts := vrs_mem.2 ⟨hvl, by rw [hvx]; exact hs⟩
      have e := hv v hm
      rw [hvx, hq] at e
      simp only [Option.getD_some] at e
      have hql := lastO_lt hq
      have hqs := lastO_is hq
      rw [fitAt_same (fitB_at h1 hi) he hql hqs, fitAt_same (fitB_at h2 hi) he hql hqs, e]
    · have e1 := fitB_at h1 hi
      have e2 := fitB_at h2 hi
      rw [fitAt_const he, decide_eq_true_eq] at e1 e2
      rw [e1, e2]
  refine List.ext_getElem (by omega) fun i hi1 hi2 => ?_
  have := key i (by omega)
  rw [List.getD_eq_getElem?_getD, List.getElem?_eq_getElem hi1, List.getD_eq_getElem?_getD, List.getElem?_eq_getElem hi2] at this
  simpa using this

def LtL (a b : List Int) : Prop := cmpL a b < 0
theorem LtL.irr {a : List Int} (h : LtL a a) : False := by unfold LtL at h; rw [cmpL_self] at h; omega
theorem LtL.no {a b : List Int} (h : LtL a b) (k : LtL b a) : False := by
  unfold LtL at *
  have := cmpL_neg a b
  omega

theorem rows_strict {rows : List (List Int)} {q : Int} (h : rowsB rows q = true) : ∀ i j, i < j → j < rows.length → LtL (rows.getD i []) (rows.getD j []) := by
  have hs : ∀ j, j + 1 < rows.length → LtL (rows.getD j []) (rows.getD (j + 1) []) := fun j hj => by
    unfold rowsB at h
    rw [List.all_eq_true] at h
    have h9 := h (j + 1) (by simpa using hj)
    unfold rowAt at h9
    simp only [Bool.and_eq_true, decide_eq_true_eq] at h9
    unfold LtL
    simpa using h9.2
  intro i j hij hj
  induction j with
  | zero => omega
  | succ j ih =>
    rcases Nat.lt_or_ge i j with h1 | h1
    · exact cmpL_trans (ih h1 (by omega)) (hs j hj)
    · obtain rfl : i = j := by omega
      exact hs i hj

/-- no two found pairs have the same values -/
theorem fnd_nodup {V : List ByteArray} {ts : List TermV} {r : RelV} {q : Int} (hH : BtH V ts r) (hb : rowsB r.rows q = true) (i : Nat) (hi : i ≤ r.rows.length) : ((fndL V ts r.rows r.ws i).map Prod.fst).Nodup := by
  unfold fndL
  rw [List.map_map]
  refine List.pairwise_map.2 ?_
  refine (List.nodup_range.filter _).imp_of_mem fun {a b} ha hb' hne e => ?_
  obtain ⟨ha1, ha2⟩ := List.mem_filter.1 ha
  obtain ⟨hb1, hb2⟩ := List.mem_filter.1 hb'
  have ha3 : a < r.rows.length := by have := List.mem_range.1 ha1; omega
  have hb3 : b < r.rows.length := by have := List.mem_range.1 hb1; omega
  have e2 := fit_inj hH.all ha2 hb2 (hH.len a ha3) (hH.len b hb3) e
  rcases Nat.lt_trichotomy a b with h1 | h1 | h1
  · have := rows_strict hb a b h1 hb3
    rw [e2] at this
    exact this.irr
  · exact hne h1
  · have := rows_strict hb b a h1 ha3
    rw [e2] at this
    exact this.irr

theorem srt_uniqL : ∀ {l1 l2 : List (List Int × Int)}, l1.Pairwise (fun a b => LtL a.1 b.1) → l2.Pairwise (fun a b => LtL a.1 b.1) → (∀ x, x ∈ l1 ↔ x ∈ l2) → l1 = l2
  | [], [], _, _, _ => rfl
  | [], b :: r2, _, _, h => absurd ((h b).2 (List.mem_cons_self ..)) (by simp)
  | a :: r1, [], _, _, h => absurd ((h a).1 (List.mem_cons_self ..)) (by simp)
  | a :: r1, b :: r2, h1, h2, h => by
    rw [List.pairwise_cons] at h1 h2
    have e : a = b := by
      rcases List.mem_cons.1 ((h a).1 (List.mem_cons_self ..)) with e | ha
      · exact e
      · rcases List.mem_cons.1 ((h b).2 (List.mem_cons_self ..)) with e | hb
        · exact e.symm
        · exact ((h1.1 b hb).no (h2.1 a ha)).elim
    subst e
    rw [srt_uniqL h1.2 h2.2 fun x => ?_]
    constructor
    · intro hx
      rcases List.mem_cons.1 ((h x).1 (List.mem_cons_of_mem _ hx)) with e | hx2
      · subst e; exact (h1.1 x hx).irr.elim
      · exact hx2
    · intro hx
      rcases List.mem_cons.1 ((h x).2 (List.mem_cons_of_mem _ hx)) with e | hx2
      · subst e; exact (h2.1 x hx).irr.elim
      · exact hx2

theorem strict_ofL {rows : List (List Int)} (h : rows.Pairwise fun a b => ¬ cmpL b a < 0) (hn : rows.Nodup) : rows.Pairwise LtL := by
  refine (h.and hn).imp fun {a b} hab => ?_
  obtain ⟨h1, h2⟩ := hab
  unfold LtL
  have h3 := cmpL_neg a b
  have h4 : cmpL a b ≠ 0 := fun e => h2 (cmpL_eq e)
  omega
theorem zip_pw {rows : List (List Int)} {ws : List Int} (hl : rows.length = ws.length) (h : rows.Pairwise LtL) : (rows.zip ws).Pairwise fun a b => LtL a.1 b.1 := by
  have : ((rows.zip ws).map Prod.fst).Pairwise LtL := by rw [List.map_fst_zip (by omega)]; exact h
  exact List.pairwise_map.1 this

/-- two sorted lists of rows with their weights that hold the same pairs are one -/
theorem tab_uniq {r1 r2 : List (List Int)} {w1 w2 : List Int} {l : List (List Int × Int)} (hn : (l.map Prod.fst).Nodup) (l1 : r1.length = w1.length) (l2 : r2.length = w2.length) (p1 : (r1.zip w1).Perm l) (p2 : (r2.zip w2).Perm l) (s1 : r1.Pairwise fun a b => ¬ cmpL b a < 0) (s2 : r2.Pairwise fun a b => ¬ cmpL b a < 0) : r1 = r2 ∧ w1 = w2 := by
  have n1 : r1.Nodup := by
    have := (p1.map Prod.fst).nodup_iff.2 hn
    rwa [List.map_fst_zip (by omega)] at this
  have n2 : r2.Nodup := by
    have := (p2.map Prod.fst).nodup_iff.2 hn
    rwa [List.map_fst_zip (by omega)] at this
  have e := srt_uniqL (zip_pw l1 (strict_ofL s1 n1)) (zip_pw l2 (strict_ofL s2 n2)) fun x => (p1.mem_iff).trans p2.mem_iff.symm
  constructor
  · rw [← List.map_fst_zip (l₁ := r1) (l₂ := w1) (by omega), e, List.map_fst_zip (by omega)]
  · rw [← List.map_snd_zip (l₁ := r1) (l₂ := w1) (by omega), e, List.map_snd_zip (by omega)]

end Go.Proofs.YtegcpplkcahkhaaGreat

/-
  The model's table: row by row by l2Put.
-/
namespace Go.Proofs.YtegcpplkcahkhaaGreat
open Go.RowKit

theorem putL_no {α : Type} (l : List α) (k : Nat) (x : α) : putL l k false x = (l.take k ++ [x]) ++ l.drop k := rfl

theorem put_new {rows : List (List Int)} {ws : List Int} {x : List Int} {w : Int} {k : Nat} {there : Bool} (hs : rows.Pairwise LtL) (hl : rows.length = ws.length) (hx : x ∉ rows) (hF : FndA rows x k there) :
    (putL rows k there x).Pairwise LtL ∧ (putL rows k there x).length = (putL ws k there w).length ∧ ((putL rows k there x).zip (putL ws k there w)).Perm (rows.zip ws ++ [(x, w)]) := by
  obtain ⟨hk, hlt, hge, hth⟩ := hF
  have hne : ∀ i (hi : i < rows.length), cmpL (rows.getD i []) x ≠ 0 := fun i hi e => hx (by
    have := cmpL_eq e
    rw [← this]
    rw [List.getD_eq_getElem?_getD, List.getElem?_eq_getElem hi]
    exact List.getElem_mem _)
  have hf : there = false := by
    cases hb : there
    · rfl
    · obtain ⟨h1, h2⟩ := hth.1 hb
      exact absurd h2 (hne k h1)
  subst hf
  rw [putL_no, putL_no]
  have hpw := List.pairwise_iff_getElem.1 hs
  have hg : ∀ i (hi : i < rows.length), rows.getD i [] = rows[i] := fun i hi => by rw [List.getD_eq_getElem?_getD, List.getElem?_eq_getElem hi]; rfl
  have hxk : ∀ hkl : k < rows.length, LtL x rows[k] := fun hkl => by
    have h1 := hge hkl
    have h2 := hne k hkl
    have h3 := cmpL_neg x (rows.getD k [])
    rw [hg k hkl] at h1 h2 h3
    unfold LtL
    omega
  refine ⟨?_, ?_, ?_⟩
  · refine List.pairwise_append.2 ⟨List.pairwise_append.2 ⟨hs.sublist (List.take_sublist _ _), List.pairwise_singleton _ _, fun a ha b hb => ?_⟩, hs.sublist (List.drop_sublist _ _), fun a ha b hb => ?_⟩
    · rw [List.mem_singleton.1 hb]
      obtain ⟨i, hi, rfl⟩ := List.getElem_of_mem ha
      rw [List.length_take] at hi
      rw [List.getElem_take]
      have := hlt i (by omega)
      rw [hg i (by omega)] at this
      exact this
    · obtain ⟨j, hj, rfl⟩ := List.getElem_of_mem hb
      rw [List.length_drop] at hj
      rw [List.getElem_drop]
      have hkl : k < rows.length := by omega
      have hxj : LtL x (rows[k + j]'(by omega)) := by
        rcases Nat.eq_zero_or_pos j with e | e
        · subst e; exact hxk hkl
        · exact cmpL_trans (hxk hkl) (hpw k (k + j) hkl (by omega) (by omega))
      rcases List.mem_append.1 ha with ha | ha
      · obtain ⟨i, hi, rfl⟩ := List.getElem_of_mem ha
        rw [List.length_take] at hi
        rw [List.getElem_take]
        have := hlt i (by omega)
        rw [hg i (by omega)] at this
        exact cmpL_trans this hxj
      · rw [List.mem_singleton.1 ha]; exact hxj
  · simp only [List.length_append, List.length_take, List.length_drop, List.length_singleton]
    omega
  · have e1 : (rows.take k ++ [x] ++ rows.drop k).zip (ws.take k ++ [w] ++ ws.drop k) = ((rows.take k).zip (ws.take k) ++ [(x, w)]) ++ (rows.drop k).zip (ws.drop k) := by
      rw [List.zip_append (by simp only [List.length_append, List.length_take, List.length_singleton]; omega), List.zip_append (by simp only [List.length_take]; omega)]
      rfl
    have e2 : rows.zip ws = (rows.take k).zip (ws.take k) ++ (rows.drop k).zip (ws.drop k) := by
      rw [← List.zip_append (by simp only [List.length_take]; omega), List.take_append_drop, List.take_append_drop]
    rw [e1, e2, List.append_assoc, List.append_assoc]
    exact List.Perm.append_left _ List.perm_append_comm

/-- the model's table behind i rows -/
def SpT (V : List ByteArray) (ts : List TermV) (r : RelV) (i : Nat) (rows : List (List Int)) (ws : List Int) : Prop := rows.Pairwise LtL ∧ rows.length = ws.length ∧ (rows.zip ws).Perm (fndL V ts r.rows r.ws i)
section
variable {V : List ByteArray} {ts : List TermV} {r : RelV} {i : Nat} {rows : List (List Int)} {ws : List Int}
theorem SpT.start (V : List ByteArray) (ts : List TermV) (r : RelV) : SpT V ts r 0 [] [] := ⟨List.Pairwise.nil, rfl, List.Perm.refl _⟩
theorem SpT.no (h : SpT V ts r i rows ws) (hf : fitB ts (r.rows.getD i []) = false) : SpT V ts r (i + 1) rows ws := ⟨h.1, h.2.1, by rw [fndL_no hf]; exact h.2.2⟩
theorem SpT.yes {q : Int} {k : Nat} {there : Bool} (h : SpT V ts r i rows ws) (hH : BtH V ts r) (hb : rowsB r.rows q = true) (hi : i < r.rows.length) (hf : fitB ts (r.rows.getD i []) = true) (hF : FndA rows (atP (r.rows.getD i []) (colP V ts)) k there) :
    SpT V ts r (i + 1) (putL rows k there (atP (r.rows.getD i []) (colP V ts))) (putL ws k there (r.ws.getD i 0)) := by
  have hn := fnd_nodup hH hb (i + 1) (by omega)
  rw [fndL_yes hf, List.map_append] at hn
  have hx : atP (r.rows.getD i []) (colP V ts) ∉ rows := fun hm => by
    have h1 : atP (r.rows.getD i []) (colP V ts) ∈ (fndL V ts r.rows r.ws i).map Prod.fst := by
      rw [← (h.2.2.map Prod.fst).mem_iff, List.map_fst_zip (by have := h.2.1; omega)]
      exact hm
    exact (List.nodup_append.1 hn).2.2 _ h1 _ (by simp) rfl
  obtain ⟨p1, p2, p3⟩ := put_new (w := r.ws.getD i 0) h.1 h.2.1 hx hF
  exact ⟨p1, p2, by rw [fndL_yes hf]; exact p3.trans (h.2.2.append_right _)⟩
theorem SpT.le (h : SpT V ts r i rows ws) : rows.length ≤ i := by
  have h1 := h.2.2.length_eq
  have h2 := fndL_len V ts r.rows r.ws i
  rw [List.length_zip] at h1
  have := h.2.1
  omega
/-- the program's table is the model's -/
theorem SpT.same {q : Int} {r1 : List (List Int)} {w1 : List Int} (h : SpT V ts r r.rows.length rows ws) (hH : BtH V ts r) (hb : rowsB r.rows q = true) (l1 : r1.length = w1.length) (p1 : (r1.zip w1).Perm (fndL V ts r.rows r.ws r.rows.length)) (s1 : r1.Pairwise fun a b => ¬ cmpL b a < 0) : r1 = rows ∧ w1 = ws :=
  tab_uniq (fnd_nodup hH hb _ (Nat.le_refl _)) l1 h.2.1 p1 h.2.2 s1 (h.1.imp fun {a b} hab => by
    unfold LtL at hab
    have := cmpL_neg a b
    omega)
end

end Go.Proofs.YtegcpplkcahkhaaGreat

/-
  The model's table in the making.
-/
namespace Go.Proofs.YtegcpplkcahkhaaGreat
open Go.RowKit

theorem map_putB {α β : Type} (g : α → β) (l : List α) (k : Nat) (there : Bool) (x : α) : (putL l k there x).map g = putL (l.map g) k there (g x) := by
  unfold putL
  rw [List.map_append, List.map_append, List.map_take, List.map_drop]
  rfl
theorem mem_putL {α : Type} {l : List α} {k : Nat} {there : Bool} {x y : α} (h : y ∈ putL l k there x) : y ∈ l ∨ y = x := by
  unfold putL at h
  rcases List.mem_append.1 h with h | h
  · rcases List.mem_append.1 h with h | h
    · exact Or.inl (List.mem_of_mem_take h)
    · exact Or.inr (List.mem_singleton.1 h)
  · exact Or.inl (List.mem_of_mem_drop h)
theorem putL_ne {α : Type} (l : List α) (k : Nat) (there : Bool) (x : α) : putL l k there x ≠ [] := by
  unfold putL
  simp

structure MX (Wa W : World) (P : Nat) (v0 v1 v2 : Value) (vs : List Int) (ps : List (Value × List Int)) (ws : List Int) : Prop where
  bel : Below Wa.heap.size Wa W
  lo : Wa.heap.size ≤ P
  box : TbX W P v0 v1 v2
  o0 : W.ownsRow Wa.heap.size 3 1 v0 vs.length (vs.map (Value.int .i64))
  o1 : W.ownsRow Wa.heap.size 57 1 v1 ps.length (ps.map Prod.fst)
  each : ∀ p ∈ ps, W.ownsRow Wa.heap.size 3 1 p.1 p.2.length (p.2.map (Value.int .i64))
  o2 : W.ownsRow Wa.heap.size 3 1 v2 ws.length (ws.map (Value.int .i64))
  len : ps.length = ws.length
  nil : ps = [] → v1 = .slice none 0 0 ∧ v2 = .slice none 0 0
section
variable {Wa W W' w3 : World} {P : Nat} {v0 v1 v2 : Value} {vs : List Int} {ps : List (Value × List Int)} {ws : List Int}
theorem MX.made (Wa : World) : MX Wa (Wa.alloc (.cells #[.slice none 0 0, .slice none 0 0, .slice none 0 0] 60)) Wa.heap.size (.slice none 0 0) (.slice none 0 0) (.slice none 0 0) [] [] [] :=
  ⟨(Below.refl _ _).alloc (Nat.le_refl _) _, Nat.le_refl _, TbX.made _ _ _ _, World.ownsRow_nil _ _ _ _, World.ownsRow_nil _ _ _ _, (fun p hp => by simp at hp), World.ownsRow_nil _ _ _ _, rfl, fun _ => ⟨rfl, rfl⟩⟩
theorem MX.below (h : MX Wa W P v0 v1 v2 vs ps ws) (hb : Below W.heap.size W W') : MX Wa W' P v0 v1 v2 vs ps ws :=
  ⟨bt h.bel hb, h.lo, h.box.below hb, own_below h.o0 hb, own_below h.o1 hb, fun p hp => own_below (h.each p hp) hb, own_below h.o2 hb, h.len, h.nil⟩
/-- a variable more -/
theorem MX.var {v0' : Value} {x : Int} {o : Obj} (h : MX Wa W P v0 (.slice none 0 0) (.slice none 0 0) vs [] []) (ho : w3.ownsRow Wa.heap.size 3 1 v0' (vs.length + 1) (vs.map (Value.int .i64) ++ [.int .i64 x])) (hg : (W.alloc o).grownBy w3 v0.ownBlock) :
    MX Wa (w3.setCell ⟨P, 0, none⟩ v0') P v0' (.slice none 0 0) (.slice none 0 0) (vs ++ [x]) [] [] := by
  have hbx : TbX w3 P v0 (.slice none 0 0) (.slice none 0 0) := ⟨(kept_of hg h.box.lt (own_ne h.o0 h.box.typ (by decide))).trans h.box.blk⟩
  have hs := h.bel.size
  refine ⟨((h.bel.alloc hs _).grown hg (by simp; omega) (fun j hj => (h.o0.lt j hj).1)).setCell h.lo _, h.lo, hbx.set0 _, ?_, World.ownsRow_nil _ _ _ _, (fun p hp => by simp at hp), World.ownsRow_nil _ _ _ _, rfl, fun _ => ⟨rfl, rfl⟩⟩
  rw [List.length_append, List.map_append]
  exact own_keepT ho hbx.typ (by decide)
/-- a row more -/
theorem MX.put {v1' v2' vr : Value} {row : List Int} {wt : Int} {k : Nat} {there : Bool} (h : MX Wa W P v0 v1 v2 vs ps ws) (hr : W.ownsRow Wa.heap.size 3 1 vr row.length (row.map (Value.int .i64))) (hl : (putL ps k there (vr, row)).length = (putL ws k there wt).length)
    (hP : Pt W w3 v1' v2' (putL ps k there (vr, row)).length (putL ps k there (vr, row)).length ((putL ps k there (vr, row)).map Prod.fst) ((putL ws k there wt).map (Value.int .i64))) :
    MX Wa ((w3.setCell ⟨P, 1, none⟩ v1').setCell ⟨P, 2, none⟩ v2') P v0 v1' v2' vs (putL ps k there (vr, row)) (putL ws k there wt) := by
  have hs := h.bel.size
  have hbx := h.box.below hP.bel
  have kp : ∀ {e : TypeId} {n : Nat} {v : Value} {xs : List Value}, w3.ownsRow Wa.heap.size e 1 v n xs → e ≠ 60 → ((w3.setCell ⟨P, 1, none⟩ v1').setCell ⟨P, 2, none⟩ v2').ownsRow Wa.heap.size e 1 v n xs := fun ho he => own_keepT (own_keepT ho hbx.typ he) (typ_setT hbx.typ) he
  refine ⟨((bt h.bel hP.bel).setCell h.lo _).setCell h.lo _, h.lo, (hbx.set1 _).set2 _, kp (own_below h.o0 hP.bel) (by decide), kp (own_base hP.own1 hs) (by decide), fun p hp => ?_, ?_, hl, fun e => absurd e (putL_ne _ _ _ _)⟩
  · rcases mem_putL hp with hp | rfl
    · exact kp (own_below (h.each p hp) hP.bel) (by decide)
    · exact kp (own_below hr hP.bel) (by decide)
  · have := kp (own_base hP.own2 hs) (by decide)
    rw [hl] at this
    exact this
end

theorem own_atB {W : World} {B n j : Nat} {e : TypeId} {v : Value} {xs : List Value} (h : W.ownsRow B e 1 v n xs) (hj : j < n) : ∃ g cap, v = .slice (some ⟨g, 0, none⟩) n cap ∧ n ≤ cap ∧ W.cell? ⟨g, j, none⟩ = xs[j]? := by
  have hl := h.1
  rcases h.2 with ⟨-, h2⟩ | ⟨g, cap, cur, rfl, hb', hc, hn, -, -, ht⟩
  · omega
  · refine ⟨g, cap, rfl, hn, ?_⟩
    rw [cell_of_row _ _ _ _ _ _ hc, ← ht, List.getElem?_take_of_lt (by omega), Array.getElem?_toList]

/-- spec.l2Put at a table in the making -/
theorem put_calls {Wa W : World} {P : Nat} {v0 v1 v2 vr : Value} {vs : List Int} {ps : List (Value × List Int)} {ws row : List Int} {wt : Int} (h : MX Wa W P v0 v1 v2 vs ps ws) (hr : W.ownsRow Wa.heap.size 3 1 vr row.length (row.map (Value.int .i64))) (hrl : row.length ≤ 1000) (hpl : ∀ p ∈ ps, p.2.length ≤ 1000) (hn : ps.length ≤ 2000) :
    Calls Tryz.prog 25 #[v1, v2, vr, .int .i64 wt] W fun e w' => ∃ k there v1' v2', e = .returned (.tuple #[v1', v2']) ∧ FndA (ps.map Prod.snd) row k there ∧ Pt W w' v1' v2' (putL ps k there (vr, row)).length (putL ps k there (vr, row)).length ((putL ps k there (vr, row)).map Prod.fst) ((putL ws k there wt).map (Value.int .i64)) := by
  have hfin : ∀ e w', PutE W (ps.map Prod.fst) (ps.map Prod.snd) ws row vr wt e w' → ∃ k there v1' v2', e = .returned (.tuple #[v1', v2']) ∧ FndA (ps.map Prod.snd) row k there ∧ Pt W w' v1' v2' (putL ps k there (vr, row)).length (putL ps k there (vr, row)).length ((putL ps k there (vr, row)).map Prod.fst) ((putL ws k there wt).map (Value.int .i64)) := by
    rintro e w' ⟨k, there, v1', v2', hF, he, hP⟩
    refine ⟨k, there, v1', v2', he, hF, ?_⟩
    have el : (putL ps k there (vr, row)).length = (putL (ps.map Prod.fst) k there vr).length := by
      rw [show putL (ps.map Prod.fst) k there vr = (putL ps k there (vr, row)).map Prod.fst from (map_putB Prod.fst ps k there (vr, row)).symm, List.length_map]
    rw [el, map_putB Prod.fst]
    exact hP
  by_cases hz : ps = []
  · obtain ⟨rfl, rfl⟩ := h.nil hz
    subst hz
    have hw : ws = [] := List.eq_nil_of_length_eq_zero (by have := h.len; simpa using this.symm)
    subst hw
    exact (l2Put_first W vr row wt (own_is hr) (by omega)).mono hfin
  · have hp0 : 0 < ps.length := by
      cases ps with
      | nil => exact absurd rfl hz
      | cons a l => simp
    obtain ⟨g1, c1, e1, hc1, -⟩ := own_atB h.o1 hp0
    obtain ⟨g2, c2, e2, hc2, -⟩ := own_atB h.o2 (show 0 < ws.length by rw [← h.len]; exact hp0)
    subst e1 e2
    rw [← h.len] at *
    have hu : ∀ j u, (ps.map Prod.fst)[j]? = some u → W.cell? ⟨g1, j, none⟩ = some u := fun j u hj => by
      have hjl : j < ps.length := by simpa using (List.getElem?_eq_some_iff.1 hj).1
      rw [h.o1.cellAt j (by omega)]
      exact hj
    have hcell2 : ∀ j u, (ws.map (Value.int .i64))[j]? = some u → W.cell? ⟨g2, j, none⟩ = some u := fun j u hj => by
      have hjl : j < ws.length := by simpa using (List.getElem?_eq_some_iff.1 hj).1
      have := h.o2
      rw [h.len] at *
      rw [this.cellAt j (by omega)]
      exact hj
    have hg : ∀ j, j < ps.length → (ps.map Prod.snd).getD j [] = (ps.getD j (undef, [])).2 := fun j hj => by rw [List.getD_eq_getElem?_getD, List.getElem?_map, List.getElem?_eq_getElem hj, List.getD_eq_getElem?_getD, List.getElem?_eq_getElem hj]; rfl
    have hm : ∀ j, j < ps.length → ps.getD j (undef, []) ∈ ps := fun j hj => getD_memG hj
    refine (l2Put_more W g1 ps.length c1 g2 c2 vr (ps.map Prod.fst) (ps.map Prod.snd) ws row wt (by simp) (by simp) (by simp [h.len]) hc1 hc2 hn ?_ (fun j hj => ?_) hu (fun u hu => ?_) hcell2 (own_is hr) (own_oneC hr) (by omega)).mono hfin
    · refine ⟨_, c1, by simp, Or.inr ⟨g1, 0, rfl, fun j hj => ?_⟩⟩
      rw [List.length_map] at hj
      refine ⟨(ps.getD j (undef, [])).1, ?_, ?_⟩
      · rw [Nat.zero_add]
        refine hu j _ ?_
        rw [List.getElem?_map, List.getElem?_eq_getElem hj, List.getD_eq_getElem?_getD, List.getElem?_eq_getElem hj]; rfl
      · rw [hg j hj]; exact own_is (h.each _ (hm j hj))
    · rw [List.length_map] at hj
      rw [hg j hj]
      have := hpl _ (hm j hj)
      omega
    · obtain ⟨p, hp, rfl⟩ := List.mem_map.1 hu
      exact own_oneC (h.each p hp)

end Go.Proofs.YtegcpplkcahkhaaGreat

/-
  The model's list of tables; its loops over the variables.
-/
namespace Go.Proofs.YtegcpplkcahkhaaGreat
open Go.RowKit

structure MbR where
  v0 : Value
  v1 : Value
  v2 : Value
  vs : List Int
  ps : List (Value × List Int)
  ws : List Int
def noMb : MbR := ⟨undef, undef, undef, [], [], []⟩
def mcs (t : MbR) : List Value := [t.v0, t.v1, t.v2]
structure MWr (W : World) (B : Nat) (t : MbR) : Prop where
  o0 : W.ownsRow B 3 1 t.v0 t.vs.length (t.vs.map (Value.int .i64))
  o1 : W.ownsRow B 57 1 t.v1 t.ps.length (t.ps.map Prod.fst)
  each : ∀ p ∈ t.ps, W.ownsRow B 3 1 p.1 p.2.length (p.2.map (Value.int .i64))
  o2 : W.ownsRow B 3 1 t.v2 t.ws.length (t.ws.map (Value.int .i64))
theorem MWr.below {W W' : World} {B : Nat} {t : MbR} (h : MWr W B t) (hb : Below W.heap.size W W') : MWr W' B t := ⟨own_below h.o0 hb, own_below h.o1 hb, fun p hp => own_below (h.each p hp) hb, own_below h.o2 hb⟩
theorem MWr.base {W : World} {B B' : Nat} {t : MbR} (h : MWr W B t) (hB : B' ≤ B) : MWr W B' t := ⟨own_base h.o0 hB, own_base h.o1 hB, fun p hp => own_base (h.each p hp) hB, own_base h.o2 hB⟩
theorem MX.mwr {Wa W : World} {P : Nat} {v0 v1 v2 : Value} {vs : List Int} {ps : List (Value × List Int)} {ws : List Int} (h : MX Wa W P v0 v1 v2 vs ps ws) : MWr W Wa.heap.size ⟨v0, v1, v2, vs, ps, ws⟩ := ⟨h.o0, h.o1, h.each, h.o2⟩
theorem MWr.grownT {W w3 : World} {B B' n : Nat} {v : Value} {xs : List Value} {o : Obj} {t : MbR} (h : MWr W B t) (ho : W.ownsRow B' 60 3 v n xs) (hg : (W.alloc o).grownBy w3 v.ownBlock) : MWr w3 B t := by
  have mv : ∀ {e : TypeId} {x : Value} {k : Nat} {xs : List Value}, e ≠ 60 → W.ownsRow B e 1 x k xs → w3.ownsRow B e 1 x k xs := fun he hx =>
    own_move hx fun g hgx => kept_of hg (hx.lt g hgx).2 (own_ne ho (own_typ hx hgx) (Ne.symm he))
  exact ⟨mv (by decide) h.o0, mv (by decide) h.o1, fun p hp => mv (by decide) (h.each p hp), mv (by decide) h.o2⟩

structure MTs (W : World) (B : Nat) (v : Value) (tl : List MbR) : Prop where
  own : W.ownsRow B 60 3 v tl.length (tl.flatMap mcs)
  each : ∀ t ∈ tl, MWr W B t
theorem MTs.below {W W' : World} {B : Nat} {v : Value} {tl : List MbR} (h : MTs W B v tl) (hb : Below W.heap.size W W') : MTs W' B v tl := ⟨own_below h.own hb, fun t ht => (h.each t ht).below hb⟩
theorem MTs.base {W : World} {B B' : Nat} {v : Value} {tl : List MbR} (h : MTs W B v tl) (hB : B' ≤ B) : MTs W B' v tl := ⟨own_base h.own hB, fun t ht => (h.each t ht).base hB⟩
theorem MTs.row {W0 : World} {B : Nat} {v : Value} {tl : List MbR} (h : MTs W0 B v tl) (hB : B ≤ W0.heap.size) : ∀ (W : World) (t : MbR) (o : Obj) (w3 : World) (v' : Value), Below W0.heap.size W0 W → MWr W W0.heap.size t → (W.alloc o).grownBy w3 v.ownBlock → w3.ownsRow B 60 3 v' (tl.length + 1) (tl.flatMap mcs ++ [t.v0, t.v1, t.v2]) → MTs w3 B v' (tl ++ [t]) := by
  intro W t o w3 v' hb ht hg hown
  have ho := own_below h.own hb
  refine ⟨?_, fun s hs => ?_⟩
  · rw [List.length_append, List.flatMap_append]; exact hown
  · rcases List.mem_append.1 hs with hs | hs
    · exact ((h.each s hs).below hb).grownT ho hg
    · rw [List.mem_singleton.1 hs]; exact (ht.grownT ho hg).base hB

/-- what the model's table of atom a holds -/
def STab (ds : List RelV) (V : List ByteArray) (a : AtomV) (t : MbR) : Prop := ∃ k : Nat, RelIx ds a.1 (k : Int) ∧ t.vs = vrsI V a.2 ∧ SpT V a.2 (ds.getD k noRel) (ds.getD k noRel).rows.length (t.ps.map Prod.snd) t.ws
/-- how spec.Bind ends -/
def SBndE (w : World) (ds : List RelV) (q : QV) (e : Ending) (w' : World) : Prop := ∃ v, e = .returned v ∧ ∃ tl, MTs w' w.heap.size v tl ∧ tl.length = (if (checkP ds q).1 = 0 then q.atoms.length else 0) ∧ (∀ j, j < tl.length → STab ds (VL q.atoms q.atoms.length) (q.atoms.getD j noAt) (tl.getD j noMb)) ∧ Below w.heap.size w w'
theorem ml_last {tl : List MbR} {t : MbR} {j : Nat} (hj : j < (tl ++ [t]).length) (P : Nat → MbR → Prop) (h : ∀ j, j < tl.length → P j (tl.getD j noMb)) (ht : P tl.length t) : P j ((tl ++ [t]).getD j noMb) := by
  rw [List.length_append, List.length_singleton] at hj
  by_cases e : j < tl.length
  · rw [List.getD_eq_getElem?_getD, List.getElem?_append_left e, ← List.getD_eq_getElem?_getD]; exact h j e
  · obtain rfl : j = tl.length := by omega
    rw [List.getD_eq_getElem?_getD, List.getElem?_append_right (Nat.le_refl _), Nat.sub_self]; exact ht

/-- the variables below m that the terms have -/
def vrsN (V : List ByteArray) (ts : List TermV) (m : Nat) : List Int := ((List.range m).filter fun v => (lastO ts ts.length (V.getD v noTx)).isSome).map Int.ofNat
def addO (b : Bool) (v : Nat) : List Int := if b then [(v : Int)] else []
theorem vrsN_all (V : List ByteArray) (ts : List TermV) : vrsN V ts V.length = vrsI V ts := rfl
theorem vrsN_succ (V : List ByteArray) (ts : List TermV) (m : Nat) : vrsN V ts (m + 1) = vrsN V ts m ++ addO (lastO ts ts.length (V.getD m noTx)).isSome m := by
  unfold vrsN addO
  rw [List.range_succ, List.filter_append, List.map_append]
  congr 1
  cases h : (lastO ts ts.length (V.getD m noTx)).isSome
  · rw [List.filter_cons_of_neg (p := fun v => (lastO ts ts.length (V.getD v noTx)).isSome) (by show ¬ (lastO ts ts.length (V.getD m noTx)).isSome = true; rw [h]; decide)]; rfl
  · rw [List.filter_cons_of_pos (p := fun v => (lastO ts ts.length (V.getD v noTx)).isSome) h]; rfl
theorem vrsN_mem {V : List ByteArray} {ts : List TermV} {m : Nat} {b : Bool} : decide ((m : Int) ∈ vrsN V ts m ++ addO b m) = b := by
  have h1 : ¬ (m : Int) ∈ vrsN V ts m := fun h => by
    obtain ⟨v, hv, e⟩ := List.mem_map.1 h
    have h2 := List.mem_range.1 (List.mem_filter.1 hv).1
    have h3 : (v : Int) = (m : Int) := e
    omega
  cases b
  · rw [show addO false m = [] from rfl, List.append_nil]; exact decide_eq_false h1
  · rw [show addO true m = [(m : Int)] from rfl]; exact decide_eq_true (List.mem_append_right _ (List.mem_singleton.2 rfl))
theorem lastO_step (ts : List TermV) (x : ByteArray) (i : Nat) : (lastO ts (i + 1) x).isSome = (((ts.getD i noTm).1.toList == x.toList) || (lastO ts i x).isSome) := by
  conv => lhs; unfold lastO
  cases h : ((ts.getD i noTm).1.toList == x.toList)
  · rw [if_neg (by simp), Bool.false_or]
  · rw [if_pos rfl, Bool.true_or]; rfl
theorem vrsN_len (V : List ByteArray) (ts : List TermV) (m : Nat) : (vrsN V ts m).length ≤ m := by
  unfold vrsN
  rw [List.length_map]
  exact Nat.le_trans (List.length_filter_le _ _) (by simp)
theorem atP_succ {V : List ByteArray} {ts : List TermV} {row : List Int} {p v q : Nat} (h : p < (vrsI V ts).length) (hv : (vrsI V ts).getD p 0 = (v : Int)) (hq : lastO ts ts.length (V.getD v noTx) = some q) : ((atP row (colP V ts)).take (p + 1)).map (Value.int .i64) = ((atP row (colP V ts)).take p).map (Value.int .i64) ++ [.int .i64 (row.getD q 0)] := by
  have h' : p < (vrs V ts).length := by simpa [vrsI] using h
  have e : (vrs V ts)[p] = v := by
    rw [List.getD_eq_getElem?_getD, vrsI, List.getElem?_map, List.getElem?_eq_getElem h'] at hv
    simp only [Option.map_some, Option.getD_some] at hv
    exact Int.ofNat.inj hv
  rw [atP_col, List.take_add_one, List.getElem?_map, List.getElem?_eq_getElem h', List.map_append, e, Option.map_some, hq]
  rfl
theorem atP_all (row : List Int) (V : List ByteArray) (ts : List TermV) : (atP row (colP V ts)).take (vrsI V ts).length = atP row (colP V ts) := by
  rw [show (vrsI V ts).length = (atP row (colP V ts)).length by rw [atP_len, colP_len]; simp [vrsI], List.take_length]

end Go.Proofs.YtegcpplkcahkhaaGreat
