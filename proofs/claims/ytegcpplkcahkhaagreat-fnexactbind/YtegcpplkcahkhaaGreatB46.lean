import Derived.Test.YtegcpplkcahkhaaGreatB35
import Derived.Test.YtegcpplkcahkhaaGreatB43
import Derived.Test.YtegcpplkcahkhaaGreatB44
import Derived.Test.YtegcpplkcahkhaaGreatB45
/-
  The model's table in the making.
-/
namespace Go.Proofs.YtegcpplkcahkhaaGreat
open Go.RowKit

theorem map_putB {α β : Type} (g : α → β) (l : List α) (k : Nat) (there : Bool) (x : α) : (putL l k there x).map g = putL (l.map g) k there (g x) := by
  unfold putL
  rw [List.map_append, List.map_append, List.map_take, List.map_drop]
  rfl
theorem mem_putL {α : Type} {l : List α} {k : Nat} {there : Bool} {x y : α} (h : y ∈ putL l k there x) : y ∈ l ∨ y = x := by
  unfold putL at h
  rcases List.mem_append.1 h with h | h
  · rcases List.mem_append.1 h with h | h
    · exact Or.inl (List.mem_of_mem_take h)
    · exact Or.inr (List.mem_singleton.1 h)
  · exact Or.inl (List.mem_of_mem_drop h)
theorem putL_ne {α : Type} (l : List α) (k : Nat) (there : Bool) (x : α) : putL l k there x ≠ [] := by
  unfold putL
  simp

structure MX (Wa W : World) (P : Nat) (v0 v1 v2 : Value) (vs : List Int) (ps : List (Value × List Int)) (ws : List Int) : Prop where
  bel : Below Wa.heap.size Wa W
  lo : Wa.heap.size ≤ P
  box : TbX W P v0 v1 v2
  o0 : W.ownsRow Wa.heap.size 3 1 v0 vs.length (vs.map (Value.int .i64))
  o1 : W.ownsRow Wa.heap.size 57 1 v1 ps.length (ps.map Prod.fst)
  each : ∀ p ∈ ps, W.ownsRow Wa.heap.size 3 1 p.1 p.2.length (p.2.map (Value.int .i64))
  o2 : W.ownsRow Wa.heap.size 3 1 v2 ws.length (ws.map (Value.int .i64))
  len : ps.length = ws.length
  nil : ps = [] → v1 = .slice none 0 0 ∧ v2 = .slice none 0 0
section
variable {Wa W W' w3 : World} {P : Nat} {v0 v1 v2 : Value} {vs : List Int} {ps : List (Value × List Int)} {ws : List Int}
theorem MX.made (Wa : World) : MX Wa (Wa.alloc (.cells #[.slice none 0 0, .slice none 0 0, .slice none 0 0] 60)) Wa.heap.size (.slice none 0 0) (.slice none 0 0) (.slice none 0 0) [] [] [] :=
  ⟨(Below.refl _ _).alloc (Nat.le_refl _) _, Nat.le_refl _, TbX.made _ _ _ _, World.ownsRow_nil _ _ _ _, World.ownsRow_nil _ _ _ _, (fun p hp => by simp at hp), World.ownsRow_nil _ _ _ _, rfl, fun _ => ⟨rfl, rfl⟩⟩
theorem MX.below (h : MX Wa W P v0 v1 v2 vs ps ws) (hb : Below W.heap.size W W') : MX Wa W' P v0 v1 v2 vs ps ws :=
  ⟨bt h.bel hb, h.lo, h.box.below hb, own_below h.o0 hb, own_below h.o1 hb, fun p hp => own_below (h.each p hp) hb, own_below h.o2 hb, h.len, h.nil⟩
/-- a variable more -/
theorem MX.var {v0' : Value} {x : Int} {o : Obj} (h : MX Wa W P v0 (.slice none 0 0) (.slice none 0 0) vs [] []) (ho : w3.ownsRow Wa.heap.size 3 1 v0' (vs.length + 1) (vs.map (Value.int .i64) ++ [.int .i64 x])) (hg : (W.alloc o).grownBy w3 v0.ownBlock) :
    MX Wa (w3.setCell ⟨P, 0, none⟩ v0') P v0' (.slice none 0 0) (.slice none 0 0) (vs ++ [x]) [] [] := by
  have hbx : TbX w3 P v0 (.slice none 0 0) (.slice none 0 0) := ⟨(kept_of hg h.box.lt (own_ne h.o0 h.box.typ (by decide))).trans h.box.blk⟩
  have hs := h.bel.size
  refine ⟨((h.bel.alloc hs _).grown hg (by simp; omega) (fun j hj => (h.o0.lt j hj).1)).setCell h.lo _, h.lo, hbx.set0 _, ?_, World.ownsRow_nil _ _ _ _, (fun p hp => by simp at hp), World.ownsRow_nil _ _ _ _, rfl, fun _ => ⟨rfl, rfl⟩⟩
  rw [List.length_append, List.map_append]
  exact own_keepT ho hbx.typ (by decide)
/-- a row more -/
theorem MX.put {v1' v2' vr : Value} {row : List Int} {wt : Int} {k : Nat} {there : Bool} (h : MX Wa W P v0 v1 v2 vs ps ws) (hr : W.ownsRow Wa.heap.size 3 1 vr row.length (row.map (Value.int .i64))) (hl : (putL ps k there (vr, row)).length = (putL ws k there wt).length)
    (hP : Pt W w3 v1' v2' (putL ps k there (vr, row)).length (putL ps k there (vr, row)).length ((putL ps k there (vr, row)).map Prod.fst) ((putL ws k there wt).map (Value.int .i64))) :
    MX Wa ((w3.setCell ⟨P, 1, none⟩ v1').setCell ⟨P, 2, none⟩ v2') P v0 v1' v2' vs (putL ps k there (vr, row)) (putL ws k there wt) := by
  have hs := h.bel.size
  have hbx := h.box.below hP.bel
  have kp : ∀ {e : TypeId} {n : Nat} {v : Value} {xs : List Value}, w3.ownsRow Wa.heap.size e 1 v n xs → e ≠ 60 → ((w3.setCell ⟨P, 1, none⟩ v1').setCell ⟨P, 2, none⟩ v2').ownsRow Wa.heap.size e 1 v n xs := fun ho he => own_keepT (own_keepT ho hbx.typ he) (typ_setT hbx.typ) he
  refine ⟨((bt h.bel hP.bel).setCell h.lo _).setCell h.lo _, h.lo, (hbx.set1 _).set2 _, kp (own_below h.o0 hP.bel) (by decide), kp (own_base hP.own1 hs) (by decide), fun p hp => ?_, ?_, hl, fun e => absurd e (putL_ne _ _ _ _)⟩
  · rcases mem_putL hp with hp | rfl
    · exact kp (own_below (h.each p hp) hP.bel) (by decide)
    · exact kp (own_below hr hP.bel) (by decide)
  · have := kp (own_base hP.own2 hs) (by decide)
    rw [hl] at this
    exact this
end

theorem own_atB {W : World} {B n j : Nat} {e : TypeId} {v : Value} {xs : List Value} (h : W.ownsRow B e 1 v n xs) (hj : j < n) : ∃ g cap, v = .slice (some ⟨g, 0, none⟩) n cap ∧ n ≤ cap ∧ W.cell? ⟨g, j, none⟩ = xs[j]? := by
  have hl := h.1
  rcases h.2 with ⟨-, h2⟩ | ⟨g, cap, cur, rfl, hb', hc, hn, -, -, ht⟩
  · omega
  · refine ⟨g, cap, rfl, hn, ?_⟩
    rw [cell_of_row _ _ _ _ _ _ hc, ← ht, List.getElem?_take_of_lt (by omega), Array.getElem?_toList]

/-- spec.l2Put at a table in the making -/
theorem put_calls {Wa W : World} {P : Nat} {v0 v1 v2 vr : Value} {vs : List Int} {ps : List (Value × List Int)} {ws row : List Int} {wt : Int} (h : MX Wa W P v0 v1 v2 vs ps ws) (hr : W.ownsRow Wa.heap.size 3 1 vr row.length (row.map (Value.int .i64))) (hrl : row.length ≤ 1000) (hpl : ∀ p ∈ ps, p.2.length ≤ 1000) (hn : ps.length ≤ 2000) :
    Calls Tryz.prog 25 #[v1, v2, vr, .int .i64 wt] W fun e w' => ∃ k there v1' v2', e = .returned (.tuple #[v1', v2']) ∧ FndA (ps.map Prod.snd) row k there ∧ Pt W w' v1' v2' (putL ps k there (vr, row)).length (putL ps k there (vr, row)).length ((putL ps k there (vr, row)).map Prod.fst) ((putL ws k there wt).map (Value.int .i64)) := by
  have hfin : ∀ e w', PutE W (ps.map Prod.fst) (ps.map Prod.snd) ws row vr wt e w' → ∃ k there v1' v2', e = .returned (.tuple #[v1', v2']) ∧ FndA (ps.map Prod.snd) row k there ∧ Pt W w' v1' v2' (putL ps k there (vr, row)).length (putL ps k there (vr, row)).length ((putL ps k there (vr, row)).map Prod.fst) ((putL ws k there wt).map (Value.int .i64)) := by
    rintro e w' ⟨k, there, v1', v2', hF, he, hP⟩
    refine ⟨k, there, v1', v2', he, hF, ?_⟩
    have el : (putL ps k there (vr, row)).length = (putL (ps.map Prod.fst) k there vr).length := by
      rw [show putL (ps.map Prod.fst) k there vr = (putL ps k there (vr, row)).map Prod.fst from (map_putB Prod.fst ps k there (vr, row)).symm, List.length_map]
    rw [el, map_putB Prod.fst]
    exact hP
  by_cases hz : ps = []
  · obtain ⟨rfl, rfl⟩ := h.nil hz
    subst hz
    have hw : ws = [] := List.eq_nil_of_length_eq_zero (by have := h.len; simpa using this.symm)
    subst hw
    exact (l2Put_first W vr row wt (own_is hr) (by omega)).mono hfin
  · have hp0 : 0 < ps.length := by
      cases ps with
      | nil => exact absurd rfl hz
      | cons a l => simp
    obtain ⟨g1, c1, e1, hc1, -⟩ := own_atB h.o1 hp0
    obtain ⟨g2, c2, e2, hc2, -⟩ := own_atB h.o2 (show 0 < ws.length by rw [← h.len]; exact hp0)
    subst e1 e2
    rw [← h.len] at *
    have hu : ∀ j u, (ps.map Prod.fst)[j]? = some u → W.cell? ⟨g1, j, none⟩ = some u := fun j u hj => by
      have hjl : j < ps.length := by simpa using (List.getElem?_eq_some_iff.1 hj).1
      rw [h.o1.cellAt j (by omega)]
      exact hj
    have hcell2 : ∀ j u, (ws.map (Value.int .i64))[j]? = some u → W.cell? ⟨g2, j, none⟩ = some u := fun j u hj => by
      have hjl : j < ws.length := by simpa using (List.getElem?_eq_some_iff.1 hj).1
      have := h.o2
      rw [h.len] at *
      rw [this.cellAt j (by omega)]
      exact hj
    have hg : ∀ j, j < ps.length → (ps.map Prod.snd).getD j [] = (ps.getD j (undef, [])).2 := fun j hj => by rw [List.getD_eq_getElem?_getD, List.getElem?_map, List.getElem?_eq_getElem hj, List.getD_eq_getElem?_getD, List.getElem?_eq_getElem hj]; rfl
    have hm : ∀ j, j < ps.length → ps.getD j (undef, []) ∈ ps := fun j hj => getD_memG hj
    refine (l2Put_more W g1 ps.length c1 g2 c2 vr (ps.map Prod.fst) (ps.map Prod.snd) ws row wt (by simp) (by simp) (by simp [h.len]) hc1 hc2 hn ?_ (fun j hj => ?_) hu (fun u hu => ?_) hcell2 (own_is hr) (own_oneC hr) (by omega)).mono hfin
    · refine ⟨_, c1, by simp, Or.inr ⟨g1, 0, rfl, fun j hj => ?_⟩⟩
      rw [List.length_map] at hj
      refine ⟨(ps.getD j (undef, [])).1, ?_, ?_⟩
      · rw [Nat.zero_add]
        refine hu j _ ?_
        rw [List.getElem?_map, List.getElem?_eq_getElem hj, List.getD_eq_getElem?_getD, List.getElem?_eq_getElem hj]; rfl
      · rw [hg j hj]; exact own_is (h.each _ (hm j hj))
    · rw [List.length_map] at hj
      rw [hg j hj]
      have := hpl _ (hm j hj)
      omega
    · obtain ⟨p, hp, rfl⟩ := List.mem_map.1 hu
      exact own_oneC (h.each p hp)

end Go.Proofs.YtegcpplkcahkhaaGreat

/-
  The model's list of tables; its loops over the variables.
-/
namespace Go.Proofs.YtegcpplkcahkhaaGreat
open Go.RowKit

structure MbR where
  v0 : Value
  v1 : Value
  v2 : Value
  vs : List Int
  ps : List (Value × List Int)
  ws : List Int
def noMb : MbR := ⟨undef, undef, undef, [], [], []⟩
def mcs (t : MbR) : List Value := [t.v0, t.v1, t.v2]
structure MWr (W : World) (B : Nat) (t : MbR) : Prop where
  o0 : W.ownsRow B 3 1 t.v0 t.vs.length (t.vs.map (Value.int .i64))
  o1 : W.ownsRow B 57 1 t.v1 t.ps.length (t.ps.map Prod.fst)
  each : ∀ p ∈ t.ps, W.ownsRow B 3 1 p.1 p.2.length (p.2.map (Value.int .i64))
  o2 : W.ownsRow B 3 1 t.v2 t.ws.length (t.ws.map (Value.int .i64))
theorem MWr.below {W W' : World} {B : Nat} {t : MbR} (h : MWr W B t) (hb : Below W.heap.size W W') : MWr W' B t := ⟨own_below h.o0 hb, own_below h.o1 hb, fun p hp => own_below (h.each p hp) hb, own_below h.o2 hb⟩
theorem MWr.base {W : World} {B B' : Nat} {t : MbR} (h : MWr W B t) (hB : B' ≤ B) : MWr W B' t := ⟨own_base h.o0 hB, own_base h.o1 hB, fun p hp => own_base (h.each p hp) hB, own_base h.o2 hB⟩
theorem MX.mwr {Wa W : World} {P : Nat} {v0 v1 v2 : Value} {vs : List Int} {ps : List (Value × List Int)} {ws : List Int} (h : MX Wa W P v0 v1 v2 vs ps ws) : MWr W Wa.heap.size ⟨v0, v1, v2, vs, ps, ws⟩ := ⟨h.o0, h.o1, h.each, h.o2⟩
theorem MWr.grownT {W w3 : World} {B B' n : Nat} {v : Value} {xs : List Value} {o : Obj} {t : MbR} (h : MWr W B t) (ho : W.ownsRow B' 60 3 v n xs) (hg : (W.alloc o).grownBy w3 v.ownBlock) : MWr w3 B t := by
  have mv : ∀ {e : TypeId} {x : Value} {k : Nat} {xs : List Value}, e ≠ 60 → W.ownsRow B e 1 x k xs → w3.ownsRow B e 1 x k xs := fun he hx =>
    own_move hx fun g hgx => kept_of hg (hx.lt g hgx).2 (own_ne ho (own_typ hx hgx) (Ne.symm he))
  exact ⟨mv (by decide) h.o0, mv (by decide) h.o1, fun p hp => mv (by decide) (h.each p hp), mv (by decide) h.o2⟩

structure MTs (W : World) (B : Nat) (v : Value) (tl : List MbR) : Prop where
  own : W.ownsRow B 60 3 v tl.length (tl.flatMap mcs)
  each : ∀ t ∈ tl, MWr W B t
theorem MTs.below {W W' : World} {B : Nat} {v : Value} {tl : List MbR} (h : MTs W B v tl) (hb : Below W.heap.size W W') : MTs W' B v tl := ⟨own_below h.own hb, fun t ht => (h.each t ht).below hb⟩
theorem MTs.base {W : World} {B B' : Nat} {v : Value} {tl : List MbR} (h : MTs W B v tl) (hB : B' ≤ B) : MTs W B' v tl := ⟨own_base h.own hB, fun t ht => (h.each t ht).base hB⟩
theorem MTs.row {W0 : World} {B : Nat} {v : Value} {tl : List MbR} (h : MTs W0 B v tl) (hB : B ≤ W0.heap.size) : ∀ (W : World) (t : MbR) (o : Obj) (w3 : World) (v' : Value), Below W0.heap.size W0 W → MWr W W0.heap.size t → (W.alloc o).grownBy w3 v.ownBlock → w3.ownsRow B 60 3 v' (tl.length + 1) (tl.flatMap mcs ++ [t.v0, t.v1, t.v2]) → MTs w3 B v' (tl ++ [t]) := by
  intro W t o w3 v' hb ht hg hown
  have ho := own_below h.own hb
  refine ⟨?_, fun s hs => ?_⟩
  · rw [List.length_append, List.flatMap_append]; exact hown
  · rcases List.mem_append.1 hs with hs | hs
    · exact ((h.each s hs).below hb).grownT ho hg
    · rw [List.mem_singleton.1 hs]; exact (ht.grownT ho hg).base hB

/-- what the model's table of atom a holds -/
def STab (ds : List RelV) (V : List ByteArray) (a : AtomV) (t : MbR) : Prop := ∃ k : Nat, RelIx ds a.1 (k : Int) ∧ t.vs = vrsI V a.2 ∧ SpT V a.2 (ds.getD k noRel) (ds.getD k noRel).rows.length (t.ps.map Prod.snd) t.ws
/-- how spec.Bind ends -/
def SBndE (w : World) (ds : List RelV) (q : QV) (e : Ending) (w' : World) : Prop := ∃ v, e = .returned v ∧ ∃ tl, MTs w' w.heap.size v tl ∧ tl.length = (if (checkP ds q).1 = 0 then q.atoms.length else 0) ∧ (∀ j, j < tl.length → STab ds (VL q.atoms q.atoms.length) (q.atoms.getD j noAt) (tl.getD j noMb)) ∧ Below w.heap.size w w'
theorem ml_last {tl : List MbR} {t : MbR} {j : Nat} (hj : j < (tl ++ [t]).length) (P : Nat → MbR → Prop) (h : ∀ j, j < tl.length → P j (tl.getD j noMb)) (ht : P tl.length t) : P j ((tl ++ [t]).getD j noMb) := by
  rw [List.length_append, List.length_singleton] at hj
  by_cases e : j < tl.length
  · rw [List.getD_eq_getElem?_getD, List.getElem?_append_left e, ← List.getD_eq_getElem?_getD]; exact h j e
  · obtain rfl : j = tl.length := by omega
    rw [List.getD_eq_getElem?_getD, List.getElem?_append_right (Nat.le_refl _), Nat.sub_self]; exact ht

/-- the variables below m that the terms have -/
def vrsN (V : List ByteArray) (ts : List TermV) (m : Nat) : List Int := ((List.range m).filter fun v => (lastO ts ts.length (V.getD v noTx)).isSome).map Int.ofNat
def addO (b : Bool) (v : Nat) : List Int := if b then [(v : Int)] else []
theorem vrsN_all (V : List ByteArray) (ts : List TermV) : vrsN V ts V.length = vrsI V ts := rfl
theorem vrsN_succ (V : List ByteArray) (ts : List TermV) (m : Nat) : vrsN V ts (m + 1) = vrsN V ts m ++ addO (lastO ts ts.length (V.getD m noTx)).isSome m := by
  unfold vrsN addO
  rw [List.range_succ, List.filter_append, List.map_append]
  congr 1
  cases h : (lastO ts ts.length (V.getD m noTx)).isSome
  · rw [List.filter_cons_of_neg (p := fun v => (lastO ts ts.length (V.getD v noTx)).isSome) (by show ¬ (lastO ts ts.length (V.getD m noTx)).isSome = true; rw [h]; decide)]; rfl
  · rw [List.filter_cons_of_pos (p := fun v => (lastO ts ts.length (V.getD v noTx)).isSome) h]; rfl
theorem vrsN_mem {V : List ByteArray} {ts : List TermV} {m : Nat} {b : Bool} : decide ((m : Int) ∈ vrsN V ts m ++ addO b m) = b := by
  have h1 : ¬ (m : Int) ∈ vrsN V ts m := fun h => by
    obtain ⟨v, hv, e⟩ := List.mem_map.1 h
    have h2 := List.mem_range.1 (List.mem_filter.1 hv).1
    have h3 : (v : Int) = (m : Int) := e
    omega
  cases b
  · rw [show addO false m = [] from rfl, List.append_nil]; exact decide_eq_false h1
  · rw [show addO true m = [(m : Int)] from rfl]; exact decide_eq_true (List.mem_append_right _ (List.mem_singleton.2 rfl))
theorem lastO_step (ts : List TermV) (x : ByteArray) (i : Nat) : (lastO ts (i + 1) x).isSome = (((ts.getD i noTm).1.toList == x.toList) || (lastO ts i x).isSome) := by
  conv => lhs; unfold lastO
  cases h : ((ts.getD i noTm).1.toList == x.toList)
  · rw [if_neg (by simp), Bool.false_or]
  · rw [if_pos rfl, Bool.true_or]; rfl
theorem vrsN_len (V : List ByteArray) (ts : List TermV) (m : Nat) : (vrsN V ts m).length ≤ m := by
  unfold vrsN
  rw [List.length_map]
  exact Nat.le_trans (List.length_filter_le _ _) (by simp)
theorem atP_succ {V : List ByteArray} {ts : List TermV} {row : List Int} {p v q : Nat} (h : p < (vrsI V ts).length) (hv : (vrsI V ts).getD p 0 = (v : Int)) (hq : lastO ts ts.length (V.getD v noTx) = some q) : ((atP row (colP V ts)).take (p + 1)).map (Value.int .i64) = ((atP row (colP V ts)).take p).map (Value.int .i64) ++ [.int .i64 (row.getD q 0)] := by
  have h' : p < (vrs V ts).length := by simpa [vrsI] using h
  have e : (vrs V ts)[p] = v := by
    rw [List.getD_eq_getElem?_getD, vrsI, List.getElem?_map, List.getElem?_eq_getElem h'] at hv
    simp only [Option.map_some, Option.getD_some] at hv
    exact Int.ofNat.inj hv
  rw [atP_col, List.take_add_one, List.getElem?_map, List.getElem?_eq_getElem h', List.map_append, e, Option.map_some, hq]
  rfl
theorem atP_all (row : List Int) (V : List ByteArray) (ts : List TermV) : (atP row (colP V ts)).take (vrsI V ts).length = atP row (colP V ts) := by
  rw [show (vrsI V ts).length = (atP row (colP V ts)).length by rw [atP_len, colP_len]; simp [vrsI], List.take_length]

end Go.Proofs.YtegcpplkcahkhaaGreat
