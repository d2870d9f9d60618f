import Derived.Test.YtcdfoephhjacdaaGreatDoorR07
import Derived.Test.YtcdfoephhjacdaaGreatDoorR08
import Derived.Test.YtcdfoephhjacdaaGreatDoorR09
import Derived.Test.YtcdfoephhjacdaaGreatDoorR14
import Derived.Test.YtcdfoephhjacdaaGreatDoorR15
/-
  A drawing under way: the reader, the relation in the making, the data made so far.
-/
namespace Go.Proofs.YtcdfoephhjacdaaGreatDoor
open Go.RowKit

theorem RdrAt.above {W W' : World} {g N : Nat} {a : Option Addr} {n cap : Nat} {p sd : Int} (h : RdrAt W g a n cap p sd) (hb : Below N W W') (hg : g < N) (hbl : ∀ b o, a = some ⟨b, o, none⟩ → 0 < n → b < N) : RdrAt W' g a n cap p sd := by
  have hc : ∀ {b o : Nat} {v : Value}, b < N → W.cell? ⟨b, o, none⟩ = some v → W'.cell? ⟨b, o, none⟩ = some v := fun {b o v} hb' hc => (World.cell?_of_block (w := W) (a := ⟨b, o, none⟩) (hb.block b hb')).trans hc
  have hf : ∀ o, W'.frozen? ⟨g, o, none⟩ = W.frozen? ⟨g, o, none⟩ := fun o => by unfold World.frozen?; rw [hb.block g hg]
  refine ⟨hc hg h.c0, hc hg h.c1, hc hg h.c2, (hf 1).trans h.f1, (hf 2).trans h.f2, fun j hj => ?_, h.seed⟩
  obtain ⟨b, o, x, e, hne, hx, hr⟩ := h.bytes j hj
  exact ⟨b, o, x, e, hne, hc (hbl b o e (by omega)) hx, hr⟩
theorem Kc.up {g : Nat} {a b c : World} (h : Kc g a b) (k : Below a.heap.size b c) : Kc g a c :=
  ⟨k.os.trans h.os, k.tape.trans h.tape, k.output.trans h.output, Nat.le_trans h.size k.size, fun x hx hg => (k.block x hx).trans (h.block x hx hg)⟩
theorem own_kcF {g B n s : Nat} {e : TypeId} {w w' : World} {v : Value} {xs : List Value} (h : w.ownsRow B e s v n xs) (hk : Kc g w w') (hg : g < B) : w'.ownsRow B e s v n xs :=
  own_move h fun c hc => hk.block c (h.lt c hc).2 (by have := (h.lt c hc).1; omega)
theorem heap_ltF {W : World} {b : Nat} {o : Obj} (h : W.heap[b]? = some o) : b < W.heap.size := (Array.getElem?_eq_some_iff.1 h).1
theorem heap_kc {g b : Nat} {w w' : World} {o : Obj} (h : w.heap[b]? = some o) (hk : Kc g w w') (hg : b ≠ g) : w'.heap[b]? = some o := (hk.block b (heap_ltF h) hg).trans h
theorem own_setN {W : World} {B n s p : Nat} {e : TypeId} {v u : Value} {xs : List Value} {o : Nat} (h : W.ownsRow B e s v n xs) (hp : p < B) : (W.setCell ⟨p, o, none⟩ u).ownsRow B e s v n xs :=
  own_move h fun c hc => Below.heap_setCell _ _ _ _ (by have := (h.lt c hc).1; show c ≠ p; omega)
theorem RWs.kc {g B : Nat} {W W' : World} {v : Value} {us : List Value} {ls : List (List Int)} (h : RWs W B v us ls) (hk : Kc g W W') (hg : g < B) : RWs W' B v us ls := ⟨own_kcF h.own hk hg, h.len, fun i hi => own_kcF (h.each i hi) hk hg⟩
theorem RWs.setN {B p o : Nat} {W : World} {v u : Value} {us : List Value} {ls : List (List Int)} (h : RWs W B v us ls) (hp : p < B) : RWs (W.setCell ⟨p, o, none⟩ u) B v us ls := ⟨own_setN h.own hp, h.len, fun i hi => own_setN (h.each i hi) hp⟩
theorem RWs.base {B B' : Nat} {W : World} {v : Value} {us : List Value} {ls : List (List Int)} (h : RWs W B v us ls) (hB : B' ≤ B) : RWs W B' v us ls := ⟨own_base h.own hB, h.len, fun i hi => own_base (h.each i hi) hB⟩
theorem SQ.kc {g B : Nat} {W W' : World} {v : Value} {ds : List RelV} {vr vw : Nat → Value} {us : Nat → List Value} (h : SQ W B v ds vr vw us) (hk : Kc g W W') (hg : g < B) : SQ W' B v ds vr vw us :=
  ⟨own_kcF h.own hk hg, fun i hi => (h.rw i hi).kc hk hg, fun i hi => own_kcF (h.ow i hi) hk hg, h.eq, h.nil⟩

/-- the reader at s; all that lay below w stands but the reader's own block -/
structure Dr (w W : World) (g : Nat) (a : Option Addr) (L : Nat → Int) (n cap : Nat) (s : CSt) : Prop where
  kc : Kc g w W
  rd : RdF W g a L n cap s
  gl : g < w.heap.size
  bl : ∀ b o, a = some ⟨b, o, none⟩ → 0 < n → b < w.heap.size
section
variable {w W W' : World} {g : Nat} {a : Option Addr} {L : Nat → Int} {n cap : Nat} {s s' : CSt}
theorem Dr.start (h : RdF w g a L n cap s) : Dr w w g a L n cap s :=
  ⟨Kc.refl _ _, h, h.lt, fun b o e hn => by
    obtain ⟨b', o', x, e', -, hc, -⟩ := h.1.bytes 0 hn
    rw [e] at e'
    cases e'
    exact World.block_lt_of_cell? w _ hc⟩
theorem Dr.bel (h : Dr w W g a L n cap s) (hb : Below w.heap.size W W') : Dr w W' g a L n cap s :=
  ⟨h.kc.up hb, ⟨h.rd.1.above hb h.gl h.bl, fun j hj b o e => (World.cell?_of_block (w := W) (a := ⟨b, o + j, none⟩) (hb.block b (h.bl b o e (by omega)))).trans (h.rd.2 j hj b o e)⟩, h.gl, h.bl⟩
theorem Dr.turn (h : Dr w W g a L n cap s) (hk : Kc g W W') (hr : RdF W' g a L n cap s') : Dr w W' g a L n cap s' := ⟨h.kc.trans hk, hr, h.gl, h.bl⟩
theorem Dr.pick (h : Dr w W g a L n cap s) (hn : n ≤ 1048576) (hk : s.1 ≤ 1000000000) {m : Nat} (hm : m ≤ 256) :
    Calls Tryz.prog 35 #[.pointer (some ⟨g, 0, none⟩), .int .i64 m] W fun e w' => e = .returned (.int .i64 ((pkF L n m s).1 : Nat)) ∧ Dr w w' g a L n cap (pkF L n m s).2 ∧ Kc g W w' :=
  (pickF_calls W g a L n cap m s h.rd hn hk hm).mono fun _ _ ⟨h1, h2, h3⟩ => ⟨h1, h.turn h3 h2, h3⟩
theorem Dr.weight (h : Dr w W g a L n cap s) (hn : n ≤ 1048576) (hk : s.1 ≤ 1000000000) :
    Calls Tryz.prog 37 #[.pointer (some ⟨g, 0, none⟩)] W fun e w' => e = .returned (.int .i64 (wtD L n s)) ∧ Dr w w' g a L n cap (pkF L n 11 s).2 ∧ Kc g W w' :=
  (drawWeight_calls W g a L n cap s h.rd hn hk).mono fun _ _ ⟨h1, h2, h3⟩ => ⟨h1, h.turn h3 h2, h3⟩
end

/-- other blocks -/
def Apw (a b : Value) : Prop := ∀ q, a.ownBlock = some q → b.ownBlock ≠ some q
/-- a relation in the making, in its box p -/
structure RM (W : World) (p : Nat) (nm : ByteArray) (ar : Int) (ls : List (List Int)) (ws : List Int) (vr vw : Value) (us : List Value) : Prop where
  box : W.heap[p]? = some (.cells #[.string nm, .int .i64 ar, vr, vw] 45 (0, 0))
  rw : RWs W (p + 1) vr us ls
  ow : W.ownsRow (p + 1) 3 1 vw ws.length (ws.map (Value.int .i64))
  eq : ws.length = ls.length
  nil : ls = [] → vr = .slice none 0 0 ∧ vw = .slice none 0 0
  ap : ∀ u ∈ us, Apw u vw
theorem putL_twoF {α β : Type} {us : List α} {ls : List β} (hl : us.length = ls.length) {k : Nat} (hk : k ≤ ls.length) (there : Bool) (x : α) (y : β) (d1 : α) (d2 : β) {j : Nat} (hj : j < (putL ls k there y).length) :
    ((putL us k there x).getD j d1 = x ∧ (putL ls k there y).getD j d2 = y) ∨ ∃ j', j' < ls.length ∧ (putL us k there x).getD j d1 = us.getD j' d1 ∧ (putL ls k there y).getD j d2 = ls.getD j' d2 := by
  rw [putL_len ls there y hk] at hj
  have ht1 : (us.take k ++ [x]).length = k + 1 := by rw [List.length_append, List.length_take, List.length_singleton]; omega
  have ht2 : (ls.take k ++ [y]).length = k + 1 := by rw [List.length_append, List.length_take, List.length_singleton]; omega
  unfold putL
  by_cases h1 : j < k
  · refine Or.inr ⟨j, by omega, ?_, ?_⟩
    · rw [List.getD_eq_getElem?_getD, List.getElem?_append_left (by omega), List.getElem?_append_left (by rw [List.length_take]; omega), List.getElem?_take_of_lt h1, ← List.getD_eq_getElem?_getD]
    · rw [List.getD_eq_getElem?_getD, List.getElem?_append_left (by omega), List.getElem?_append_left (by rw [List.length_take]; omega), List.getElem?_take_of_lt h1, ← List.getD_eq_getElem?_getD]
  · by_cases h2 : j = k
    · subst h2
      refine Or.inl ⟨?_, ?_⟩
      · rw [List.getD_eq_getElem?_getD, List.getElem?_append_left (by omega), List.getElem?_append_right (by rw [List.length_take]; omega), List.length_take, show j - min j us.length = 0 by omega]; rfl
      · rw [List.getD_eq_getElem?_getD, List.getElem?_append_left (by omega), List.getElem?_append_right (by rw [List.length_take]; omega), List.length_take, show j - min j ls.length = 0 by omega]; rfl
    · refine Or.inr ⟨afterK k there + (j - (k + 1)), by omega, ?_, ?_⟩
      · rw [List.getD_eq_getElem?_getD, List.getElem?_append_right (by omega), ht1, List.getElem?_drop, ← List.getD_eq_getElem?_getD]
      · rw [List.getD_eq_getElem?_getD, List.getElem?_append_right (by omega), ht2, List.getElem?_drop, ← List.getD_eq_getElem?_getD]
theorem rws_putF {W w' : World} {B : Nat} {v v1 v2 vrow : Value} {us : List Value} {ls : List (List Int)} {row : List Int} {k n2 : Nat} {there : Bool} {ys : List Value} (h : RWs W B v us ls) (hB : B ≤ W.heap.size) (hk : k ≤ ls.length) (hr : W.ownsRow B 3 1 vrow row.length (row.map (Value.int .i64))) (hp : Pt W w' v1 v2 (putL us k there vrow).length n2 (putL us k there vrow) ys) : RWs w' B v1 (putL us k there vrow) (putL ls k there row) := by
  have hl := h.len
  have e : (putL us k there vrow).length = (putL ls k there row).length := by rw [putL_len us there vrow (by omega), putL_len ls there row hk, hl]
  refine ⟨by rw [← e]; exact own_base hp.own1 hB, e, fun j hj => ?_⟩
  rcases putL_twoF hl hk there vrow row undef [] hj with ⟨h1, h2⟩ | ⟨j', hj', h1, h2⟩
  · rw [h1, h2]; exact own_below hr hp.bel
  · rw [h1, h2]; exact own_below (h.each j' hj') hp.bel
section
variable {W W' : World} {p : Nat} {nm : ByteArray} {ar : Int} {ls : List (List Int)} {ws : List Int} {vr vw : Value} {us : List Value}
theorem RM.lt (h : RM W p nm ar ls ws vr vw us) : p < W.heap.size := heap_ltF h.box
theorem RM.kc {g : Nat} (h : RM W p nm ar ls ws vr vw us) (hk : Kc g W W') (hg : g < p) : RM W' p nm ar ls ws vr vw us :=
  ⟨heap_kc h.box hk (by omega), h.rw.kc hk (by omega), own_kcF h.ow hk (by omega), h.eq, h.nil, h.ap⟩
theorem RM.cells (h : RM W p nm ar ls ws vr vw us) : W.cell? ⟨p, 0, none⟩ = some (.string nm) ∧ W.cell? ⟨p, 1, none⟩ = some (.int .i64 ar) ∧ W.cell? ⟨p, 2, none⟩ = some vr ∧ W.cell? ⟨p, 3, none⟩ = some vw ∧ ∀ o, W.frozen? ⟨p, o, none⟩ = false := by
  refine ⟨?_, ?_, ?_, ?_, fun o => ?_⟩
  · rw [cell_of_row _ _ _ _ _ _ h.box]; rfl
  · rw [cell_of_row _ _ _ _ _ _ h.box]; rfl
  · rw [cell_of_row _ _ _ _ _ _ h.box]; rfl
  · rw [cell_of_row _ _ _ _ _ _ h.box]; rfl
  · unfold World.frozen?; rw [show W.heap[p]? = _ from h.box]; simp
theorem RM.call (h : RM W p nm ar ls ws vr vw us) (h2 : ls.length ≤ 2000) (h3 : ∀ r ∈ ls, r.length ≤ 3) {vrow : Value} {row : List Int} (hr : W.ownsRow (p + 1) 3 1 vrow row.length (row.map (Value.int .i64))) (hrl : row.length ≤ 3) (wt : Int) :
    Calls Tryz.prog 36 #[vr, vw, vrow, .int .i64 wt] W fun e w' => ∃ v1 v2 us', e = .returned (.tuple #[v1, v2]) ∧ Below W.heap.size W w' ∧ RWs w' (p + 1) v1 us' (putL ls (fndK ls row) (fndB ls row) row) ∧ w'.ownsRow (p + 1) 3 1 v2 (putL ws (fndK ls row) (fndB ls row) wt).length ((putL ws (fndK ls row) (fndB ls row) wt).map (Value.int .i64)) ∧ ∀ u ∈ us', Apw u v2 := by
  have hone : vrow.oneCell' = true := by obtain ⟨a, c, rfl⟩ := own_shapeR hr; rfl
  have hlt := h.lt
  have key : Calls Tryz.prog 36 #[vr, vw, vrow, .int .i64 wt] W (PutE W us ls ws row vrow wt) := by
    by_cases he : ls = []
    · obtain ⟨e1, e2⟩ := h.nil he
      have hw0 : ws = [] := List.eq_nil_of_length_eq_zero (by rw [h.eq, he]; rfl)
      have hu0 : us = [] := List.eq_nil_of_length_eq_zero (by rw [h.rw.len, he]; rfl)
      rw [e1, e2, he, hw0, hu0]
      exact l2Put_first W vrow row wt (own_is hr) (by omega)
    · have hpos : 0 < ls.length := List.length_pos_iff.2 he
      have hE := h.eq
      obtain ⟨g1, c1, e1, -, -⟩ := h.rw.own.form hpos
      obtain ⟨g2, c2, e2, -, -⟩ := h.ow.form (by omega)
      have hI := h.rw.iss
      have hc1 : ls.length ≤ c1 := by
        rcases h.rw.own.2 with ⟨e, hz⟩ | ⟨g, cap, cur, e, -, -, hcap, -⟩
        · omega
        · rw [e1] at e; cases e; exact hcap
      have hc2 : ls.length ≤ c2 := by
        rcases h.ow.2 with ⟨e, hz⟩ | ⟨g, cap, cur, e, -, -, hcap, -⟩
        · omega
        · rw [e2] at e; cases e; omega
      have ho1 := h.rw.own
      have ho2 := h.ow
      rw [e1] at ho1 hI ⊢
      rw [e2] at ho2 ⊢
      rw [show ws.length = ls.length from hE] at ho2 ⊢
      refine l2Put_more W g1 ls.length c1 g2 c2 vrow us ls ws row wt rfl h.rw.len hE hc1 hc2 h2 hI (fun j hj => ?_) (fun j u hj => ?_) (fun u hu => ?_) (fun j u hj => ?_) (own_is hr) hone (by omega)
      · have : ls.getD j [] ∈ ls := by rw [List.getD_eq_getElem?_getD, List.getElem?_eq_getElem hj]; exact List.getElem_mem hj
        have := h3 _ this
        omega
      · have hjl : j < us.length := (List.getElem?_eq_some_iff.1 hj).1
        rw [ho1.cellAt j (by rw [h.rw.len] at hjl; omega), hj]
      · obtain ⟨j, hj, rfl⟩ := List.getElem_of_mem hu
        have := h.rw.each j (by have := h.rw.len; omega)
        rw [List.getD_eq_getElem?_getD, List.getElem?_eq_getElem hj, Option.getD_some] at this
        obtain ⟨a, c, e⟩ := own_shapeR this
        rw [e]; rfl
      · have hjl : j < (ws.map (Value.int .i64)).length := (List.getElem?_eq_some_iff.1 hj).1
        rw [List.length_map] at hjl
        rw [ho2.cellAt j (by omega), hj]
  refine key.mono ?_
  rintro e w' ⟨k, there, v1, v2, hF, he, hP⟩
  obtain ⟨rfl, rfl⟩ := hF.uniq (fnd_is ls row)
  have hl2 : (putL us (fndK ls row) (fndB ls row) vrow).length = (putL ws (fndK ls row) (fndB ls row) wt).length := put_same (by rw [h.rw.len, h.eq])
  refine ⟨v1, v2, _, he, hP.bel, rws_putF h.rw (by omega) hF.1 hr hP, ?_, fun u hu q h1 h2 => ?_⟩
  · rw [← hl2]
    exact own_base hP.own2 (by omega)
  · have hq := (hP.own2.lt q h2).1
    have hlt2 : q < W.heap.size := by
      have hu2 : u ∈ us ∨ u = vrow := by
        unfold putL at hu
        rw [List.mem_append, List.mem_append, List.mem_singleton] at hu
        rcases hu with (hu | hu) | hu
        · exact Or.inl (List.mem_of_mem_take hu)
        · exact Or.inr hu
        · exact Or.inl (List.mem_of_mem_drop hu)
      rcases hu2 with hu2 | rfl
      · obtain ⟨j, hj, rfl⟩ := List.getElem_of_mem hu2
        have := h.rw.each j (by have := h.rw.len; omega)
        rw [List.getD_eq_getElem?_getD, List.getElem?_eq_getElem hj, Option.getD_some] at this
        exact (this.lt q h1).2
      · exact (hr.lt q h1).2
    omega
theorem putL_ne {α : Type} (l : List α) (k : Nat) (b : Bool) (x : α) : putL l k b x ≠ [] := by unfold putL; simp
theorem RM.put {v1 v2 : Value} {us' : List Value} {ls' : List (List Int)} {ws' : List Int} (h : RM W p nm ar ls ws vr vw us) (hb : Below W.heap.size W W') (hr : RWs W' (p + 1) v1 us' ls') (ho : W'.ownsRow (p + 1) 3 1 v2 ws'.length (ws'.map (Value.int .i64))) (he : ws'.length = ls'.length) (hne : ls' ≠ []) (hap : ∀ u ∈ us', Apw u v2) :
    RM ((W'.setCell ⟨p, 2, none⟩ v1).setCell ⟨p, 3, none⟩ v2) p nm ar ls' ws' v1 v2 us' := by
  have hbx : W'.heap[p]? = some (.cells #[.string nm, .int .i64 ar, vr, vw] 45 (0, 0)) := (hb.block p h.lt).trans h.box
  refine ⟨?_, (hr.setN (by omega)).setN (by omega), own_setN (own_setN ho (by omega)) (by omega), he, fun e => absurd e hne, hap⟩
  have h1 : (W'.setCell ⟨p, 2, none⟩ v1).heap[p]? = some (.cells #[.string nm, .int .i64 ar, v1, vw] 45 (0, 0)) := by rw [heap_setCell_same _ _ _ _ _ _ hbx]; rfl
  rw [heap_setCell_same _ _ _ _ _ _ h1]; rfl
end

end Go.Proofs.YtcdfoephhjacdaaGreatDoor

/-
  The data made so far, among the blocks of l2DrawData.
-/
namespace Go.Proofs.YtcdfoephhjacdaaGreatDoor
open Go.RowKit

def nmsC : Array Value := #[.string ⟨#[101]⟩, .string ⟨#[102]⟩, .string ⟨#[103]⟩, .string ⟨#[98, 105, 103, 95, 49]⟩, .string ⟨#[82, 50]⟩]
theorem nmsC_at : ∀ i : Nat, i < 5 → nmsC[i]? = some (.string (nmD.getD i ⟨#[]⟩))
  | 0, _ => rfl
  | 1, _ => rfl
  | 2, _ => rfl
  | 3, _ => rfl
  | 4, _ => rfl
  | i + 5, h => by omega
def arsC : Array Value := #[.int .i64 2, .int .i64 2, .int .i64 1, .int .i64 3]
theorem arsC_at : ∀ i : Nat, i < 4 → arsC[i]? = some (.int .i64 (arsD.getD i 0 : Nat))
  | 0, _ => rfl
  | 1, _ => rfl
  | 2, _ => rfl
  | 3, _ => rfl
  | i + 4, h => by omega
/-- the lists of numbers: no weights lie in a row, no two relations' weights in one block -/
structure ApD (n : Nat) (vw : Nat → Value) (us : Nat → List Value) : Prop where
  ww : ∀ i, i < n → ∀ j, j < n → i ≠ j → Apw (vw i) (vw j)
  rw : ∀ i, i < n → ∀ j, j < n → ∀ u ∈ us i, Apw u (vw j)
/-- all lists of numbers lie below p -/
structure Lts (p n : Nat) (vw : Nat → Value) (us : Nat → List Value) : Prop where
  w : ∀ i, i < n → ∀ q, (vw i).ownBlock = some q → q < p
  r : ∀ i, i < n → ∀ u ∈ us i, ∀ q, u.ownBlock = some q → q < p
theorem ApD.push {n p : Nat} {vw : Nat → Value} {us : Nat → List Value} {vw' : Value} {us' : List Value} (h : ApD n vw us) (hl : Lts p n vw us) (hw : ∀ q, vw'.ownBlock = some q → p ≤ q) (hr : ∀ u ∈ us', ∀ q, u.ownBlock = some q → p ≤ q) (ha : ∀ u ∈ us', Apw u vw') :
    ApD (n + 1) (fun j => if j = n then vw' else vw j) (fun j => if j = n then us' else us j) := by
  refine ⟨fun i hi j hj hij q h1 h2 => ?_, fun i hi j hj u hu q h1 h2 => ?_⟩
  · have _h9 := hi
    by_cases e1 : i = n
    · rw [if_pos e1] at h1
      rw [if_neg (by omega)] at h2
      have := hw q h1
      have := hl.w j (by omega) q h2
      omega
    · rw [if_neg e1] at h1
      by_cases e2 : j = n
      · rw [if_pos e2] at h2
        have := hw q h2
        have := hl.w i (by omega) q h1
        omega
      · rw [if_neg e2] at h2
        exact h.ww i (by omega) j (by omega) hij q h1 h2
  · have _h9 := hi
    by_cases e1 : i = n
    · rw [if_pos e1] at hu
      by_cases e2 : j = n
      · rw [if_pos e2] at h2
        exact ha u hu q h1 h2
      · rw [if_neg e2] at h2
        have := hr u hu q h1
        have := hl.w j (by omega) q h2
        omega
    · rw [if_neg e1] at hu
      by_cases e2 : j = n
      · rw [if_pos e2] at h2
        have := hw q h2
        have := hl.r i (by omega) u hu q h1
        omega
      · rw [if_neg e2] at h2
        exact h.rw i (by omega) j (by omega) u hu q h1 h2
/-- the boxes, the names, the relations that are done -/
structure DS (w W : World) (v : Value) (ds : List RelV) (vr vw : Nat → Value) (us : Nat → List Value) : Prop where
  b2 : W.heap[w.heap.size]? = some (.cells #[.slice none 0 0] 25 (0, 0))
  b3 : W.heap[w.heap.size + 1]? = some (.cells #[v] 25 (0, 0))
  nm : W.heap[w.heap.size + 2]? = some (.cells nmsC 9 (0, 0))
  sq : SQ W (w.heap.size + 3) v ds vr vw us
  ap : ApD ds.length vw us
section
variable {w W W' : World} {v : Value} {ds : List RelV} {vr vw : Nat → Value} {us : Nat → List Value}
theorem DS.kc {g : Nat} (h : DS w W v ds vr vw us) (hk : Kc g W W') (hg : g < w.heap.size) : DS w W' v ds vr vw us :=
  ⟨heap_kc h.b2 hk (by omega), heap_kc h.b3 hk (by omega), heap_kc h.nm hk (by omega), h.sq.kc hk (by omega), h.ap⟩
theorem DS.lts (h : DS w W v ds vr vw us) : Lts W.heap.size ds.length vw us :=
  ⟨fun i hi q hq => ((h.sq.ow i hi).lt q hq).2, fun i hi u hu q hq => by
    have hl := (h.sq.rw i hi).len
    obtain ⟨j, hj, rfl⟩ := List.getElem_of_mem hu
    have := (h.sq.rw i hi).each j (by omega)
    rw [List.getD_eq_getElem?_getD, List.getElem?_eq_getElem hj, Option.getD_some] at this
    exact (this.lt q hq).2⟩
theorem Lts.mono {p p' n : Nat} {vw : Nat → Value} {us : Nat → List Value} (h : Lts p n vw us) (hp : p ≤ p') : Lts p' n vw us := ⟨fun i hi q hq => Nat.lt_of_lt_of_le (h.w i hi q hq) hp, fun i hi u hu q hq => Nat.lt_of_lt_of_le (h.r i hi u hu q hq) hp⟩
theorem DS.push {p : Nat} {d : RelV} {vr' vw' v' : Value} {us' : List Value} {w3 : World} {o : Obj} (h : DS w W v ds vr vw us) (hm : RM W p d.name d.ar d.rows d.ws vr' vw' us') (hp : w.heap.size + 3 ≤ p)
    (hown : w3.ownsRow (w.heap.size + 3) 45 4 v' (ds.length + 1) (((List.range ds.length).flatMap fun i => relS (ds.getD i noRel) (vr i) (vw i)) ++ relS d vr' vw')) (hg : (W.alloc o).grownBy w3 v.ownBlock) (hlt : Lts p ds.length vw us) :
    DS w (w3.setCell ⟨w.heap.size + 1, 0, none⟩ v') v' (ds ++ [d]) (fun j => if j = ds.length then vr' else vr j) (fun j => if j = ds.length then vw' else vw j) (fun j => if j = ds.length then us' else us j) := by
  have hsz : w.heap.size + 3 ≤ W.heap.size := by have := hm.lt; omega
  have hbx : ∀ {b : Nat} {ob : Obj}, W.heap[b]? = some ob → b < w.heap.size + 3 → w3.heap[b]? = some ob := fun {b ob} hb hlt => (kept_of hg (by omega) (fun e => by
    have := (h.sq.own.lt b e.symm).1
    omega)).trans hb
  have hlen : (ds ++ [d]).length = ds.length + 1 := by simp
  have hget : ∀ i, i < ds.length → (ds ++ [d]).getD i noRel = ds.getD i noRel := fun i hi => by rw [List.getD_eq_getElem?_getD, List.getElem?_append_left hi, ← List.getD_eq_getElem?_getD]
  have hgetn : (ds ++ [d]).getD ds.length noRel = d := by simp [List.getD_eq_getElem?_getD]
  have hk : ∀ {n s B' : Nat} {e : TypeId} {u : Value} {xs : List Value}, W.ownsRow B' e s u n xs → w.heap.size + 3 ≤ B' → e ≠ 45 → (w3.setCell ⟨w.heap.size + 1, 0, none⟩ v').ownsRow (w.heap.size + 3) e s u n xs := fun {n s B' e u xs} ho hB he => own_setN (own_base (own_move ho fun c hgx => kept_of hg (ho.lt c hgx).2 (own_ne h.sq.own (own_typ ho hgx) (Ne.symm he))) hB) (by omega)
  refine ⟨?_, ?_, ?_, ⟨?_, fun j hj => ?_, fun j hj => ?_, fun j hj => ?_, fun j hj he => ?_⟩, ?_⟩
  · rw [Below.heap_setCell _ _ _ _ (show w.heap.size ≠ w.heap.size + 1 by omega)]; exact hbx h.b2 (by omega)
  · rw [heap_setCell_same _ _ _ _ _ _ (hbx h.b3 (by omega))]; rfl
  · rw [Below.heap_setCell _ _ _ _ (show w.heap.size + 2 ≠ w.heap.size + 1 by omega)]; exact hbx h.nm (by omega)
  · rw [hlen]
    have e : ((List.range (ds.length + 1)).flatMap fun i => relS ((ds ++ [d]).getD i noRel) (if i = ds.length then vr' else vr i) (if i = ds.length then vw' else vw i)) = ((List.range ds.length).flatMap fun i => relS (ds.getD i noRel) (vr i) (vw i)) ++ relS d vr' vw' := by
      rw [List.range_succ, List.flatMap_append]
      congr 1
      · rw [List.flatMap_def, List.flatMap_def]
        congr 1
        refine List.map_congr_left fun i hi => ?_
        have hi2 := List.mem_range.1 hi
        rw [hget i hi2, if_neg (by omega), if_neg (by omega)]
      · rw [List.flatMap_singleton, hgetn, if_pos rfl, if_pos rfl]
    rw [e]
    exact own_setN hown (by omega)
  · rw [hlen] at hj
    by_cases e : j = ds.length
    · subst e; rw [hgetn, if_pos rfl, if_pos rfl]
      exact ⟨hk hm.rw.own (by omega) (by decide), hm.rw.len, fun i hi => hk (hm.rw.each i hi) (by omega) (by decide)⟩
    · rw [hget j (by omega), if_neg e, if_neg e]
      have hx := h.sq.rw j (by omega)
      exact ⟨hk hx.own (Nat.le_refl _) (by decide), hx.len, fun i hi => hk (hx.each i hi) (Nat.le_refl _) (by decide)⟩
  · rw [hlen] at hj
    by_cases e : j = ds.length
    · subst e; rw [hgetn, if_pos rfl]; exact hk hm.ow (by omega) (by decide)
    · rw [hget j (by omega), if_neg e]; exact hk (h.sq.ow j (by omega)) (Nat.le_refl _) (by decide)
  · rw [hlen] at hj
    by_cases e : j = ds.length
    · subst e; rw [hgetn]; exact hm.eq
    · rw [hget j (by omega)]; exact h.sq.eq j (by omega)
  · rw [hlen] at hj
    by_cases e : j = ds.length
    · subst e; rw [hgetn] at he; rw [if_pos rfl, if_pos rfl]; exact hm.nil he
    · rw [hget j (by omega)] at he; rw [if_neg e, if_neg e]; exact h.sq.nil j (by omega) he
  · rw [hlen]
    refine h.ap.push hlt (fun q hq => ?_) (fun u hu q hq => ?_) hm.ap
    · have := (hm.ow.lt q hq).1; omega
    · have hl := hm.rw.len
      obtain ⟨j, hj, rfl⟩ := List.getElem_of_mem hu
      have := hm.rw.each j (by omega)
      rw [List.getD_eq_getElem?_getD, List.getElem?_eq_getElem hj, Option.getD_some] at this
      have := (this.lt q hq).1
      omega
end
theorem rel_at (L : Nat → Int) (n span i : Nat) (s : CSt) : (relRw L n span i s).2.1 ≤ s.1 + 100 := by
  unfold relRw
  have h1 := rowsF_at L n span (arD L n i s) (pkF L n 12 (pkF L n 11 (pkF L n 4 s).2).2).2 (cntD L n (pkF L n 4 s).2)
  have h2 := pkF_at L n 4 s
  have h3 := pkF_at L n 11 (pkF L n 4 s).2
  have h4 := pkF_at L n 12 (pkF L n 11 (pkF L n 4 s).2).2
  have h5 := arD_in L n i s
  have h6 := cntD_le L n (pkF L n 4 s).2
  generalize cntD L n (pkF L n 4 s).2 = c at *
  generalize arD L n i s = r at *
  have h7 : c * (r + 1) ≤ 14 * 4 := Nat.mul_le_mul h6 (by omega)
  omega
theorem datF_at (L : Nat → Int) (n span : Nat) (s : CSt) : ∀ i, (datF L n span i s).2.1 ≤ s.1 + i * 100
  | 0 => Nat.le_refl _
  | i + 1 => by
    have h1 := datF_at L n span s i
    have h2 := rel_at L n span i (datF L n span i s).2
    show (relRw L n span i (datF L n span i s).2).2.1 ≤ _
    omega
theorem spanE_at (L : Nat → Int) (n : Nat) (s : CSt) : (spanE L n s).1 ≤ s.1 + 3 := by
  unfold spanE
  have h1 := pkF_at L n 2 s
  have h2 := pkF_at L n 4 (pkF L n 2 s).2
  have h3 := pkF_at L n 4 (pkF L n 4 (pkF L n 2 s).2).2
  split <;> omega
theorem drawD_at (L : Nat → Int) (n : Nat) (s : CSt) : (drawD L n s).2.1 ≤ s.1 + 404 := by
  unfold drawD
  have h1 := pkF_at L n 4 s
  have h2 := spanE_at L n (pkF L n 4 s).2
  have h3 := datF_at L n (spanD L n (pkF L n 4 s).2) (spanE L n (pkF L n 4 s).2) (numD L n s)
  have h4 := pk_lt L n 4 s (by omega)
  have h5 : numD L n s ≤ 4 := by unfold numD; omega
  omega

end Go.Proofs.YtcdfoephhjacdaaGreatDoor

/-
  What spec.DrawChecked draws, and how it ends (taken out of RndLaw).
-/
namespace Go.Proofs.YtcdfoephhjacdaaGreatDoor
open Go.RowKit

/-- the drawn data and query -/
def dsC (L : Nat → Int) (n : Nat) : List RelV := (drawD L n (0, 0)).1
def qC (L : Nat → Int) (n : Nat) : QV := chkQ (dsC L n) (drawQ L n (dsC L n) (drawD L n (0, 0)).2).1
/-- the code's bytes -/
def Cod (w : World) (a : Option Addr) (L : Nat → Int) (n : Nat) : Prop := ∀ j, j < n → ∃ b o, a = some ⟨b, o, none⟩ ∧ w.cell? ⟨b, o + j, none⟩ = some (.int .u8 (L j)) ∧ 0 ≤ L j ∧ L j < 256
theorem Cod.below {w w' : World} {a : Option Addr} {L : Nat → Int} {n : Nat} (h : Cod w a L n) (hb : Below w.heap.size w w') : Cod w' a L n := fun j hj => by
  obtain ⟨b, o, e, hc, hx⟩ := h j hj
  exact ⟨b, o, e, (hb.cell (p := ⟨b, o + j, none⟩) (World.block_lt_of_cell? w _ hc)).trans hc, hx⟩
/-- how DrawChecked ends -/
def DrwE (w : World) (ds : List RelV) (q : QV) (e : Ending) (w' : World) : Prop := ∃ a0 c0 gh ch a1 c1, e = .returned (.tuple #[.agg #[.slice a0 ds.length c0], .agg #[.string q.name, .slice (some ⟨gh, 0, none⟩) q.head.length ch, .int .i64 q.ring, .slice a1 q.atoms.length c1]]) ∧ Below w.heap.size w w' ∧ IRelS w' (.slice a0 ds.length c0) ds ∧ IQ w' (.slice (some ⟨gh, 0, none⟩) q.head.length ch) (.slice a1 q.atoms.length c1) q ∧ gh < w'.heap.size ∧ q.head.length ≤ ch
def DrwC : Prop := ∀ (w : World) (a : Option Addr) (n cap : Nat) (L : Nat → Int), n ≤ 1048576 → Cod w a L n → Calls Tryz.prog 5 #[.slice a n cap] w (DrwE w (dsC L n) (qC L n))

theorem okq_of {q : QV} (h : shapeB q = true) (ha : AtsG q.atoms) (hh : q.head.length ≤ 15) : OkQ q := by
  unfold shapeB at h
  simp only [Bool.and_eq_true, decide_eq_true_eq, List.all_eq_true] at h
  obtain ⟨⟨⟨⟨⟨h1, h2⟩, h3⟩, h4⟩, h5⟩, h6⟩ := h
  have hm : ∀ j, j < q.atoms.length → q.atoms.getD j noAt ∈ q.atoms := fun j hj => by rw [List.getD_eq_getElem?_getD, List.getElem?_eq_getElem hj]; exact List.getElem_mem hj
  refine ⟨by have := name_len h1; omega, by omega, fun j hj => ?_, by have := ha.few; omega, fun j hj => ?_⟩
  · have : q.head.getD j noTx ∈ q.head := by rw [List.getD_eq_getElem?_getD, List.getElem?_eq_getElem hj]; exact List.getElem_mem hj
    have := name_len (h5 _ this)
    omega
  · obtain ⟨g1, g2⟩ := ha.ok _ (hm j hj)
    unfold atomB at g1
    simp only [Bool.and_eq_true, decide_eq_true_eq, List.all_eq_true] at g1
    refine ⟨by have := name_len g1.1.1; omega, by omega, fun k hk => ?_⟩
    have hk2 : (q.atoms.getD j noAt).2.getD k noTm ∈ (q.atoms.getD j noAt).2 := by rw [List.getD_eq_getElem?_getD (l := (q.atoms.getD j noAt).2), List.getElem?_eq_getElem hk]; exact List.getElem_mem hk
    have := g1.2 _ hk2
    unfold termB at this
    split at this
    · rename_i he
      have : ((q.atoms.getD j noAt).2.getD k noTm).1.size = 0 := by
        rw [ByteArray.toList_eq] at he
        have h9 := List.isEmpty_iff.1 he
        have h8 : ((q.atoms.getD j noAt).2.getD k noTm).1.data.toList.length = ((q.atoms.getD j noAt).2.getD k noTm).1.size := by simp
        rw [h9] at h8
        simpa using h8.symm
      omega
    · rw [Bool.and_eq_true] at this
      have := name_len this.1
      omega

end Go.Proofs.YtcdfoephhjacdaaGreatDoor
