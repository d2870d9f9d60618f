import Derived.Test.YtcgboccdffgkfaaDoorPa06
import Derived.Test.YtcgboccdffgkfaaDoorPa17
/-
  A relation in the making: its block, its lists, apart from one another.
-/
namespace Go.Proofs.YtcgboccdffgkfaaDoor
open Go.RowKit

theorem bclR {w w' : World} {p : Addr} {v : Value} (hb : Below w.heap.size w w') (h : w.cell? p = some v) : w'.cell? p = some v := (hb.cell (World.block_lt_of_cell? w _ h)).trans h
theorem drew_below2R {a b : World} (h : Below a.drew.heap.size a.drew b) : Below a.heap.size a b := ⟨h.os, h.tape, h.output, h.size, h.block⟩
theorem own_shapeR {w : World} {B n s : Nat} {e : TypeId} {v : Value} {xs : List Value} (h : w.ownsRow B e s v n xs) : ∃ a cap, v = .slice a n cap := by
  rcases h.2 with ⟨rfl, hn⟩ | ⟨g, cap, cur, rfl, _⟩
  · exact ⟨none, 0, by rw [hn]⟩
  · exact ⟨_, cap, rfl⟩
/-- a row's block is none of another type; what is stored there does not reach it -/
theorem own_keepR {W : World} {B s n p : Nat} {e e' : TypeId} {v : Value} {xs : List Value} {off : Nat} {y : Value} (h : W.ownsRow B e s v n xs) (ht : ∃ cur, W.heap[p]? = some (.cells cur e' (0, 0))) (he : e ≠ e') : (W.setCell ⟨p, off, none⟩ y).ownsRow B e s v n xs :=
  own_move h fun g hg => Below.heap_setCell _ _ _ _ (by rintro rfl; exact own_ne h ht he hg.symm)
theorem RQ.setR {W : World} {B p off : Nat} {v y : Value} {us : List Value} {ls : List (List Int)} (h : RQ W B v us ls) (ht : ∃ cur, W.heap[p]? = some (.cells cur 55 (0, 0))) : RQ (W.setCell ⟨p, off, none⟩ y) B v us ls :=
  ⟨own_keepR h.own ht (by decide), h.len, fun i hi => own_keepR (h.each i hi) ht (by decide), h.ap⟩
def ApR (u v : Value) : Prop := ∀ g, u.ownBlock = some g → v.ownBlock ≠ some g

/-- a relation's block -/
structure RX (W : World) (p : Nat) (v0 v1 v2 v3 : Value) : Prop where
  blk : W.heap[p]? = some (.cells #[v0, v1, v2, v3] 55 (0, 0))
section
variable {W W' w3 : World} {p : Nat} {v0 v1 v2 v3 : Value}
theorem RX.lt (h : RX W p v0 v1 v2 v3) : p < W.heap.size := by
  rcases Nat.lt_or_ge p W.heap.size with h1 | h1
  · exact h1
  · have := h.blk; rw [Array.getElem?_eq_none h1] at this; cases this
theorem RX.below (h : RX W p v0 v1 v2 v3) (hb : Below W.heap.size W W') : RX W' p v0 v1 v2 v3 := ⟨(hb.block p h.lt).trans h.blk⟩
theorem RX.c0 (h : RX W p v0 v1 v2 v3) : W.cell? ⟨p, 0, none⟩ = some v0 := by rw [cell_of_row _ _ _ _ _ _ h.blk]; rfl
theorem RX.c1 (h : RX W p v0 v1 v2 v3) : W.cell? ⟨p, 1, none⟩ = some v1 := by rw [cell_of_row _ _ _ _ _ _ h.blk]; rfl
theorem RX.c2 (h : RX W p v0 v1 v2 v3) : W.cell? ⟨p, 2, none⟩ = some v2 := by rw [cell_of_row _ _ _ _ _ _ h.blk]; rfl
theorem RX.c3 (h : RX W p v0 v1 v2 v3) : W.cell? ⟨p, 3, none⟩ = some v3 := by rw [cell_of_row _ _ _ _ _ _ h.blk]; rfl
theorem RX.free (h : RX W p v0 v1 v2 v3) (j : Nat) : W.frozen? ⟨p, j, none⟩ = false := by unfold World.frozen?; rw [h.blk]; simp
theorem RX.typ (h : RX W p v0 v1 v2 v3) : ∃ cur, W.heap[p]? = some (.cells cur 55 (0, 0)) := ⟨_, h.blk⟩
theorem RX.made (W : World) (v0 v1 v2 v3 : Value) : RX (W.alloc (.cells #[v0, v1, v2, v3] 55)) W.heap.size v0 v1 v2 v3 := ⟨heap_alloc_new _ _⟩
theorem RX.set2 (h : RX W p v0 v1 v2 v3) (y : Value) : RX (W.setCell ⟨p, 2, none⟩ y) p v0 v1 y v3 := ⟨by rw [heap_setCell_same _ _ _ _ _ _ h.blk]; rfl⟩
theorem RX.set3 (h : RX W p v0 v1 v2 v3) (y : Value) : RX (W.setCell ⟨p, 3, none⟩ y) p v0 v1 v2 y := ⟨by rw [heap_setCell_same _ _ _ _ _ _ h.blk]; rfl⟩
theorem RX.other (h : RX W p v0 v1 v2 v3) {q j : Nat} (hne : p ≠ q) (y : Value) : RX (W.setCell ⟨q, j, none⟩ y) p v0 v1 v2 v3 := ⟨(Below.heap_setCell _ _ _ _ hne).trans h.blk⟩
theorem RX.grown {B n s : Nat} {e : TypeId} {v : Value} {xs : List Value} {o : Obj} (h : RX W p v0 v1 v2 v3) (ho : W.ownsRow B e s v n xs) (he : e ≠ 55) (hg : (W.alloc o).grownBy w3 v.ownBlock) : RX w3 p v0 v1 v2 v3 :=
  ⟨(kept_of hg h.lt (own_ne ho h.typ he)).trans h.blk⟩
end

/-- a relation in the making, over the tuples of a list -/
structure KR (W : World) (B q p : Nat) (nm : ByteArray) (ar : Int) (v2 v3 vS : Value) (us : List Value) (rows : List (List Int)) (ws : List Int) (n : Nat) (cs : List Value) : Prop where
  rx : RX W p (.string nm) (.int .i64 ar) v2 v3
  rb : RX W q (.string ⟨#[]⟩) (.int .i64 0) (.slice none 0 0) (.slice none 0 0)
  rq : RQ W B v2 us rows
  o3 : W.ownsRow B 3 1 v3 ws.length (ws.map (Value.int .i64))
  st : W.ownsRow B 102 3 vS n cs
  a3 : ∀ i, i < rows.length → ApR (us.getD i undef) v3
  lo : B ≤ p
  ne : q ≠ p
section
variable {W W' w3 : World} {B q p n : Nat} {nm : ByteArray} {ar : Int} {v2 v3 vS v' u : Value} {us cs : List Value} {ws l : List Int} {rows : List (List Int)} {o : Obj} {x : Int}
theorem KR.below (h : KR W B q p nm ar v2 v3 vS us rows ws n cs) (hb : Below W.heap.size W W') : KR W' B q p nm ar v2 v3 vS us rows ws n cs :=
  ⟨h.rx.below hb, h.rb.below hb, h.rq.below hb, own_below h.o3 hb, own_below h.st hb, h.a3, h.lo, h.ne⟩
theorem KR.pushR (h : KR W B q p nm ar v2 v3 vS us rows ws n cs) (hu : W.ownsRow B 3 1 u l.length (l.map (Value.int .i64))) (hr : ∀ i, i < rows.length → ∀ g, (us.getD i undef).ownBlock = some g → u.ownBlock ≠ some g) (h3 : ApR u v3)
    (hown : w3.ownsRow B 53 1 v' (rows.length + 1) (us ++ [u])) (hg : (W.alloc o).grownBy w3 v2.ownBlock) : KR (w3.setCell ⟨p, 2, none⟩ v') B q p nm ar v' v3 vS (us ++ [u]) (rows ++ [l]) ws n cs := by
  have hX := h.rx.grown h.rq.own (by decide) hg
  have hQ := h.rb.grown h.rq.own (by decide) hg
  have hint : ∀ {y : Value} {k : Nat} {xs : List Value}, W.ownsRow B 3 1 y k xs → w3.ownsRow B 3 1 y k xs := fun hx =>
    own_move hx fun g hgx => kept_of hg (hx.lt g hgx).2 (own_ne h.rq.own (own_typ hx hgx) (by decide))
  have htup : w3.ownsRow B 102 3 vS n cs := own_move h.st fun g hgx => kept_of hg (h.st.lt g hgx).2 (own_ne h.rq.own (own_typ h.st hgx) (by decide))
  have hl := h.rq.len
  refine ⟨hX.set2 _, hQ.other h.ne _, (h.rq.step hu hr hown hg).setR hX.typ, own_keepR (hint h.o3) hX.typ (by decide), own_keepR htup hX.typ (by decide), fun i hi => ?_, h.lo, h.ne⟩
  rw [List.length_append, List.length_singleton] at hi
  by_cases e : i < rows.length
  · rw [List.getD_eq_getElem?_getD, List.getElem?_append_left (by omega), ← List.getD_eq_getElem?_getD]; exact h.a3 i e
  · rw [List.getD_eq_getElem?_getD, List.getElem?_append_right (by omega), show i - us.length = 0 by omega]; exact h3
theorem KR.pushW (h : KR W B q p nm ar v2 v3 vS us rows ws n cs) (hown : w3.ownsRow B 3 1 v' (ws.length + 1) (ws.map (Value.int .i64) ++ [.int .i64 x])) (hg : (W.alloc o).grownBy w3 v3.ownBlock) (hat : ∀ g, v'.ownBlock = some g → v3.ownBlock = some g ∨ W.heap.size ≤ g) :
    KR (w3.setCell ⟨p, 3, none⟩ v') B q p nm ar v2 v' vS us rows (ws ++ [x]) n cs := by
  have hX := h.rx.grown h.o3 (by decide) hg
  have hQ := h.rb.grown h.o3 (by decide) hg
  have ap : ∀ {y : Value} {k : Nat} {xs : List Value}, W.ownsRow B 3 1 y k xs → ApR y v3 → ApR y v' := fun hx ha g h1 h2 => by
    rcases hat g h2 with h3 | h3
    · exact ha g h1 h3
    · have := (hx.lt g h1).2; omega
  have hint : ∀ {y : Value} {k : Nat} {xs : List Value}, W.ownsRow B 3 1 y k xs → ApR y v3 → w3.ownsRow B 3 1 y k xs := fun hx ha =>
    own_move hx fun g hgx => kept_of hg (hx.lt g hgx).2 (fun e => ha g hgx e.symm)
  have htup : w3.ownsRow B 102 3 vS n cs := own_move h.st fun g hgx => kept_of hg (h.st.lt g hgx).2 (own_ne h.o3 (own_typ h.st hgx) (by decide))
  refine ⟨hX.set3 _, hQ.other h.ne _, ⟨?_, h.rq.len, fun i hi => own_keepR (hint (h.rq.each i hi) (h.a3 i hi)) hX.typ (by decide), h.rq.ap⟩, ?_, own_keepR htup hX.typ (by decide), fun i hi => ap (h.rq.each i hi) (h.a3 i hi), h.lo, h.ne⟩
  · exact own_keepR (own_move h.rq.own fun g hgx => kept_of hg (h.rq.own.lt g hgx).2 (own_ne h.o3 (own_typ h.rq.own hgx) (by decide))) hX.typ (by decide)
  · refine own_keepR ?_ hX.typ (by decide)
    rw [List.length_append, List.length_singleton, List.map_append]
    exact hown
end

end Go.Proofs.YtcgboccdffgkfaaDoor
