import Derived.Test.YtpdloenmplafiaaV42
/-
  All blocks but one stand; a table in the making without its variables.
-/
namespace Go.Proofs.Ytpdloenmplafiaa
open Go.RowKit

structure Kp (k : Nat) (w w' : World) : Prop where
  os : w'.os = w.os
  tape : w'.tape = w.tape
  output : w'.output = w.output
  size : w.heap.size ≤ w'.heap.size
  block : ∀ b, b < w.heap.size → b ≠ k → w'.heap[b]? = w.heap[b]?

section
variable {k : Nat} {w a b w3 W : World} {v : Value} {o : Obj}
theorem Kp.refl (k : Nat) (w : World) : Kp k w w := ⟨rfl, rfl, rfl, Nat.le_refl _, fun _ _ _ => rfl⟩
theorem Kp.step (h : Kp k w a) (g : Below a.heap.size a b) : Kp k w b := ⟨g.os.trans h.os, g.tape.trans h.tape, g.output.trans h.output, Nat.le_trans h.size g.size, fun i hi hne => (g.block i (Nat.lt_of_lt_of_le hi h.size)).trans (h.block i hi hne)⟩
theorem Kp.push (h : Kp k w a) (hg : (a.alloc o).grownBy w3 v.ownBlock) (hv : ∀ g, v.ownBlock = some g → w.heap.size ≤ g) (off : Nat) (y : Value) : Kp k w (w3.setCell ⟨k, off, none⟩ y) := by
  have hs := hg.size
  have hs0 := h.size
  rw [World.size_alloc] at hs
  refine ⟨hg.os.trans h.os, hg.tape.trans h.tape, hg.output.trans h.output, ?_, fun i hi hne => ?_⟩
  · have : (w3.setCell ⟨k, off, none⟩ y).heap.size = w3.heap.size := by simp [World.setCell]
    omega
  · rw [Below.heap_setCell _ _ _ _ hne, kept_of hg (by omega) (fun e => by have := hv i e.symm; omega)]
    exact h.block i hi hne
theorem Kp.below {N : Nat} (h : Kp k w W) (hN : N ≤ w.heap.size) (hk : N ≤ k) : Below N w W := ⟨h.os, h.tape, h.output, h.size, fun i hi => h.block i (by omega) (by omega)⟩
theorem Kp.cell (h : Kp k w W) {p : Addr} (hp : p.block < w.heap.size) (hk : p.block ≠ k) : W.cell? p = w.cell? p := World.cell?_of_block (w := w) (h.block p.block hp hk)
theorem TX.kp {q : Nat} {v0 v1 v2 : Value} (h : TX w q v0 v1 v2) (hK : Kp k w W) (hne : q ≠ k) : TX W q v0 v1 v2 := ⟨(hK.block q h.lt hne).trans h.blk⟩

theorem int_ne {p n c b o : Nat} {ad : Option Addr} {x : Int} (hX : TX w p (.slice ad n c) (.slice none 0 0) (.slice none 0 0)) (hc : w.cell? ⟨b, o, none⟩ = some (.int .i64 x)) : b ≠ p := fun e => by
  subst e
  rw [cell_of_row _ _ _ _ _ _ hX.blk] at hc
  match o, hc with
  | 0, hc => simp at hc
  | 1, hc => simp at hc
  | 2, hc => simp at hc
  | o + 3, hc => simp at hc
theorem IS.kp {p n c : Nat} {ad : Option Addr} {l : List Int} (h : IS w v l) (hX : TX w p (.slice ad n c) (.slice none 0 0) (.slice none 0 0)) (hK : Kp p w W) : IS W v l := by
  obtain ⟨a', c', e, h1⟩ := h
  refine ⟨a', c', e, ?_⟩
  rcases h1 with h1 | ⟨b, o, rfl, h1⟩
  · exact Or.inl h1
  · exact Or.inr ⟨b, o, rfl, fun j hj => (hK.cell (p := ⟨b, o + j, none⟩) (World.block_lt_of_cell? w _ (h1 j hj)) (int_ne hX (h1 j hj))).trans (h1 j hj)⟩
theorem ISSc.kp {p n c : Nat} {ad : Option Addr} {ls : List (List Int)} (h : ISSc w v ls) (hX : TX w p (.slice ad n c) (.slice none 0 0) (.slice none 0 0)) (hK : Kp p w W) (hne : v.ownBlock ≠ some p) : ISSc W v ls := by
  obtain ⟨a', c', e, h1⟩ := h
  subst e
  refine ⟨a', c', rfl, ?_⟩
  rcases h1 with h1 | ⟨b, o, rfl, h1⟩
  · exact Or.inl h1
  · refine Or.inr ⟨b, o, rfl, fun j hj => ?_⟩
    obtain ⟨u, h2, h3⟩ := h1 j hj
    exact ⟨u, (hK.cell (p := ⟨b, o + j, none⟩) (World.block_lt_of_cell? w _ h2) (fun e => hne (by show some b = some p; exact congrArg some e))).trans h2, h3.1.kp hX hK, h3.2⟩
end

/-- the lists of a table in the making, but its variables -/
structure KY (W : World) (B p : Nat) (v0 v1 v2 : Value) (us : List Value) (rows : List (List Int)) (ws : List Int) : Prop where
  tx : TX W p v0 v1 v2
  tq : TQ W B (.slice none 0 0) v1 v2 us [] rows ws
section
variable {W W' w3 : World} {B p : Nat} {v0 v1 v2 v' u : Value} {us : List Value} {ws l : List Int} {rows : List (List Int)} {o : Obj} {x : Int}
theorem KY.below (h : KY W B p v0 v1 v2 us rows ws) (hb : Below W.heap.size W W') : KY W' B p v0 v1 v2 us rows ws := ⟨h.tx.below hb, h.tq.below hb⟩
theorem KY.pushR (h : KY W B p v0 v1 v2 us rows ws) (hu : W.ownsRow B 3 1 u l.length (l.map (Value.int .i64))) (hr : ∀ i, i < rows.length → ∀ g, (us.getD i undef).ownBlock = some g → u.ownBlock ≠ some g) (h2 : Ap' u v2)
    (hown : w3.ownsRow B 22 1 v' (rows.length + 1) (us ++ [u])) (hg : (W.alloc o).grownBy w3 v1.ownBlock) : KY (w3.setCell ⟨p, 1, none⟩ v') B p v0 v' v2 (us ++ [u]) (rows ++ [l]) ws := by
  have hX : TX w3 p v0 v1 v2 := h.tx.grown h.tq.rq.own (by decide) hg
  have hint : ∀ {y : Value} {k : Nat} {xs : List Value}, W.ownsRow B 3 1 y k xs → w3.ownsRow B 3 1 y k xs := fun hx =>
    own_move hx fun g hgx => kept_of hg (hx.lt g hgx).2 (own_ne h.tq.rq.own (own_typ hx hgx) (by decide))
  have hl := h.tq.rq.len
  have e1 : ∀ i, i < rows.length → (us ++ [u]).getD i undef = us.getD i undef := fun i hi => by rw [List.getD_eq_getElem?_getD, List.getElem?_append_left (by omega), ← List.getD_eq_getElem?_getD]
  have e2 : (us ++ [u]).getD rows.length undef = u := by rw [List.getD_eq_getElem?_getD, List.getElem?_append_right (by omega), show rows.length - us.length = 0 by omega]; rfl
  refine ⟨hX.set1 _, ⟨World.ownsRow_nil _ _ _ _, (h.tq.rq.step hu hr hown hg).set hX.typ, own_keep3 (hint h.tq.o2) hX.typ (by decide), h.tq.a02, fun i hi g _ hg2 => by simp [Value.ownBlock] at hg2, fun i hi => ?_⟩⟩
  rw [List.length_append, List.length_singleton] at hi
  by_cases e : i < rows.length
  · rw [e1 i e]; exact h.tq.a2 i e
  · obtain rfl : i = rows.length := by omega
    rw [e2]; exact h2
theorem KY.pushW (h : KY W B p v0 v1 v2 us rows ws) (hown : w3.ownsRow B 3 1 v' (ws.length + 1) (ws.map (Value.int .i64) ++ [.int .i64 x])) (hg : (W.alloc o).grownBy w3 v2.ownBlock) (hat : ∀ g, v'.ownBlock = some g → v2.ownBlock = some g ∨ W.heap.size ≤ g) :
    KY (w3.setCell ⟨p, 2, none⟩ v') B p v0 v1 v' us rows (ws ++ [x]) := by
  have hX : TX w3 p v0 v1 v2 := h.tx.grown h.tq.o2 (by decide) hg
  have ap : ∀ {y : Value} {k : Nat} {xs : List Value}, W.ownsRow B 3 1 y k xs → Ap' y v2 → Ap' y v' := fun hx ha g h1 h2 => by
    rcases hat g h2 with h3 | h3
    · exact ha g h1 h3
    · have := (hx.lt g h1).2; omega
  have hint : ∀ {y : Value} {k : Nat} {xs : List Value}, W.ownsRow B 3 1 y k xs → Ap' y v2 → w3.ownsRow B 3 1 y k xs := fun hx ha =>
    own_move hx fun g hgx => kept_of hg (hx.lt g hgx).2 (fun e => ha g hgx e.symm)
  refine ⟨hX.set2 _, ⟨World.ownsRow_nil _ _ _ _, ⟨?_, h.tq.rq.len, fun i hi => own_keep3 (hint (h.tq.rq.each i hi) (h.tq.a2 i hi)) hX.typ (by decide), h.tq.rq.ap⟩, ?_, fun g h1 => by simp [Value.ownBlock] at h1, h.tq.a0, fun i hi => ap (h.tq.rq.each i hi) (h.tq.a2 i hi)⟩⟩
  · refine own_keep3 (own_move h.tq.rq.own fun g hgx => kept_of hg (h.tq.rq.own.lt g hgx).2 (own_ne h.tq.o2 (own_typ h.tq.rq.own hgx) (by decide))) hX.typ (by decide)
  · refine own_keep3 ?_ hX.typ (by decide)
    rw [List.length_append, List.length_singleton, List.map_append]
    exact hown
end

end Go.Proofs.Ytpdloenmplafiaa
