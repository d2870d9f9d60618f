import Derived.Laws.BytesArg
import Derived.Test.YtcdfoephhjacdaaGreatDoorR07
import Derived.Test.YtcdfoephhjacdaaGreatDoorR20
/-
  laws.markText: a text that hangs on the number alone.
-/
namespace Go.Proofs.YtcdfoephhjacdaaGreatDoor
open Go.RowKit

def mtxN : Nat → Nat → ByteArray → ByteArray
  | 0, _, s => s
  | n + 1, j, s => if j = 0 then s else mtxN n (j / 10) (strOfNums [48 + (j : Int) % 10] ++ s)
theorem mtxN_eq : ∀ (n m j : Nat) (s : ByteArray), j ≤ n → j ≤ m → mtxN n j s = mtxN m j s
  | 0, 0, _, _, _, _ => rfl
  | 0, m + 1, j, s, h, _ => (if_pos (show j = 0 by omega)).symm
  | n + 1, 0, j, s, _, h => if_pos (show j = 0 by omega)
  | n + 1, m + 1, j, s, hn, hm => by
    unfold mtxN
    by_cases h : j = 0
    · rw [if_pos h, if_pos h]
    · rw [if_neg h, if_neg h, mtxN_eq n m (j / 10) _ (by omega) (by omega)]
def mtx (j : Nat) (s : ByteArray) : ByteArray := mtxN j j s
theorem mtx_zero (s : ByteArray) : mtx 0 s = s := rfl
theorem mtx_more {j : Nat} (s : ByteArray) (h : ¬ j = 0) : mtx j s = mtx (j / 10) (strOfNums [48 + (j : Int) % 10] ++ s) := by
  unfold mtx
  rw [mtxN_eq j (j + 1) j s (by omega) (by omega)]
  refine (if_neg h).trans ?_
  exact mtxN_eq _ _ _ _ (by omega) (Nat.le_refl _)

/-- the mark k -/
def mkT (k : Nat) : ByteArray := ⟨#[109]⟩ ++ mtx k ⟨#[]⟩

end Go.Proofs.YtcdfoephhjacdaaGreatDoor

/-
  laws.markStringS, heldStringS, markTermS.
-/
namespace Go.Proofs.YtcdfoephhjacdaaGreatDoor
open Go.RowKit

/-- all blocks but g are as they were; of g all cells are there still, none frozen -/
structure Kg (g : Nat) (w w' : World) : Prop where
  os : w'.os = w.os
  tape : w'.tape = w.tape
  output : w'.output = w.output
  size : w.heap.size ≤ w'.heap.size
  block : ∀ b, b < w.heap.size → b ≠ g → w'.heap[b]? = w.heap[b]?
  any : ∀ q, (∃ u, w.cell? ⟨g, q, none⟩ = some u) → ∃ u, w'.cell? ⟨g, q, none⟩ = some u
  froz : ∀ q, g < w.heap.size → w.frozen? ⟨g, q, none⟩ = false → w'.frozen? ⟨g, q, none⟩ = false

theorem Kg.refl (g : Nat) (w : World) : Kg g w w := ⟨rfl, rfl, rfl, Nat.le_refl _, fun _ _ _ => rfl, fun _ h => h, fun _ _ h => h⟩
theorem Kg.trans {g : Nat} {a b c : World} (h : Kg g a b) (k : Kg g b c) : Kg g a c :=
  ⟨k.os.trans h.os, k.tape.trans h.tape, k.output.trans h.output, Nat.le_trans h.size k.size, fun x hx hg => (k.block x (Nat.lt_of_lt_of_le hx h.size) hg).trans (h.block x hx hg), fun q hq => k.any q (h.any q hq), fun q hg hq => k.froz q (Nat.lt_of_lt_of_le hg h.size) (h.froz q hg hq)⟩
theorem Kg.below {g : Nat} {a b c : World} (h : Kg g a b) (k : Below b.heap.size b c) : Kg g a c :=
  h.trans ⟨k.os, k.tape, k.output, k.size, fun x hx _ => k.block x hx, fun q ⟨u, hu⟩ => ⟨u, (k.cell (p := ⟨g, q, none⟩) (World.block_lt_of_cell? b _ hu)).trans hu⟩, fun q hg hq => (k.frozen (p := ⟨g, q, none⟩) hg).trans hq⟩
theorem Kg.set {g : Nat} {a b : World} (h : Kg g a b) (o : Nat) (v : Value) : Kg g a (b.setCell ⟨g, o, none⟩ v) :=
  h.trans ⟨rfl, rfl, rfl, by simp [World.setCell], fun x _ hg => heap_set_ne hg, fun q hq => cell_any hq, fun q _ hq => by rw [World.frozen?_setCell]; exact hq⟩

end Go.Proofs.YtcdfoephhjacdaaGreatDoor

/-
  A query made by appends is marked, and the marks are found again: its terms.
-/
namespace Go.Proofs.YtcdfoephhjacdaaGreatDoor
open Go.RowKit

/-- the m terms of a slice are marked from k on -/
def TmM (W : World) (v : Value) (m k : Nat) : Prop := ∀ j, j < m → ∃ g, v.ownBlock = some g ∧ W.cell? ⟨g, j * 2, none⟩ = some (.string (mkT (k + 2 * j))) ∧ W.cell? ⟨g, j * 2 + 1, none⟩ = some (.int .i64 ((k + 2 * j + 1 : Nat) : Int))
theorem TmM.below {W W' : World} {v : Value} {m k : Nat} (h : TmM W v m k) (hb : Below W.heap.size W W') : TmM W' v m k := fun j hj => by
  obtain ⟨g, e, h1, h2⟩ := h j hj
  exact ⟨g, e, (hb.cell (p := ⟨g, j * 2, none⟩) (World.block_lt_of_cell? W _ h1)).trans h1, (hb.cell (p := ⟨g, j * 2 + 1, none⟩) (World.block_lt_of_cell? W _ h2)).trans h2⟩
theorem TmM.kept {W W' : World} {v : Value} {m k : Nat} (h : TmM W v m k) (hb : ∀ g, v.ownBlock = some g → W'.heap[g]? = W.heap[g]?) : TmM W' v m k := fun j hj => by
  obtain ⟨g, e, h1, h2⟩ := h j hj
  exact ⟨g, e, (World.cell?_of_block (w := W) (a := ⟨g, j * 2, none⟩) (hb g e)).trans h1, (World.cell?_of_block (w := W) (a := ⟨g, j * 2 + 1, none⟩) (hb g e)).trans h2⟩

/-- only the slice's own block is another -/
def Gb (v : Value) (w w' : World) : Prop := w.grownBy w' v.ownBlock
theorem own_any {W : World} {B e s n : Nat} {v : Value} {xs : List Value} (h : W.ownsRow B e s v n xs) : (v = .slice none 0 0 ∧ n = 0) ∨ ∃ g cap, v = .slice (some ⟨g, 0, none⟩) n cap ∧ g < W.heap.size ∧ (∀ j, j < n * s → ∃ u, W.cell? ⟨g, j, none⟩ = some u) ∧ (∀ j, j < n * s → W.frozen? ⟨g, j, none⟩ = false) := by
  have h' := h
  rcases h'.2 with ⟨e1, e2⟩ | ⟨g, cap, cur, e1, -, hc, -⟩
  · exact Or.inl ⟨e1, e2⟩
  · subst e1
    refine Or.inr ⟨g, cap, rfl, (h.lt g rfl).2, fun j hj => ⟨xs[j]'(by rw [h.1]; exact hj), ?_⟩, fun j _ => h.frozenAt j⟩
    rw [h.cellAt j hj]
    exact List.getElem?_eq_getElem _
theorem Kg.gb {g n cap : Nat} {w w' : World} (h : Kg g w w') : Gb (.slice (some ⟨g, 0, none⟩) n cap) w w' := ⟨h.os, h.tape, h.output, h.size, fun b hb hne => h.block b hb (fun e => hne (by rw [e]; rfl))⟩
theorem Gb.refl (v : Value) (w : World) : Gb v w w := ⟨rfl, rfl, rfl, Nat.le_refl _, fun _ _ _ => rfl⟩
end Go.Proofs.YtcdfoephhjacdaaGreatDoor

/-
  A query made by appends is marked, and the marks are found again: its atoms.
-/
namespace Go.Proofs.YtcdfoephhjacdaaGreatDoor
open Go.RowKit

def noU : UV := (⟨#[]⟩, .slice none 0 0, [])
/-- the mark of the j-th atom -/
def kAq (us : List UV) (k : Nat) : Nat → Nat
  | 0 => k
  | j + 1 => kAq us k j + 1 + 2 * (us.getD j noU).2.2.length
theorem kA_ge (us : List UV) (k : Nat) : ∀ j, k ≤ kAq us k j
  | 0 => Nat.le_refl _
  | j + 1 => by have := kA_ge us k j; show k ≤ kAq us k j + 1 + _; omega
/-- what stands before anything is marked -/
structure AtB (w : World) (B g : Nat) (us : List UV) : Prop where
  blk : ∃ cur, w.heap[g]? = some (.cells cur 55 (0, 0))
  tms : ∀ j, j < us.length → w.ownsRow B 89 2 (us.getD j noU).2.1 (us.getD j noU).2.2.length ((us.getD j noU).2.2.flatMap tmc)
  ap : ∀ i j, i < j → j < us.length → Apr (us.getD i noU).2.1 (us.getD j noU).2.1
/-- the first i atoms are marked -/
structure MkA (w wr : World) (g : Nat) (us : List UV) (k i : Nat) : Prop where
  os : wr.os = w.os
  tape : wr.tape = w.tape
  output : wr.output = w.output
  size : w.heap.size ≤ wr.heap.size
  glt : g < w.heap.size
  block : ∀ b, b < w.heap.size → b ≠ g → (∀ j, j < i → some b ≠ (us.getD j noU).2.1.ownBlock) → wr.heap[b]? = w.heap[b]?
  sl : ∀ j, j < us.length → wr.cell? ⟨g, j * 2 + 1, none⟩ = some (us.getD j noU).2.1
  any : ∀ j, j < us.length → ∃ u, wr.cell? ⟨g, j * 2, none⟩ = some u
  fz : ∀ q, wr.frozen? ⟨g, q, none⟩ = false
  rel : ∀ j, j < i → wr.cell? ⟨g, j * 2, none⟩ = some (.string (mkT (kAq us k j)))
  tm : ∀ j, j < i → TmM wr (us.getD j noU).2.1 (us.getD j noU).2.2.length (kAq us k j + 1)
section
variable {w wr w2 w4 : World} {B g k i : Nat} {us : List UV}
theorem AtB.gne (h : AtB w B g us) {j q : Nat} (hj : j < us.length) (hq : (us.getD j noU).2.1.ownBlock = some q) : q ≠ g := fun e => own_ne (h.tms j hj) h.blk (by decide) (by rw [← e]; exact hq.symm)
theorem AtB.lt (h : AtB w B g us) {j q : Nat} (hj : j < us.length) (hq : (us.getD j noU).2.1.ownBlock = some q) : q < w.heap.size := ((h.tms j hj).lt q hq).2
theorem MkA.below (h : MkA w wr g us k i) (hb : Below wr.heap.size wr w2) : MkA w w2 g us k i := by
  have bc : ∀ {q v}, wr.cell? ⟨g, q, none⟩ = some v → w2.cell? ⟨g, q, none⟩ = some v := fun {q v} e => (hb.cell (p := ⟨g, q, none⟩) (World.block_lt_of_cell? wr _ e)).trans e
  refine ⟨hb.os.trans h.os, hb.tape.trans h.tape, hb.output.trans h.output, Nat.le_trans h.size hb.size, h.glt, fun b hb1 hb2 hb3 => (hb.block b (by have := h.size; omega)).trans (h.block b hb1 hb2 hb3), fun j hj => bc (h.sl j hj), fun j hj => ?_, fun q => ?_, fun j hj => bc (h.rel j hj), fun j hj => (h.tm j hj).below hb⟩
  · obtain ⟨u, e⟩ := h.any j hj
    exact ⟨u, bc e⟩
  · exact (hb.frozen (p := ⟨g, q, none⟩) (by have := h.glt; have := h.size; show g < _; omega)).trans (h.fz q)
/-- an atom's row as it was -/
theorem MkA.own (h : MkA w wr g us k i) (hA : AtB w B g us) (hi : i < us.length) : wr.ownsRow B 89 2 (us.getD i noU).2.1 (us.getD i noU).2.2.length ((us.getD i noU).2.2.flatMap tmc) :=
  own_move (hA.tms i hi) fun q hq => h.block q (hA.lt hi hq) (hA.gne hi hq) (fun j hj e => hA.ap j i hj hi q e.symm hq)
theorem MkA.step (h : MkA w wr g us k i) (hA : AtB w B g us) (hi : i < us.length) (hg : Gb (us.getD i noU).2.1 (wr.setCell ⟨g, i * 2, none⟩ (.string (mkT (kAq us k i)))) w4) (ht : TmM w4 (us.getD i noU).2.1 (us.getD i noU).2.2.length (kAq us k i + 1)) : MkA w w4 g us k (i + 1) := by
  have hsz : (wr.setCell ⟨g, i * 2, none⟩ (.string (mkT (kAq us k i)))).heap.size = wr.heap.size := by simp [World.setCell]
  have hne : ∀ q, (us.getD i noU).2.1.ownBlock = some q → q ≠ g := fun q hq => hA.gne hi hq
  have hgk : w4.heap[g]? = (wr.setCell ⟨g, i * 2, none⟩ (.string (mkT (kAq us k i)))).heap[g]? := hg.block g (by rw [hsz]; have := h.glt; have := h.size; omega) (fun e => hne g e.symm rfl)
  have gc : ∀ q, w4.cell? ⟨g, q, none⟩ = (wr.setCell ⟨g, i * 2, none⟩ (.string (mkT (kAq us k i)))).cell? ⟨g, q, none⟩ := fun q => World.cell?_of_block (w := wr.setCell ⟨g, i * 2, none⟩ (.string (mkT (kAq us k i)))) (a := ⟨g, q, none⟩) hgk
  have go : ∀ q, q ≠ i * 2 → (wr.setCell ⟨g, i * 2, none⟩ (.string (mkT (kAq us k i)))).cell? ⟨g, q, none⟩ = wr.cell? ⟨g, q, none⟩ := fun q hq => World.cell?_setCell_other _ _ _ _ (by intro e; simp only [Addr.mk.injEq] at e; omega)
  obtain ⟨u0, hu0⟩ := h.any i hi
  have gs : (wr.setCell ⟨g, i * 2, none⟩ (.string (mkT (kAq us k i)))).cell? ⟨g, i * 2, none⟩ = some (.string (mkT (kAq us k i))) := World.cell?_setCell_same _ _ _ hu0
  refine ⟨hg.os.trans h.os, hg.tape.trans h.tape, hg.output.trans h.output, ?_, h.glt, fun b h1 h2 h3 => ?_, fun j hj => ?_, fun j hj => ?_, fun q => ?_, fun j hj => ?_, fun j hj => ?_⟩
  · have := hg.size
    rw [hsz] at this
    have := h.size
    omega
  · rw [hg.block b (by rw [hsz]; have := h.size; omega) (h3 i (by omega)), Below.heap_setCell _ _ _ _ h2]
    exact h.block b h1 h2 (fun j hj => h3 j (by omega))
  · rw [gc, go _ (by omega)]; exact h.sl j hj
  · by_cases e : j = i
    · subst e; exact ⟨_, by rw [gc]; exact gs⟩
    · obtain ⟨u, hu⟩ := h.any j hj
      exact ⟨u, by rw [gc, go _ (by omega)]; exact hu⟩
  · rw [World.frozen?_of_block (w := wr.setCell ⟨g, i * 2, none⟩ (.string (mkT (kAq us k i)))) (a := ⟨g, q, none⟩) hgk, World.frozen?_setCell]
    exact h.fz q
  · by_cases e : j = i
    · subst e; rw [gc]; exact gs
    · rw [gc, go _ (by omega)]; exact h.rel j (by omega)
  · by_cases e : j = i
    · subst e; exact ht
    · refine (h.tm j (by omega)).kept fun q hq => ?_
      have hjl : j < us.length := by omega
      rw [hg.block q (by rw [hsz]; have := hA.lt hjl hq; have := h.size; omega) (fun e2 => hA.ap j i (by omega) hi q hq e2.symm), Below.heap_setCell _ _ _ _ (hA.gne hjl hq)]
end

end Go.Proofs.YtcdfoephhjacdaaGreatDoor
