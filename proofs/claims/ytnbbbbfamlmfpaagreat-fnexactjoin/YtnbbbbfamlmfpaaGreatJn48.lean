import Derived.BigQuiet
import Derived.BigRegion
import Derived.Deep.DeepCutAuto
import Derived.Deep.QuietTactic
import Derived.Test.YtnbbbbfamlmfpaaGreatJn01
/-
  The reader of code that the draws go by: byte, pick, mode: what they answer is in its bounds; nothing but the reader's own block is turned.
-/
namespace Go.Proofs.YtnbbbbfamlmfpaaGreat
open Go.RowKit

/-- a reader in block g, over n bytes -/
structure RdrAt (W : World) (g : Nat) (a : Option Addr) (n cap : Nat) (p sd : Int) : Prop where
  c0 : W.cell? ⟨g, 0, none⟩ = some (.slice a n cap)
  c1 : W.cell? ⟨g, 1, none⟩ = some (.int .i64 p)
  c2 : W.cell? ⟨g, 2, none⟩ = some (.int .i64 sd)
  f1 : W.frozen? ⟨g, 1, none⟩ = false
  f2 : W.frozen? ⟨g, 2, none⟩ = false
  bytes : ∀ j, j < n → ∃ b o x, a = some ⟨b, o, none⟩ ∧ b ≠ g ∧ W.cell? ⟨b, o + j, none⟩ = some (.int .u8 x) ∧ 0 ≤ x ∧ x < 256
  seed : 0 ≤ sd ∧ sd < 2147483648

/-- all blocks but g are as they were -/
structure Kc (g : Nat) (w w' : World) : Prop where
  os : w'.os = w.os
  tape : w'.tape = w.tape
  output : w'.output = w.output
  size : w.heap.size ≤ w'.heap.size
  block : ∀ b, b < w.heap.size → b ≠ g → w'.heap[b]? = w.heap[b]?

theorem Kc.refl (g : Nat) (w : World) : Kc g w w := ⟨rfl, rfl, rfl, Nat.le_refl _, fun _ _ _ => rfl⟩
theorem Kc.trans {g : Nat} {a b c : World} (h : Kc g a b) (k : Kc g b c) : Kc g a c :=
  ⟨k.os.trans h.os, k.tape.trans h.tape, k.output.trans h.output, Nat.le_trans h.size k.size, fun x hx hg => (k.block x (Nat.lt_of_lt_of_le hx h.size) hg).trans (h.block x hx hg)⟩
theorem Kc.set {g : Nat} {w w' : World} (h : Kc g w w') (o : Nat) (v : Value) : Kc g w (w'.setCell ⟨g, o, none⟩ v) :=
  h.trans ⟨rfl, rfl, rfl, by simp [World.setCell], fun b _ hg => Below.heap_setCell _ _ _ _ hg⟩
theorem Kc.drewN {g : Nat} {w w' : World} (h : Kc g w w') (n : Nat) : Kc g w (w'.drewN n) := by
  have := below_drewN (B := w'.heap.size) (Below.refl _ w') n
  exact h.trans ⟨this.os, this.tape, this.output, this.size, fun b hb _ => this.block b hb⟩

theorem RdrAt.set1 {W : World} {g : Nat} {a : Option Addr} {n cap : Nat} {p sd : Int} (h : RdrAt W g a n cap p sd) (q : Int) : RdrAt (W.setCell ⟨g, 1, none⟩ (.int .i64 q)) g a n cap q sd where
  c0 := (World.cell?_setCell_other _ _ _ _ (by simp)).trans h.c0
  c1 := World.cell?_setCell_same _ _ _ h.c1
  c2 := (World.cell?_setCell_other _ _ _ _ (by simp)).trans h.c2
  f1 := by rw [World.frozen?_setCell]; exact h.f1
  f2 := by rw [World.frozen?_setCell]; exact h.f2
  bytes j hj := by
    obtain ⟨b, o, x, e, hne, hc, hx⟩ := h.bytes j hj
    exact ⟨b, o, x, e, hne, (World.cell?_of_block (w := W) (a := ⟨b, o + j, none⟩) (Below.heap_setCell _ _ _ _ hne)).trans hc, hx⟩
  seed := h.seed
theorem RdrAt.drewN {W : World} {g : Nat} {a : Option Addr} {n cap : Nat} {p sd : Int} (h : RdrAt W g a n cap p sd) (k : Nat) : RdrAt (W.drewN k) g a n cap p sd := ⟨h.c0, h.c1, h.c2, h.f1, h.f2, h.bytes, h.seed⟩

/-- a reader somewhere, at most k bytes on -/
def Rdr (W : World) (g : Nat) (a : Option Addr) (n cap k : Nat) : Prop := ∃ (k' : Nat) (sd : Int), k' ≤ k ∧ RdrAt W g a n cap k' sd

theorem Rdr.mono {W : World} {g : Nat} {a : Option Addr} {n cap k l : Nat} (h : Rdr W g a n cap k) (hl : k ≤ l) : Rdr W g a n cap l := by
  obtain ⟨k', sd, h1, h2⟩ := h
  exact ⟨k', sd, Nat.le_trans h1 hl, h2⟩

end Go.Proofs.YtnbbbbfamlmfpaaGreat
