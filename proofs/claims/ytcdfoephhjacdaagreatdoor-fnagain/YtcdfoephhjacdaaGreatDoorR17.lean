import Derived.Deep.RegionHeld3
import Derived.Deep.RegionHeldLaw
import Derived.Test.YtcdfoephhjacdaaGreatDoorR10
import Derived.Test.YtcdfoephhjacdaaGreatDoorR13
/-
  The model's reader of tokens: kind, take, want, name, term.
-/
namespace Go.Proofs.YtcdfoephhjacdaaGreatDoor
open Go.RowKit

def kS (t : TkV) : Nat := if t.k = 97 then 110 else if t.k = 48 then 100 else 115
def symT (c : Nat) : ByteArray := if c = 58 then ⟨#[58, 45]⟩ else ⟨#[UInt8.ofNat c]⟩
def tS (t : TkV) : ByteArray := if t.k = 97 then t.nm else if t.k = 48 then ⟨#[]⟩ else symT t.k
def stk (t : TkV) : List Value := [.int .u8 (kS t), .string (tS t), .int .i64 (t.v : Int), .int .i64 (t.at' : Int)]
/-- the model's tokens in memory -/
def ITk (W : World) (v : Value) (ts : List TkV) : Prop := ∃ a cap, v = .slice a ts.length cap ∧ ∀ j, j < ts.length → ∃ b, a = some ⟨b, 0, none⟩ ∧ W.cell? ⟨b, j * 4, none⟩ = some (.int .u8 (kS (ts.getD j noTk))) ∧ W.cell? ⟨b, j * 4 + 1, none⟩ = some (.string (tS (ts.getD j noTk))) ∧ W.cell? ⟨b, j * 4 + 2, none⟩ = some (.int .i64 ((ts.getD j noTk).v : Int)) ∧ W.cell? ⟨b, j * 4 + 3, none⟩ = some (.int .i64 ((ts.getD j noTk).at' : Int))
section
variable {W W' : World} {g : Nat} {v : Value} {p : Nat} {b : Bool}
end
/-- only block g is another -/
structure Ex (g : Nat) (w w' : World) : Prop where
  os : w'.os = w.os
  tape : w'.tape = w.tape
  output : w'.output = w.output
  size : w.heap.size ≤ w'.heap.size
  block : ∀ b, b < w.heap.size → b ≠ g → w'.heap[b]? = w.heap[b]?
theorem Ex.refl (g : Nat) (w : World) : Ex g w w := ⟨rfl, rfl, rfl, Nat.le_refl _, fun _ _ _ => rfl⟩
theorem Ex.trans {g : Nat} {a b c : World} (h : Ex g a b) (k : Ex g b c) : Ex g a c :=
  ⟨k.os.trans h.os, k.tape.trans h.tape, k.output.trans h.output, Nat.le_trans h.size k.size, fun x hx hg => (k.block x (Nat.lt_of_lt_of_le hx h.size) hg).trans (h.block x hx hg)⟩
theorem Ex.bel {g : Nat} {a b : World} (k : Below a.heap.size a b) : Ex g a b := ⟨k.os, k.tape, k.output, k.size, fun x hx _ => k.block x hx⟩
theorem Ex.set {g o : Nat} {a b : World} {v : Value} (h : Ex g a b) : Ex g a (b.setCell ⟨g, o, none⟩ v) :=
  h.trans ⟨rfl, rfl, rfl, by simp [World.setCell], fun x _ hg => Below.heap_setCell _ _ _ _ hg⟩
theorem Ex.drewN {g : Nat} {a b : World} (h : Ex g a b) (n : Nat) : Ex g a (b.drewN n) := h.trans (Ex.bel (below_drewN (Below.refl _ _) n))
theorem Ex.cell {g b o : Nat} {u : Value} {w w' : World} (h : Ex g w w') (hb : b ≠ g) (hc : w.cell? ⟨b, o, none⟩ = some u) : w'.cell? ⟨b, o, none⟩ = some u :=
  (World.cell?_of_block (w := w) (a := ⟨b, o, none⟩) (h.block b (World.block_lt_of_cell? w _ hc) hb)).trans hc
/-- the tokens lie in another block than the reader -/
def Apt (v : Value) (g : Nat) : Prop := ∀ b o n c, v = .slice (some ⟨b, o, none⟩) n c → b ≠ g
theorem ITk.ex {w w' : World} {v : Value} {ts : List TkV} {g : Nat} (h : ITk w v ts) (hv : Apt v g) (he : Ex g w w') : ITk w' v ts := by
  obtain ⟨a, cap, e, h⟩ := h
  refine ⟨a, cap, e, fun j hj => ?_⟩
  obtain ⟨b, ea, c0, c1, c2, c3⟩ := h j hj
  have hb := hv b 0 _ _ (by rw [e, ea])
  exact ⟨b, ea, he.cell hb c0, he.cell hb c1, he.cell hb c2, he.cell hb c3⟩

/-- the kind of the token at p -/
def kdN (ts : List TkV) (p : Nat) : Nat := if p < ts.length then kS (ts.getD p noTk) else 101

/-- the reader at p: whether the next token is the symbol c -/
def tkB (ts : List TkV) (p : Nat) (b : Bool) (c : Nat) : Bool := !b && decide (p < ts.length ∧ (ts.getD p noTk).k = c)
/-- .. or a name -/
theorem sym_kS {t : TkV} {c : Nat} (ht : TkOk t) (hc : c = 40 ∨ c = 41 ∨ c = 44 ∨ c = 59 ∨ c = 46 ∨ c = 58) (hk : kS t = 115) : ((tS t).toList == (symT c).toList) = decide (t.k = c) := by
  have h97 : t.k ≠ 97 := fun e => by unfold kS at hk; rw [if_pos e] at hk; omega
  have h48 : t.k ≠ 48 := fun e => by unfold kS at hk; rw [if_neg h97, if_pos e] at hk; omega
  unfold tS
  rw [if_neg h97, if_neg h48]
  have hk' := ht.k
  generalize t.k = k at *
  clear ht hk
  rcases hk' with rfl | rfl | rfl | rfl | rfl | rfl | rfl | rfl
  · omega
  · omega
  all_goals (rcases hc with rfl | rfl | rfl | rfl | rfl | rfl <;> (simp only [ByteArray.toList_eq]; decide))
theorem kS_sym {t : TkV} {c : Nat} (h : t.k = c) (hc : c = 40 ∨ c = 41 ∨ c = 44 ∨ c = 59 ∨ c = 46 ∨ c = 58) : kS t = 115 := by
  unfold kS
  rw [if_neg (by omega), if_neg (by omega)]

end Go.Proofs.YtcdfoephhjacdaaGreatDoor

/-
  The model's reader: want, name, term.
-/
namespace Go.Proofs.YtcdfoephhjacdaaGreatDoor
open Go.RowKit

/-- whether the next token is of kind k, and nothing failed yet -/
def ntB (ts : List TkV) (p : Nat) (b : Bool) (k : Nat) : Bool := !b && decide (p < ts.length ∧ (ts.getD p noTk).k = k)
theorem kdN_name {ts : List TkV} {p : Nat} : (kdN ts p = 110) ↔ (p < ts.length ∧ (ts.getD p noTk).k = 97) := by
  unfold kdN
  by_cases h : p < ts.length
  · rw [if_pos h]
    unfold kS
    by_cases h1 : (ts.getD p noTk).k = 97
    · rw [if_pos h1]; exact ⟨fun _ => ⟨h, h1⟩, fun _ => rfl⟩
    · rw [if_neg h1]
      refine ⟨fun e => ?_, fun e => absurd e.2 h1⟩
      split at e <;> omega
  · rw [if_neg h]; exact ⟨fun e => by omega, fun e => absurd e.1 h⟩
theorem kdN_num {ts : List TkV} {p : Nat} : (kdN ts p = 100) ↔ (p < ts.length ∧ (ts.getD p noTk).k = 48) := by
  unfold kdN
  by_cases h : p < ts.length
  · rw [if_pos h]
    unfold kS
    by_cases h1 : (ts.getD p noTk).k = 97
    · rw [if_pos h1]; exact ⟨fun e => by omega, fun e => by omega⟩
    · rw [if_neg h1]
      by_cases h2 : (ts.getD p noTk).k = 48
      · rw [if_pos h2]; exact ⟨fun _ => ⟨h, h2⟩, fun _ => rfl⟩
      · rw [if_neg h2]; exact ⟨fun e => by omega, fun e => absurd e.2 h2⟩
  · rw [if_neg h]; exact ⟨fun e => by omega, fun e => absurd e.1 h⟩

end Go.Proofs.YtcdfoephhjacdaaGreatDoor

/-
  The model's reader: term.
-/
namespace Go.Proofs.YtcdfoephhjacdaaGreatDoor
open Go.RowKit

/-- a term's two cells -/
structure T2 (W : World) (g : Nat) (x y : Value) : Prop where
  blk : W.heap[g]? = some (.cells #[x, y] 89 (0, 0))
theorem T2.c0 {W : World} {g : Nat} {x y : Value} (h : T2 W g x y) : W.cell? ⟨g, 0, none⟩ = some x := cell_of_row _ _ _ _ _ _ h.blk
theorem T2.c1 {W : World} {g : Nat} {x y : Value} (h : T2 W g x y) : W.cell? ⟨g, 1, none⟩ = some y := cell_of_row _ _ _ _ _ _ h.blk
theorem T2.free {W : World} {g : Nat} {x y : Value} (h : T2 W g x y) (q : Nat) : W.frozen? ⟨g, q, none⟩ = false := by
  unfold World.frozen?
  rw [h.blk]
  simp
theorem T2.lt {W : World} {g : Nat} {x y : Value} (h : T2 W g x y) : g < W.heap.size := World.block_lt_of_cell? W _ h.c0
theorem T2.ex {W W' : World} {g r : Nat} {x y : Value} (h : T2 W g x y) (he : Ex r W W') (hr : g ≠ r) : T2 W' g x y := ⟨(he.block g h.lt hr).trans h.blk⟩
theorem T2.made (w : World) (x y : Value) : T2 (w.alloc (.cells #[x, y] 89)) w.heap.size x y := ⟨heap_alloc_new _ _⟩
theorem T2.set0 {W : World} {g : Nat} {x y : Value} (h : T2 W g x y) (u : Value) : T2 (W.setCell ⟨g, 0, none⟩ u) g u y := ⟨by rw [heap_setCell_same _ _ _ _ _ _ h.blk]; rfl⟩
theorem T2.set1 {W : World} {g : Nat} {x y : Value} (h : T2 W g x y) (u : Value) : T2 (W.setCell ⟨g, 1, none⟩ u) g x u := ⟨by rw [heap_setCell_same _ _ _ _ _ _ h.blk]; rfl⟩
/-- a new block that is written to: the old ones stand -/
theorem Ex.new {r g o : Nat} {w W : World} {v : Value} (h : Ex r w W) (hg : w.heap.size ≤ g) : Ex r w (W.setCell ⟨g, o, none⟩ v) :=
  ⟨h.os, h.tape, h.output, by simpa [World.setCell] using h.size, fun b hb hr => (Below.heap_setCell _ _ _ _ (show b ≠ g by omega)).trans (h.block b hb hr)⟩
theorem Ex.allocd {r : Nat} {w W : World} (h : Ex r w W) (ob : Obj) : Ex r w (W.alloc ob) := h.trans (Ex.bel ((Below.refl _ _).alloc (Nat.le_refl _) _))
end Go.Proofs.YtcdfoephhjacdaaGreatDoor
