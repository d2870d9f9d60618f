import Derived.Test.YtegcpplkcahkhaaGreatBd13
/-
  laws.FnExactDataOK, walked.
-/
namespace Go.Proofs.YtegcpplkcahkhaaGreat
open Go.RowKit

/-- a box of one cell at block s -/
structure B1 (s : Nat) (v0 : Value) (W : World) : Prop where
  c0 : W.cell? ⟨s, 0, none⟩ = some v0
  lt : s < W.heap.size

theorem B1.step {s : Nat} {v0 : Value} {W W' : World} (h : B1 s v0 W) (hb : Below W.heap.size W W') : B1 s v0 W' :=
  ⟨(hb.cell (p := ⟨s, 0, none⟩) h.lt).trans h.c0, Nat.lt_of_lt_of_le h.lt hb.size⟩
theorem B1.start (w : World) (v0 : Value) (t : TypeId) : B1 w.heap.size v0 (w.alloc (.cells #[v0] t)) := ⟨by simp [go_sem], by simp⟩
theorem B1.alloc {s : Nat} {v0 : Value} {W : World} (h : B1 s v0 W) (o : Obj) : B1 s v0 (W.alloc o) := h.step ((Below.refl _ _).alloc (Nat.le_refl _) _)

theorem two1_of {w5 W : World} {s X : Nat} {v0 x0 : Value} (h : B1 s v0 w5) (k : B1 X x0 w5) (hb : Below w5.heap.size w5 W) :
    W.cell? ⟨s, 0, none⟩ = some v0 ∧ W.cell? ⟨X, 0, none⟩ = some x0 ∧ Below w5.heap.size w5 W := ⟨(h.step hb).c0, (k.step hb).c0, hb⟩

end Go.Proofs.YtegcpplkcahkhaaGreat
