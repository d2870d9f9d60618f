import Derived.Deep.Cut
import Derived.Deep.RegionLaw
import Derived.Test.YtnmcgbfhgmmcpaaW13
namespace Go.Proofs.Ytnmcgbfhgmmcpaa
open Go.RowKit

theorem start_A {w W w' : World} {F : Nat → Value} {t : TypeId} (m n : Nat) (hB1 : Below w.heap.size w W) (hT1 : W.there (w.heap.size + 1) 0 350) (h3 : ArrAt W w.heap.size 3 F) (hz1 : w.heap.size + 1 < W.heap.size) (hb : Below W.heap.size W w') :
    w.heap.size + 1 < w'.heap.size ∧ Below w.heap.size w ((w'.alloc (.cells Try.zeroCells120 t)).setCells w'.heap.size 0 (bList m n)) ∧ ((w'.alloc (.cells Try.zeroCells120 t)).setCells w'.heap.size 0 (bList m n)).there (w.heap.size + 1) 0 350 ∧ ArrAt ((w'.alloc (.cells Try.zeroCells120 t)).setCells w'.heap.size 0 (bList m n)) w.heap.size 3 F ∧
    (∀ o, o < 350 → ((w'.alloc (.cells Try.zeroCells120 t)).setCells w'.heap.size 0 (bList m n)).cell? ⟨w'.heap.size, o, none⟩ = some (if o = 0 then .int .i64 m else if o = 1 then .int .i64 n else if o < 330 then .int .i64 0 else .bool false)) ∧ ∀ o, o < 350 → ((w'.alloc (.cells Try.zeroCells120 t)).setCells w'.heap.size 0 (bList m n)).frozen? ⟨w'.heap.size, o, none⟩ = false := by
  have hs := hb.size
  have hal : Below w'.heap.size w' (w'.alloc (.cells Try.zeroCells120 t)) := (Below.refl _ _).alloc (Nat.le_refl _) _
  have hsx := sx_bList (W := w'.alloc (.cells Try.zeroCells120 t)) (g := w'.heap.size) m n (there_zc w' t)
  refine ⟨by omega, ?_, ?_, ?_, hsx.1, hsx.2⟩
  · exact below_setCells' (by have := hB1.size; omega) _ _ _ (bt (bt hB1 hb) hal)
  · exact World.there_setCells (there_below (there_below hT1 hb) hal) _ _ _
  · exact ((h3.below (by omega) hb).alloc (by omega) _).move (setCells_heap _ _ _ _ _ (by omega))

theorem start_B {w W w' : World} {F : Nat → Value} {t : TypeId} (m n : Nat) (hB1 : Below w.heap.size w W) (hT1 : W.there (w.heap.size + 1) 0 350) (h3 : ArrAt W w.heap.size 3 F) (hz1 : w.heap.size + 1 < W.heap.size) (hb : Below (W.alloc (.cells Try.zeroCells120 t)).heap.size (W.alloc (.cells Try.zeroCells120 t)) w') :
    w.heap.size + 1 < W.heap.size ∧ Below w.heap.size w (w'.setCells W.heap.size 0 (bList m n)) ∧ (w'.setCells W.heap.size 0 (bList m n)).there (w.heap.size + 1) 0 350 ∧ ArrAt (w'.setCells W.heap.size 0 (bList m n)) w.heap.size 3 F ∧
    (∀ o, o < 350 → (w'.setCells W.heap.size 0 (bList m n)).cell? ⟨W.heap.size, o, none⟩ = some (if o = 0 then .int .i64 m else if o = 1 then .int .i64 n else if o < 330 then .int .i64 0 else .bool false)) ∧ ∀ o, o < 350 → (w'.setCells W.heap.size 0 (bList m n)).frozen? ⟨W.heap.size, o, none⟩ = false := by
  have hal : Below W.heap.size W (W.alloc (.cells Try.zeroCells120 t)) := (Below.refl _ _).alloc (Nat.le_refl _) _
  have hsx := sx_bList (W := w') (g := W.heap.size) m n (there_below (there_zc W t) hb)
  refine ⟨hz1, ?_, ?_, ?_, hsx.1, hsx.2⟩
  · exact below_setCells' (by have := hB1.size; omega) _ _ _ (bt (bt hB1 hal) hb)
  · exact World.there_setCells (there_below (there_below hT1 hal) hb) _ _ _
  · exact ((h3.alloc (by omega) _).below (by omega) hb).move (setCells_heap _ _ _ _ _ (by omega))


/-- the table while it is laid -/
structure STt (w W : World) (g : Nat) (F : Nat → Value) (m n : Nat) (C : Nat → Nat → Rat) (B : Nat → Nat) : Prop where
  bel : Below w.heap.size w W
  oth : W.there (w.heap.size + 1) 0 350
  arg : ArrAt W w.heap.size 3 F
  sx : SxAt W g m n C B (fun _ => false)
  gt : w.heap.size + 1 < g

theorem STt.below {w W W' : World} {g m n : Nat} {F : Nat → Value} {C : Nat → Nat → Rat} {B : Nat → Nat} (h : STt w W g F m n C B) (hb : Below W.heap.size W W') : STt w W' g F m n C B :=
  ⟨bt h.bel hb, there_below h.oth hb, h.arg.below (by omega) hb, h.sx.below hb, h.gt⟩

theorem STt.put {w W : World} {g m n : Nat} {F : Nat → Value} {C : Nat → Nat → Rat} {B : Nat → Nat} (h : STt w W g F m n C B) {i j : Nat} (hi : i ≤ m) (hj : j ≤ n) (q : Rat) :
    STt w ((W.setCell ⟨g, 2 + i * 40 + j * 2, none⟩ (.int .i64 q.num)).setCell ⟨g, 2 + i * 40 + j * 2 + 1, none⟩ (.int .i64 q.den)) g F m n (fun a b => if a = i ∧ b = j then q else C a b) B :=
  have hg := h.gt
  ⟨(h.bel.setCell (by show w.heap.size ≤ g; omega) _).setCell (by show w.heap.size ≤ g; omega) _, there_set (there_set h.oth _ _ _) _ _ _, (h.arg.move (Below.heap_setCell _ _ _ _ (by show w.heap.size ≠ g; omega))).move (Below.heap_setCell _ _ _ _ (by show w.heap.size ≠ g; omega)), h.sx.setNum hi hj q, hg⟩

theorem STt.bas {w W : World} {g m n : Nat} {F : Nat → Value} {C : Nat → Nat → Rat} {B : Nat → Nat} (h : STt w W g F m n C B) {i : Nat} (hi : i < m) (b : Nat) :
    STt w (W.setCell ⟨g, 322 + i, none⟩ (.int .i64 (b : Nat))) g F m n C (fun a => if a = i then b else B a) :=
  have hg := h.gt
  ⟨h.bel.setCell (by show w.heap.size ≤ g; omega) _, there_set h.oth _ _ _, h.arg.move (Below.heap_setCell _ _ _ _ (by show w.heap.size ≠ g; omega)), h.sx.setBas hi b, hg⟩

theorem STt.congr {w W : World} {g m n : Nat} {F : Nat → Value} {C C' : Nat → Nat → Rat} {B B' : Nat → Nat} (h : STt w W g F m n C B) (hC : ∀ i j, i ≤ m → j ≤ n → C' i j = C i j) (hB : ∀ i, i < m → B' i = B i) : STt w W g F m n C' B' :=
  ⟨h.bel, h.oth, h.arg, h.sx.congr hC hB (fun _ _ => rfl), h.gt⟩

/-- what a store of a number reads of the table -/
theorem STt.cells {w W : World} {g m n : Nat} {F : Nat → Value} {C : Nat → Nat → Rat} {B : Nat → Nat} (h : STt w W g F m n C B) {i j : Nat} (hi : i ≤ m) (hj : j ≤ n) :
    W.cell? ⟨g, 2 + i * 40 + j * 2, none⟩ = some (.int .i64 (C i j).num) ∧ W.cell? ⟨g, 2 + i * 40 + j * 2 + 1, none⟩ = some (.int .i64 (C i j).den) ∧ W.frozen? ⟨g, 2 + i * 40 + j * 2, none⟩ = false ∧ W.frozen? ⟨g, 2 + i * 40 + j * 2 + 1, none⟩ = false := by
  have h1 := h.sx.lay.mle
  have h2 := h.sx.lay.nle
  exact ⟨h.sx.lay.num i j hi hj, h.sx.lay.den i j hi hj, h.sx.free _ (by omega), h.sx.free _ (by omega)⟩

theorem basis_step {n m i z : Nat} (hz : z = n - m + i) (a : Nat) : (if a < i + 1 then n - m + a else 0) = if a = i then z else if a < i then n - m + a else 0 := by
  by_cases e : a = i
  · rw [if_pos (by omega), if_pos e]; omega
  · rw [if_neg e]
    by_cases e2 : a < i
    · rw [if_pos (by omega), if_pos e2]
    · rw [if_neg (by omega), if_neg e2]

theorem wrap_small (n : Nat) (h : n < 9223372036854775808) : IntKind.i64.wrap (n : Int) = (n : Int) := by
  simp [IntKind.wrap, IntKind.bits, IntKind.signed]
  omega

end Go.Proofs.Ytnmcgbfhgmmcpaa
