import Derived.Test.YtnmcgbfhgmmcpaaW31
import Derived.Test.YtnmcgbfhgmmcpaaW63
import Derived.Test.YtnmcgbfhgmmcpaaW66
/-
  What the law of covers holds in memory.
-/
namespace Go.Proofs.Ytnmcgbfhgmmcpaa
open Go.RowKit

theorem two_new (w : World) (x y : Int) (t : TypeId) : Two (w.alloc (.cells #[.int .i64 x, .int .i64 y] t)) w.heap.size x y :=
  ⟨by simp, by simp, by simp, by simp⟩

structure Fx (W : World) (b6 b7 b8 : Nat) (aB aE aW aD : Option Addr) (cW cD : Nat) (bag : List Int) (es : List (List Int)) (wn wd : Int) (nx dx ny dy : Nat → Int) : Prop where
  e1 : W.cell? ⟨b6, 1, none⟩ = some (.int .i64 wn)
  e2 : W.cell? ⟨b6, 2, none⟩ = some (.int .i64 wd)
  e3 : W.cell? ⟨b6, 3, none⟩ = some (.slice aW es.length cW)
  e4 : W.cell? ⟨b6, 4, none⟩ = some (.slice aD bag.length cD)
  z : Two W b7 0 1
  o : Two W b8 1 1
  iw : ∀ i, i < es.length → ∃ b o, aW = some ⟨b, o, none⟩ ∧ W.cell? ⟨b, o + i * 2, none⟩ = some (.int .i64 (nx i)) ∧ W.cell? ⟨b, o + i * 2 + 1, none⟩ = some (.int .i64 (dx i))
  id : ∀ i, i < bag.length → ∃ b o, aD = some ⟨b, o, none⟩ ∧ W.cell? ⟨b, o + i * 2, none⟩ = some (.int .i64 (ny i)) ∧ W.cell? ⟨b, o + i * 2 + 1, none⟩ = some (.int .i64 (dy i))
  is : ∀ j, j < bag.length → ∃ b o, aB = some ⟨b, o, none⟩ ∧ W.cell? ⟨b, o + j, none⟩ = some (.int .i64 (bag.getD j 0))
  iss : ∀ i, i < es.length → ∃ b o au cu, aE = some ⟨b, o, none⟩ ∧ W.cell? ⟨b, o + i, none⟩ = some (.slice au (es.getD i []).length cu) ∧ ∀ p, p < (es.getD i []).length → ∃ bu ou, au = some ⟨bu, ou, none⟩ ∧ W.cell? ⟨bu, ou + p, none⟩ = some (.int .i64 ((es.getD i []).getD p 0))

theorem bcl {w w' : World} {a : Addr} {v : Value} (hb : Below w.heap.size w w') (h : w.cell? a = some v) : w'.cell? a = some v :=
  (hb.cell (World.block_lt_of_cell? w _ h)).trans h

theorem Two.lt {w : World} {g : Nat} {x y : Int} (h : Two w g x y) : g < w.heap.size := World.block_lt_of_cell? w _ h.1

theorem Fx.below {W W' : World} {b6 b7 b8 : Nat} {aB aE aW aD : Option Addr} {cW cD : Nat} {bag : List Int} {es : List (List Int)} {wn wd : Int} {nx dx ny dy : Nat → Int} (h : Fx W b6 b7 b8 aB aE aW aD cW cD bag es wn wd nx dx ny dy) (hb : Below W.heap.size W W') : Fx W' b6 b7 b8 aB aE aW aD cW cD bag es wn wd nx dx ny dy where
  e1 := bcl hb h.e1
  e2 := bcl hb h.e2
  e3 := bcl hb h.e3
  e4 := bcl hb h.e4
  z := h.z.below h.z.lt hb
  o := h.o.below h.o.lt hb
  iw i hi := by
    obtain ⟨b, o, e, h1, h2⟩ := h.iw i hi
    exact ⟨b, o, e, bcl hb h1, bcl hb h2⟩
  id i hi := by
    obtain ⟨b, o, e, h1, h2⟩ := h.id i hi
    exact ⟨b, o, e, bcl hb h1, bcl hb h2⟩
  is j hj := by
    obtain ⟨b, o, e, h1⟩ := h.is j hj
    exact ⟨b, o, e, bcl hb h1⟩
  iss i hi := by
    obtain ⟨b, o, au, cu, e, h1, h2⟩ := h.iss i hi
    refine ⟨b, o, au, cu, e, bcl hb h1, fun p hp => ?_⟩
    obtain ⟨bu, ou, e', h3⟩ := h2 p hp
    exact ⟨bu, ou, e', bcl hb h3⟩

theorem ir_parts {w : World} {a : Option Addr} {n cp : Nat} {u : Nat} {x : Nat → Rat} (h : IR w (.slice a n cp) (prs u x)) : n = u ∧ ∀ i, i < u → ∃ b o, a = some ⟨b, o, none⟩ ∧ w.cell? ⟨b, o + i * 2, none⟩ = some (.int .i64 (x i).num) ∧ w.cell? ⟨b, o + i * 2 + 1, none⟩ = some (.int .i64 ((x i).den : Int)) := by
  obtain ⟨a', cap, e, hc⟩ := h
  rw [prs_length] at e hc
  simp only [Value.slice.injEq] at e
  obtain ⟨rfl, rfl, rfl⟩ := e
  refine ⟨rfl, fun i hi => ?_⟩
  rcases hc with h0 | ⟨b, o, ea, hc⟩
  · omega
  · have := hc i hi
    rw [prs_get hi] at this
    exact ⟨b, o, ea, this⟩

theorem is_parts {w : World} {a : Option Addr} {n cp : Nat} {l : List Int} (h : IS w (.slice a n cp) l) : n = l.length ∧ ∀ j, j < l.length → ∃ b o, a = some ⟨b, o, none⟩ ∧ w.cell? ⟨b, o + j, none⟩ = some (.int .i64 (l.getD j 0)) := by
  obtain ⟨a', cap, e, hc⟩ := h
  simp only [Value.slice.injEq] at e
  obtain ⟨rfl, rfl, rfl⟩ := e
  refine ⟨rfl, fun i hi => ?_⟩
  rcases hc with h0 | ⟨b, o, ea, hc⟩
  · omega
  · exact ⟨b, o, ea, hc i hi⟩

theorem iss_parts {w : World} {a : Option Addr} {n cp : Nat} {es : List (List Int)} (h : ISS w (.slice a n cp) es) : n = es.length ∧ ∀ i, i < es.length → ∃ b o au cu, a = some ⟨b, o, none⟩ ∧ w.cell? ⟨b, o + i, none⟩ = some (.slice au (es.getD i []).length cu) ∧ ∀ p, p < (es.getD i []).length → ∃ bu ou, au = some ⟨bu, ou, none⟩ ∧ w.cell? ⟨bu, ou + p, none⟩ = some (.int .i64 ((es.getD i []).getD p 0)) := by
  obtain ⟨a', cap, e, hc⟩ := h
  simp only [Value.slice.injEq] at e
  obtain ⟨rfl, rfl, rfl⟩ := e
  refine ⟨rfl, fun i hi => ?_⟩
  rcases hc with h0 | ⟨b, o, ea, hc⟩
  · omega
  · obtain ⟨u, h1, h2⟩ := hc i hi
    obtain ⟨au, cu, e, hu⟩ := h2
    subst e
    exact ⟨b, o, au, cu, ea, h1, (is_parts ⟨au, cu, rfl, hu⟩).2⟩

theorem acc_step {W wr w2 : World} {N b : Nat} {x y : Int} (h : Below N W wr) (hN : N ≤ b) (hT : Two wr b x y) (hb : Below wr.heap.size wr w2) (hNw : N ≤ wr.heap.size) (x' y' : Int) : Below N W ((w2.setCell ⟨b, 0, none⟩ (.int .i64 x')).setCell ⟨b, 1, none⟩ (.int .i64 y')) ∧ Two ((w2.setCell ⟨b, 0, none⟩ (.int .i64 x')).setCell ⟨b, 1, none⟩ (.int .i64 y')) b x' y' := by
  have h2 : Two w2 b x y := hT.below hT.lt hb
  refine ⟨((h.trans (hb.mono hNw)).setCell (show N ≤ b from hN) _).setCell (show N ≤ b from hN) _, h2.set x' y'⟩

theorem mkR (n : Int) (w : World) (hn : n = 0 ∨ n = 1) : Calls Try.prog 10 #[.int .i64 n, .int .i64 1] w fun e w' => e = .returned (.agg #[.int .i64 n, .int .i64 1]) ∧ Below w.heap.size w w' := by
  refine (iMakeRat_yes n 1 w (by rcases hn with rfl | rfl <;> (unfold RatArgs; decide))).mono ?_
  rintro e w' ⟨rfl, hb⟩
  refine ⟨?_, hb⟩
  rcases hn with rfl | rfl <;> rfl

end Go.Proofs.Ytnmcgbfhgmmcpaa
