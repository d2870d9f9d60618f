import Derived.BigQuiet
import Derived.Deep.AppendLies
import Derived.Deep.CutRange
import Derived.Deep.Draws
import Derived.Deep.LoopGhost
import Derived.Deep.QuietTactic
import Derived.Deep.RegionLaw
import Derived.Deep.RegionWith
import Derived.Lib.Walk
import Derived.Test.YtcdfoephhjacdaaGreatDoorR00
import Derived.Test.YtcdfoephhjacdaaGreatDoorR01
import Derived.Test.YtcdfoephhjacdaaGreatDoorR02
import Derived.Test.YtcdfoephhjacdaaGreatDoorR05
import Derived.Test.YtcdfoephhjacdaaGreatDoorR06
/-
  slices.BinarySearch at []int; the cursors' methods.
-/
namespace Go.Proofs.YtcdfoephhjacdaaGreatDoor
open Go.RowKit Meet

end Go.Proofs.YtcdfoephhjacdaaGreatDoor

/-
  impl's cursors: ended, value, next, seek.
-/
namespace Go.Proofs.YtcdfoephhjacdaaGreatDoor
open Go.RowKit Meet

structure Cur (w : World) (c o tb fb : Nat) (l : List Int) (p : Nat) : Prop where
  ptr : w.cell? ⟨c, o, none⟩ = some (.pointer (some ⟨tb, 0, none⟩))
  pl : w.cell? ⟨c, o + 1, none⟩ = some (.int .i64 p)
  fz : w.frozen? ⟨c, o + 1, none⟩ = false
  val : w.cell? ⟨tb, 0, none⟩ = some (.slice (some ⟨fb, 0, none⟩) l.length l.length)
  own : ∀ j, j < l.length → w.cell? ⟨fb, j, none⟩ = some (.int .i64 (l.getD j 0))

theorem Cur.drewN {w : World} {c o tb fb p : Nat} {l : List Int} (h : Cur w c o tb fb l p) (d : Nat) : Cur (w.drewN d) c o tb fb l p := ⟨h.ptr, h.pl, h.fz, h.val, h.own⟩

end Go.Proofs.YtcdfoephhjacdaaGreatDoor

/-
  impl.meet.
-/
namespace Go.Proofs.YtcdfoephhjacdaaGreatDoor
open Go.RowKit Meet

theorem Og.drewN {g : Nat} {w w' : World} (h : Og g w w') (d : Nat) : Og g w (w'.drewN d) := ⟨h.os, h.tape, h.output, h.size, h.block⟩
theorem Og.trans {g : Nat} {w w1 w2 : World} (h : Og g w w1) (k : Og g w1 w2) : Og g w w2 := ⟨k.os.trans h.os, k.tape.trans h.tape, k.output.trans h.output, k.size.trans h.size, fun b hb => (k.block b hb).trans (h.block b hb)⟩

end Go.Proofs.YtcdfoephhjacdaaGreatDoor

/-
  impl.areAscending.
-/
namespace Go.Proofs.YtcdfoephhjacdaaGreatDoor
open Go.RowKit Meet

end Go.Proofs.YtcdfoephhjacdaaGreatDoor

/-
  impl.Intersect.
-/
namespace Go.Proofs.YtcdfoephhjacdaaGreatDoor
open Go.RowKit Meet

theorem own_og {w w' : World} {B c n s : Nat} {e e' : TypeId} {v : Value} {xs : List Value} (h : w.ownsRow B e s v n xs) (ho : Og c w w') (ht : ∃ cur, w.heap[c]? = some (.cells cur e' (0, 0))) (hne : e ≠ e') : w'.ownsRow B e s v n xs := by
  obtain ⟨h1, h2⟩ := h
  refine ⟨h1, ?_⟩
  rcases h2 with h2 | ⟨g, cap, cur, hv, hg, hc, hr⟩
  · exact Or.inl h2
  · refine Or.inr ⟨g, cap, cur, hv, hg, ?_, hr⟩
    rw [ho.block g (fun e => by
      obtain ⟨cur', hc'⟩ := ht
      rw [e, hc'] at hc
      simp only [Option.some.injEq, Obj.cells.injEq] at hc
      exact hne hc.2.1.symm)]
    exact hc

/-- a row's own block is none whose cells are of another type -/
theorem own_ne {w : World} {B b n s : Nat} {e e' : TypeId} {v : Value} {xs : List Value} (h : w.ownsRow B e s v n xs) (ht : ∃ cur, w.heap[b]? = some (.cells cur e' (0, 0))) (hne : e ≠ e') : some b ≠ v.ownBlock := by
  intro hb
  obtain ⟨h1, h2⟩ := h
  rcases h2 with ⟨rfl, _⟩ | ⟨g, cap, cur, rfl, hg, hc, hr⟩
  · simp [Value.ownBlock] at hb
  · simp only [Value.ownBlock, Option.some.injEq] at hb
    subst hb
    obtain ⟨cur', hc'⟩ := ht
    rw [hc'] at hc
    simp only [Option.some.injEq, Obj.cells.injEq] at hc
    exact hne hc.2.1.symm

theorem lt_of_typ {w : World} {b : Nat} {e : TypeId} (h : ∃ cur, w.heap[b]? = some (.cells cur e (0, 0))) : b < w.heap.size := by
  obtain ⟨cur, h⟩ := h
  rcases Nat.lt_or_ge b w.heap.size with h3 | h3
  · exact h3
  · rw [Array.getElem?_eq_none h3] at h; cases h

def ccells (tb : Nat → Nat) (k : Nat) : List Value := (List.range k).flatMap fun i => [.pointer (some ⟨tb i, 0, none⟩), .int .i64 0]
theorem ccells_succ (tb : Nat → Nat) (k : Nat) : ccells tb (k + 1) = ccells tb k ++ [.pointer (some ⟨tb k, 0, none⟩), .int .i64 0] := by
  simp [ccells, List.range_succ]
theorem ccells_congr {tb tb' : Nat → Nat} {k : Nat} (h : ∀ i, i < k → tb i = tb' i) : ccells tb k = ccells tb' k := by
  induction k with
  | zero => rfl
  | succ k ih => rw [ccells_succ, ccells_succ, ih (fun i hi => h i (by omega)), h k (by omega)]
end Go.Proofs.YtcdfoephhjacdaaGreatDoor

/-
  impl.Intersect, walked.
-/
namespace Go.Proofs.YtcdfoephhjacdaaGreatDoor
open Go.RowKit Meet

end Go.Proofs.YtcdfoephhjacdaaGreatDoor

/-
  impl.Intersect, walked.
-/
namespace Go.Proofs.YtcdfoephhjacdaaGreatDoor
open Go.RowKit Meet

end Go.Proofs.YtcdfoephhjacdaaGreatDoor

/-
  spec.Intersect.
-/
namespace Go.Proofs.YtcdfoephhjacdaaGreatDoor
open Go.RowKit Meet

theorem new1_cell (w : World) (v : Value) (t : TypeId) : ∀ j u, [v][j]? = some u → (w.alloc (.cells #[v] t)).cell? ((⟨w.heap.size, 0, none⟩ : Addr).add j) = some u := by
  intro j u hj
  match j, hj with
  | 0, hj => simp at hj; subst hj; simp [Addr.add]

theorem mem_iff {l : List Int} {x : Int} {q : Nat} (h1 : ∀ j, j < q → l.getD j 0 < x) (h2 : ∀ j, q ≤ j → j < l.length → x ≤ l.getD j 0) (ha : Asc l) : decide (x ∈ l) = (decide (q < l.length) && decide (l.getD q 0 = x)) := by
  by_cases hq : q < l.length
  · rw [decide_eq_true hq, Bool.true_and]
    by_cases e : l.getD q 0 = x
    · rw [decide_eq_true e]
      exact decide_eq_true (e ▸ at_mem hq)
    · rw [decide_eq_false e]
      refine decide_eq_false (fun hm => ?_)
      obtain ⟨j, hj, e2⟩ := mem_at hm
      rcases Nat.lt_or_ge j q with h3 | h3
      · have := h1 j h3; omega
      · have h4 := h2 q (Nat.le_refl _) hq
        rcases Nat.lt_or_ge q j with h5 | h5
        · have := ha q j h5 hj; omega
        · rw [show j = q by omega] at e2; exact e e2
  · rw [decide_eq_false hq, Bool.false_and]
    refine decide_eq_false (fun hm => ?_)
    obtain ⟨j, hj, e2⟩ := mem_at hm
    have := h1 j (by omega)
    omega

end Go.Proofs.YtcdfoephhjacdaaGreatDoor

/-
  impl.coverProgram, impl.packingProgram: a program's rows, each a list of its own.
-/
namespace Go.Proofs.YtcdfoephhjacdaaGreatDoor
open Go.RowKit

theorem Tryz.infoIS : (Tryz.prog.info? 43).map (fun i => (i.zero, i.size, i.bytes)) = some (some (.slice none 0 0), 1, 24) := by kernel_rfl

/-- the row's own block holds cells of its type -/
theorem own_typ {w : World} {B n s g : Nat} {e : TypeId} {v : Value} {xs : List Value} (h : w.ownsRow B e s v n xs) (hg : v.ownBlock = some g) : ∃ cur, w.heap[g]? = some (.cells cur e (0, 0)) := by
  rcases h.2 with ⟨rfl, _⟩ | ⟨g', cap, cur, rfl, _, hc, _⟩
  · simp [Value.ownBlock] at hg
  · simp only [Value.ownBlock, Option.some.injEq] at hg
    subst hg
    exact ⟨cur, hc⟩

theorem typ_set {W : World} {c o : Nat} {v : Value} {e : TypeId} (h : ∃ cur, W.heap[c]? = some (.cells cur e (0, 0))) : ∃ cur, (W.setCell ⟨c, o, none⟩ v).heap[c]? = some (.cells cur e (0, 0)) := by
  obtain ⟨cur, h⟩ := h
  exact ⟨_, heap_setCell_same _ _ _ _ _ _ h⟩

theorem own_base {w : World} {B B' n s : Nat} {e : TypeId} {v : Value} {xs : List Value} (h : w.ownsRow B e s v n xs) (hB : B' ≤ B) : w.ownsRow B' e s v n xs := by
  obtain ⟨h1, h2⟩ := h
  refine ⟨h1, ?_⟩
  rcases h2 with h2 | ⟨g, cap, cur, hv, hg, hr⟩
  · exact Or.inl h2
  · exact Or.inr ⟨g, cap, cur, hv, Nat.le_trans hB hg, hr⟩

end Go.Proofs.YtcdfoephhjacdaaGreatDoor

/-
  spec.l2Sort.
-/
namespace Go.Proofs.YtcdfoephhjacdaaGreatDoor
open Go.RowKit

/-- a slice's length is no more than its room -/
def CapOK (v : Value) : Prop := ∃ a n c, v = .slice a n c ∧ n ≤ c
/-- ints in a slice with room for them -/
def ISc (w : World) (v : Value) (l : List Int) : Prop := IS w v l ∧ CapOK v
theorem ISc.below {w w' : World} {v : Value} {l : List Int} (h : ISc w v l) (hb : Below w.heap.size w w') : ISc w' v l := ⟨h.1.below hb, h.2⟩
theorem own_cap {w : World} {B n s : Nat} {e : TypeId} {v : Value} {xs : List Value} (h : w.ownsRow B e s v n xs) : CapOK v := by
  rcases h.2 with ⟨rfl, hn⟩ | ⟨g, cap, cur, rfl, -, -, hn, -⟩
  · exact ⟨_, _, _, rfl, Nat.le_refl _⟩
  · exact ⟨_, _, _, rfl, hn⟩
/-- rows in slices with room for them -/
def ISSc (w : World) (v : Value) (ls : List (List Int)) : Prop := ∃ a cap, v = .slice a ls.length cap ∧ (ls.length = 0 ∨ ∃ b o, a = some ⟨b, o, none⟩ ∧ ∀ j, j < ls.length → ∃ u, w.cell? ⟨b, o + j, none⟩ = some u ∧ ISc w u (ls.getD j []))
theorem ISSc.iss {w : World} {v : Value} {ls : List (List Int)} (h : ISSc w v ls) : ISS w v ls := by
  obtain ⟨a, cap, rfl, h1⟩ := h
  refine ⟨a, cap, rfl, ?_⟩
  rcases h1 with h1 | ⟨b, o, rfl, h1⟩
  · exact Or.inl h1
  · exact Or.inr ⟨b, o, rfl, fun j hj => by obtain ⟨u, h2, h3⟩ := h1 j hj; exact ⟨u, h2, h3.1⟩⟩
theorem ISSc.below {w w' : World} {v : Value} {ls : List (List Int)} (h : ISSc w v ls) (hb : Below w.heap.size w w') : ISSc w' v ls := by
  obtain ⟨a, cap, rfl, h1⟩ := h
  refine ⟨a, cap, rfl, ?_⟩
  rcases h1 with h1 | ⟨b, o, rfl, h1⟩
  · exact Or.inl h1
  · exact Or.inr ⟨b, o, rfl, fun j hj => by obtain ⟨u, h2, h3⟩ := h1 j hj; exact ⟨u, (hb.cell (p := ⟨b, o + j, none⟩) (World.block_lt_of_cell? w _ h2)).trans h2, h3.below hb⟩⟩

/-- rows that lie ready in W0, listed in a slice of W -/
structure RS (W0 W : World) (v : Value) (us : List Value) (ls : List (List Int)) : Prop where
  sl : ∃ a cap, v = .slice a ls.length cap ∧ ls.length ≤ cap ∧ (ls.length = 0 ∨ ∃ b o, a = some ⟨b, o, none⟩ ∧ ∀ j, j < ls.length → W.cell? ⟨b, o + j, none⟩ = some (us.getD j undef))
  len : us.length = ls.length
  each : ∀ i, i < ls.length → ISc W0 (us.getD i undef) (ls.getD i [])
theorem RS.below {W0 W W' : World} {v : Value} {us : List Value} {ls : List (List Int)} (h : RS W0 W v us ls) (hb : Below W.heap.size W W') : RS W0 W' v us ls := by
  obtain ⟨⟨a, cap, rfl, hc, h1⟩, h2, h3⟩ := h
  refine ⟨⟨a, cap, rfl, hc, ?_⟩, h2, h3⟩
  rcases h1 with h1 | ⟨b, o, rfl, h1⟩
  · exact Or.inl h1
  · exact Or.inr ⟨b, o, rfl, fun j hj => (hb.cell (p := ⟨b, o + j, none⟩) (World.block_lt_of_cell? W _ (h1 j hj))).trans (h1 j hj)⟩
theorem RS.issc {W0 W : World} {v : Value} {us : List Value} {ls : List (List Int)} (h : RS W0 W v us ls) (hb : Below W0.heap.size W0 W) : ISSc W v ls := by
  obtain ⟨⟨a, cap, rfl, hc, h1⟩, h2, h3⟩ := h
  refine ⟨a, cap, rfl, ?_⟩
  rcases h1 with h1 | ⟨b, o, rfl, h1⟩
  · exact Or.inl h1
  · exact Or.inr ⟨b, o, rfl, fun j hj => ⟨_, h1 j hj, (h3 j hj).below hb⟩⟩
theorem RS.iss {W0 W : World} {v : Value} {us : List Value} {ls : List (List Int)} (h : RS W0 W v us ls) (hb : Below W0.heap.size W0 W) : ISS W v ls := (h.issc hb).iss
theorem getD_take {α : Type} {l : List α} {n i : Nat} {d : α} (h : i < n) : (l.take n).getD i d = l.getD i d := by
  rw [List.getD_eq_getElem?_getD, List.getElem?_take_of_lt h, ← List.getD_eq_getElem?_getD]
theorem getD_drop {α : Type} {l : List α} {n i : Nat} {d : α} : (l.drop n).getD i d = l.getD (n + i) d := by
  rw [List.getD_eq_getElem?_getD, List.getElem?_drop, ← List.getD_eq_getElem?_getD]
theorem RS.take {W0 W : World} {a : Option Addr} {n0 cap : Nat} {us : List Value} {ls : List (List Int)} (h : RS W0 W (.slice a n0 cap) us ls) {n : Nat} (hn : n ≤ ls.length) : RS W0 W (.slice a n cap) (us.take n) (ls.take n) := by
  obtain ⟨⟨a', cap', e, hc, h1⟩, h2, h3⟩ := h
  simp only [Value.slice.injEq] at e
  obtain ⟨rfl, rfl, rfl⟩ := e
  have hl : (ls.take n).length = n := by rw [List.length_take]; omega
  refine ⟨⟨a, cap, by rw [hl], by omega, ?_⟩, by rw [hl, List.length_take]; omega, fun i hi => ?_⟩
  · rcases h1 with h1 | ⟨b, o, rfl, h1⟩
    · exact Or.inl (by omega)
    · exact Or.inr ⟨b, o, rfl, fun j hj => by rw [getD_take (by omega)]; exact h1 j (by omega)⟩
  · rw [getD_take (by omega), getD_take (by omega)]; exact h3 i (by omega)
theorem RS.drop {W0 W : World} {b o n0 cap : Nat} {us : List Value} {ls : List (List Int)} (h : RS W0 W (.slice (some ⟨b, o, none⟩) n0 cap) us ls) {n : Nat} (hn : n ≤ ls.length) : RS W0 W (.slice (some ⟨b, o + n, none⟩) (n0 - n) (cap - n)) (us.drop n) (ls.drop n) := by
  obtain ⟨⟨a', cap', e, hc, h1⟩, h2, h3⟩ := h
  simp only [Value.slice.injEq] at e
  obtain ⟨rfl, rfl, rfl⟩ := e
  have hl : (ls.drop n).length = ls.length - n := List.length_drop ..
  refine ⟨⟨_, _, by rw [hl], by omega, ?_⟩, by rw [hl, List.length_drop]; omega, fun i hi => ?_⟩
  · rcases h1 with h1 | ⟨b', o', e', h1⟩
    · exact Or.inl (by omega)
    · simp only [Option.some.injEq, Addr.mk.injEq, and_true] at e'
      obtain ⟨rfl, rfl⟩ := e'
      exact Or.inr ⟨b, o + n, rfl, fun j hj => by rw [getD_drop, Nat.add_assoc]; exact h1 (n + j) (by omega)⟩
  · rw [getD_drop, getD_drop]; exact h3 (n + i) (by omega)

/-- rows being merged into a slice of the call's own -/
structure MS (W0 W wr : World) (v : Value) (us : List Value) (ls : List (List Int)) : Prop where
  bel : Below W.heap.size W wr
  own : wr.ownsRow W.heap.size 43 1 v ls.length us
  len : us.length = ls.length
  each : ∀ i, i < ls.length → ISc W0 (us.getD i undef) (ls.getD i [])
theorem MS.start (W0 W : World) : MS W0 W (W.alloc (.cells #[] 43)) (.slice (some ⟨W.heap.size, 0, none⟩) 0 0) [] [] :=
  ⟨(Below.refl _ _).alloc (Nat.le_refl _) _, World.ownsRow_made W #[] 0 (Nat.le_refl _) (by decide) rfl, rfl, fun i hi => by simp at hi⟩
theorem MS.drew {W0 W wr : World} {v : Value} {us : List Value} {ls : List (List Int)} (h : MS W0 W wr v us ls) : MS W0 W wr.drew v us ls := ⟨h.bel.drew, h.own, h.len, h.each⟩
theorem MS.push {W0 W wr w3 : World} {v v' u : Value} {us : List Value} {ls : List (List Int)} {l : List Int} {o : Obj} (h : MS W0 W wr v us ls) (hu : ISc W0 u l) (hown : w3.ownsRow W.heap.size 43 1 v' (ls.length + 1) (us ++ [u])) (hg : (wr.alloc o).grownBy w3 v.ownBlock) : MS W0 W w3 v' (us ++ [u]) (ls ++ [l]) := by
  refine ⟨(h.bel.alloc h.bel.size o).grown hg (by have := h.bel.size; simp; omega) (fun k hk => (h.own.lt k hk).1), by rw [List.length_append]; exact hown, by simp [h.len], fun i hi => ?_⟩
  rw [List.length_append, List.length_singleton] at hi
  by_cases e : i < ls.length
  · rw [List.getD_eq_getElem?_getD, List.getElem?_append_left (by rw [h.len]; exact e), List.getD_eq_getElem?_getD (l := ls ++ [l]), List.getElem?_append_left e, ← List.getD_eq_getElem?_getD, ← List.getD_eq_getElem?_getD]
    exact h.each i e
  · have e1 : (us ++ [u]).getD i undef = u := by rw [List.getD_eq_getElem?_getD, List.getElem?_append_right (by rw [h.len]; omega), show i - us.length = 0 by rw [h.len]; omega]; rfl
    have e2 : (ls ++ [l]).getD i [] = l := by rw [List.getD_eq_getElem?_getD, List.getElem?_append_right (by omega), show i - ls.length = 0 by omega]; rfl
    rw [e1, e2]; exact hu
theorem MS.rs {W0 W wr : World} {v : Value} {us : List Value} {ls : List (List Int)} (h : MS W0 W wr v us ls) : RS W0 wr v us ls := by
  refine ⟨?_, h.len, h.each⟩
  rcases h.own.2 with ⟨rfl, hn⟩ | ⟨g, cap, cur, rfl, hb', hc, hn, hcap, -, ht⟩
  · exact ⟨none, 0, by rw [hn], by omega, Or.inl hn⟩
  · refine ⟨_, cap, rfl, ?_, Or.inr ⟨g, 0, rfl, fun j hj => ?_⟩⟩
    · exact hn
    · have hlen := h.len
      rw [Nat.zero_add, cell_of_row _ _ _ _ _ _ hc, List.getD_eq_getElem?_getD, List.getElem?_eq_getElem (by omega), Option.getD_some, ← List.getElem?_eq_getElem (by omega : j < us.length), ← ht, List.getElem?_take_of_lt (by omega), Array.getElem?_toList]

end Go.Proofs.YtcdfoephhjacdaaGreatDoor

/-
  spec.l2Sort, walked.
-/
namespace Go.Proofs.YtcdfoephhjacdaaGreatDoor
open Go.RowKit

theorem MS.drewN {W0 W wr : World} {v : Value} {us : List Value} {ls : List (List Int)} (h : MS W0 W wr v us ls) (n : Nat) : MS W0 W (wr.drewN n) v us ls := ⟨⟨h.bel.os, h.bel.tape, h.bel.output, h.bel.size, h.bel.block⟩, h.own, h.len, h.each⟩
end Go.Proofs.YtcdfoephhjacdaaGreatDoor

/-
  spec: l2Value, l2Values.
-/
namespace Go.Proofs.YtcdfoephhjacdaaGreatDoor
open Go.RowKit

end Go.Proofs.YtcdfoephhjacdaaGreatDoor

/-
  Rows made anew, listed in a slice of the call's own; impl.valuesAt.
-/
namespace Go.Proofs.YtcdfoephhjacdaaGreatDoor
open Go.RowKit

theorem kept_of {W w3 : World} {v : Value} {o : Obj} {b : Nat} (hg : (W.alloc o).grownBy w3 v.ownBlock) (hb : b < W.heap.size) (hne : some b ≠ v.ownBlock) : w3.heap[b]? = W.heap[b]? :=
  (hg.block b (by simp; omega) hne).trans (Below.heap_alloc _ _ _ hb)

/-- rows, each in a row of its own, no two of them sharing a block -/
structure RQ (W : World) (B : Nat) (v : Value) (us : List Value) (ls : List (List Int)) : Prop where
  own : W.ownsRow B 43 1 v ls.length us
  len : us.length = ls.length
  each : ∀ i, i < ls.length → W.ownsRow B 3 1 (us.getD i undef) (ls.getD i []).length ((ls.getD i []).map (Value.int .i64))
  ap : ∀ i j, i < j → j < ls.length → ∀ g, (us.getD i undef).ownBlock = some g → (us.getD j undef).ownBlock ≠ some g
section
variable {W W' w3 : World} {B B' : Nat} {v v' u : Value} {us : List Value} {ls : List (List Int)} {l : List Int} {o : Obj}
theorem RQ.below (h : RQ W B v us ls) (hb : Below W.heap.size W W') : RQ W' B v us ls := ⟨own_below h.own hb, h.len, fun i hi => own_below (h.each i hi) hb, h.ap⟩
theorem RQ.base (h : RQ W B v us ls) (hB : B' ≤ B) : RQ W B' v us ls := ⟨own_base h.own hB, h.len, fun i hi => own_base (h.each i hi) hB, h.ap⟩
theorem RQ.step (h : RQ W B v us ls) (hu : W.ownsRow B 3 1 u l.length (l.map (Value.int .i64))) (hn : ∀ i, i < ls.length → ∀ g, (us.getD i undef).ownBlock = some g → u.ownBlock ≠ some g)
    (hown : w3.ownsRow B 43 1 v' (ls.length + 1) (us ++ [u])) (hg : (W.alloc o).grownBy w3 v.ownBlock) : RQ w3 B v' (us ++ [u]) (ls ++ [l]) := by
  have hint : ∀ {x : Value} {k : Nat} {xs : List Value}, W.ownsRow B 3 1 x k xs → w3.ownsRow B 3 1 x k xs := fun hx =>
    own_move hx fun g hgx => kept_of hg (hx.lt g hgx).2 (own_ne h.own (own_typ hx hgx) (by decide))
  have hl := h.len
  have e1 : ∀ i, i < ls.length → (us ++ [u]).getD i undef = us.getD i undef := fun i hi => by rw [List.getD_eq_getElem?_getD, List.getElem?_append_left (by omega), ← List.getD_eq_getElem?_getD]
  have e2 : (us ++ [u]).getD ls.length undef = u := by rw [List.getD_eq_getElem?_getD, List.getElem?_append_right (by omega), show ls.length - us.length = 0 by omega]; rfl
  have f1 : ∀ i, i < ls.length → (ls ++ [l]).getD i [] = ls.getD i [] := fun i hi => by rw [List.getD_eq_getElem?_getD, List.getElem?_append_left hi, ← List.getD_eq_getElem?_getD]
  have f2 : (ls ++ [l]).getD ls.length [] = l := by rw [List.getD_eq_getElem?_getD, List.getElem?_append_right (Nat.le_refl _), Nat.sub_self]; rfl
  refine ⟨by rw [List.length_append]; exact hown, by simp [hl], fun i hi => ?_, fun i j hij hj g => ?_⟩
  · rw [List.length_append, List.length_singleton] at hi
    by_cases e : i < ls.length
    · rw [e1 i e, f1 i e]; exact hint (h.each i e)
    · obtain rfl : i = ls.length := by omega
      rw [e2, f2]; exact hint hu
  · rw [List.length_append, List.length_singleton] at hj
    rw [e1 i (by omega)]
    by_cases e : j < ls.length
    · rw [e1 j e]; exact h.ap i j hij e g
    · obtain rfl : j = ls.length := by omega
      rw [e2]; exact hn i (by omega) g
theorem RQ.get (h : RQ W B v us ls) {i : Nat} (hi : i < ls.length) : ∃ g cap, v = .slice (some ⟨g, 0, none⟩) ls.length cap ∧ ls.length ≤ cap ∧ W.cell? ⟨g, i, none⟩ = some (us.getD i undef) := by
  rcases h.own.2 with ⟨-, h2⟩ | ⟨g, cap, cur, rfl, hb', hc, hn, -, -, ht⟩
  · omega
  · refine ⟨g, cap, rfl, hn, ?_⟩
    have hlen := h.len
    rw [cell_of_row _ _ _ _ _ _ hc, List.getD_eq_getElem?_getD, List.getElem?_eq_getElem (by omega), Option.getD_some, ← List.getElem?_eq_getElem (by omega : i < us.length), ← ht, List.getElem?_take_of_lt (by omega), Array.getElem?_toList]
theorem RQ.rs (h : RQ W B v us ls) : RS W W v us ls := by
  refine ⟨?_, h.len, fun i hi => ⟨own_is (h.each i hi), own_cap (h.each i hi)⟩⟩
  rcases h.own.2 with ⟨rfl, hn⟩ | ⟨g, cap, cur, rfl, hb', hc, hn, -⟩
  · exact ⟨none, 0, by rw [hn], by omega, Or.inl hn⟩
  · refine ⟨_, cap, rfl, hn, Or.inr ⟨g, 0, rfl, fun j hj => ?_⟩⟩
    obtain ⟨g', cap', e, -, hc'⟩ := h.get hj
    simp only [Value.slice.injEq, Option.some.injEq, Addr.mk.injEq] at e
    obtain ⟨⟨rfl, -⟩, -⟩ := e
    rw [Nat.zero_add]; exact hc'
end

end Go.Proofs.YtcdfoephhjacdaaGreatDoor

/-
  slices.Clone of ints.
-/
namespace Go.Proofs.YtcdfoephhjacdaaGreatDoor
open Go.RowKit

set_option maxHeartbeats 1000000 in
set_option maxRecDepth 1000000 in
theorem cloneP_calls (w : World) (v : Value) (l : List Int) (h : IS w v l) (hl : l.length ≤ 100000) :
    Calls Tryz.prog 70 #[v] w fun e w' => ∃ v', e = .returned v' ∧ w'.ownsRow w.heap.size 3 1 v' l.length (l.map (Value.int .i64)) ∧ Below w.heap.size w w' := by
  obtain ⟨i0, hi, hz0, hz1, hz2⟩ := info_parts Tryz.infoInt
  obtain ⟨a, cap, rfl, hc⟩ := h
  cases a with
  | none =>
    have h0 : l.length = 0 := by
      rcases hc with h0 | ⟨b, o, e, -⟩
      · exact h0
      · cases e
    have e0 : l = [] := List.eq_nil_of_length_eq_zero h0
    subst e0
    have hq : ∀ w : World, (binOp .eql 43 (.slice none 0 cap) (.slice none 0 0)).run Tryz.prog w = .ok (.bool true) w := fun w => Lib.run_eql_slice_nil w 43 3 none 0 cap 0 0 Tryz.underlying43
    go_enter Tryz.func70, Tryz.ntmps70
    go_wp2
    go_ret
    exact ⟨_, rfl, World.ownsRow_nil _ _ _ _, Below.refl _ _⟩
  | some ad =>
    have hq : ∀ w : World, (binOp .eql 43 (.slice (some ad) l.length cap) (.slice none 0 0)).run Tryz.prog w = .ok (.bool false) w := fun w => Lib.run_eql_slice_nil w 43 3 (some ad) l.length cap 0 0 Tryz.underlying43
    have hown : (w.alloc (.cells #[] 3)).ownsRow w.heap.size 3 1 (.slice (some ⟨w.heap.size, 0, none⟩) 0 0) 0 [] := World.ownsRow_made w #[] 0 (Nat.le_refl _) (by decide) rfl
    have hbA : Below w.heap.size w (w.alloc (.cells #[] 3)) := (Below.refl _ _).alloc (Nat.le_refl _) _
    by_cases h0 : l.length = 0
    · have e0 : l = [] := List.eq_nil_of_length_eq_zero h0
      subst e0
      have hq0 : ∀ w : World, (binOp .eql 43 (.slice (some ad) 0 cap) (.slice none 0 0)).run Tryz.prog w = .ok (.bool false) w := hq
      clear hq hc h0
      go_enter Tryz.func70, Tryz.ntmps70
      go_wp2_with (first | (at_builtin; refine wpList_append_own _ rfl _ _ 43 rfl w.heap.size 3 i0 (.int .i64 0) 1 8 Tryz.underlying43 hi hz0 hz1 hz2 rfl (by decide) (.slice (some ⟨w.heap.size, 0, none⟩) 0 0) 0 [] rfl hown ad 0 cap [] rfl rfl (fun j u hu => by simp at hu) (fun u hu => by cases hu) (by unfold maxLen; omega) (by omega) (by simp) ?_; intro v3 w3 hown3 hgrow3 _) | fail)
      go_ret
      exact ⟨_, rfl, hown3, hbA.grown hgrow3 (by simp) (fun k hk => (hown.lt k hk).1)⟩
    · obtain ⟨b, o, e, hc'⟩ : ∃ b o, some ad = some (⟨b, o, none⟩ : Addr) ∧ ∀ j, j < l.length → w.cell? ⟨b, o + j, none⟩ = some (.int .i64 (l.getD j 0)) := by
        rcases hc with h1 | h1
        · omega
        · exact h1
      obtain rfl := Option.some.inj e
      clear hc e
      have hnews : ∀ j u, (l.map (Value.int .i64))[j]? = some u → (w.alloc (.cells #[] 3)).cell? ((⟨b, o, none⟩ : Addr).add j) = some u := fun j u hu => by
        have hj : j < l.length := by
          rcases Nat.lt_or_ge j l.length with h | h
          · exact h
          · rw [List.getElem?_eq_none (by simpa using h)] at hu; cases hu
        rw [show ((⟨b, o, none⟩ : Addr).add j) = ⟨b, o + j, none⟩ by unfold Addr.add; split <;> simp_all, hbA.cell (p := ⟨b, o + j, none⟩) (World.block_lt_of_cell? w _ (hc' j hj)), hc' j hj, ← hu, List.getElem?_map, List.getD_eq_getElem?_getD, List.getElem?_eq_getElem hj]
        rfl
      have HNW := hid hnews
      clear hnews hc'
      obtain ⟨n, hn⟩ : ∃ n, n = l.length := ⟨_, rfl⟩
      have HN := hid hn
      rw [← hn] at hq hl h0 ⊢
      clear hn
      go_enter Tryz.func70, Tryz.ntmps70
      go_wp2_with (first | (at_builtin; refine wpList_append_lies _ rfl _ _ 43 rfl w.heap.size 3 i0 (.int .i64 0) 1 8 Tryz.underlying43 hi hz0 hz1 hz2 rfl (by decide) (.slice (some ⟨w.heap.size, 0, none⟩) 0 0) 0 [] rfl hown ⟨b, o, none⟩ n cap (l.map (Value.int .i64)) rfl (by rw [List.length_map, HN.out]; omega) HNW.out (fun u hu => by obtain ⟨x, _, rfl⟩ := List.mem_map.1 hu; rfl) (by omega) (by unfold maxLen; omega) (by omega) (by simp) _ rfl ?_; intro g3 cp3 w3 hown3 hgrow3 hat3 hlt3) | fail)
      go_ret
      refine ⟨_, rfl, ?_, hbA.grown hgrow3 (by simp) (fun k hk => (hown.lt k hk).1)⟩
      simpa using hown3

end Go.Proofs.YtcdfoephhjacdaaGreatDoor

/-
  A relation in the making: its block, its lists, apart from one another.
-/
namespace Go.Proofs.YtcdfoephhjacdaaGreatDoor
open Go.RowKit

theorem bclR {w w' : World} {p : Addr} {v : Value} (hb : Below w.heap.size w w') (h : w.cell? p = some v) : w'.cell? p = some v := (hb.cell (World.block_lt_of_cell? w _ h)).trans h
theorem drew_below2R {a b : World} (h : Below a.drew.heap.size a.drew b) : Below a.heap.size a b := ⟨h.os, h.tape, h.output, h.size, h.block⟩
theorem own_shapeR {w : World} {B n s : Nat} {e : TypeId} {v : Value} {xs : List Value} (h : w.ownsRow B e s v n xs) : ∃ a cap, v = .slice a n cap := by
  rcases h.2 with ⟨rfl, hn⟩ | ⟨g, cap, cur, rfl, _⟩
  · exact ⟨none, 0, by rw [hn]⟩
  · exact ⟨_, cap, rfl⟩
/-- a row's block is none of another type; what is stored there does not reach it -/
theorem own_keepR {W : World} {B s n p : Nat} {e e' : TypeId} {v : Value} {xs : List Value} {off : Nat} {y : Value} (h : W.ownsRow B e s v n xs) (ht : ∃ cur, W.heap[p]? = some (.cells cur e' (0, 0))) (he : e ≠ e') : (W.setCell ⟨p, off, none⟩ y).ownsRow B e s v n xs :=
  own_move h fun g hg => Below.heap_setCell _ _ _ _ (by rintro rfl; exact own_ne h ht he hg.symm)
theorem RQ.setR {W : World} {B p off : Nat} {v y : Value} {us : List Value} {ls : List (List Int)} (h : RQ W B v us ls) (ht : ∃ cur, W.heap[p]? = some (.cells cur 45 (0, 0))) : RQ (W.setCell ⟨p, off, none⟩ y) B v us ls :=
  ⟨own_keepR h.own ht (by decide), h.len, fun i hi => own_keepR (h.each i hi) ht (by decide), h.ap⟩
def ApR (u v : Value) : Prop := ∀ g, u.ownBlock = some g → v.ownBlock ≠ some g

/-- a relation's block -/
structure RX (W : World) (p : Nat) (v0 v1 v2 v3 : Value) : Prop where
  blk : W.heap[p]? = some (.cells #[v0, v1, v2, v3] 45 (0, 0))
section
variable {W W' w3 : World} {p : Nat} {v0 v1 v2 v3 : Value}
theorem RX.lt (h : RX W p v0 v1 v2 v3) : p < W.heap.size := by
  rcases Nat.lt_or_ge p W.heap.size with h1 | h1
  · exact h1
  · have := h.blk; rw [Array.getElem?_eq_none h1] at this; cases this
theorem RX.below (h : RX W p v0 v1 v2 v3) (hb : Below W.heap.size W W') : RX W' p v0 v1 v2 v3 := ⟨(hb.block p h.lt).trans h.blk⟩
theorem RX.c0 (h : RX W p v0 v1 v2 v3) : W.cell? ⟨p, 0, none⟩ = some v0 := by rw [cell_of_row _ _ _ _ _ _ h.blk]; rfl
theorem RX.c1 (h : RX W p v0 v1 v2 v3) : W.cell? ⟨p, 1, none⟩ = some v1 := by rw [cell_of_row _ _ _ _ _ _ h.blk]; rfl
theorem RX.c2 (h : RX W p v0 v1 v2 v3) : W.cell? ⟨p, 2, none⟩ = some v2 := by rw [cell_of_row _ _ _ _ _ _ h.blk]; rfl
theorem RX.c3 (h : RX W p v0 v1 v2 v3) : W.cell? ⟨p, 3, none⟩ = some v3 := by rw [cell_of_row _ _ _ _ _ _ h.blk]; rfl
theorem RX.free (h : RX W p v0 v1 v2 v3) (j : Nat) : W.frozen? ⟨p, j, none⟩ = false := by unfold World.frozen?; rw [h.blk]; simp
theorem RX.typ (h : RX W p v0 v1 v2 v3) : ∃ cur, W.heap[p]? = some (.cells cur 45 (0, 0)) := ⟨_, h.blk⟩
theorem RX.made (W : World) (v0 v1 v2 v3 : Value) : RX (W.alloc (.cells #[v0, v1, v2, v3] 45)) W.heap.size v0 v1 v2 v3 := ⟨heap_alloc_new _ _⟩
theorem RX.set2 (h : RX W p v0 v1 v2 v3) (y : Value) : RX (W.setCell ⟨p, 2, none⟩ y) p v0 v1 y v3 := ⟨by rw [heap_setCell_same _ _ _ _ _ _ h.blk]; rfl⟩
theorem RX.set3 (h : RX W p v0 v1 v2 v3) (y : Value) : RX (W.setCell ⟨p, 3, none⟩ y) p v0 v1 v2 y := ⟨by rw [heap_setCell_same _ _ _ _ _ _ h.blk]; rfl⟩
theorem RX.other (h : RX W p v0 v1 v2 v3) {q j : Nat} (hne : p ≠ q) (y : Value) : RX (W.setCell ⟨q, j, none⟩ y) p v0 v1 v2 v3 := ⟨(Below.heap_setCell _ _ _ _ hne).trans h.blk⟩
theorem RX.grown {B n s : Nat} {e : TypeId} {v : Value} {xs : List Value} {o : Obj} (h : RX W p v0 v1 v2 v3) (ho : W.ownsRow B e s v n xs) (he : e ≠ 45) (hg : (W.alloc o).grownBy w3 v.ownBlock) : RX w3 p v0 v1 v2 v3 :=
  ⟨(kept_of hg h.lt (own_ne ho h.typ he)).trans h.blk⟩
end

/-- a relation in the making, over the tuples of a list -/
structure KR (W : World) (B q p : Nat) (nm : ByteArray) (ar : Int) (v2 v3 vS : Value) (us : List Value) (rows : List (List Int)) (ws : List Int) (n : Nat) (cs : List Value) : Prop where
  rx : RX W p (.string nm) (.int .i64 ar) v2 v3
  rb : RX W q (.string ⟨#[]⟩) (.int .i64 0) (.slice none 0 0) (.slice none 0 0)
  rq : RQ W B v2 us rows
  o3 : W.ownsRow B 3 1 v3 ws.length (ws.map (Value.int .i64))
  st : W.ownsRow B 139 3 vS n cs
  a3 : ∀ i, i < rows.length → ApR (us.getD i undef) v3
  lo : B ≤ p
  ne : q ≠ p
section
variable {W W' w3 : World} {B q p n : Nat} {nm : ByteArray} {ar : Int} {v2 v3 vS v' u : Value} {us cs : List Value} {ws l : List Int} {rows : List (List Int)} {o : Obj} {x : Int}
theorem KR.below (h : KR W B q p nm ar v2 v3 vS us rows ws n cs) (hb : Below W.heap.size W W') : KR W' B q p nm ar v2 v3 vS us rows ws n cs :=
  ⟨h.rx.below hb, h.rb.below hb, h.rq.below hb, own_below h.o3 hb, own_below h.st hb, h.a3, h.lo, h.ne⟩
theorem KR.pushR (h : KR W B q p nm ar v2 v3 vS us rows ws n cs) (hu : W.ownsRow B 3 1 u l.length (l.map (Value.int .i64))) (hr : ∀ i, i < rows.length → ∀ g, (us.getD i undef).ownBlock = some g → u.ownBlock ≠ some g) (h3 : ApR u v3)
    (hown : w3.ownsRow B 43 1 v' (rows.length + 1) (us ++ [u])) (hg : (W.alloc o).grownBy w3 v2.ownBlock) : KR (w3.setCell ⟨p, 2, none⟩ v') B q p nm ar v' v3 vS (us ++ [u]) (rows ++ [l]) ws n cs := by
  have hX := h.rx.grown h.rq.own (by decide) hg
  have hQ := h.rb.grown h.rq.own (by decide) hg
  have hint : ∀ {y : Value} {k : Nat} {xs : List Value}, W.ownsRow B 3 1 y k xs → w3.ownsRow B 3 1 y k xs := fun hx =>
    own_move hx fun g hgx => kept_of hg (hx.lt g hgx).2 (own_ne h.rq.own (own_typ hx hgx) (by decide))
  have htup : w3.ownsRow B 139 3 vS n cs := own_move h.st fun g hgx => kept_of hg (h.st.lt g hgx).2 (own_ne h.rq.own (own_typ h.st hgx) (by decide))
  have hl := h.rq.len
  refine ⟨hX.set2 _, hQ.other h.ne _, (h.rq.step hu hr hown hg).setR hX.typ, own_keepR (hint h.o3) hX.typ (by decide), own_keepR htup hX.typ (by decide), fun i hi => ?_, h.lo, h.ne⟩
  rw [List.length_append, List.length_singleton] at hi
  by_cases e : i < rows.length
  · rw [List.getD_eq_getElem?_getD, List.getElem?_append_left (by omega), ← List.getD_eq_getElem?_getD]; exact h.a3 i e
  · rw [List.getD_eq_getElem?_getD, List.getElem?_append_right (by omega), show i - us.length = 0 by omega]; exact h3
theorem KR.pushW (h : KR W B q p nm ar v2 v3 vS us rows ws n cs) (hown : w3.ownsRow B 3 1 v' (ws.length + 1) (ws.map (Value.int .i64) ++ [.int .i64 x])) (hg : (W.alloc o).grownBy w3 v3.ownBlock) (hat : ∀ g, v'.ownBlock = some g → v3.ownBlock = some g ∨ W.heap.size ≤ g) :
    KR (w3.setCell ⟨p, 3, none⟩ v') B q p nm ar v2 v' vS us rows (ws ++ [x]) n cs := by
  have hX := h.rx.grown h.o3 (by decide) hg
  have hQ := h.rb.grown h.o3 (by decide) hg
  have ap : ∀ {y : Value} {k : Nat} {xs : List Value}, W.ownsRow B 3 1 y k xs → ApR y v3 → ApR y v' := fun hx ha g h1 h2 => by
    rcases hat g h2 with h3 | h3
    · exact ha g h1 h3
    · have := (hx.lt g h1).2; omega
  have hint : ∀ {y : Value} {k : Nat} {xs : List Value}, W.ownsRow B 3 1 y k xs → ApR y v3 → w3.ownsRow B 3 1 y k xs := fun hx ha =>
    own_move hx fun g hgx => kept_of hg (hx.lt g hgx).2 (fun e => ha g hgx e.symm)
  have htup : w3.ownsRow B 139 3 vS n cs := own_move h.st fun g hgx => kept_of hg (h.st.lt g hgx).2 (own_ne h.o3 (own_typ h.st hgx) (by decide))
  refine ⟨hX.set3 _, hQ.other h.ne _, ⟨?_, h.rq.len, fun i hi => own_keepR (hint (h.rq.each i hi) (h.a3 i hi)) hX.typ (by decide), h.rq.ap⟩, ?_, own_keepR htup hX.typ (by decide), fun i hi => ap (h.rq.each i hi) (h.a3 i hi), h.lo, h.ne⟩
  · exact own_keepR (own_move h.rq.own fun g hgx => kept_of hg (h.rq.own.lt g hgx).2 (own_ne h.o3 (own_typ h.rq.own hgx) (by decide))) hX.typ (by decide)
  · refine own_keepR ?_ hX.typ (by decide)
    rw [List.length_append, List.length_singleton, List.map_append]
    exact hown
end

end Go.Proofs.YtcdfoephhjacdaaGreatDoor
