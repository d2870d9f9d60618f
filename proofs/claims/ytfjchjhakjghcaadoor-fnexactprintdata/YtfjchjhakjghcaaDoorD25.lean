import Derived.Test.YtfjchjhakjghcaaDoorD05
/-
  spec.l1Zeros: n zeros.
-/
namespace Go.Proofs.YtfjchjhakjghcaaDoor
open Go.RowKit

def zs (k : Nat) : List Value := (List.replicate k [Value.int .i64 0, Value.int .i64 1]).flatten
theorem zs_succ (k : Nat) : zs (k + 1) = zs k ++ [.int .i64 0, .int .i64 1] := by
  simp [zs, List.replicate_succ', List.flatten_append]

theorem own_grow2 {B n s : Nat} {e : TypeId} {w wr w1 : World} {u : Value} {o : Obj} {xs : List Value} (hB : B ≤ wr.heap.size)
    (hown : wr.ownsRow B e s u n xs) (hnx : Below B w wr) (hgrow : (wr.alloc o).grownBy w1 u.ownBlock) : Below B w w1 :=
  (hnx.alloc hB o).grown hgrow (by simp; omega) (fun j hj => (hown.lt j hj).1)

end Go.Proofs.YtfjchjhakjghcaaDoor

/-
  impl.ratsOf: fractions as Rats.
-/
namespace Go.Proofs.YtfjchjhakjghcaaDoor
open Go.RowKit

/-- pairs of numbers in memory -/
def IR (w : World) (v : Value) (l : List (Int × Int)) : Prop := ∃ a cap, v = .slice a l.length cap ∧ (l.length = 0 ∨ ∃ b o, a = some ⟨b, o, none⟩ ∧ ∀ j, j < l.length →
  w.cell? ⟨b, o + j * 2, none⟩ = some (.int .i64 (l.getD j (0, 0)).1) ∧ w.cell? ⟨b, o + j * 2 + 1, none⟩ = some (.int .i64 (l.getD j (0, 0)).2))

def rcs (l : List (Int × Int)) : List Value := l.flatMap fun p => [.int .i64 p.1, .int .i64 p.2]
theorem rcs_succ (l : List (Int × Int)) (k : Nat) (h : k < l.length) : rcs (l.take (k + 1)) = rcs (l.take k) ++ [.int .i64 (l.getD k (0, 0)).1, .int .i64 (l.getD k (0, 0)).2] := by
  unfold rcs
  rw [List.take_add_one, List.getElem?_eq_getElem h, List.getD_eq_getElem?_getD, List.getElem?_eq_getElem h]
  simp only [Option.toList_some, List.flatMap_append, List.flatMap_cons, List.flatMap_nil, List.append_nil, Option.getD_some]

theorem own_below {B n s : Nat} {e : TypeId} {w w' : World} {v : Value} {xs : List Value} (h : w.ownsRow B e s v n xs) (hb : Below w.heap.size w w') : w'.ownsRow B e s v n xs := by
  obtain ⟨h1, h2⟩ := h
  refine ⟨h1, ?_⟩
  rcases h2 with h2 | ⟨g, cap, cur, hv, hg, hc, hr⟩
  · exact Or.inl h2
  · refine Or.inr ⟨g, cap, cur, hv, hg, ?_, hr⟩
    rw [hb.block g (by
      rcases Nat.lt_or_ge g w.heap.size with h3 | h3
      · exact h3
      · rw [Array.getElem?_eq_none h3] at hc; cases hc)]
    exact hc

end Go.Proofs.YtfjchjhakjghcaaDoor
