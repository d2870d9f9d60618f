import Derived.Deep.CutRange
import Derived.Deep.RegionLaw
import Derived.Lib.AppendStr
import Derived.Lib.UnsafeStr
import Derived.Test.YtfjchjhakjghcaaDoorD22
import Derived.Test.YtfjchjhakjghcaaDoorD28
/-
  spec.PrintData.
-/
namespace Go.Proofs.YtfjchjhakjghcaaDoor
open Go.RowKit

theorem step_append_str {P : Program} {w : World} {ops : Array Oper} {o : Oper} {a : Act} {K : Act → World → Prop} {Q : Exit → Act → World → Prop} {E : Prop} (hgd : o.guard = none) (sl x : Operand) (t u : TypeId)
    (ho : o.op = .call { callee := .builtin .append, args := #[sl, x], argTypes := #[t, u] })
    (base : Nat) (e : TypeId) (i : TypeInfo) (ht : P.underlying t = some (.slice e)) (hu : P.underlying u = some .string) (hi : P.info? e = some i) (hz : i.zero = some (.int .u8 0))
    (hsize : i.size = 1) (hby : i.bytes = 1)
    (v : Value) (n : Nat) (xs : List Value) (hs : a.eval sl = v) (hown : w.ownsRow base e 1 v n xs) (s : ByteArray) (hx : a.eval x = .string s)
    (h63 : n + s.size ≤ maxLen) (hbytes : n + s.size ≤ 140737488355328) (hbase : base ≤ w.heap.size)
    (h : ∀ v' w', w'.ownsRow base e 1 v' (n + s.size) (xs ++ Lib.strCells s) → w.grownBy w' v.ownBlock → K (a.put o.dst v') w') : if Region.wanted o (yielded ops a.tmps) = true then Oper.wp P o a w K Q else E := by
  have hw : Region.wanted o (yielded ops a.tmps) = true := by simp [Region.wanted, hgd]
  rw [if_pos hw]
  obtain ⟨v', w', hr, h2, h3, h4⟩ := Lib.run_append_own_string (P := P) w base t u o.type e i ht hu hi hz hsize hby v n xs hown s h63 hbytes hbase
  unfold Oper.wp execOp
  simp only [ho, resolve, invoke, builtin, Sem.run_bind, Sem.run_pure, Result.andThen_ok, List.map_toArray, List.map_cons, List.map_nil, hs, hx, hr]
  exact h v' w' h2 h3

theorem Tryd.infoByte : (Tryd.prog.info? 5).map (fun i => (i.zero, i.size, i.bytes)) = some (some (.int .u8 0), 1, 1) := by kernel_rfl

/-- a relation's block -/
structure RXp (W : World) (p : Nat) (nm : ByteArray) (ar : Int) (v2 v3 : Value) : Prop where
  blk : W.heap[p]? = some (.cells #[.string nm, .int .i64 ar, v2, v3] 54 (0, 0))
section
variable {W W' w3 : World} {p : Nat} {nm : ByteArray} {ar : Int} {v2 v3 : Value}
theorem RXp.lt (h : RXp W p nm ar v2 v3) : p < W.heap.size := by
  rcases Nat.lt_or_ge p W.heap.size with h1 | h1
  · exact h1
  · have := h.blk; rw [Array.getElem?_eq_none h1] at this; cases this
theorem RXp.below (h : RXp W p nm ar v2 v3) (hb : Below W.heap.size W W') : RXp W' p nm ar v2 v3 := ⟨(hb.block p h.lt).trans h.blk⟩
theorem RXp.c0 (h : RXp W p nm ar v2 v3) : W.cell? ⟨p, 0, none⟩ = some (.string nm) := by rw [cell_of_row _ _ _ _ _ _ h.blk]; rfl
theorem RXp.c1 (h : RXp W p nm ar v2 v3) : W.cell? ⟨p, 1, none⟩ = some (.int .i64 ar) := by rw [cell_of_row _ _ _ _ _ _ h.blk]; rfl
theorem RXp.c2 (h : RXp W p nm ar v2 v3) : W.cell? ⟨p, 2, none⟩ = some v2 := by rw [cell_of_row _ _ _ _ _ _ h.blk]; rfl
theorem RXp.c3 (h : RXp W p nm ar v2 v3) : W.cell? ⟨p, 3, none⟩ = some v3 := by rw [cell_of_row _ _ _ _ _ _ h.blk]; rfl
theorem RXp.made (W : World) (nm : ByteArray) (ar : Int) (v2 v3 : Value) : RXp (W.alloc (.cells #[.string nm, .int .i64 ar, v2, v3] 54)) W.heap.size nm ar v2 v3 := ⟨heap_alloc_new _ _⟩
theorem RXp.typ (h : RXp W p nm ar v2 v3) : ∃ cur, W.heap[p]? = some (.cells cur 54 (0, 0)) := ⟨_, h.blk⟩
theorem RXp.grown {B s n : Nat} {u : Value} {e : TypeId} {xs : List Value} (h : RXp W p nm ar v2 v3) (hu : W.ownsRow B e s u n xs) (he : e ≠ 54) (hg : W.grownBy w3 u.ownBlock) : RXp w3 p nm ar v2 v3 := ⟨(hg.block p h.lt (own_ne hu h.typ he)).trans h.blk⟩
end

/-- the bytes so far -/
structure OB (w W : World) (v : Value) (l : List UInt8) : Prop where
  bw : Below w.heap.size w W
  own : W.ownsRow w.heap.size 5 1 v l.length (Lib.byteCells l)
theorem OB.below {w W W' : World} {v : Value} {l : List UInt8} (h : OB w W v l) (hb : Below W.heap.size W W') : OB w W' v l := ⟨bt h.bw hb, own_below h.own hb⟩
theorem OB.push {w W w3 : World} {v v' : Value} {l l2 : List UInt8} {s : ByteArray} (h : OB w W v l) (hs : s = ⟨l2.toArray⟩) (hown : w3.ownsRow w.heap.size 5 1 v' (l.length + s.size) (Lib.byteCells l ++ Lib.strCells s)) (hg : W.grownBy w3 v.ownBlock) : OB w w3 v' (l ++ l2) := by
  have hz : s.size = l2.length := by rw [hs]; show l2.toArray.size = _; simp
  have e : Lib.strCells s = Lib.byteCells l2 := by rw [hs]; simp [Lib.strCells, Lib.byteCells]
  refine ⟨h.bw.grown hg h.bw.size (fun q hq => (h.own.lt q hq).1), ?_⟩
  rw [hz, e] at hown
  rw [List.length_append]
  unfold Lib.byteCells at *
  rw [List.map_append]
  exact hown

theorem nm_cat (r : RelV) : r.name = ⟨(nmL r).toArray⟩ := by unfold nmL; simp
theorem lineR_eq (r : RelV) : (⟨#[114, 101, 108, 32]⟩ : ByteArray) ++ r.name ++ ⟨#[32]⟩ ++ ⟨(Lib.itoa r.ar).toArray⟩ ++ ⟨#[10]⟩ = ⟨(lineR r).toArray⟩ := by
  unfold lineR
  rw [← cat_bytes, ← cat_bytes, ← cat_bytes, ← cat_bytes, ← nm_cat]
theorem lineW_eq (r : RelV) (i : Nat) : r.name ++ (⟨#[32]⟩ : ByteArray) ++ ⟨(rowT (r.rows.getD i [])).toArray⟩ ++ ⟨#[32]⟩ ++ ⟨(Lib.itoa (r.ws.getD i 0)).toArray⟩ ++ ⟨#[10]⟩ = ⟨(lineW r i).toArray⟩ := by
  unfold lineW
  rw [← cat_bytes, ← cat_bytes, ← cat_bytes, ← cat_bytes, ← cat_bytes, ← nm_cat]

end Go.Proofs.YtfjchjhakjghcaaDoor
