import Derived.Deep.AppendLies
import Derived.Test.YtcdfoephhjacdaaDoorQ20
import Derived.Test.YtcdfoephhjacdaaDoorQ38
import Derived.Test.YtcdfoephhjacdaaDoorQ58
/-
  The model's reader: atom.
-/
namespace Go.Proofs.YtcdfoephhjacdaaDoor
open Go.RowKit

def aft {α : Type} (r : Except Nat (α × Nat)) : Nat × Bool := match r with | .ok (_, p) => (p, false) | .error e => (e, true)
/-- behind a term -/
def cntF (ts : List TkV) (f p : Nat) (acc : List TermV) : Except Nat (List TermV × Nat) :=
  match tk ts [44, 41] p with
  | .error e => .error e
  | .ok (u, p2) => if u.k = 44 then trmF ts f p2 acc else .ok (acc, p2)
def finA (r : Except Nat (List TermV × Nat)) (rel : ByteArray) : Except Nat (AtomV × Nat) := match r with | .error e => .error e | .ok (l, p3) => .ok ((rel, l), p3)
def atmB (ts : List TkV) (p : Nat) (b : Bool) : Except Nat (AtomV × Nat) := if b then .error p else atmF ts p

theorem ntB_iff {ts : List TkV} {p k : Nat} {b : Bool} : ntB ts p b k = true ↔ b = false ∧ p < ts.length ∧ (ts.getD p noTk).k = k := by
  unfold ntB
  cases b <;> simp
theorem tkB_iff {ts : List TkV} {p c : Nat} {b : Bool} : tkB ts p b c = true ↔ b = false ∧ p < ts.length ∧ (ts.getD p noTk).k = c := by
  unfold tkB
  cases b <;> simp
theorem trm_yes {ts : List TkV} {f p : Nat} {acc : List TermV} (hf : ts.length ≤ p + f) (hp : p < ts.length) (hk : (ts.getD p noTk).k = 97 ∨ (ts.getD p noTk).k = 48) : ∃ f', ts.length ≤ p + 1 + f' ∧ trmF ts f p acc = cntF ts f' (p + 1) (acc ++ [((ts.getD p noTk).nm, ((ts.getD p noTk).v : Int))]) := by
  cases f with
  | zero => omega
  | succ f =>
    refine ⟨f, by omega, ?_⟩
    rw [trmF, tk_ok hp (by simpa using hk)]
    rfl
theorem trm_no {ts : List TkV} {f p : Nat} {acc : List TermV} (h : p < ts.length → (ts.getD p noTk).k ≠ 97 ∧ (ts.getD p noTk).k ≠ 48) : trmF ts f p acc = .error p := by
  cases f with
  | zero => rfl
  | succ f => rw [trmF, tk_no (fun hp hm => by have h2 := h hp; simp only [List.mem_cons, List.not_mem_nil, or_false] at hm; omega)]
theorem cnt_com {ts : List TkV} {f p : Nat} {acc : List TermV} (hp : p < ts.length) (hk : (ts.getD p noTk).k = 44) : cntF ts f p acc = trmF ts f (p + 1) acc := by
  unfold cntF
  rw [tk_ok hp (by rw [hk]; simp)]
  exact if_pos hk
theorem cnt_end {ts : List TkV} {f p : Nat} {acc : List TermV} (hp : p < ts.length) (hk : (ts.getD p noTk).k = 41) : cntF ts f p acc = .ok (acc, p + 1) := by
  unfold cntF
  rw [tk_ok hp (by rw [hk]; simp)]
  exact if_neg (by rw [hk]; decide)
theorem cnt_no {ts : List TkV} {f p : Nat} {acc : List TermV} (h : p < ts.length → (ts.getD p noTk).k ≠ 44 ∧ (ts.getD p noTk).k ≠ 41) : cntF ts f p acc = .error p := by
  unfold cntF
  rw [tk_no (fun hp hm => by have h2 := h hp; simp only [List.mem_cons, List.not_mem_nil, or_false] at hm; omega)]

def tmc (t : TermV) : List Value := [.string t.1, .int .i64 t.2]
theorem Ex.belN {g : Nat} {a b c : World} (h : Ex g a b) (k : Below a.heap.size b c) : Ex g a c :=
  ⟨k.os.trans h.os, k.tape.trans h.tape, k.output.trans h.output, Nat.le_trans h.size k.size, fun x hx hg => (k.block x hx).trans (h.block x hx hg)⟩
/-- an atom in the making: its block A, its terms -/
structure AtS (w0 W : World) (g A : Nat) (rel : ByteArray) (x : Value) (acc : List TermV) : Prop where
  blk : W.heap[A]? = some (.cells #[.string rel, x] 96 (0, 0))
  own : W.ownsRow w0.heap.size 145 2 x acc.length (acc.flatMap tmc)
  ex : Ex g w0 W
  hA : w0.heap.size ≤ A
  hg : g < w0.heap.size
section
variable {w0 W W' w3 : World} {g A : Nat} {rel : ByteArray} {x : Value} {acc : List TermV}
theorem AtS.c0 (h : AtS w0 W g A rel x acc) : W.cell? ⟨A, 0, none⟩ = some (.string rel) := cell_of_row _ _ _ _ _ _ h.blk
theorem AtS.c1 (h : AtS w0 W g A rel x acc) : W.cell? ⟨A, 1, none⟩ = some x := cell_of_row _ _ _ _ _ _ h.blk
theorem AtS.lt (h : AtS w0 W g A rel x acc) : A < W.heap.size := World.block_lt_of_cell? W _ h.c0
theorem AtS.free (h : AtS w0 W g A rel x acc) (q : Nat) : W.frozen? ⟨A, q, none⟩ = false := by
  unfold World.frozen?
  rw [h.blk]
  simp
theorem AtS.next (h : AtS w0 W g A rel x acc) (he : Ex g W W') : AtS w0 W' g A rel x acc :=
  ⟨(he.block A h.lt (by have := h.hA; have := h.hg; omega)).trans h.blk, own_move h.own fun b hb => he.block b (h.own.lt b hb).2 (by have := (h.own.lt b hb).1; have := h.hg; omega), h.ex.trans he, h.hA, h.hg⟩
theorem AtS.bel3 {o : Obj} (h : AtS w0 W g A rel x acc) (hg : (W.alloc o).grownBy w3 x.ownBlock) : Below w0.heap.size W w3 :=
  ((Below.refl w0.heap.size W).alloc h.ex.size o).grown hg (by have := h.ex.size; simp; omega) (fun b hb => (h.own.lt b hb).1)
theorem AtS.blk3 {o : Obj} (h : AtS w0 W g A rel x acc) (hg : (W.alloc o).grownBy w3 x.ownBlock) : w3.heap[A]? = some (.cells #[.string rel, x] 96 (0, 0)) :=
  (kept_of hg h.lt (own_ne h.own ⟨_, h.blk⟩ (by decide))).trans h.blk
theorem AtS.push {o : Obj} {x' : Value} {t : TermV} (h : AtS w0 W g A rel x acc) (hg : (W.alloc o).grownBy w3 x.ownBlock) (hown : w3.ownsRow w0.heap.size 145 2 x' (acc.length + 1) (acc.flatMap tmc ++ tmc t)) : AtS w0 (w3.setCell ⟨A, 1, none⟩ x') g A rel x' (acc ++ [t]) := by
  have hb := h.blk3 hg
  refine ⟨by rw [heap_setCell_same _ _ _ _ _ _ hb]; rfl, ?_, ?_, h.hA, h.hg⟩
  · rw [List.length_append, List.length_singleton, List.flatMap_append, List.flatMap_cons, List.flatMap_nil, List.append_nil]
    exact own_move hown fun b hb2 => Below.heap_setCell _ _ _ _ (fun e => by
      have ht := own_typ hown hb2
      rw [show b = A from e, hb] at ht
      obtain ⟨cur, ht⟩ := ht
      simp at ht)
  · exact (h.ex.belN (h.bel3 hg)).new h.hA
end
theorem RdB.belN {W W' : World} {g p N : Nat} {v : Value} {b : Bool} (h : RdB W g v p b) (hb : Below N W W') (hg : g < N) : RdB W' g v p b := ⟨(hb.block g hg).trans h.blk⟩

end Go.Proofs.YtcdfoephhjacdaaDoor
