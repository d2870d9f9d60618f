import Derived.Deep.AppendLies
import Derived.Deep.RegionHeldLaw
import Derived.Test.YtcdfoephhjacdaaGreatDoorR07
import Derived.Test.YtcdfoephhjacdaaGreatDoorR10
import Derived.Test.YtcdfoephhjacdaaGreatDoorR17
/-
  The model's reader: atom.
-/
namespace Go.Proofs.YtcdfoephhjacdaaGreatDoor
open Go.RowKit

def aft {α : Type} (r : Except Nat (α × Nat)) : Nat × Bool := match r with | .ok (_, p) => (p, false) | .error e => (e, true)
/-- behind a term -/
def cntF (ts : List TkV) (f p : Nat) (acc : List TermV) : Except Nat (List TermV × Nat) :=
  match tk ts [44, 41] p with
  | .error e => .error e
  | .ok (u, p2) => if u.k = 44 then trmF ts f p2 acc else .ok (acc, p2)
def finA (r : Except Nat (List TermV × Nat)) (rel : ByteArray) : Except Nat (AtomV × Nat) := match r with | .error e => .error e | .ok (l, p3) => .ok ((rel, l), p3)
def atmB (ts : List TkV) (p : Nat) (b : Bool) : Except Nat (AtomV × Nat) := if b then .error p else atmF ts p

theorem ntB_iff {ts : List TkV} {p k : Nat} {b : Bool} : ntB ts p b k = true ↔ b = false ∧ p < ts.length ∧ (ts.getD p noTk).k = k := by
  unfold ntB
  cases b <;> simp
theorem tkB_iff {ts : List TkV} {p c : Nat} {b : Bool} : tkB ts p b c = true ↔ b = false ∧ p < ts.length ∧ (ts.getD p noTk).k = c := by
  unfold tkB
  cases b <;> simp
theorem trm_yes {ts : List TkV} {f p : Nat} {acc : List TermV} (hf : ts.length ≤ p + f) (hp : p < ts.length) (hk : (ts.getD p noTk).k = 97 ∨ (ts.getD p noTk).k = 48) : ∃ f', ts.length ≤ p + 1 + f' ∧ trmF ts f p acc = cntF ts f' (p + 1) (acc ++ [((ts.getD p noTk).nm, ((ts.getD p noTk).v : Int))]) := by
  cases f with
  | zero => omega
  | succ f =>
    refine ⟨f, by omega, ?_⟩
    rw [trmF, tk_ok hp (by simpa using hk)]
    rfl
theorem trm_no {ts : List TkV} {f p : Nat} {acc : List TermV} (h : p < ts.length → (ts.getD p noTk).k ≠ 97 ∧ (ts.getD p noTk).k ≠ 48) : trmF ts f p acc = .error p := by
  cases f with
  | zero => rfl
  | succ f => rw [trmF, tk_no (fun hp hm => by have h2 := h hp; simp only [List.mem_cons, List.not_mem_nil, or_false] at hm; omega)]
theorem cnt_com {ts : List TkV} {f p : Nat} {acc : List TermV} (hp : p < ts.length) (hk : (ts.getD p noTk).k = 44) : cntF ts f p acc = trmF ts f (p + 1) acc := by
  unfold cntF
  rw [tk_ok hp (by rw [hk]; simp)]
  exact if_pos hk
theorem cnt_end {ts : List TkV} {f p : Nat} {acc : List TermV} (hp : p < ts.length) (hk : (ts.getD p noTk).k = 41) : cntF ts f p acc = .ok (acc, p + 1) := by
  unfold cntF
  rw [tk_ok hp (by rw [hk]; simp)]
  exact if_neg (by rw [hk]; decide)
theorem cnt_no {ts : List TkV} {f p : Nat} {acc : List TermV} (h : p < ts.length → (ts.getD p noTk).k ≠ 44 ∧ (ts.getD p noTk).k ≠ 41) : cntF ts f p acc = .error p := by
  unfold cntF
  rw [tk_no (fun hp hm => by have h2 := h hp; simp only [List.mem_cons, List.not_mem_nil, or_false] at hm; omega)]

def tmc (t : TermV) : List Value := [.string t.1, .int .i64 t.2]
theorem Ex.belN {g : Nat} {a b c : World} (h : Ex g a b) (k : Below a.heap.size b c) : Ex g a c :=
  ⟨k.os.trans h.os, k.tape.trans h.tape, k.output.trans h.output, Nat.le_trans h.size k.size, fun x hx hg => (k.block x hx).trans (h.block x hx hg)⟩
/-- an atom in the making: its block A, its terms -/
structure AtS (w0 W : World) (g A : Nat) (rel : ByteArray) (x : Value) (acc : List TermV) : Prop where
  blk : W.heap[A]? = some (.cells #[.string rel, x] 55 (0, 0))
  own : W.ownsRow w0.heap.size 89 2 x acc.length (acc.flatMap tmc)
  ex : Ex g w0 W
  hA : w0.heap.size ≤ A
  hg : g < w0.heap.size
section
variable {w0 W W' w3 : World} {g A : Nat} {rel : ByteArray} {x : Value} {acc : List TermV}
theorem AtS.c0 (h : AtS w0 W g A rel x acc) : W.cell? ⟨A, 0, none⟩ = some (.string rel) := cell_of_row _ _ _ _ _ _ h.blk
theorem AtS.c1 (h : AtS w0 W g A rel x acc) : W.cell? ⟨A, 1, none⟩ = some x := cell_of_row _ _ _ _ _ _ h.blk
theorem AtS.lt (h : AtS w0 W g A rel x acc) : A < W.heap.size := World.block_lt_of_cell? W _ h.c0
theorem AtS.free (h : AtS w0 W g A rel x acc) (q : Nat) : W.frozen? ⟨A, q, none⟩ = false := by
  unfold World.frozen?
  rw [h.blk]
  simp
theorem AtS.next (h : AtS w0 W g A rel x acc) (he : Ex g W W') : AtS w0 W' g A rel x acc :=
  ⟨(he.block A h.lt (by have := h.hA; have := h.hg; omega)).trans h.blk, own_move h.own fun b hb => he.block b (h.own.lt b hb).2 (by have := (h.own.lt b hb).1; have := h.hg; omega), h.ex.trans he, h.hA, h.hg⟩
theorem AtS.bel3 {o : Obj} (h : AtS w0 W g A rel x acc) (hg : (W.alloc o).grownBy w3 x.ownBlock) : Below w0.heap.size W w3 :=
  ((Below.refl w0.heap.size W).alloc h.ex.size o).grown hg (by have := h.ex.size; simp; omega) (fun b hb => (h.own.lt b hb).1)
theorem AtS.blk3 {o : Obj} (h : AtS w0 W g A rel x acc) (hg : (W.alloc o).grownBy w3 x.ownBlock) : w3.heap[A]? = some (.cells #[.string rel, x] 55 (0, 0)) :=
  (kept_of hg h.lt (own_ne h.own ⟨_, h.blk⟩ (by decide))).trans h.blk
theorem AtS.push {o : Obj} {x' : Value} {t : TermV} (h : AtS w0 W g A rel x acc) (hg : (W.alloc o).grownBy w3 x.ownBlock) (hown : w3.ownsRow w0.heap.size 89 2 x' (acc.length + 1) (acc.flatMap tmc ++ tmc t)) : AtS w0 (w3.setCell ⟨A, 1, none⟩ x') g A rel x' (acc ++ [t]) := by
  have hb := h.blk3 hg
  refine ⟨by rw [heap_setCell_same _ _ _ _ _ _ hb]; rfl, ?_, ?_, h.hA, h.hg⟩
  · rw [List.length_append, List.length_singleton, List.flatMap_append, List.flatMap_cons, List.flatMap_nil, List.append_nil]
    exact own_move hown fun b hb2 => Below.heap_setCell _ _ _ _ (fun e => by
      have ht := own_typ hown hb2
      rw [show b = A from e, hb] at ht
      obtain ⟨cur, ht⟩ := ht
      simp at ht)
  · exact (h.ex.belN (h.bel3 hg)).new h.hA
end
end Go.Proofs.YtcdfoephhjacdaaGreatDoor

/-
  The model's reader: atom, walked.
-/
namespace Go.Proofs.YtcdfoephhjacdaaGreatDoor
open Go.RowKit

theorem own_shapeT2 {w : World} {B n s : Nat} {e : TypeId} {v : Value} {xs : List Value} (h : w.ownsRow B e s v n xs) : ∃ a cap, v = .slice a n cap := by
  rcases h.2 with ⟨rfl, h2⟩ | ⟨g, cap, cur, rfl, -⟩
  · exact ⟨none, 0, by rw [h2]⟩
  · exact ⟨_, cap, rfl⟩
theorem new2_cell (w : World) (x y : Value) (t : TypeId) : ∀ j v, [x, y][j]? = some v → (w.alloc (.cells #[x, y] t)).cell? ((⟨w.heap.size, 0, none⟩ : Addr).add j) = some v := by
  intro j v hj
  have e : (⟨w.heap.size, 0, none⟩ : Addr).add j = ⟨w.heap.size, j, none⟩ := by unfold Addr.add; by_cases h0 : j = 0 <;> simp [h0]
  rw [e, World.cell?_alloc_at _ _ _ _ rfl]
  match j, hj with
  | 0, hj => simpa using hj
  | 1, hj => simpa using hj
  | j + 2, hj => simp at hj
/-- where the reader stands -/
def posOf (W : World) (g : Nat) : Nat := match W.cell? ⟨g, 1, none⟩ with | some (.int _ z) => z.toNat | _ => 0
/-- the term that is read at p, and the state behind it -/
def tmA (ts : List TkV) (p : Nat) (b : Bool) : TermV := (if ntB ts p b 48 then ⟨#[]⟩ else if ntB ts p b 97 then (ts.getD p noTk).nm else ⟨#[]⟩, if ntB ts p b 48 then ((ts.getD p noTk).v : Int) else 0)
def tmP (ts : List TkV) (p : Nat) (b : Bool) : Nat := if ntB ts p b 48 then p + 1 else if ntB ts p b 97 then p + 1 else p
def tmQ (ts : List TkV) (p : Nat) (b : Bool) : Bool := if ntB ts p b 48 then b else if ntB ts p b 97 then b else true
/-- the loop's state: what is read so far gives the whole -/
def AtI (ts : List TkV) (R : Except Nat (AtomV × Nat)) (rel : ByteArray) (p : Nat) (b : Bool) (acc : List TermV) : Prop := if b then R = .error p else ∃ f, ts.length ≤ p + f ∧ R = finA (cntF ts f p acc) rel
theorem AtI.first {ts : List TkV} {R : Except Nat (AtomV × Nat)} {rel : ByteArray} {p f : Nat} {b : Bool} {acc : List TermV} (hok : ∀ j, j < ts.length → TkOk (ts.getD j noTk)) (h : if b then R = .error p else ts.length ≤ p + f ∧ R = finA (trmF ts f p acc) rel) : AtI ts R rel (tmP ts p b) (tmQ ts p b) (acc ++ [tmA ts p b]) := by
  cases b with
  | true => exact h
  | false =>
    obtain ⟨hf, hR⟩ := h
    unfold tmP tmQ tmA AtI
    by_cases h48 : ntB ts p false 48 = true
    · obtain ⟨-, hp, hk⟩ := ntB_iff.1 h48
      obtain ⟨f', hf', e⟩ := trm_yes (acc := acc) hf hp (Or.inr hk)
      rw [h48]
      refine ⟨f', hf', ?_⟩
      rw [hR, e]
      have hn : (ts.getD p noTk).nm = ⟨#[]⟩ := (hok p hp).nm (by omega)
      rw [hn]; rfl
    · rw [Bool.not_eq_true] at h48
      by_cases h97 : ntB ts p false 97 = true
      · obtain ⟨-, hp, hk⟩ := ntB_iff.1 h97
        obtain ⟨f', hf', e⟩ := trm_yes (acc := acc) hf hp (Or.inl hk)
        rw [h48, h97]
        refine ⟨f', hf', ?_⟩
        rw [hR, e]
        have hn : (ts.getD p noTk).v = 0 := (hok p hp).vz hk
        rw [hn]; rfl
      · rw [Bool.not_eq_true] at h97
        rw [h48, h97]
        show R = .error p
        rw [hR, trm_no (fun hp => ⟨fun e => absurd (ntB_iff.2 ⟨rfl, hp, e⟩) (by rw [h97]; decide), fun e => absurd (ntB_iff.2 ⟨rfl, hp, e⟩) (by rw [h48]; decide)⟩)]
        rfl

theorem at2_set {W : World} {r : Nat} {u v x y : Value} (h : W.heap[r]? = some (.cells #[u, v] 55 (0, 0))) : ((W.setCell ⟨r, 0, none⟩ x).setCell ⟨r, 1, none⟩ y).heap[r]? = some (.cells #[x, y] 55 (0, 0)) := by
  have h1 : (W.setCell ⟨r, 0, none⟩ x).heap[r]? = some (.cells #[x, v] 55 (0, 0)) := by rw [heap_setCell_same _ _ _ _ _ _ h]; rfl
  rw [heap_setCell_same _ _ _ _ _ _ h1]; rfl
theorem own_setA {W : World} {B n r o : Nat} {x y u v : Value} {xs : List Value} (h : W.ownsRow B 89 2 x n xs) (hr : W.heap[r]? = some (.cells #[u, v] 55 (0, 0))) : (W.setCell ⟨r, o, none⟩ y).ownsRow B 89 2 x n xs :=
  own_move h fun b hb => Below.heap_setCell _ _ _ _ (fun e => by
    obtain ⟨cur, ht⟩ := own_typ h hb
    rw [show b = r from e, hr] at ht
    simp at ht)

end Go.Proofs.YtcdfoephhjacdaaGreatDoor
