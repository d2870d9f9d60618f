import Derived.Deep.Cut
import Derived.Deep.OwnRows
import Derived.Test.YtcgboccdffgkfaaDoorPa02
import Derived.Test.YtcgboccdffgkfaaDoorPa04
import Derived.Test.YtcgboccdffgkfaaDoorPa37
/-
  Atoms and lists of atoms: laws.szAtom(S), toAtom(S), eqAtom(S).
-/
namespace Go.Proofs.YtcgboccdffgkfaaDoor
open Go.RowKit

abbrev AtomV := ByteArray × List TermV
def noAt : AtomV := (noTx, [])

/-- one atom's cells -/
def AtAt (w : World) (b o : Nat) (x : AtomV) : Prop := ∃ u, w.cell? ⟨b, o, none⟩ = some (.string x.1) ∧ w.cell? ⟨b, o + 1, none⟩ = some u ∧ ITm w u x.2

theorem AtAt.below {w w' : World} {b o : Nat} {x : AtomV} (h : AtAt w b o x) (hb : Below w.heap.size w w') : AtAt w' b o x := by
  obtain ⟨u, h0, h1, h2⟩ := h
  exact ⟨u, (hb.cell (p := ⟨b, o, none⟩) (World.block_lt_of_cell? w _ h0)).trans h0, (hb.cell (p := ⟨b, o + 1, none⟩) (World.block_lt_of_cell? w _ h1)).trans h1, h2.below hb⟩

/-- a list of atoms, read only -/
def IAt (w : World) (v : Value) (l : List AtomV) : Prop := ∃ a cap, v = .slice a l.length cap ∧ (l.length = 0 ∨ ∃ b o, a = some ⟨b, o, none⟩ ∧ ∀ j, j < l.length → AtAt w b (o + j * 2) (l.getD j noAt))

theorem IAt.below {w w' : World} {v : Value} {l : List AtomV} (h : IAt w v l) (hb : Below w.heap.size w w') : IAt w' v l := by
  obtain ⟨a, cap, rfl, h⟩ := h
  refine ⟨a, cap, rfl, ?_⟩
  rcases h with h | ⟨b, o, rfl, h⟩
  · exact Or.inl h
  · exact Or.inr ⟨b, o, rfl, fun j hj => (h j hj).below hb⟩

/-- what the size of an atom may be -/
structure FitAt (x : AtomV) : Prop where
  rel : x.1.size ≤ 9223372036854775807
  len : x.2.length ≤ 9223372036854775807
  tx : ∀ j, (x.2.getD j noTm).1.size ≤ 9223372036854775807
/-- small enough to be copied -/
structure OkAt (x : AtomV) : Prop where
  rel : x.1.size ≤ 1048576
  len : x.2.length ≤ 1048576
  tx : ∀ j, j < x.2.length → (x.2.getD j noTm).1.size ≤ 1048576

theorem heap_set_ne {w : World} {g c o : Nat} {v : Value} (h : g ≠ c) : (w.setCell ⟨c, o, none⟩ v).heap[g]? = w.heap[g]? := Below.heap_setCell _ _ _ _ h

end Go.Proofs.YtcgboccdffgkfaaDoor

/-
  laws.toAtomS, eqAtom, eqAtomS, szAtom, szAtomS.
-/
namespace Go.Proofs.YtcgboccdffgkfaaDoor
open Go.RowKit

/-- the cells of a copied atom: its terms lie in a block of their own behind g -/
def AtR (W : World) (g : Nat) (x : AtomV) (a b : Value) : Prop := a = .string x.1 ∧ ∃ gt, b = .slice (some ⟨gt, 0, none⟩) x.2.length x.2.length ∧ OwnTm W gt x.2 ∧ g < gt

theorem AtR.below {W W' : World} {g : Nat} {x : AtomV} {a b : Value} (h : AtR W g x a b) (hb : Below W.heap.size W W') : AtR W' g x a b := by
  obtain ⟨h0, gt, h1, h2, h3⟩ := h
  exact ⟨h0, gt, h1, h2.below hb, h3⟩
theorem AtR.set {W : World} {g o : Nat} {x : AtomV} {a b v : Value} (h : AtR W g x a b) : AtR (W.setCell ⟨g, o, none⟩ v) g x a b := by
  obtain ⟨h0, gt, h1, h2, h3⟩ := h
  exact ⟨h0, gt, h1, h2.move (heap_set_ne (by omega)) (by simp [World.setCell]), h3⟩

/-- a copy of atoms, in block g and blocks behind it -/
def OwnAt (W : World) (g : Nat) (l : List AtomV) : Prop := HalfP W g l.length l.length (fun i a b => AtR W g (l.getD i noAt) a b) ∧ g < W.heap.size

theorem OwnAt.below {W W' : World} {g : Nat} {l : List AtomV} (h : OwnAt W g l) (hb : Below W.heap.size W W') : OwnAt W' g l :=
  ⟨h.1.below h.2 hb (fun _ _ _ _ h => h.below hb), Nat.lt_of_lt_of_le h.2 hb.size⟩

theorem OwnAt.set {W : World} {g c o : Nat} {v : Value} {l : List AtomV} (h : OwnAt W g l) (hc : c < g) : OwnAt (W.setCell ⟨c, o, none⟩ v) g l := by
  have ne : ∀ q, (W.setCell ⟨c, o, none⟩ v).cell? ⟨g, q, none⟩ = W.cell? ⟨g, q, none⟩ := fun q => World.cell?_setCell_other _ _ _ _ (by intro e; simp only [Addr.mk.injEq] at e; omega)
  refine ⟨⟨fun q hq => by rw [ne]; exact h.1.any q hq, fun q hq => by rw [World.frozen?_setCell]; exact h.1.free q hq, fun i hi => ?_⟩, by simpa [World.setCell] using h.2⟩
  obtain ⟨u0, u1, h0, h1, e0, gt, e1, h2, h3⟩ := h.1.pair i hi
  exact ⟨u0, u1, by rw [ne]; exact h0, by rw [ne]; exact h1, e0, gt, e1, h2.move (heap_set_ne (by omega)) (by simp [World.setCell]), h3⟩

theorem OwnAt.is {W : World} {g : Nat} {l : List AtomV} (h : OwnAt W g l) : IAt W (.slice (some ⟨g, 0, none⟩) l.length l.length) l :=
  ⟨_, _, rfl, Or.inr ⟨g, 0, rfl, fun j hj => by
    obtain ⟨u0, u1, h0, h1, rfl, gt, rfl, h3, _⟩ := h.1.pair j hj
    exact ⟨_, by rw [Nat.zero_add]; exact h0, by rw [Nat.zero_add]; exact h1, h3.is⟩⟩⟩

end Go.Proofs.YtcgboccdffgkfaaDoor

/-
  laws.szAtom, szAtomS; queries: szQuery, eqQuery.
-/
namespace Go.Proofs.YtcgboccdffgkfaaDoor
open Go.RowKit

structure QV where
  name : ByteArray
  head : List ByteArray
  ring : Int
  atoms : List AtomV

structure IQ (w : World) (vh va : Value) (q : QV) : Prop where
  head : ISt w vh q.head
  atoms : IAt w va q.atoms

theorem IQ.below {w w' : World} {vh va : Value} {q : QV} (h : IQ w vh va q) (hb : Below w.heap.size w w') : IQ w' vh va q := ⟨h.head.below hb, h.atoms.below hb⟩

structure FitQ (q : QV) : Prop where
  name : q.name.size ≤ 9223372036854775807
  len : q.head.length ≤ 9223372036854775807
  head : ∀ j, (q.head.getD j noTx).size ≤ 9223372036854775807
  alen : q.atoms.length ≤ 9223372036854775807
  atoms : ∀ j, FitAt (q.atoms.getD j noAt)
structure OkQ (q : QV) : Prop where
  name : q.name.size ≤ 1048576
  len : q.head.length ≤ 1048576
  head : ∀ j, j < q.head.length → (q.head.getD j noTx).size ≤ 1048576
  alen : q.atoms.length ≤ 1048576
  atoms : ∀ j, j < q.atoms.length → OkAt (q.atoms.getD j noAt)

end Go.Proofs.YtcgboccdffgkfaaDoor

/-
  Queries: laws.eqQuery, toQuery.
-/
namespace Go.Proofs.YtcgboccdffgkfaaDoor
open Go.RowKit

/-- a copy of a query: heads in block gh, atoms in ga and behind; all in blocks from lo on -/
structure OwnQ (W : World) (lo gh ga : Nat) (q : QV) : Prop where
  head : OwnSt W gh q.head
  atoms : OwnAt W ga q.atoms
  lh : lo ≤ gh
  la : gh < ga

theorem OwnQ.below {W W' : World} {lo gh ga : Nat} {q : QV} (h : OwnQ W lo gh ga q) (hb : Below W.heap.size W W') : OwnQ W' lo gh ga q := ⟨h.head.below hb, h.atoms.below hb, h.lh, h.la⟩
theorem OwnQ.is {W : World} {lo gh ga : Nat} {q : QV} (h : OwnQ W lo gh ga q) : IQ W (.slice (some ⟨gh, 0, none⟩) q.head.length q.head.length) (.slice (some ⟨ga, 0, none⟩) q.atoms.length q.atoms.length) q := ⟨h.head.is, h.atoms.is⟩

end Go.Proofs.YtcgboccdffgkfaaDoor

/-
  laws.toQuery.
-/
namespace Go.Proofs.YtcgboccdffgkfaaDoor
open Go.RowKit

end Go.Proofs.YtcgboccdffgkfaaDoor

/-
  The variables of a query in the order of their first places: spec.l3Place, l3Vars.
-/
namespace Go.Proofs.YtcgboccdffgkfaaDoor
open Go.RowKit

def hasT (L : List ByteArray) (s : ByteArray) : Bool := L.any fun x => x.toList == s.toList
def addV (L : List ByteArray) (t : TermV) : List ByteArray := if t.1.toList.isEmpty || hasT L t.1 then L else L ++ [t.1]
/-- after i atoms -/
def VL (ats : List AtomV) (i : Nat) : List ByteArray := (ats.take i).foldl (fun L a => a.2.foldl addV L) []
/-- after i atoms and p terms of the next -/
def VT (ats : List AtomV) (i p : Nat) : List ByteArray := ((ats.getD i noAt).2.take p).foldl addV (VL ats i)

theorem VL_zero (ats : List AtomV) : VL ats 0 = [] := rfl
theorem VT_zero (ats : List AtomV) (i : Nat) : VT ats i 0 = VL ats i := rfl
theorem take_succ_getD {α : Type} (l : List α) (d : α) {i : Nat} (h : i < l.length) : l.take (i + 1) = l.take i ++ [l.getD i d] := by
  rw [List.take_add_one, List.getElem?_eq_getElem h]
  simp [List.getD_eq_getElem?_getD, h]
theorem VL_succ (ats : List AtomV) {i : Nat} (h : i < ats.length) : VL ats (i + 1) = VT ats i (ats.getD i noAt).2.length := by
  unfold VL VT
  rw [take_succ_getD ats noAt h, List.foldl_append, List.take_length]
  rfl
theorem VT_succ (ats : List AtomV) (i : Nat) {p : Nat} (h : p < (ats.getD i noAt).2.length) : VT ats i (p + 1) = addV (VT ats i p) ((ats.getD i noAt).2.getD p noTm) := by
  unfold VT
  rw [take_succ_getD _ noTm h, List.foldl_append]
  rfl
theorem addV_len (L : List ByteArray) (t : TermV) : (addV L t).length ≤ L.length + 1 := by
  unfold addV
  split
  · omega
  · simp
theorem VT_len (ats : List AtomV) (i p : Nat) : (VT ats i p).length ≤ (VL ats i).length + p := by
  induction p with
  | zero => rw [VT_zero]; omega
  | succ p ih =>
    by_cases h : p < (ats.getD i noAt).2.length
    · rw [VT_succ ats i h]
      have := addV_len (VT ats i p) ((ats.getD i noAt).2.getD p noTm)
      omega
    · have : VT ats i (p + 1) = VT ats i p := by
        unfold VT
        rw [List.take_of_length_le (by omega), List.take_of_length_le (by omega)]
      rw [this]; omega
theorem VL_len (ats : List AtomV) (hk : ∀ j, j < ats.length → (ats.getD j noAt).2.length ≤ 1048576) (i : Nat) (hi : i ≤ ats.length) : (VL ats i).length ≤ i * 1048576 := by
  induction i with
  | zero => rw [VL_zero]; simp
  | succ i ih =>
    rw [VL_succ ats (by omega)]
    have h1 := VT_len ats i (ats.getD i noAt).2.length
    have h2 := hk i (by omega)
    have h3 := ih (by omega)
    omega

end Go.Proofs.YtcgboccdffgkfaaDoor

/-
  spec.l3Vars.
-/
namespace Go.Proofs.YtcgboccdffgkfaaDoor
open Go.RowKit

theorem Tryd.infoSt : (Tryd.prog.info? 9).map (fun i => (i.zero, i.size, i.bytes)) = some (some (.string ⟨#[]⟩), 1, 16) := by kernel_rfl

theorem own_st {w : World} {B : Nat} {v : Value} {L : List ByteArray} (h : w.ownsRow B 9 1 v L.length (L.map Value.string)) : ISt w v L := by
  rcases h.2 with ⟨rfl, h4⟩ | ⟨g, cp, cur, rfl, hb, hc, hr⟩
  · exact ⟨none, 0, by rw [h4], Or.inl h4⟩
  · refine ⟨_, cp, rfl, Or.inr ⟨g, 0, rfl, fun j hj => ?_⟩⟩
    have := h.cellAt j (by omega)
    rw [Nat.zero_add, this, List.getElem?_map, List.getElem?_eq_getElem hj]
    simp [List.getD_eq_getElem?_getD, hj]

theorem bcl' {w w' : World} {a : Addr} {v : Value} (hb : Below w.heap.size w w') (h : w.cell? a = some v) : w'.cell? a = some v :=
  (hb.cell (World.block_lt_of_cell? w _ h)).trans h

end Go.Proofs.YtcgboccdffgkfaaDoor
