import Derived.Deep.Cut
import Derived.Deep.OwnRows
import Derived.Deep.RegionHeld3
import Derived.Laws.OwnMore
import Derived.Test.YtcdfoephhjacdaaGreatDoorR00
import Derived.Test.YtcdfoephhjacdaaGreatDoorR01
import Derived.Test.YtcdfoephhjacdaaGreatDoorR02
import Derived.Test.YtcdfoephhjacdaaGreatDoorR05
/-
  Terms and lists of terms: laws.szTerm(S), toTerm(S), eqTerm(S).
-/
namespace Go.Proofs.YtcdfoephhjacdaaGreatDoor
open Go.RowKit

abbrev TermV := ByteArray × Int
def noTm : TermV := (noTx, 0)

/-- a list of terms, read only -/
def ITm (w : World) (v : Value) (l : List TermV) : Prop := ∃ a cap, v = .slice a l.length cap ∧ (l.length = 0 ∨ ∃ b o, a = some ⟨b, o, none⟩ ∧ ∀ j, j < l.length →
  w.cell? ⟨b, o + j * 2, none⟩ = some (.string (l.getD j noTm).1) ∧ w.cell? ⟨b, o + j * 2 + 1, none⟩ = some (.int .i64 (l.getD j noTm).2))

theorem ITm.below {w w' : World} {v : Value} {l : List TermV} (h : ITm w v l) (hb : Below w.heap.size w w') : ITm w' v l := by
  obtain ⟨a, cap, rfl, h⟩ := h
  refine ⟨a, cap, rfl, ?_⟩
  rcases h with h | ⟨b, o, rfl, h⟩
  · exact Or.inl h
  · exact Or.inr ⟨b, o, rfl, fun j hj => ⟨(hb.cell (p := ⟨b, o + j * 2, none⟩) (World.block_lt_of_cell? w _ (h j hj).1)).trans (h j hj).1, (hb.cell (p := ⟨b, o + j * 2 + 1, none⟩) (World.block_lt_of_cell? w _ (h j hj).2)).trans (h j hj).2⟩⟩

/-- a copy of terms in block g -/
structure OwnTm (w : World) (g : Nat) (l : List TermV) : Prop where
  cell : ∀ j, j < l.length → w.cell? ⟨g, j * 2, none⟩ = some (.string (l.getD j noTm).1) ∧ w.cell? ⟨g, j * 2 + 1, none⟩ = some (.int .i64 (l.getD j noTm).2)
  free : ∀ j, j < l.length * 2 → w.frozen? ⟨g, j, none⟩ = false
  lt : g < w.heap.size

theorem OwnTm.is {w : World} {g : Nat} {l : List TermV} (h : OwnTm w g l) : ITm w (.slice (some ⟨g, 0, none⟩) l.length l.length) l :=
  ⟨_, _, rfl, Or.inr ⟨g, 0, rfl, fun j hj => by rw [Nat.zero_add]; exact h.cell j hj⟩⟩
theorem OwnTm.move {w w' : World} {g : Nat} {l : List TermV} (h : OwnTm w g l) (hb : w'.heap[g]? = w.heap[g]?) (hs : w.heap.size ≤ w'.heap.size) : OwnTm w' g l :=
  ⟨fun j hj => ⟨(World.cell?_of_block (w := w) (a := ⟨g, j * 2, none⟩) hb).trans (h.cell j hj).1, (World.cell?_of_block (w := w) (a := ⟨g, j * 2 + 1, none⟩) hb).trans (h.cell j hj).2⟩, fun j hj => (World.frozen?_of_block (w := w) (a := ⟨g, j, none⟩) hb).trans (h.free j hj), Nat.lt_of_lt_of_le h.lt hs⟩
theorem OwnTm.below {w w' : World} {g : Nat} {l : List TermV} (h : OwnTm w g l) (hb : Below w.heap.size w w') : OwnTm w' g l := h.move (hb.block g h.lt) hb.size

/-- the first j of n pairs of cells have been laid, R of each -/
structure HalfP (W : World) (g n j : Nat) (R : Nat → Value → Value → Prop) : Prop where
  any : ∀ q, q < n * 2 → ∃ u, W.cell? ⟨g, q, none⟩ = some u
  free : ∀ q, q < n * 2 → W.frozen? ⟨g, q, none⟩ = false
  pair : ∀ i, i < j → ∃ u0 u1, W.cell? ⟨g, i * 2, none⟩ = some u0 ∧ W.cell? ⟨g, i * 2 + 1, none⟩ = some u1 ∧ R i u0 u1

theorem HalfP.below {W W' : World} {g n j : Nat} {R R' : Nat → Value → Value → Prop} (h : HalfP W g n j R) (hg : g < W.heap.size) (hb : Below W.heap.size W W') (hR : ∀ i u0 u1, i < j → R i u0 u1 → R' i u0 u1) : HalfP W' g n j R' :=
  ⟨fun q hq => by obtain ⟨u, hu⟩ := h.any q hq; exact ⟨u, (hb.cell (p := ⟨g, q, none⟩) hg).trans hu⟩, fun q hq => (hb.frozen (p := ⟨g, q, none⟩) hg).trans (h.free q hq), fun i hi => by
    obtain ⟨u0, u1, h0, h1, h2⟩ := h.pair i hi
    exact ⟨u0, u1, (hb.cell (p := ⟨g, i * 2, none⟩) hg).trans h0, (hb.cell (p := ⟨g, i * 2 + 1, none⟩) hg).trans h1, hR i u0 u1 hi h2⟩⟩

theorem cell_any {W : World} {g q q' : Nat} {v : Value} (h : ∃ u, W.cell? ⟨g, q, none⟩ = some u) : ∃ u, (W.setCell ⟨g, q', none⟩ v).cell? ⟨g, q, none⟩ = some u := by
  obtain ⟨u, hu⟩ := h
  by_cases e : q = q'
  · subst e; exact ⟨v, World.cell?_setCell_same _ _ _ hu⟩
  · exact ⟨u, (World.cell?_setCell_other _ _ _ _ (by intro e2; simp only [Addr.mk.injEq] at e2; omega)).trans hu⟩

theorem HalfP.step {W : World} {g n j : Nat} {R R' : Nat → Value → Value → Prop} {u0 u1 : Value} (h : HalfP W g n j R) (hj : j < n) (hR : ∀ i a b, i < j → R i a b → R' i a b) (hn : R' j u0 u1) :
    HalfP ((W.setCell ⟨g, j * 2, none⟩ u0).setCell ⟨g, j * 2 + 1, none⟩ u1) g n (j + 1) R' where
  any q hq := cell_any (cell_any (h.any q hq))
  free q hq := by rw [World.frozen?_setCell, World.frozen?_setCell]; exact h.free q hq
  pair i hi := by
    have ne : ∀ (X : World) (a b : Nat) (v : Value), a ≠ b → (X.setCell ⟨g, b, none⟩ v).cell? ⟨g, a, none⟩ = X.cell? ⟨g, a, none⟩ := fun X a b v hab => World.cell?_setCell_other _ _ _ _ (by intro e2; simp only [Addr.mk.injEq] at e2; omega)
    by_cases e : i = j
    · subst e
      obtain ⟨x0, c0⟩ := h.any (i * 2) (by omega)
      obtain ⟨x1, c1⟩ := h.any (i * 2 + 1) (by omega)
      refine ⟨u0, u1, ?_, ?_, hn⟩
      · rw [ne _ _ _ _ (by omega)]; exact World.cell?_setCell_same _ _ _ c0
      · exact World.cell?_setCell_same _ _ _ ((ne _ _ _ _ (by omega)).trans c1)
    · obtain ⟨a, b, h0, h1, h2⟩ := h.pair i (by omega)
      exact ⟨a, b, by rw [ne _ _ _ _ (by omega), ne _ _ _ _ (by omega)]; exact h0, by rw [ne _ _ _ _ (by omega), ne _ _ _ _ (by omega)]; exact h1, hR i a b (by omega) h2⟩

theorem Tryz.infoTm : (Tryz.prog.info? 89).map (fun i => (i.zero, i.size, i.bytes)) = some (some (.agg #[.string ⟨#[]⟩, .int .i64 0]), 2, 24) := by kernel_rfl

end Go.Proofs.YtcdfoephhjacdaaGreatDoor

/-
  laws.eqTermS.
-/
namespace Go.Proofs.YtcdfoephhjacdaaGreatDoor
open Go.RowKit

theorem four_pairs {w5 W : World} {b o b' o' : Nat} {v0 v1 u0 u1 : Value}
    (h0 : w5.cell? ⟨b, o, none⟩ = some v0) (h1 : w5.cell? ⟨b, o + 1, none⟩ = some v1)
    (k0 : w5.cell? ⟨b', o', none⟩ = some u0) (k1 : w5.cell? ⟨b', o' + 1, none⟩ = some u1) (hb : Below w5.heap.size w5 W) :
    W.cell? ⟨b, o, none⟩ = some v0 ∧ W.cell? ⟨b, o + 1, none⟩ = some v1 ∧ W.cell? ⟨b', o', none⟩ = some u0 ∧ W.cell? ⟨b', o' + 1, none⟩ = some u1 ∧ Below w5.heap.size w5 W :=
  ⟨(hb.cell (p := ⟨b, o, none⟩) (World.block_lt_of_cell? w5 _ h0)).trans h0, (hb.cell (p := ⟨b, o + 1, none⟩) (World.block_lt_of_cell? w5 _ h1)).trans h1,
    (hb.cell (p := ⟨b', o', none⟩) (World.block_lt_of_cell? w5 _ k0)).trans k0, (hb.cell (p := ⟨b', o' + 1, none⟩) (World.block_lt_of_cell? w5 _ k1)).trans k1, hb⟩

end Go.Proofs.YtcdfoephhjacdaaGreatDoor

/-
  Atoms and lists of atoms: laws.szAtom(S), toAtom(S), eqAtom(S).
-/
namespace Go.Proofs.YtcdfoephhjacdaaGreatDoor
open Go.RowKit

abbrev AtomV := ByteArray × List TermV
def noAt : AtomV := (noTx, [])

/-- one atom's cells -/
def AtAt (w : World) (b o : Nat) (x : AtomV) : Prop := ∃ u, w.cell? ⟨b, o, none⟩ = some (.string x.1) ∧ w.cell? ⟨b, o + 1, none⟩ = some u ∧ ITm w u x.2

theorem AtAt.below {w w' : World} {b o : Nat} {x : AtomV} (h : AtAt w b o x) (hb : Below w.heap.size w w') : AtAt w' b o x := by
  obtain ⟨u, h0, h1, h2⟩ := h
  exact ⟨u, (hb.cell (p := ⟨b, o, none⟩) (World.block_lt_of_cell? w _ h0)).trans h0, (hb.cell (p := ⟨b, o + 1, none⟩) (World.block_lt_of_cell? w _ h1)).trans h1, h2.below hb⟩

/-- a list of atoms, read only -/
def IAt (w : World) (v : Value) (l : List AtomV) : Prop := ∃ a cap, v = .slice a l.length cap ∧ (l.length = 0 ∨ ∃ b o, a = some ⟨b, o, none⟩ ∧ ∀ j, j < l.length → AtAt w b (o + j * 2) (l.getD j noAt))

theorem IAt.below {w w' : World} {v : Value} {l : List AtomV} (h : IAt w v l) (hb : Below w.heap.size w w') : IAt w' v l := by
  obtain ⟨a, cap, rfl, h⟩ := h
  refine ⟨a, cap, rfl, ?_⟩
  rcases h with h | ⟨b, o, rfl, h⟩
  · exact Or.inl h
  · exact Or.inr ⟨b, o, rfl, fun j hj => (h j hj).below hb⟩

/-- small enough to be copied -/
structure OkAt (x : AtomV) : Prop where
  rel : x.1.size ≤ 1048576
  len : x.2.length ≤ 1048576
  tx : ∀ j, j < x.2.length → (x.2.getD j noTm).1.size ≤ 1048576

theorem heap_set_ne {w : World} {g c o : Nat} {v : Value} (h : g ≠ c) : (w.setCell ⟨c, o, none⟩ v).heap[g]? = w.heap[g]? := Below.heap_setCell _ _ _ _ h

end Go.Proofs.YtcdfoephhjacdaaGreatDoor

/-
  laws.toAtomS, eqAtom, eqAtomS, szAtom, szAtomS.
-/
namespace Go.Proofs.YtcdfoephhjacdaaGreatDoor
open Go.RowKit

/-- the cells of a copied atom: its terms lie in a block of their own behind g -/
def AtR (W : World) (g : Nat) (x : AtomV) (a b : Value) : Prop := a = .string x.1 ∧ ∃ gt, b = .slice (some ⟨gt, 0, none⟩) x.2.length x.2.length ∧ OwnTm W gt x.2 ∧ g < gt

theorem AtR.below {W W' : World} {g : Nat} {x : AtomV} {a b : Value} (h : AtR W g x a b) (hb : Below W.heap.size W W') : AtR W' g x a b := by
  obtain ⟨h0, gt, h1, h2, h3⟩ := h
  exact ⟨h0, gt, h1, h2.below hb, h3⟩
theorem AtR.set {W : World} {g o : Nat} {x : AtomV} {a b v : Value} (h : AtR W g x a b) : AtR (W.setCell ⟨g, o, none⟩ v) g x a b := by
  obtain ⟨h0, gt, h1, h2, h3⟩ := h
  exact ⟨h0, gt, h1, h2.move (heap_set_ne (by omega)) (by simp [World.setCell]), h3⟩

/-- a copy of atoms, in block g and blocks behind it -/
def OwnAt (W : World) (g : Nat) (l : List AtomV) : Prop := HalfP W g l.length l.length (fun i a b => AtR W g (l.getD i noAt) a b) ∧ g < W.heap.size

theorem OwnAt.below {W W' : World} {g : Nat} {l : List AtomV} (h : OwnAt W g l) (hb : Below W.heap.size W W') : OwnAt W' g l :=
  ⟨h.1.below h.2 hb (fun _ _ _ _ h => h.below hb), Nat.lt_of_lt_of_le h.2 hb.size⟩

theorem OwnAt.set {W : World} {g c o : Nat} {v : Value} {l : List AtomV} (h : OwnAt W g l) (hc : c < g) : OwnAt (W.setCell ⟨c, o, none⟩ v) g l := by
  have ne : ∀ q, (W.setCell ⟨c, o, none⟩ v).cell? ⟨g, q, none⟩ = W.cell? ⟨g, q, none⟩ := fun q => World.cell?_setCell_other _ _ _ _ (by intro e; simp only [Addr.mk.injEq] at e; omega)
  refine ⟨⟨fun q hq => by rw [ne]; exact h.1.any q hq, fun q hq => by rw [World.frozen?_setCell]; exact h.1.free q hq, fun i hi => ?_⟩, by simpa [World.setCell] using h.2⟩
  obtain ⟨u0, u1, h0, h1, e0, gt, e1, h2, h3⟩ := h.1.pair i hi
  exact ⟨u0, u1, by rw [ne]; exact h0, by rw [ne]; exact h1, e0, gt, e1, h2.move (heap_set_ne (by omega)) (by simp [World.setCell]), h3⟩

theorem OwnAt.is {W : World} {g : Nat} {l : List AtomV} (h : OwnAt W g l) : IAt W (.slice (some ⟨g, 0, none⟩) l.length l.length) l :=
  ⟨_, _, rfl, Or.inr ⟨g, 0, rfl, fun j hj => by
    obtain ⟨u0, u1, h0, h1, rfl, gt, rfl, h3, _⟩ := h.1.pair j hj
    exact ⟨_, by rw [Nat.zero_add]; exact h0, by rw [Nat.zero_add]; exact h1, h3.is⟩⟩⟩

end Go.Proofs.YtcdfoephhjacdaaGreatDoor

/-
  laws.szAtom, szAtomS; queries: szQuery, eqQuery.
-/
namespace Go.Proofs.YtcdfoephhjacdaaGreatDoor
open Go.RowKit

structure QV where
  name : ByteArray
  head : List ByteArray
  ring : Int
  atoms : List AtomV

structure IQ (w : World) (vh va : Value) (q : QV) : Prop where
  head : ISt w vh q.head
  atoms : IAt w va q.atoms

theorem IQ.below {w w' : World} {vh va : Value} {q : QV} (h : IQ w vh va q) (hb : Below w.heap.size w w') : IQ w' vh va q := ⟨h.head.below hb, h.atoms.below hb⟩

structure OkQ (q : QV) : Prop where
  name : q.name.size ≤ 1048576
  len : q.head.length ≤ 1048576
  head : ∀ j, j < q.head.length → (q.head.getD j noTx).size ≤ 1048576
  alen : q.atoms.length ≤ 1048576
  atoms : ∀ j, j < q.atoms.length → OkAt (q.atoms.getD j noAt)

end Go.Proofs.YtcdfoephhjacdaaGreatDoor

/-
  Queries: laws.eqQuery, toQuery.
-/
namespace Go.Proofs.YtcdfoephhjacdaaGreatDoor
open Go.RowKit

/-- a copy of a query: heads in block gh, atoms in ga and behind; all in blocks from lo on -/
structure OwnQ (W : World) (lo gh ga : Nat) (q : QV) : Prop where
  head : OwnSt W gh q.head
  atoms : OwnAt W ga q.atoms
  lh : lo ≤ gh
  la : gh < ga

theorem OwnQ.below {W W' : World} {lo gh ga : Nat} {q : QV} (h : OwnQ W lo gh ga q) (hb : Below W.heap.size W W') : OwnQ W' lo gh ga q := ⟨h.head.below hb, h.atoms.below hb, h.lh, h.la⟩
theorem OwnQ.is {W : World} {lo gh ga : Nat} {q : QV} (h : OwnQ W lo gh ga q) : IQ W (.slice (some ⟨gh, 0, none⟩) q.head.length q.head.length) (.slice (some ⟨ga, 0, none⟩) q.atoms.length q.atoms.length) q := ⟨h.head.is, h.atoms.is⟩

end Go.Proofs.YtcdfoephhjacdaaGreatDoor

/-
  laws.toQuery.
-/
namespace Go.Proofs.YtcdfoephhjacdaaGreatDoor
open Go.RowKit

end Go.Proofs.YtcdfoephhjacdaaGreatDoor

/-
  The variables of a query in the order of their first places: spec.l3Place, l3Vars.
-/
namespace Go.Proofs.YtcdfoephhjacdaaGreatDoor
open Go.RowKit

def hasT (L : List ByteArray) (s : ByteArray) : Bool := L.any fun x => x.toList == s.toList
def addV (L : List ByteArray) (t : TermV) : List ByteArray := if t.1.toList.isEmpty || hasT L t.1 then L else L ++ [t.1]
/-- after i atoms -/
def VL (ats : List AtomV) (i : Nat) : List ByteArray := (ats.take i).foldl (fun L a => a.2.foldl addV L) []
/-- after i atoms and p terms of the next -/
def VT (ats : List AtomV) (i p : Nat) : List ByteArray := ((ats.getD i noAt).2.take p).foldl addV (VL ats i)

theorem VL_zero (ats : List AtomV) : VL ats 0 = [] := rfl
theorem VT_zero (ats : List AtomV) (i : Nat) : VT ats i 0 = VL ats i := rfl
theorem take_succ_getD {α : Type} (l : List α) (d : α) {i : Nat} (h : i < l.length) : l.take (i + 1) = l.take i ++ [l.getD i d] := by
  rw [List.take_add_one, List.getElem?_eq_getElem h]
  simp [List.getD_eq_getElem?_getD, h]
theorem VL_succ (ats : List AtomV) {i : Nat} (h : i < ats.length) : VL ats (i + 1) = VT ats i (ats.getD i noAt).2.length := by
  unfold VL VT
  rw [take_succ_getD ats noAt h, List.foldl_append, List.take_length]
  rfl
theorem VT_succ (ats : List AtomV) (i : Nat) {p : Nat} (h : p < (ats.getD i noAt).2.length) : VT ats i (p + 1) = addV (VT ats i p) ((ats.getD i noAt).2.getD p noTm) := by
  unfold VT
  rw [take_succ_getD _ noTm h, List.foldl_append]
  rfl
theorem addV_len (L : List ByteArray) (t : TermV) : (addV L t).length ≤ L.length + 1 := by
  unfold addV
  split
  · omega
  · simp
theorem VT_len (ats : List AtomV) (i p : Nat) : (VT ats i p).length ≤ (VL ats i).length + p := by
  induction p with
  | zero => rw [VT_zero]; omega
  | succ p ih =>
    by_cases h : p < (ats.getD i noAt).2.length
    · rw [VT_succ ats i h]
      have := addV_len (VT ats i p) ((ats.getD i noAt).2.getD p noTm)
      omega
    · have : VT ats i (p + 1) = VT ats i p := by
        unfold VT
        rw [List.take_of_length_le (by omega), List.take_of_length_le (by omega)]
      rw [this]; omega
theorem VL_len (ats : List AtomV) (hk : ∀ j, j < ats.length → (ats.getD j noAt).2.length ≤ 1048576) (i : Nat) (hi : i ≤ ats.length) : (VL ats i).length ≤ i * 1048576 := by
  induction i with
  | zero => rw [VL_zero]; simp
  | succ i ih =>
    rw [VL_succ ats (by omega)]
    have h1 := VT_len ats i (ats.getD i noAt).2.length
    have h2 := hk i (by omega)
    have h3 := ih (by omega)
    omega

set_option maxHeartbeats 2000000 in
set_option maxRecDepth 1000000 in
theorem l3Place_calls (w : World) (v : Value) (L : List ByteArray) (s : ByteArray) (h : ISt w v L) (hl : L.length ≤ 1099511627776000) :
    Calls Tryz.prog 17 #[v, .string s] w fun e w' => ∃ z : Int, e = .returned (.int .i64 z) ∧ w' = w ∧ (hasT L s = true → 0 ≤ z) ∧ (hasT L s = false → z = -1) := by
  obtain ⟨a, cap, rfl, hc⟩ := h
  obtain ⟨n, hn⟩ : ∃ n, n = L.length := ⟨_, rfl⟩
  have HC := hid hc
  have HN := hid hn
  rw [← hn] at HC hl ⊢
  clear hc hn
  go_enter Tryz.func17, Tryz.ntmps17
  go_wp2
  go_loopw [9] (fun t wr => ∃ j : Nat, j ≤ n ∧ t = .int .i64 j ∧ wr = w ∧ Hid (∀ i, i < j → ((L.getD i noTx).toList == s.toList) = false)) (fun t _ => n - (intOf t).toNat)
  case atStart => exact ⟨0, Nat.zero_le _, rfl, rfl, hid (fun i hi => by omega)⟩
  case round =>
    obtain ⟨j, hj, rfl, hw, HH⟩ := hrel
    subst hw
    by_cases hjn : j < n
    · have i1 : (j : Int) < (n : Int) := by omega
      rcases HC.out with h0 | ⟨b, o, rfl, hcell⟩
      · omega
      · have c1 := hcell j hjn
        have HX : Hid (((L.getD j noTx).toList == s.toList) = true → hasT L s = true) := hid (fun h => by
          unfold hasT
          rw [List.any_eq_true]
          refine ⟨L.getD j noTx, List.mem_of_getElem? (i := j) ?_, h⟩
          have : j < L.length := by rw [← HN.out]; exact hjn
          simp [List.getD_eq_getElem?_getD, this])
        have HY : Hid (((L.getD j noTx).toList == s.toList) = false → ∀ i, i < j + 1 → ((L.getD i noTx).toList == s.toList) = false) := hid (fun h i hi => by
          by_cases e : i = j
          · rw [e]; exact h
          · exact HH.out i (by omega))
        clear hcell HH
        generalize L.getD j noTx = x at *
        cases hb : (x.toList == s.toList)
        · have HZ := hid (HY.out hb)
          clear HX HY
          go_wp2
          go_roundw
          case rel => exact ⟨j + 1, by omega, by go_num, by trivial, HZ⟩
          case measure => simp [intOf]; omega
        · have HZ := hid (HX.out hb)
          clear HX HY
          go_wp2
          go_ret
          exact ⟨_, rfl, rfl, (fun _ => by omega), (fun h => by rw [HZ.out] at h; cases h)⟩
    · obtain rfl : j = n := by omega
      have i1 : ¬ ((j : Int) < (j : Int)) := by omega
      have HZ : Hid (hasT L s = false) := hid (by
        unfold hasT
        rw [List.any_eq_false]
        intro x hx
        obtain ⟨i, hi, e⟩ := List.getElem_of_mem hx
        have := HH.out i (by rw [HN.out]; exact hi)
        rw [List.getD_eq_getElem?_getD, List.getElem?_eq_getElem hi] at this
        simp only [Option.getD_some] at this
        rw [e] at this
        rw [this]; decide)
      go_wp2
      go_ret
      exact ⟨_, rfl, rfl, (fun h => by rw [HZ.out] at h; cases h), (fun _ => rfl)⟩

end Go.Proofs.YtcdfoephhjacdaaGreatDoor

/-
  spec.l3Vars.
-/
namespace Go.Proofs.YtcdfoephhjacdaaGreatDoor
open Go.RowKit

theorem Tryz.infoSt : (Tryz.prog.info? 9).map (fun i => (i.zero, i.size, i.bytes)) = some (some (.string ⟨#[]⟩), 1, 16) := by kernel_rfl

theorem own_st {w : World} {B : Nat} {v : Value} {L : List ByteArray} (h : w.ownsRow B 9 1 v L.length (L.map Value.string)) : ISt w v L := by
  rcases h.2 with ⟨rfl, h4⟩ | ⟨g, cp, cur, rfl, hb, hc, hr⟩
  · exact ⟨none, 0, by rw [h4], Or.inl h4⟩
  · refine ⟨_, cp, rfl, Or.inr ⟨g, 0, rfl, fun j hj => ?_⟩⟩
    have := h.cellAt j (by omega)
    rw [Nat.zero_add, this, List.getElem?_map, List.getElem?_eq_getElem hj]
    simp [List.getD_eq_getElem?_getD, hj]

theorem bcl' {w w' : World} {a : Addr} {v : Value} (hb : Below w.heap.size w w') (h : w.cell? a = some v) : w'.cell? a = some v :=
  (hb.cell (World.block_lt_of_cell? w _ h)).trans h

set_option maxHeartbeats 8000000 in
set_option maxRecDepth 1000000 in
theorem l3Vars_calls (w : World) (vh va : Value) (q : QV) (h : IQ w vh va q) (hq : OkQ q) :
    Calls Tryz.prog 18 #[.agg #[.string q.name, vh, .int .i64 q.ring, va]] w fun e w' => ∃ v, e = .returned v ∧ w'.ownsRow w.heap.size 9 1 v (VL q.atoms q.atoms.length).length ((VL q.atoms q.atoms.length).map Value.string) ∧ Below w.heap.size w w' := by
  obtain ⟨i0, hi, hz0, hz1, hz2⟩ := info_parts Tryz.infoSt
  have hal := hq.alen
  have HK : Hid (∀ j, j < q.atoms.length → (q.atoms.getD j noAt).2.length ≤ 1048576) := hid (fun j hj => (hq.atoms j hj).len)
  have HI := hid h.atoms
  obtain ⟨a1, k1, e1, -⟩ := h.head
  obtain ⟨a2, k2, e2, -⟩ := h.atoms
  subst e1 e2
  clear h hq
  obtain ⟨W1, hW1⟩ : ∃ W, W = w.alloc (.cells #[.string q.name, .slice a1 q.head.length k1, .int .i64 q.ring, .slice a2 q.atoms.length k2] 29) := ⟨_, rfl⟩
  have c3 : W1.cell? ⟨w.heap.size, 3, none⟩ = some (.slice a2 q.atoms.length k2) := by rw [hW1, World.cell?_alloc_at _ _ _ _ rfl]; rfl
  have HB1 : Hid (Below w.heap.size w W1) := hid (by rw [hW1]; exact (Below.refl _ _).alloc (Nat.le_refl _) _)
  have hs1 : w.heap.size < W1.heap.size := by rw [hW1]; simp
  have hIA := HI.out.below HB1.out
  generalize q.name = nm at *
  generalize q.ring = rg at *
  generalize q.head.length = hn at *
  generalize q.atoms = ats at *
  obtain ⟨n, hn'⟩ : ∃ n, n = ats.length := ⟨_, rfl⟩
  have HN := hid hn'
  obtain ⟨a2', k2', ee, hcell⟩ := hIA
  simp only [Value.slice.injEq] at ee
  obtain ⟨rfl, -, -⟩ := ee
  have HC := hid hcell
  rw [← hn'] at HC HK hal c3 hW1 ⊢
  have HVL : Hid (∀ i, i ≤ n → (VL ats i).length ≤ i * 1048576) := hid (fun i hi => VL_len ats (by rw [← hn']; exact HK.out) i (by omega))
  clear hcell hn' HI
  go_enter Tryz.func18, Tryz.ntmps18
  go_upto_region 1 with fail
  rw [← hW1]
  clear hW1
  have c3a : ∀ o', (W1.alloc o').cell? ⟨w.heap.size, 3, none⟩ = some (.slice a2 n k2) := fun o' => bcl' ((Below.refl _ _).alloc (Nat.le_refl _) o') c3
  go_wp2
  go_loopw [3, 12] (fun v t wr => ∃ (i : Nat) (vs : Value), i ≤ n ∧ t = .int .i64 i ∧ vs = v ∧ Hid (Below W1.heap.size W1 wr ∧ wr.ownsRow W1.heap.size 9 1 vs (VL ats i).length ((VL ats i).map Value.string))) (fun _ t _ => n - (intOf t).toNat)
  case atStart => exact ⟨0, _, Nat.zero_le _, rfl, rfl, hid ⟨(Below.refl _ _).alloc (Nat.le_refl _) _, World.ownsRow_made W1 #[] 0 (Nat.le_refl _) (by decide) rfl⟩⟩
  case round =>
    clear c3 c3a
    obtain ⟨i, vs, hin, rfl, rfl, HH⟩ := hrel
    by_cases hlt : i < n
    · have i1 : (i : Int) < (n : Int) := by omega
      rcases HC.out with h0 | ⟨b, o, rfl, hrel⟩
      · omega
      · obtain ⟨u, d0, d1, hit⟩ := hrel i hlt
        have e0 := bcl' HH.out.1 d0
        have e1 := bcl' HH.out.1 d1
        obtain ⟨ua, uc, eu, hterm⟩ := hit
        subst eu
        have hm := HK.out i hlt
        have hvl := HVL.out i (by omega)
        obtain ⟨m, hm'⟩ : ∃ m, m = (ats.getD i noAt).2.length := ⟨_, rfl⟩
        have HT := hid hterm
        rw [← hm'] at HT e1 hm
        have HM := hid hm'
        clear hrel d0 d1 hterm hm'
        generalize (ats.getD i noAt).1 = rel at *
        generalize wr = Wr at *
        go_upto_region 5 with fail
        have HW : Hid (Below W1.heap.size W1 (Wr.alloc (.cells #[.string rel, .slice ua m uc] 55)) ∧ (Wr.alloc (.cells #[.string rel, .slice ua m uc] 55)).ownsRow W1.heap.size 9 1 vs (VT ats i 0).length ((VT ats i 0).map Value.string)) := hid ⟨HH.out.1.alloc HH.out.1.size _, by rw [VT_zero]; exact HH.out.2.alloc _⟩
        have f1 : (Wr.alloc (.cells #[.string rel, .slice ua m uc] 55)).cell? ⟨Wr.heap.size, 1, none⟩ = some (.slice ua m uc) := by rw [World.cell?_alloc_at _ _ _ _ rfl]; rfl
        clear HH e0 e1
        generalize Wr.alloc (.cells #[.string rel, .slice ua m uc] 55) = Ws at *
        go_wp2_with fail
        clear f1
        go_loopw [3, 19] (fun v t wr => ∃ (p : Nat) (vs : Value), p ≤ m ∧ t = .int .i64 p ∧ vs = v ∧ Hid (Below W1.heap.size W1 wr ∧ wr.ownsRow W1.heap.size 9 1 vs (VT ats i p).length ((VT ats i p).map Value.string))) (fun _ t _ => m - (intOf t).toNat)
        case atStart => exact ⟨0, _, Nat.zero_le _, rfl, rfl, HW⟩
        case round =>
          clear HW
          obtain ⟨p, vs, hpm, rfl, rfl, HG⟩ := hrel
          by_cases hlp : p < m
          · have i2 : (p : Int) < (m : Int) := by omega
            rcases HT.out with h0 | ⟨tb, to, rfl, hts⟩
            · omega
            · obtain ⟨g0', g1'⟩ := hts p hlp
              have g0 := bcl' HG.out.1 g0'
              have g1 := bcl' HG.out.1 g1'
              have hvt := VT_len ats i p
              have hsz := HG.out.1.size
              have HS : Hid (VT ats i (p + 1) = addV (VT ats i p) ((ats.getD i noAt).2.getD p noTm)) := hid (VT_succ ats i (by rw [← HM.out]; exact hlp))
              unfold addV at HS
              have KP := hid (fun (o' : Obj) => l3Place_calls (wr.alloc o') vs (VT ats i p) ((ats.getD i noAt).2.getD p noTm).1 (own_st (HG.out.2.alloc o')) (by omega))
              clear hts g0' g1'
              generalize (ats.getD i noAt).2.getD p noTm = t at *
              generalize t.1 = x at *
              generalize t.2 = y at *
              generalize VT ats i p = L at *
              cases hem : x.toList.isEmpty
              · rw [hem, Bool.false_or] at HS
                have hem2 : (!x.toList.isEmpty) = true := by rw [hem]; rfl
                cases hhas : hasT L x
                · rw [hhas] at HS
                  rw [if_neg (by decide)] at HS
                  go_wp2_with fail
                  refine (KP.out _).mono ?_
                  rintro e w5 ⟨z, rfl, hw5, -, hz⟩
                  subst w5
                  obtain rfl := hz hhas
                  clear hz KP
                  go_wp2_with (first
                    | (at_builtin; refine wpList_append_own _ rfl _ _ 26 rfl W1.heap.size 9 i0 (.string ⟨#[]⟩) 1 16 Tryz.underlying26 hi hz0 hz1 hz2 rfl (by decide) _ _ _ rfl ((HG.out.2.alloc _).alloc _) ⟨wr.heap.size + 1, 0, none⟩ 1 1 [.string x] rfl rfl ?y1 ?y2 ?y3 ?y4 ?y5 ?_)
                    | fail)
                  try (case y1 =>
                    intro j u hj
                    match j, hj with
                    | 0, hj => simp at hj; subst hj; simp [Addr.add])
                  try (case y2 => first | rfl | (intro u hu; simp at hu; subst hu; rfl))
                  try (case y3 => unfold maxLen; (first | omega | (simp; omega)))
                  try (case y4 => (first | omega | (simp; omega)))
                  try (case y5 => (first | omega | (simp; omega)))
                  intro v' w6 hown' hgrow _
                  have HN2 : Hid (Below W1.heap.size W1 w6 ∧ w6.ownsRow W1.heap.size 9 1 v' (VT ats i (p + 1)).length ((VT ats i (p + 1)).map Value.string)) := hid ⟨((HG.out.1.alloc hsz _).alloc (by simp; omega) _).grown hgrow (by simp; omega) (fun j hj => (HG.out.2.lt j hj).1), by rw [HS.out]; simpa using hown'⟩
                  clear hown' hgrow
                  go_wp2
                  go_roundw
                  case rel => exact ⟨p + 1, v', by omega, by go_num, rfl, HN2⟩
                  case measure => simp [intOf]; omega
                · rw [hhas] at HS
                  rw [if_pos rfl] at HS
                  go_wp2_with fail
                  refine (KP.out _).mono ?_
                  rintro e w5 ⟨z, rfl, hw5, hz, -⟩
                  subst w5
                  have hz' : ¬ (z < 0) := by have := hz hhas; omega
                  clear hz KP
                  go_wp2
                  go_roundw
                  case rel => exact ⟨p + 1, vs, by omega, by go_num, rfl, hid ⟨HG.out.1.alloc hsz _, by rw [HS.out]; exact HG.out.2.alloc _⟩⟩
                  case measure => simp [intOf]; omega
              · rw [hem, Bool.true_or, if_pos rfl] at HS
                have hem2 : (!x.toList.isEmpty) = false := by rw [hem]; rfl
                clear KP
                go_wp2
                go_roundw
                case rel => exact ⟨p + 1, vs, by omega, by go_num, rfl, hid ⟨HG.out.1.alloc hsz _, by rw [HS.out]; exact HG.out.2.alloc _⟩⟩
                case measure => simp [intOf]; omega
          · obtain rfl : p = m := by omega
            have i2 : ¬ ((p : Int) < (p : Int)) := by omega
            have HE : Hid (VL ats (i + 1) = VT ats i p) := hid (by rw [HM.out]; exact VL_succ ats (by rw [← HN.out]; exact hlt))
            go_wp2
            go_roundw
            case rel => exact ⟨i + 1, vs, by omega, by go_num, rfl, hid ⟨HG.out.1, by rw [HE.out]; exact HG.out.2⟩⟩
            case measure => simp [intOf]; omega
    · obtain rfl : i = n := by omega
      have i1 : ¬ ((i : Int) < (i : Int)) := by omega
      go_wp2
      go_ret
      refine ⟨_, rfl, ?_, HB1.out.trans (HH.out.1.mono (by omega))⟩
      have := HH.out.2
      refine ⟨this.1, ?_⟩
      rcases this.2 with h0 | ⟨c, cp, cur, h1, h2, h3⟩
      · exact Or.inl h0
      · exact Or.inr ⟨c, cp, cur, h1, by omega, h3⟩

end Go.Proofs.YtcdfoephhjacdaaGreatDoor

/-
  The good shape of queries: spec.l3ShapeOK.
-/
namespace Go.Proofs.YtcdfoephhjacdaaGreatDoor
open Go.RowKit

def termB (t : TermV) : Bool := if t.1.toList.isEmpty then decide (0 ≤ t.2) && decide (t.2 ≤ 1000000) else nameB t.1 && decide (t.2 = 0)
def atomB (a : AtomV) : Bool := nameB a.1 && decide (1 ≤ a.2.length) && a.2.all termB
def shapeB (q : QV) : Bool := nameB q.name && decide (0 ≤ q.ring) && decide (q.ring ≤ 3) && decide (1 ≤ q.atoms.length) && q.head.all nameB && q.atoms.all atomB

theorem all_get {α : Type} (p : α → Bool) (d : α) (l : List α) (h : ∀ i, i < l.length → p (l.getD i d) = true) : l.all p = true := by
  rw [List.all_eq_true]
  intro x hx
  obtain ⟨j, hj, e⟩ := List.getElem_of_mem hx
  have := h j hj
  rw [List.getD_eq_getElem?_getD, List.getElem?_eq_getElem hj] at this
  simp only [Option.getD_some] at this
  rw [← e]; exact this
theorem all_miss {α : Type} (p : α → Bool) (d : α) (l : List α) {j : Nat} (hj : j < l.length) (h : p (l.getD j d) = false) : l.all p = false := by
  rw [List.all_eq_false]
  refine ⟨l.getD j d, List.mem_of_getElem? (i := j) (by simp [List.getD_eq_getElem?_getD, hj]), by rw [h]; decide⟩

theorem shape_head {q : QV} {j : Nat} (hj : j < q.head.length) (h : nameB (q.head.getD j noTx) = false) : shapeB q = false := by
  unfold shapeB; rw [all_miss nameB noTx q.head hj h]; simp
theorem shape_atom {q : QV} {j : Nat} (hj : j < q.atoms.length) (h : atomB (q.atoms.getD j noAt) = false) : shapeB q = false := by
  unfold shapeB; rw [all_miss atomB noAt q.atoms hj h]; simp
end Go.Proofs.YtcdfoephhjacdaaGreatDoor

/-
  spec.l3ShapeOK, walked.
-/
namespace Go.Proofs.YtcdfoephhjacdaaGreatDoor
open Go.RowKit

end Go.Proofs.YtcdfoephhjacdaaGreatDoor
