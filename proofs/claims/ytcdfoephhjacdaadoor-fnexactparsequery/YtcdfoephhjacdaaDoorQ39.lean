import Derived.Deep.Cut
import Derived.Test.YtcdfoephhjacdaaDoorQ38
/-
  Atoms and lists of atoms: laws.szAtom(S), toAtom(S), eqAtom(S).
-/
namespace Go.Proofs.YtcdfoephhjacdaaDoor
open Go.RowKit

abbrev AtomV := ByteArray × List TermV
def noAt : AtomV := (noTx, [])

/-- one atom's cells -/
def AtAt (w : World) (b o : Nat) (x : AtomV) : Prop := ∃ u, w.cell? ⟨b, o, none⟩ = some (.string x.1) ∧ w.cell? ⟨b, o + 1, none⟩ = some u ∧ ITm w u x.2

theorem AtAt.below {w w' : World} {b o : Nat} {x : AtomV} (h : AtAt w b o x) (hb : Below w.heap.size w w') : AtAt w' b o x := by
  obtain ⟨u, h0, h1, h2⟩ := h
  exact ⟨u, (hb.cell (p := ⟨b, o, none⟩) (World.block_lt_of_cell? w _ h0)).trans h0, (hb.cell (p := ⟨b, o + 1, none⟩) (World.block_lt_of_cell? w _ h1)).trans h1, h2.below hb⟩

/-- a list of atoms, read only -/
def IAt (w : World) (v : Value) (l : List AtomV) : Prop := ∃ a cap, v = .slice a l.length cap ∧ (l.length = 0 ∨ ∃ b o, a = some ⟨b, o, none⟩ ∧ ∀ j, j < l.length → AtAt w b (o + j * 2) (l.getD j noAt))

theorem IAt.below {w w' : World} {v : Value} {l : List AtomV} (h : IAt w v l) (hb : Below w.heap.size w w') : IAt w' v l := by
  obtain ⟨a, cap, rfl, h⟩ := h
  refine ⟨a, cap, rfl, ?_⟩
  rcases h with h | ⟨b, o, rfl, h⟩
  · exact Or.inl h
  · exact Or.inr ⟨b, o, rfl, fun j hj => (h j hj).below hb⟩

/-- what the size of an atom may be -/
structure FitAt (x : AtomV) : Prop where
  rel : x.1.size ≤ 9223372036854775807
  len : x.2.length ≤ 9223372036854775807
  tx : ∀ j, (x.2.getD j noTm).1.size ≤ 9223372036854775807
/-- small enough to be copied -/
structure OkAt (x : AtomV) : Prop where
  rel : x.1.size ≤ 1048576
  len : x.2.length ≤ 1048576
  tx : ∀ j, j < x.2.length → (x.2.getD j noTm).1.size ≤ 1048576

theorem heap_set_ne {w : World} {g c o : Nat} {v : Value} (h : g ≠ c) : (w.setCell ⟨c, o, none⟩ v).heap[g]? = w.heap[g]? := Below.heap_setCell _ _ _ _ h

end Go.Proofs.YtcdfoephhjacdaaDoor

/-
  laws.toAtomS, eqAtom, eqAtomS, szAtom, szAtomS.
-/
namespace Go.Proofs.YtcdfoephhjacdaaDoor
open Go.RowKit

theorem Tryd.infoAt : (Tryd.prog.info? 96).map (fun i => (i.zero, i.size, i.bytes)) = some (some (.agg #[.string ⟨#[]⟩, .slice none 0 0]), 2, 40) := by kernel_rfl

/-- the cells of a copied atom: its terms lie in a block of their own behind g -/
def AtR (W : World) (g : Nat) (x : AtomV) (a b : Value) : Prop := a = .string x.1 ∧ ∃ gt, b = .slice (some ⟨gt, 0, none⟩) x.2.length x.2.length ∧ OwnTm W gt x.2 ∧ g < gt

theorem AtR.below {W W' : World} {g : Nat} {x : AtomV} {a b : Value} (h : AtR W g x a b) (hb : Below W.heap.size W W') : AtR W' g x a b := by
  obtain ⟨h0, gt, h1, h2, h3⟩ := h
  exact ⟨h0, gt, h1, h2.below hb, h3⟩
theorem AtR.set {W : World} {g o : Nat} {x : AtomV} {a b v : Value} (h : AtR W g x a b) : AtR (W.setCell ⟨g, o, none⟩ v) g x a b := by
  obtain ⟨h0, gt, h1, h2, h3⟩ := h
  exact ⟨h0, gt, h1, h2.move (heap_set_ne (by omega)) (by simp [World.setCell]), h3⟩

/-- a copy of atoms, in block g and blocks behind it -/
def OwnAt (W : World) (g : Nat) (l : List AtomV) : Prop := HalfP W g l.length l.length (fun i a b => AtR W g (l.getD i noAt) a b) ∧ g < W.heap.size

theorem OwnAt.below {W W' : World} {g : Nat} {l : List AtomV} (h : OwnAt W g l) (hb : Below W.heap.size W W') : OwnAt W' g l :=
  ⟨h.1.below h.2 hb (fun _ _ _ _ h => h.below hb), Nat.lt_of_lt_of_le h.2 hb.size⟩

theorem OwnAt.set {W : World} {g c o : Nat} {v : Value} {l : List AtomV} (h : OwnAt W g l) (hc : c < g) : OwnAt (W.setCell ⟨c, o, none⟩ v) g l := by
  have ne : ∀ q, (W.setCell ⟨c, o, none⟩ v).cell? ⟨g, q, none⟩ = W.cell? ⟨g, q, none⟩ := fun q => World.cell?_setCell_other _ _ _ _ (by intro e; simp only [Addr.mk.injEq] at e; omega)
  refine ⟨⟨fun q hq => by rw [ne]; exact h.1.any q hq, fun q hq => by rw [World.frozen?_setCell]; exact h.1.free q hq, fun i hi => ?_⟩, by simpa [World.setCell] using h.2⟩
  obtain ⟨u0, u1, h0, h1, e0, gt, e1, h2, h3⟩ := h.1.pair i hi
  exact ⟨u0, u1, by rw [ne]; exact h0, by rw [ne]; exact h1, e0, gt, e1, h2.move (heap_set_ne (by omega)) (by simp [World.setCell]), h3⟩

theorem OwnAt.is {W : World} {g : Nat} {l : List AtomV} (h : OwnAt W g l) : IAt W (.slice (some ⟨g, 0, none⟩) l.length l.length) l :=
  ⟨_, _, rfl, Or.inr ⟨g, 0, rfl, fun j hj => by
    obtain ⟨u0, u1, h0, h1, rfl, gt, rfl, h3, _⟩ := h.1.pair j hj
    exact ⟨_, by rw [Nat.zero_add]; exact h0, by rw [Nat.zero_add]; exact h1, h3.is⟩⟩⟩

set_option maxHeartbeats 2000000 in
set_option maxRecDepth 1000000 in
theorem eqAtom_same (w : World) (s : ByteArray) (v u : Value) (l : List TermV) (h : ITm w v l) (h' : ITm w u l) (hl : l.length ≤ 1099511627776) :
    Calls Tryd.prog 64 #[.agg #[.string s, v], .agg #[.string s, u]] w fun e w' => e = .returned (.bool true) ∧ Below w.heap.size w w' := by
  have HB : Hid (Below w.heap.size w ((w.alloc (.cells #[.string s, v] 96)).alloc (.cells #[.string s, u] 96))) := hid (((Below.refl _ _).alloc (Nat.le_refl _) _).alloc (by simp) _)
  have H1 := hid h
  have H2 := hid h'
  obtain ⟨a1, k1, rfl, -⟩ := h
  obtain ⟨a2, k2, rfl, -⟩ := h'
  have q1 : (!s.toList == s.toList) = false := by simp
  go_enter Tryd.func64, Tryd.ntmps64
  go_wp2_with fail
  refine (eqTermS_same _ _ _ l (H1.out.below HB.out) (H2.out.below HB.out) hl).mono ?_
  rintro e w1 ⟨rfl, hb1⟩
  have HB1 := hid (bt HB.out hb1)
  go_wp2
  go_ret
  exact ⟨rfl, HB1.out⟩

set_option maxHeartbeats 4000000 in
set_option maxRecDepth 1000000 in
theorem eqAtomS_same (w : World) (v u : Value) (l : List AtomV) (h : IAt w v l) (h' : IAt w u l) (hl : l.length ≤ 1099511627776) (hk : ∀ j, j < l.length → (l.getD j noAt).2.length ≤ 1099511627776) :
    Calls Tryd.prog 29 #[v, u] w fun e w' => e = .returned (.bool true) ∧ Below w.heap.size w w' := by
  obtain ⟨a, cap, rfl, hc⟩ := h
  obtain ⟨a', cap', rfl, hc'⟩ := h'
  obtain ⟨n, hn⟩ : ∃ n, n = l.length := ⟨_, rfl⟩
  rw [← hn] at hc hc' hl hk ⊢
  have HC := hid hc
  have HC' := hid hc'
  have HK := hid hk
  clear hc hc' hn hk
  have hne : ((n : Int) != (n : Int)) = false := by simp
  go_enter Tryd.func29, Tryd.ntmps29
  go_wp2
  go_loopw [5] (fun t wr => ∃ j : Nat, j ≤ n ∧ t = .int .i64 j ∧ Hid (Below w.heap.size w wr)) (fun t _ => n - (intOf t).toNat)
  case atStart => exact ⟨0, Nat.zero_le _, rfl, hid (Below.refl _ _)⟩
  case round =>
    obtain ⟨j, hj, rfl, hB⟩ := hrel
    by_cases hjn : j < n
    · have i1 : (j : Int) < (n : Int) := by omega
      rcases HC.out with h0 | ⟨b, o, rfl, hrel⟩
      · omega
      · rcases HC'.out with h0 | ⟨b', o', rfl, hrel'⟩
        · omega
        · obtain ⟨x1, c0, c1, hx1⟩ := (hrel j hjn).below hB.out
          obtain ⟨x2, d0, d1, hx2⟩ := (hrel' j hjn).below hB.out
          have HQ : Hid (∀ W, Below wr.heap.size wr W → Calls Tryd.prog 64 #[.agg #[.string (l.getD j noAt).1, x1], .agg #[.string (l.getD j noAt).1, x2]] W fun e w' => e = .returned (.bool true) ∧ Below W.heap.size W w') := hid (fun W hb => eqAtom_same W _ _ _ _ (hx1.below hb) (hx2.below hb) (HK.out j hjn))
          obtain ⟨p1, q1, e1, -⟩ := hx1
          obtain ⟨p2, q2, e2, -⟩ := hx2
          subst e1 e2
          clear hrel hrel'
          generalize (l.getD j noAt).1 = x at *
          generalize (l.getD j noAt).2.length = m at *
          have HBW : Hid (∀ W, (W.cell? ⟨b, o + j * 2, none⟩ = some (.string x) ∧ W.cell? ⟨b, o + j * 2 + 1, none⟩ = some (.slice p1 m q1) ∧ W.cell? ⟨b', o' + j * 2, none⟩ = some (.string x) ∧ W.cell? ⟨b', o' + j * 2 + 1, none⟩ = some (.slice p2 m q2) ∧ Below wr.heap.size wr W) → Below wr.heap.size wr W) := hid (fun W h => h.2.2.2.2)
          go_wp2_with fail
          go_region_held3 (fun W => W.cell? ⟨b, o + j * 2, none⟩ = some (.string x) ∧ W.cell? ⟨b, o + j * 2 + 1, none⟩ = some (.slice p1 m q1) ∧ W.cell? ⟨b', o' + j * 2, none⟩ = some (.string x) ∧ W.cell? ⟨b', o' + j * 2 + 1, none⟩ = some (.slice p2 m q2) ∧ Below wr.heap.size wr W)
            (first | exact four_pairs c0 c1 d0 d1 (Below.refl _ _).drew | exact four_pairs c0 c1 d0 d1 (bt (Below.refl _ _).drew hb) | (refine four_pairs c0 c1 d0 d1 (bt (HBW.out _ ?_) hb); assumption))
            (first | (go_at_call 64; refine (HQ.out _ (by first | exact (Below.refl _ _).drew | exact Below.refl _ _ | exact HBW.out _ (by assumption))).mono ?_; rintro e w' ⟨rfl, hb⟩))
          go_wp2
          go_roundw
          case rel => exact ⟨j + 1, by omega, by go_num, hid (bt hB.out (HBW.out _ (by assumption)))⟩
          case measure => simp [intOf]; omega
    · obtain rfl : j = n := by omega
      have i1 : ¬ ((j : Int) < (j : Int)) := by omega
      go_wp2
      go_ret
      exact ⟨rfl, hB.out⟩

end Go.Proofs.YtcdfoephhjacdaaDoor

/-
  laws.szAtom, szAtomS; queries: szQuery, eqQuery.
-/
namespace Go.Proofs.YtcdfoephhjacdaaDoor
open Go.RowKit

structure QV where
  name : ByteArray
  head : List ByteArray
  ring : Int
  atoms : List AtomV

structure IQ (w : World) (vh va : Value) (q : QV) : Prop where
  head : ISt w vh q.head
  atoms : IAt w va q.atoms

theorem IQ.below {w w' : World} {vh va : Value} {q : QV} (h : IQ w vh va q) (hb : Below w.heap.size w w') : IQ w' vh va q := ⟨h.head.below hb, h.atoms.below hb⟩

structure FitQ (q : QV) : Prop where
  name : q.name.size ≤ 9223372036854775807
  len : q.head.length ≤ 9223372036854775807
  head : ∀ j, (q.head.getD j noTx).size ≤ 9223372036854775807
  alen : q.atoms.length ≤ 9223372036854775807
  atoms : ∀ j, FitAt (q.atoms.getD j noAt)
structure OkQ (q : QV) : Prop where
  name : q.name.size ≤ 1048576
  len : q.head.length ≤ 1048576
  head : ∀ j, j < q.head.length → (q.head.getD j noTx).size ≤ 1048576
  alen : q.atoms.length ≤ 1048576
  atoms : ∀ j, j < q.atoms.length → OkAt (q.atoms.getD j noAt)

end Go.Proofs.YtcdfoephhjacdaaDoor
