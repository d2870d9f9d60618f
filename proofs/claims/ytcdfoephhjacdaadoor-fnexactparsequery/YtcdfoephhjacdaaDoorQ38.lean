import Derived.Deep.RegionHeld3
import Derived.Laws.OwnMore
import Derived.Test.YtcdfoephhjacdaaDoorQ15
/-
  Terms and lists of terms: laws.szTerm(S), toTerm(S), eqTerm(S).
-/
namespace Go.Proofs.YtcdfoephhjacdaaDoor
open Go.RowKit

abbrev TermV := ByteArray × Int
def noTm : TermV := (noTx, 0)

/-- a list of terms, read only -/
def ITm (w : World) (v : Value) (l : List TermV) : Prop := ∃ a cap, v = .slice a l.length cap ∧ (l.length = 0 ∨ ∃ b o, a = some ⟨b, o, none⟩ ∧ ∀ j, j < l.length →
  w.cell? ⟨b, o + j * 2, none⟩ = some (.string (l.getD j noTm).1) ∧ w.cell? ⟨b, o + j * 2 + 1, none⟩ = some (.int .i64 (l.getD j noTm).2))

theorem ITm.below {w w' : World} {v : Value} {l : List TermV} (h : ITm w v l) (hb : Below w.heap.size w w') : ITm w' v l := by
  obtain ⟨a, cap, rfl, h⟩ := h
  refine ⟨a, cap, rfl, ?_⟩
  rcases h with h | ⟨b, o, rfl, h⟩
  · exact Or.inl h
  · exact Or.inr ⟨b, o, rfl, fun j hj => ⟨(hb.cell (p := ⟨b, o + j * 2, none⟩) (World.block_lt_of_cell? w _ (h j hj).1)).trans (h j hj).1, (hb.cell (p := ⟨b, o + j * 2 + 1, none⟩) (World.block_lt_of_cell? w _ (h j hj).2)).trans (h j hj).2⟩⟩

/-- a copy of terms in block g -/
structure OwnTm (w : World) (g : Nat) (l : List TermV) : Prop where
  cell : ∀ j, j < l.length → w.cell? ⟨g, j * 2, none⟩ = some (.string (l.getD j noTm).1) ∧ w.cell? ⟨g, j * 2 + 1, none⟩ = some (.int .i64 (l.getD j noTm).2)
  free : ∀ j, j < l.length * 2 → w.frozen? ⟨g, j, none⟩ = false
  lt : g < w.heap.size

theorem OwnTm.is {w : World} {g : Nat} {l : List TermV} (h : OwnTm w g l) : ITm w (.slice (some ⟨g, 0, none⟩) l.length l.length) l :=
  ⟨_, _, rfl, Or.inr ⟨g, 0, rfl, fun j hj => by rw [Nat.zero_add]; exact h.cell j hj⟩⟩
theorem OwnTm.move {w w' : World} {g : Nat} {l : List TermV} (h : OwnTm w g l) (hb : w'.heap[g]? = w.heap[g]?) (hs : w.heap.size ≤ w'.heap.size) : OwnTm w' g l :=
  ⟨fun j hj => ⟨(World.cell?_of_block (w := w) (a := ⟨g, j * 2, none⟩) hb).trans (h.cell j hj).1, (World.cell?_of_block (w := w) (a := ⟨g, j * 2 + 1, none⟩) hb).trans (h.cell j hj).2⟩, fun j hj => (World.frozen?_of_block (w := w) (a := ⟨g, j, none⟩) hb).trans (h.free j hj), Nat.lt_of_lt_of_le h.lt hs⟩
theorem OwnTm.below {w w' : World} {g : Nat} {l : List TermV} (h : OwnTm w g l) (hb : Below w.heap.size w w') : OwnTm w' g l := h.move (hb.block g h.lt) hb.size

/-- the first j of n pairs of cells have been laid, R of each -/
structure HalfP (W : World) (g n j : Nat) (R : Nat → Value → Value → Prop) : Prop where
  any : ∀ q, q < n * 2 → ∃ u, W.cell? ⟨g, q, none⟩ = some u
  free : ∀ q, q < n * 2 → W.frozen? ⟨g, q, none⟩ = false
  pair : ∀ i, i < j → ∃ u0 u1, W.cell? ⟨g, i * 2, none⟩ = some u0 ∧ W.cell? ⟨g, i * 2 + 1, none⟩ = some u1 ∧ R i u0 u1

theorem HalfP.below {W W' : World} {g n j : Nat} {R R' : Nat → Value → Value → Prop} (h : HalfP W g n j R) (hg : g < W.heap.size) (hb : Below W.heap.size W W') (hR : ∀ i u0 u1, i < j → R i u0 u1 → R' i u0 u1) : HalfP W' g n j R' :=
  ⟨fun q hq => by obtain ⟨u, hu⟩ := h.any q hq; exact ⟨u, (hb.cell (p := ⟨g, q, none⟩) hg).trans hu⟩, fun q hq => (hb.frozen (p := ⟨g, q, none⟩) hg).trans (h.free q hq), fun i hi => by
    obtain ⟨u0, u1, h0, h1, h2⟩ := h.pair i hi
    exact ⟨u0, u1, (hb.cell (p := ⟨g, i * 2, none⟩) hg).trans h0, (hb.cell (p := ⟨g, i * 2 + 1, none⟩) hg).trans h1, hR i u0 u1 hi h2⟩⟩

theorem cell_any {W : World} {g q q' : Nat} {v : Value} (h : ∃ u, W.cell? ⟨g, q, none⟩ = some u) : ∃ u, (W.setCell ⟨g, q', none⟩ v).cell? ⟨g, q, none⟩ = some u := by
  obtain ⟨u, hu⟩ := h
  by_cases e : q = q'
  · subst e; exact ⟨v, World.cell?_setCell_same _ _ _ hu⟩
  · exact ⟨u, (World.cell?_setCell_other _ _ _ _ (by intro e2; simp only [Addr.mk.injEq] at e2; omega)).trans hu⟩

theorem HalfP.step {W : World} {g n j : Nat} {R R' : Nat → Value → Value → Prop} {u0 u1 : Value} (h : HalfP W g n j R) (hj : j < n) (hR : ∀ i a b, i < j → R i a b → R' i a b) (hn : R' j u0 u1) :
    HalfP ((W.setCell ⟨g, j * 2, none⟩ u0).setCell ⟨g, j * 2 + 1, none⟩ u1) g n (j + 1) R' where
  any q hq := cell_any (cell_any (h.any q hq))
  free q hq := by rw [World.frozen?_setCell, World.frozen?_setCell]; exact h.free q hq
  pair i hi := by
    have ne : ∀ (X : World) (a b : Nat) (v : Value), a ≠ b → (X.setCell ⟨g, b, none⟩ v).cell? ⟨g, a, none⟩ = X.cell? ⟨g, a, none⟩ := fun X a b v hab => World.cell?_setCell_other _ _ _ _ (by intro e2; simp only [Addr.mk.injEq] at e2; omega)
    by_cases e : i = j
    · subst e
      obtain ⟨x0, c0⟩ := h.any (i * 2) (by omega)
      obtain ⟨x1, c1⟩ := h.any (i * 2 + 1) (by omega)
      refine ⟨u0, u1, ?_, ?_, hn⟩
      · rw [ne _ _ _ _ (by omega)]; exact World.cell?_setCell_same _ _ _ c0
      · exact World.cell?_setCell_same _ _ _ ((ne _ _ _ _ (by omega)).trans c1)
    · obtain ⟨a, b, h0, h1, h2⟩ := h.pair i (by omega)
      exact ⟨a, b, by rw [ne _ _ _ _ (by omega), ne _ _ _ _ (by omega)]; exact h0, by rw [ne _ _ _ _ (by omega), ne _ _ _ _ (by omega)]; exact h1, hR i a b (by omega) h2⟩

theorem Tryd.infoTm : (Tryd.prog.info? 145).map (fun i => (i.zero, i.size, i.bytes)) = some (some (.agg #[.string ⟨#[]⟩, .int .i64 0]), 2, 24) := by kernel_rfl

set_option maxHeartbeats 400000 in
theorem eqTerm_same (s : ByteArray) (d : Int) (w : World) :
    Calls Tryd.prog 115 #[.agg #[.string s, .int .i64 d], .agg #[.string s, .int .i64 d]] w fun e w' => e = .returned (.bool true) ∧ Below w.heap.size w w' := by
  have hn : (!s.toList == s.toList) = false := by simp
  have hd : (d != d) = false := by simp
  go_enter Tryd.func115, Tryd.ntmps115
  go_wp2
  go_ret
  exact ⟨rfl, by go_grown⟩

end Go.Proofs.YtcdfoephhjacdaaDoor

/-
  laws.eqTermS.
-/
namespace Go.Proofs.YtcdfoephhjacdaaDoor
open Go.RowKit

theorem four_pairs {w5 W : World} {b o b' o' : Nat} {v0 v1 u0 u1 : Value}
    (h0 : w5.cell? ⟨b, o, none⟩ = some v0) (h1 : w5.cell? ⟨b, o + 1, none⟩ = some v1)
    (k0 : w5.cell? ⟨b', o', none⟩ = some u0) (k1 : w5.cell? ⟨b', o' + 1, none⟩ = some u1) (hb : Below w5.heap.size w5 W) :
    W.cell? ⟨b, o, none⟩ = some v0 ∧ W.cell? ⟨b, o + 1, none⟩ = some v1 ∧ W.cell? ⟨b', o', none⟩ = some u0 ∧ W.cell? ⟨b', o' + 1, none⟩ = some u1 ∧ Below w5.heap.size w5 W :=
  ⟨(hb.cell (p := ⟨b, o, none⟩) (World.block_lt_of_cell? w5 _ h0)).trans h0, (hb.cell (p := ⟨b, o + 1, none⟩) (World.block_lt_of_cell? w5 _ h1)).trans h1,
    (hb.cell (p := ⟨b', o', none⟩) (World.block_lt_of_cell? w5 _ k0)).trans k0, (hb.cell (p := ⟨b', o' + 1, none⟩) (World.block_lt_of_cell? w5 _ k1)).trans k1, hb⟩

set_option maxHeartbeats 4000000 in
set_option maxRecDepth 1000000 in
theorem eqTermS_same (w : World) (v u : Value) (l : List TermV) (h : ITm w v l) (h' : ITm w u l) (hl : l.length ≤ 1099511627776) :
    Calls Tryd.prog 93 #[v, u] w fun e w' => e = .returned (.bool true) ∧ Below w.heap.size w w' := by
  obtain ⟨a, cap, rfl, hc⟩ := h
  obtain ⟨a', cap', rfl, hc'⟩ := h'
  obtain ⟨n, hn⟩ : ∃ n, n = l.length := ⟨_, rfl⟩
  rw [← hn] at hc hc' hl ⊢
  have HC := hid hc
  have HC' := hid hc'
  clear hc hc' hn
  have hne : ((n : Int) != (n : Int)) = false := by simp
  go_enter Tryd.func93, Tryd.ntmps93
  go_wp2
  go_loopw [5] (fun t wr => ∃ j : Nat, j ≤ n ∧ t = .int .i64 j ∧ Hid (Below w.heap.size w wr)) (fun t _ => n - (intOf t).toNat)
  case atStart => exact ⟨0, Nat.zero_le _, rfl, hid (Below.refl _ _)⟩
  case round =>
    obtain ⟨j, hj, rfl, hB⟩ := hrel
    by_cases hjn : j < n
    · have i1 : (j : Int) < (n : Int) := by omega
      rcases HC.out with h0 | ⟨b, o, rfl, hrel⟩
      · omega
      · rcases HC'.out with h0 | ⟨b', o', rfl, hrel'⟩
        · omega
        · obtain ⟨e0, e1⟩ := hrel j hjn
          obtain ⟨f0, f1⟩ := hrel' j hjn
          have c0 := (hB.out.cell (p := ⟨b, o + j * 2, none⟩) (World.block_lt_of_cell? w _ e0)).trans e0
          have c1 := (hB.out.cell (p := ⟨b, o + j * 2 + 1, none⟩) (World.block_lt_of_cell? w _ e1)).trans e1
          have d0 := (hB.out.cell (p := ⟨b', o' + j * 2, none⟩) (World.block_lt_of_cell? w _ f0)).trans f0
          have d1 := (hB.out.cell (p := ⟨b', o' + j * 2 + 1, none⟩) (World.block_lt_of_cell? w _ f1)).trans f1
          clear hrel hrel' e0 e1 f0 f1
          generalize (l.getD j noTm).1 = x at *
          generalize (l.getD j noTm).2 = y at *
          have HBW : Hid (∀ W, (W.cell? ⟨b, o + j * 2, none⟩ = some (.string x) ∧ W.cell? ⟨b, o + j * 2 + 1, none⟩ = some (.int .i64 y) ∧ W.cell? ⟨b', o' + j * 2, none⟩ = some (.string x) ∧ W.cell? ⟨b', o' + j * 2 + 1, none⟩ = some (.int .i64 y) ∧ Below wr.heap.size wr W) → Below wr.heap.size wr W) := hid (fun W h => h.2.2.2.2)
          go_wp2_with fail
          go_region_held3 (fun W => W.cell? ⟨b, o + j * 2, none⟩ = some (.string x) ∧ W.cell? ⟨b, o + j * 2 + 1, none⟩ = some (.int .i64 y) ∧ W.cell? ⟨b', o' + j * 2, none⟩ = some (.string x) ∧ W.cell? ⟨b', o' + j * 2 + 1, none⟩ = some (.int .i64 y) ∧ Below wr.heap.size wr W)
            (first | exact four_pairs c0 c1 d0 d1 (Below.refl _ _).drew | exact four_pairs c0 c1 d0 d1 (bt (Below.refl _ _).drew hb) | (refine four_pairs c0 c1 d0 d1 (bt (HBW.out _ ?_) hb); assumption))
            (first | (go_at_call 115; refine (eqTerm_same _ _ _).mono ?_; rintro e w' ⟨rfl, hb⟩))
          go_wp2
          go_roundw
          case rel => exact ⟨j + 1, by omega, by go_num, hid (bt hB.out (HBW.out _ (by assumption)))⟩
          case measure => simp [intOf]; omega
    · obtain rfl : j = n := by omega
      have i1 : ¬ ((j : Int) < (j : Int)) := by omega
      go_wp2
      go_ret
      exact ⟨rfl, hB.out⟩

end Go.Proofs.YtcdfoephhjacdaaDoor
