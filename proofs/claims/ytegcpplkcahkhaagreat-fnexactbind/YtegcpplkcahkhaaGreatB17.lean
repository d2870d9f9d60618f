import Derived.Deep.RegionHeld3
import Derived.Laws.OwnMore
import Derived.Test.YtegcpplkcahkhaaGreatB16
/-
  Terms and lists of terms: laws.szTerm(S), toTerm(S), eqTerm(S).
-/
namespace Go.Proofs.YtegcpplkcahkhaaGreat
open Go.RowKit

abbrev TermV := ByteArray × Int
def noTm : TermV := (noTx, 0)

/-- a list of terms, read only -/
def ITm (w : World) (v : Value) (l : List TermV) : Prop := ∃ a cap, v = .slice a l.length cap ∧ (l.length = 0 ∨ ∃ b o, a = some ⟨b, o, none⟩ ∧ ∀ j, j < l.length →
  w.cell? ⟨b, o + j * 2, none⟩ = some (.string (l.getD j noTm).1) ∧ w.cell? ⟨b, o + j * 2 + 1, none⟩ = some (.int .i64 (l.getD j noTm).2))

theorem ITm.below {w w' : World} {v : Value} {l : List TermV} (h : ITm w v l) (hb : Below w.heap.size w w') : ITm w' v l := by
  obtain ⟨a, cap, rfl, h⟩ := h
  refine ⟨a, cap, rfl, ?_⟩
  rcases h with h | ⟨b, o, rfl, h⟩
  · exact Or.inl h
  · exact Or.inr ⟨b, o, rfl, fun j hj => ⟨(hb.cell (p := ⟨b, o + j * 2, none⟩) (World.block_lt_of_cell? w _ (h j hj).1)).trans (h j hj).1, (hb.cell (p := ⟨b, o + j * 2 + 1, none⟩) (World.block_lt_of_cell? w _ (h j hj).2)).trans (h j hj).2⟩⟩

/-- a copy of terms in block g -/
structure OwnTm (w : World) (g : Nat) (l : List TermV) : Prop where
  cell : ∀ j, j < l.length → w.cell? ⟨g, j * 2, none⟩ = some (.string (l.getD j noTm).1) ∧ w.cell? ⟨g, j * 2 + 1, none⟩ = some (.int .i64 (l.getD j noTm).2)
  free : ∀ j, j < l.length * 2 → w.frozen? ⟨g, j, none⟩ = false
  lt : g < w.heap.size

theorem OwnTm.is {w : World} {g : Nat} {l : List TermV} (h : OwnTm w g l) : ITm w (.slice (some ⟨g, 0, none⟩) l.length l.length) l :=
  ⟨_, _, rfl, Or.inr ⟨g, 0, rfl, fun j hj => by rw [Nat.zero_add]; exact h.cell j hj⟩⟩
theorem OwnTm.move {w w' : World} {g : Nat} {l : List TermV} (h : OwnTm w g l) (hb : w'.heap[g]? = w.heap[g]?) (hs : w.heap.size ≤ w'.heap.size) : OwnTm w' g l :=
  ⟨fun j hj => ⟨(World.cell?_of_block (w := w) (a := ⟨g, j * 2, none⟩) hb).trans (h.cell j hj).1, (World.cell?_of_block (w := w) (a := ⟨g, j * 2 + 1, none⟩) hb).trans (h.cell j hj).2⟩, fun j hj => (World.frozen?_of_block (w := w) (a := ⟨g, j, none⟩) hb).trans (h.free j hj), Nat.lt_of_lt_of_le h.lt hs⟩
theorem OwnTm.below {w w' : World} {g : Nat} {l : List TermV} (h : OwnTm w g l) (hb : Below w.heap.size w w') : OwnTm w' g l := h.move (hb.block g h.lt) hb.size

/-- the first j of n pairs of cells have been laid, R of each -/
structure HalfP (W : World) (g n j : Nat) (R : Nat → Value → Value → Prop) : Prop where
  any : ∀ q, q < n * 2 → ∃ u, W.cell? ⟨g, q, none⟩ = some u
  free : ∀ q, q < n * 2 → W.frozen? ⟨g, q, none⟩ = false
  pair : ∀ i, i < j → ∃ u0 u1, W.cell? ⟨g, i * 2, none⟩ = some u0 ∧ W.cell? ⟨g, i * 2 + 1, none⟩ = some u1 ∧ R i u0 u1

theorem HalfP.below {W W' : World} {g n j : Nat} {R R' : Nat → Value → Value → Prop} (h : HalfP W g n j R) (hg : g < W.heap.size) (hb : Below W.heap.size W W') (hR : ∀ i u0 u1, i < j → R i u0 u1 → R' i u0 u1) : HalfP W' g n j R' :=
  ⟨fun q hq => by obtain ⟨u, hu⟩ := h.any q hq; exact ⟨u, (hb.cell (p := ⟨g, q, none⟩) hg).trans hu⟩, fun q hq => (hb.frozen (p := ⟨g, q, none⟩) hg).trans (h.free q hq), fun i hi => by
    obtain ⟨u0, u1, h0, h1, h2⟩ := h.pair i hi
    exact ⟨u0, u1, (hb.cell (p := ⟨g, i * 2, none⟩) hg).trans h0, (hb.cell (p := ⟨g, i * 2 + 1, none⟩) hg).trans h1, hR i u0 u1 hi h2⟩⟩

theorem cell_any {W : World} {g q q' : Nat} {v : Value} (h : ∃ u, W.cell? ⟨g, q, none⟩ = some u) : ∃ u, (W.setCell ⟨g, q', none⟩ v).cell? ⟨g, q, none⟩ = some u := by
  obtain ⟨u, hu⟩ := h
  by_cases e : q = q'
  · subst e; exact ⟨v, World.cell?_setCell_same _ _ _ hu⟩
  · exact ⟨u, (World.cell?_setCell_other _ _ _ _ (by intro e2; simp only [Addr.mk.injEq] at e2; omega)).trans hu⟩

theorem HalfP.step {W : World} {g n j : Nat} {R R' : Nat → Value → Value → Prop} {u0 u1 : Value} (h : HalfP W g n j R) (hj : j < n) (hR : ∀ i a b, i < j → R i a b → R' i a b) (hn : R' j u0 u1) :
    HalfP ((W.setCell ⟨g, j * 2, none⟩ u0).setCell ⟨g, j * 2 + 1, none⟩ u1) g n (j + 1) R' where
  any q hq := cell_any (cell_any (h.any q hq))
  free q hq := by rw [World.frozen?_setCell, World.frozen?_setCell]; exact h.free q hq
  pair i hi := by
    have ne : ∀ (X : World) (a b : Nat) (v : Value), a ≠ b → (X.setCell ⟨g, b, none⟩ v).cell? ⟨g, a, none⟩ = X.cell? ⟨g, a, none⟩ := fun X a b v hab => World.cell?_setCell_other _ _ _ _ (by intro e2; simp only [Addr.mk.injEq] at e2; omega)
    by_cases e : i = j
    · subst e
      obtain ⟨x0, c0⟩ := h.any (i * 2) (by omega)
      obtain ⟨x1, c1⟩ := h.any (i * 2 + 1) (by omega)
      refine ⟨u0, u1, ?_, ?_, hn⟩
      · rw [ne _ _ _ _ (by omega)]; exact World.cell?_setCell_same _ _ _ c0
      · exact World.cell?_setCell_same _ _ _ ((ne _ _ _ _ (by omega)).trans c1)
    · obtain ⟨a, b, h0, h1, h2⟩ := h.pair i (by omega)
      exact ⟨a, b, by rw [ne _ _ _ _ (by omega), ne _ _ _ _ (by omega)]; exact h0, by rw [ne _ _ _ _ (by omega), ne _ _ _ _ (by omega)]; exact h1, hR i a b (by omega) h2⟩

theorem Tryz.infoTm : (Tryz.prog.info? 62).map (fun i => (i.zero, i.size, i.bytes)) = some (some (.agg #[.string ⟨#[]⟩, .int .i64 0]), 2, 24) := by kernel_rfl

set_option maxHeartbeats 400000 in
theorem toTerm_calls (s : ByteArray) (d : Int) (w : World) :
    Calls Tryz.prog 95 #[.agg #[.string s, .int .i64 d]] w fun e w' => e = .returned (.agg #[.string s, .int .i64 d]) ∧ Below w.heap.size w w' := by
  go_enter Tryz.func95, Tryz.ntmps95
  go_wp2
  refine bodyPost_ret (v := .agg #[.string s, .int .i64 d]) (by simp [results, Tryz.results95, go_sem]) rfl ⟨rfl, ?_⟩
  go_grown

set_option maxHeartbeats 400000 in
theorem eqTerm_same (s : ByteArray) (d : Int) (w : World) :
    Calls Tryz.prog 109 #[.agg #[.string s, .int .i64 d], .agg #[.string s, .int .i64 d]] w fun e w' => e = .returned (.bool true) ∧ Below w.heap.size w w' := by
  have hn : (!s.toList == s.toList) = false := by simp
  have hd : (d != d) = false := by simp
  go_enter Tryz.func109, Tryz.ntmps109
  go_wp2
  go_ret
  exact ⟨rfl, by go_grown⟩

set_option maxHeartbeats 400000 in
theorem szTerm_calls (s : ByteArray) (d left : Int) (w : World) (hs : s.size ≤ 9223372036854775807) (h1 : 0 ≤ left) (h2 : left ≤ 1048576) :
    Calls Tryz.prog 92 #[.agg #[.string s, .int .i64 d], .int .i64 left] w fun e w' => ∃ z : Int, e = .returned (.int .i64 z) ∧ Below w.heap.size w w' ∧ (z = -1 ∨ (0 ≤ z ∧ z ≤ left ∧ (s.size : Int) ≤ left)) := by
  by_cases h3 : left - (s.size : Int) < 0
  · go_enter Tryz.func92, Tryz.ntmps92
    go_wp2
    go_ret
    exact ⟨_, rfl, by go_grown, Or.inl rfl⟩
  · go_enter Tryz.func92, Tryz.ntmps92
    go_wp2
    go_ret
    exact ⟨_, rfl, by go_grown, Or.inr ⟨by omega, by omega, by omega⟩⟩

set_option maxHeartbeats 2000000 in
theorem szTermS_calls (w : World) (v : Value) (l : List TermV) (left : Int) (h : ITm w v l) (hl : l.length ≤ 9223372036854775807) (hz : ∀ j, (l.getD j noTm).1.size ≤ 9223372036854775807) (h1 : 0 ≤ left) (h2 : left ≤ 1048576) :
    Calls Tryz.prog 72 #[v, .int .i64 left] w fun e w' => ∃ z : Int, e = .returned (.int .i64 z) ∧ Below w.heap.size w w' ∧ (z = -1 ∨ (0 ≤ z ∧ z ≤ left ∧ (l.length : Int) ≤ left ∧ ∀ j, j < l.length → ((l.getD j noTm).1.size : Int) ≤ left)) := by
  obtain ⟨a, cap, rfl, hc⟩ := h
  obtain ⟨n, hn⟩ : ∃ n, n = l.length := ⟨_, rfl⟩
  rw [← hn] at hc hl ⊢
  have HC := hid hc
  have HZ := hid hz
  clear hc hz hn
  by_cases h3 : left - (n : Int) < 0
  · go_enter Tryz.func72, Tryz.ntmps72
    go_wp2
    go_ret
    exact ⟨_, rfl, Below.refl _ _, Or.inl rfl⟩
  · go_enter Tryz.func72, Tryz.ntmps72
    go_wp2
    go_loopw [1, 5] (fun v t wr => ∃ (j : Nat) (z : Int), j ≤ n ∧ t = .int .i64 j ∧ v = .int .i64 z ∧ 0 ≤ z ∧ z ≤ left - n ∧ Hid (Below w.heap.size w wr ∧ ∀ i, i < j → ((l.getD i noTm).1.size : Int) ≤ left)) (fun _ t _ => n - (intOf t).toNat)
    case atStart => exact ⟨0, _, Nat.zero_le _, rfl, rfl, by omega, by omega, hid ⟨Below.refl _ _, fun i hi => by omega⟩⟩
    case round =>
      obtain ⟨j, z, hj, rfl, rfl, hz0, hz1, HH⟩ := hrel
      by_cases hjn : j < n
      · have i1 : (j : Int) < (n : Int) := by omega
        rcases HC.out with h0 | ⟨b, o, rfl, hcell⟩
        · omega
        · obtain ⟨c0', c1'⟩ := hcell j hjn
          have c0 := (HH.out.1.cell (p := ⟨b, o + j * 2, none⟩) (World.block_lt_of_cell? w _ c0')).trans c0'
          have c1 := (HH.out.1.cell (p := ⟨b, o + j * 2 + 1, none⟩) (World.block_lt_of_cell? w _ c1')).trans c1'
          have HH2 : Hid (((l.getD j noTm).1.size : Int) ≤ left → ∀ i, i < j + 1 → ((l.getD i noTm).1.size : Int) ≤ left) := hid (fun h i hi => by
            by_cases e : i = j
            · rw [e]; exact h
            · exact HH.out.2 i (by omega))
          have K := hid (szTerm_calls (l.getD j noTm).1 (l.getD j noTm).2 z wr (HZ.out j) hz0 (by omega))
          clear hcell c0' c1'
          generalize (l.getD j noTm).1 = s at *
          generalize (l.getD j noTm).2 = d at *
          go_wp2_with fail
          refine K.out.mono ?_
          rintro e w2 ⟨z2, rfl, hb2, hz2⟩
          have HB2 := hid (bt HH.out.1 hb2)
          clear hb2 K c0 c1
          rcases hz2 with rfl | ⟨g0, g1, g2⟩
          · go_wp2
            go_ret
            exact ⟨_, rfl, HB2.out, Or.inl rfl⟩
          · have hneg : ¬ (z2 < 0) := by omega
            go_wp2
            go_roundw
            case rel => exact ⟨j + 1, z2, by omega, by go_num, rfl, g0, by omega, hid ⟨HB2.out, HH2.out (by omega)⟩⟩
            case measure => simp [intOf]; omega
      · obtain rfl : j = n := by omega
        have i1 : ¬ ((j : Int) < (j : Int)) := by omega
        go_wp2
        go_ret
        exact ⟨_, rfl, HH.out.1, Or.inr ⟨hz0, by omega, by omega, HH.out.2⟩⟩

set_option maxHeartbeats 4000000 in
set_option maxRecDepth 1000000 in
theorem toTermS_calls (w : World) (v : Value) (l : List TermV) (h : ITm w v l) (hl : l.length ≤ 1048576) :
    Calls Tryz.prog 79 #[v] w fun e w' => e = .returned (.slice (some ⟨w.heap.size, 0, none⟩) l.length l.length) ∧ OwnTm w' w.heap.size l ∧ Below w.heap.size w w' := by
  obtain ⟨i0, hi, hz0, hz1, hz2⟩ := info_parts Tryz.infoTm
  obtain ⟨a, cap, rfl, hc⟩ := h
  obtain ⟨n, hn⟩ : ∃ n, n = l.length := ⟨_, rfl⟩
  have HC := hid hc
  have HN := hid hn
  rw [← hn] at HC hl ⊢
  clear hc hn
  go_enter Tryz.func79, Tryz.ntmps79
  go_wp2_with (at_make; refine wpList_make_full _ rfl _ _ 54 rfl w.heap.size 62 i0 (.agg #[.string ⟨#[]⟩, .int .i64 0]) 2 Tryz.underlying54 hi hz0 hz1 _ _ _ _ n rfl rfl rfl rfl ?b2 ?b3 (Nat.le_refl _) ?_)
  case b2 => rw [hz2]; omega
  case b3 => unfold maxLen; omega
  intro w0 hown0 hgrow0
  have hb0 : Below w.heap.size w w0 := (Below.refl _ _).grown hgrow0 (Nat.le_refl _) (fun j hj => by cases hj)
  have hlt0 : w.heap.size < w0.heap.size := (hown0.lt _ rfl).2
  have hH0 : HalfP w0 w.heap.size n 0 (fun i a b => a = .string (l.getD i noTm).1 ∧ b = .int .i64 (l.getD i noTm).2) := ⟨fun q hq => by
      rw [hown0.cellAt q hq]
      exact ⟨_, List.getElem?_eq_getElem (by rw [hown0.1]; exact hq)⟩, fun q _ => hown0.frozenAt q, fun i hi => by omega⟩
  have HH0 := hid (And.intro hb0 (And.intro hlt0 hH0))
  clear hown0 hgrow0 hb0 hlt0 hH0
  go_wp2
  go_loopw [4] (fun t wr => ∃ j : Nat, j ≤ n ∧ t = .int .i64 j ∧ Hid (Below w.heap.size w wr ∧ w.heap.size < wr.heap.size ∧ HalfP wr w.heap.size n j (fun i a b => a = .string (l.getD i noTm).1 ∧ b = .int .i64 (l.getD i noTm).2))) (fun t _ => n - (intOf t).toNat)
  case atStart => exact ⟨0, Nat.zero_le _, rfl, HH0⟩
  case round =>
    clear HH0
    obtain ⟨j, hj, rfl, hH⟩ := hrel
    obtain ⟨hnx, hlt, hhr⟩ := hH.out
    by_cases hjn : j < n
    · have i1 : (j : Int) < (n : Int) := by omega
      rcases HC.out with h0 | ⟨b, o, rfl, hrel⟩
      · omega
      · obtain ⟨c0', c1'⟩ := hrel j hjn
        have c0 := (hnx.cell (p := ⟨b, o + j * 2, none⟩) (World.block_lt_of_cell? w _ c0')).trans c0'
        have c1 := (hnx.cell (p := ⟨b, o + j * 2 + 1, none⟩) (World.block_lt_of_cell? w _ c1')).trans c1'
        have HNX := hid hnx
        have HHR := hid hhr
        have HST : Hid (∀ W, Below wr.heap.size wr W → HalfP ((W.setCell ⟨w.heap.size, j * 2, none⟩ (.string (l.getD j noTm).1)).setCell ⟨w.heap.size, j * 2 + 1, none⟩ (.int .i64 (l.getD j noTm).2)) w.heap.size n (j + 1) (fun i a b => a = .string (l.getD i noTm).1 ∧ b = .int .i64 (l.getD i noTm).2)) := hid (fun W hb =>
          (HHR.out.below hlt hb (fun _ _ _ _ h => h)).step hjn (fun _ _ _ _ h => h) ⟨rfl, rfl⟩)
        clear hH hnx hhr hrel c0' c1'
        obtain ⟨s, hs⟩ : ∃ x, x = (l.getD j noTm).1 := ⟨_, rfl⟩
        obtain ⟨d, hd⟩ : ∃ x, x = (l.getD j noTm).2 := ⟨_, rfl⟩
        rw [← hs] at c0 HST
        rw [← hd] at c1 HST
        clear hs hd
        go_wp2_with fail
        refine (toTerm_calls s d wr).mono ?_
        rintro e w2 ⟨rfl, hb⟩
        have hHR2 := HHR.out.below hlt hb (fun _ _ _ _ h => h)
        obtain ⟨u0, d0⟩ := hHR2.any (j * 2) (by omega)
        obtain ⟨u1, d1⟩ := hHR2.any (j * 2 + 1) (by omega)
        have f0 := hHR2.free (j * 2) (by omega)
        have f1 := hHR2.free (j * 2 + 1) (by omega)
        have HF := hid (HST.out w2 hb)
        have HB2 := hid (bt HNX.out hb)
        have hs2 := hb.size
        clear hHR2 hb HST c0 c1
        go_wp2
        go_roundw
        case rel => exact ⟨j + 1, by omega, by go_num, hid ⟨(HB2.out.setCell (Nat.le_refl _) _).setCell (Nat.le_refl _) _, by simp [World.setCell]; omega, HF.out⟩⟩
        case measure => simp [intOf]; omega
    · obtain rfl : j = n := by omega
      have i1 : ¬ ((j : Int) < (j : Int)) := by omega
      have HX := hid (And.intro hhr (And.intro hlt hnx))
      clear hH hnx hhr
      go_wp2
      go_ret
      refine ⟨rfl, ⟨fun i hi => ?_, fun q hq => HX.out.1.free q (by rw [HN.out]; exact hq), HX.out.2.1⟩, HX.out.2.2⟩
      obtain ⟨u0, u1, h0, h1, rfl, rfl⟩ := HX.out.1.pair i (by rw [HN.out]; exact hi)
      exact ⟨h0, h1⟩

end Go.Proofs.YtegcpplkcahkhaaGreat

/-
  laws.eqTermS.
-/
namespace Go.Proofs.YtegcpplkcahkhaaGreat
open Go.RowKit

theorem four_pairs {w5 W : World} {b o b' o' : Nat} {v0 v1 u0 u1 : Value}
    (h0 : w5.cell? ⟨b, o, none⟩ = some v0) (h1 : w5.cell? ⟨b, o + 1, none⟩ = some v1)
    (k0 : w5.cell? ⟨b', o', none⟩ = some u0) (k1 : w5.cell? ⟨b', o' + 1, none⟩ = some u1) (hb : Below w5.heap.size w5 W) :
    W.cell? ⟨b, o, none⟩ = some v0 ∧ W.cell? ⟨b, o + 1, none⟩ = some v1 ∧ W.cell? ⟨b', o', none⟩ = some u0 ∧ W.cell? ⟨b', o' + 1, none⟩ = some u1 ∧ Below w5.heap.size w5 W :=
  ⟨(hb.cell (p := ⟨b, o, none⟩) (World.block_lt_of_cell? w5 _ h0)).trans h0, (hb.cell (p := ⟨b, o + 1, none⟩) (World.block_lt_of_cell? w5 _ h1)).trans h1,
    (hb.cell (p := ⟨b', o', none⟩) (World.block_lt_of_cell? w5 _ k0)).trans k0, (hb.cell (p := ⟨b', o' + 1, none⟩) (World.block_lt_of_cell? w5 _ k1)).trans k1, hb⟩

set_option maxHeartbeats 4000000 in
set_option maxRecDepth 1000000 in
theorem eqTermS_same (w : World) (v u : Value) (l : List TermV) (h : ITm w v l) (h' : ITm w u l) (hl : l.length ≤ 1099511627776) :
    Calls Tryz.prog 91 #[v, u] w fun e w' => e = .returned (.bool true) ∧ Below w.heap.size w w' := by
  obtain ⟨a, cap, rfl, hc⟩ := h
  obtain ⟨a', cap', rfl, hc'⟩ := h'
  obtain ⟨n, hn⟩ : ∃ n, n = l.length := ⟨_, rfl⟩
  rw [← hn] at hc hc' hl ⊢
  have HC := hid hc
  have HC' := hid hc'
  clear hc hc' hn
  have hne : ((n : Int) != (n : Int)) = false := by simp
  go_enter Tryz.func91, Tryz.ntmps91
  go_wp2
  go_loopw [5] (fun t wr => ∃ j : Nat, j ≤ n ∧ t = .int .i64 j ∧ Hid (Below w.heap.size w wr)) (fun t _ => n - (intOf t).toNat)
  case atStart => exact ⟨0, Nat.zero_le _, rfl, hid (Below.refl _ _)⟩
  case round =>
    obtain ⟨j, hj, rfl, hB⟩ := hrel
    by_cases hjn : j < n
    · have i1 : (j : Int) < (n : Int) := by omega
      rcases HC.out with h0 | ⟨b, o, rfl, hrel⟩
      · omega
      · rcases HC'.out with h0 | ⟨b', o', rfl, hrel'⟩
        · omega
        · obtain ⟨e0, e1⟩ := hrel j hjn
          obtain ⟨f0, f1⟩ := hrel' j hjn
          have c0 := (hB.out.cell (p := ⟨b, o + j * 2, none⟩) (World.block_lt_of_cell? w _ e0)).trans e0
          have c1 := (hB.out.cell (p := ⟨b, o + j * 2 + 1, none⟩) (World.block_lt_of_cell? w _ e1)).trans e1
          have d0 := (hB.out.cell (p := ⟨b', o' + j * 2, none⟩) (World.block_lt_of_cell? w _ f0)).trans f0
          have d1 := (hB.out.cell (p := ⟨b', o' + j * 2 + 1, none⟩) (World.block_lt_of_cell? w _ f1)).trans f1
          clear hrel hrel' e0 e1 f0 f1
          generalize (l.getD j noTm).1 = x at *
          generalize (l.getD j noTm).2 = y at *
          have HBW : Hid (∀ W, (W.cell? ⟨b, o + j * 2, none⟩ = some (.string x) ∧ W.cell? ⟨b, o + j * 2 + 1, none⟩ = some (.int .i64 y) ∧ W.cell? ⟨b', o' + j * 2, none⟩ = some (.string x) ∧ W.cell? ⟨b', o' + j * 2 + 1, none⟩ = some (.int .i64 y) ∧ Below wr.heap.size wr W) → Below wr.heap.size wr W) := hid (fun W h => h.2.2.2.2)
          go_wp2_with fail
          go_region_held3 (fun W => W.cell? ⟨b, o + j * 2, none⟩ = some (.string x) ∧ W.cell? ⟨b, o + j * 2 + 1, none⟩ = some (.int .i64 y) ∧ W.cell? ⟨b', o' + j * 2, none⟩ = some (.string x) ∧ W.cell? ⟨b', o' + j * 2 + 1, none⟩ = some (.int .i64 y) ∧ Below wr.heap.size wr W)
            (first | exact four_pairs c0 c1 d0 d1 (Below.refl _ _).drew | exact four_pairs c0 c1 d0 d1 (bt (Below.refl _ _).drew hb) | (refine four_pairs c0 c1 d0 d1 (bt (HBW.out _ ?_) hb); assumption))
            (first | (go_at_call 109; refine (eqTerm_same _ _ _).mono ?_; rintro e w' ⟨rfl, hb⟩))
          go_wp2
          go_roundw
          case rel => exact ⟨j + 1, by omega, by go_num, hid (bt hB.out (HBW.out _ (by assumption)))⟩
          case measure => simp [intOf]; omega
    · obtain rfl : j = n := by omega
      have i1 : ¬ ((j : Int) < (j : Int)) := by omega
      go_wp2
      go_ret
      exact ⟨rfl, hB.out⟩

end Go.Proofs.YtegcpplkcahkhaaGreat
