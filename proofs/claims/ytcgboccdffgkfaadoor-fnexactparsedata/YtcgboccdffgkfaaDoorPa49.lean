import Derived.Deep.RegionHeld3
import Derived.Test.YtcgboccdffgkfaaDoorPa35
import Derived.Test.YtcgboccdffgkfaaDoorPa39
import Derived.Test.YtcgboccdffgkfaaDoorPa46
import Derived.Test.YtcgboccdffgkfaaDoorPa48
/-
  Data is marked relation by relation: the state of the marking.
-/
namespace Go.Proofs.YtcgboccdffgkfaaDoor
open Go.RowKit

/-- how many marks the first j relations take -/
def relO (ds : List RelV) : Nat → Nat
  | 0 => 0
  | j + 1 => relO ds j + 2 + lenR (ds.getD j noRel).rows (ds.getD j noRel).rows.length + (ds.getD j noRel).ws.length
/-- a relation's blocks of numbers -/
def Ft (ds : List RelV) (vw : Nat → Value) (us : Nat → List Value) (j q : Nat) : Prop := (vw j).ownBlock = some q ∨ ∃ m, m < (ds.getD j noRel).rows.length ∧ ((us j).getD m undef).ownBlock = some q

section
variable {w wr : World} {B g : Nat} {v : Value} {ds : List RelV} {vr vw : Nat → Value} {us : Nat → List Value} {lo hi : Nat → Nat} {k i : Nat}
theorem DQ.ft (h : DQ w B v ds vr vw us lo hi) {j q : Nat} (hj : j < ds.length) (hf : Ft ds vw us j q) : lo j ≤ q ∧ q < hi j ∧ q < w.heap.size ∧ ∃ cur, w.heap[q]? = some (.cells cur 3 (0, 0)) := by
  rcases hf with hf | ⟨m, hm, hf⟩
  · exact ⟨((h.ow j hj).lt q hf).1, (h.up j hj).1 q hf, ((h.ow j hj).lt q hf).2, own_typ (h.ow j hj) hf⟩
  · exact ⟨(((h.rq j hj).each m hm).lt q hf).1, (h.up j hj).2 m hm q hf, (((h.rq j hj).each m hm).lt q hf).2, own_typ ((h.rq j hj).each m hm) hf⟩
theorem DQ.ft_ne (h : DQ w B v ds vr vw us lo hi) {i j q : Nat} (hij : i < j) (hj : j < ds.length) (h1 : Ft ds vw us i q) (h2 : Ft ds vw us j q) : False := by
  have a := h.ft (by omega) h1
  have b := h.ft hj h2
  have := h.sep i j hij hj
  omega
theorem DQ.ft_g (h : DQ w B v ds vr vw us lo hi) (hv : v.ownBlock = some g) {j q : Nat} (hj : j < ds.length) (hf : Ft ds vw us j q) : q ≠ g := fun e => by
  obtain ⟨cur, hc⟩ := (h.ft hj hf).2.2.2
  obtain ⟨cu2, hc2⟩ := own_typ h.own hv
  rw [e, hc2] at hc
  simp only [Option.some.injEq, Obj.cells.injEq] at hc
  exact absurd hc.2.1 (by decide)
theorem DQ.vr_far (h : DQ w B v ds vr vw us lo hi) (hv : v.ownBlock = some g) {j q : Nat} (hj : j < ds.length) (hq : (vr j).ownBlock = some q) : q < w.heap.size ∧ q ≠ g ∧ ∀ m, m < ds.length → ¬ Ft ds vw us m q := by
  obtain ⟨cur, hc⟩ := own_typ (h.rq j hj).own hq
  refine ⟨heap_lt hc, fun e => ?_, fun m hm hf => ?_⟩
  · obtain ⟨cu2, hc2⟩ := own_typ h.own hv
    rw [e, hc2] at hc
    simp only [Option.some.injEq, Obj.cells.injEq] at hc
    exact absurd hc.2.1 (by decide)
  · obtain ⟨cu2, hc2⟩ := (h.ft hm hf).2.2.2
    rw [hc2] at hc
    simp only [Option.some.injEq, Obj.cells.injEq] at hc
    exact absurd hc.2.1 (by decide)

/-- what has been marked of the first i relations -/
structure MkD (w wr : World) (B g : Nat) (ds : List RelV) (vr vw : Nat → Value) (us : Nat → List Value) (k i : Nat) : Prop where
  size : w.heap.size ≤ wr.heap.size
  bel : Below B w wr
  far : ∀ q, q < w.heap.size → q ≠ g → (∀ j, j < i → ¬ Ft ds vw us j q) → wr.heap[q]? = w.heap[q]?
  row : ∀ j, j < ds.length → wr.cell? ⟨g, j * 4 + 2, none⟩ = some (vr j) ∧ wr.cell? ⟨g, j * 4 + 3, none⟩ = some (vw j)
  any : ∀ j, j < ds.length → (∃ u, wr.cell? ⟨g, j * 4, none⟩ = some u) ∧ ∃ u, wr.cell? ⟨g, j * 4 + 1, none⟩ = some u
  fz : ∀ q, wr.frozen? ⟨g, q, none⟩ = false
  done : ∀ j, j < i → wr.cell? ⟨g, j * 4, none⟩ = some (.string (mkT (k + relO ds j))) ∧ wr.cell? ⟨g, j * 4 + 1, none⟩ = some (.int .i64 ((k + relO ds j + 1 : Nat) : Int))
  held : ∀ j, j < i → ∀ W, (∀ q, Ft ds vw us j q → W.heap[q]? = wr.heap[q]?) → (∀ q, (vr j).ownBlock = some q → W.heap[q]? = w.heap[q]?) → wr.heap.size ≤ W.heap.size →
    (Calls Tryd.prog 44 #[vr j, .int .i64 ((k + relO ds j + 2 : Nat) : Int)] W fun e w'' => e = .returned (.int .i64 ((k + relO ds j + 2 + lenR (ds.getD j noRel).rows (ds.getD j noRel).rows.length : Nat) : Int)) ∧ w'' = W) ∧
    Calls Tryd.prog 45 #[vw j, .int .i64 ((k + relO ds j + 2 + lenR (ds.getD j noRel).rows (ds.getD j noRel).rows.length : Nat) : Int)] W fun e w'' => e = .returned (.int .i64 ((k + relO ds (j + 1) : Nat) : Int)) ∧ w'' = W

theorem MkD.start (h : DQ w B v ds vr vw us lo hi) (hv : v.ownBlock = some g) : MkD w w B g ds vr vw us k 0 := by
  have hc : ∀ j x, j < ds.length → x < 4 → w.cell? ⟨g, j * 4 + x, none⟩ = (relC (ds.getD j noRel) (vr j) (vw j))[x]? := fun j x hj hx => by
    rcases h.own.2 with ⟨e, -⟩ | ⟨g', cap, cur, e, -⟩
    · rw [e] at hv; cases hv
    · have e2 := e
      rw [e2] at hv
      obtain rfl : g' = g := by simpa [Value.ownBlock] using hv
      have ho := h.own
      rw [e] at ho
      rw [ho.cellAt (j * 4 + x) (by omega), flat4 _ (fun _ => rfl) _ _ _ hj hx]
  obtain ⟨cur, hg⟩ := own_typ h.own hv
  refine ⟨Nat.le_refl _, Below.refl _ _, fun _ _ _ _ => rfl, fun j hj => ⟨hc j 2 hj (by omega), hc j 3 hj (by omega)⟩, fun j hj => ⟨⟨_, hc j 0 hj (by omega)⟩, ⟨_, hc j 1 hj (by omega)⟩⟩, fun q => ?_, fun _ hj => absurd hj (Nat.not_lt_zero _), fun _ hj => absurd hj (Nat.not_lt_zero _)⟩
  unfold World.frozen?
  rw [hg]
  simp

/-- the lists of relation i are still as they were -/
theorem MkD.next (hD : DQ w B v ds vr vw us lo hi) (hv : v.ownBlock = some g) (hi : i < ds.length) {wA : World} (hf : ∀ q, q < w.heap.size → q ≠ g → (∀ j, j < i → ¬ Ft ds vw us j q) → wA.heap[q]? = w.heap[q]?) :
    RQ wA (lo i) (vr i) (us i) (ds.getD i noRel).rows ∧ wA.ownsRow (lo i) 3 1 (vw i) (ds.getD i noRel).ws.length ((ds.getD i noRel).ws.map (Value.int .i64)) := by
  have key : ∀ q, Ft ds vw us i q → wA.heap[q]? = w.heap[q]? := fun q hq => hf q (hD.ft hi hq).2.2.1 (hD.ft_g hv hi hq) fun j hj hq2 => hD.ft_ne hj hi hq2 hq
  refine ⟨⟨own_move (hD.rq i hi).own fun q hq => ?_, (hD.rq i hi).len, fun m hm => own_move ((hD.rq i hi).each m hm) fun q hq => key q (Or.inr ⟨m, hm, hq⟩), (hD.rq i hi).ap⟩, own_move (hD.ow i hi) fun q hq => key q (Or.inl hq)⟩
  obtain ⟨h1, h2, h3⟩ := hD.vr_far hv hi hq
  exact hf q h1 h2 fun j hj => h3 j (by omega)
end

end Go.Proofs.YtcgboccdffgkfaaDoor

/-
  laws.markRelationS, laws.heldRelationS.
-/
namespace Go.Proofs.YtcgboccdffgkfaaDoor
open Go.RowKit

/-- the marks are not too many -/
def FewD (ds : List RelV) : Prop := ds.length ≤ 50 ∧ ∀ j, j < ds.length → lenR (ds.getD j noRel).rows (ds.getD j noRel).rows.length ≤ 10000 ∧ (ds.getD j noRel).rows.length ≤ 2000 ∧ (ds.getD j noRel).ws.length ≤ 2000
theorem relO_le {ds : List RelV} (h : FewD ds) : ∀ {j : Nat}, j ≤ ds.length → relO ds j ≤ j * 12002
  | 0, _ => Nat.le_refl _
  | j + 1, hj => by
    have h1 := relO_le h (j := j) (by omega)
    have h2 := h.2 j (by omega)
    rw [relO]
    omega

section
variable {w wr w2 wA wB wC : World} {B g : Nat} {v : Value} {ds : List RelV} {vr vw : Nat → Value} {us : Nat → List Value} {lo hi : Nat → Nat} {k i : Nat}
theorem cell_of_eq {a b : World} {g q : Nat} (h : b.heap[g]? = a.heap[g]?) : b.cell? ⟨g, q, none⟩ = a.cell? ⟨g, q, none⟩ := World.cell?_of_block h

/-- behind the two stores -/
structure Sto (w wr wA : World) (B g : Nat) (ds : List RelV) (vr vw : Nat → Value) (us : Nat → List Value) (k i : Nat) : Prop where
  size : wr.heap.size ≤ wA.heap.size
  bel : Below B w wA
  blk : ∀ q, q < wr.heap.size → q ≠ g → wA.heap[q]? = wr.heap[q]?
  row : ∀ j, j < ds.length → wA.cell? ⟨g, j * 4 + 2, none⟩ = some (vr j) ∧ wA.cell? ⟨g, j * 4 + 3, none⟩ = some (vw j)
  any : ∀ j, j < ds.length → (∃ u, wA.cell? ⟨g, j * 4, none⟩ = some u) ∧ ∃ u, wA.cell? ⟨g, j * 4 + 1, none⟩ = some u
  fz : ∀ q, wA.frozen? ⟨g, q, none⟩ = false
  done : ∀ j, j < i + 1 → wA.cell? ⟨g, j * 4, none⟩ = some (.string (mkT (k + relO ds j))) ∧ wA.cell? ⟨g, j * 4 + 1, none⟩ = some (.int .i64 ((k + relO ds j + 1 : Nat) : Int))

theorem MkD.sto (h : MkD w wr B g ds vr vw us k i) (hB : B ≤ g) (hg : g < w.heap.size) (hi : i < ds.length) (hb : Below wr.heap.size wr w2) :
    Sto w wr ((w2.setCell ⟨g, i * 4, none⟩ (.string (mkT (k + relO ds i)))).setCell ⟨g, i * 4 + 1, none⟩ (.int .i64 ((k + relO ds i + 1 : Nat) : Int))) B g ds vr vw us k i := by
  have hgr : g < wr.heap.size := Nat.lt_of_lt_of_le hg h.size
  have e2 : ∀ q, w2.cell? ⟨g, q, none⟩ = wr.cell? ⟨g, q, none⟩ := fun q => cell_of_eq (hb.block g hgr)
  have oth : ∀ q x y, q ≠ i * 4 → q ≠ i * 4 + 1 → ((w2.setCell ⟨g, i * 4, none⟩ x).setCell ⟨g, i * 4 + 1, none⟩ y).cell? ⟨g, q, none⟩ = wr.cell? ⟨g, q, none⟩ := fun q x y h1 h2 => by
    rw [World.cell?_setCell_other _ _ _ _ (by intro e; simp only [Addr.mk.injEq] at e; omega), World.cell?_setCell_other _ _ _ _ (by intro e; simp only [Addr.mk.injEq] at e; omega), e2]
  obtain ⟨⟨u0, c0⟩, u1, c1⟩ := h.any i hi
  have s0 : ∀ x y, ((w2.setCell ⟨g, i * 4, none⟩ x).setCell ⟨g, i * 4 + 1, none⟩ y).cell? ⟨g, i * 4, none⟩ = some x := fun x y => by
    rw [World.cell?_setCell_other _ _ _ _ (by intro e; simp only [Addr.mk.injEq] at e; omega)]
    exact World.cell?_setCell_same _ _ _ ((e2 _).trans c0)
  have s1 : ∀ x y, ((w2.setCell ⟨g, i * 4, none⟩ x).setCell ⟨g, i * 4 + 1, none⟩ y).cell? ⟨g, i * 4 + 1, none⟩ = some y := fun x y => by
    have e3 : (w2.setCell ⟨g, i * 4, none⟩ x).cell? ⟨g, i * 4 + 1, none⟩ = some u1 := by
      rw [World.cell?_setCell_other _ _ _ _ (by intro e; simp only [Addr.mk.injEq] at e; omega), e2]
      exact c1
    exact World.cell?_setCell_same _ _ _ e3
  refine ⟨by rw [World.size_setCell, World.size_setCell]; exact hb.size, ((h.bel.trans (hb.mono (Nat.le_trans hB (Nat.le_of_lt hgr)))).setCell hB _).setCell hB _, fun q hq hne => ?_, fun j hj => ?_, fun j hj => ?_, fun q => ?_, fun j hj => ?_⟩
  · rw [Below.heap_setCell _ _ _ _ hne, Below.heap_setCell _ _ _ _ hne, hb.block q hq]
  · rw [oth _ _ _ (by omega) (by omega), oth _ _ _ (by omega) (by omega)]
    exact h.row j hj
  · by_cases e : j = i
    · subst e; exact ⟨⟨_, s0 _ _⟩, ⟨_, s1 _ _⟩⟩
    · rw [oth _ _ _ (by omega) (by omega), oth _ _ _ (by omega) (by omega)]
      exact h.any j hj
  · rw [World.frozen?_setCell, World.frozen?_setCell, World.frozen?_of_block (hb.block g hgr)]
    exact h.fz q
  · by_cases e : j = i
    · subst e; exact ⟨s0 _ _, s1 _ _⟩
    · rw [oth _ _ _ (by omega) (by omega), oth _ _ _ (by omega) (by omega)]
      exact h.done j (by omega)

theorem Sto.lists (hS : Sto w wr wA B g ds vr vw us k i) (h : MkD w wr B g ds vr vw us k i) (hD : DQ w B v ds vr vw us lo hi) (hv : v.ownBlock = some g) (hi : i < ds.length) :
    RQ wA (lo i) (vr i) (us i) (ds.getD i noRel).rows ∧ wA.ownsRow (lo i) 3 1 (vw i) (ds.getD i noRel).ws.length ((ds.getD i noRel).ws.map (Value.int .i64)) :=
  MkD.next hD hv hi fun q hq hne hf => (hS.blk q (Nat.lt_of_lt_of_le hq h.size) hne).trans (h.far q hq hne hf)

/-- one relation more is marked -/
theorem MkD.step (hF : FewD ds) (hk : k ≤ 1000) (h : MkD w wr B g ds vr vw us k i) (hS : Sto w wr wA B g ds vr vw us k i) (hD : DQ w B v ds vr vw us lo hi) (hv : v.ownBlock = some g) (hi : i < ds.length)
    (hR : MkR wA wB (lo i) (us i) (ds.getD i noRel).rows ((k + relO ds i + 2 : Nat) : Int) (ds.getD i noRel).rows.length)
    (c1 : ∀ b, some b ≠ (vw i).ownBlock → wC.heap[b]? = wB.heap[b]?) (c2 : wC.heap.size = wB.heap.size) (c3 : Below (lo i) wB wC)
    (c4 : ∀ W, (∀ g, (vw i).ownBlock = some g → W.heap[g]? = wC.heap[g]?) → wC.heap.size ≤ W.heap.size → Calls Tryd.prog 45 #[vw i, .int .i64 ((k + relO ds i + 2 + lenR (ds.getD i noRel).rows (ds.getD i noRel).rows.length : Nat) : Int)] W fun e w'' => e = .returned (.int .i64 (((k + relO ds i + 2 + lenR (ds.getD i noRel).rows (ds.getD i noRel).rows.length : Nat) : Int) + (ds.getD i noRel).ws.length)) ∧ w'' = W) :
    MkD w wC B g ds vr vw us k (i + 1) := by
  have hlow := (hD.low i hi).1
  have hF2 := hF.2 i hi
  have hro := relO_le hF (j := i) (by omega)
  have h50 := hF.1
  -- what is none of relation i's blocks stands
  have keep : ∀ q, ¬ Ft ds vw us i q → wC.heap[q]? = wA.heap[q]? := fun q hq => by
    rw [c1 q (fun e => hq (Or.inl e.symm)), hR.far q fun m hm e => hq (Or.inr ⟨m, hm, e.symm⟩)]
  have hng : ¬ Ft ds vw us i g := fun hf => hD.ft_g hv hi hf rfl
  have eg : ∀ q, wC.cell? ⟨g, q, none⟩ = wA.cell? ⟨g, q, none⟩ := fun q => cell_of_eq (keep g hng)
  have hsz : wC.heap.size = wA.heap.size := c2.trans hR.size
  refine ⟨by have := h.size; have := hS.size; omega, (hS.bel.trans (hR.bel.mono hlow)).trans (c3.mono hlow), fun q hq hne hf => ?_, fun j hj => ?_, fun j hj => ?_, fun q => ?_, fun j hj => ?_, fun j hj W hW1 hW2 hW3 => ?_⟩
  · rw [keep q (hf i (by omega)), hS.blk q (Nat.lt_of_lt_of_le hq h.size) hne]
    exact h.far q hq hne fun j hj => hf j (by omega)
  · rw [eg, eg]; exact hS.row j hj
  · rw [eg, eg]; exact hS.any j hj
  · rw [World.frozen?_of_block (keep g hng)]; exact hS.fz q
  · rw [eg, eg]; exact hS.done j hj
  · by_cases e : j = i
    · subst e
      have hcB : ∀ q, (∃ m, m < (ds.getD j noRel).rows.length ∧ ((us j).getD m undef).ownBlock = some q) → wC.heap[q]? = wB.heap[q]? := fun q ⟨m, hm, hq⟩ => c1 q fun e => hD.ap j hi m hm q hq e.symm
      constructor
      · have hq := hD.rq j hi
        have := heldsR W (vr j) (us j) (ds.getD j noRel).rows ((k + relO ds j + 2 : Nat) : Int) (own_shapeR hq.own) (fun m hm => by
            obtain ⟨g', cap, e1, -, e2⟩ := hq.get hm
            refine ⟨g', cap, e1, ?_⟩
            rw [cell_of_eq (hW2 g' (by rw [e1]; rfl))]
            exact e2)
          (fun m hm => by
            obtain ⟨a, c, e1⟩ := own_shapeR (hq.each m hm)
            exact ⟨a, _, c, e1⟩)
          (fun m hm => hR.held m hm W (fun q hq2 => (hW1 q (Or.inr ⟨m, hm, hq2⟩)).trans (hcB q ⟨m, hm, hq2⟩)) (by omega)) (by omega) (by omega) (by omega) (by omega)
        refine this.mono ?_
        rintro e w'' ⟨rfl, rfl⟩
        exact ⟨by congr 2, rfl⟩
      · refine (c4 W (fun q hq => hW1 q (Or.inl hq)) hW3).mono ?_
        rintro e w'' ⟨rfl, rfl⟩
        refine ⟨?_, rfl⟩
        rw [relO]
        congr 2
        omega
    · have hji : j < i := by omega
      have hns : ∀ q, Ft ds vw us j q → wC.heap[q]? = wr.heap[q]? := fun q hq => by
        have hd := hD.ft (by omega) hq
        rw [keep q (fun h2 => hD.ft_ne hji hi hq h2), hS.blk q (Nat.lt_of_lt_of_le hd.2.2.1 h.size) (hD.ft_g hv (by omega) hq)]
      exact h.held j hji W (fun q hq => (hW1 q hq).trans (hns q hq)) hW2 (by have := hS.size; omega)
end

end Go.Proofs.YtcgboccdffgkfaaDoor

/-
  laws.markRelationS.
-/
namespace Go.Proofs.YtcgboccdffgkfaaDoor
open Go.RowKit

set_option maxHeartbeats 4000000 in
set_option maxRecDepth 1000000 in
theorem markRelationS_calls (w : World) (B g cap : Nat) (ds : List RelV) (vr vw : Nat → Value) (us : Nat → List Value) (lo hi : Nat → Nat) (k : Nat) (hD : DQ w B (.slice (some ⟨g, 0, none⟩) ds.length cap) ds vr vw us lo hi) (hF : FewD ds) (hk0 : 0 < k) (hk : k ≤ 1000) :
    Calls Tryd.prog 20 #[.slice (some ⟨g, 0, none⟩) ds.length cap, .int .i64 k] w fun e w' => e = .returned (.int .i64 ((k + relO ds ds.length : Nat) : Int)) ∧ MkD w w' B g ds vr vw us k ds.length := by
  have hgb := hD.own.lt g rfl
  have HG := hid hgb
  have HD := hid hD
  have HF := hid hF
  have HM0 : Hid (MkD w w B g ds vr vw us k 0) := hid (MkD.start hD rfl)
  have HLe : Hid (∀ j, j ≤ ds.length → relO ds j ≤ 600100) := hid fun j hj => by have := relO_le hF hj; have := hF.1; omega
  clear hD hgb
  obtain ⟨n, hn⟩ : ∃ n, n = ds.length := ⟨_, rfl⟩
  have HN := hid hn
  rw [← hn] at ⊢
  have hn50 : n ≤ 50 := by rw [hn]; exact hF.1
  clear hn hF
  go_enter Tryd.func20, Tryd.ntmps20
  go_wp2
  go_loopw [1, 5] (fun u t wr => ∃ j : Nat, j ≤ n ∧ t = .int .i64 j ∧ ∃ c : Nat, u = .int .i64 (c : Int) ∧ 0 < c ∧ c ≤ 700000 ∧ Hid (c = k + relO ds j ∧ MkD w wr B g ds vr vw us k j)) (fun _ t _ => n - (intOf t).toNat)
  case atStart => exact ⟨0, Nat.zero_le _, rfl, k, rfl, hk0, by omega, hid ⟨rfl, HM0.out⟩⟩
  case round =>
    obtain ⟨j, hj, rfl, c, rfl, hc0, hc1, hok⟩ := hrel
    by_cases hjn : j < n
    · have i1 : (j : Int) < (n : Int) := by omega
      have hjl : j < ds.length := by rw [← HN.out]; exact hjn
      have hM := hok.out.2
      have hce := hok.out.1
      have HM := hid hM
      have HCE := hid hce
      obtain ⟨⟨u0, c0⟩, u1, c1⟩ := hM.any j hjl
      obtain ⟨c2, c3⟩ := hM.row j hjl
      have f0 := hM.fz (j * 4)
      have f1 := hM.fz (j * 4 + 1)
      obtain ⟨a2, k2, e2⟩ := own_shapeR (HD.out.rq j hjl).own
      obtain ⟨a3, k3, e3⟩ := own_shapeR (HD.out.ow j hjl)
      have HE2 := hid e2
      have HE3 := hid e3
      rw [e2] at c2
      rw [e3] at c3
      have hFj := HF.out.2 j hjl
      have hle := HLe.out (j + 1) (by omega)
      have HLj : Hid (relO ds (j + 1) = relO ds j + 2 + lenR (ds.getD j noRel).rows (ds.getD j noRel).rows.length + (ds.getD j noRel).ws.length) := hid rfl
      rw [HLj.out] at hle
      have HSt : Hid (∀ w2, Below wr.heap.size wr w2 → Sto w wr ((w2.setCell ⟨g, j * 4, none⟩ (.string (mkT c))).setCell ⟨g, j * 4 + 1, none⟩ (.int .i64 ((c : Int) + 1))) B g ds vr vw us k j) := hid fun w2 hb => by
        have := HM.out.sto HG.out.1 HG.out.2 hjl hb
        rw [← HCE.out, show ((c + 1 : Nat) : Int) = (c : Int) + 1 from by omega] at this
        exact this
      have KR : Hid (∀ wA, Sto w wr wA B g ds vr vw us k j → ∀ x : Int, x = ((c + 2 : Nat) : Int) → Calls Tryd.prog 42 #[.slice a2 (ds.getD j noRel).rows.length k2, .int .i64 x] wA fun e wB => e = .returned (.int .i64 ((c + 2 + lenR (ds.getD j noRel).rows (ds.getD j noRel).rows.length : Nat) : Int)) ∧ MkR wA wB (lo j) (us j) (ds.getD j noRel).rows ((c + 2 : Nat) : Int) (ds.getD j noRel).rows.length ∧ wB.cell? ⟨g, j * 4 + 3, none⟩ = some (.slice a3 (ds.getD j noRel).ws.length k3)) := hid fun wA hS x hx => by
        subst hx
        have hl := hS.lists HM.out HD.out rfl hjl
        have := marksR wA (lo j) (vr j) (us j) (ds.getD j noRel).rows ((c + 2 : Nat) : Int) hl.1 (fun p q hpq hq => (HD.out.rq j hjl).ap p q hpq hq) (by omega) (by omega) (by omega) (by omega)
        rw [HE2.out] at this
        refine this.mono ?_
        rintro e wB ⟨rfl, hm⟩
        refine ⟨by congr 2, hm, ?_⟩
        rw [cell_of_eq (hm.far g fun m hm2 e => HD.out.ft_g rfl hjl (Or.inr ⟨m, hm2, e.symm⟩) rfl), ← HE3.out]
        exact (hS.row j hjl).2
      have KW : Hid (∀ wA wB, Sto w wr wA B g ds vr vw us k j → MkR wA wB (lo j) (us j) (ds.getD j noRel).rows ((c + 2 : Nat) : Int) (ds.getD j noRel).rows.length → Calls Tryd.prog 43 #[.slice a3 (ds.getD j noRel).ws.length k3, .int .i64 ((c + 2 + lenR (ds.getD j noRel).rows (ds.getD j noRel).rows.length : Nat) : Int)] wB fun e wC => e = .returned (.int .i64 ((c + 2 + lenR (ds.getD j noRel).rows (ds.getD j noRel).rows.length + (ds.getD j noRel).ws.length : Nat) : Int)) ∧ MkD w wC B g ds vr vw us k (j + 1)) := hid fun wA wB hS hR => by
        have hl := hS.lists HM.out HD.out rfl hjl
        have ho : wB.ownsRow (lo j) 3 1 (vw j) (ds.getD j noRel).ws.length ((ds.getD j noRel).ws.map (Value.int .i64)) := own_move hl.2 fun q hq => hR.far q fun m hm e => HD.out.ap j hjl m hm q e.symm hq
        have := mark_heldR wB (lo j) (vw j) (ds.getD j noRel).ws ((c + 2 + lenR (ds.getD j noRel).rows (ds.getD j noRel).rows.length : Nat) : Int) ho (by omega) (by omega) (by omega)
        rw [← HE3.out]
        refine this.mono ?_
        rintro e wC ⟨rfl, h1, h2, h3, h4⟩
        refine ⟨by congr 2, ?_⟩
        rw [HCE.out] at hR h4
        exact HM.out.step HF.out (by omega) hS HD.out rfl hjl hR h1 h2 h3 h4
      have KM : Hid (Calls Tryd.prog 41 #[.int .i64 c] wr fun e w' => e = .returned (.string (mkT c)) ∧ Below wr.heap.size wr w') := hid (markText_calls wr c hc0 (by omega))
      have HR : Hid (c + 2 + lenR (ds.getD j noRel).rows (ds.getD j noRel).rows.length + (ds.getD j noRel).ws.length = k + relO ds (j + 1)) := hid (by rw [HLj.out, hce]; omega)
      have hR2 : c + 2 + lenR (ds.getD j noRel).rows (ds.getD j noRel).rows.length + (ds.getD j noRel).ws.length ≤ 700000 := by omega
      have hR3 : 0 < c + 2 + lenR (ds.getD j noRel).rows (ds.getD j noRel).rows.length + (ds.getD j noRel).ws.length := by omega
      clear hM hce hok e2 e3 HLj hFj hle
      generalize lenR (ds.getD j noRel).rows (ds.getD j noRel).rows.length = L at *
      generalize c + 2 + L + (ds.getD j noRel).ws.length = X3 at *
      generalize c + 2 + L = X2 at *
      generalize (ds.getD j noRel).rows.length = R1 at *
      generalize (ds.getD j noRel).ws.length = M1 at *
      go_wp2_with (first
        | (go_at_call 41; refine KM.out.mono ?_; rintro e w2 ⟨rfl, hb2⟩; have HS2 := hid (HSt.out w2 hb2); have c0' := bclR hb2 c0; have c1' := bclR hb2 c1; have c2' := bclR hb2 c2; have f0' : w2.frozen? ⟨g, j * 4, none⟩ = false := (by rw [World.frozen?_of_block (hb2.block g (World.block_lt_of_cell? wr _ c0))]; exact f0); have f1' : w2.frozen? ⟨g, j * 4 + 1, none⟩ = false := (by rw [World.frozen?_of_block (hb2.block g (World.block_lt_of_cell? wr _ c0))]; exact f1); clear c0 c1 c2 f0 f1 hb2; generalize mkT c = s at *)
        | (go_at_call 42; refine (KR.out _ HS2.out _ (by omega)).mono ?_; rintro e wB ⟨rfl, hmB, d3⟩; have HMB := hid hmB; clear hmB)
        | (go_at_call 43; refine (KW.out _ _ HS2.out HMB.out).mono ?_; rintro e wC ⟨rfl, hmC⟩; have HMC := hid hmC; clear hmC)
        | fail)
      go_roundw
      case rel => exact ⟨j + 1, by omega, by go_num, _, rfl, hR3, hR2, hid ⟨HR.out, HMC.out⟩⟩
      case measure => simp [intOf]; omega
    · obtain rfl : j = n := by omega
      have i1 : ¬ ((j : Int) < (j : Int)) := by omega
      go_wp2
      go_ret
      exact ⟨ret_int (by rw [hok.out.1]; omega), hok.out.2⟩

end Go.Proofs.YtcgboccdffgkfaaDoor

/-
  laws.heldRelationS.
-/
namespace Go.Proofs.YtcgboccdffgkfaaDoor
open Go.RowKit

/-- the marks are found again in W -/
structure HdD (W : World) (g : Nat) (ds : List RelV) (vr vw : Nat → Value) (k : Nat) : Prop where
  row : ∀ j, j < ds.length → (∃ a m c, vr j = .slice a m c ∧ W.cell? ⟨g, j * 4 + 2, none⟩ = some (.slice a m c)) ∧ ∃ a m c, vw j = .slice a m c ∧ W.cell? ⟨g, j * 4 + 3, none⟩ = some (.slice a m c)
  done : ∀ j, j < ds.length → W.cell? ⟨g, j * 4, none⟩ = some (.string (mkT (k + relO ds j))) ∧ W.cell? ⟨g, j * 4 + 1, none⟩ = some (.int .i64 ((k + relO ds j + 1 : Nat) : Int))
  held : ∀ j, j < ds.length → ∀ W', Below W.heap.size W W' →
    (Calls Tryd.prog 44 #[vr j, .int .i64 ((k + relO ds j + 2 : Nat) : Int)] W' fun e w'' => e = .returned (.int .i64 ((k + relO ds j + 2 + lenR (ds.getD j noRel).rows (ds.getD j noRel).rows.length : Nat) : Int)) ∧ w'' = W') ∧
    Calls Tryd.prog 45 #[vw j, .int .i64 ((k + relO ds j + 2 + lenR (ds.getD j noRel).rows (ds.getD j noRel).rows.length : Nat) : Int)] W' fun e w'' => e = .returned (.int .i64 ((k + relO ds (j + 1) : Nat) : Int)) ∧ w'' = W'

theorem MkD.hd {w wr : World} {B g : Nat} {v : Value} {ds : List RelV} {vr vw : Nat → Value} {us : Nat → List Value} {lo hi : Nat → Nat} {k : Nat} (h : MkD w wr B g ds vr vw us k ds.length) (hD : DQ w B v ds vr vw us lo hi) (hv : v.ownBlock = some g) : HdD wr g ds vr vw k := by
  refine ⟨fun j hj => ?_, h.done, fun j hj W' hb => h.held j hj W' (fun q hq => hb.block q (Nat.lt_of_lt_of_le (hD.ft hj hq).2.2.1 h.size)) (fun q hq => ?_) hb.size⟩
  · obtain ⟨a2, k2, e2⟩ := own_shapeR (hD.rq j hj).own
    obtain ⟨a3, k3, e3⟩ := own_shapeR (hD.ow j hj)
    have := h.row j hj
    exact ⟨⟨a2, _, k2, e2, by rw [← e2]; exact this.1⟩, a3, _, k3, e3, by rw [← e3]; exact this.2⟩
  · obtain ⟨h1, h2, h3⟩ := hD.vr_far hv hj hq
    rw [hb.block q (Nat.lt_of_lt_of_le h1 h.size)]
    exact h.far q h1 h2 h3

set_option maxHeartbeats 4000000 in
set_option maxRecDepth 1000000 in
theorem heldRelationS_calls (W : World) (g cap : Nat) (ds : List RelV) (vr vw : Nat → Value) (k : Nat) (hH : HdD W g ds vr vw k) (hF : FewD ds) (hk0 : 0 < k) (hk : k ≤ 1000) :
    Calls Tryd.prog 21 #[.slice (some ⟨g, 0, none⟩) ds.length cap, .int .i64 k] W fun e w' => e = .returned (.int .i64 ((k + relO ds ds.length : Nat) : Int)) ∧ Below W.heap.size W w' := by
  have HH := hid hH
  have HF := hid hF
  have HLe : Hid (∀ j, j ≤ ds.length → relO ds j ≤ 600100) := hid fun j hj => by have := relO_le hF hj; have := hF.1; omega
  clear hH
  obtain ⟨n, hn⟩ : ∃ n, n = ds.length := ⟨_, rfl⟩
  have HN := hid hn
  rw [← hn] at ⊢
  have hn50 : n ≤ 50 := by rw [hn]; exact hF.1
  clear hn hF
  go_enter Tryd.func21, Tryd.ntmps21
  go_wp2
  go_loopw [1, 5] (fun u t wr => ∃ j : Nat, j ≤ n ∧ t = .int .i64 j ∧ ∃ c : Nat, u = .int .i64 (c : Int) ∧ 0 < c ∧ c ≤ 700000 ∧ Hid (c = k + relO ds j ∧ Below W.heap.size W wr)) (fun _ t _ => n - (intOf t).toNat)
  case atStart => exact ⟨0, Nat.zero_le _, rfl, k, rfl, hk0, by omega, hid ⟨rfl, Below.refl _ _⟩⟩
  case round =>
    obtain ⟨j, hj, rfl, c, rfl, hc0, hc1, hok⟩ := hrel
    by_cases hjn : j < n
    · have i1 : (j : Int) < (n : Int) := by omega
      have hjl : j < ds.length := by rw [← HN.out]; exact hjn
      have HBw := hid hok.out.2
      have hce := hok.out.1
      have HCE := hid hce
      obtain ⟨⟨a2, m2, k2, e2, c2⟩, a3, m3, k3, e3, c3⟩ := HH.out.row j hjl
      obtain ⟨c0, c1⟩ := HH.out.done j hjl
      have hhe := HH.out.held j hjl
      rw [e2, e3, ← hce] at hhe
      rw [← hce] at c0 c1
      rw [show ((c + 1 : Nat) : Int) = (c : Int) + 1 from by omega] at c1
      have HHE := hid hhe
      have hle := HLe.out (j + 1) (by omega)
      have HLj : Hid (relO ds (j + 1) = relO ds j + 2 + lenR (ds.getD j noRel).rows (ds.getD j noRel).rows.length + (ds.getD j noRel).ws.length) := hid rfl
      have hlj := HLj.out
      have HCL : Hid (∀ W', Below wr.heap.size wr W' → W'.cell? ⟨g, j * 4, none⟩ = some (.string (mkT c)) ∧ W'.cell? ⟨g, j * 4 + 1, none⟩ = some (.int .i64 ((c : Int) + 1)) ∧ W'.cell? ⟨g, j * 4 + 2, none⟩ = some (.slice a2 m2 k2) ∧ W'.cell? ⟨g, j * 4 + 3, none⟩ = some (.slice a3 m3 k3) ∧ Below wr.heap.size wr W') := hid fun W' hb => ⟨bclR (bt HBw.out hb) c0, bclR (bt HBw.out hb) c1, bclR (bt HBw.out hb) c2, bclR (bt HBw.out hb) c3, hb⟩
      have KM : Hid (∀ W', Calls Tryd.prog 41 #[.int .i64 c] W' fun e w' => e = .returned (.string (mkT c)) ∧ Below W'.heap.size W' w') := hid fun W' => markText_calls W' c hc0 (by omega)
      obtain ⟨X2, hX2⟩ : ∃ X2, X2 = c + 2 + lenR (ds.getD j noRel).rows (ds.getD j noRel).rows.length := ⟨_, rfl⟩
      obtain ⟨X3, hX3⟩ : ∃ X3, X3 = k + relO ds (j + 1) := ⟨_, rfl⟩
      have HX3 := hid hX3
      have KR : Hid (∀ W', Below wr.heap.size wr W' → ∀ x : Int, x = ((c + 2 : Nat) : Int) → Calls Tryd.prog 44 #[.slice a2 m2 k2, .int .i64 x] W' fun e w'' => e = .returned (.int .i64 (X2 : Int)) ∧ w'' = W') := hid fun W' hb x hx => by
        subst hx hX2
        exact (HHE.out W' (bt HBw.out hb)).1
      have KW : Hid (∀ W', Below wr.heap.size wr W' → Calls Tryd.prog 45 #[.slice a3 m3 k3, .int .i64 (X2 : Int)] W' fun e w'' => e = .returned (.int .i64 (X3 : Int)) ∧ w'' = W') := hid fun W' hb => by
        subst hX2 hX3
        exact (HHE.out W' (bt HBw.out hb)).2
      have g2 : ¬ ((X2 : Int) < 0) := by omega
      have g3 : ¬ ((X3 : Int) < 0) := by omega
      have r3 : 0 < X3 ∧ X3 ≤ 700000 := by omega
      have q1 : ((c : Int) + 1 != (c : Int) + 1) = false := by simp
      clear hce hok e2 e3 hhe hle hlj c0 c1 c2 c3 hX2 hX3
      generalize mkT c = s at *
      have hne : (!s.toList == s.toList) = false := by simp
      go_wp2_with fail
      first | go_region_held3 (fun W' => W'.cell? ⟨g, j * 4, none⟩ = some (.string s) ∧ W'.cell? ⟨g, j * 4 + 1, none⟩ = some (.int .i64 ((c : Int) + 1)) ∧ W'.cell? ⟨g, j * 4 + 2, none⟩ = some (.slice a2 m2 k2) ∧ W'.cell? ⟨g, j * 4 + 3, none⟩ = some (.slice a3 m3 k3) ∧ Below wr.heap.size wr W')
        (first | exact HCL.out _ (Below.refl _ _).drew | exact HCL.out _ (bt (Below.refl _ _).drew hb) | exact HCL.out _ (bt (by assumption) hb) | exact HCL.out _ (bt (And.right (And.right (And.right (And.right (by assumption))))) hb))
        (first | (go_at_call 41; refine (KM.out _).mono ?_; rintro e w' ⟨rfl, hb⟩))
      obtain ⟨x0, x1, x2, x3, hbw⟩ := HCL.out w' (bt (Below.refl _ _).drew hb)
      have HBW := hid (bt HBw.out hbw)
      go_wp2_with (first
        | (go_at_call 44; refine (KR.out _ hbw _ (by omega)).mono ?_; rintro e w5 ⟨rfl, h5⟩; subst w5)
        | (go_at_call 45; refine (KW.out _ hbw).mono ?_; rintro e w5 ⟨rfl, h5⟩; subst w5)
        | fail)
      go_roundw
      case rel => exact ⟨j + 1, by omega, by go_num, X3, rfl, r3.1, r3.2, hid ⟨HX3.out, HBW.out⟩⟩
      case measure => simp [intOf]; omega
    · obtain rfl : j = n := by omega
      have i1 : ¬ ((j : Int) < (j : Int)) := by omega
      go_wp2
      go_ret
      exact ⟨ret_int (by rw [hok.out.1]; omega), hok.out.2⟩

end Go.Proofs.YtcgboccdffgkfaaDoor

/-
  laws.markData, laws.heldData.
-/
namespace Go.Proofs.YtcgboccdffgkfaaDoor
open Go.RowKit

set_option maxHeartbeats 1000000 in
set_option maxRecDepth 1000000 in
theorem markRelationS_nil (w : World) (a : Option Addr) (cap : Nat) (k : Int) : Calls Tryd.prog 20 #[.slice a 0 cap, .int .i64 k] w fun e w' => e = .returned (.int .i64 k) ∧ w' = w := by
  go_enter Tryd.func20, Tryd.ntmps20
  go_wp2
  go_loopw [1, 5] (fun u t wr => t = .int .i64 0 ∧ u = .int .i64 k ∧ wr = w) (fun _ t _ => 0 - (intOf t).toNat)
  case atStart => exact ⟨rfl, rfl, rfl⟩
  case round =>
    obtain ⟨rfl, rfl, rfl⟩ := hrel
    go_wp2
    go_ret
    exact ⟨rfl, rfl⟩
set_option maxHeartbeats 1000000 in
set_option maxRecDepth 1000000 in
theorem heldRelationS_nil (w : World) (a : Option Addr) (cap : Nat) (k : Int) : Calls Tryd.prog 21 #[.slice a 0 cap, .int .i64 k] w fun e w' => e = .returned (.int .i64 k) ∧ w' = w := by
  go_enter Tryd.func21, Tryd.ntmps21
  go_wp2
  go_loopw [1, 5] (fun u t wr => t = .int .i64 0 ∧ u = .int .i64 k ∧ wr = w) (fun _ t _ => 0 - (intOf t).toNat)
  case atStart => exact ⟨rfl, rfl, rfl⟩
  case round =>
    obtain ⟨rfl, rfl, rfl⟩ := hrel
    go_wp2
    go_ret
    exact ⟨rfl, rfl⟩

/-- boxes of data stand -/
def KeepD (W W' : World) : Prop := ∀ (q : Nat) (cur : Array Value), W.heap[q]? = some (.cells cur 24 (0, 0)) → W'.heap[q]? = W.heap[q]?
/-- the relations are marked, and found again -/
theorem rels_marks (w : World) (B : Nat) (v : Value) (ds : List RelV) (vr vw : Nat → Value) (us : Nat → List Value) (lo hi : Nat → Nat) (hD : DQ w B v ds vr vw us lo hi) (hF : FewD ds) :
    Calls Tryd.prog 20 #[v, .int .i64 1] w fun e w' => ∃ m : Nat, e = .returned (.int .i64 (m : Int)) ∧ Below B w w' ∧ KeepD w w' ∧ ∀ W, Below w'.heap.size w' W → Calls Tryd.prog 21 #[v, .int .i64 1] W fun e w'' => e = .returned (.int .i64 (m : Int)) ∧ Below W.heap.size W w'' := by
  rcases hD.own.2 with ⟨rfl, hn⟩ | ⟨g, cap, cur, rfl, -⟩
  · refine (markRelationS_nil w none 0 1).mono ?_
    rintro e w' ⟨rfl, rfl⟩
    refine ⟨1, rfl, Below.refl _ _, fun _ _ _ => rfl, fun W _ => ?_⟩
    refine (heldRelationS_nil W none 0 1).mono ?_
    rintro e w'' ⟨rfl, rfl⟩
    exact ⟨rfl, Below.refl _ _⟩
  · refine (markRelationS_calls w B g cap ds vr vw us lo hi 1 hD hF (by omega) (by omega)).mono ?_
    rintro e w' ⟨rfl, hM⟩
    refine ⟨_, rfl, hM.bel, fun q cur hq => hM.far q (heap_lt hq) (fun e => ?_) (fun j hj hf => ?_), fun W hb => ?_⟩
    · obtain ⟨cu2, hc2⟩ := own_typ hD.own (g := g) rfl
      rw [e, hc2] at hq
      simp only [Option.some.injEq, Obj.cells.injEq] at hq
      exact absurd hq.2.1 (by decide)
    · obtain ⟨cu2, hc2⟩ := (hD.ft hj hf).2.2.2
      rw [hc2] at hq
      simp only [Option.some.injEq, Obj.cells.injEq] at hq
      exact absurd hq.2.1 (by decide)
    have hH := hM.hd hD rfl
    have hH2 : HdD W g ds vr vw 1 := ⟨fun j hj => by
        obtain ⟨⟨a2, m2, k2, e2, c2⟩, a3, m3, k3, e3, c3⟩ := hH.row j hj
        exact ⟨⟨a2, m2, k2, e2, bclR hb c2⟩, a3, m3, k3, e3, bclR hb c3⟩, fun j hj => ⟨bclR hb (hH.done j hj).1, bclR hb (hH.done j hj).2⟩, fun j hj W' hb' => hH.held j hj W' (bt hb hb')⟩
    exact heldRelationS_calls W g cap ds vr vw 1 hH2 hF (by omega) (by omega)

set_option maxHeartbeats 1000000 in
set_option maxRecDepth 1000000 in
theorem heldData_calls (W : World) (a : Option Addr) (n cap m : Nat) (hK : ∀ W', Below W.heap.size W W' → Calls Tryd.prog 21 #[.slice a n cap, .int .i64 1] W' fun e w'' => e = .returned (.int .i64 (m : Int)) ∧ Below W'.heap.size W' w'') :
    Calls Tryd.prog 9 #[.agg #[.slice a n cap], .int .i64 1] W fun e w'' => e = .returned (.int .i64 (m : Int)) ∧ Below W.heap.size W w'' := by
  obtain ⟨W1, hW1⟩ : ∃ W1, W1 = W.alloc (.cells #[.slice a n cap] 24) := ⟨_, rfl⟩
  have hb : Below W.heap.size W W1 := by rw [hW1]; exact (Below.refl _ _).alloc (Nat.le_refl _) _
  have hX : Boxed W1 W.heap.size 24 (.slice a n cap) := by rw [hW1]; exact Boxed.new _ _ _
  have d0 := hX.cell
  have K := hid (hK W1 hb)
  have HB := hid hb
  have g1 : ¬ ((m : Int) < 0) := by omega
  clear hK hb hX
  go_enter Tryd.func9, Tryd.ntmps9
  go_upto_region 1 with fail
  rw [← hW1]
  clear hW1
  go_wp2_with (first | (go_at_call 21; refine K.out.mono ?_; rintro e w2 ⟨rfl, hb2⟩; have HB2 := hid (bt HB.out hb2); clear hb2) | fail)
  go_ret
  exact ⟨rfl, HB2.out⟩

set_option maxHeartbeats 1000000 in
set_option maxRecDepth 1000000 in
theorem data_marks (w : World) (B : Nat) (v : Value) (ds : List RelV) (vr vw : Nat → Value) (us : Nat → List Value) (lo hi : Nat → Nat) (hD : DQ w B v ds vr vw us lo hi) (hF : FewD ds) (hB : B ≤ w.heap.size) :
    Calls Tryd.prog 8 #[.agg #[v], .int .i64 1] w fun e w' => ∃ m : Nat, e = .returned (.int .i64 (m : Int)) ∧ Below B w w' ∧ KeepD w w' ∧ ∀ W, Below w'.heap.size w' W → Calls Tryd.prog 9 #[.agg #[v], .int .i64 1] W fun e w'' => e = .returned (.int .i64 (m : Int)) ∧ Below W.heap.size W w'' := by
  obtain ⟨a, cap, rfl⟩ := own_shapeR hD.own
  obtain ⟨W1, hW1⟩ : ∃ W1, W1 = w.alloc (.cells #[.slice a ds.length cap] 24) := ⟨_, rfl⟩
  have hb : Below w.heap.size w W1 := by rw [hW1]; exact (Below.refl _ _).alloc (Nat.le_refl _) _
  have hX : Boxed W1 w.heap.size 24 (.slice a ds.length cap) := by rw [hW1]; exact Boxed.new _ _ _
  have d0 := hX.cell
  have K := hid (rels_marks W1 B _ ds vr vw us lo hi (hD.below hb) hF)
  have HB := hid (hb.mono hB)
  have HKD : Hid (∀ w2, KeepD W1 w2 → KeepD w w2) := hid fun w2 h q cur hq => (h q cur ((hb.block q (heap_lt hq)).trans hq)).trans (hb.block q (heap_lt hq))
  clear hD hF hb hX
  generalize ds.length = n at *
  go_enter Tryd.func8, Tryd.ntmps8
  go_upto_region 1 with fail
  rw [← hW1]
  clear hW1
  go_wp2_with (first | (go_at_call 20; refine K.out.mono ?_; rintro e w2 ⟨m, rfl, hb2, hd2, hk2⟩; have HB2 := hid (HB.out.trans hb2); have HK2 := hid hk2; have HD2 := hid (HKD.out w2 hd2); clear hb2 hk2 hd2) | fail)
  go_ret
  exact ⟨m, rfl, HB2.out, HD2.out, fun W hW => heldData_calls W a n cap m fun W' hb' => HK2.out W' (bt hW hb')⟩

end Go.Proofs.YtcgboccdffgkfaaDoor

/-
  Both answers of ParseData are one.
-/
namespace Go.Proofs.YtcgboccdffgkfaaDoor
open Go.RowKit

theorem DQ.irels {W : World} {B : Nat} {v : Value} {ds : List RelV} {vr vw : Nat → Value} {us : Nat → List Value} {lo hi : Nat → Nat} (h : DQ W B v ds vr vw us lo hi) : IRelS W v ds := by
  rcases h.own.2 with ⟨rfl, hn⟩ | ⟨g, cap, cur, rfl, hx⟩
  · exact ⟨none, 0, by rw [hn], Or.inl hn⟩
  · refine ⟨_, cap, rfl, Or.inr ⟨g, 0, rfl, fun j hj => ?_⟩⟩
    have hc : ∀ x, x < 4 → W.cell? ⟨g, j * 4 + x, none⟩ = (relC (ds.getD j noRel) (vr j) (vw j))[x]? := fun x hx => by
      rw [h.own.cellAt _ (by omega), flat4 _ (fun _ => rfl) _ j x hj hx]
    rw [Nat.zero_add]
    refine ⟨vr j, vw j, hc 0 (by decide), hc 1 (by decide), hc 2 (by decide), hc 3 (by decide), ?_, own_is (h.ow j hj)⟩
    have hq := h.rq j hj
    rcases hq.own.2 with ⟨e, hn⟩ | ⟨g2, cap2, cur2, e, -, -, h1, -⟩
    · exact ⟨none, 0, by rw [e, hn], Or.inl hn⟩
    · refine ⟨_, cap2, e, Or.inr ⟨g2, 0, rfl, fun m hm => ⟨(us j).getD m undef, ?_, own_is (hq.each m hm)⟩⟩⟩
      obtain ⟨g3, cap3, e3, -, hc3⟩ := hq.get hm
      rw [e] at e3
      simp only [Value.slice.injEq, Option.some.injEq, Addr.mk.injEq, true_and, and_true] at e3
      rw [Nat.zero_add, e3.1]
      exact hc3

/-- names are short -/
def NmS (st : List RdV) : Prop := ∀ i, i < st.length → (st.getD i noRd).nm.size ≤ 30
theorem takA_nm {st st' : List RdV} {l : List UInt8} (hs : NmS st) (h : takA st l = some st') : NmS st' := by
  unfold takA at h
  split at h
  · cases h; exact hs
  · dsimp only at h
    split at h
    · split at h
      · rename_i hd
        cases h
        unfold decA at hd
        simp only [Bool.and_eq_true] at hd
        have hnm := hd.2
        unfold relName nameB at hnm
        simp only [Bool.and_eq_true, decide_eq_true_eq] at hnm
        intro i hi
        rw [List.length_append, List.length_singleton] at hi
        by_cases e : i < st.length
        · rw [List.getD_eq_getElem?_getD, List.getElem?_append_left e, ← List.getD_eq_getElem?_getD]
          exact hs i e
        · obtain rfl : i = st.length := by omega
          rw [List.getD_eq_getElem?_getD, List.getElem?_append_right (Nat.le_refl _), Nat.sub_self]
          exact hnm.1.1.1.2
      · cases h
    · split at h
      · rename_i hd
        cases h
        simp only [Bool.and_eq_true] at hd
        have hpl := (plcP_of hd.1).1
        rw [List.length_map] at hpl
        intro i hi
        rw [List.length_set] at hi
        generalize plcP (st.map RdV.nm) ⟨((spl 32 l).getD 0 []).toArray⟩ = p at *
        by_cases e : i = p
        · subst e
          rw [getD_set_same hpl]
          exact hs i hpl
        · rw [getD_set_other e]
          exact hs i hi
      · cases h
theorem prT_nm {ls : List (List UInt8)} : ∀ {k : Nat} {st : List RdV}, prT ls k = some st → NmS st
  | 0, st, h => by cases h; exact fun _ hi => absurd hi (Nat.not_lt_zero _)
  | k + 1, st, h => by
    rw [prT, Option.bind_eq_some_iff] at h
    obtain ⟨st0, h0, h1⟩ := h
    exact takA_nm (prT_nm h0) h1

theorem prT_none {ls : List (List UInt8)} {k : Nat} (h : prT ls k = none) : ∀ m, prT ls (k + m) = none
  | 0 => h
  | m + 1 => by rw [← Nat.add_assoc, prT, prT_none h m]; rfl

/-- what a text says: the number answered, the data -/
def DsG (l : List UInt8) (c : Int) (ds : List RelV) : Prop :=
  (60000 < l.length ∧ c = -1 ∧ ds = []) ∨ (l.length ≤ 60000 ∧ ∃ k, (∃ st, prT (spl 10 l) k = some st) ∧ prT (spl 10 l) (k + 1) = none ∧ k < (spl 10 l).length ∧ c = (k : Int) + 1 ∧ ds = []) ∨
  (l.length ≤ 60000 ∧ ∃ st, prT (spl 10 l) (spl 10 l).length = some st ∧ c = 0 ∧ DsOf st ds)

theorem dsOf_uniq {st : List RdV} {ds ds2 : List RelV} (hg : GoodS st) (h : DsOf st ds) (h2 : DsOf st ds2) : ds = ds2 := by
  refine List.ext_getElem? fun j => ?_
  by_cases hj : j < st.length
  · have e := relOf_uniq (hg j hj).1 (h.2 j hj) (h2.2 j hj)
    have h3 : j < ds.length := by rw [h.1]; exact hj
    have h4 : j < ds2.length := by rw [h2.1]; exact hj
    rw [List.getElem?_eq_getElem h3, List.getElem?_eq_getElem h4]
    rw [List.getD_eq_getElem?_getD, List.getD_eq_getElem?_getD, List.getElem?_eq_getElem h3, List.getElem?_eq_getElem h4] at e
    exact congrArg some e
  · rw [List.getElem?_eq_none (by rw [h.1]; omega), List.getElem?_eq_none (by rw [h2.1]; omega)]

theorem DsG.uniq {l : List UInt8} {c c2 : Int} {ds ds2 : List RelV} (h : DsG l c ds) (h2 : DsG l c2 ds2) : c = c2 ∧ ds = ds2 := by
  rcases h with ⟨a1, rfl, rfl⟩ | ⟨a1, k, ⟨st, hk⟩, hk1, hkl, rfl, rfl⟩ | ⟨a1, st, hs, rfl, ho⟩ <;> rcases h2 with ⟨b1, rfl, rfl⟩ | ⟨b1, k', ⟨st', hk'⟩, hk1', hkl', rfl, rfl⟩ | ⟨b1, st', hs', rfl, ho'⟩
  · exact ⟨rfl, rfl⟩
  · omega
  · omega
  · omega
  · rcases Nat.lt_trichotomy k k' with e | e | e
    · have := prT_none hk1 (k' - (k + 1))
      rw [show k + 1 + (k' - (k + 1)) = k' by omega, hk'] at this
      cases this
    · subst e; exact ⟨rfl, rfl⟩
    · have := prT_none hk1' (k - (k' + 1))
      rw [show k' + 1 + (k - (k' + 1)) = k by omega, hk] at this
      cases this
  · have := prT_none hk1 ((spl 10 l).length - (k + 1))
    rw [show k + 1 + ((spl 10 l).length - (k + 1)) = (spl 10 l).length by omega, hs'] at this
    cases this
  · omega
  · have := prT_none hk1' ((spl 10 l).length - (k' + 1))
    rw [show k' + 1 + ((spl 10 l).length - (k' + 1)) = (spl 10 l).length by omega, hs] at this
    cases this
  · rw [hs] at hs'
    cases hs'
    exact ⟨rfl, dsOf_uniq (prT_good hs) ho ho'⟩

theorem lenR_of {ls : List (List Int)} {m : Nat} (h : ∀ j, (ls.getD j []).length ≤ m) : ∀ n, lenR ls n ≤ n * m
  | 0 => Nat.zero_le _
  | n + 1 => by
    rw [lenR, Nat.add_mul, Nat.one_mul]
    have := lenR_of h n
    have := h n
    omega

theorem relOf_facts {r : RdV} {d : RelV} (h : RelOf r d) : d.rows.length = r.rs.length ∧ d.ws.length = r.rs.length ∧ ∀ j, (d.rows.getD j []).length ≤ 3 := by
  obtain ⟨ss, hp, -, e1, e2⟩ := h.ex
  have hl := hp.length_eq
  rw [List.length_map] at hl
  refine ⟨by rw [e1]; unfold rowsT; rw [List.length_map, hl], by rw [e2]; unfold wtsT; rw [List.length_map, hl], fun j => ?_⟩
  rw [e1]
  unfold rowsT
  rw [List.getD_eq_getElem?_getD, List.getElem?_map]
  cases hj : ss[j]? with
  | none => exact Nat.zero_le _
  | some x =>
    show ((tl x).take _).length ≤ 3
    rw [List.length_take]
    show min _ 3 ≤ 3
    omega

theorem getD_out {α : Type} {l : List α} {j : Nat} {d : α} (h : l.length ≤ j) : l.getD j d = d := by rw [List.getD_eq_getElem?_getD, List.getElem?_eq_none h]; rfl

theorem dsOf_few {st : List RdV} {ds : List RelV} (h : DsOf st ds) (hs : StOk st) (hn : NmS st) : FewD ds ∧ OkRels ds := by
  have hf : ∀ j, j < ds.length → lenR (ds.getD j noRel).rows (ds.getD j noRel).rows.length ≤ 6000 ∧ (ds.getD j noRel).rows.length ≤ 2000 ∧ (ds.getD j noRel).ws.length ≤ 2000 ∧ (∀ m, ((ds.getD j noRel).rows.getD m []).length ≤ 3) ∧ (ds.getD j noRel).name.size ≤ 30 := fun j hj => by
    rw [h.1] at hj
    obtain ⟨f1, f2, f3⟩ := relOf_facts (h.2 j hj)
    have h2 := (hs.2 j hj).1
    have h4 := lenR_of f3 (ds.getD j noRel).rows.length
    refine ⟨by omega, by omega, by omega, f3, ?_⟩
    rw [(h.2 j hj).name]
    exact hn j hj
  have h50 : ds.length ≤ 50 := by rw [h.1]; exact hs.1
  refine ⟨⟨h50, fun j hj => ⟨by have := (hf j hj).1; omega, (hf j hj).2.1, (hf j hj).2.2.1⟩⟩, by omega, fun j => ?_⟩
  by_cases hj : j < ds.length
  · obtain ⟨-, h2, h3, h4, h5⟩ := hf j hj
    exact ⟨by omega, ⟨by omega, fun m => by have := h4 m; omega⟩, by omega⟩
  · rw [getD_out (by omega)]
    exact ⟨by decide, ⟨by decide, fun m => by simp [noRel]⟩, by decide⟩

theorem DsG.few {l : List UInt8} {c : Int} {ds : List RelV} (h : DsG l c ds) : FewD ds ∧ OkRels ds := by
  have h0 : FewD [] ∧ OkRels [] := dsOf_few (st := []) ⟨rfl, fun _ h => absurd h (Nat.not_lt_zero _)⟩ stOk_nil (fun _ h => absurd h (Nat.not_lt_zero _))
  rcases h with ⟨-, -, rfl⟩ | ⟨-, k, -, -, -, -, rfl⟩ | ⟨-, st, hs, -, ho⟩
  · exact h0
  · exact h0
  · exact dsOf_few ho (prT_ok hs) (prT_nm hs)

theorem ParSE.all {w w' : World} {l : List UInt8} {e : Ending} (h : ParSE w l e w') : ∃ v c ds, e = .returned (.tuple #[.agg #[v], .int .i64 c]) ∧ DsG l c ds ∧ IRelS w' v ds ∧ Below w.heap.size w w' := by
  obtain ⟨hb, ⟨a, he⟩ | ⟨a, k, hk, hs, hn, he⟩ | ⟨a, st, hs, v, ds, vr, vw, us, he, ho, hq⟩⟩ := h
  · exact ⟨_, _, [], he, Or.inl ⟨a, rfl, rfl⟩, ⟨none, 0, rfl, Or.inl rfl⟩, hb⟩
  · exact ⟨_, _, [], he, Or.inr (Or.inl ⟨a, k, hs, hn, hk, rfl, rfl⟩), ⟨none, 0, rfl, Or.inl rfl⟩, hb⟩
  · exact ⟨v, 0, ds, he, Or.inr (Or.inr ⟨a, st, hs, rfl, ho⟩), hq.irels, hb⟩
theorem ParE.all {w w' : World} {l : List UInt8} {e : Ending} (h : ParE w l e w') : ∃ v c ds, e = .returned (.tuple #[.agg #[v], .int .i64 c]) ∧ DsG l c ds ∧ (∃ vr vw us lo hi, DQ w' w.heap.size v ds vr vw us lo hi) ∧ Below w.heap.size w w' := by
  obtain ⟨hb, ⟨a, he⟩ | ⟨a, k, hk, hs, hn, he⟩ | ⟨a, st, hs, v, ds, vr, vw, us, lo, hi, he, ho, hq⟩⟩ := h
  · exact ⟨_, _, [], he, Or.inl ⟨a, rfl, rfl⟩, ⟨fun _ => undef, fun _ => undef, fun _ => [], fun _ => 0, fun _ => 0, DQ.nil _ _⟩, hb⟩
  · exact ⟨_, _, [], he, Or.inr (Or.inl ⟨a, k, hs, hn, hk, rfl, rfl⟩), ⟨fun _ => undef, fun _ => undef, fun _ => [], fun _ => 0, fun _ => 0, DQ.nil _ _⟩, hb⟩
  · exact ⟨v, 0, ds, he, Or.inr (Or.inr ⟨a, st, hs, rfl, ho⟩), ⟨vr, vw, us, lo, hi, hq⟩, hb⟩

end Go.Proofs.YtcgboccdffgkfaaDoor

/-
  laws.FnExactParseData, walked.
-/
namespace Go.Proofs.YtcgboccdffgkfaaDoor
open Go.RowKit

theorem IRelS.sl {w : World} {v : Value} {ds : List RelV} (h : IRelS w v ds) : ∃ a cap, v = .slice a ds.length cap := by
  obtain ⟨a, cap, e, -⟩ := h
  exact ⟨a, cap, e⟩

set_option maxHeartbeats 4000000 in
set_option maxRecDepth 1000000 in
theorem parseData_walk (w : World) (s : ByteArray) (m : Int) (hm : w.cell? ⟨0, 0, none⟩ = some (.int .i64 m)) (hs : s.size ≤ 9223372036854775807) :
    Calls Tryd.prog 3 #[.string s] w fun e w' => e = .returned (.bool true) ∧ Below w.heap.size w w' := by
  by_cases hbig : 1048576 < s.size
  · have q1 : (1048576 : Int) < (s.size : Int) := by omega
    go_enter Tryd.func3, Tryd.ntmps3
    go_wp2_with fail
    go_ret
    exact ⟨rfl, Below.refl _ _⟩
  have q1 : ¬ ((1048576 : Int) < (s.size : Int)) := by omega
  have K1 : Hid (Calls Tryd.prog 5 #[.string s] w fun e w' => ∃ a cap c ds, e = .returned (.tuple #[.agg #[.slice a ds.length cap], .int .i64 c]) ∧ DsG s.data.toList c ds ∧ IRelS w' (.slice a ds.length cap) ds ∧ Below w.heap.size w w') := hid ((sParse_calls w s (by omega)).mono fun e w' h => by
    obtain ⟨v, c, ds, he, hd, hi, hb⟩ := h.all
    obtain ⟨a, cap, rfl⟩ := hi.sl
    exact ⟨a, cap, c, ds, he, hd, hi, hb⟩)
  have KI : Hid (∀ W, Below w.heap.size w W → Calls Tryd.prog 6 #[.string s] W fun e w' => ∃ a cap c ds, e = .returned (.tuple #[.agg #[.slice a ds.length cap], .int .i64 c]) ∧ DsG s.data.toList c ds ∧ (∃ vr vw us lo hi, DQ w' W.heap.size (.slice a ds.length cap) ds vr vw us lo hi) ∧ Below W.heap.size W w') := hid fun W hW => (iParse_calls W s m (bclR hW hm) (by omega)).mono fun e w' h => by
    obtain ⟨v, c, ds, he, hd, ⟨vr, vw, us, lo, hi, hq⟩, hb⟩ := h.all
    obtain ⟨a, cap, rfl⟩ := own_shapeR hq.own
    exact ⟨a, cap, c, ds, he, hd, ⟨vr, vw, us, lo, hi, hq⟩, hb⟩
  clear hm hs hbig
  go_enter Tryd.func3, Tryd.ntmps3
  go_wp2_with fail
  refine K1.out.mono ?_
  rintro e w1 ⟨a1, k1, c, ds, rfl, hd1, hi1, hb1⟩
  obtain ⟨W1, hW1⟩ : ∃ W1, W1 = w1.alloc (.cells #[.slice a1 ds.length k1] 24) := ⟨_, rfl⟩
  have hB1 : Below w1.heap.size w1 W1 := by rw [hW1]; exact (Below.refl _ _).alloc (Nat.le_refl _) _
  have HX1 : Hid (Boxed W1 w1.heap.size 24 (.slice a1 ds.length k1)) := hid (by rw [hW1]; exact Boxed.new _ _ _)
  have HS1 : Hid (W1.heap.size = w1.heap.size + 1) := hid (by rw [hW1]; simp)
  have HD1 := hid hd1
  have HI1 := hid (hi1.below hB1)
  have HB1 := hid (bt hb1 hB1)
  have HF := hid hd1.few
  clear hd1 hi1 hb1 hB1 K1
  go_upto_region 4 with fail
  rw [← hW1]
  clear hW1
  obtain ⟨P1, hP1⟩ : ∃ P1, P1 = w1.heap.size := ⟨_, rfl⟩
  rw [← hP1] at HX1 HS1 ⊢
  clear hP1
  go_wp2_with fail
  refine (KI.out W1 HB1.out).mono ?_
  rintro e w2 ⟨a2, k2, c2, ds2, rfl, hd2, hq2, hb2⟩
  obtain ⟨rfl, rfl⟩ := HD1.out.uniq hd2
  obtain ⟨W2, hW2⟩ : ∃ W2, W2 = w2.alloc (.cells #[.slice a2 ds.length k2] 24) := ⟨_, rfl⟩
  have hB2 : Below w2.heap.size w2 W2 := by rw [hW2]; exact (Below.refl _ _).alloc (Nat.le_refl _) _
  have HX2 : Hid (Boxed W2 w2.heap.size 24 (.slice a2 ds.length k2)) := hid (by rw [hW2]; exact Boxed.new _ _ _)
  have HB2 := hid (bt hb2 hB2)
  have HQ2 : Hid (∃ vr vw us lo hi, DQ W2 W1.heap.size (.slice a2 ds.length k2) ds vr vw us lo hi) := hid (by
    obtain ⟨vr, vw, us, lo, hi, hq⟩ := hq2
    exact ⟨vr, vw, us, lo, hi, hq.below hB2⟩)
  have HX12 := hid (bx_below HX1.out HB2.out)
  clear hd2 hq2 hb2 hB2
  go_upto_region 5 with fail
  rw [← hW2]
  clear hW2
  obtain ⟨P2, hP2⟩ : ∃ P2, P2 = w2.heap.size := ⟨_, rfl⟩
  rw [← hP2] at HX2 ⊢
  clear hP2
  have x1 := HX12.out.cell
  have x2 := HX2.out.cell
  have KE : Hid (Calls Tryd.prog 7 #[.agg #[.slice a2 ds.length k2], .agg #[.slice a1 ds.length k1]] W2 fun e w' => e = .returned (.bool true) ∧ Below W2.heap.size W2 w') := hid (by
    obtain ⟨vr, vw, us, lo, hi, hq⟩ := HQ2.out
    exact eqData_same W2 _ _ ds hq.irels (HI1.out.below HB2.out) HF.out.2)
  have qc : (c != c) = false := by simp
  generalize ds.length = n at *
  go_upto_region 8 with (first | (go_at_call 7; refine KE.out.mono ?_; rintro e w3 ⟨rfl, hb3⟩; have HB3 := hid hb3; clear hb3) | fail)
  have x23 := bclR HB3.out x2
  have HX23 := hid (bx_below HX2.out HB3.out)
  have HX13 := hid (bx_below HX12.out HB3.out)
  have HB23 := hid (bt HB2.out HB3.out)
  have KMk : Hid (Calls Tryd.prog 8 #[.agg #[.slice a2 n k2], .int .i64 1] w3 fun e w' => ∃ m : Nat, e = .returned (.int .i64 (m : Int)) ∧ Below W1.heap.size w3 w' ∧ KeepD w3 w' ∧ ∀ W, Below w'.heap.size w' W → Calls Tryd.prog 9 #[.agg #[.slice a2 n k2], .int .i64 1] W fun e w'' => e = .returned (.int .i64 (m : Int)) ∧ Below W.heap.size W w'') := hid (by
    obtain ⟨vr, vw, us, lo, hi, hq⟩ := HQ2.out
    exact data_marks w3 W1.heap.size _ ds vr vw us lo hi (hq.below HB3.out) HF.out.1 HB23.out.size)
  clear x1 x2 KE HX2 HX12 HB3
  go_wp2_with fail
  refine KMk.out.mono ?_
  rintro e w4 ⟨mm, rfl, hb4, hk4, hh4⟩
  have hx4 : Boxed w4 P2 24 (.slice a2 n k2) := (hk4 P2 _ HX23.out).trans HX23.out
  have hx14 : Boxed w4 P1 24 (.slice a1 n k1) := (hk4 P1 _ HX13.out).trans HX13.out
  have HX14 := hid hx14
  have x24 := hx4.cell
  have KH := hid (hh4 w4 (Below.refl _ _))
  have HB4 : Hid (Below W1.heap.size W1 w4) := hid (HB23.out.trans hb4)
  have g1 : ¬ ((mm : Int) < 0) := by omega
  have g2 : ((mm : Int) != (mm : Int)) = false := by simp
  clear x23 HX23 HX13 HB23 KMk hb4 hk4 hh4 hx4 hx14 HQ2 HB2
  go_upto_region 15 with (first | (go_at_call 9; refine KH.out.mono ?_; rintro e w5 ⟨rfl, hb5⟩; have HB5 := hid (bt HB4.out hb5); have HX15 := hid (bx_below HX14.out hb5); clear hb5) | fail)
  clear KH x24 HX14 HB4
  go_wp2_with fail
  refine (KI.out w5 (bt HB1.out HB5.out)).mono ?_
  rintro e w6 ⟨a6, k6, c6, ds6, rfl, hd6, hq6, hb6⟩
  obtain ⟨rfl, rfl⟩ := HD1.out.uniq hd6
  obtain ⟨W6, hW6⟩ : ∃ W6, W6 = w6.alloc (.cells #[.slice a6 ds.length k6] 24) := ⟨_, rfl⟩
  have hB6 : Below w6.heap.size w6 W6 := by rw [hW6]; exact (Below.refl _ _).alloc (Nat.le_refl _) _
  have HX6 : Hid (Boxed W6 w6.heap.size 24 (.slice a6 ds.length k6)) := hid (by rw [hW6]; exact Boxed.new _ _ _)
  have HX16 := hid (bx_below HX15.out (bt hb6 hB6))
  have HB6 := hid (bt HB5.out (bt hb6 hB6))
  have KE : Hid (Calls Tryd.prog 7 #[.agg #[.slice a6 ds.length k6], .agg #[.slice a1 n k1]] W6 fun e w' => e = .returned (.bool true) ∧ Below W6.heap.size W6 w') := hid (by
    obtain ⟨vr, vw, us, lo, hi, hq⟩ := hq6
    exact eqData_same W6 _ _ ds (hq.below hB6).irels (HI1.out.below HB6.out) HF.out.2)
  clear hd6 hq6 hb6 hB6 HX15 HB5 KI
  go_upto_region 16 with fail
  rw [← hW6]
  clear hW6
  obtain ⟨P6, hP6⟩ : ∃ P6, P6 = w6.heap.size := ⟨_, rfl⟩
  rw [← hP6] at HX6 ⊢
  clear hP6
  have x1 := HX16.out.cell
  have x6 := HX6.out.cell
  generalize ds.length = n6 at *
  go_wp2_with (first | (go_at_call 7; refine KE.out.mono ?_; rintro e w7 ⟨rfl, hb7⟩; have HB7 := hid (bt (bt HB1.out HB6.out) hb7); clear hb7) | fail)
  go_ret
  exact ⟨rfl, HB7.out⟩

end Go.Proofs.YtcgboccdffgkfaaDoor
