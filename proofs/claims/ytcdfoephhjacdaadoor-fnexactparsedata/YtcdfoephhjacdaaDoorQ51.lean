import Derived.Deep.RegionHeld3
import Derived.Test.YtcdfoephhjacdaaDoorQ37
import Derived.Test.YtcdfoephhjacdaaDoorQ41
import Derived.Test.YtcdfoephhjacdaaDoorQ50
/-
  Data is marked relation by relation: the state of the marking.
-/
namespace Go.Proofs.YtcdfoephhjacdaaDoor
open Go.RowKit

/-- how many marks the first j relations take -/
def relO (ds : List RelV) : Nat → Nat
  | 0 => 0
  | j + 1 => relO ds j + 2 + lenR (ds.getD j noRel).rows (ds.getD j noRel).rows.length + (ds.getD j noRel).ws.length
/-- a relation's blocks of numbers -/
def Ft (ds : List RelV) (vw : Nat → Value) (us : Nat → List Value) (j q : Nat) : Prop := (vw j).ownBlock = some q ∨ ∃ m, m < (ds.getD j noRel).rows.length ∧ ((us j).getD m undef).ownBlock = some q

section
variable {w wr : World} {B g : Nat} {v : Value} {ds : List RelV} {vr vw : Nat → Value} {us : Nat → List Value} {lo hi : Nat → Nat} {k i : Nat}
theorem DQ.ft (h : DQ w B v ds vr vw us lo hi) {j q : Nat} (hj : j < ds.length) (hf : Ft ds vw us j q) : lo j ≤ q ∧ q < hi j ∧ q < w.heap.size ∧ ∃ cur, w.heap[q]? = some (.cells cur 3 (0, 0)) := by
  rcases hf with hf | ⟨m, hm, hf⟩
  · exact ⟨((h.ow j hj).lt q hf).1, (h.up j hj).1 q hf, ((h.ow j hj).lt q hf).2, own_typ (h.ow j hj) hf⟩
  · exact ⟨(((h.rq j hj).each m hm).lt q hf).1, (h.up j hj).2 m hm q hf, (((h.rq j hj).each m hm).lt q hf).2, own_typ ((h.rq j hj).each m hm) hf⟩
theorem DQ.ft_ne (h : DQ w B v ds vr vw us lo hi) {i j q : Nat} (hij : i < j) (hj : j < ds.length) (h1 : Ft ds vw us i q) (h2 : Ft ds vw us j q) : False := by
  have a := h.ft (by omega) h1
  have b := h.ft hj h2
  have := h.sep i j hij hj
  omega
theorem DQ.ft_g (h : DQ w B v ds vr vw us lo hi) (hv : v.ownBlock = some g) {j q : Nat} (hj : j < ds.length) (hf : Ft ds vw us j q) : q ≠ g := fun e => by
  obtain ⟨cur, hc⟩ := (h.ft hj hf).2.2.2
  obtain ⟨cu2, hc2⟩ := own_typ h.own hv
  rw [e, hc2] at hc
  simp only [Option.some.injEq, Obj.cells.injEq] at hc
  exact absurd hc.2.1 (by decide)
theorem DQ.vr_far (h : DQ w B v ds vr vw us lo hi) (hv : v.ownBlock = some g) {j q : Nat} (hj : j < ds.length) (hq : (vr j).ownBlock = some q) : q < w.heap.size ∧ q ≠ g ∧ ∀ m, m < ds.length → ¬ Ft ds vw us m q := by
  obtain ⟨cur, hc⟩ := own_typ (h.rq j hj).own hq
  refine ⟨heap_lt hc, fun e => ?_, fun m hm hf => ?_⟩
  · obtain ⟨cu2, hc2⟩ := own_typ h.own hv
    rw [e, hc2] at hc
    simp only [Option.some.injEq, Obj.cells.injEq] at hc
    exact absurd hc.2.1 (by decide)
  · obtain ⟨cu2, hc2⟩ := (h.ft hm hf).2.2.2
    rw [hc2] at hc
    simp only [Option.some.injEq, Obj.cells.injEq] at hc
    exact absurd hc.2.1 (by decide)

/-- what has been marked of the first i relations -/
structure MkD (w wr : World) (B g : Nat) (ds : List RelV) (vr vw : Nat → Value) (us : Nat → List Value) (k i : Nat) : Prop where
  size : w.heap.size ≤ wr.heap.size
  bel : Below B w wr
  far : ∀ q, q < w.heap.size → q ≠ g → (∀ j, j < i → ¬ Ft ds vw us j q) → wr.heap[q]? = w.heap[q]?
  row : ∀ j, j < ds.length → wr.cell? ⟨g, j * 4 + 2, none⟩ = some (vr j) ∧ wr.cell? ⟨g, j * 4 + 3, none⟩ = some (vw j)
  any : ∀ j, j < ds.length → (∃ u, wr.cell? ⟨g, j * 4, none⟩ = some u) ∧ ∃ u, wr.cell? ⟨g, j * 4 + 1, none⟩ = some u
  fz : ∀ q, wr.frozen? ⟨g, q, none⟩ = false
  done : ∀ j, j < i → wr.cell? ⟨g, j * 4, none⟩ = some (.string (mkT (k + relO ds j))) ∧ wr.cell? ⟨g, j * 4 + 1, none⟩ = some (.int .i64 ((k + relO ds j + 1 : Nat) : Int))
  held : ∀ j, j < i → ∀ W, (∀ q, Ft ds vw us j q → W.heap[q]? = wr.heap[q]?) → (∀ q, (vr j).ownBlock = some q → W.heap[q]? = w.heap[q]?) → wr.heap.size ≤ W.heap.size →
    (Calls Tryd.prog 46 #[vr j, .int .i64 ((k + relO ds j + 2 : Nat) : Int)] W fun e w'' => e = .returned (.int .i64 ((k + relO ds j + 2 + lenR (ds.getD j noRel).rows (ds.getD j noRel).rows.length : Nat) : Int)) ∧ w'' = W) ∧
    Calls Tryd.prog 47 #[vw j, .int .i64 ((k + relO ds j + 2 + lenR (ds.getD j noRel).rows (ds.getD j noRel).rows.length : Nat) : Int)] W fun e w'' => e = .returned (.int .i64 ((k + relO ds (j + 1) : Nat) : Int)) ∧ w'' = W

theorem MkD.start (h : DQ w B v ds vr vw us lo hi) (hv : v.ownBlock = some g) : MkD w w B g ds vr vw us k 0 := by
  have hc : ∀ j x, j < ds.length → x < 4 → w.cell? ⟨g, j * 4 + x, none⟩ = (relC (ds.getD j noRel) (vr j) (vw j))[x]? := fun j x hj hx => by
    rcases h.own.2 with ⟨e, -⟩ | ⟨g', cap, cur, e, -⟩
    · rw [e] at hv; cases hv
    · have e2 := e
      rw [e2] at hv
      obtain rfl : g' = g := by simpa [Value.ownBlock] using hv
      have ho := h.own
      rw [e] at ho
      rw [ho.cellAt (j * 4 + x) (by omega), flat4 _ (fun _ => rfl) _ _ _ hj hx]
  obtain ⟨cur, hg⟩ := own_typ h.own hv
  refine ⟨Nat.le_refl _, Below.refl _ _, fun _ _ _ _ => rfl, fun j hj => ⟨hc j 2 hj (by omega), hc j 3 hj (by omega)⟩, fun j hj => ⟨⟨_, hc j 0 hj (by omega)⟩, ⟨_, hc j 1 hj (by omega)⟩⟩, fun q => ?_, fun _ hj => absurd hj (Nat.not_lt_zero _), fun _ hj => absurd hj (Nat.not_lt_zero _)⟩
  unfold World.frozen?
  rw [hg]
  simp

/-- the lists of relation i are still as they were -/
theorem MkD.next (hD : DQ w B v ds vr vw us lo hi) (hv : v.ownBlock = some g) (hi : i < ds.length) {wA : World} (hf : ∀ q, q < w.heap.size → q ≠ g → (∀ j, j < i → ¬ Ft ds vw us j q) → wA.heap[q]? = w.heap[q]?) :
    RQ wA (lo i) (vr i) (us i) (ds.getD i noRel).rows ∧ wA.ownsRow (lo i) 3 1 (vw i) (ds.getD i noRel).ws.length ((ds.getD i noRel).ws.map (Value.int .i64)) := by
  have key : ∀ q, Ft ds vw us i q → wA.heap[q]? = w.heap[q]? := fun q hq => hf q (hD.ft hi hq).2.2.1 (hD.ft_g hv hi hq) fun j hj hq2 => hD.ft_ne hj hi hq2 hq
  refine ⟨⟨own_move (hD.rq i hi).own fun q hq => ?_, (hD.rq i hi).len, fun m hm => own_move ((hD.rq i hi).each m hm) fun q hq => key q (Or.inr ⟨m, hm, hq⟩), (hD.rq i hi).ap⟩, own_move (hD.ow i hi) fun q hq => key q (Or.inl hq)⟩
  obtain ⟨h1, h2, h3⟩ := hD.vr_far hv hi hq
  exact hf q h1 h2 fun j hj => h3 j (by omega)
end

end Go.Proofs.YtcdfoephhjacdaaDoor

/-
  laws.markRelationS, laws.heldRelationS.
-/
namespace Go.Proofs.YtcdfoephhjacdaaDoor
open Go.RowKit

/-- the marks are not too many -/
def FewD (ds : List RelV) : Prop := ds.length ≤ 50 ∧ ∀ j, j < ds.length → lenR (ds.getD j noRel).rows (ds.getD j noRel).rows.length ≤ 10000 ∧ (ds.getD j noRel).rows.length ≤ 2000 ∧ (ds.getD j noRel).ws.length ≤ 2000
theorem relO_le {ds : List RelV} (h : FewD ds) : ∀ {j : Nat}, j ≤ ds.length → relO ds j ≤ j * 12002
  | 0, _ => Nat.le_refl _
  | j + 1, hj => by
    have h1 := relO_le h (j := j) (by omega)
    have h2 := h.2 j (by omega)
    rw [relO]
    omega

section
variable {w wr w2 wA wB wC : World} {B g : Nat} {v : Value} {ds : List RelV} {vr vw : Nat → Value} {us : Nat → List Value} {lo hi : Nat → Nat} {k i : Nat}
theorem cell_of_eq {a b : World} {g q : Nat} (h : b.heap[g]? = a.heap[g]?) : b.cell? ⟨g, q, none⟩ = a.cell? ⟨g, q, none⟩ := World.cell?_of_block h

/-- behind the two stores -/
structure Sto (w wr wA : World) (B g : Nat) (ds : List RelV) (vr vw : Nat → Value) (us : Nat → List Value) (k i : Nat) : Prop where
  size : wr.heap.size ≤ wA.heap.size
  bel : Below B w wA
  blk : ∀ q, q < wr.heap.size → q ≠ g → wA.heap[q]? = wr.heap[q]?
  row : ∀ j, j < ds.length → wA.cell? ⟨g, j * 4 + 2, none⟩ = some (vr j) ∧ wA.cell? ⟨g, j * 4 + 3, none⟩ = some (vw j)
  any : ∀ j, j < ds.length → (∃ u, wA.cell? ⟨g, j * 4, none⟩ = some u) ∧ ∃ u, wA.cell? ⟨g, j * 4 + 1, none⟩ = some u
  fz : ∀ q, wA.frozen? ⟨g, q, none⟩ = false
  done : ∀ j, j < i + 1 → wA.cell? ⟨g, j * 4, none⟩ = some (.string (mkT (k + relO ds j))) ∧ wA.cell? ⟨g, j * 4 + 1, none⟩ = some (.int .i64 ((k + relO ds j + 1 : Nat) : Int))

theorem MkD.sto (h : MkD w wr B g ds vr vw us k i) (hB : B ≤ g) (hg : g < w.heap.size) (hi : i < ds.length) (hb : Below wr.heap.size wr w2) :
    Sto w wr ((w2.setCell ⟨g, i * 4, none⟩ (.string (mkT (k + relO ds i)))).setCell ⟨g, i * 4 + 1, none⟩ (.int .i64 ((k + relO ds i + 1 : Nat) : Int))) B g ds vr vw us k i := by
  have hgr : g < wr.heap.size := Nat.lt_of_lt_of_le hg h.size
  have e2 : ∀ q, w2.cell? ⟨g, q, none⟩ = wr.cell? ⟨g, q, none⟩ := fun q => cell_of_eq (hb.block g hgr)
  have oth : ∀ q x y, q ≠ i * 4 → q ≠ i * 4 + 1 → ((w2.setCell ⟨g, i * 4, none⟩ x).setCell ⟨g, i * 4 + 1, none⟩ y).cell? ⟨g, q, none⟩ = wr.cell? ⟨g, q, none⟩ := fun q x y h1 h2 => by
    rw [World.cell?_setCell_other _ _ _ _ (by intro e; simp only [Addr.mk.injEq] at e; omega), World.cell?_setCell_other _ _ _ _ (by intro e; simp only [Addr.mk.injEq] at e; omega), e2]
  obtain ⟨⟨u0, c0⟩, u1, c1⟩ := h.any i hi
  have s0 : ∀ x y, ((w2.setCell ⟨g, i * 4, none⟩ x).setCell ⟨g, i * 4 + 1, none⟩ y).cell? ⟨g, i * 4, none⟩ = some x := fun x y => by
    rw [World.cell?_setCell_other _ _ _ _ (by intro e; simp only [Addr.mk.injEq] at e; omega)]
    exact World.cell?_setCell_same _ _ _ ((e2 _).trans c0)
  have s1 : ∀ x y, ((w2.setCell ⟨g, i * 4, none⟩ x).setCell ⟨g, i * 4 + 1, none⟩ y).cell? ⟨g, i * 4 + 1, none⟩ = some y := fun x y => by
    have e3 : (w2.setCell ⟨g, i * 4, none⟩ x).cell? ⟨g, i * 4 + 1, none⟩ = some u1 := by
      rw [World.cell?_setCell_other _ _ _ _ (by intro e; simp only [Addr.mk.injEq] at e; omega), e2]
      exact c1
    exact World.cell?_setCell_same _ _ _ e3
  refine ⟨by rw [World.size_setCell, World.size_setCell]; exact hb.size, ((h.bel.trans (hb.mono (Nat.le_trans hB (Nat.le_of_lt hgr)))).setCell hB _).setCell hB _, fun q hq hne => ?_, fun j hj => ?_, fun j hj => ?_, fun q => ?_, fun j hj => ?_⟩
  · rw [Below.heap_setCell _ _ _ _ hne, Below.heap_setCell _ _ _ _ hne, hb.block q hq]
  · rw [oth _ _ _ (by omega) (by omega), oth _ _ _ (by omega) (by omega)]
    exact h.row j hj
  · by_cases e : j = i
    · subst e; exact ⟨⟨_, s0 _ _⟩, ⟨_, s1 _ _⟩⟩
    · rw [oth _ _ _ (by omega) (by omega), oth _ _ _ (by omega) (by omega)]
      exact h.any j hj
  · rw [World.frozen?_setCell, World.frozen?_setCell, World.frozen?_of_block (hb.block g hgr)]
    exact h.fz q
  · by_cases e : j = i
    · subst e; exact ⟨s0 _ _, s1 _ _⟩
    · rw [oth _ _ _ (by omega) (by omega), oth _ _ _ (by omega) (by omega)]
      exact h.done j (by omega)

theorem Sto.lists (hS : Sto w wr wA B g ds vr vw us k i) (h : MkD w wr B g ds vr vw us k i) (hD : DQ w B v ds vr vw us lo hi) (hv : v.ownBlock = some g) (hi : i < ds.length) :
    RQ wA (lo i) (vr i) (us i) (ds.getD i noRel).rows ∧ wA.ownsRow (lo i) 3 1 (vw i) (ds.getD i noRel).ws.length ((ds.getD i noRel).ws.map (Value.int .i64)) :=
  MkD.next hD hv hi fun q hq hne hf => (hS.blk q (Nat.lt_of_lt_of_le hq h.size) hne).trans (h.far q hq hne hf)

/-- one relation more is marked -/
theorem MkD.step (hF : FewD ds) (hk : k ≤ 1000) (h : MkD w wr B g ds vr vw us k i) (hS : Sto w wr wA B g ds vr vw us k i) (hD : DQ w B v ds vr vw us lo hi) (hv : v.ownBlock = some g) (hi : i < ds.length)
    (hR : MkR wA wB (lo i) (us i) (ds.getD i noRel).rows ((k + relO ds i + 2 : Nat) : Int) (ds.getD i noRel).rows.length)
    (c1 : ∀ b, some b ≠ (vw i).ownBlock → wC.heap[b]? = wB.heap[b]?) (c2 : wC.heap.size = wB.heap.size) (c3 : Below (lo i) wB wC)
    (c4 : ∀ W, (∀ g, (vw i).ownBlock = some g → W.heap[g]? = wC.heap[g]?) → wC.heap.size ≤ W.heap.size → Calls Tryd.prog 47 #[vw i, .int .i64 ((k + relO ds i + 2 + lenR (ds.getD i noRel).rows (ds.getD i noRel).rows.length : Nat) : Int)] W fun e w'' => e = .returned (.int .i64 (((k + relO ds i + 2 + lenR (ds.getD i noRel).rows (ds.getD i noRel).rows.length : Nat) : Int) + (ds.getD i noRel).ws.length)) ∧ w'' = W) :
    MkD w wC B g ds vr vw us k (i + 1) := by
  have hlow := (hD.low i hi).1
  have hF2 := hF.2 i hi
  have hro := relO_le hF (j := i) (by omega)
  have h50 := hF.1
  -- what is none of relation i's blocks stands
  have keep : ∀ q, ¬ Ft ds vw us i q → wC.heap[q]? = wA.heap[q]? := fun q hq => by
    rw [c1 q (fun e => hq (Or.inl e.symm)), hR.far q fun m hm e => hq (Or.inr ⟨m, hm, e.symm⟩)]
  have hng : ¬ Ft ds vw us i g := fun hf => hD.ft_g hv hi hf rfl
  have eg : ∀ q, wC.cell? ⟨g, q, none⟩ = wA.cell? ⟨g, q, none⟩ := fun q => cell_of_eq (keep g hng)
  have hsz : wC.heap.size = wA.heap.size := c2.trans hR.size
  refine ⟨by have := h.size; have := hS.size; omega, (hS.bel.trans (hR.bel.mono hlow)).trans (c3.mono hlow), fun q hq hne hf => ?_, fun j hj => ?_, fun j hj => ?_, fun q => ?_, fun j hj => ?_, fun j hj W hW1 hW2 hW3 => ?_⟩
  · rw [keep q (hf i (by omega)), hS.blk q (Nat.lt_of_lt_of_le hq h.size) hne]
    exact h.far q hq hne fun j hj => hf j (by omega)
  · rw [eg, eg]; exact hS.row j hj
  · rw [eg, eg]; exact hS.any j hj
  · rw [World.frozen?_of_block (keep g hng)]; exact hS.fz q
  · rw [eg, eg]; exact hS.done j hj
  · by_cases e : j = i
    · subst e
      have hcB : ∀ q, (∃ m, m < (ds.getD j noRel).rows.length ∧ ((us j).getD m undef).ownBlock = some q) → wC.heap[q]? = wB.heap[q]? := fun q ⟨m, hm, hq⟩ => c1 q fun e => hD.ap j hi m hm q hq e.symm
      constructor
      · have hq := hD.rq j hi
        have := heldsR W (vr j) (us j) (ds.getD j noRel).rows ((k + relO ds j + 2 : Nat) : Int) (own_shapeR hq.own) (fun m hm => by
            obtain ⟨g', cap, e1, -, e2⟩ := hq.get hm
            refine ⟨g', cap, e1, ?_⟩
            rw [cell_of_eq (hW2 g' (by rw [e1]; rfl))]
            exact e2)
          (fun m hm => by
            obtain ⟨a, c, e1⟩ := own_shapeR (hq.each m hm)
            exact ⟨a, _, c, e1⟩)
          (fun m hm => hR.held m hm W (fun q hq2 => (hW1 q (Or.inr ⟨m, hm, hq2⟩)).trans (hcB q ⟨m, hm, hq2⟩)) (by omega)) (by omega) (by omega) (by omega) (by omega)
        refine this.mono ?_
        rintro e w'' ⟨rfl, rfl⟩
        exact ⟨by congr 2, rfl⟩
      · refine (c4 W (fun q hq => hW1 q (Or.inl hq)) hW3).mono ?_
        rintro e w'' ⟨rfl, rfl⟩
        refine ⟨?_, rfl⟩
        rw [relO]
        congr 2
        omega
    · have hji : j < i := by omega
      have hns : ∀ q, Ft ds vw us j q → wC.heap[q]? = wr.heap[q]? := fun q hq => by
        have hd := hD.ft (by omega) hq
        rw [keep q (fun h2 => hD.ft_ne hji hi hq h2), hS.blk q (Nat.lt_of_lt_of_le hd.2.2.1 h.size) (hD.ft_g hv (by omega) hq)]
      exact h.held j hji W (fun q hq => (hW1 q hq).trans (hns q hq)) hW2 (by have := hS.size; omega)
end

end Go.Proofs.YtcdfoephhjacdaaDoor

/-
  laws.markRelationS.
-/
namespace Go.Proofs.YtcdfoephhjacdaaDoor
open Go.RowKit

set_option maxHeartbeats 4000000 in
set_option maxRecDepth 1000000 in
theorem markRelationS_calls (w : World) (B g cap : Nat) (ds : List RelV) (vr vw : Nat → Value) (us : Nat → List Value) (lo hi : Nat → Nat) (k : Nat) (hD : DQ w B (.slice (some ⟨g, 0, none⟩) ds.length cap) ds vr vw us lo hi) (hF : FewD ds) (hk0 : 0 < k) (hk : k ≤ 1000) :
    Calls Tryd.prog 21 #[.slice (some ⟨g, 0, none⟩) ds.length cap, .int .i64 k] w fun e w' => e = .returned (.int .i64 ((k + relO ds ds.length : Nat) : Int)) ∧ MkD w w' B g ds vr vw us k ds.length := by
  have hgb := hD.own.lt g rfl
  have HG := hid hgb
  have HD := hid hD
  have HF := hid hF
  have HM0 : Hid (MkD w w B g ds vr vw us k 0) := hid (MkD.start hD rfl)
  have HLe : Hid (∀ j, j ≤ ds.length → relO ds j ≤ 600100) := hid fun j hj => by have := relO_le hF hj; have := hF.1; omega
  clear hD hgb
  obtain ⟨n, hn⟩ : ∃ n, n = ds.length := ⟨_, rfl⟩
  have HN := hid hn
  rw [← hn] at ⊢
  have hn50 : n ≤ 50 := by rw [hn]; exact hF.1
  clear hn hF
  go_enter Tryd.func21, Tryd.ntmps21
  go_wp2
  go_loopw [1, 5] (fun u t wr => ∃ j : Nat, j ≤ n ∧ t = .int .i64 j ∧ ∃ c : Nat, u = .int .i64 (c : Int) ∧ 0 < c ∧ c ≤ 700000 ∧ Hid (c = k + relO ds j ∧ MkD w wr B g ds vr vw us k j)) (fun _ t _ => n - (intOf t).toNat)
  case atStart => exact ⟨0, Nat.zero_le _, rfl, k, rfl, hk0, by omega, hid ⟨rfl, HM0.out⟩⟩
  case round =>
    obtain ⟨j, hj, rfl, c, rfl, hc0, hc1, hok⟩ := hrel
    by_cases hjn : j < n
    · have i1 : (j : Int) < (n : Int) := by omega
      have hjl : j < ds.length := by rw [← HN.out]; exact hjn
      have hM := hok.out.2
      have hce := hok.out.1
      have HM := hid hM
      have HCE := hid hce
      obtain ⟨⟨u0, c0⟩, u1, c1⟩ := hM.any j hjl
      obtain ⟨c2, c3⟩ := hM.row j hjl
      have f0 := hM.fz (j * 4)
      have f1 := hM.fz (j * 4 + 1)
      obtain ⟨a2, k2, e2⟩ := own_shapeR (HD.out.rq j hjl).own
      obtain ⟨a3, k3, e3⟩ := own_shapeR (HD.out.ow j hjl)
      have HE2 := hid e2
      have HE3 := hid e3
      rw [e2] at c2
      rw [e3] at c3
      have hFj := HF.out.2 j hjl
      have hle := HLe.out (j + 1) (by omega)
      have HLj : Hid (relO ds (j + 1) = relO ds j + 2 + lenR (ds.getD j noRel).rows (ds.getD j noRel).rows.length + (ds.getD j noRel).ws.length) := hid rfl
      rw [HLj.out] at hle
      have HSt : Hid (∀ w2, Below wr.heap.size wr w2 → Sto w wr ((w2.setCell ⟨g, j * 4, none⟩ (.string (mkT c))).setCell ⟨g, j * 4 + 1, none⟩ (.int .i64 ((c : Int) + 1))) B g ds vr vw us k j) := hid fun w2 hb => by
        have := HM.out.sto HG.out.1 HG.out.2 hjl hb
        rw [← HCE.out, show ((c + 1 : Nat) : Int) = (c : Int) + 1 from by omega] at this
        exact this
      have KR : Hid (∀ wA, Sto w wr wA B g ds vr vw us k j → ∀ x : Int, x = ((c + 2 : Nat) : Int) → Calls Tryd.prog 44 #[.slice a2 (ds.getD j noRel).rows.length k2, .int .i64 x] wA fun e wB => e = .returned (.int .i64 ((c + 2 + lenR (ds.getD j noRel).rows (ds.getD j noRel).rows.length : Nat) : Int)) ∧ MkR wA wB (lo j) (us j) (ds.getD j noRel).rows ((c + 2 : Nat) : Int) (ds.getD j noRel).rows.length ∧ wB.cell? ⟨g, j * 4 + 3, none⟩ = some (.slice a3 (ds.getD j noRel).ws.length k3)) := hid fun wA hS x hx => by
        subst hx
        have hl := hS.lists HM.out HD.out rfl hjl
        have := marksR wA (lo j) (vr j) (us j) (ds.getD j noRel).rows ((c + 2 : Nat) : Int) hl.1 (fun p q hpq hq => (HD.out.rq j hjl).ap p q hpq hq) (by omega) (by omega) (by omega) (by omega)
        rw [HE2.out] at this
        refine this.mono ?_
        rintro e wB ⟨rfl, hm⟩
        refine ⟨by congr 2, hm, ?_⟩
        rw [cell_of_eq (hm.far g fun m hm2 e => HD.out.ft_g rfl hjl (Or.inr ⟨m, hm2, e.symm⟩) rfl), ← HE3.out]
        exact (hS.row j hjl).2
      have KW : Hid (∀ wA wB, Sto w wr wA B g ds vr vw us k j → MkR wA wB (lo j) (us j) (ds.getD j noRel).rows ((c + 2 : Nat) : Int) (ds.getD j noRel).rows.length → Calls Tryd.prog 45 #[.slice a3 (ds.getD j noRel).ws.length k3, .int .i64 ((c + 2 + lenR (ds.getD j noRel).rows (ds.getD j noRel).rows.length : Nat) : Int)] wB fun e wC => e = .returned (.int .i64 ((c + 2 + lenR (ds.getD j noRel).rows (ds.getD j noRel).rows.length + (ds.getD j noRel).ws.length : Nat) : Int)) ∧ MkD w wC B g ds vr vw us k (j + 1)) := hid fun wA wB hS hR => by
        have hl := hS.lists HM.out HD.out rfl hjl
        have ho : wB.ownsRow (lo j) 3 1 (vw j) (ds.getD j noRel).ws.length ((ds.getD j noRel).ws.map (Value.int .i64)) := own_move hl.2 fun q hq => hR.far q fun m hm e => HD.out.ap j hjl m hm q e.symm hq
        have := mark_heldR wB (lo j) (vw j) (ds.getD j noRel).ws ((c + 2 + lenR (ds.getD j noRel).rows (ds.getD j noRel).rows.length : Nat) : Int) ho (by omega) (by omega) (by omega)
        rw [← HE3.out]
        refine this.mono ?_
        rintro e wC ⟨rfl, h1, h2, h3, h4⟩
        refine ⟨by congr 2, ?_⟩
        rw [HCE.out] at hR h4
        exact HM.out.step HF.out (by omega) hS HD.out rfl hjl hR h1 h2 h3 h4
      have KM : Hid (Calls Tryd.prog 43 #[.int .i64 c] wr fun e w' => e = .returned (.string (mkT c)) ∧ Below wr.heap.size wr w') := hid (markText_calls wr c hc0 (by omega))
      have HR : Hid (c + 2 + lenR (ds.getD j noRel).rows (ds.getD j noRel).rows.length + (ds.getD j noRel).ws.length = k + relO ds (j + 1)) := hid (by rw [HLj.out, hce]; omega)
      have hR2 : c + 2 + lenR (ds.getD j noRel).rows (ds.getD j noRel).rows.length + (ds.getD j noRel).ws.length ≤ 700000 := by omega
      have hR3 : 0 < c + 2 + lenR (ds.getD j noRel).rows (ds.getD j noRel).rows.length + (ds.getD j noRel).ws.length := by omega
      clear hM hce hok e2 e3 HLj hFj hle
      generalize lenR (ds.getD j noRel).rows (ds.getD j noRel).rows.length = L at *
      generalize c + 2 + L + (ds.getD j noRel).ws.length = X3 at *
      generalize c + 2 + L = X2 at *
      generalize (ds.getD j noRel).rows.length = R1 at *
      generalize (ds.getD j noRel).ws.length = M1 at *
      go_wp2_with (first
        | (go_at_call 43; refine KM.out.mono ?_; rintro e w2 ⟨rfl, hb2⟩; have HS2 := hid (HSt.out w2 hb2); have c0' := bclR hb2 c0; have c1' := bclR hb2 c1; have c2' := bclR hb2 c2; have f0' : w2.frozen? ⟨g, j * 4, none⟩ = false := (by rw [World.frozen?_of_block (hb2.block g (World.block_lt_of_cell? wr _ c0))]; exact f0); have f1' : w2.frozen? ⟨g, j * 4 + 1, none⟩ = false := (by rw [World.frozen?_of_block (hb2.block g (World.block_lt_of_cell? wr _ c0))]; exact f1); clear c0 c1 c2 f0 f1 hb2; generalize mkT c = s at *)
        | (go_at_call 44; refine (KR.out _ HS2.out _ (by omega)).mono ?_; rintro e wB ⟨rfl, hmB, d3⟩; have HMB := hid hmB; clear hmB)
        | (go_at_call 45; refine (KW.out _ _ HS2.out HMB.out).mono ?_; rintro e wC ⟨rfl, hmC⟩; have HMC := hid hmC; clear hmC)
        | fail)
      go_roundw
      case rel => exact ⟨j + 1, by omega, by go_num, _, rfl, hR3, hR2, hid ⟨HR.out, HMC.out⟩⟩
      case measure => simp [intOf]; omega
    · obtain rfl : j = n := by omega
      have i1 : ¬ ((j : Int) < (j : Int)) := by omega
      go_wp2
      go_ret
      exact ⟨ret_int (by rw [hok.out.1]; omega), hok.out.2⟩

end Go.Proofs.YtcdfoephhjacdaaDoor

/-
  laws.heldRelationS.
-/
namespace Go.Proofs.YtcdfoephhjacdaaDoor
open Go.RowKit

/-- the marks are found again in W -/
structure HdD (W : World) (g : Nat) (ds : List RelV) (vr vw : Nat → Value) (k : Nat) : Prop where
  row : ∀ j, j < ds.length → (∃ a m c, vr j = .slice a m c ∧ W.cell? ⟨g, j * 4 + 2, none⟩ = some (.slice a m c)) ∧ ∃ a m c, vw j = .slice a m c ∧ W.cell? ⟨g, j * 4 + 3, none⟩ = some (.slice a m c)
  done : ∀ j, j < ds.length → W.cell? ⟨g, j * 4, none⟩ = some (.string (mkT (k + relO ds j))) ∧ W.cell? ⟨g, j * 4 + 1, none⟩ = some (.int .i64 ((k + relO ds j + 1 : Nat) : Int))
  held : ∀ j, j < ds.length → ∀ W', Below W.heap.size W W' →
    (Calls Tryd.prog 46 #[vr j, .int .i64 ((k + relO ds j + 2 : Nat) : Int)] W' fun e w'' => e = .returned (.int .i64 ((k + relO ds j + 2 + lenR (ds.getD j noRel).rows (ds.getD j noRel).rows.length : Nat) : Int)) ∧ w'' = W') ∧
    Calls Tryd.prog 47 #[vw j, .int .i64 ((k + relO ds j + 2 + lenR (ds.getD j noRel).rows (ds.getD j noRel).rows.length : Nat) : Int)] W' fun e w'' => e = .returned (.int .i64 ((k + relO ds (j + 1) : Nat) : Int)) ∧ w'' = W'

theorem MkD.hd {w wr : World} {B g : Nat} {v : Value} {ds : List RelV} {vr vw : Nat → Value} {us : Nat → List Value} {lo hi : Nat → Nat} {k : Nat} (h : MkD w wr B g ds vr vw us k ds.length) (hD : DQ w B v ds vr vw us lo hi) (hv : v.ownBlock = some g) : HdD wr g ds vr vw k := by
  refine ⟨fun j hj => ?_, h.done, fun j hj W' hb => h.held j hj W' (fun q hq => hb.block q (Nat.lt_of_lt_of_le (hD.ft hj hq).2.2.1 h.size)) (fun q hq => ?_) hb.size⟩
  · obtain ⟨a2, k2, e2⟩ := own_shapeR (hD.rq j hj).own
    obtain ⟨a3, k3, e3⟩ := own_shapeR (hD.ow j hj)
    have := h.row j hj
    exact ⟨⟨a2, _, k2, e2, by rw [← e2]; exact this.1⟩, a3, _, k3, e3, by rw [← e3]; exact this.2⟩
  · obtain ⟨h1, h2, h3⟩ := hD.vr_far hv hj hq
    rw [hb.block q (Nat.lt_of_lt_of_le h1 h.size)]
    exact h.far q h1 h2 h3

set_option maxHeartbeats 4000000 in
set_option maxRecDepth 1000000 in
theorem heldRelationS_calls (W : World) (g cap : Nat) (ds : List RelV) (vr vw : Nat → Value) (k : Nat) (hH : HdD W g ds vr vw k) (hF : FewD ds) (hk0 : 0 < k) (hk : k ≤ 1000) :
    Calls Tryd.prog 22 #[.slice (some ⟨g, 0, none⟩) ds.length cap, .int .i64 k] W fun e w' => e = .returned (.int .i64 ((k + relO ds ds.length : Nat) : Int)) ∧ Below W.heap.size W w' := by
  have HH := hid hH
  have HF := hid hF
  have HLe : Hid (∀ j, j ≤ ds.length → relO ds j ≤ 600100) := hid fun j hj => by have := relO_le hF hj; have := hF.1; omega
  clear hH
  obtain ⟨n, hn⟩ : ∃ n, n = ds.length := ⟨_, rfl⟩
  have HN := hid hn
  rw [← hn] at ⊢
  have hn50 : n ≤ 50 := by rw [hn]; exact hF.1
  clear hn hF
  go_enter Tryd.func22, Tryd.ntmps22
  go_wp2
  go_loopw [1, 5] (fun u t wr => ∃ j : Nat, j ≤ n ∧ t = .int .i64 j ∧ ∃ c : Nat, u = .int .i64 (c : Int) ∧ 0 < c ∧ c ≤ 700000 ∧ Hid (c = k + relO ds j ∧ Below W.heap.size W wr)) (fun _ t _ => n - (intOf t).toNat)
  case atStart => exact ⟨0, Nat.zero_le _, rfl, k, rfl, hk0, by omega, hid ⟨rfl, Below.refl _ _⟩⟩
  case round =>
    obtain ⟨j, hj, rfl, c, rfl, hc0, hc1, hok⟩ := hrel
    by_cases hjn : j < n
    · have i1 : (j : Int) < (n : Int) := by omega
      have hjl : j < ds.length := by rw [← HN.out]; exact hjn
      have HBw := hid hok.out.2
      have hce := hok.out.1
      have HCE := hid hce
      obtain ⟨⟨a2, m2, k2, e2, c2⟩, a3, m3, k3, e3, c3⟩ := HH.out.row j hjl
      obtain ⟨c0, c1⟩ := HH.out.done j hjl
      have hhe := HH.out.held j hjl
      rw [e2, e3, ← hce] at hhe
      rw [← hce] at c0 c1
      rw [show ((c + 1 : Nat) : Int) = (c : Int) + 1 from by omega] at c1
      have HHE := hid hhe
      have hle := HLe.out (j + 1) (by omega)
      have HLj : Hid (relO ds (j + 1) = relO ds j + 2 + lenR (ds.getD j noRel).rows (ds.getD j noRel).rows.length + (ds.getD j noRel).ws.length) := hid rfl
      have hlj := HLj.out
      have HCL : Hid (∀ W', Below wr.heap.size wr W' → W'.cell? ⟨g, j * 4, none⟩ = some (.string (mkT c)) ∧ W'.cell? ⟨g, j * 4 + 1, none⟩ = some (.int .i64 ((c : Int) + 1)) ∧ W'.cell? ⟨g, j * 4 + 2, none⟩ = some (.slice a2 m2 k2) ∧ W'.cell? ⟨g, j * 4 + 3, none⟩ = some (.slice a3 m3 k3) ∧ Below wr.heap.size wr W') := hid fun W' hb => ⟨bclR (bt HBw.out hb) c0, bclR (bt HBw.out hb) c1, bclR (bt HBw.out hb) c2, bclR (bt HBw.out hb) c3, hb⟩
      have KM : Hid (∀ W', Calls Tryd.prog 43 #[.int .i64 c] W' fun e w' => e = .returned (.string (mkT c)) ∧ Below W'.heap.size W' w') := hid fun W' => markText_calls W' c hc0 (by omega)
      obtain ⟨X2, hX2⟩ : ∃ X2, X2 = c + 2 + lenR (ds.getD j noRel).rows (ds.getD j noRel).rows.length := ⟨_, rfl⟩
      obtain ⟨X3, hX3⟩ : ∃ X3, X3 = k + relO ds (j + 1) := ⟨_, rfl⟩
      have HX3 := hid hX3
      have KR : Hid (∀ W', Below wr.heap.size wr W' → ∀ x : Int, x = ((c + 2 : Nat) : Int) → Calls Tryd.prog 46 #[.slice a2 m2 k2, .int .i64 x] W' fun e w'' => e = .returned (.int .i64 (X2 : Int)) ∧ w'' = W') := hid fun W' hb x hx => by
        subst hx hX2
        exact (HHE.out W' (bt HBw.out hb)).1
      have KW : Hid (∀ W', Below wr.heap.size wr W' → Calls Tryd.prog 47 #[.slice a3 m3 k3, .int .i64 (X2 : Int)] W' fun e w'' => e = .returned (.int .i64 (X3 : Int)) ∧ w'' = W') := hid fun W' hb => by
        subst hX2 hX3
        exact (HHE.out W' (bt HBw.out hb)).2
      have g2 : ¬ ((X2 : Int) < 0) := by omega
      have g3 : ¬ ((X3 : Int) < 0) := by omega
      have r3 : 0 < X3 ∧ X3 ≤ 700000 := by omega
      have q1 : ((c : Int) + 1 != (c : Int) + 1) = false := by simp
      clear hce hok e2 e3 hhe hle hlj c0 c1 c2 c3 hX2 hX3
      generalize mkT c = s at *
      have hne : (!s.toList == s.toList) = false := by simp
      go_wp2_with fail
      first | go_region_held3 (fun W' => W'.cell? ⟨g, j * 4, none⟩ = some (.string s) ∧ W'.cell? ⟨g, j * 4 + 1, none⟩ = some (.int .i64 ((c : Int) + 1)) ∧ W'.cell? ⟨g, j * 4 + 2, none⟩ = some (.slice a2 m2 k2) ∧ W'.cell? ⟨g, j * 4 + 3, none⟩ = some (.slice a3 m3 k3) ∧ Below wr.heap.size wr W')
        (first | exact HCL.out _ (Below.refl _ _).drew | exact HCL.out _ (bt (Below.refl _ _).drew hb) | exact HCL.out _ (bt (by assumption) hb) | exact HCL.out _ (bt (And.right (And.right (And.right (And.right (by assumption))))) hb))
        (first | (go_at_call 43; refine (KM.out _).mono ?_; rintro e w' ⟨rfl, hb⟩))
      obtain ⟨x0, x1, x2, x3, hbw⟩ := HCL.out w' (bt (Below.refl _ _).drew hb)
      have HBW := hid (bt HBw.out hbw)
      go_wp2_with (first
        | (go_at_call 46; refine (KR.out _ hbw _ (by omega)).mono ?_; rintro e w5 ⟨rfl, h5⟩; subst w5)
        | (go_at_call 47; refine (KW.out _ hbw).mono ?_; rintro e w5 ⟨rfl, h5⟩; subst w5)
        | fail)
      go_roundw
      case rel => exact ⟨j + 1, by omega, by go_num, X3, rfl, r3.1, r3.2, hid ⟨HX3.out, HBW.out⟩⟩
      case measure => simp [intOf]; omega
    · obtain rfl : j = n := by omega
      have i1 : ¬ ((j : Int) < (j : Int)) := by omega
      go_wp2
      go_ret
      exact ⟨ret_int (by rw [hok.out.1]; omega), hok.out.2⟩

end Go.Proofs.YtcdfoephhjacdaaDoor
