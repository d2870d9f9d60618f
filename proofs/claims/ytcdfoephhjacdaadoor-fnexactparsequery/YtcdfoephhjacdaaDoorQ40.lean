import Derived.Deep.Cut
import Derived.Deep.OwnRows
import Derived.Test.YtcdfoephhjacdaaDoorQ02
import Derived.Test.YtcdfoephhjacdaaDoorQ04
import Derived.Test.YtcdfoephhjacdaaDoorQ39
/-
  Queries: laws.eqQuery, toQuery.
-/
namespace Go.Proofs.YtcdfoephhjacdaaDoor
open Go.RowKit

set_option maxHeartbeats 4000000 in
set_option maxRecDepth 1000000 in
theorem eqQuery_same (w : World) (vh va uh ua : Value) (q : QV) (h : IQ w vh va q) (h' : IQ w uh ua q) (hq : OkQ q) :
    Calls Tryd.prog 12 #[.agg #[.string q.name, vh, .int .i64 q.ring, va], .agg #[.string q.name, uh, .int .i64 q.ring, ua]] w fun e w' => e = .returned (.bool true) ∧ Below w.heap.size w w' := by
  have HB : Hid (Below w.heap.size w ((w.alloc (.cells #[.string q.name, vh, .int .i64 q.ring, va] 33)).alloc (.cells #[.string q.name, uh, .int .i64 q.ring, ua] 33))) := hid (((Below.refl _ _).alloc (Nat.le_refl _) _).alloc (by simp) _)
  have HI := hid h
  have HI' := hid h'
  have HQ := hid hq
  obtain ⟨a1, k1, e1, -⟩ := h.head
  obtain ⟨a2, k2, e2, -⟩ := h.atoms
  obtain ⟨b1, l1, e3, -⟩ := h'.head
  obtain ⟨b2, l2, e4, -⟩ := h'.atoms
  subst e1 e2 e3 e4
  clear h h' hq
  generalize hnm : q.name = s at *
  generalize hrg : q.ring = rg at *
  clear hnm hrg
  have q1 : (!s.toList == s.toList) = false := by simp
  have q2 : (rg != rg) = false := by simp
  go_enter Tryd.func12, Tryd.ntmps12
  go_upto_region 1 with fail
  obtain ⟨W1, hW1⟩ : ∃ W, W = (w.alloc (.cells #[.string s, .slice a1 q.head.length k1, .int .i64 rg, .slice a2 q.atoms.length k2] 33)).alloc (.cells #[.string s, .slice b1 q.head.length l1, .int .i64 rg, .slice b2 q.atoms.length l2] 33) := ⟨_, rfl⟩
  have c0 : W1.cell? ⟨w.heap.size, 0, none⟩ = some (.string s) := by rw [hW1, World.cell?_alloc_past _ _ _ (by simp), World.cell?_alloc_at _ _ _ _ rfl]; rfl
  have c1 : W1.cell? ⟨w.heap.size, 1, none⟩ = some (.slice a1 q.head.length k1) := by rw [hW1, World.cell?_alloc_past _ _ _ (by simp), World.cell?_alloc_at _ _ _ _ rfl]; rfl
  have c2 : W1.cell? ⟨w.heap.size, 2, none⟩ = some (.int .i64 rg) := by rw [hW1, World.cell?_alloc_past _ _ _ (by simp), World.cell?_alloc_at _ _ _ _ rfl]; rfl
  have c3 : W1.cell? ⟨w.heap.size, 3, none⟩ = some (.slice a2 q.atoms.length k2) := by rw [hW1, World.cell?_alloc_past _ _ _ (by simp), World.cell?_alloc_at _ _ _ _ rfl]; rfl
  have d0 : W1.cell? ⟨w.heap.size + 1, 0, none⟩ = some (.string s) := by rw [hW1, World.cell?_alloc_at _ _ _ _ (by simp)]; rfl
  have d1 : W1.cell? ⟨w.heap.size + 1, 1, none⟩ = some (.slice b1 q.head.length l1) := by rw [hW1, World.cell?_alloc_at _ _ _ _ (by simp)]; rfl
  have d2 : W1.cell? ⟨w.heap.size + 1, 2, none⟩ = some (.int .i64 rg) := by rw [hW1, World.cell?_alloc_at _ _ _ _ (by simp)]; rfl
  have d3 : W1.cell? ⟨w.heap.size + 1, 3, none⟩ = some (.slice b2 q.atoms.length l2) := by rw [hW1, World.cell?_alloc_at _ _ _ _ (by simp)]; rfl
  rw [← hW1] at HB ⊢
  clear hW1
  go_wp2_with fail
  refine (eqStringS_quiet W1 _ _ q.head (HI.out.head.below HB.out) (HI'.out.head.below HB.out) (by have := HQ.out.len; omega)).mono ?_
  rintro e w1 ⟨rfl, m1, hw1⟩
  subst w1
  have e2 : (W1.drewN m1).cell? ⟨w.heap.size, 2, none⟩ = some (.int .i64 rg) := c2
  have e3 : (W1.drewN m1).cell? ⟨w.heap.size, 3, none⟩ = some (.slice a2 q.atoms.length k2) := c3
  have f2 : (W1.drewN m1).cell? ⟨w.heap.size + 1, 2, none⟩ = some (.int .i64 rg) := d2
  have f3 : (W1.drewN m1).cell? ⟨w.heap.size + 1, 3, none⟩ = some (.slice b2 q.atoms.length l2) := d3
  have HB2 : Hid (Below w.heap.size w (W1.drewN m1)) := hid (below_drewN HB.out _)
  clear c0 c1 c2 c3 d0 d1 d2 d3
  generalize W1.drewN m1 = W2 at *
  go_wp2_with fail
  refine (eqAtomS_same W2 _ _ q.atoms (HI.out.atoms.below HB2.out) (HI'.out.atoms.below HB2.out) (by have := HQ.out.alen; omega) (fun j hj => by have := (HQ.out.atoms j hj).len; omega)).mono ?_
  rintro e w3 ⟨rfl, hb3⟩
  have HB3 := hid (bt HB2.out hb3)
  go_wp2
  go_ret
  exact ⟨rfl, HB3.out⟩

/-- a copy of a query: heads in block gh, atoms in ga and behind; all in blocks from lo on -/
structure OwnQ (W : World) (lo gh ga : Nat) (q : QV) : Prop where
  head : OwnSt W gh q.head
  atoms : OwnAt W ga q.atoms
  lh : lo ≤ gh
  la : gh < ga

theorem OwnQ.below {W W' : World} {lo gh ga : Nat} {q : QV} (h : OwnQ W lo gh ga q) (hb : Below W.heap.size W W') : OwnQ W' lo gh ga q := ⟨h.head.below hb, h.atoms.below hb, h.lh, h.la⟩
theorem OwnQ.is {W : World} {lo gh ga : Nat} {q : QV} (h : OwnQ W lo gh ga q) : IQ W (.slice (some ⟨gh, 0, none⟩) q.head.length q.head.length) (.slice (some ⟨ga, 0, none⟩) q.atoms.length q.atoms.length) q := ⟨h.head.is, h.atoms.is⟩

end Go.Proofs.YtcdfoephhjacdaaDoor

/-
  laws.toQuery.
-/
namespace Go.Proofs.YtcdfoephhjacdaaDoor
open Go.RowKit

end Go.Proofs.YtcdfoephhjacdaaDoor

/-
  The variables of a query in the order of their first places: spec.l3Place, l3Vars.
-/
namespace Go.Proofs.YtcdfoephhjacdaaDoor
open Go.RowKit

def hasT (L : List ByteArray) (s : ByteArray) : Bool := L.any fun x => x.toList == s.toList
def addV (L : List ByteArray) (t : TermV) : List ByteArray := if t.1.toList.isEmpty || hasT L t.1 then L else L ++ [t.1]
/-- after i atoms -/
def VL (ats : List AtomV) (i : Nat) : List ByteArray := (ats.take i).foldl (fun L a => a.2.foldl addV L) []
/-- after i atoms and p terms of the next -/
def VT (ats : List AtomV) (i p : Nat) : List ByteArray := ((ats.getD i noAt).2.take p).foldl addV (VL ats i)

theorem VL_zero (ats : List AtomV) : VL ats 0 = [] := rfl
theorem VT_zero (ats : List AtomV) (i : Nat) : VT ats i 0 = VL ats i := rfl
theorem take_succ_getD {α : Type} (l : List α) (d : α) {i : Nat} (h : i < l.length) : l.take (i + 1) = l.take i ++ [l.getD i d] := by
  rw [List.take_add_one, List.getElem?_eq_getElem h]
  simp [List.getD_eq_getElem?_getD, h]
theorem VL_succ (ats : List AtomV) {i : Nat} (h : i < ats.length) : VL ats (i + 1) = VT ats i (ats.getD i noAt).2.length := by
  unfold VL VT
  rw [take_succ_getD ats noAt h, List.foldl_append, List.take_length]
  rfl
theorem VT_succ (ats : List AtomV) (i : Nat) {p : Nat} (h : p < (ats.getD i noAt).2.length) : VT ats i (p + 1) = addV (VT ats i p) ((ats.getD i noAt).2.getD p noTm) := by
  unfold VT
  rw [take_succ_getD _ noTm h, List.foldl_append]
  rfl
theorem addV_len (L : List ByteArray) (t : TermV) : (addV L t).length ≤ L.length + 1 := by
  unfold addV
  split
  · omega
  · simp
theorem VT_len (ats : List AtomV) (i p : Nat) : (VT ats i p).length ≤ (VL ats i).length + p := by
  induction p with
  | zero => rw [VT_zero]; omega
  | succ p ih =>
    by_cases h : p < (ats.getD i noAt).2.length
    · rw [VT_succ ats i h]
      have := addV_len (VT ats i p) ((ats.getD i noAt).2.getD p noTm)
      omega
    · have : VT ats i (p + 1) = VT ats i p := by
        unfold VT
        rw [List.take_of_length_le (by omega), List.take_of_length_le (by omega)]
      rw [this]; omega
theorem VL_len (ats : List AtomV) (hk : ∀ j, j < ats.length → (ats.getD j noAt).2.length ≤ 1048576) (i : Nat) (hi : i ≤ ats.length) : (VL ats i).length ≤ i * 1048576 := by
  induction i with
  | zero => rw [VL_zero]; simp
  | succ i ih =>
    rw [VL_succ ats (by omega)]
    have h1 := VT_len ats i (ats.getD i noAt).2.length
    have h2 := hk i (by omega)
    have h3 := ih (by omega)
    omega

end Go.Proofs.YtcdfoephhjacdaaDoor

/-
  spec.l3Vars.
-/
namespace Go.Proofs.YtcdfoephhjacdaaDoor
open Go.RowKit

theorem Tryd.infoSt : (Tryd.prog.info? 9).map (fun i => (i.zero, i.size, i.bytes)) = some (some (.string ⟨#[]⟩), 1, 16) := by kernel_rfl

theorem own_st {w : World} {B : Nat} {v : Value} {L : List ByteArray} (h : w.ownsRow B 9 1 v L.length (L.map Value.string)) : ISt w v L := by
  rcases h.2 with ⟨rfl, h4⟩ | ⟨g, cp, cur, rfl, hb, hc, hr⟩
  · exact ⟨none, 0, by rw [h4], Or.inl h4⟩
  · refine ⟨_, cp, rfl, Or.inr ⟨g, 0, rfl, fun j hj => ?_⟩⟩
    have := h.cellAt j (by omega)
    rw [Nat.zero_add, this, List.getElem?_map, List.getElem?_eq_getElem hj]
    simp [List.getD_eq_getElem?_getD, hj]

theorem bcl' {w w' : World} {a : Addr} {v : Value} (hb : Below w.heap.size w w') (h : w.cell? a = some v) : w'.cell? a = some v :=
  (hb.cell (World.block_lt_of_cell? w _ h)).trans h

end Go.Proofs.YtcdfoephhjacdaaDoor
