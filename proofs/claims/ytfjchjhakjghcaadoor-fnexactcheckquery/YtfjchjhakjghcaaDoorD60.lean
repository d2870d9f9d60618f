import Derived.Test.YtfjchjhakjghcaaDoorD57
import Derived.Test.YtfjchjhakjghcaaDoorD59
/-
  impl.CheckQuery.
-/
namespace Go.Proofs.YtfjchjhakjghcaaDoor
open Go.RowKit

/-- package errors' own variable, as its text lays it -/
def ErrT (w : World) : Prop := w.cell? ⟨1, 0, none⟩ = some (.iface 148 (.agg #[.pointer (some ⟨6, 89, none⟩)]))
theorem ErrT.below {w w' : World} (h : ErrT w) (hb : Below w.heap.size w w') : ErrT w' := bcl' hb h

theorem GotE.cells {w w' : World} {B : Nat} {c p : Int} {o0 o1 : Value} (h : GotE w B c p w') (h0 : w.cell? ⟨B, 0, none⟩ = some o0) (h1 : w.cell? ⟨B, 1, none⟩ = some o1) : w'.cell? ⟨B, 0, none⟩ = some (.int .i64 c) ∧ w'.cell? ⟨B, 1, none⟩ = some (.int .i64 p) := by
  obtain ⟨w1, hb, rfl⟩ := h
  have g0 := bcl' hb h0
  have g1 := bcl' hb h1
  have n1 : (w1.setCell ⟨B, 0, none⟩ (.int .i64 c)).cell? ⟨B, 1, none⟩ = some o1 := (World.cell?_setCell_other _ _ _ _ (by simp)).trans g1
  exact ⟨(World.cell?_setCell_other _ _ _ _ (by simp)).trans (World.cell?_setCell_same _ _ _ g0), World.cell?_setCell_same _ _ _ n1⟩
theorem GotE.bel {w0 w w' : World} {B : Nat} {c p : Int} (h : GotE w B c p w') (hb0 : Below w0.heap.size w0 w) (hB : w0.heap.size ≤ B) : Below w0.heap.size w0 w' := by
  obtain ⟨w1, hb, rfl⟩ := h
  exact ((bt hb0 hb).setCell hB _).setCell hB _

set_option maxHeartbeats 8000000 in
set_option maxRecDepth 1000000 in
theorem checkQuery_calls (w : World) (v vh va : Value) (ds : List RelV) (q : QV) (h : IRelS w v ds) (hr : OkRels ds) (hi : IQ w vh va q) (hq : OkQ q) (hcap : ∀ a n cap, vh = .slice a n cap → n ≤ cap) (hE : ErrT w) :
    Calls Tryd.prog 17 #[.agg #[v], .agg #[.string q.name, vh, .int .i64 q.ring, va]] w fun e w' => e = .returned (.tuple #[.int .i64 (checkP ds q).1, .int .i64 (checkP ds q).2]) ∧ Below w.heap.size w w' := by
  have h' := h
  obtain ⟨a3, k3, e3, -⟩ := h'
  obtain ⟨a1, k1, e1, -⟩ := hi.head
  obtain ⟨a2, k2, e2, -⟩ := hi.atoms
  subst e1 e2 e3
  obtain ⟨W1, hW1⟩ : ∃ W, W = w.alloc (.cells #[.slice a3 ds.length k3] 29) := ⟨_, rfl⟩
  obtain ⟨W2, hW2⟩ : ∃ W, W = W1.alloc (.cells #[.string q.name, .slice a1 q.head.length k1, .int .i64 q.ring, .slice a2 q.atoms.length k2] 41) := ⟨_, rfl⟩
  obtain ⟨W3, hW3⟩ : ∃ W, W = W2.alloc (.cells #[.int .i64 0, .int .i64 0] 86) := ⟨_, rfl⟩
  have b1 : Below w.heap.size w W1 := by rw [hW1]; exact (Below.refl _ _).alloc (Nat.le_refl _) _
  have b2 : Below W1.heap.size W1 W2 := by rw [hW2]; exact (Below.refl _ _).alloc (Nat.le_refl _) _
  have b3 : Below W2.heap.size W2 W3 := by rw [hW3]; exact (Below.refl _ _).alloc (Nat.le_refl _) _
  have HB := hid (bt b1 (bt b2 b3))
  have s1 : W1.heap.size = w.heap.size + 1 := by rw [hW1]; simp
  have s2 : W2.heap.size = w.heap.size + 1 + 1 := by rw [hW2, hW1]; simp
  have d0 : W3.cell? ⟨w.heap.size, 0, none⟩ = some (.slice a3 ds.length k3) := bcl' (bt b2 b3) (by rw [hW1, World.cell?_alloc_at _ _ _ _ rfl]; rfl)
  have q0 : W3.cell? ⟨w.heap.size + 1, 0, none⟩ = some (.string q.name) := bcl' b3 (by rw [hW2, World.cell?_alloc_at _ _ _ _ s1.symm]; rfl)
  have q1 : W3.cell? ⟨w.heap.size + 1, 1, none⟩ = some (.slice a1 q.head.length k1) := bcl' b3 (by rw [hW2, World.cell?_alloc_at _ _ _ _ s1.symm]; rfl)
  have q2 : W3.cell? ⟨w.heap.size + 1, 2, none⟩ = some (.int .i64 q.ring) := bcl' b3 (by rw [hW2, World.cell?_alloc_at _ _ _ _ s1.symm]; rfl)
  have q3 : W3.cell? ⟨w.heap.size + 1, 3, none⟩ = some (.slice a2 q.atoms.length k2) := bcl' b3 (by rw [hW2, World.cell?_alloc_at _ _ _ _ s1.symm]; rfl)
  have f0 : W3.cell? ⟨w.heap.size + 1 + 1, 0, none⟩ = some (.int .i64 0) := by rw [hW3, World.cell?_alloc_at _ _ _ _ s2.symm]; rfl
  have f1 : W3.cell? ⟨w.heap.size + 1 + 1, 1, none⟩ = some (.int .i64 0) := by rw [hW3, World.cell?_alloc_at _ _ _ _ s2.symm]; rfl
  have r0 : W3.frozen? ⟨w.heap.size + 1 + 1, 0, none⟩ = false := by rw [hW3]; exact World.frozen?_alloc_at _ _ _ _ s2.symm
  have r1 : W3.frozen? ⟨w.heap.size + 1 + 1, 1, none⟩ = false := by rw [hW3]; exact World.frozen?_alloc_at _ _ _ _ s2.symm
  have KC := hid (check_calls W3 _ _ _ ds q (h.below HB.out) hr (hi.below HB.out) hq hcap)
  have HE := hid (hE.below HB.out)
  have HF0 := hid f0
  have HF1 := hid f1
  have HR0 := hid r0
  have HR1 := hid r1
  have HW : Hid (W3 = ((w.alloc (.cells #[.slice a3 ds.length k3] 29)).alloc (.cells #[.string q.name, .slice a1 q.head.length k1, .int .i64 q.ring, .slice a2 q.atoms.length k2] 41)).alloc (.cells #[.int .i64 0, .int .i64 0] 86)) := hid (by rw [hW3, hW2, hW1])
  clear h hr hi hq hE b1 b2 b3 s1 s2 f0 f1 r0 r1 hW1 hW2 hW3
  generalize (checkP ds q).1 = cc at *
  generalize (checkP ds q).2 = pp at *
  go_enter Tryd.func17, Tryd.ntmps17
  go_upto_region 2 with fail
  rw [← HW.out]
  clear HW
  go_wp2_with fail
  refine KC.out.mono ?_
  rintro e w1 ⟨x, rfl, hx, hb1⟩
  have HB1 := hid hb1
  have HE1 := hid (HE.out.below hb1)
  have g0 := bcl' hb1 HF0.out
  have g1 := bcl' hb1 HF1.out
  have k0 : w1.frozen? ⟨w.heap.size + 1 + 1, 0, none⟩ = false := (World.frozen?_of_block (w := W3) (a := ⟨w.heap.size + 1 + 1, 0, none⟩) (hb1.block _ (World.block_lt_of_cell? W3 _ HF0.out))).trans HR0.out
  have k1' : w1.frozen? ⟨w.heap.size + 1 + 1, 1, none⟩ = false := (World.frozen?_of_block (w := W3) (a := ⟨w.heap.size + 1 + 1, 1, none⟩) (hb1.block _ (World.block_lt_of_cell? W3 _ HF1.out))).trans HR1.out
  have HBA := hid (bt HB.out hb1)
  clear hb1 KC d0 q0 q1 q2 q3
  rcases hx with ⟨hc, hp, hx⟩ | ⟨hc, hx | ⟨t, hx⟩⟩
  · subst hx
    subst hc
    subst hp
    go_wp2_with (first | (go_at_call 44; refine (as_nil _ _).mono ?_; rintro e w2 ⟨rfl, hw2⟩; subst w2) | fail)
    go_ret2
    exact ⟨rfl, HBA.out⟩
  · subst hx
    have KA := hid (as_fault cc pp (w.heap.size + 1 + 1) _ _ w1 HE1.out g0 g1 k0 k1')
    unfold faultV
    go_wp2_with fail
    refine KA.out.mono ?_
    rintro e w2 ⟨rfl, hgot⟩
    obtain ⟨c0, c1⟩ := hgot.cells g0 g1
    have HB2 := hid (hgot.bel HBA.out (by omega))
    clear hgot KA g0 g1 k0 k1'
    go_wp2_with fail
    go_quiet (fail)
    go_wp2_with fail
    go_ret2
    exact ⟨rfl, below_drewN HB2.out _⟩
  · subst hx
    have KA := hid (as_within t cc pp (w.heap.size + 1 + 1) _ _ w1 HE1.out g0 g1 k0 k1')
    unfold withinV faultV
    go_wp2_with fail
    refine KA.out.mono ?_
    rintro e w2 ⟨rfl, hgot⟩
    obtain ⟨c0, c1⟩ := hgot.cells g0 g1
    have HB2 := hid (hgot.bel HBA.out (by omega))
    clear hgot KA g0 g1 k0 k1'
    go_wp2_with fail
    go_quiet (fail)
    go_wp2_with fail
    go_ret2
    exact ⟨rfl, below_drewN HB2.out _⟩

end Go.Proofs.YtfjchjhakjghcaaDoor
