import Derived.Test.YtpdloenmplafiaaAtoms3
/-
  Queries: laws.eqQuery, toQuery.
-/
namespace Go.Proofs.Ytpdloenmplafiaa
open Go.RowKit

set_option maxHeartbeats 4000000 in
set_option maxRecDepth 1000000 in
theorem eqQuery_same (w : World) (vh va uh ua : Value) (q : QV) (h : IQ w vh va q) (h' : IQ w uh ua q) (hq : OkQ q) :
    Calls Try.prog 39 #[.agg #[.string q.name, vh, .int .i64 q.ring, va], .agg #[.string q.name, uh, .int .i64 q.ring, ua]] w fun e w' => e = .returned (.bool true) ∧ Below w.heap.size w w' := by
  have HB : Hid (Below w.heap.size w ((w.alloc (.cells #[.string q.name, vh, .int .i64 q.ring, va] 69)).alloc (.cells #[.string q.name, uh, .int .i64 q.ring, ua] 69))) := hid (((Below.refl _ _).alloc (Nat.le_refl _) _).alloc (by simp) _)
  have HI := hid h
  have HI' := hid h'
  have HQ := hid hq
  obtain ⟨a1, k1, e1, -⟩ := h.head
  obtain ⟨a2, k2, e2, -⟩ := h.atoms
  obtain ⟨b1, l1, e3, -⟩ := h'.head
  obtain ⟨b2, l2, e4, -⟩ := h'.atoms
  subst e1 e2 e3 e4
  clear h h' hq
  generalize hnm : q.name = s at *
  generalize hrg : q.ring = rg at *
  clear hnm hrg
  have q1 : (!s.toList == s.toList) = false := by simp
  have q2 : (rg != rg) = false := by simp
  go_enter Try.func39, Try.ntmps39
  go_upto_region 1 with fail
  obtain ⟨W1, hW1⟩ : ∃ W, W = (w.alloc (.cells #[.string s, .slice a1 q.head.length k1, .int .i64 rg, .slice a2 q.atoms.length k2] 69)).alloc (.cells #[.string s, .slice b1 q.head.length l1, .int .i64 rg, .slice b2 q.atoms.length l2] 69) := ⟨_, rfl⟩
  have c0 : W1.cell? ⟨w.heap.size, 0, none⟩ = some (.string s) := by rw [hW1, World.cell?_alloc_past _ _ _ (by simp), World.cell?_alloc_at _ _ _ _ rfl]; rfl
  have c1 : W1.cell? ⟨w.heap.size, 1, none⟩ = some (.slice a1 q.head.length k1) := by rw [hW1, World.cell?_alloc_past _ _ _ (by simp), World.cell?_alloc_at _ _ _ _ rfl]; rfl
  have c2 : W1.cell? ⟨w.heap.size, 2, none⟩ = some (.int .i64 rg) := by rw [hW1, World.cell?_alloc_past _ _ _ (by simp), World.cell?_alloc_at _ _ _ _ rfl]; rfl
  have c3 : W1.cell? ⟨w.heap.size, 3, none⟩ = some (.slice a2 q.atoms.length k2) := by rw [hW1, World.cell?_alloc_past _ _ _ (by simp), World.cell?_alloc_at _ _ _ _ rfl]; rfl
  have d0 : W1.cell? ⟨w.heap.size + 1, 0, none⟩ = some (.string s) := by rw [hW1, World.cell?_alloc_at _ _ _ _ (by simp)]; rfl
  have d1 : W1.cell? ⟨w.heap.size + 1, 1, none⟩ = some (.slice b1 q.head.length l1) := by rw [hW1, World.cell?_alloc_at _ _ _ _ (by simp)]; rfl
  have d2 : W1.cell? ⟨w.heap.size + 1, 2, none⟩ = some (.int .i64 rg) := by rw [hW1, World.cell?_alloc_at _ _ _ _ (by simp)]; rfl
  have d3 : W1.cell? ⟨w.heap.size + 1, 3, none⟩ = some (.slice b2 q.atoms.length l2) := by rw [hW1, World.cell?_alloc_at _ _ _ _ (by simp)]; rfl
  rw [← hW1] at HB ⊢
  clear hW1
  go_wp2_with fail
  refine (eqStringS_quiet W1 _ _ q.head (HI.out.head.below HB.out) (HI'.out.head.below HB.out) (by have := HQ.out.len; omega)).mono ?_
  rintro e w1 ⟨rfl, m1, hw1⟩
  subst w1
  have e2 : (W1.drewN m1).cell? ⟨w.heap.size, 2, none⟩ = some (.int .i64 rg) := c2
  have e3 : (W1.drewN m1).cell? ⟨w.heap.size, 3, none⟩ = some (.slice a2 q.atoms.length k2) := c3
  have f2 : (W1.drewN m1).cell? ⟨w.heap.size + 1, 2, none⟩ = some (.int .i64 rg) := d2
  have f3 : (W1.drewN m1).cell? ⟨w.heap.size + 1, 3, none⟩ = some (.slice b2 q.atoms.length l2) := d3
  have HB2 : Hid (Below w.heap.size w (W1.drewN m1)) := hid (below_drewN HB.out _)
  clear c0 c1 c2 c3 d0 d1 d2 d3
  generalize W1.drewN m1 = W2 at *
  go_wp2_with fail
  refine (eqAtomS_same W2 _ _ q.atoms (HI.out.atoms.below HB2.out) (HI'.out.atoms.below HB2.out) (by have := HQ.out.alen; omega) (fun j hj => by have := (HQ.out.atoms j hj).len; omega)).mono ?_
  rintro e w3 ⟨rfl, hb3⟩
  have HB3 := hid (bt HB2.out hb3)
  go_wp2
  go_ret
  exact ⟨rfl, HB3.out⟩

/-- a copy of a query: heads in block gh, atoms in ga and behind; all in blocks from lo on -/
structure OwnQ (W : World) (lo gh ga : Nat) (q : QV) : Prop where
  head : OwnSt W gh q.head
  atoms : OwnAt W ga q.atoms
  lh : lo ≤ gh
  la : gh < ga

theorem OwnQ.below {W W' : World} {lo gh ga : Nat} {q : QV} (h : OwnQ W lo gh ga q) (hb : Below W.heap.size W W') : OwnQ W' lo gh ga q := ⟨h.head.below hb, h.atoms.below hb, h.lh, h.la⟩
theorem OwnQ.is {W : World} {lo gh ga : Nat} {q : QV} (h : OwnQ W lo gh ga q) : IQ W (.slice (some ⟨gh, 0, none⟩) q.head.length q.head.length) (.slice (some ⟨ga, 0, none⟩) q.atoms.length q.atoms.length) q := ⟨h.head.is, h.atoms.is⟩

end Go.Proofs.Ytpdloenmplafiaa
