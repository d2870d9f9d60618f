import Derived.Test.YtpdloenmplafiaaShape3
/-
  spec.Variables.
-/
namespace Go.Proofs.Ytpdloenmplafiaa
open Go.RowKit

/-- the answer -/
def varsQ (q : QV) : List ByteArray := if shapeB q then VL q.atoms q.atoms.length else []

set_option maxHeartbeats 4000000 in
set_option maxRecDepth 1000000 in
theorem sVariables_calls (w : World) (vh va : Value) (q : QV) (h : IQ w vh va q) (hq : OkQ q) :
    Calls Try.prog 35 #[.agg #[.string q.name, vh, .int .i64 q.ring, va]] w fun e w' => ∃ v, e = .returned v ∧ ISt w' v (varsQ q) ∧ Below w.heap.size w w' := by
  have HI := hid h
  obtain ⟨a1, k1, e1, -⟩ := h.head
  obtain ⟨a2, k2, e2, -⟩ := h.atoms
  subst e1 e2
  obtain ⟨W1, hW1⟩ : ∃ W, W = w.alloc (.cells #[.string q.name, .slice a1 q.head.length k1, .int .i64 q.ring, .slice a2 q.atoms.length k2] 69) := ⟨_, rfl⟩
  have c0 : W1.cell? ⟨w.heap.size, 0, none⟩ = some (.string q.name) := by rw [hW1, World.cell?_alloc_at _ _ _ _ rfl]; rfl
  have c1 : W1.cell? ⟨w.heap.size, 1, none⟩ = some (.slice a1 q.head.length k1) := by rw [hW1, World.cell?_alloc_at _ _ _ _ rfl]; rfl
  have c2 : W1.cell? ⟨w.heap.size, 2, none⟩ = some (.int .i64 q.ring) := by rw [hW1, World.cell?_alloc_at _ _ _ _ rfl]; rfl
  have c3 : W1.cell? ⟨w.heap.size, 3, none⟩ = some (.slice a2 q.atoms.length k2) := by rw [hW1, World.cell?_alloc_at _ _ _ _ rfl]; rfl
  have HB1 : Hid (Below w.heap.size w W1) := hid (by rw [hW1]; exact (Below.refl _ _).alloc (Nat.le_refl _) _)
  have KS := hid (l3ShapeOK_calls W1 _ _ q (HI.out.below HB1.out) hq)
  have KV : Hid (∀ W, Below w.heap.size w W → Calls Try.prog 87 #[.agg #[.string q.name, .slice a1 q.head.length k1, .int .i64 q.ring, .slice a2 q.atoms.length k2]] W fun e w' => ∃ v, e = .returned v ∧ w'.ownsRow W.heap.size 9 1 v (VL q.atoms q.atoms.length).length ((VL q.atoms q.atoms.length).map Value.string) ∧ Below W.heap.size W w') := hid (fun W hb => l3Vars_calls W _ _ q (HI.out.below hb) hq)
  unfold varsQ
  clear h hq HI
  generalize VL q.atoms q.atoms.length = VV at *
  generalize shapeB q = SB at *
  generalize q.name = nm at *
  generalize q.ring = rg at *
  generalize q.head.length = hn at *
  generalize q.atoms.length = an at *
  go_enter Try.func35, Try.ntmps35
  go_upto_region 1 with fail
  rw [← hW1]
  clear hW1
  go_wp2_with fail
  refine KS.out.mono ?_
  rintro e w2 ⟨rfl, hb2⟩
  have d0 := bcl' hb2 c0
  have d1 := bcl' hb2 c1
  have d2 := bcl' hb2 c2
  have d3 := bcl' hb2 c3
  have HB2 := hid (bt HB1.out hb2)
  clear c0 c1 c2 c3 hb2 KS
  cases SB
  · go_wp2
    go_ret
    exact ⟨_, rfl, ⟨_, _, rfl, Or.inl rfl⟩, HB2.out.alloc HB2.out.size _⟩
  · go_wp2_with fail
    refine (KV.out w2 HB2.out).mono ?_
    rintro e w3 ⟨v, rfl, ho, hb3⟩
    have HO := hid (own_st ho)
    have HB3 := hid (bt HB2.out hb3)
    clear ho hb3
    go_wp2
    go_ret
    exact ⟨_, rfl, HO.out, HB3.out⟩

end Go.Proofs.Ytpdloenmplafiaa
