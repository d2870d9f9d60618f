import Derived.Test.YtpdloenmplafiaaQueryTo
import Derived.Test.YtpdloenmplafiaaBoxes4
/-
  laws.toQuery.
-/
namespace Go.Proofs.Ytpdloenmplafiaa
open Go.RowKit

set_option maxHeartbeats 8000000 in
set_option maxRecDepth 1000000 in
theorem toQuery_calls (w : World) (v1 v2 : Value) (q : QV) (h : IQ w v1 v2 q) (hq : OkQ q) :
    Calls Try.prog 36 #[.agg #[.string q.name, v1, .int .i64 q.ring, v2]] w fun e w' => ∃ gh ga, e = .returned (.agg #[.string q.name, .slice (some ⟨gh, 0, none⟩) q.head.length q.head.length, .int .i64 q.ring, .slice (some ⟨ga, 0, none⟩) q.atoms.length q.atoms.length]) ∧ OwnQ w' w.heap.size gh ga q ∧ Below w.heap.size w w' := by
  have H1 := hid h.head
  have H2 := hid h.atoms
  have HQ := hid hq
  obtain ⟨a1, k1, e1, -⟩ := h.head
  obtain ⟨a2, k2, e2, -⟩ := h.atoms
  subst e1 e2
  clear h hq
  have HT0 := hid (TB4.start w 64 69 69 (.string q.name) (.slice a1 q.head.length k1) (.int .i64 q.ring) (.slice a2 q.atoms.length k2) (.string ⟨#[]⟩) (.slice none 0 0) (.int .i64 0) (.slice none 0 0) (.string q.name) (.slice none 0 0) (.int .i64 0) (.slice none 0 0))
  have K1 := hid (toStringS_calls _ _ q.head (H1.out.below HT0.out.below) HQ.out.len)
  have KA : Hid (∀ W, Below w.heap.size w W → Calls Try.prog 89 #[.slice a2 q.atoms.length k2] W fun e w' => e = .returned (.slice (some ⟨W.heap.size, 0, none⟩) q.atoms.length q.atoms.length) ∧ OwnAt w' W.heap.size q.atoms ∧ Below W.heap.size W w') := hid (fun W hb => toAtomS_calls W _ q.atoms (H2.out.below hb) HQ.out.alen (fun j hj => (HQ.out.atoms j hj).len))
  have HFIN : Hid (∀ W gh ga, OwnSt W gh q.head → OwnAt W ga q.atoms → w.heap.size ≤ gh → gh < ga → OwnQ W w.heap.size gh ga q) := hid (fun W gh ga h1 h2 h3 h4 => ⟨h1, h2, h3, h4⟩)
  generalize hnm : q.name = nm at *
  generalize hrg : q.ring = rg at *
  clear H1 H2 HQ hnm hrg
  generalize q.head = hd at *
  generalize q.atoms = at' at *
  go_enter Try.func36, Try.ntmps36
  go_wp2_with fail
  refine K1.out.mono ?_
  rintro e w2 ⟨rfl, ho1, hb0⟩
  have HT1 := hid (HT0.out.step hb0)
  have y1 := HT1.out.a2
  have y2 := HT1.out.a3
  have y3 := HT1.out.o1
  have y4 := HT1.out.fo1
  have y5 := HT1.out.o2
  have y6 := HT1.out.fo2
  have HO1 : Hid (OwnSt w2 (w.heap.size + 1 + 1 + 1) hd) := hid (by simpa using ho1)
  clear ho1 hb0 K1 HT0
  go_wp2_with fail
  have HT2 := hid ((HT1.out.set1 (.slice (some ⟨w.heap.size + 1 + 1 + 1, 0, none⟩) hd.length hd.length)).set2 (.int .i64 rg))
  have HO2 := hid ((HO1.out.move (w' := w2.setCell ⟨w.heap.size + 1 + 1, 1, none⟩ (.slice (some ⟨w.heap.size + 1 + 1 + 1, 0, none⟩) hd.length hd.length)) (heap_set_ne (by omega)) (by simp [World.setCell])).move (w' := (w2.setCell ⟨w.heap.size + 1 + 1, 1, none⟩ (.slice (some ⟨w.heap.size + 1 + 1 + 1, 0, none⟩) hd.length hd.length)).setCell ⟨w.heap.size + 1 + 1, 2, none⟩ (.int .i64 rg)) (heap_set_ne (by omega)) (by simp [World.setCell]))
  refine (KA.out _ HT2.out.below).mono ?_
  rintro e w3 ⟨rfl, ho2, hb1⟩
  have HT3 := hid (HT2.out.step hb1)
  have z0 := HT3.out.o0
  have z1 := HT3.out.o1
  have z2 := HT3.out.o2
  have z3 := HT3.out.o3
  have z4 := HT3.out.fo3
  have z5 := HT3.out.r0
  have z6 := HT3.out.r1
  have z7 := HT3.out.r2
  have z8 := HT3.out.r3
  have z9 := HT3.out.fr0
  have z10 := HT3.out.fr1
  have z11 := HT3.out.fr2
  have z12 := HT3.out.fr3
  have HO3 := hid (HO2.out.below hb1)
  have hg : w.heap.size + 1 + 1 + 1 < ((w2.setCell ⟨w.heap.size + 1 + 1, 1, none⟩ (.slice (some ⟨w.heap.size + 1 + 1 + 1, 0, none⟩) hd.length hd.length)).setCell ⟨w.heap.size + 1 + 1, 2, none⟩ (.int .i64 rg)).heap.size := HO2.out.lt
  have HO4 := hid ho2
  generalize ((w2.setCell ⟨w.heap.size + 1 + 1, 1, none⟩ (.slice (some ⟨w.heap.size + 1 + 1 + 1, 0, none⟩) hd.length hd.length)).setCell ⟨w.heap.size + 1 + 1, 2, none⟩ (.int .i64 rg)).heap.size = ga at *
  clear ho2 hb1 y1 y2 y3 y4 y5 y6 HO1 HO2 KA HT2 HT1
  go_wp2
  have hmv : ∀ (X : World) (c o : Nat) (u : Value), c < w.heap.size + 1 + 1 + 1 → OwnSt X (w.heap.size + 1 + 1 + 1) hd ∧ OwnAt X ga at' → OwnSt (X.setCell ⟨c, o, none⟩ u) (w.heap.size + 1 + 1 + 1) hd ∧ OwnAt (X.setCell ⟨c, o, none⟩ u) ga at' := fun X c o u hc ⟨h1, h2⟩ => ⟨h1.move (heap_set_ne (by omega)) (by simp [World.setCell]), h2.set (by omega)⟩
  have hfin := hmv _ (w.heap.size + 1) 3 (.slice (some ⟨ga, 0, none⟩) at'.length at'.length) (by omega) (hmv _ (w.heap.size + 1) 2 (.int .i64 rg) (by omega) (hmv _ (w.heap.size + 1) 1 (.slice (some ⟨w.heap.size + 1 + 1 + 1, 0, none⟩) hd.length hd.length) (by omega) (hmv _ (w.heap.size + 1) 0 (.string nm) (by omega) (hmv w3 (w.heap.size + 1 + 1) 3 (.slice (some ⟨ga, 0, none⟩) at'.length at'.length) (by omega) ⟨HO3.out, HO4.out⟩))))
  refine bodyPost_ret (v := .agg #[.string nm, .slice (some ⟨w.heap.size + 1 + 1 + 1, 0, none⟩) hd.length hd.length, .int .i64 rg, .slice (some ⟨ga, 0, none⟩) at'.length at'.length]) (by simp [results, Try.results36, go_sem, z5, z6, z7, z8]) rfl
    ⟨_, _, rfl, HFIN.out _ _ _ hfin.1 hfin.2 (by omega) hg,
    ((((HT3.out.below.setCell (by show w.heap.size ≤ w.heap.size + 1 + 1; omega) _).setCell (by show w.heap.size ≤ w.heap.size + 1; omega) _).setCell (by show w.heap.size ≤ w.heap.size + 1; omega) _).setCell (by show w.heap.size ≤ w.heap.size + 1; omega) _).setCell (by show w.heap.size ≤ w.heap.size + 1; omega) _⟩

end Go.Proofs.Ytpdloenmplafiaa
