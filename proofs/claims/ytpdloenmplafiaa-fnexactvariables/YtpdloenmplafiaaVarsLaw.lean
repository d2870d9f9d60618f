import Derived.Test.YtpdloenmplafiaaVarsI
import Derived.Test.YtpdloenmplafiaaMarks3
import Derived.Deep.RegionHeld3
/-
  laws.FnExactVariables, walked.
-/
namespace Go.Proofs.Ytpdloenmplafiaa
open Go.RowKit

/-- four cells of block s -/
structure B4 (s : Nat) (v0 v1 v2 v3 : Value) (W : World) : Prop where
  c0 : W.cell? ⟨s, 0, none⟩ = some v0
  c1 : W.cell? ⟨s, 1, none⟩ = some v1
  c2 : W.cell? ⟨s, 2, none⟩ = some v2
  c3 : W.cell? ⟨s, 3, none⟩ = some v3

theorem B4.step {s : Nat} {v0 v1 v2 v3 : Value} {W W' : World} (h : B4 s v0 v1 v2 v3 W) (hb : Below W.heap.size W W') : B4 s v0 v1 v2 v3 W' := ⟨bcl' hb h.c0, bcl' hb h.c1, bcl' hb h.c2, bcl' hb h.c3⟩
theorem B4.move {s : Nat} {v0 v1 v2 v3 : Value} {W W' : World} (h : B4 s v0 v1 v2 v3 W) (hb : W'.heap[s]? = W.heap[s]?) : B4 s v0 v1 v2 v3 W' :=
  ⟨(World.cell?_of_block (w := W) (a := ⟨s, 0, none⟩) hb).trans h.c0, (World.cell?_of_block (w := W) (a := ⟨s, 1, none⟩) hb).trans h.c1, (World.cell?_of_block (w := W) (a := ⟨s, 2, none⟩) hb).trans h.c2, (World.cell?_of_block (w := W) (a := ⟨s, 3, none⟩) hb).trans h.c3⟩
theorem B4.start (w : World) (v0 v1 v2 v3 : Value) (t : TypeId) : B4 w.heap.size v0 v1 v2 v3 (w.alloc (.cells #[v0, v1, v2, v3] t)) :=
  ⟨by rw [World.cell?_alloc_at _ _ _ _ rfl]; rfl, by rw [World.cell?_alloc_at _ _ _ _ rfl]; rfl, by rw [World.cell?_alloc_at _ _ _ _ rfl]; rfl, by rw [World.cell?_alloc_at _ _ _ _ rfl]; rfl⟩
theorem B4.lt {s : Nat} {v0 v1 v2 v3 : Value} {W : World} (h : B4 s v0 v1 v2 v3 W) : s < W.heap.size := World.block_lt_of_cell? W _ h.c0

theorem eight_cells {w5 W : World} {s X : Nat} {v0 v1 v2 v3 x0 x1 x2 x3 : Value} (h : B4 s v0 v1 v2 v3 w5) (k : B4 X x0 x1 x2 x3 w5) (hb : Below w5.heap.size w5 W) :
    W.cell? ⟨s, 0, none⟩ = some v0 ∧ W.cell? ⟨s, 1, none⟩ = some v1 ∧ W.cell? ⟨s, 2, none⟩ = some v2 ∧ W.cell? ⟨s, 3, none⟩ = some v3 ∧ W.cell? ⟨X, 0, none⟩ = some x0 ∧ W.cell? ⟨X, 1, none⟩ = some x1 ∧ W.cell? ⟨X, 2, none⟩ = some x2 ∧ W.cell? ⟨X, 3, none⟩ = some x3 ∧ Below w5.heap.size w5 W :=
  ⟨(h.step hb).c0, (h.step hb).c1, (h.step hb).c2, (h.step hb).c3, (k.step hb).c0, (k.step hb).c1, (k.step hb).c2, (k.step hb).c3, hb⟩

theorem Fr.below {lo hi : Nat} {a b : World} (h : Fr lo hi a b) (hs : lo ≤ a.heap.size) : Below lo a b := ⟨h.os, h.tape, h.output, h.size, fun x hx => h.block x (by omega) (Or.inl hx)⟩
theorem Kg.bel {g lo : Nat} {a b : World} (h : Kg g a b) (hg : lo ≤ g) (hs : lo ≤ a.heap.size) : Below lo a b := ⟨h.os, h.tape, h.output, h.size, fun x hx => h.block x (by omega) (by omega)⟩

theorem varsQ_len {q : QV} (hq : OkQ q) : (varsQ q).length ≤ 1099511627776 := by
  unfold varsQ
  split
  · have h1 := VL_len q.atoms (fun j hj => (hq.atoms j hj).len) q.atoms.length (Nat.le_refl _)
    have h2 := hq.alen
    omega
  · simp

set_option maxHeartbeats 20000000 in
set_option maxRecDepth 1000000 in
theorem variables_walk (w : World) (vh va : Value) (q : QV) (h : IQ w vh va q) (hf : FitQ q) :
    Calls Try.prog 7 #[.agg #[.string q.name, vh, .int .i64 q.ring, va]] w fun e w' => e = .returned (.bool true) ∧ Below w.heap.size w w' := by
  have HI := hid h
  obtain ⟨a1, k1, e1, -⟩ := h.head
  obtain ⟨a2, k2, e2, -⟩ := h.atoms
  subst e1 e2
  have HB0 : Hid (Below w.heap.size w (w.alloc (.cells #[.string q.name, .slice a1 q.head.length k1, .int .i64 q.ring, .slice a2 q.atoms.length k2] 64))) := hid ((Below.refl _ _).alloc (Nat.le_refl _) _)
  have HA0 := hid (B4.start w (.string q.name) (.slice a1 q.head.length k1) (.int .i64 q.ring) (.slice a2 q.atoms.length k2) 64)
  have K0 := hid (szQuery_calls (w.alloc (.cells #[.string q.name, .slice a1 q.head.length k1, .int .i64 q.ring, .slice a2 q.atoms.length k2] 64)) _ _ q (HI.out.below HB0.out) hf)
  clear h hf
  go_enter Try.func7, Try.ntmps7
  go_upto_region 1 with fail
  generalize w.alloc (.cells #[.string q.name, .slice a1 q.head.length k1, .int .i64 q.ring, .slice a2 q.atoms.length k2] 64) = W0 at *
  obtain ⟨x0, x1, x2, x3⟩ := HA0.out
  go_wp2_with fail
  refine K0.out.mono ?_
  rintro e w1 ⟨z, rfl, hb1, hz⟩
  have HA1 := hid (HA0.out.step hb1)
  have HB1 := hid (bt HB0.out hb1)
  clear hb1 K0 x0 x1 x2 x3 HA0 HB0
  rcases hz with rfl | ⟨hz0, hok⟩
  · go_wp2
    go_ret
    exact ⟨rfl, HB1.out⟩
  have hzn : ¬ (z < 0) := by omega
  have HOK := hid hok
  have hvl := varsQ_len hok
  clear hok
  obtain ⟨VV, hVV⟩ : ∃ V, V = varsQ q := ⟨_, rfl⟩
  rw [← hVV] at hvl
  have HV := hid hVV
  clear hVV
  obtain ⟨x0, x1, x2, x3⟩ := HA1.out
  -- the model's answer
  go_wp2_with fail
  refine (toQuery_calls w1 _ _ q (HI.out.below HB1.out) HOK.out).mono ?_
  rintro e w2 ⟨gh, ga, rfl, ho, hb⟩
  have HO := hid ho
  have HA2 := hid (HA1.out.step hb)
  have HB2 := hid (bt HB1.out hb)
  clear x0 x1 x2 x3 hb ho HA1
  go_wp2_with fail
  refine (sVariables_calls w2 _ _ q HO.out.is HOK.out).mono ?_
  rintro e w3 ⟨v0, rfl, hv0, hb⟩
  rw [← HV.out] at hv0
  have HV0 := hid hv0
  have HA3 := hid (HA2.out.step hb)
  have hlt3 := HA3.out.lt
  have HB3 := hid (bt HB2.out hb)
  obtain ⟨p1, r1, ev, -⟩ := hv0
  subst ev
  clear hb HO HA2
  obtain ⟨x0, x1, x2, x3⟩ := HA3.out
  -- the program's
  go_wp2_with fail
  refine (toQuery_calls w3 _ _ q (HI.out.below HB3.out) HOK.out).mono ?_
  rintro e w4 ⟨xh, xa, rfl, ho, hb⟩
  have HX0 := hid (B4.start w4 (.string q.name) (.slice (some ⟨xh, 0, none⟩) q.head.length q.head.length) (.int .i64 q.ring) (.slice (some ⟨xa, 0, none⟩) q.atoms.length q.atoms.length) 69)
  have hb5 : Below w4.heap.size w4 (w4.alloc (.cells #[.string q.name, .slice (some ⟨xh, 0, none⟩) q.head.length q.head.length, .int .i64 q.ring, .slice (some ⟨xa, 0, none⟩) q.atoms.length q.atoms.length] 69)) := (Below.refl _ _).alloc (Nat.le_refl _) _
  have HA4 := hid ((HA3.out.step hb).step hb5)
  have HC4 := hid (bt hb hb5)
  have hs45 := HC4.out.size
  have HO4 := hid (ho.below hb5)
  have HS4 := hid (fun i hi => (ho.atoms.shape i hi).bel hb5)
  have hxlt := ho.atoms.2
  have hs5 : w4.heap.size < (w4.alloc (.cells #[.string q.name, .slice (some ⟨xh, 0, none⟩) q.head.length q.head.length, .int .i64 q.ring, .slice (some ⟨xa, 0, none⟩) q.atoms.length q.atoms.length] 69)).heap.size := by simp
  clear x0 x1 x2 x3 hb ho hb5 HA3
  go_upto_region 7 with fail
  generalize w4.alloc (.cells #[.string q.name, .slice (some ⟨xh, 0, none⟩) q.head.length q.head.length, .int .i64 q.ring, .slice (some ⟨xa, 0, none⟩) q.atoms.length q.atoms.length] 69) = W5 at *
  generalize w4.heap.size = X at *
  obtain ⟨x0, x1, x2, x3⟩ := HX0.out
  go_wp2_with fail
  refine (variables_calls W5 _ _ q HO4.out.is HOK.out).mono ?_
  rintro e w6 ⟨g, rfl, hg, hgl, hb⟩
  rw [← HV.out] at hg
  rw [← HV.out]
  have HG6 := hid hg
  have HA6 := hid (HA4.out.step hb)
  have HX6 := hid (HX0.out.step hb)
  have HO6 := hid (HO4.out.below hb)
  have HS6 := hid (fun i hi => (HS4.out i hi).bel hb)
  have HC6 := hid (bt HC4.out hb)
  have hs6 := hb.size
  clear x0 x1 x2 x3 hb hg HA4 HX0 HO4 HS4 HC4
  go_wp2_with fail
  refine (eqStringS_quiet w6 _ _ VV HG6.out.is (HV0.out.below HC6.out) (by omega)).mono ?_
  rintro e w7 ⟨rfl, m7, hw7⟩
  subst w7
  have hb : Below w6.heap.size w6 (w6.drewN m7) := below_drewN (Below.refl _ _) _
  have HG7 := hid (HG6.out.below hb)
  have HA7 := hid (HA6.out.step hb)
  have HX7 := hid (HX6.out.step hb)
  have HO7 := hid (HO6.out.below hb)
  have HS7 := hid (fun i hi => (HS6.out i hi).bel hb)
  have HC7 := hid (bt HC6.out hb)
  have hs7 := hb.size
  clear hb HG6 HA6 HX6 HO6 HS6 HC6
  generalize w6.drewN m7 = W7 at *
  have HBW7 := hid (HB3.out.trans (HC7.out.mono HB3.out.size))
  have KT : Hid (∀ W, Below W7.heap.size W7 W → Calls Try.prog 36 #[.agg #[.string q.name, .slice a1 q.head.length k1, .int .i64 q.ring, .slice a2 q.atoms.length k2]] W fun e w' => ∃ gh ga, e = .returned (.agg #[.string q.name, .slice (some ⟨gh, 0, none⟩) q.head.length q.head.length, .int .i64 q.ring, .slice (some ⟨ga, 0, none⟩) q.atoms.length q.atoms.length]) ∧ OwnQ w' W.heap.size gh ga q ∧ Below W.heap.size W w') := hid (fun W hb => toQuery_calls W _ _ q (HI.out.below (bt HBW7.out hb)) HOK.out)
  have KE : Hid (∀ W lo gh ga, Below W7.heap.size W7 W → OwnQ W lo gh ga q → Calls Try.prog 39 #[.agg #[.string q.name, .slice (some ⟨xh, 0, none⟩) q.head.length q.head.length, .int .i64 q.ring, .slice (some ⟨xa, 0, none⟩) q.atoms.length q.atoms.length], .agg #[.string q.name, .slice (some ⟨gh, 0, none⟩) q.head.length q.head.length, .int .i64 q.ring, .slice (some ⟨ga, 0, none⟩) q.atoms.length q.atoms.length]] W fun e w' => e = .returned (.bool true) ∧ Below W.heap.size W w') := hid (fun W lo gh ga hb ho => eqQuery_same W _ _ _ _ q (HO7.out.below hb).is ho.is HOK.out)
  have KM : Hid (∀ W, Below W7.heap.size W7 W → Calls Try.prog 40 #[.agg #[.string q.name, .slice (some ⟨xh, 0, none⟩) q.head.length q.head.length, .int .i64 q.ring, .slice (some ⟨xa, 0, none⟩) q.atoms.length q.atoms.length], .int .i64 1] W fun e w' => ∃ k' : Nat, e = .returned (.int .i64 k') ∧ Fr w3.heap.size X W w') := hid (fun W hb => markQuery_calls W w3.heap.size xh xa X q (HO7.out.head.below hb) (fun i hi => (HS7.out i hi).bel hb) HO7.out.lh HO7.out.la hxlt HOK.out)
  have KVI : Hid (∀ W lo gh ga, OwnQ W lo gh ga q → Calls Try.prog 37 #[.agg #[.string q.name, .slice (some ⟨gh, 0, none⟩) q.head.length q.head.length, .int .i64 q.ring, .slice (some ⟨ga, 0, none⟩) q.atoms.length q.atoms.length]] W fun e w' => ∃ g, e = .returned (.slice (some ⟨g, 0, none⟩) VV.length VV.length) ∧ OwnSt w' g VV ∧ W.heap.size ≤ g ∧ Below W.heap.size W w') := hid (fun W lo gh ga ho => by rw [HV.out]; exact variables_calls W _ _ q ho.is HOK.out)
  have KT2 : Hid (∀ W, Below w.heap.size w W → Calls Try.prog 36 #[.agg #[.string q.name, .slice a1 q.head.length k1, .int .i64 q.ring, .slice a2 q.atoms.length k2]] W fun e w' => ∃ gh ga, e = .returned (.agg #[.string q.name, .slice (some ⟨gh, 0, none⟩) q.head.length q.head.length, .int .i64 q.ring, .slice (some ⟨ga, 0, none⟩) q.atoms.length q.atoms.length]) ∧ OwnQ w' W.heap.size gh ga q ∧ Below W.heap.size W w') := hid (fun W hb => toQuery_calls W _ _ q (HI.out.below hb) HOK.out)
  clear HOK HI HV HO7 HS7
  generalize q.name = nm at *
  generalize q.ring = rg at *
  generalize q.head.length = hn at *
  generalize q.atoms.length = an at *
  have HSW : Hid (∀ W, (W.cell? ⟨w.heap.size, 0, none⟩ = some (.string nm) ∧ W.cell? ⟨w.heap.size, 1, none⟩ = some (.slice a1 hn k1) ∧ W.cell? ⟨w.heap.size, 2, none⟩ = some (.int .i64 rg) ∧ W.cell? ⟨w.heap.size, 3, none⟩ = some (.slice a2 an k2) ∧ W.cell? ⟨X, 0, none⟩ = some (.string nm) ∧ W.cell? ⟨X, 1, none⟩ = some (.slice (some ⟨xh, 0, none⟩) hn hn) ∧ W.cell? ⟨X, 2, none⟩ = some (.int .i64 rg) ∧ W.cell? ⟨X, 3, none⟩ = some (.slice (some ⟨xa, 0, none⟩) an an) ∧ Below W7.heap.size W7 W) → Below W7.heap.size W7 W) := hid (fun W hW => hW.2.2.2.2.2.2.2.2)
  go_wp2_with fail
  go_region_held3 (fun W => W.cell? ⟨w.heap.size, 0, none⟩ = some (.string nm) ∧ W.cell? ⟨w.heap.size, 1, none⟩ = some (.slice a1 hn k1) ∧ W.cell? ⟨w.heap.size, 2, none⟩ = some (.int .i64 rg) ∧ W.cell? ⟨w.heap.size, 3, none⟩ = some (.slice a2 an k2) ∧ W.cell? ⟨X, 0, none⟩ = some (.string nm) ∧ W.cell? ⟨X, 1, none⟩ = some (.slice (some ⟨xh, 0, none⟩) hn hn) ∧ W.cell? ⟨X, 2, none⟩ = some (.int .i64 rg) ∧ W.cell? ⟨X, 3, none⟩ = some (.slice (some ⟨xa, 0, none⟩) an an) ∧ Below W7.heap.size W7 W)
    (first | exact eight_cells HA7.out HX7.out (Below.refl _ _).drew | exact eight_cells HA7.out HX7.out (bt (Below.refl _ _).drew hb) | (refine eight_cells HA7.out HX7.out (bt (HSW.out _ ?_) hb); assumption))
    (first | (go_at_call 36; refine (KT.out _ (by first | exact (Below.refl _ _).drew | exact Below.refl _ _ | exact HSW.out _ (by assumption))).mono ?_; rintro e w' ⟨gh2, ga2, rfl, ho, hb⟩) | (go_at_call 39; refine (KE.out _ _ _ _ (by first | exact (Below.refl _ _).drew | exact Below.refl _ _ | exact HSW.out _ (by assumption)) ho).mono ?_; rintro e w' ⟨rfl, hb⟩))
  have hb8 := HSW.out w' (by assumption)
  have HG8 := hid (HG7.out.below hb8)
  have HA8 := hid (HA7.out.step hb8)
  have HX8 := hid (HX7.out.step hb8)
  have HC8 := hid (bt HC7.out hb8)
  have HKM := hid (KM.out w' hb8)
  have hs8 := hb8.size
  clear hb ho hb8 HG7 HA7 HX7 HC7 HBW7 KT KE KM HSW
  generalize w' = W8 at *
  obtain ⟨x0, x1, x2, x3⟩ := HX8.out
  go_wp2_with fail
  refine HKM.out.mono ?_
  rintro e w9 ⟨k', rfl, hF⟩
  have hkn : ¬ ((k' : Int) < 0) := by omega
  have hgs := HG8.out.lt
  have hbF := hF.below HC8.out.size
  have HG9 := hid (HG8.out.move (hF.block g hgs (Or.inr (by omega))) hF.size)
  have HA9 := hid (HA8.out.move (hF.block w.heap.size (by have := HC8.out.size; omega) (Or.inl hlt3)))
  have HC9 := hid (HC8.out.trans hbF)
  clear x0 x1 x2 x3 hF hbF HG8 HA8 HX8 HC8 HKM hgs
  go_wp2_with fail
  refine (eqStringS_quiet w9 _ _ VV HG9.out.is (HV0.out.below HC9.out) (by omega)).mono ?_
  rintro e w10 ⟨rfl, m10, hw10⟩
  subst w10
  have hb : Below w9.heap.size w9 (w9.drewN m10) := below_drewN (Below.refl _ _) _
  have HG10 := hid (HG9.out.below hb)
  have HA10 := hid (HA9.out.step hb)
  have HC10 := hid (bt HC9.out hb)
  clear hb HG9 HA9 HC9
  generalize w9.drewN m10 = W10 at *
  go_wp2_with fail
  refine (markStringS_calls W10 g VV.length VV.length 1 (fun j hj => ⟨_, HG10.out.cell j hj⟩) (fun j hj => HG10.out.free j hj) HG10.out.lt (by omega) (by omega) (by omega)).mono ?_
  rintro e w11 ⟨rfl, hkg, hck⟩
  have HM11 := hid hck
  have HA11 := hid (HA10.out.move (hkg.block w.heap.size HA10.out.lt (by omega)))
  have HC11 := hid (HC10.out.trans (hkg.bel (by omega) HC10.out.size))
  clear hkg hck HG10 HA10 HC10
  go_wp2_with fail
  refine (heldStringS_calls w11 g VV.length VV.length 1 HM11.out (by omega) (by omega) (by omega)).mono ?_
  rintro e w12 ⟨rfl, hb⟩
  have hmn : ¬ (((1 + VV.length : Nat) : Int) < 0) := by omega
  have HA12 := hid (HA11.out.step hb)
  have HC12 := hid (bt HC11.out hb)
  clear hb HM11 HA11 HC11
  obtain ⟨x0, x1, x2, x3⟩ := HA12.out
  have HB12 := hid (HB3.out.trans (HC12.out.mono HB3.out.size))
  go_wp2_with fail
  refine (KT2.out w12 HB12.out).mono ?_
  rintro e w13 ⟨gh3, ga3, rfl, ho, hb⟩
  have HO := hid ho
  have HC13 := hid (bt HC12.out hb)
  clear x0 x1 x2 x3 ho hb HC12 HA12 HB12
  go_wp2_with fail
  refine (KVI.out w13 _ _ _ HO.out).mono ?_
  rintro e w14 ⟨g3, rfl, hg, -, hb⟩
  have HC14 := hid (bt HC13.out hb)
  have HG14 := hid hg
  clear hg hb HC13 HO
  go_wp2_with fail
  refine (eqStringS_quiet w14 _ _ VV HG14.out.is (HV0.out.below HC14.out) (by omega)).mono ?_
  rintro e w15 ⟨rfl, m15, hw15⟩
  subst w15
  have HBF := hid (HB3.out.trans ((below_drewN HC14.out m15).mono HB3.out.size))
  clear HC14 HG14
  go_wp2
  go_ret
  exact ⟨rfl, HBF.out⟩

end Go.Proofs.Ytpdloenmplafiaa
