import Derived.Deep.RegionHeld3
import Derived.Test.YtfjchjhakjghcaaDoorD19
import Derived.Test.YtfjchjhakjghcaaDoorD40
import Derived.Test.YtfjchjhakjghcaaDoorD60
import Derived.Test.YtfjchjhakjghcaaDoorD61
/-
  laws.FnExactCheckQuery, walked.
-/
namespace Go.Proofs.YtfjchjhakjghcaaDoor
open Go.RowKit

set_option maxHeartbeats 2000000 in
set_option maxRecDepth 1000000 in
theorem szQueryL_calls (w : World) (vh va : Value) (q : QV) (left : Int) (hl0 : 0 ≤ left) (hl1 : left ≤ 1048576) (h : IQ w vh va q) (hq : FitQ q) :
    Calls Tryd.prog 11 #[.agg #[.string q.name, vh, .int .i64 q.ring, va], .int .i64 left] w fun e w' => ∃ z : Int, e = .returned (.int .i64 z) ∧ Below w.heap.size w w' ∧ (z = -1 ∨ (0 ≤ z ∧ OkQ q)) := by
  have HB : Hid (Below w.heap.size w (w.alloc (.cells #[.string q.name, vh, .int .i64 q.ring, va] 36))) := hid ((Below.refl _ _).alloc (Nat.le_refl _) _)
  have hs := hq.name
  have HI := hid h
  have HQ := hid hq
  obtain ⟨a1, k1, e1, -⟩ := h.head
  obtain ⟨a2, k2, e2, -⟩ := h.atoms
  subst e1 e2
  clear h hq
  obtain ⟨W1, hW1⟩ : ∃ W, W = w.alloc (.cells #[.string q.name, .slice a1 q.head.length k1, .int .i64 q.ring, .slice a2 q.atoms.length k2] 36) := ⟨_, rfl⟩
  have c0 : W1.cell? ⟨w.heap.size, 0, none⟩ = some (.string q.name) := by rw [hW1, World.cell?_alloc_at _ _ _ _ rfl]; rfl
  have c1 : W1.cell? ⟨w.heap.size, 1, none⟩ = some (.slice a1 q.head.length k1) := by rw [hW1, World.cell?_alloc_at _ _ _ _ rfl]; rfl
  have c3 : W1.cell? ⟨w.heap.size, 3, none⟩ = some (.slice a2 q.atoms.length k2) := by rw [hW1, World.cell?_alloc_at _ _ _ _ rfl]; rfl
  have hlt : w.heap.size < W1.heap.size := by rw [hW1]; simp
  rw [← hW1] at HB
  by_cases h3 : left - (q.name.size : Int) < 0
  · generalize q.name = s at *
    go_enter Tryd.func11, Tryd.ntmps11
    go_upto_region 1 with fail
    rw [← hW1]
    clear hW1
    go_wp2
    go_ret
    exact ⟨_, rfl, HB.out, Or.inl rfl⟩
  · have K := hid (szStringS_calls W1 _ q.head (left - (q.name.size : Int)) (HI.out.head.below HB.out) HQ.out.len HQ.out.head (by omega) (by omega))
    have HNM : Hid (q.name.size ≤ 1048576) := hid (by omega)
    generalize hnm : q.name = s at *
    have HE := hid hnm
    clear hnm
    go_enter Tryd.func11, Tryd.ntmps11
    go_upto_region 1 with fail
    rw [← hW1]
    clear hW1
    go_wp2_with fail
    refine K.out.mono ?_
    rintro e w2 ⟨z, rfl, hw2, hz⟩
    subst w2
    clear K
    rcases hz with rfl | ⟨g0, g1, g2, g3⟩
    · go_wp2
      go_ret
      exact ⟨_, rfl, HB.out, Or.inl rfl⟩
    · have hneg : ¬ (z < 0) := by omega
      have HG := hid (And.intro g2 g3)
      have K := hid (szAtomS_calls W1 _ q.atoms z (HI.out.atoms.below HB.out) HQ.out.alen HQ.out.atoms g0 (by omega))
      clear g2 g3
      go_wp2_with fail
      refine K.out.mono ?_
      rintro e w3 ⟨z3, rfl, hb3, hz3⟩
      have HB3 := hid (bt HB.out hb3)
      clear hb3 K
      rcases hz3 with rfl | ⟨k0, k1', k2', k3⟩
      · go_wp2
        go_ret
        exact ⟨_, rfl, HB3.out, Or.inl rfl⟩
      · have hneg : ¬ (z3 < 0) := by omega
        have HK := hid k3
        clear k3
        go_wp2
        go_ret
        exact ⟨_, rfl, HB3.out, Or.inr ⟨k0, by rw [HE.out]; exact HNM.out, by have := HG.out.1; omega, fun j hj => by have := HG.out.2 j hj; omega, by omega, HK.out⟩⟩


/-- the boxes of a law's data and query -/
structure BQ (s : Nat) (d0 q0 q1 q2 q3 : Value) (W : World) : Prop where
  d : W.cell? ⟨s, 0, none⟩ = some d0
  c0 : W.cell? ⟨s + 1, 0, none⟩ = some q0
  c1 : W.cell? ⟨s + 1, 1, none⟩ = some q1
  c2 : W.cell? ⟨s + 1, 2, none⟩ = some q2
  c3 : W.cell? ⟨s + 1, 3, none⟩ = some q3
theorem BQ.step {s : Nat} {d0 q0 q1 q2 q3 : Value} {W W' : World} (h : BQ s d0 q0 q1 q2 q3 W) (hb : Below W.heap.size W W') : BQ s d0 q0 q1 q2 q3 W' :=
  ⟨bcl' hb h.d, bcl' hb h.c0, bcl' hb h.c1, bcl' hb h.c2, bcl' hb h.c3⟩
theorem bq5 {w5 W : World} {s : Nat} {d0 q0 q1 q2 q3 : Value} (h : BQ s d0 q0 q1 q2 q3 w5) (hb : Below w5.heap.size w5 W) :
    W.cell? ⟨s, 0, none⟩ = some d0 ∧ W.cell? ⟨s + 1, 0, none⟩ = some q0 ∧ W.cell? ⟨s + 1, 1, none⟩ = some q1 ∧ W.cell? ⟨s + 1, 2, none⟩ = some q2 ∧ W.cell? ⟨s + 1, 3, none⟩ = some q3 ∧ Below w5.heap.size w5 W :=
  ⟨bcl' hb h.d, bcl' hb h.c0, bcl' hb h.c1, bcl' hb h.c2, bcl' hb h.c3, hb⟩
theorem bq6 {w5 W : World} {s X : Nat} {d0 q0 q1 q2 q3 x0 : Value} (h : BQ s d0 q0 q1 q2 q3 w5) (k : w5.cell? ⟨X, 0, none⟩ = some x0) (hb : Below w5.heap.size w5 W) :
    W.cell? ⟨s, 0, none⟩ = some d0 ∧ W.cell? ⟨X, 0, none⟩ = some x0 ∧ Below w5.heap.size w5 W := ⟨bcl' hb h.d, bcl' hb k, hb⟩
/-- four cells in a block -/
structure BY (s : Nat) (q0 q1 q2 q3 : Value) (W : World) : Prop where
  c0 : W.cell? ⟨s, 0, none⟩ = some q0
  c1 : W.cell? ⟨s, 1, none⟩ = some q1
  c2 : W.cell? ⟨s, 2, none⟩ = some q2
  c3 : W.cell? ⟨s, 3, none⟩ = some q3
theorem BY.step {s : Nat} {q0 q1 q2 q3 : Value} {W W' : World} (h : BY s q0 q1 q2 q3 W) (hb : Below W.heap.size W W') : BY s q0 q1 q2 q3 W' :=
  ⟨bcl' hb h.c0, bcl' hb h.c1, bcl' hb h.c2, bcl' hb h.c3⟩
theorem BY.start (w : World) (q0 q1 q2 q3 : Value) (t : TypeId) : BY w.heap.size q0 q1 q2 q3 (w.alloc (.cells #[q0, q1, q2, q3] t)) :=
  ⟨by rw [World.cell?_alloc_at _ _ _ _ rfl]; rfl, by rw [World.cell?_alloc_at _ _ _ _ rfl]; rfl, by rw [World.cell?_alloc_at _ _ _ _ rfl]; rfl, by rw [World.cell?_alloc_at _ _ _ _ rfl]; rfl⟩
theorem bq8 {w5 W : World} {s Y : Nat} {d0 q0 q1 q2 q3 y0 y1 y2 y3 : Value} (h : BQ s d0 q0 q1 q2 q3 w5) (k : BY Y y0 y1 y2 y3 w5) (hb : Below w5.heap.size w5 W) :
    W.cell? ⟨s + 1, 0, none⟩ = some q0 ∧ W.cell? ⟨s + 1, 1, none⟩ = some q1 ∧ W.cell? ⟨s + 1, 2, none⟩ = some q2 ∧ W.cell? ⟨s + 1, 3, none⟩ = some q3 ∧ W.cell? ⟨Y, 0, none⟩ = some y0 ∧ W.cell? ⟨Y, 1, none⟩ = some y1 ∧ W.cell? ⟨Y, 2, none⟩ = some y2 ∧ W.cell? ⟨Y, 3, none⟩ = some y3 ∧ Below w5.heap.size w5 W :=
  ⟨bcl' hb h.c0, bcl' hb h.c1, bcl' hb h.c2, bcl' hb h.c3, bcl' hb k.c0, bcl' hb k.c1, bcl' hb k.c2, bcl' hb k.c3, hb⟩

set_option maxHeartbeats 16000000 in
set_option maxRecDepth 1000000 in
theorem checkQuery_walk (w : World) (vd vh va : Value) (ds : List RelV) (q : QV) (hd : IRelS w vd ds) (hl : ds.length ≤ 9223372036854775807) (hr : ∀ j, FitRel (ds.getD j noRel)) (hi : IQ w vh va q) (hq : FitQ q) (hE : ErrT w) :
    Calls Tryd.prog 5 #[.agg #[vd], .agg #[.string q.name, vh, .int .i64 q.ring, va]] w fun e w' => e = .returned (.bool true) ∧ Below w.heap.size w w' := by
  have HD := hid hd
  have HI := hid hi
  have HFQ := hid hq
  obtain ⟨a0, k0, rfl, -⟩ := hd
  obtain ⟨a1, k1, e1, -⟩ := hi.head
  obtain ⟨a2, k2, e2, -⟩ := hi.atoms
  subst e1 e2
  obtain ⟨W1, hW1⟩ : ∃ W, W = w.alloc (.cells #[.slice a0 ds.length k0] 24) := ⟨_, rfl⟩
  obtain ⟨W2, hW2⟩ : ∃ W, W = W1.alloc (.cells #[.string q.name, .slice a1 q.head.length k1, .int .i64 q.ring, .slice a2 q.atoms.length k2] 36) := ⟨_, rfl⟩
  have b1 : Below w.heap.size w W1 := by rw [hW1]; exact (Below.refl _ _).alloc (Nat.le_refl _) _
  have b2 : Below W1.heap.size W1 W2 := by rw [hW2]; exact (Below.refl _ _).alloc (Nat.le_refl _) _
  have s1 : W1.heap.size = w.heap.size + 1 := by rw [hW1]; simp
  have BY2 := BY.start W1 (.string q.name) (.slice a1 q.head.length k1) (.int .i64 q.ring) (.slice a2 q.atoms.length k2) 36
  rw [← hW2, s1] at BY2
  have HA2 : Hid (BQ w.heap.size (.slice a0 ds.length k0) (.string q.name) (.slice a1 q.head.length k1) (.int .i64 q.ring) (.slice a2 q.atoms.length k2) W2) := hid ⟨bcl' b2 (by rw [hW1, World.cell?_alloc_at _ _ _ _ rfl]; rfl), BY2.c0, BY2.c1, BY2.c2, BY2.c3⟩
  have HB2 := hid (bt b1 b2)
  have HW : Hid (W2 = (w.alloc (.cells #[.slice a0 ds.length k0] 24)).alloc (.cells #[.string q.name, .slice a1 q.head.length k1, .int .i64 q.ring, .slice a2 q.atoms.length k2] 36)) := hid (by rw [hW2, hW1])
  have HE0 := hid hE
  have K0 := hid (szData_calls W2 _ ds 1048576 (HD.out.below HB2.out) hl hr (by omega) (by omega))
  clear hW1 hW2 b1 b2 s1 BY2 hi hq hE hr hl
  have x0 := HA2.out.d
  by_cases hbig : (1048576 : Int) < rtot ds ds.length
  · rw [if_pos hbig] at K0
    go_enter Tryd.func5, Tryd.ntmps5
    go_upto_region 1 with fail
    rw [← HW.out]
    clear HW
    go_wp2_with fail
    refine K0.out.mono ?_
    rintro e w1 ⟨rfl, hb1⟩
    go_wp2_with fail
    go_ret
    exact ⟨rfl, bt HB2.out hb1⟩
  rw [if_neg hbig] at K0
  have HR := hid (okRels_of (show rtot ds ds.length ≤ 1048576 by omega))
  have hn0 : ds.length ≤ 1048576 := by have := rtot_le ds ds.length 0 (by omega); rw [rtot_zero] at this; omega
  obtain ⟨l1, hl1⟩ : ∃ l : Int, l = 1048576 - rtot ds ds.length := ⟨_, rfl⟩
  rw [← hl1] at K0
  have g1 : ¬ (l1 < 0) := by omega
  have g1' : l1 ≤ 1048576 := by omega
  clear hl1 hbig
  go_enter Tryd.func5, Tryd.ntmps5
  go_upto_region 1 with fail
  rw [← HW.out]
  clear HW
  go_wp2_with fail
  refine K0.out.mono ?_
  rintro e w1 ⟨rfl, hb1⟩
  have HA3 := hid (HA2.out.step hb1)
  have HB3 := hid (bt HB2.out hb1)
  have y0 := HA3.out.c0
  have y1 := HA3.out.c1
  have y2 := HA3.out.c2
  have y3 := HA3.out.c3
  have K1 := hid (szQueryL_calls w1 _ _ q l1 (by omega) g1' (HI.out.below HB3.out) HFQ.out)
  clear hb1 K0 x0 HA2 HB2
  go_wp2_with fail
  refine K1.out.mono ?_
  rintro e w2 ⟨z, rfl, hb2, hz⟩
  have HA4 := hid (HA3.out.step hb2)
  have HB4 := hid (bt HB3.out hb2)
  clear hb2 K1 y0 y1 y2 y3 HA3 HB3
  rcases hz with rfl | ⟨hz0, hOK⟩
  · go_wp2_with fail
    go_ret
    exact ⟨rfl, HB4.out⟩
  have g2 : ¬ (z < 0) := by omega
  have HOQ := hid hOK
  clear hOK
  obtain ⟨cc, hcc⟩ : ∃ c, c = (checkP ds q).1 := ⟨_, rfl⟩
  obtain ⟨pp, hpp⟩ : ∃ c, c = (checkP ds q).2 := ⟨_, rfl⟩
  have KS : Hid (∀ W' u uh ua, IRelS W' u ds → (∀ a n cap, u = .slice a n cap → n ≤ cap) → IQ W' uh ua q → Calls Tryd.prog 16 #[.agg #[u], .agg #[.string q.name, uh, .int .i64 q.ring, ua]] W' fun e w' => e = .returned (.tuple #[.int .i64 cc, .int .i64 pp]) ∧ Below W'.heap.size W' w') := hid fun W' u uh ua h1 h2 h3 => by
    rw [hcc, hpp]
    exact sCheckQuery_calls W' u uh ua ds q h1 HR.out h2 h3 HOQ.out
  have KI : Hid (∀ W' u uh ua, IRelS W' u ds → IQ W' uh ua q → (∀ a n cap, uh = .slice a n cap → n ≤ cap) → ErrT W' → Calls Tryd.prog 17 #[.agg #[u], .agg #[.string q.name, uh, .int .i64 q.ring, ua]] W' fun e w' => e = .returned (.tuple #[.int .i64 cc, .int .i64 pp]) ∧ Below W'.heap.size W' w') := hid fun W' u uh ua h1 h3 h2 h4 => by
    rw [hcc, hpp]
    exact checkQuery_calls W' u uh ua ds q h1 HR.out h3 HOQ.out h2 h4
  have KTD : Hid (∀ W', Below w2.heap.size w2 W' → Calls Tryd.prog 8 #[.agg #[.slice a0 ds.length k0]] W' fun e w' => ∃ g, e = .returned (.agg #[.slice (some ⟨g, 0, none⟩) ds.length ds.length]) ∧ IRelS w' (.slice (some ⟨g, 0, none⟩) ds.length ds.length) ds ∧ Below W'.heap.size W' w') := hid fun W' h => (toData_calls W' _ ds (HD.out.below (bt HB4.out h)) HR.out hn0).mono (by
    rintro e w' ⟨g, rfl, ho, -, -, hb⟩
    exact ⟨g, rfl, ho.irels, hb⟩)
  have KTQ : Hid (∀ W', Below w2.heap.size w2 W' → Calls Tryd.prog 13 #[.agg #[.string q.name, .slice a1 q.head.length k1, .int .i64 q.ring, .slice a2 q.atoms.length k2]] W' fun e w' => ∃ gh ga, e = .returned (.agg #[.string q.name, .slice (some ⟨gh, 0, none⟩) q.head.length q.head.length, .int .i64 q.ring, .slice (some ⟨ga, 0, none⟩) q.atoms.length q.atoms.length]) ∧ IQ w' (.slice (some ⟨gh, 0, none⟩) q.head.length q.head.length) (.slice (some ⟨ga, 0, none⟩) q.atoms.length q.atoms.length) q ∧ Below W'.heap.size W' w') := hid fun W' h => (toQuery_calls W' _ _ q (HI.out.below (bt HB4.out h)) HOQ.out).mono (by
    rintro e w' ⟨gh, ga, rfl, ho, hb⟩
    exact ⟨gh, ga, rfl, ho.is, hb⟩)
  have KED : Hid (∀ W' u u', IRelS W' u ds → IRelS W' u' ds → _) := hid fun W' u u' h1 h2 => eqData_same W' u u' ds h1 h2 HR.out
  have KEQ : Hid (∀ W' uh ua th ta, IQ W' uh ua q → IQ W' th ta q → _) := hid fun W' uh ua th ta h1 h2 => eqQuery_same W' uh ua th ta q h1 h2 HOQ.out
  have HE4 := hid (HE0.out.below HB4.out)
  clear hcc hpp HD HI HFQ HE0 HR HOQ hn0
  generalize q.name = nm at *
  generalize q.ring = rg at *
  generalize q.head.length = hn at *
  generalize q.atoms.length = an at *
  generalize ds.length = dn at *
  have HSW : Hid (∀ W', (W'.cell? ⟨w.heap.size, 0, none⟩ = some (.slice a0 dn k0) ∧ W'.cell? ⟨w.heap.size + 1, 0, none⟩ = some (.string nm) ∧ W'.cell? ⟨w.heap.size + 1, 1, none⟩ = some (.slice a1 hn k1) ∧ W'.cell? ⟨w.heap.size + 1, 2, none⟩ = some (.int .i64 rg) ∧ W'.cell? ⟨w.heap.size + 1, 3, none⟩ = some (.slice a2 an k2) ∧ Below w2.heap.size w2 W') → Below w2.heap.size w2 W') := hid fun W' h => h.2.2.2.2.2
  have KDW : Hid (∀ W', (W'.cell? ⟨w.heap.size, 0, none⟩ = some (.slice a0 dn k0) ∧ W'.cell? ⟨w.heap.size + 1, 0, none⟩ = some (.string nm) ∧ W'.cell? ⟨w.heap.size + 1, 1, none⟩ = some (.slice a1 hn k1) ∧ W'.cell? ⟨w.heap.size + 1, 2, none⟩ = some (.int .i64 rg) ∧ W'.cell? ⟨w.heap.size + 1, 3, none⟩ = some (.slice a2 an k2) ∧ Below w2.heap.size w2 W') → _) := hid fun W' h => KTD.out W' (HSW.out W' h)
  have KQW : Hid (∀ W', (W'.cell? ⟨w.heap.size, 0, none⟩ = some (.slice a0 dn k0) ∧ W'.cell? ⟨w.heap.size + 1, 0, none⟩ = some (.string nm) ∧ W'.cell? ⟨w.heap.size + 1, 1, none⟩ = some (.slice a1 hn k1) ∧ W'.cell? ⟨w.heap.size + 1, 2, none⟩ = some (.int .i64 rg) ∧ W'.cell? ⟨w.heap.size + 1, 3, none⟩ = some (.slice a2 an k2) ∧ Below w2.heap.size w2 W') → _) := hid fun W' h => KTQ.out W' (HSW.out W' h)
  go_wp2_with fail
  go_region_held3 (fun W' => W'.cell? ⟨w.heap.size, 0, none⟩ = some (.slice a0 dn k0) ∧ W'.cell? ⟨w.heap.size + 1, 0, none⟩ = some (.string nm) ∧ W'.cell? ⟨w.heap.size + 1, 1, none⟩ = some (.slice a1 hn k1) ∧ W'.cell? ⟨w.heap.size + 1, 2, none⟩ = some (.int .i64 rg) ∧ W'.cell? ⟨w.heap.size + 1, 3, none⟩ = some (.slice a2 an k2) ∧ Below w2.heap.size w2 W')
    (first | exact bq5 HA4.out (Below.refl _ _).drew | exact bq5 HA4.out (bt (Below.refl _ _).drew hbA) | exact bq5 HA4.out (bt (Below.refl _ _).drew hbP) | (refine bq5 HA4.out (bt (HSW.out _ ?_) hbA); assumption) | (refine bq5 HA4.out (bt (HSW.out _ ?_) hbP); assumption) | (refine bq5 HA4.out (bt (HSW.out _ ?_) hbK); assumption))
    (first
      | (go_at_call 8; refine (KDW.out _ ?_).mono ?_; assumption; rintro e w' ⟨gA, rfl, hA, hbA⟩)
      | (go_at_call 13; refine (KQW.out _ ?_).mono ?_; assumption; rintro e w' ⟨gh, ga, rfl, hP, hbP⟩)
      | (go_at_call 16; refine (KS.out _ _ _ _ (hA.below hbP) (fun a n cap e => by simp only [Value.slice.injEq] at e; omega) hP).mono ?_; rintro e w' ⟨rfl, hbK⟩)
      | (go_at_call 16; refine (KS.out _ _ _ _ hA (fun a n cap e => by simp only [Value.slice.injEq] at e; omega) (hP.below hbA)).mono ?_; rintro e w' ⟨rfl, hbK⟩)
      | fail)
  have hbK' : Below w2.heap.size w2 w' := by
    refine HSW.out _ ?_
    assumption
  have HB5 := hid hbK'
  have HA5 := hid (HA4.out.step hbK')
  clear hbA hbP hbK hbK' hA hP KDW KQW HSW
  generalize w' = w3 at *
  have x0 := HA5.out.d
  go_wp2_with fail
  refine (KTD.out w3 HB5.out).mono ?_
  rintro e w4 ⟨gd, rfl, hX, hb4⟩
  have B4 : Below w4.heap.size w4 (w4.alloc (.cells #[.slice (some ⟨gd, 0, none⟩) dn dn] 29)) := (Below.refl _ _).alloc (Nat.le_refl _) _
  have X4 : (w4.alloc (.cells #[.slice (some ⟨gd, 0, none⟩) dn dn] 29)).cell? ⟨w4.heap.size, 0, none⟩ = some (.slice (some ⟨gd, 0, none⟩) dn dn) := by rw [World.cell?_alloc_at _ _ _ _ rfl]; rfl
  go_upto_region 10 with fail
  obtain ⟨X, hXe⟩ : ∃ X, X = w4.heap.size := ⟨_, rfl⟩
  rw [← hXe] at X4 ⊢
  generalize w4.alloc (.cells #[.slice (some ⟨gd, 0, none⟩) dn dn] 29) = W5 at *
  have HB6 := hid (bt HB5.out (bt hb4 B4))
  have HA6 := hid (HA5.out.step (bt hb4 B4))
  have HXD := hid (hX.below B4)
  have HX4 := hid X4
  clear x0 hb4 B4 X4 hX hXe HB5 HA5
  have y0 := HA6.out.c0
  have y1 := HA6.out.c1
  have y2 := HA6.out.c2
  have y3 := HA6.out.c3
  go_wp2_with fail
  refine (KTQ.out W5 HB6.out).mono ?_
  rintro e w6 ⟨gh, ga, rfl, hY, hb6⟩
  have B6 : Below w6.heap.size w6 (w6.alloc (.cells #[.string nm, .slice (some ⟨gh, 0, none⟩) hn hn, .int .i64 rg, .slice (some ⟨ga, 0, none⟩) an an] 41)) := (Below.refl _ _).alloc (Nat.le_refl _) _
  have Y6 := BY.start w6 (.string nm) (.slice (some ⟨gh, 0, none⟩) hn hn) (.int .i64 rg) (.slice (some ⟨ga, 0, none⟩) an an) 41
  go_upto_region 11 with fail
  obtain ⟨Y, hYe⟩ : ∃ Y, Y = w6.heap.size := ⟨_, rfl⟩
  rw [← hYe] at Y6 ⊢
  generalize w6.alloc (.cells #[.string nm, .slice (some ⟨gh, 0, none⟩) hn hn, .int .i64 rg, .slice (some ⟨ga, 0, none⟩) an an] 41) = W7 at *
  have hb57 := bt hb6 B6
  have HB7 := hid (bt HB6.out hb57)
  have HA7 := hid (HA6.out.step hb57)
  have HXD7 := hid (HXD.out.below hb57)
  have HX7 := hid (bcl' hb57 HX4.out)
  have HYQ7 := hid (hY.below B6)
  have HY7 := hid Y6
  clear y0 y1 y2 y3 hb6 B6 Y6 hY hYe hb57 HB6 HA6 HXD HX4
  have x0 := HX7.out
  have y0 := HY7.out.c0
  have y1 := HY7.out.c1
  have y2 := HY7.out.c2
  have y3 := HY7.out.c3
  go_wp2_with fail
  refine (KI.out W7 _ _ _ HXD7.out HYQ7.out (fun a n cap e => by simp only [Value.slice.injEq] at e; omega) (HE4.out.below HB7.out)).mono ?_
  rintro e W8 ⟨rfl, hb8⟩
  have HB8 := hid (bt HB7.out hb8)
  have HA8 := hid (HA7.out.step hb8)
  have HXD8 := hid (HXD7.out.below hb8)
  have HX8 := hid (bcl' hb8 HX7.out)
  have HYQ8 := hid (HYQ7.out.below hb8)
  have HY8 := hid (HY7.out.step hb8)
  clear x0 y0 y1 y2 y3 hb8 HB7 HA7 HXD7 HX7 HYQ7 HY7
  have n1 : (cc != cc) = false := by simp
  have n2 : (pp != pp) = false := by simp
  have HSW : Hid (∀ W', (W'.cell? ⟨w.heap.size, 0, none⟩ = some (.slice a0 dn k0) ∧ W'.cell? ⟨X, 0, none⟩ = some (.slice (some ⟨gd, 0, none⟩) dn dn) ∧ Below W8.heap.size W8 W') → Below W8.heap.size W8 W') := hid fun W' h => h.2.2
  have KDW : Hid (∀ W', (W'.cell? ⟨w.heap.size, 0, none⟩ = some (.slice a0 dn k0) ∧ W'.cell? ⟨X, 0, none⟩ = some (.slice (some ⟨gd, 0, none⟩) dn dn) ∧ Below W8.heap.size W8 W') → _) := hid fun W' h => KTD.out W' (bt HB8.out (HSW.out W' h))
  have HDW : Hid (∀ W', (W'.cell? ⟨w.heap.size, 0, none⟩ = some (.slice a0 dn k0) ∧ W'.cell? ⟨X, 0, none⟩ = some (.slice (some ⟨gd, 0, none⟩) dn dn) ∧ Below W8.heap.size W8 W') → IRelS W' (.slice (some ⟨gd, 0, none⟩) dn dn) ds) := hid fun W' h => HXD8.out.below (HSW.out W' h)
  go_wp2_with fail
  go_region_held3 (fun W' => W'.cell? ⟨w.heap.size, 0, none⟩ = some (.slice a0 dn k0) ∧ W'.cell? ⟨X, 0, none⟩ = some (.slice (some ⟨gd, 0, none⟩) dn dn) ∧ Below W8.heap.size W8 W')
    (first | exact bq6 HA8.out HX8.out (Below.refl _ _).drew | exact bq6 HA8.out HX8.out (bt (Below.refl _ _).drew hbP) | (refine bq6 HA8.out HX8.out (bt (HSW.out _ ?_) hbP); assumption) | (refine bq6 HA8.out HX8.out (bt (HSW.out _ ?_) hbK); assumption))
    (first
      | (go_at_call 8; refine (KDW.out _ ?_).mono ?_; assumption; rintro e w' ⟨gq, rfl, hP, hbP⟩)
      | (go_at_call 10; refine (KED.out _ _ _ (HDW.out _ ?_) hP).mono ?_; assumption; rintro e w' ⟨rfl, hbK⟩)
      | fail)
  have hbK' : Below W8.heap.size W8 w' := by
    refine HSW.out _ ?_
    assumption
  have HB9 := hid (bt HB8.out hbK')
  have HA9 := hid (HA8.out.step hbK')
  have HYQ9 := hid (HYQ8.out.below hbK')
  have HY9 := hid (HY8.out.step hbK')
  clear hbP hbK hbK' hP KDW HDW HSW HB8 HA8 HYQ8 HY8 HXD8 HX8
  generalize w' = W9 at *
  have HSW : Hid (∀ W', (W'.cell? ⟨w.heap.size + 1, 0, none⟩ = some (.string nm) ∧ W'.cell? ⟨w.heap.size + 1, 1, none⟩ = some (.slice a1 hn k1) ∧ W'.cell? ⟨w.heap.size + 1, 2, none⟩ = some (.int .i64 rg) ∧ W'.cell? ⟨w.heap.size + 1, 3, none⟩ = some (.slice a2 an k2) ∧ W'.cell? ⟨Y, 0, none⟩ = some (.string nm) ∧ W'.cell? ⟨Y, 1, none⟩ = some (.slice (some ⟨gh, 0, none⟩) hn hn) ∧ W'.cell? ⟨Y, 2, none⟩ = some (.int .i64 rg) ∧ W'.cell? ⟨Y, 3, none⟩ = some (.slice (some ⟨ga, 0, none⟩) an an) ∧ Below W9.heap.size W9 W') → Below W9.heap.size W9 W') := hid fun W' h => h.2.2.2.2.2.2.2.2
  have KQW : Hid (∀ W', (W'.cell? ⟨w.heap.size + 1, 0, none⟩ = some (.string nm) ∧ W'.cell? ⟨w.heap.size + 1, 1, none⟩ = some (.slice a1 hn k1) ∧ W'.cell? ⟨w.heap.size + 1, 2, none⟩ = some (.int .i64 rg) ∧ W'.cell? ⟨w.heap.size + 1, 3, none⟩ = some (.slice a2 an k2) ∧ W'.cell? ⟨Y, 0, none⟩ = some (.string nm) ∧ W'.cell? ⟨Y, 1, none⟩ = some (.slice (some ⟨gh, 0, none⟩) hn hn) ∧ W'.cell? ⟨Y, 2, none⟩ = some (.int .i64 rg) ∧ W'.cell? ⟨Y, 3, none⟩ = some (.slice (some ⟨ga, 0, none⟩) an an) ∧ Below W9.heap.size W9 W') → _) := hid fun W' h => KTQ.out W' (bt HB9.out (HSW.out W' h))
  have HQW : Hid (∀ W', (W'.cell? ⟨w.heap.size + 1, 0, none⟩ = some (.string nm) ∧ W'.cell? ⟨w.heap.size + 1, 1, none⟩ = some (.slice a1 hn k1) ∧ W'.cell? ⟨w.heap.size + 1, 2, none⟩ = some (.int .i64 rg) ∧ W'.cell? ⟨w.heap.size + 1, 3, none⟩ = some (.slice a2 an k2) ∧ W'.cell? ⟨Y, 0, none⟩ = some (.string nm) ∧ W'.cell? ⟨Y, 1, none⟩ = some (.slice (some ⟨gh, 0, none⟩) hn hn) ∧ W'.cell? ⟨Y, 2, none⟩ = some (.int .i64 rg) ∧ W'.cell? ⟨Y, 3, none⟩ = some (.slice (some ⟨ga, 0, none⟩) an an) ∧ Below W9.heap.size W9 W') → IQ W' (.slice (some ⟨gh, 0, none⟩) hn hn) (.slice (some ⟨ga, 0, none⟩) an an) q) := hid fun W' h => HYQ9.out.below (HSW.out W' h)
  go_wp2_with fail
  go_region_held3 (fun W' => W'.cell? ⟨w.heap.size + 1, 0, none⟩ = some (.string nm) ∧ W'.cell? ⟨w.heap.size + 1, 1, none⟩ = some (.slice a1 hn k1) ∧ W'.cell? ⟨w.heap.size + 1, 2, none⟩ = some (.int .i64 rg) ∧ W'.cell? ⟨w.heap.size + 1, 3, none⟩ = some (.slice a2 an k2) ∧ W'.cell? ⟨Y, 0, none⟩ = some (.string nm) ∧ W'.cell? ⟨Y, 1, none⟩ = some (.slice (some ⟨gh, 0, none⟩) hn hn) ∧ W'.cell? ⟨Y, 2, none⟩ = some (.int .i64 rg) ∧ W'.cell? ⟨Y, 3, none⟩ = some (.slice (some ⟨ga, 0, none⟩) an an) ∧ Below W9.heap.size W9 W')
    (first | exact bq8 HA9.out HY9.out (Below.refl _ _).drew | exact bq8 HA9.out HY9.out (bt (Below.refl _ _).drew hbP) | (refine bq8 HA9.out HY9.out (bt (HSW.out _ ?_) hbP); assumption) | (refine bq8 HA9.out HY9.out (bt (HSW.out _ ?_) hbK); assumption))
    (first
      | (go_at_call 13; refine (KQW.out _ ?_).mono ?_; assumption; rintro e w' ⟨q0, q1, rfl, hP, hbP⟩)
      | (go_at_call 15; refine (KEQ.out _ _ _ _ _ (HQW.out _ ?_) hP).mono ?_; assumption; rintro e w' ⟨rfl, hbK⟩)
      | fail)
  go_wp2_with fail
  go_ret
  refine ⟨rfl, bt HB4.out (bt HB9.out (HSW.out _ ?_))⟩
  assumption

end Go.Proofs.YtfjchjhakjghcaaDoor
