import Derived.Deep.RegionHeld3
import Derived.Test.YtfjchjhakjghcaaDoorD40
import Derived.Test.YtfjchjhakjghcaaDoorD48
import Derived.Test.YtfjchjhakjghcaaDoorD49
/-
  laws.FnExactPrintQuery, walked.
-/
namespace Go.Proofs.YtfjchjhakjghcaaDoor
open Go.RowKit

/-- four cells in a block -/
structure BZ (s : Nat) (q0 q1 q2 q3 : Value) (W : World) : Prop where
  c0 : W.cell? ⟨s, 0, none⟩ = some q0
  c1 : W.cell? ⟨s, 1, none⟩ = some q1
  c2 : W.cell? ⟨s, 2, none⟩ = some q2
  c3 : W.cell? ⟨s, 3, none⟩ = some q3
theorem BZ.step {s : Nat} {q0 q1 q2 q3 : Value} {W W' : World} (h : BZ s q0 q1 q2 q3 W) (hb : Below W.heap.size W W') : BZ s q0 q1 q2 q3 W' :=
  ⟨bcl' hb h.c0, bcl' hb h.c1, bcl' hb h.c2, bcl' hb h.c3⟩
theorem BZ.start (w : World) (q0 q1 q2 q3 : Value) (t : TypeId) : BZ w.heap.size q0 q1 q2 q3 (w.alloc (.cells #[q0, q1, q2, q3] t)) :=
  ⟨by rw [World.cell?_alloc_at _ _ _ _ rfl]; rfl, by rw [World.cell?_alloc_at _ _ _ _ rfl]; rfl, by rw [World.cell?_alloc_at _ _ _ _ rfl]; rfl, by rw [World.cell?_alloc_at _ _ _ _ rfl]; rfl⟩
theorem bz8 {w5 W : World} {s Y : Nat} {q0 q1 q2 q3 y0 y1 y2 y3 : Value} (h : BZ s q0 q1 q2 q3 w5) (k : BZ Y y0 y1 y2 y3 w5) (hb : Below w5.heap.size w5 W) :
    W.cell? ⟨s, 0, none⟩ = some q0 ∧ W.cell? ⟨s, 1, none⟩ = some q1 ∧ W.cell? ⟨s, 2, none⟩ = some q2 ∧ W.cell? ⟨s, 3, none⟩ = some q3 ∧ W.cell? ⟨Y, 0, none⟩ = some y0 ∧ W.cell? ⟨Y, 1, none⟩ = some y1 ∧ W.cell? ⟨Y, 2, none⟩ = some y2 ∧ W.cell? ⟨Y, 3, none⟩ = some y3 ∧ Below w5.heap.size w5 W :=
  ⟨bcl' hb h.c0, bcl' hb h.c1, bcl' hb h.c2, bcl' hb h.c3, bcl' hb k.c0, bcl' hb k.c1, bcl' hb k.c2, bcl' hb k.c3, hb⟩

set_option maxHeartbeats 8000000 in
set_option maxRecDepth 1000000 in
theorem printQuery_walk (w : World) (vh va : Value) (q : QV) (hi : IQ w vh va q) (hq : FitQ q) (htab : Lib.TabIs Tryd.prog w "internal/strconv.uint64pow10" .u64 Lib.pow10Tab) (hrg : RgW w) :
    Calls Tryd.prog 4 #[.agg #[.string q.name, vh, .int .i64 q.ring, va]] w fun e w' => e = .returned (.bool true) ∧ Below w.heap.size w w' := by
  have HI := hid hi
  have HTab := hid htab
  have HRg := hid hrg
  obtain ⟨a1, k1, e1, -⟩ := hi.head
  obtain ⟨a2, k2, e2, -⟩ := hi.atoms
  subst e1 e2
  obtain ⟨W1, hW1⟩ : ∃ W, W = w.alloc (.cells #[.string q.name, .slice a1 q.head.length k1, .int .i64 q.ring, .slice a2 q.atoms.length k2] 36) := ⟨_, rfl⟩
  have HB1 : Hid (Below w.heap.size w W1) := hid (by rw [hW1]; exact (Below.refl _ _).alloc (Nat.le_refl _) _)
  have HA1 := hid (BZ.start w (.string q.name) (.slice a1 q.head.length k1) (.int .i64 q.ring) (.slice a2 q.atoms.length k2) 36)
  rw [← hW1] at HA1
  have K0 := hid (szQuery_calls W1 _ _ q (HI.out.below HB1.out) hq)
  have HW := hid hW1
  clear hW1 hi hq htab hrg
  have y0 := HA1.out.c0
  have y1 := HA1.out.c1
  have y2 := HA1.out.c2
  have y3 := HA1.out.c3
  go_enter Tryd.func4, Tryd.ntmps4
  go_upto_region 2 with fail
  rw [← HW.out]
  clear HW
  go_wp2_with fail
  refine K0.out.mono ?_
  rintro e w2 ⟨z, rfl, hb2, hz⟩
  have HA4 := hid (HA1.out.step hb2)
  have HB4 := hid (bt HB1.out hb2)
  clear hb2 K0 y0 y1 y2 y3 HA1 HB1
  rcases hz with rfl | ⟨hz0, hOK⟩
  · go_wp2_with fail
    go_ret
    exact ⟨rfl, HB4.out⟩
  have g2 : ¬ (z < 0) := by omega
  have HOQ := hid hOK
  clear hOK
  obtain ⟨res, hres⟩ : ∃ r : ByteArray, r = ⟨(prqT q).toArray⟩ := ⟨_, rfl⟩
  have KS : Hid (∀ W' uh ua, IQ W' uh ua q → Calls Tryd.prog 12 #[.agg #[.string q.name, uh, .int .i64 q.ring, ua]] W' fun e w' => e = .returned (.string res) ∧ Below W'.heap.size W' w') := hid fun W' uh ua h => by rw [hres]; exact sPrintQuery_calls W' uh ua q h HOQ.out
  have KI : Hid (∀ W' gh ua, IQ W' (.slice (some ⟨gh, 0, none⟩) q.head.length q.head.length) ua q → gh < W'.heap.size → Below w.heap.size w W' → Calls Tryd.prog 14 #[.agg #[.string q.name, .slice (some ⟨gh, 0, none⟩) q.head.length q.head.length, .int .i64 q.ring, ua]] W' fun e w' => e = .returned (.string res) ∧ Below W'.heap.size W' w') := hid fun W' gh ua h h2 h3 => by rw [hres]; exact iPrintQuery_calls W' gh ua q h h2 HOQ.out (tabQ_below HTab.out h3) (HRg.out.below h3)
  have KTQ : Hid (∀ W', Below w2.heap.size w2 W' → Calls Tryd.prog 13 #[.agg #[.string q.name, .slice a1 q.head.length k1, .int .i64 q.ring, .slice a2 q.atoms.length k2]] W' fun e w' => ∃ gh ga, e = .returned (.agg #[.string q.name, .slice (some ⟨gh, 0, none⟩) q.head.length q.head.length, .int .i64 q.ring, .slice (some ⟨ga, 0, none⟩) q.atoms.length q.atoms.length]) ∧ IQ w' (.slice (some ⟨gh, 0, none⟩) q.head.length q.head.length) (.slice (some ⟨ga, 0, none⟩) q.atoms.length q.atoms.length) q ∧ gh < w'.heap.size ∧ Below W'.heap.size W' w') := hid fun W' h => (toQuery_calls W' _ _ q (HI.out.below (bt HB4.out h)) HOQ.out).mono (by
    rintro e w' ⟨gh, ga, rfl, ho, hb⟩
    exact ⟨gh, ga, rfl, ho.is, ho.head.lt, hb⟩)
  have KEQ : Hid (∀ W' uh ua th ta, IQ W' uh ua q → IQ W' th ta q → _) := hid fun W' uh ua th ta h1 h2 => eqQuery_same W' uh ua th ta q h1 h2 HOQ.out
  clear hres HI HTab HRg HOQ
  generalize q.name = nm at *
  generalize q.ring = rg at *
  generalize q.head.length = hn at *
  generalize q.atoms.length = an at *
  have y0 := HA4.out.c0
  have y1 := HA4.out.c1
  have y2 := HA4.out.c2
  have y3 := HA4.out.c3
  go_wp2_with fail
  refine (KTQ.out w2 (Below.refl _ _)).mono ?_
  rintro e w3 ⟨gp, gq, rfl, hP, -, hb3⟩
  have KS1 := hid (KS.out w3 _ _ hP)
  have HA5 := hid (HA4.out.step hb3)
  have HB5 := hid hb3
  clear y0 y1 y2 y3 hb3 hP
  go_wp2_with fail
  refine KS1.out.mono ?_
  rintro e w4 ⟨rfl, hb4⟩
  have HA6 := hid (HA5.out.step hb4)
  have HB6 := hid (bt HB5.out hb4)
  have y0 := HA6.out.c0
  have y1 := HA6.out.c1
  have y2 := HA6.out.c2
  have y3 := HA6.out.c3
  clear hb4 KS1 KS HA5 HB5
  go_wp2_with fail
  refine (KTQ.out w4 HB6.out).mono ?_
  rintro e w6 ⟨gh, ga, rfl, hY, hlt, hb6⟩
  have B6 : Below w6.heap.size w6 (w6.alloc (.cells #[.string nm, .slice (some ⟨gh, 0, none⟩) hn hn, .int .i64 rg, .slice (some ⟨ga, 0, none⟩) an an] 41)) := (Below.refl _ _).alloc (Nat.le_refl _) _
  have Y6 := BZ.start w6 (.string nm) (.slice (some ⟨gh, 0, none⟩) hn hn) (.int .i64 rg) (.slice (some ⟨ga, 0, none⟩) an an) 41
  go_upto_region 7 with fail
  obtain ⟨Y, hYe⟩ : ∃ Y, Y = w6.heap.size := ⟨_, rfl⟩
  rw [← hYe] at Y6 ⊢
  have hlt7 := Nat.lt_of_lt_of_le hlt B6.size
  generalize w6.alloc (.cells #[.string nm, .slice (some ⟨gh, 0, none⟩) hn hn, .int .i64 rg, .slice (some ⟨ga, 0, none⟩) an an] 41) = W7 at *
  have hb57 := bt hb6 B6
  have HB7 := hid (bt HB6.out hb57)
  have HA7 := hid (HA6.out.step hb57)
  have HYQ7 := hid (hY.below B6)
  have HY7 := hid Y6
  have KI1 := hid (KI.out W7 _ _ HYQ7.out hlt7 (bt HB4.out HB7.out))
  clear y0 y1 y2 y3 hb6 B6 Y6 hY hYe hb57 HB6 HA6 hlt hlt7 KI
  have y0 := HY7.out.c0
  have y1 := HY7.out.c1
  have y2 := HY7.out.c2
  have y3 := HY7.out.c3
  go_wp2_with fail
  refine KI1.out.mono ?_
  rintro e W9 ⟨rfl, hb8⟩
  have HB9 := hid (bt HB7.out hb8)
  have HA9 := hid (HA7.out.step hb8)
  have HYQ9 := hid (HYQ7.out.below hb8)
  have HY9 := hid (HY7.out.step hb8)
  clear y0 y1 y2 y3 hb8 HB7 HA7 HYQ7 HY7 KI1
  have hne : (res.toList != res.toList) = false := by simp
  have HSW : Hid (∀ W', (W'.cell? ⟨w.heap.size, 0, none⟩ = some (.string nm) ∧ W'.cell? ⟨w.heap.size, 1, none⟩ = some (.slice a1 hn k1) ∧ W'.cell? ⟨w.heap.size, 2, none⟩ = some (.int .i64 rg) ∧ W'.cell? ⟨w.heap.size, 3, none⟩ = some (.slice a2 an k2) ∧ W'.cell? ⟨Y, 0, none⟩ = some (.string nm) ∧ W'.cell? ⟨Y, 1, none⟩ = some (.slice (some ⟨gh, 0, none⟩) hn hn) ∧ W'.cell? ⟨Y, 2, none⟩ = some (.int .i64 rg) ∧ W'.cell? ⟨Y, 3, none⟩ = some (.slice (some ⟨ga, 0, none⟩) an an) ∧ Below W9.heap.size W9 W') → Below W9.heap.size W9 W') := hid fun W' h => h.2.2.2.2.2.2.2.2
  have KQW : Hid (∀ W', (W'.cell? ⟨w.heap.size, 0, none⟩ = some (.string nm) ∧ W'.cell? ⟨w.heap.size, 1, none⟩ = some (.slice a1 hn k1) ∧ W'.cell? ⟨w.heap.size, 2, none⟩ = some (.int .i64 rg) ∧ W'.cell? ⟨w.heap.size, 3, none⟩ = some (.slice a2 an k2) ∧ W'.cell? ⟨Y, 0, none⟩ = some (.string nm) ∧ W'.cell? ⟨Y, 1, none⟩ = some (.slice (some ⟨gh, 0, none⟩) hn hn) ∧ W'.cell? ⟨Y, 2, none⟩ = some (.int .i64 rg) ∧ W'.cell? ⟨Y, 3, none⟩ = some (.slice (some ⟨ga, 0, none⟩) an an) ∧ Below W9.heap.size W9 W') → _) := hid fun W' h => KTQ.out W' (bt HB9.out (HSW.out W' h))
  have HQW : Hid (∀ W', (W'.cell? ⟨w.heap.size, 0, none⟩ = some (.string nm) ∧ W'.cell? ⟨w.heap.size, 1, none⟩ = some (.slice a1 hn k1) ∧ W'.cell? ⟨w.heap.size, 2, none⟩ = some (.int .i64 rg) ∧ W'.cell? ⟨w.heap.size, 3, none⟩ = some (.slice a2 an k2) ∧ W'.cell? ⟨Y, 0, none⟩ = some (.string nm) ∧ W'.cell? ⟨Y, 1, none⟩ = some (.slice (some ⟨gh, 0, none⟩) hn hn) ∧ W'.cell? ⟨Y, 2, none⟩ = some (.int .i64 rg) ∧ W'.cell? ⟨Y, 3, none⟩ = some (.slice (some ⟨ga, 0, none⟩) an an) ∧ Below W9.heap.size W9 W') → IQ W' (.slice (some ⟨gh, 0, none⟩) hn hn) (.slice (some ⟨ga, 0, none⟩) an an) q) := hid fun W' h => HYQ9.out.below (HSW.out W' h)
  go_wp2_with fail
  go_region_held3 (fun W' => (W'.cell? ⟨w.heap.size, 0, none⟩ = some (.string nm) ∧ W'.cell? ⟨w.heap.size, 1, none⟩ = some (.slice a1 hn k1) ∧ W'.cell? ⟨w.heap.size, 2, none⟩ = some (.int .i64 rg) ∧ W'.cell? ⟨w.heap.size, 3, none⟩ = some (.slice a2 an k2) ∧ W'.cell? ⟨Y, 0, none⟩ = some (.string nm) ∧ W'.cell? ⟨Y, 1, none⟩ = some (.slice (some ⟨gh, 0, none⟩) hn hn) ∧ W'.cell? ⟨Y, 2, none⟩ = some (.int .i64 rg) ∧ W'.cell? ⟨Y, 3, none⟩ = some (.slice (some ⟨ga, 0, none⟩) an an) ∧ Below W9.heap.size W9 W'))
    (first | exact bz8 HA9.out HY9.out (Below.refl _ _).drew | exact bz8 HA9.out HY9.out (bt (Below.refl _ _).drew hbP) | (refine bz8 HA9.out HY9.out (bt (HSW.out _ ?_) hbP); assumption) | (refine bz8 HA9.out HY9.out (bt (HSW.out _ ?_) hbK); assumption))
    (first
      | (go_at_call 13; refine (KQW.out _ ?_).mono ?_; assumption; rintro e w' ⟨q0, q1, rfl, hP, -, hbP⟩)
      | (go_at_call 15; refine (KEQ.out _ _ _ _ _ (HQW.out _ ?_) hP).mono ?_; assumption; rintro e w' ⟨rfl, hbK⟩)
      | fail)
  go_wp2_with fail
  go_ret
  refine ⟨rfl, bt HB4.out (bt HB9.out (HSW.out _ ?_))⟩
  assumption

end Go.Proofs.YtfjchjhakjghcaaDoor
