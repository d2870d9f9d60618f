import Derived.Test.YtpdloenmplafiaaAtoms2
/-
  laws.szAtom, szAtomS; queries: szQuery, eqQuery.
-/
namespace Go.Proofs.Ytpdloenmplafiaa
open Go.RowKit

set_option maxHeartbeats 2000000 in
set_option maxRecDepth 1000000 in
theorem szAtom_calls (w : World) (v : Value) (x : AtomV) (left : Int) (h : ITm w v x.2) (hx : FitAt x) (h1 : 0 ≤ left) (h2 : left ≤ 1048576) :
    Calls Try.prog 126 #[.agg #[.string x.1, v], .int .i64 left] w fun e w' => ∃ z : Int, e = .returned (.int .i64 z) ∧ Below w.heap.size w w' ∧ (z = -1 ∨ (0 ≤ z ∧ z ≤ left ∧ OkAt x)) := by
  have HB : Hid (Below w.heap.size w (w.alloc (.cells #[.string x.1, v] 163))) := hid ((Below.refl _ _).alloc (Nat.le_refl _) _)
  have hs := hx.rel
  have HI := hid h
  by_cases h3 : left - (x.1.size : Int) < 0
  · obtain ⟨a1, k1, rfl, -⟩ := h
    generalize x.1 = s at *
    go_enter Try.func126, Try.ntmps126
    go_wp2
    go_ret
    exact ⟨_, rfl, HB.out, Or.inl rfl⟩
  · have K := hid (szTermS_calls (w.alloc (.cells #[.string x.1, v] 163)) v x.2 (left - (x.1.size : Int)) (h.below HB.out) hx.len hx.tx (by omega) (by omega))
    have HOK : Hid (((x.2.length : Int) ≤ left - (x.1.size : Int) ∧ ∀ j, j < x.2.length → ((x.2.getD j noTm).1.size : Int) ≤ left - (x.1.size : Int)) → OkAt x) := hid (fun h => ⟨by omega, by omega, fun j hj => by have := h.2 j hj; omega⟩)
    obtain ⟨a1, k1, rfl, -⟩ := h
    generalize x.1 = s at *
    clear HI hx
    go_enter Try.func126, Try.ntmps126
    go_wp2_with fail
    refine K.out.mono ?_
    rintro e w2 ⟨z, rfl, hb2, hz⟩
    have HB2 := hid (bt HB.out hb2)
    clear hb2 K
    rcases hz with rfl | ⟨g0, g1, g2, g3⟩
    · go_wp2
      go_ret
      exact ⟨_, rfl, HB2.out, Or.inl rfl⟩
    · have hneg : ¬ (z < 0) := by omega
      have HG := hid (HOK.out ⟨g2, g3⟩)
      clear g3 HOK
      go_wp2
      go_ret
      exact ⟨_, rfl, HB2.out, Or.inr ⟨g0, by omega, HG.out⟩⟩

set_option maxHeartbeats 2000000 in
set_option maxRecDepth 1000000 in
theorem szAtomS_calls (w : World) (v : Value) (l : List AtomV) (left : Int) (h : IAt w v l) (hl : l.length ≤ 9223372036854775807) (hz : ∀ j, FitAt (l.getD j noAt)) (h1 : 0 ≤ left) (h2 : left ≤ 1048576) :
    Calls Try.prog 85 #[v, .int .i64 left] w fun e w' => ∃ z : Int, e = .returned (.int .i64 z) ∧ Below w.heap.size w w' ∧ (z = -1 ∨ (0 ≤ z ∧ z ≤ left ∧ (l.length : Int) ≤ left ∧ ∀ j, j < l.length → OkAt (l.getD j noAt))) := by
  obtain ⟨a, cap, rfl, hc⟩ := h
  obtain ⟨n, hn⟩ : ∃ n, n = l.length := ⟨_, rfl⟩
  rw [← hn] at hc hl ⊢
  have HC := hid hc
  have HZ := hid hz
  clear hc hz hn
  by_cases h3 : left - (n : Int) < 0
  · go_enter Try.func85, Try.ntmps85
    go_wp2
    go_ret
    exact ⟨_, rfl, Below.refl _ _, Or.inl rfl⟩
  · go_enter Try.func85, Try.ntmps85
    go_wp2
    go_loopw [1, 5] (fun v t wr => ∃ (j : Nat) (z : Int), j ≤ n ∧ t = .int .i64 j ∧ v = .int .i64 z ∧ 0 ≤ z ∧ z ≤ left - n ∧ Hid (Below w.heap.size w wr ∧ ∀ i, i < j → OkAt (l.getD i noAt))) (fun _ t _ => n - (intOf t).toNat)
    case atStart => exact ⟨0, _, Nat.zero_le _, rfl, rfl, by omega, by omega, hid ⟨Below.refl _ _, fun i hi => by omega⟩⟩
    case round =>
      obtain ⟨j, z, hj, rfl, rfl, hz0, hz1, HH⟩ := hrel
      by_cases hjn : j < n
      · have i1 : (j : Int) < (n : Int) := by omega
        rcases HC.out with h0 | ⟨b, o, rfl, hcell⟩
        · omega
        · obtain ⟨u, c0, c1, hit⟩ := (hcell j hjn).below HH.out.1
          have HH2 : Hid (OkAt (l.getD j noAt) → ∀ i, i < j + 1 → OkAt (l.getD i noAt)) := hid (fun h i hi => by
            by_cases e : i = j
            · rw [e]; exact h
            · exact HH.out.2 i (by omega))
          have K := hid (szAtom_calls wr u (l.getD j noAt) z hit (HZ.out j) hz0 (by omega))
          obtain ⟨ua, uc, eu, -⟩ := hit
          subst eu
          clear hcell
          generalize l.getD j noAt = x at *
          go_wp2_with fail
          refine K.out.mono ?_
          rintro e w2 ⟨z2, rfl, hb2, hz2⟩
          have HB2 := hid (bt HH.out.1 hb2)
          clear hb2 K c0 c1
          rcases hz2 with rfl | ⟨g0, g1, g2⟩
          · go_wp2
            go_ret
            exact ⟨_, rfl, HB2.out, Or.inl rfl⟩
          · have hneg : ¬ (z2 < 0) := by omega
            have HG := hid (HH2.out g2)
            clear g2
            go_wp2
            go_roundw
            case rel => exact ⟨j + 1, z2, by omega, by go_num, rfl, g0, by omega, hid ⟨HB2.out, HG.out⟩⟩
            case measure => simp [intOf]; omega
      · obtain rfl : j = n := by omega
        have i1 : ¬ ((j : Int) < (j : Int)) := by omega
        go_wp2
        go_ret
        exact ⟨_, rfl, HH.out.1, Or.inr ⟨hz0, by omega, by omega, HH.out.2⟩⟩

structure QV where
  name : ByteArray
  head : List ByteArray
  ring : Int
  atoms : List AtomV

structure IQ (w : World) (vh va : Value) (q : QV) : Prop where
  head : ISt w vh q.head
  atoms : IAt w va q.atoms

theorem IQ.below {w w' : World} {vh va : Value} {q : QV} (h : IQ w vh va q) (hb : Below w.heap.size w w') : IQ w' vh va q := ⟨h.head.below hb, h.atoms.below hb⟩

structure FitQ (q : QV) : Prop where
  name : q.name.size ≤ 9223372036854775807
  len : q.head.length ≤ 9223372036854775807
  head : ∀ j, (q.head.getD j noTx).size ≤ 9223372036854775807
  alen : q.atoms.length ≤ 9223372036854775807
  atoms : ∀ j, FitAt (q.atoms.getD j noAt)
structure OkQ (q : QV) : Prop where
  name : q.name.size ≤ 1048576
  len : q.head.length ≤ 1048576
  head : ∀ j, j < q.head.length → (q.head.getD j noTx).size ≤ 1048576
  alen : q.atoms.length ≤ 1048576
  atoms : ∀ j, j < q.atoms.length → OkAt (q.atoms.getD j noAt)

set_option maxHeartbeats 2000000 in
set_option maxRecDepth 1000000 in
theorem szQuery_calls (w : World) (vh va : Value) (q : QV) (h : IQ w vh va q) (hq : FitQ q) :
    Calls Try.prog 34 #[.agg #[.string q.name, vh, .int .i64 q.ring, va], .int .i64 1048576] w fun e w' => ∃ z : Int, e = .returned (.int .i64 z) ∧ Below w.heap.size w w' ∧ (z = -1 ∨ (0 ≤ z ∧ OkQ q)) := by
  have HB : Hid (Below w.heap.size w (w.alloc (.cells #[.string q.name, vh, .int .i64 q.ring, va] 64))) := hid ((Below.refl _ _).alloc (Nat.le_refl _) _)
  have hs := hq.name
  have HI := hid h
  have HQ := hid hq
  obtain ⟨a1, k1, e1, -⟩ := h.head
  obtain ⟨a2, k2, e2, -⟩ := h.atoms
  subst e1 e2
  clear h hq
  obtain ⟨W1, hW1⟩ : ∃ W, W = w.alloc (.cells #[.string q.name, .slice a1 q.head.length k1, .int .i64 q.ring, .slice a2 q.atoms.length k2] 64) := ⟨_, rfl⟩
  have c0 : W1.cell? ⟨w.heap.size, 0, none⟩ = some (.string q.name) := by rw [hW1, World.cell?_alloc_at _ _ _ _ rfl]; rfl
  have c1 : W1.cell? ⟨w.heap.size, 1, none⟩ = some (.slice a1 q.head.length k1) := by rw [hW1, World.cell?_alloc_at _ _ _ _ rfl]; rfl
  have c3 : W1.cell? ⟨w.heap.size, 3, none⟩ = some (.slice a2 q.atoms.length k2) := by rw [hW1, World.cell?_alloc_at _ _ _ _ rfl]; rfl
  have hlt : w.heap.size < W1.heap.size := by rw [hW1]; simp
  rw [← hW1] at HB
  by_cases h3 : (1048576 : Int) - (q.name.size : Int) < 0
  · generalize q.name = s at *
    go_enter Try.func34, Try.ntmps34
    go_upto_region 1 with fail
    rw [← hW1]
    clear hW1
    go_wp2
    go_ret
    exact ⟨_, rfl, HB.out, Or.inl rfl⟩
  · have K := hid (szStringS_calls W1 _ q.head (1048576 - (q.name.size : Int)) (HI.out.head.below HB.out) HQ.out.len HQ.out.head (by omega) (by omega))
    have HNM : Hid (q.name.size ≤ 1048576) := hid (by omega)
    generalize hnm : q.name = s at *
    have HE := hid hnm
    clear hnm
    go_enter Try.func34, Try.ntmps34
    go_upto_region 1 with fail
    rw [← hW1]
    clear hW1
    go_wp2_with fail
    refine K.out.mono ?_
    rintro e w2 ⟨z, rfl, hw2, hz⟩
    subst w2
    clear K
    rcases hz with rfl | ⟨g0, g1, g2, g3⟩
    · go_wp2
      go_ret
      exact ⟨_, rfl, HB.out, Or.inl rfl⟩
    · have hneg : ¬ (z < 0) := by omega
      have HG := hid (And.intro g2 g3)
      have K := hid (szAtomS_calls W1 _ q.atoms z (HI.out.atoms.below HB.out) HQ.out.alen HQ.out.atoms g0 (by omega))
      clear g2 g3
      go_wp2_with fail
      refine K.out.mono ?_
      rintro e w3 ⟨z3, rfl, hb3, hz3⟩
      have HB3 := hid (bt HB.out hb3)
      clear hb3 K
      rcases hz3 with rfl | ⟨k0, k1', k2', k3⟩
      · go_wp2
        go_ret
        exact ⟨_, rfl, HB3.out, Or.inl rfl⟩
      · have hneg : ¬ (z3 < 0) := by omega
        have HK := hid k3
        clear k3
        go_wp2
        go_ret
        exact ⟨_, rfl, HB3.out, Or.inr ⟨k0, by rw [HE.out]; exact HNM.out, by have := HG.out.1; omega, fun j hj => by have := HG.out.2 j hj; omega, by omega, HK.out⟩⟩

end Go.Proofs.Ytpdloenmplafiaa
