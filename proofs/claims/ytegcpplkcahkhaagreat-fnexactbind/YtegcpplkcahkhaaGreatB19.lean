import Derived.Test.YtegcpplkcahkhaaGreatB10
import Derived.Test.YtegcpplkcahkhaaGreatB18
/-
  laws.szAtom, szAtomS; queries: szQuery, eqQuery.
-/
namespace Go.Proofs.YtegcpplkcahkhaaGreat
open Go.RowKit

set_option maxHeartbeats 2000000 in
set_option maxRecDepth 1000000 in
theorem szAtom_calls (w : World) (v : Value) (x : AtomV) (left : Int) (h : ITm w v x.2) (hx : FitAt x) (h1 : 0 ≤ left) (h2 : left ≤ 1048576) :
    Calls Tryz.prog 45 #[.agg #[.string x.1, v], .int .i64 left] w fun e w' => ∃ z : Int, e = .returned (.int .i64 z) ∧ Below w.heap.size w w' ∧ (z = -1 ∨ (0 ≤ z ∧ z ≤ left ∧ OkAt x)) := by
  have HB : Hid (Below w.heap.size w (w.alloc (.cells #[.string x.1, v] 92))) := hid ((Below.refl _ _).alloc (Nat.le_refl _) _)
  have hs := hx.rel
  have HI := hid h
  by_cases h3 : left - (x.1.size : Int) < 0
  · obtain ⟨a1, k1, rfl, -⟩ := h
    generalize x.1 = s at *
    go_enter Tryz.func45, Tryz.ntmps45
    go_wp2
    go_ret
    exact ⟨_, rfl, HB.out, Or.inl rfl⟩
  · have K := hid (szTermS_calls (w.alloc (.cells #[.string x.1, v] 92)) v x.2 (left - (x.1.size : Int)) (h.below HB.out) hx.len hx.tx (by omega) (by omega))
    have HOK : Hid (((x.2.length : Int) ≤ left - (x.1.size : Int) ∧ ∀ j, j < x.2.length → ((x.2.getD j noTm).1.size : Int) ≤ left - (x.1.size : Int)) → OkAt x) := hid (fun h => ⟨by omega, by omega, fun j hj => by have := h.2 j hj; omega⟩)
    obtain ⟨a1, k1, rfl, -⟩ := h
    generalize x.1 = s at *
    clear HI hx
    go_enter Tryz.func45, Tryz.ntmps45
    go_wp2_with fail
    refine K.out.mono ?_
    rintro e w2 ⟨z, rfl, hb2, hz⟩
    have HB2 := hid (bt HB.out hb2)
    clear hb2 K
    rcases hz with rfl | ⟨g0, g1, g2, g3⟩
    · go_wp2
      go_ret
      exact ⟨_, rfl, HB2.out, Or.inl rfl⟩
    · have hneg : ¬ (z < 0) := by omega
      have HG := hid (HOK.out ⟨g2, g3⟩)
      clear g3 HOK
      go_wp2
      go_ret
      exact ⟨_, rfl, HB2.out, Or.inr ⟨g0, by omega, HG.out⟩⟩

set_option maxHeartbeats 2000000 in
set_option maxRecDepth 1000000 in
theorem szAtomS_calls (w : World) (v : Value) (l : List AtomV) (left : Int) (h : IAt w v l) (hl : l.length ≤ 9223372036854775807) (hz : ∀ j, FitAt (l.getD j noAt)) (h1 : 0 ≤ left) (h2 : left ≤ 1048576) :
    Calls Tryz.prog 19 #[v, .int .i64 left] w fun e w' => ∃ z : Int, e = .returned (.int .i64 z) ∧ Below w.heap.size w w' ∧ (z = -1 ∨ (0 ≤ z ∧ z ≤ left ∧ (l.length : Int) ≤ left ∧ ∀ j, j < l.length → OkAt (l.getD j noAt))) := by
  obtain ⟨a, cap, rfl, hc⟩ := h
  obtain ⟨n, hn⟩ : ∃ n, n = l.length := ⟨_, rfl⟩
  rw [← hn] at hc hl ⊢
  have HC := hid hc
  have HZ := hid hz
  clear hc hz hn
  by_cases h3 : left - (n : Int) < 0
  · go_enter Tryz.func19, Tryz.ntmps19
    go_wp2
    go_ret
    exact ⟨_, rfl, Below.refl _ _, Or.inl rfl⟩
  · go_enter Tryz.func19, Tryz.ntmps19
    go_wp2
    go_loopw [1, 5] (fun v t wr => ∃ (j : Nat) (z : Int), j ≤ n ∧ t = .int .i64 j ∧ v = .int .i64 z ∧ 0 ≤ z ∧ z ≤ left - n ∧ Hid (Below w.heap.size w wr ∧ ∀ i, i < j → OkAt (l.getD i noAt))) (fun _ t _ => n - (intOf t).toNat)
    case atStart => exact ⟨0, _, Nat.zero_le _, rfl, rfl, by omega, by omega, hid ⟨Below.refl _ _, fun i hi => by omega⟩⟩
    case round =>
      obtain ⟨j, z, hj, rfl, rfl, hz0, hz1, HH⟩ := hrel
      by_cases hjn : j < n
      · have i1 : (j : Int) < (n : Int) := by omega
        rcases HC.out with h0 | ⟨b, o, rfl, hcell⟩
        · omega
        · obtain ⟨u, c0, c1, hit⟩ := (hcell j hjn).below HH.out.1
          have HH2 : Hid (OkAt (l.getD j noAt) → ∀ i, i < j + 1 → OkAt (l.getD i noAt)) := hid (fun h i hi => by
            by_cases e : i = j
            · rw [e]; exact h
            · exact HH.out.2 i (by omega))
          have K := hid (szAtom_calls wr u (l.getD j noAt) z hit (HZ.out j) hz0 (by omega))
          obtain ⟨ua, uc, eu, -⟩ := hit
          subst eu
          clear hcell
          generalize l.getD j noAt = x at *
          go_wp2_with fail
          refine K.out.mono ?_
          rintro e w2 ⟨z2, rfl, hb2, hz2⟩
          have HB2 := hid (bt HH.out.1 hb2)
          clear hb2 K c0 c1
          rcases hz2 with rfl | ⟨g0, g1, g2⟩
          · go_wp2
            go_ret
            exact ⟨_, rfl, HB2.out, Or.inl rfl⟩
          · have hneg : ¬ (z2 < 0) := by omega
            have HG := hid (HH2.out g2)
            clear g2
            go_wp2
            go_roundw
            case rel => exact ⟨j + 1, z2, by omega, by go_num, rfl, g0, by omega, hid ⟨HB2.out, HG.out⟩⟩
            case measure => simp [intOf]; omega
      · obtain rfl : j = n := by omega
        have i1 : ¬ ((j : Int) < (j : Int)) := by omega
        go_wp2
        go_ret
        exact ⟨_, rfl, HH.out.1, Or.inr ⟨hz0, by omega, by omega, HH.out.2⟩⟩

structure QV where
  name : ByteArray
  head : List ByteArray
  ring : Int
  atoms : List AtomV

structure IQ (w : World) (vh va : Value) (q : QV) : Prop where
  head : ISt w vh q.head
  atoms : IAt w va q.atoms

theorem IQ.below {w w' : World} {vh va : Value} {q : QV} (h : IQ w vh va q) (hb : Below w.heap.size w w') : IQ w' vh va q := ⟨h.head.below hb, h.atoms.below hb⟩

structure FitQ (q : QV) : Prop where
  name : q.name.size ≤ 9223372036854775807
  len : q.head.length ≤ 9223372036854775807
  head : ∀ j, (q.head.getD j noTx).size ≤ 9223372036854775807
  alen : q.atoms.length ≤ 9223372036854775807
  atoms : ∀ j, FitAt (q.atoms.getD j noAt)
structure OkQ (q : QV) : Prop where
  name : q.name.size ≤ 1048576
  len : q.head.length ≤ 1048576
  head : ∀ j, j < q.head.length → (q.head.getD j noTx).size ≤ 1048576
  alen : q.atoms.length ≤ 1048576
  atoms : ∀ j, j < q.atoms.length → OkAt (q.atoms.getD j noAt)

set_option maxHeartbeats 2000000 in
set_option maxRecDepth 1000000 in
theorem szQuery_calls (w : World) (vh va : Value) (q : QV) (h : IQ w vh va q) (hq : FitQ q) :
    Calls Tryz.prog 5 #[.agg #[.string q.name, vh, .int .i64 q.ring, va], .int .i64 1048576] w fun e w' => ∃ z : Int, e = .returned (.int .i64 z) ∧ Below w.heap.size w w' ∧ (z = -1 ∨ (0 ≤ z ∧ OkQ q)) := by
  have HB : Hid (Below w.heap.size w (w.alloc (.cells #[.string q.name, vh, .int .i64 q.ring, va] 28))) := hid ((Below.refl _ _).alloc (Nat.le_refl _) _)
  have hs := hq.name
  have HI := hid h
  have HQ := hid hq
  obtain ⟨a1, k1, e1, -⟩ := h.head
  obtain ⟨a2, k2, e2, -⟩ := h.atoms
  subst e1 e2
  clear h hq
  obtain ⟨W1, hW1⟩ : ∃ W, W = w.alloc (.cells #[.string q.name, .slice a1 q.head.length k1, .int .i64 q.ring, .slice a2 q.atoms.length k2] 28) := ⟨_, rfl⟩
  have c0 : W1.cell? ⟨w.heap.size, 0, none⟩ = some (.string q.name) := by rw [hW1, World.cell?_alloc_at _ _ _ _ rfl]; rfl
  have c1 : W1.cell? ⟨w.heap.size, 1, none⟩ = some (.slice a1 q.head.length k1) := by rw [hW1, World.cell?_alloc_at _ _ _ _ rfl]; rfl
  have c3 : W1.cell? ⟨w.heap.size, 3, none⟩ = some (.slice a2 q.atoms.length k2) := by rw [hW1, World.cell?_alloc_at _ _ _ _ rfl]; rfl
  have hlt : w.heap.size < W1.heap.size := by rw [hW1]; simp
  rw [← hW1] at HB
  by_cases h3 : (1048576 : Int) - (q.name.size : Int) < 0
  · generalize q.name = s at *
    go_enter Tryz.func5, Tryz.ntmps5
    go_upto_region 1 with fail
    rw [← hW1]
    clear hW1
    go_wp2
    go_ret
    exact ⟨_, rfl, HB.out, Or.inl rfl⟩
  · have K := hid (szStringS_calls W1 _ q.head (1048576 - (q.name.size : Int)) (HI.out.head.below HB.out) HQ.out.len HQ.out.head (by omega) (by omega))
    have HNM : Hid (q.name.size ≤ 1048576) := hid (by omega)
    generalize hnm : q.name = s at *
    have HE := hid hnm
    clear hnm
    go_enter Tryz.func5, Tryz.ntmps5
    go_upto_region 1 with fail
    rw [← hW1]
    clear hW1
    go_wp2_with fail
    refine K.out.mono ?_
    rintro e w2 ⟨z, rfl, hw2, hz⟩
    subst w2
    clear K
    rcases hz with rfl | ⟨g0, g1, g2, g3⟩
    · go_wp2
      go_ret
      exact ⟨_, rfl, HB.out, Or.inl rfl⟩
    · have hneg : ¬ (z < 0) := by omega
      have HG := hid (And.intro g2 g3)
      have K := hid (szAtomS_calls W1 _ q.atoms z (HI.out.atoms.below HB.out) HQ.out.alen HQ.out.atoms g0 (by omega))
      clear g2 g3
      go_wp2_with fail
      refine K.out.mono ?_
      rintro e w3 ⟨z3, rfl, hb3, hz3⟩
      have HB3 := hid (bt HB.out hb3)
      clear hb3 K
      rcases hz3 with rfl | ⟨k0, k1', k2', k3⟩
      · go_wp2
        go_ret
        exact ⟨_, rfl, HB3.out, Or.inl rfl⟩
      · have hneg : ¬ (z3 < 0) := by omega
        have HK := hid k3
        clear k3
        go_wp2
        go_ret
        exact ⟨_, rfl, HB3.out, Or.inr ⟨k0, by rw [HE.out]; exact HNM.out, by have := HG.out.1; omega, fun j hj => by have := HG.out.2 j hj; omega, by omega, HK.out⟩⟩

end Go.Proofs.YtegcpplkcahkhaaGreat

/-
  Queries: laws.eqQuery, toQuery.
-/
namespace Go.Proofs.YtegcpplkcahkhaaGreat
open Go.RowKit

set_option maxHeartbeats 4000000 in
set_option maxRecDepth 1000000 in
theorem eqQuery_same (w : World) (vh va uh ua : Value) (q : QV) (h : IQ w vh va q) (h' : IQ w uh ua q) (hq : OkQ q) :
    Calls Tryz.prog 12 #[.agg #[.string q.name, vh, .int .i64 q.ring, va], .agg #[.string q.name, uh, .int .i64 q.ring, ua]] w fun e w' => e = .returned (.bool true) ∧ Below w.heap.size w w' := by
  have HB : Hid (Below w.heap.size w ((w.alloc (.cells #[.string q.name, vh, .int .i64 q.ring, va] 39)).alloc (.cells #[.string q.name, uh, .int .i64 q.ring, ua] 39))) := hid (((Below.refl _ _).alloc (Nat.le_refl _) _).alloc (by simp) _)
  have HI := hid h
  have HI' := hid h'
  have HQ := hid hq
  obtain ⟨a1, k1, e1, -⟩ := h.head
  obtain ⟨a2, k2, e2, -⟩ := h.atoms
  obtain ⟨b1, l1, e3, -⟩ := h'.head
  obtain ⟨b2, l2, e4, -⟩ := h'.atoms
  subst e1 e2 e3 e4
  clear h h' hq
  generalize hnm : q.name = s at *
  generalize hrg : q.ring = rg at *
  clear hnm hrg
  have q1 : (!s.toList == s.toList) = false := by simp
  have q2 : (rg != rg) = false := by simp
  go_enter Tryz.func12, Tryz.ntmps12
  go_upto_region 1 with fail
  obtain ⟨W1, hW1⟩ : ∃ W, W = (w.alloc (.cells #[.string s, .slice a1 q.head.length k1, .int .i64 rg, .slice a2 q.atoms.length k2] 39)).alloc (.cells #[.string s, .slice b1 q.head.length l1, .int .i64 rg, .slice b2 q.atoms.length l2] 39) := ⟨_, rfl⟩
  have c0 : W1.cell? ⟨w.heap.size, 0, none⟩ = some (.string s) := by rw [hW1, World.cell?_alloc_past _ _ _ (by simp), World.cell?_alloc_at _ _ _ _ rfl]; rfl
  have c1 : W1.cell? ⟨w.heap.size, 1, none⟩ = some (.slice a1 q.head.length k1) := by rw [hW1, World.cell?_alloc_past _ _ _ (by simp), World.cell?_alloc_at _ _ _ _ rfl]; rfl
  have c2 : W1.cell? ⟨w.heap.size, 2, none⟩ = some (.int .i64 rg) := by rw [hW1, World.cell?_alloc_past _ _ _ (by simp), World.cell?_alloc_at _ _ _ _ rfl]; rfl
  have c3 : W1.cell? ⟨w.heap.size, 3, none⟩ = some (.slice a2 q.atoms.length k2) := by rw [hW1, World.cell?_alloc_past _ _ _ (by simp), World.cell?_alloc_at _ _ _ _ rfl]; rfl
  have d0 : W1.cell? ⟨w.heap.size + 1, 0, none⟩ = some (.string s) := by rw [hW1, World.cell?_alloc_at _ _ _ _ (by simp)]; rfl
  have d1 : W1.cell? ⟨w.heap.size + 1, 1, none⟩ = some (.slice b1 q.head.length l1) := by rw [hW1, World.cell?_alloc_at _ _ _ _ (by simp)]; rfl
  have d2 : W1.cell? ⟨w.heap.size + 1, 2, none⟩ = some (.int .i64 rg) := by rw [hW1, World.cell?_alloc_at _ _ _ _ (by simp)]; rfl
  have d3 : W1.cell? ⟨w.heap.size + 1, 3, none⟩ = some (.slice b2 q.atoms.length l2) := by rw [hW1, World.cell?_alloc_at _ _ _ _ (by simp)]; rfl
  rw [← hW1] at HB ⊢
  clear hW1
  go_wp2_with fail
  refine (eqStringS_quiet W1 _ _ q.head (HI.out.head.below HB.out) (HI'.out.head.below HB.out) (by have := HQ.out.len; omega)).mono ?_
  rintro e w1 ⟨rfl, m1, hw1⟩
  subst w1
  have e2 : (W1.drewN m1).cell? ⟨w.heap.size, 2, none⟩ = some (.int .i64 rg) := c2
  have e3 : (W1.drewN m1).cell? ⟨w.heap.size, 3, none⟩ = some (.slice a2 q.atoms.length k2) := c3
  have f2 : (W1.drewN m1).cell? ⟨w.heap.size + 1, 2, none⟩ = some (.int .i64 rg) := d2
  have f3 : (W1.drewN m1).cell? ⟨w.heap.size + 1, 3, none⟩ = some (.slice b2 q.atoms.length l2) := d3
  have HB2 : Hid (Below w.heap.size w (W1.drewN m1)) := hid (below_drewN HB.out _)
  clear c0 c1 c2 c3 d0 d1 d2 d3
  generalize W1.drewN m1 = W2 at *
  go_wp2_with fail
  refine (eqAtomS_same W2 _ _ q.atoms (HI.out.atoms.below HB2.out) (HI'.out.atoms.below HB2.out) (by have := HQ.out.alen; omega) (fun j hj => by have := (HQ.out.atoms j hj).len; omega)).mono ?_
  rintro e w3 ⟨rfl, hb3⟩
  have HB3 := hid (bt HB2.out hb3)
  go_wp2
  go_ret
  exact ⟨rfl, HB3.out⟩

/-- a copy of a query: heads in block gh, atoms in ga and behind; all in blocks from lo on -/
structure OwnQ (W : World) (lo gh ga : Nat) (q : QV) : Prop where
  head : OwnSt W gh q.head
  atoms : OwnAt W ga q.atoms
  lh : lo ≤ gh
  la : gh < ga

theorem OwnQ.below {W W' : World} {lo gh ga : Nat} {q : QV} (h : OwnQ W lo gh ga q) (hb : Below W.heap.size W W') : OwnQ W' lo gh ga q := ⟨h.head.below hb, h.atoms.below hb, h.lh, h.la⟩
theorem OwnQ.is {W : World} {lo gh ga : Nat} {q : QV} (h : OwnQ W lo gh ga q) : IQ W (.slice (some ⟨gh, 0, none⟩) q.head.length q.head.length) (.slice (some ⟨ga, 0, none⟩) q.atoms.length q.atoms.length) q := ⟨h.head.is, h.atoms.is⟩

end Go.Proofs.YtegcpplkcahkhaaGreat

/-
  laws.toQuery.
-/
namespace Go.Proofs.YtegcpplkcahkhaaGreat
open Go.RowKit

set_option maxHeartbeats 8000000 in
set_option maxRecDepth 1000000 in
theorem toQuery_calls (w : World) (v1 v2 : Value) (q : QV) (h : IQ w v1 v2 q) (hq : OkQ q) :
    Calls Tryz.prog 8 #[.agg #[.string q.name, v1, .int .i64 q.ring, v2]] w fun e w' => ∃ gh ga, e = .returned (.agg #[.string q.name, .slice (some ⟨gh, 0, none⟩) q.head.length q.head.length, .int .i64 q.ring, .slice (some ⟨ga, 0, none⟩) q.atoms.length q.atoms.length]) ∧ OwnQ w' w.heap.size gh ga q ∧ Below w.heap.size w w' := by
  have H1 := hid h.head
  have H2 := hid h.atoms
  have HQ := hid hq
  obtain ⟨a1, k1, e1, -⟩ := h.head
  obtain ⟨a2, k2, e2, -⟩ := h.atoms
  subst e1 e2
  clear h hq
  have HT0 := hid (TB4.start w 28 39 39 (.string q.name) (.slice a1 q.head.length k1) (.int .i64 q.ring) (.slice a2 q.atoms.length k2) (.string ⟨#[]⟩) (.slice none 0 0) (.int .i64 0) (.slice none 0 0) (.string q.name) (.slice none 0 0) (.int .i64 0) (.slice none 0 0))
  have K1 := hid (toStringS_calls _ _ q.head (H1.out.below HT0.out.below) HQ.out.len)
  have KA : Hid (∀ W, Below w.heap.size w W → Calls Tryz.prog 28 #[.slice a2 q.atoms.length k2] W fun e w' => e = .returned (.slice (some ⟨W.heap.size, 0, none⟩) q.atoms.length q.atoms.length) ∧ OwnAt w' W.heap.size q.atoms ∧ Below W.heap.size W w') := hid (fun W hb => toAtomS_calls W _ q.atoms (H2.out.below hb) HQ.out.alen (fun j hj => (HQ.out.atoms j hj).len))
  have HFIN : Hid (∀ W gh ga, OwnSt W gh q.head → OwnAt W ga q.atoms → w.heap.size ≤ gh → gh < ga → OwnQ W w.heap.size gh ga q) := hid (fun W gh ga h1 h2 h3 h4 => ⟨h1, h2, h3, h4⟩)
  generalize hnm : q.name = nm at *
  generalize hrg : q.ring = rg at *
  clear H1 H2 HQ hnm hrg
  generalize q.head = hd at *
  generalize q.atoms = at' at *
  go_enter Tryz.func8, Tryz.ntmps8
  go_wp2_with fail
  refine K1.out.mono ?_
  rintro e w2 ⟨rfl, ho1, hb0⟩
  have HT1 := hid (HT0.out.step hb0)
  have y1 := HT1.out.a2
  have y2 := HT1.out.a3
  have y3 := HT1.out.o1
  have y4 := HT1.out.fo1
  have y5 := HT1.out.o2
  have y6 := HT1.out.fo2
  have HO1 : Hid (OwnSt w2 (w.heap.size + 1 + 1 + 1) hd) := hid (by simpa using ho1)
  clear ho1 hb0 K1 HT0
  go_wp2_with fail
  have HT2 := hid ((HT1.out.set1 (.slice (some ⟨w.heap.size + 1 + 1 + 1, 0, none⟩) hd.length hd.length)).set2 (.int .i64 rg))
  have HO2 := hid ((HO1.out.move (w' := w2.setCell ⟨w.heap.size + 1 + 1, 1, none⟩ (.slice (some ⟨w.heap.size + 1 + 1 + 1, 0, none⟩) hd.length hd.length)) (heap_set_ne (by omega)) (by simp [World.setCell])).move (w' := (w2.setCell ⟨w.heap.size + 1 + 1, 1, none⟩ (.slice (some ⟨w.heap.size + 1 + 1 + 1, 0, none⟩) hd.length hd.length)).setCell ⟨w.heap.size + 1 + 1, 2, none⟩ (.int .i64 rg)) (heap_set_ne (by omega)) (by simp [World.setCell]))
  refine (KA.out _ HT2.out.below).mono ?_
  rintro e w3 ⟨rfl, ho2, hb1⟩
  have HT3 := hid (HT2.out.step hb1)
  have z0 := HT3.out.o0
  have z1 := HT3.out.o1
  have z2 := HT3.out.o2
  have z3 := HT3.out.o3
  have z4 := HT3.out.fo3
  have z5 := HT3.out.r0
  have z6 := HT3.out.r1
  have z7 := HT3.out.r2
  have z8 := HT3.out.r3
  have z9 := HT3.out.fr0
  have z10 := HT3.out.fr1
  have z11 := HT3.out.fr2
  have z12 := HT3.out.fr3
  have HO3 := hid (HO2.out.below hb1)
  have hg : w.heap.size + 1 + 1 + 1 < ((w2.setCell ⟨w.heap.size + 1 + 1, 1, none⟩ (.slice (some ⟨w.heap.size + 1 + 1 + 1, 0, none⟩) hd.length hd.length)).setCell ⟨w.heap.size + 1 + 1, 2, none⟩ (.int .i64 rg)).heap.size := HO2.out.lt
  have HO4 := hid ho2
  generalize ((w2.setCell ⟨w.heap.size + 1 + 1, 1, none⟩ (.slice (some ⟨w.heap.size + 1 + 1 + 1, 0, none⟩) hd.length hd.length)).setCell ⟨w.heap.size + 1 + 1, 2, none⟩ (.int .i64 rg)).heap.size = ga at *
  clear ho2 hb1 y1 y2 y3 y4 y5 y6 HO1 HO2 KA HT2 HT1
  go_wp2
  have hmv : ∀ (X : World) (c o : Nat) (u : Value), c < w.heap.size + 1 + 1 + 1 → OwnSt X (w.heap.size + 1 + 1 + 1) hd ∧ OwnAt X ga at' → OwnSt (X.setCell ⟨c, o, none⟩ u) (w.heap.size + 1 + 1 + 1) hd ∧ OwnAt (X.setCell ⟨c, o, none⟩ u) ga at' := fun X c o u hc ⟨h1, h2⟩ => ⟨h1.move (heap_set_ne (by omega)) (by simp [World.setCell]), h2.set (by omega)⟩
  have hfin := hmv _ (w.heap.size + 1) 3 (.slice (some ⟨ga, 0, none⟩) at'.length at'.length) (by omega) (hmv _ (w.heap.size + 1) 2 (.int .i64 rg) (by omega) (hmv _ (w.heap.size + 1) 1 (.slice (some ⟨w.heap.size + 1 + 1 + 1, 0, none⟩) hd.length hd.length) (by omega) (hmv _ (w.heap.size + 1) 0 (.string nm) (by omega) (hmv w3 (w.heap.size + 1 + 1) 3 (.slice (some ⟨ga, 0, none⟩) at'.length at'.length) (by omega) ⟨HO3.out, HO4.out⟩))))
  refine bodyPost_ret (v := .agg #[.string nm, .slice (some ⟨w.heap.size + 1 + 1 + 1, 0, none⟩) hd.length hd.length, .int .i64 rg, .slice (some ⟨ga, 0, none⟩) at'.length at'.length]) (by simp [results, Tryz.results8, go_sem, z5, z6, z7, z8]) rfl
    ⟨_, _, rfl, HFIN.out _ _ _ hfin.1 hfin.2 (by omega) hg,
    ((((HT3.out.below.setCell (by show w.heap.size ≤ w.heap.size + 1 + 1; omega) _).setCell (by show w.heap.size ≤ w.heap.size + 1; omega) _).setCell (by show w.heap.size ≤ w.heap.size + 1; omega) _).setCell (by show w.heap.size ≤ w.heap.size + 1; omega) _).setCell (by show w.heap.size ≤ w.heap.size + 1; omega) _⟩

end Go.Proofs.YtegcpplkcahkhaaGreat
