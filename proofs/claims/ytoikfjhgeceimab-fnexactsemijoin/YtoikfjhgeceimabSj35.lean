import Derived.Test.YtoikfjhgeceimabSj12
import Derived.Test.YtoikfjhgeceimabSj26
/-
  spec.Project.
-/
namespace Go.Proofs.Ytoikfjhgeceimab
open Go.RowKit

theorem nil_it (W : World) : IT W (.slice none 0 0) (.slice none 0 0) (.slice none 0 0) [] [] [] := ⟨⟨_, _, rfl, Or.inl rfl⟩, ⟨_, _, rfl, Or.inl rfl⟩, ⟨_, _, rfl, Or.inl rfl⟩⟩

set_option maxHeartbeats 1000000 in
set_option maxRecDepth 1000000 in
theorem sProject_calls (w : World) (v0 v1 v2 : Value) (ad : Addr) (cv : Nat) (vs : List Int) (rows : List (List Int)) (ws vars : List Int) (h : IT w v0 v1 v2 vs rows ws) (hv : IS w (.slice (some ad) vars.length cv) vars) (hlv : vars.length ≤ 1099511627776) (hls : vs.length ≤ 1099511627776) (hS : Short rows) :
    Calls Try.prog 42 #[.agg #[v0, v1, v2], .slice (some ad) vars.length cv] w fun e w' => ∃ x0 x1 x2, e = .returned (.agg #[x0, x1, x2]) ∧ (if prjB vs rows ws vars = true then IT w' x0 x1 x2 vars (srt (rows.map (prjR vs vars))) (ones (srt (rows.map (prjR vs vars))).length) else IT w' x0 x1 x2 [] [] []) ∧ Below w.heap.size w w' := by
  obtain ⟨W1, hW1⟩ : ∃ W1, W1 = (w.alloc (.cells #[v0, v1, v2] 62)).alloc (.cells #[.slice none 0 0, .slice none 0 0, .slice none 0 0] 62) := ⟨_, rfl⟩
  have hB1 : Below w.heap.size w W1 := by rw [hW1]; exact ((Below.refl _ _).alloc (Nat.le_refl _) _).alloc (by simp) _
  have HT1 : Hid (TX W1 w.heap.size v0 v1 v2) := hid (by rw [hW1]; exact (TX.made _ _ _ _).below ((Below.refl _ _).alloc (Nat.le_refl _) _))
  have HR1 : Hid (TX W1 (w.heap.size + 1) (.slice none 0 0) (.slice none 0 0) (.slice none 0 0)) := hid (by
    rw [hW1]
    have := TX.made (w.alloc (.cells #[v0, v1, v2] 62)) (.slice none 0 0) (.slice none 0 0) (.slice none 0 0)
    rw [World.size_alloc] at this
    exact this)
  have HI : Hid (∀ W, Below W1.heap.size W1 W → IT W v0 v1 v2 vs rows ws ∧ IS W (.slice (some ad) vars.length cv) vars) := hid fun W hW => ⟨h.below (bt hB1 hW), hv.below (bt hB1 hW)⟩
  have KT := hid (sTableOK_calls W1 v0 v1 v2 vs rows ws (HI.out W1 (Below.refl _ _)).1 hls hS)
  have KV : Hid (∀ W, Below W1.heap.size W1 W → Calls Try.prog 64 #[.slice (some ad) vars.length cv, .int .i64 6] W fun e w' => e = .returned (.bool (setB vars)) ∧ w' = W) := hid fun W hW => l1SetOK_calls W _ vars (HI.out W hW).2 hlv
  have KP : Hid (∀ W, Below W1.heap.size W1 W → Calls Try.prog 87 #[.slice (some ad) vars.length cv, v0] W fun e w' => e = .returned (.bool (subQ vars vs)) ∧ w' = W) := hid fun W hW => subset_calls W _ v0 vars vs (HI.out W hW).2 hlv (HI.out W hW).1.vs hls
  have HB1 := hid hB1
  obtain ⟨a0, c0, e0, -⟩ := h.vs
  obtain ⟨a1, c1, e1, -⟩ := h.rows
  obtain ⟨a2, c2, e2, -⟩ := h.ws
  have d0 := HT1.out.c0
  have d1 := HT1.out.c1
  have d2 := HT1.out.c2
  subst e0 e1 e2
  have KPr : Hid (prjB vs rows ws vars = true → ∀ W, Below W1.heap.size W1 W → Calls Try.prog 88 #[.agg #[.slice a0 vs.length c0, .slice a1 rows.length c1, .slice a2 ws.length c2], .slice (some ad) vars.length cv] W fun e w' => ∃ x0 x1 x2, e = .returned (.agg #[x0, x1, x2]) ∧ IT w' x0 x1 x2 vars (srt (rows.map (prjR vs vars))) (ones (srt (rows.map (prjR vs vars))).length) ∧ (∀ g, x1.ownBlock = some g → W.heap.size ≤ g) ∧ Below W.heap.size W w') := hid fun hb W hW => by
    unfold prjB at hb
    simp only [Bool.and_eq_true] at hb
    obtain ⟨⟨h1, h2⟩, h3⟩ := hb
    obtain ⟨h4, h5, h6⟩ := tableB_rows h1
    have := setB_six h2
    have := setB_six h4
    exact (l2Project_calls W _ _ _ ad cv vs rows ws vars (HI.out W hW).1 (HI.out W hW).2 (by omega) (by omega) (by omega) h6).mono fun e w' ⟨x0, x1, x2, h1, h2, h3, h4, _⟩ => ⟨x0, x1, x2, h1, h2, h3, h4⟩
  clear h hB1 hlv hls hS HI hv
  unfold prjB at *
  cases ht : tableB vs rows ws
  · rw [ht] at KT
    clear KV KP KPr ht
    generalize vs.length = l0 at *
    generalize rows.length = l1 at *
    generalize ws.length = l2 at *
    generalize vars.length = l3 at *
    go_enter Try.func42, Try.ntmps42
    go_upto_region 1 with fail
    rw [← hW1]
    clear hW1
    go_wp2_with fail
    refine KT.out.mono ?_
    rintro e w2 ⟨rfl, hb2⟩
    have HR2 := hid (HR1.out.below hb2)
    have HT2 := hid (HT1.out.below hb2)
    have HQ2 := hid hb2
    have HB2 := hid (bt HB1.out hb2)
    have d0 := HT2.out.c0
    clear hb2 KT HR1 d1 d2 HB1 HT1
    have f0 := HR2.out.free 0
    have f1 := HR2.out.free 1
    have f2 := HR2.out.free 2
    have r0 := HR2.out.c0
    have r1 := HR2.out.c1
    have r2 := HR2.out.c2
    go_wp2_with fail
    refine bodyPost_ret (v := .agg #[.slice none 0 0, .slice none 0 0, .slice none 0 0]) (by simp [results, Try.results42, go_sem, r0, r1, r2]) rfl ⟨_, _, _, rfl, nil_it _, ((HB2.out.setCell (Nat.le_succ _) _).setCell (Nat.le_succ _) _).setCell (Nat.le_succ _) _⟩
  · cases hs : setB vars
    · rw [ht] at KT
      rw [hs] at KV
      clear KP KPr ht hs
      generalize vs.length = l0 at *
      generalize rows.length = l1 at *
      generalize ws.length = l2 at *
      generalize vars.length = l3 at *
      go_enter Try.func42, Try.ntmps42
      go_upto_region 1 with fail
      rw [← hW1]
      clear hW1
      go_wp2_with fail
      refine KT.out.mono ?_
      rintro e w2 ⟨rfl, hb2⟩
      have HR2 := hid (HR1.out.below hb2)
      have HT2 := hid (HT1.out.below hb2)
      have HQ2 := hid hb2
      have HB2 := hid (bt HB1.out hb2)
      have d0 := HT2.out.c0
      clear hb2 KT HR1 d1 d2 HB1 HT1
      go_wp2_with fail
      refine (KV.out w2 HQ2.out).mono ?_
      rintro e w3 ⟨rfl, hw3⟩
      subst w3
      have f0 := HR2.out.free 0
      have f1 := HR2.out.free 1
      have f2 := HR2.out.free 2
      have r0 := HR2.out.c0
      have r1 := HR2.out.c1
      have r2 := HR2.out.c2
      go_wp2_with fail
      refine bodyPost_ret (v := .agg #[.slice none 0 0, .slice none 0 0, .slice none 0 0]) (by simp [results, Try.results42, go_sem, r0, r1, r2]) rfl ⟨_, _, _, rfl, nil_it _, ((HB2.out.setCell (Nat.le_succ _) _).setCell (Nat.le_succ _) _).setCell (Nat.le_succ _) _⟩
    · cases hq : subQ vars vs
      · rw [ht] at KT
        rw [hs] at KV
        rw [hq] at KP
        clear KPr ht hs hq
        generalize vs.length = l0 at *
        generalize rows.length = l1 at *
        generalize ws.length = l2 at *
        generalize vars.length = l3 at *
        go_enter Try.func42, Try.ntmps42
        go_upto_region 1 with fail
        rw [← hW1]
        clear hW1
        go_wp2_with fail
        refine KT.out.mono ?_
        rintro e w2 ⟨rfl, hb2⟩
        have HR2 := hid (HR1.out.below hb2)
        have HT2 := hid (HT1.out.below hb2)
        have HQ2 := hid hb2
        have HB2 := hid (bt HB1.out hb2)
        have d0 := HT2.out.c0
        clear hb2 KT HR1 d1 d2 HB1 HT1
        go_wp2_with fail
        refine (KV.out w2 HQ2.out).mono ?_
        rintro e w3 ⟨rfl, hw3⟩
        subst w3
        go_wp2_with fail
        refine (KP.out w2 HQ2.out).mono ?_
        rintro e w3 ⟨rfl, hw3⟩
        subst w3
        have f0 := HR2.out.free 0
        have f1 := HR2.out.free 1
        have f2 := HR2.out.free 2
        have r0 := HR2.out.c0
        have r1 := HR2.out.c1
        have r2 := HR2.out.c2
        go_wp2_with fail
        refine bodyPost_ret (v := .agg #[.slice none 0 0, .slice none 0 0, .slice none 0 0]) (by simp [results, Try.results42, go_sem, r0, r1, r2]) rfl ⟨_, _, _, rfl, nil_it _, ((HB2.out.setCell (Nat.le_succ _) _).setCell (Nat.le_succ _) _).setCell (Nat.le_succ _) _⟩
      · have KPr' := hid (KPr.out (by rw [ht, hs, hq]; rfl))
        rw [ht] at KT
        rw [hs] at KV
        rw [hq] at KP
        clear KPr ht hs hq
        obtain ⟨R, hR⟩ : ∃ R, R = srt (rows.map (prjR vs vars)) := ⟨_, rfl⟩
        have HRe := hid hR
        rw [← hR] at KPr'
        clear hR
        generalize vs.length = l0 at *
        generalize rows.length = l1 at *
        generalize ws.length = l2 at *
        generalize hl3 : vars.length = l3 at *
        have HL3 := hid hl3
        clear hl3
        go_enter Try.func42, Try.ntmps42
        go_upto_region 1 with fail
        rw [← hW1]
        clear hW1
        go_wp2_with fail
        refine KT.out.mono ?_
        rintro e w2 ⟨rfl, hb2⟩
        have HR2 := hid (HR1.out.below hb2)
        have HT2 := hid (HT1.out.below hb2)
        have HQ2 := hid hb2
        have HB2 := hid (bt HB1.out hb2)
        have d0 := HT2.out.c0
        clear hb2 KT HR1 d1 d2 HB1 HT1
        go_wp2_with fail
        refine (KV.out w2 HQ2.out).mono ?_
        rintro e w3 ⟨rfl, hw3⟩
        subst w3
        go_wp2_with fail
        refine (KP.out w2 HQ2.out).mono ?_
        rintro e w3 ⟨rfl, hw3⟩
        subst w3
        have d1 := HT2.out.c1
        have d2 := HT2.out.c2
        go_wp2_with fail
        refine (KPr'.out w2 HQ2.out).mono ?_
        rintro e w4 ⟨x0, x1, x2, rfl, hI4, hN4, hb4⟩
        have HR4 := hid (HR2.out.below hb4)
        have HB4 := hid (bt HB2.out hb4)
        have HI4 := hid hI4
        have HNe : Hid (x1.ownBlock ≠ some (w.heap.size + 1)) := hid fun e => by
          have e1 := hN4 _ e
          have e2 := HR2.out.lt
          omega
        obtain ⟨b0, k0, e0, -⟩ := hI4.vs
        obtain ⟨b1, k1, e1, -⟩ := hI4.rows
        obtain ⟨b2, k2, e2, -⟩ := hI4.ws
        subst e0 e1 e2
        clear hI4 hb4 hN4 HR2 HB2 HQ2 HT2 KPr' d0 d1 d2
        have hlO := ones_len R.length
        have f0 := HR4.out.free 0
        have f1 := HR4.out.free 1
        have f2 := HR4.out.free 2
        have r0 := HR4.out.c0
        have r1 := HR4.out.c1
        have r2 := HR4.out.c2
        have hVL := HL3.out
        have HFin : Hid (∀ y0 y1 y2, IT (((w4.setCell ⟨w.heap.size + 1, 0, none⟩ y0).setCell ⟨w.heap.size + 1, 1, none⟩ y1).setCell ⟨w.heap.size + 1, 2, none⟩ y2) (.slice b0 vars.length k0) (.slice b1 R.length k1) (.slice b2 (ones R.length).length k2) vars R (ones R.length)) := hid fun y0 y1 y2 => ⟨is_set3 HI4.out.vs HR4.out _ _ _, iss_set3 HI4.out.rows HR4.out HNe.out _ _ _, is_set3 HI4.out.ws HR4.out _ _ _⟩
        rw [hlO, hVL] at HFin
        rw [hlO, hVL]
        clear hlO hVL HI4 HNe
        go_wp2_with fail
        refine bodyPost_ret (v := .agg #[.slice b0 l3 k0, .slice b1 R.length k1, .slice b2 R.length k2]) (by simp [results, Try.results42, go_sem, r0, r1, r2]) rfl ⟨_, _, _, rfl, ?_, ((HB4.out.setCell (Nat.le_succ _) _).setCell (Nat.le_succ _) _).setCell (Nat.le_succ _) _⟩
        rw [← HRe.out]
        exact HFin.out _ _ _

end Go.Proofs.Ytoikfjhgeceimab

/-
  Rows and a table's lists are marked, and the marks are found again.
-/
namespace Go.Proofs.Ytoikfjhgeceimab
open Go.RowKit

def lenQ (ls : List (List Int)) : Nat → Nat
  | 0 => 0
  | j + 1 => lenQ ls j + (ls.getD j []).length
theorem lenQ_le (ls : List (List Int)) : ∀ {i j : Nat}, i ≤ j → lenQ ls i ≤ lenQ ls j
  | i, 0, h => by
    have e : i = 0 := Nat.le_zero.1 h
    subst e
    exact Nat.le_refl _
  | i, j + 1, h => by
    by_cases e : i = j + 1
    · rw [e]; exact Nat.le_refl _
    · exact Nat.le_trans (lenQ_le ls (i := i) (j := j) (by omega)) (Nat.le_add_right _ _)

theorem mark_heldQ (w : World) (B : Nat) (v : Value) (l : List Int) (k : Int) (h : w.ownsRow B 3 1 v l.length (l.map (Value.int .i64))) (hl : l.length ≤ 1099511627776) (hk : 0 ≤ k) (hk' : k ≤ 1099511627776) :
    Calls Try.prog 28 #[v, .int .i64 k] w fun e w' => e = .returned (.int .i64 (k + l.length)) ∧ (∀ b, some b ≠ v.ownBlock → w'.heap[b]? = w.heap[b]?) ∧ w'.heap.size = w.heap.size ∧ Below B w w' ∧
      ∀ W, (∀ g, v.ownBlock = some g → W.heap[g]? = w'.heap[g]?) → w'.heap.size ≤ W.heap.size → Calls Try.prog 50 #[v, .int .i64 k] W fun e w'' => e = .returned (.int .i64 (k + l.length)) ∧ w'' = W := by
  rcases h.2 with ⟨rfl, h2⟩ | ⟨g, cap, cur, rfl, hb', hc, hr⟩
  · rw [h2]
    refine (markIntS_nil w none 0 k).mono ?_
    rintro e w' ⟨rfl, rfl⟩
    refine ⟨by simp, fun b _ => rfl, rfl, Below.refl _ _, fun W _ _ => ?_⟩
    have := heldIntS_nil W none 0 k
    simpa using this
  · refine (markIntS_cap w g cap l k (own_ownI h) hl hk hk').mono ?_
    rintro e w' ⟨rfl, ho, hog⟩
    exact ⟨rfl, fun b hb => hog.block b (fun e => hb (by rw [e]; rfl)), hog.size, hog.below hb', fun W hW hs => heldIntS_cap W g cap l.length k (ho.move (hW g rfl) hs) hl hk hk'⟩

/-- what has been marked of the first j rows -/
structure MkQ (w wr : World) (B : Nat) (vs : List Value) (ls : List (List Int)) (k : Int) (j : Nat) : Prop where
  size : wr.heap.size = w.heap.size
  bel : Below B w wr
  far : ∀ q, (∀ i, i < j → some q ≠ (vs.getD i undef).ownBlock) → wr.heap[q]? = w.heap[q]?
  held : ∀ i, i < j → ∀ W, (∀ q, (vs.getD i undef).ownBlock = some q → W.heap[q]? = wr.heap[q]?) → wr.heap.size ≤ W.heap.size → Calls Try.prog 50 #[vs.getD i undef, .int .i64 (k + lenQ ls i)] W fun e w'' => e = .returned (.int .i64 (k + lenQ ls i + (ls.getD i []).length)) ∧ w'' = W

theorem MkQ.step {w wr w2 : World} {B : Nat} {vs : List Value} {ls : List (List Int)} {k : Int} {j : Nat} (h : MkQ w wr B vs ls k j) (hap : ∀ i, i < j → Ap' (vs.getD i undef) (vs.getD j undef))
    (h1 : ∀ b, some b ≠ (vs.getD j undef).ownBlock → w2.heap[b]? = wr.heap[b]?) (h2 : w2.heap.size = wr.heap.size) (h3 : Below B wr w2)
    (h4 : ∀ W, (∀ g, (vs.getD j undef).ownBlock = some g → W.heap[g]? = w2.heap[g]?) → w2.heap.size ≤ W.heap.size → Calls Try.prog 50 #[vs.getD j undef, .int .i64 (k + lenQ ls j)] W fun e w'' => e = .returned (.int .i64 (k + lenQ ls j + (ls.getD j []).length)) ∧ w'' = W) : MkQ w w2 B vs ls k (j + 1) := by
  refine ⟨h2.trans h.size, h.bel.trans h3, fun q hq => (h1 q (hq j (by omega))).trans (h.far q fun i hi => hq i (by omega)), fun i hi W hW hs => ?_⟩
  by_cases e : i = j
  · subst e; exact h4 W hW hs
  · exact h.held i (by omega) W (fun q hq => (hW q hq).trans (h1 q (fun e2 => hap i (by omega) q hq e2.symm))) (by omega)

set_option maxHeartbeats 4000000 in
set_option maxRecDepth 1000000 in
theorem marksQ (w : World) (B : Nat) (v : Value) (vs : List Value) (ls : List (List Int)) (k : Int) (h : RQ w B v vs ls) (hap : ∀ i j, i < j → j < ls.length → Ap' (vs.getD i undef) (vs.getD j undef)) (hl : lenQ ls ls.length ≤ 1048576) (hn1 : ls.length ≤ 1048576) (hk : 0 ≤ k) (hk' : k ≤ 8388608) :
    Calls Try.prog 29 #[v, .int .i64 k] w fun e w' => e = .returned (.int .i64 (k + lenQ ls ls.length)) ∧ MkQ w w' B vs ls k ls.length := by
  have HCell : Hid (∀ wr j, MkQ w wr B vs ls k j → j < ls.length → ∃ g cap, v = .slice (some ⟨g, 0, none⟩) ls.length cap ∧ wr.cell? ⟨g, j, none⟩ = some (vs.getD j undef) ∧ wr.ownsRow B 3 1 (vs.getD j undef) (ls.getD j []).length ((ls.getD j []).map (Value.int .i64))) := hid fun wr j hM hj => by
    obtain ⟨g, cap, e, -, hc⟩ := h.get hj
    have ht := own_typ h.own (g := g) (by rw [e]; rfl)
    refine ⟨g, cap, e, (World.cell?_of_block (w := w) (a := ⟨g, j, none⟩) (hM.far g fun i hi => own_ne (h.each i (by omega)) ht (by decide))).trans hc, own_move (h.each j hj) fun q hq => hM.far q fun i hi e2 => hap i j hi hj q e2.symm hq⟩
  have HStep : Hid (∀ wr w2 j, MkQ w wr B vs ls k j → j < ls.length → (∀ b, some b ≠ (vs.getD j undef).ownBlock → w2.heap[b]? = wr.heap[b]?) → w2.heap.size = wr.heap.size → Below B wr w2 → _ → MkQ w w2 B vs ls k (j + 1)) := hid fun wr w2 j hM hj h1 h2 h3 h4 => hM.step (fun i hi => hap i j hi hj) h1 h2 h3 h4
  have HLe : Hid (∀ i, i ≤ ls.length → lenQ ls i ≤ 1048576) := hid fun i hi => Nat.le_trans (lenQ_le ls hi) hl
  have HLs : Hid (∀ i, lenQ ls (i + 1) = lenQ ls i + (ls.getD i []).length) := hid fun i => rfl
  obtain ⟨a, cap, rfl⟩ := h.sl
  clear h hap hl
  obtain ⟨n, hn⟩ : ∃ n, n = ls.length := ⟨_, rfl⟩
  rw [← hn] at HCell HStep HLe hn1 ⊢
  clear hn
  go_enter Try.func29, Try.ntmps29
  go_wp2
  go_loopw [1, 5] (fun u t wr => ∃ j : Nat, j ≤ n ∧ t = .int .i64 j ∧ ∃ c : Int, u = .int .i64 c ∧ 0 ≤ c ∧ c ≤ 9437184 ∧ Hid (c = k + lenQ ls j ∧ MkQ w wr B vs ls k j)) (fun _ t _ => n - (intOf t).toNat)
  case atStart => exact ⟨0, Nat.zero_le _, rfl, _, rfl, by omega, by omega, hid ⟨by show k = k + ((0 : Nat) : Int); omega, rfl, Below.refl _ _, fun _ _ => rfl, fun i hi => by omega⟩⟩
  case round =>
    obtain ⟨j, hj, rfl, c, rfl, hc0, hc1, hok⟩ := hrel
    by_cases hjn : j < n
    · have i1 : (j : Int) < (n : Int) := by omega
      obtain ⟨g, cp, e, c1, ho⟩ := HCell.out wr j hok.out.2 hjn
      simp only [Value.slice.injEq, true_and] at e
      obtain ⟨rfl, rfl⟩ := e
      have hle := HLe.out (j + 1) (by omega)
      rw [HLs.out j] at hle
      have hcj := hok.out.1
      have HK := hid (mark_heldQ wr B _ _ c ho (by omega) hc0 (by omega))
      rw [hcj] at HK
      have HST := hid (fun w2 => HStep.out wr w2 j hok.out.2 hjn)
      have hR : Hid (k + lenQ ls j + ((ls.getD j []).length : Int) = k + lenQ ls (j + 1)) := hid (by rw [HLs.out j]; omega)
      obtain ⟨ar, cr, er⟩ := own_shape ho
      have hR2 : 0 ≤ k + lenQ ls j + ((ls.getD j []).length : Int) ∧ k + lenQ ls j + ((ls.getD j []).length : Int) ≤ 9437184 := by omega
      subst hcj
      clear ho hok hle
      generalize hu : vs.getD j undef = u at *
      subst er
      go_wp2_with fail
      refine HK.out.mono ?_
      rintro e w2 ⟨rfl, h1, h2, h3, h4⟩
      have HN := hid (HST.out w2 h1 h2 h3 h4)
      clear h1 h2 h3 h4 HK HST hu
      go_wp2_with fail
      go_roundw
      case rel => exact ⟨j + 1, by omega, by go_num, _, rfl, hR2.1, hR2.2, hid ⟨hR.out, HN.out⟩⟩
      case measure => simp [intOf]; omega
    · obtain rfl : j = n := by omega
      have i1 : ¬ ((j : Int) < (j : Int)) := by omega
      go_wp2
      go_ret
      exact ⟨ret_int hok.out.1, hok.out.2⟩

set_option maxHeartbeats 4000000 in
set_option maxRecDepth 1000000 in
theorem heldsQ (W : World) (v : Value) (vs : List Value) (ls : List (List Int)) (k : Int) (hsl : ∃ a cap, v = .slice a ls.length cap) (hc : ∀ i, i < ls.length → ∃ g cap, v = .slice (some ⟨g, 0, none⟩) ls.length cap ∧ W.cell? ⟨g, i, none⟩ = some (vs.getD i undef))
    (hv : ∀ i, i < ls.length → ∃ a n cap, vs.getD i undef = .slice a n cap)
    (hh : ∀ i, i < ls.length → Calls Try.prog 50 #[vs.getD i undef, .int .i64 (k + lenQ ls i)] W fun e w'' => e = .returned (.int .i64 (k + lenQ ls i + (ls.getD i []).length)) ∧ w'' = W) (hl : lenQ ls ls.length ≤ 1048576) (hn1 : ls.length ≤ 1048576) (hk : 0 ≤ k) (hk' : k ≤ 8388608) :
    Calls Try.prog 92 #[v, .int .i64 k] W fun e w'' => e = .returned (.int .i64 (k + lenQ ls ls.length)) ∧ w'' = W := by
  have HC := hid hc
  have HH := hid hh
  have HV := hid hv
  have HLe : Hid (∀ i, i ≤ ls.length → lenQ ls i ≤ 1048576) := hid fun i hi => Nat.le_trans (lenQ_le ls hi) hl
  have HLs : Hid (∀ i, lenQ ls (i + 1) = lenQ ls i + (ls.getD i []).length) := hid fun i => rfl
  obtain ⟨a, cap, rfl⟩ := hsl
  clear hc hh hv hl
  obtain ⟨n, hn⟩ : ∃ n, n = ls.length := ⟨_, rfl⟩
  rw [← hn] at HC HH HV HLe hn1 ⊢
  clear hn
  go_enter Try.func92, Try.ntmps92
  go_wp2
  go_loop [1, 5] (fun u t => ∃ j : Nat, j ≤ n ∧ t = .int .i64 j ∧ ∃ c : Int, u = .int .i64 c ∧ 0 ≤ c ∧ c ≤ 9437184 ∧ Hid (c = k + lenQ ls j)) (fun _ t => n - (intOf t).toNat)
  case atStart => exact ⟨0, Nat.zero_le _, rfl, _, rfl, by omega, by omega, hid (by show k = k + ((0 : Nat) : Int); omega)⟩
  case round =>
    obtain ⟨j, hj, rfl, c, rfl, hc0, hc1, hok⟩ := hrel
    by_cases hjn : j < n
    · have i1 : (j : Int) < (n : Int) := by omega
      obtain ⟨g, cp, e, c1⟩ := HC.out j hjn
      simp only [Value.slice.injEq, true_and] at e
      obtain ⟨rfl, rfl⟩ := e
      have hle := HLe.out (j + 1) (by omega)
      rw [HLs.out j] at hle
      have hcj := hok.out
      have HK := hid (HH.out j hjn)
      have hR : Hid (k + lenQ ls j + ((ls.getD j []).length : Int) = k + lenQ ls (j + 1)) := hid (by rw [HLs.out j]; omega)
      have hR2 : 0 ≤ k + lenQ ls j + ((ls.getD j []).length : Int) ∧ k + lenQ ls j + ((ls.getD j []).length : Int) ≤ 9437184 := by omega
      obtain ⟨ar, nr, cr, er⟩ := HV.out j hjn
      rw [er] at HK c1
      subst hcj
      have hR3 : ¬ (k + lenQ ls j + ((ls.getD j []).length : Int) < 0) := by omega
      clear hok hle
      generalize k + lenQ ls j + ((ls.getD j []).length : Int) = z at *
      go_wp2_with fail
      refine HK.out.mono ?_
      rintro e w2 ⟨rfl, hw2⟩
      subst w2
      go_wp2_with fail
      go_round
      case rel => exact ⟨j + 1, by omega, by go_num, _, rfl, hR2.1, hR2.2, hid hR.out⟩
      case measure => simp [intOf]; omega
    · obtain rfl : j = n := by omega
      have i1 : ¬ ((j : Int) < (j : Int)) := by omega
      go_wp2
      go_ret
      exact ⟨ret_int hok.out, rfl⟩

end Go.Proofs.Ytoikfjhgeceimab
