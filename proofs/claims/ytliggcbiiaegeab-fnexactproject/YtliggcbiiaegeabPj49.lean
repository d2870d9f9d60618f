import Derived.Test.YtliggcbiiaegeabPj47
import Derived.Test.YtliggcbiiaegeabPj48
/-
  laws.FnExactProject, walked.
-/
namespace Go.Proofs.Ytliggcbiiaegeab
open Go.RowKit

set_option maxHeartbeats 1000000 in
set_option maxRecDepth 1000000 in
theorem markTable_own (w : World) (B g0 g1 g2 : Nat) (vs : List Int) (rows : List (List Int)) (ws : List Int) (f : Nat → Nat) (h : OwnT w B g0 g1 g2 vs rows ws f) (ht : tot rows rows.length ≤ 1048576) (h3 : vs.length ≤ 1048576) (h4 : ws.length ≤ 1048576) :
    Calls Try.prog 44 #[.agg #[.slice (some ⟨g0, 0, none⟩) vs.length vs.length, .slice (some ⟨g1, 0, none⟩) rows.length rows.length, .slice (some ⟨g2, 0, none⟩) ws.length ws.length], .int .i64 1] w fun e w' => ∃ m : Int, 0 ≤ m ∧ m ≤ 8388608 ∧ e = .returned (.int .i64 m) ∧ Below B w w' ∧ ∀ q, g2 < q → q < w.heap.size → w'.heap[q]? = w.heap[q]? := by
  have hn0 := tot_le rows rows.length 0 (by omega)
  rw [tot_zero] at hn0
  have hl0 := h.lt0
  have hl1 := h.lt1
  have hl3 := h.lt3
  have HL2 := hid h.lt2
  have HGt := hid h.rw.gt
  have hg2 := h.wt.lt
  obtain ⟨W1, hW1⟩ : ∃ W1, W1 = w.alloc (.cells #[.slice (some ⟨g0, 0, none⟩) vs.length vs.length, .slice (some ⟨g1, 0, none⟩) rows.length rows.length, .slice (some ⟨g2, 0, none⟩) ws.length ws.length] 62) := ⟨_, rfl⟩
  have hb1 : Below w.heap.size w W1 := by rw [hW1]; exact (Below.refl _ _).alloc (Nat.le_refl _) _
  have HO1 := hid (h.below hb1)
  have HX1 : Hid (TX W1 w.heap.size (.slice (some ⟨g0, 0, none⟩) vs.length vs.length) (.slice (some ⟨g1, 0, none⟩) rows.length rows.length) (.slice (some ⟨g2, 0, none⟩) ws.length ws.length)) := hid (by rw [hW1]; exact TX.made _ _ _ _)
  have HB1 := hid hb1
  have d0 := HX1.out.c0
  have K1 := hid (markIntS_calls W1 g0 vs 1 HO1.out.vr (by omega) (by omega) (by omega))
  clear hb1 h
  go_enter Try.func44, Try.ntmps44
  go_upto_region 1 with fail
  rw [← hW1]
  clear hW1
  go_wp2_with fail
  refine K1.out.mono ?_
  rintro e w2 ⟨rfl, -, hog2⟩
  have HH2 : Hid (Half w2 g1 rows.length rows.length rows f) := hid (HO1.out.rw.move (hog2.block _ (by omega)) (fun i hi => hog2.block _ (by have := HGt.out i hi; omega)) (by rw [hog2.size]; exact Nat.le_refl _))
  have HW2 : Hid (OwnI w2 g2 ws) := hid (HO1.out.wt.move (hog2.block _ (by omega)) (by rw [hog2.size]; exact Nat.le_refl _))
  have HX2 : Hid (TX w2 w.heap.size (.slice (some ⟨g0, 0, none⟩) vs.length vs.length) (.slice (some ⟨g1, 0, none⟩) rows.length rows.length) (.slice (some ⟨g2, 0, none⟩) ws.length ws.length)) := hid ⟨(hog2.block _ (by omega)).trans HX1.out.blk⟩
  have HG2 := hid hog2
  have d1 := HX2.out.c1
  obtain ⟨s1, hs1⟩ : ∃ s : Int, s = 1 + (vs.length : Int) := ⟨_, rfl⟩
  rw [← hs1]
  have r1 : 0 ≤ s1 ∧ s1 ≤ 2000000 := by omega
  have K2 := hid (markIntSS_calls w2 g1 rows f s1 HH2.out ht (by omega) (by omega))
  clear hog2 K1 d0 hs1 HO1
  go_wp2_with fail
  refine K2.out.mono ?_
  rintro e w3 ⟨rfl, hos⟩
  have HW3 : Hid (OwnI w3 g2 ws) := hid (HW2.out.move (hos.block _ fun i hi e => by have := HL2.out i hi; omega) (by rw [hos.size]; exact Nat.le_refl _))
  have HX3 : Hid (TX w3 w.heap.size (.slice (some ⟨g0, 0, none⟩) vs.length vs.length) (.slice (some ⟨g1, 0, none⟩) rows.length rows.length) (.slice (some ⟨g2, 0, none⟩) ws.length ws.length)) := hid ⟨(hos.block _ fun i hi e => by have := HL2.out i hi; omega).trans HX2.out.blk⟩
  have HG3 := hid hos
  have d2 := HX3.out.c2
  obtain ⟨s2, hs2⟩ : ∃ s : Int, s = s1 + (tot rows rows.length - rows.length) := ⟨_, rfl⟩
  rw [← hs2]
  have r2 : 0 ≤ s2 ∧ s2 ≤ 4000000 := by omega
  have K3 := hid (markIntS_calls w3 g2 ws s2 HW3.out (by omega) (by omega) (by omega))
  clear hos K2 d1 hs2 HH2 HW2
  go_wp2_with fail
  refine K3.out.mono ?_
  rintro e w4 ⟨rfl, -, hog4⟩
  have HG4 := hid hog4
  obtain ⟨s3, hs3⟩ : ∃ s : Int, s = s2 + (ws.length : Int) := ⟨_, rfl⟩
  rw [← hs3]
  have r3 : 0 ≤ s3 ∧ s3 ≤ 8388608 := by omega
  clear hog4 K3 d2 hs3
  go_wp2_with fail
  go_ret
  refine ⟨s3, r3.1, r3.2, rfl, ?_, fun q hq hlt => ?_⟩
  · exact (((HB1.out.mono (by omega)).trans (HG2.out.below (by omega))).trans (HG3.out.below fun i hi => by have := HGt.out i hi; omega)).trans (HG4.out.below (by omega))
  · exact (((HG4.out.block q (by omega)).trans (HG3.out.block q fun i hi e => by have := HL2.out i hi; omega)).trans (HG2.out.block q (by omega))).trans (HB1.out.block q hlt)

/-- both sides give one table -/
structure AlkP (vs : List Int) (rows : List (List Int)) (ws vars : List Int) (A : List Int) (R : List (List Int)) (O : List Int) : Prop where
  spec : ∀ W v0 v1 v2 ad cv, IT W v0 v1 v2 vs rows ws → IS W (.slice (some ad) vars.length cv) vars → Calls Try.prog 42 #[.agg #[v0, v1, v2], .slice (some ad) vars.length cv] W fun e w' => ∃ x0 x1 x2, e = .returned (.agg #[x0, x1, x2]) ∧ IT w' x0 x1 x2 A R O ∧ Below W.heap.size W w'
  impl : ∀ W v0 v1 v2 vv, IT W v0 v1 v2 vs rows ws → IS W vv vars → Calls Try.prog 43 #[.agg #[v0, v1, v2], vv] W fun e w' => ∃ x0 x1 x2 us, e = .returned (.agg #[x0, x1, x2]) ∧ TQ w' W.heap.size x0 x1 x2 us A R O ∧ Below W.heap.size W w'
  b0 : Short R
  b1 : lenQ R R.length ≤ 1048576
  b2 : R.length ≤ 1048576
  b3 : A.length ≤ 1048576
  b4 : O.length ≤ 1048576

theorem lenQ_bound {ls : List (List Int)} {m : Nat} (h : ∀ i, (ls.getD i []).length ≤ m) : ∀ n, lenQ ls n ≤ n * m
  | 0 => Nat.zero_le _
  | n + 1 => by
    show lenQ ls n + _ ≤ _
    have := lenQ_bound h n
    have := h n
    rw [Nat.add_mul]
    omega

theorem alikeP (vs : List Int) (rows : List (List Int)) (ws vars : List Int) (hlv : vars.length ≤ 1099511627776) (hls : vs.length ≤ 1099511627776) (hS : Short rows) : ∃ A R O, AlkP vs rows ws vars A R O := by
  cases hc : prjB vs rows ws vars
  · refine ⟨[], [], [], fun W v0 v1 v2 ad cv h1 h2 => ?_, fun W v0 v1 v2 vv h1 h2 => ?_, ⟨by simp, fun j => by simp⟩, by simp [lenQ], by simp, by simp, by simp⟩
    · refine (sProject_calls W v0 v1 v2 ad cv vs rows ws vars h1 h2 hlv hls hS).mono ?_
      rintro e w' ⟨x0, x1, x2, rfl, hI, hb⟩
      rw [hc, if_neg (by simp)] at hI
      exact ⟨_, _, _, rfl, hI, hb⟩
    · refine (iProject_calls W v0 v1 v2 vv vs rows ws vars h1 h2 hlv hls hS).mono ?_
      rintro e w' ⟨x0, x1, x2, us, rfl, hI, hb⟩
      rw [hc, if_neg (by simp)] at hI
      exact ⟨_, _, _, us, rfl, hI, hb⟩
  · have hp : tableB vs rows ws = true ∧ setB vars = true := by
      unfold prjB at hc
      simp only [Bool.and_eq_true] at hc
      exact hc.1
    obtain ⟨h4, h5, h6⟩ := tableB_rows hp.1
    have hv6 := setB_six hp.2
    have hln := srt_len _ (rows.map (prjR vs vars)) (Nat.le_refl _)
    rw [List.length_map] at hln
    have hbl : ∀ i, ((srt (rows.map (prjR vs vars))).getD i []).length ≤ 6 := fun i => by
      rw [List.getD_eq_getElem?_getD]
      cases h : (srt (rows.map (prjR vs vars)))[i]? with
      | none => simp
      | some r =>
        have hm := ((srt_ok _ (rows.map (prjR vs vars)) (Nat.le_refl _)).2 r).1 (List.mem_of_getElem? h)
        obtain ⟨q, -, e⟩ := List.mem_map.1 hm
        show r.length ≤ 6
        rw [← e, prjR_len]; exact hv6
    have hlq := lenQ_bound hbl (srt (rows.map (prjR vs vars))).length
    refine ⟨vars, srt (rows.map (prjR vs vars)), ones (srt (rows.map (prjR vs vars))).length, fun W v0 v1 v2 ad cv h1 h2 => ?_, fun W v0 v1 v2 vv h1 h2 => ?_, ⟨by omega, fun j => by have := hbl j; omega⟩, by omega, by omega, by omega, by rw [ones_len]; omega⟩
    · refine (sProject_calls W v0 v1 v2 ad cv vs rows ws vars h1 h2 hlv hls hS).mono ?_
      rintro e w' ⟨x0, x1, x2, rfl, hI, hb⟩
      rw [hc, if_pos rfl] at hI
      exact ⟨_, _, _, rfl, hI, hb⟩
    · refine (iProject_calls W v0 v1 v2 vv vs rows ws vars h1 h2 hlv hls hS).mono ?_
      rintro e w' ⟨x0, x1, x2, us, rfl, hI, hb⟩
      rw [hc, if_pos rfl] at hI
      exact ⟨_, _, _, us, rfl, hI, hb⟩

theorem TQ.it {W : World} {B : Nat} {v0 v1 v2 : Value} {us : List Value} {vs ws : List Int} {rows : List (List Int)} (h : TQ W B v0 v1 v2 us vs rows ws) : IT W v0 v1 v2 vs rows ws := ⟨own_is h.o0, h.rq.rs.iss (Below.refl _ _), own_is h.o2⟩
theorem TQ.stay {W W' : World} {B : Nat} {v0 v1 v2 : Value} {us : List Value} {vs ws : List Int} {rows : List (List Int)} (h : TQ W B v0 v1 v2 us vs rows ws) (hb : ∀ q, B ≤ q → q < W.heap.size → W'.heap[q]? = W.heap[q]?) : TQ W' B v0 v1 v2 us vs rows ws :=
  ⟨own_move h.o0 fun g hg => hb g (h.o0.lt g hg).1 (h.o0.lt g hg).2, ⟨own_move h.rq.own fun g hg => hb g (h.rq.own.lt g hg).1 (h.rq.own.lt g hg).2, h.rq.len, fun i hi => own_move (h.rq.each i hi) fun g hg => hb g ((h.rq.each i hi).lt g hg).1 ((h.rq.each i hi).lt g hg).2, h.rq.ap⟩, own_move h.o2 fun g hg => hb g (h.o2.lt g hg).1 (h.o2.lt g hg).2, h.a02, h.a0, h.a2⟩

end Go.Proofs.Ytliggcbiiaegeab
