import Derived.Test.YtpdloenmplafiaaV41
import Derived.Test.YtpdloenmplafiaaV44
/-
  laws.FnExactSemijoin: what its walk leans on.
-/
namespace Go.Proofs.Ytpdloenmplafiaa
open Go.RowKit

theorem OwnT.isss {w : World} {B g0 g1 g2 : Nat} {vs ws : List Int} {rows : List (List Int)} {f : Nat → Nat} (h : OwnT w B g0 g1 g2 vs rows ws f) : ISSs w (.slice (some ⟨g1, 0, none⟩) rows.length rows.length) rows := by
  refine ⟨_, _, rfl, Or.inr ⟨g1, 0, rfl, fun j hj => ⟨⟨f j, 0, none⟩, (rows.getD j []).length, ?_, (h.rw.own j hj).is⟩⟩⟩
  have := h.rw.cell j hj
  rw [if_pos hj] at this
  rw [Nat.zero_add]
  exact this
theorem OwnT.stay {w w' : World} {B g0 g1 g2 : Nat} {vs ws : List Int} {rows : List (List Int)} {f : Nat → Nat} (h : OwnT w B g0 g1 g2 vs rows ws f) (hb : ∀ q, B ≤ q → q < w.heap.size → w'.heap[q]? = w.heap[q]?) (hs : w.heap.size ≤ w'.heap.size) : OwnT w' B g0 g1 g2 vs rows ws f := by
  have h0 := h.lt0
  have h1 := h.lt1
  have h3 := h.lt3
  have hg2 := h.wt.lt
  exact ⟨h.vr.move (hb _ h0 (by omega)) hs, h.rw.move (hb _ (by omega) (by omega)) (fun i hi => hb _ (by have := h.rw.gt i hi; omega) (h.rw.own i hi).lt) hs, h.wt.move (hb _ (by omega) hg2) hs, h.lt0, h.lt1, h.lt2, h.lt3⟩

set_option maxHeartbeats 1000000 in
set_option maxRecDepth 1000000 in
theorem markTable_at (s0 : Int) (hs0 : 0 ≤ s0) (hs1 : s0 ≤ 5000000) (w : World) (B g0 g1 g2 : Nat) (vs : List Int) (rows : List (List Int)) (ws : List Int) (f : Nat → Nat) (h : OwnT w B g0 g1 g2 vs rows ws f) (ht : tot rows rows.length ≤ 1048576) (h3 : vs.length ≤ 1048576) (h4 : ws.length ≤ 1048576) :
    Calls Try.prog 30 #[.agg #[.slice (some ⟨g0, 0, none⟩) vs.length vs.length, .slice (some ⟨g1, 0, none⟩) rows.length rows.length, .slice (some ⟨g2, 0, none⟩) ws.length ws.length], .int .i64 s0] w fun e w' => ∃ m : Int, 0 ≤ m ∧ m ≤ s0 + 4194304 ∧ e = .returned (.int .i64 m) ∧ Below B w w' ∧ ∀ q, g2 < q → q < w.heap.size → w'.heap[q]? = w.heap[q]? := by
  have hn0 := tot_le rows rows.length 0 (by omega)
  rw [tot_zero] at hn0
  have hl0 := h.lt0
  have hl1 := h.lt1
  have hl3 := h.lt3
  have HL2 := hid h.lt2
  have HGt := hid h.rw.gt
  have hg2 := h.wt.lt
  obtain ⟨W1, hW1⟩ : ∃ W1, W1 = w.alloc (.cells #[.slice (some ⟨g0, 0, none⟩) vs.length vs.length, .slice (some ⟨g1, 0, none⟩) rows.length rows.length, .slice (some ⟨g2, 0, none⟩) ws.length ws.length] 53) := ⟨_, rfl⟩
  have hb1 : Below w.heap.size w W1 := by rw [hW1]; exact (Below.refl _ _).alloc (Nat.le_refl _) _
  have HO1 := hid (h.below hb1)
  have HX1 : Hid (TX W1 w.heap.size (.slice (some ⟨g0, 0, none⟩) vs.length vs.length) (.slice (some ⟨g1, 0, none⟩) rows.length rows.length) (.slice (some ⟨g2, 0, none⟩) ws.length ws.length)) := hid (by rw [hW1]; exact TX.made _ _ _ _)
  have HB1 := hid hb1
  have d0 := HX1.out.c0
  have K1 := hid (markIntS_calls W1 g0 vs s0 HO1.out.vr (by omega) (by omega) (by omega))
  clear hb1 h
  go_enter Try.func30, Try.ntmps30
  go_upto_region 1 with fail
  rw [← hW1]
  clear hW1
  go_wp2_with fail
  refine K1.out.mono ?_
  rintro e w2 ⟨rfl, -, hog2⟩
  have HH2 : Hid (Half w2 g1 rows.length rows.length rows f) := hid (HO1.out.rw.move (hog2.block _ (by omega)) (fun i hi => hog2.block _ (by have := HGt.out i hi; omega)) (by rw [hog2.size]; exact Nat.le_refl _))
  have HW2 : Hid (OwnI w2 g2 ws) := hid (HO1.out.wt.move (hog2.block _ (by omega)) (by rw [hog2.size]; exact Nat.le_refl _))
  have HX2 : Hid (TX w2 w.heap.size (.slice (some ⟨g0, 0, none⟩) vs.length vs.length) (.slice (some ⟨g1, 0, none⟩) rows.length rows.length) (.slice (some ⟨g2, 0, none⟩) ws.length ws.length)) := hid ⟨(hog2.block _ (by omega)).trans HX1.out.blk⟩
  have HG2 := hid hog2
  have d1 := HX2.out.c1
  obtain ⟨s1, hs1'⟩ : ∃ s : Int, s = s0 + (vs.length : Int) := ⟨_, rfl⟩
  rw [← hs1']
  have r1 : 0 ≤ s1 ∧ s1 ≤ s0 + 1048576 := by omega
  have K2 := hid (markIntSS_calls w2 g1 rows f s1 HH2.out ht (by omega) (by omega))
  clear hog2 K1 d0 hs1' HO1
  go_wp2_with fail
  refine K2.out.mono ?_
  rintro e w3 ⟨rfl, hos⟩
  have HW3 : Hid (OwnI w3 g2 ws) := hid (HW2.out.move (hos.block _ fun i hi e => by have := HL2.out i hi; omega) (by rw [hos.size]; exact Nat.le_refl _))
  have HX3 : Hid (TX w3 w.heap.size (.slice (some ⟨g0, 0, none⟩) vs.length vs.length) (.slice (some ⟨g1, 0, none⟩) rows.length rows.length) (.slice (some ⟨g2, 0, none⟩) ws.length ws.length)) := hid ⟨(hos.block _ fun i hi e => by have := HL2.out i hi; omega).trans HX2.out.blk⟩
  have HG3 := hid hos
  have d2 := HX3.out.c2
  obtain ⟨s2, hs2⟩ : ∃ s : Int, s = s1 + (tot rows rows.length - rows.length) := ⟨_, rfl⟩
  rw [← hs2]
  have r2 : 0 ≤ s2 ∧ s2 ≤ s0 + 2097152 := by omega
  have K3 := hid (markIntS_calls w3 g2 ws s2 HW3.out (by omega) (by omega) (by omega))
  clear hos K2 d1 hs2 HH2 HW2
  go_wp2_with fail
  refine K3.out.mono ?_
  rintro e w4 ⟨rfl, -, hog4⟩
  have HG4 := hid hog4
  obtain ⟨s3, hs3⟩ : ∃ s : Int, s = s2 + (ws.length : Int) := ⟨_, rfl⟩
  rw [← hs3]
  have r3 : 0 ≤ s3 ∧ s3 ≤ s0 + 4194304 := by omega
  clear hog4 K3 d2 hs3
  go_wp2_with fail
  go_ret
  refine ⟨s3, r3.1, r3.2, rfl, ?_, fun q hq hlt => ?_⟩
  · exact (((HB1.out.mono (by omega)).trans (HG2.out.below (by omega))).trans (HG3.out.below fun i hi => by have := HGt.out i hi; omega)).trans (HG4.out.below (by omega))
  · exact (((HG4.out.block q (by omega)).trans (HG3.out.block q fun i hi e => by have := HL2.out i hi; omega)).trans (HG2.out.block q (by omega))).trans (HB1.out.block q hlt)


/-- both sides give one table -/
structure AlkS (va : List Int) (ra : List (List Int)) (wa vb : List Int) (rb : List (List Int)) (wb A : List Int) (R : List (List Int)) (O : List Int) : Prop where
  spec : ∀ W ad0 k0 a1 a2 b0 b1 b2, IT W (.slice (some ad0) va.length k0) a1 a2 va ra wa → ISSs W a1 ra → IT W b0 b1 b2 vb rb wb → Calls Try.prog 32 #[.agg #[.slice (some ad0) va.length k0, a1, a2], .agg #[b0, b1, b2]] W fun e w' => ∃ x0 x1 x2, e = .returned (.agg #[x0, x1, x2]) ∧ IT w' x0 x1 x2 A R O ∧ (∀ g, x1.ownBlock = some g → W.heap.size ≤ g) ∧ Below W.heap.size W w'
  impl : ∀ W a0 a1 a2 b0 b1 b2, IT W a0 a1 a2 va ra wa → IT W b0 b1 b2 vb rb wb → Calls Try.prog 33 #[.agg #[a0, a1, a2], .agg #[b0, b1, b2]] W fun e w' => ∃ x0 x1 x2 us, e = .returned (.agg #[x0, x1, x2]) ∧ TQ w' W.heap.size x0 x1 x2 us A R O ∧ Below W.heap.size W w'
  b0 : Short R
  b1 : lenQ R R.length ≤ 1048576
  b2 : R.length ≤ 1048576
  b3 : A.length ≤ 1048576
  b4 : O.length ≤ 1048576

theorem alikeS (va : List Int) (ra : List (List Int)) (wa vb : List Int) (rb : List (List Int)) (wb : List Int) (hla : va.length ≤ 1099511627776) (hSa : Short ra) (hlb : vb.length ≤ 1099511627776) (hSb : Short rb) : ∃ A R O, AlkS va ra wa vb rb wb A R O := by
  cases hc : semOK va ra wa vb rb wb
  · exact ⟨[], [], [], fun W ad0 k0 a1 a2 b0 b1 b2 h1 _ h2 => sSemijoin_no W _ a1 a2 b0 b1 b2 va wa vb wb ra rb h1 h2 hla hSa hlb hSb hc, fun W a0 a1 a2 b0 b1 b2 h1 h2 => iSemijoin_no W a0 a1 a2 b0 b1 b2 va wa vb wb ra rb h1 h2 hla hSa hlb hSb hc, ⟨by simp, fun j => by simp⟩, by simp [lenQ], by simp, by simp, by simp⟩
  · have hp : tableB va ra wa = true ∧ tableB vb rb wb = true := by
      unfold semOK at hc
      simpa only [Bool.and_eq_true] using hc
    obtain ⟨h4, h5, h6⟩ := tableB_rows hp.1
    have hv6 := setB_six h4
    have hln := kpR_len (semP va vb ra rb) ra ra.length
    have hlw := kpW_len (semP va vb ra rb) wa ra.length
    have hbl : ∀ i, ((kpR (semP va vb ra rb) ra ra.length).getD i []).length ≤ 6 := fun i => by
      rw [List.getD_eq_getElem?_getD]
      cases h : (kpR (semP va vb ra rb) ra ra.length)[i]? with
      | none => simp
      | some r =>
        have hm := List.mem_of_getElem? h
        unfold kpR at hm
        obtain ⟨q, hq, e⟩ := List.mem_map.1 hm
        unfold kp at hq
        rw [List.mem_filter, List.mem_range] at hq
        show r.length ≤ 6
        rw [← e, h6 _ (by rw [List.getD_eq_getElem?_getD, List.getElem?_eq_getElem hq.1]; exact List.getElem_mem _)]
        exact hv6
    have hlq := lenQ_bound hbl (kpR (semP va vb ra rb) ra ra.length).length
    exact ⟨va, kpR (semP va vb ra rb) ra ra.length, kpW (semP va vb ra rb) wa ra.length, fun W ad0 k0 a1 a2 b0 b1 b2 h1 hs h2 => sSemijoin_yes W ad0 k0 a1 a2 b0 b1 b2 va wa vb wb ra rb h1 hs h2 hla hSa hlb hSb hp.1 hp.2, fun W a0 a1 a2 b0 b1 b2 h1 h2 => iSemijoin_yes W a0 a1 a2 b0 b1 b2 va wa vb wb ra rb h1 h2 hla hSa hlb hSb hp.1 hp.2, ⟨by omega, fun j => by have := hbl j; omega⟩, by omega, by omega, by omega, by omega⟩

end Go.Proofs.Ytpdloenmplafiaa
