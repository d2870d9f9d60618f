import Derived.Test.YtpdloenmplafiaaV12
import Derived.Test.YtpdloenmplafiaaV28
import Derived.Test.YtpdloenmplafiaaV29
/-
  laws.markTable, laws.heldTable.
-/
namespace Go.Proofs.Ytpdloenmplafiaa
open Go.RowKit

set_option maxHeartbeats 1000000 in
set_option maxRecDepth 1000000 in
theorem heldTable_calls (W : World) (a0 a1 a2 : Option Addr) (n0 n1 n2 c0 c1 c2 : Nat) (k1 k2 k3 : Int) (h1 : 0 ≤ k1) (h2 : 0 ≤ k2) (h3 : 0 ≤ k3)
    (q1 : ∀ W', Below W.heap.size W W' → Calls Try.prog 75 #[.slice a0 n0 c0, .int .i64 1] W' fun e w'' => e = .returned (.int .i64 k1) ∧ w'' = W')
    (q2 : ∀ W', Below W.heap.size W W' → Calls Try.prog 76 #[.slice a1 n1 c1, .int .i64 k1] W' fun e w'' => e = .returned (.int .i64 k2) ∧ w'' = W')
    (q3 : ∀ W', Below W.heap.size W W' → Calls Try.prog 75 #[.slice a2 n2 c2, .int .i64 k2] W' fun e w'' => e = .returned (.int .i64 k3) ∧ w'' = W') :
    Calls Try.prog 31 #[.agg #[.slice a0 n0 c0, .slice a1 n1 c1, .slice a2 n2 c2], .int .i64 1] W fun e w'' => e = .returned (.int .i64 k3) ∧ Below W.heap.size W w'' := by
  have hb : Below W.heap.size W (W.alloc (.cells #[.slice a0 n0 c0, .slice a1 n1 c1, .slice a2 n2 c2] 53)) := (Below.refl _ _).alloc (Nat.le_refl _) _
  have hX := TX.made W (.slice a0 n0 c0) (.slice a1 n1 c1) (.slice a2 n2 c2)
  have K1 := hid (q1 _ hb)
  have K2 := hid (q2 _ hb)
  have K3 := hid (q3 _ hb)
  have HB := hid hb
  have g1 : ¬ (k1 < 0) := by omega
  have g2 : ¬ (k2 < 0) := by omega
  have g3 : ¬ (k3 < 0) := by omega
  clear q1 q2 q3 hb
  obtain ⟨W1, hW1⟩ : ∃ W1, W1 = W.alloc (.cells #[.slice a0 n0 c0, .slice a1 n1 c1, .slice a2 n2 c2] 53) := ⟨_, rfl⟩
  rw [← hW1] at K1 K2 K3 HB hX
  have d0 := hX.c0
  have d1 := hX.c1
  have d2 := hX.c2
  clear hX
  go_enter Try.func31, Try.ntmps31
  go_upto_region 1 with fail
  rw [← hW1]
  clear hW1
  go_wp2_with fail
  refine K1.out.mono ?_
  rintro e w2 ⟨rfl, hw⟩
  subst w2
  go_wp2_with fail
  refine K2.out.mono ?_
  rintro e w2 ⟨rfl, hw⟩
  subst w2
  go_wp2_with fail
  refine K3.out.mono ?_
  rintro e w2 ⟨rfl, hw⟩
  subst w2
  go_wp2_with fail
  go_ret
  exact ⟨rfl, HB.out⟩

set_option maxHeartbeats 1000000 in
set_option maxRecDepth 1000000 in
theorem table_marks (w : World) (B : Nat) (v0 v1 v2 : Value) (us : List Value) (vs : List Int) (rows : List (List Int)) (ws : List Int) (h : TQ w B v0 v1 v2 us vs rows ws) (hB : B ≤ w.heap.size)
    (h1 : lenQ rows rows.length ≤ 1048576) (h2 : rows.length ≤ 1048576) (h3 : vs.length ≤ 1048576) (h4 : ws.length ≤ 1048576) :
    Calls Try.prog 30 #[.agg #[v0, v1, v2], .int .i64 1] w fun e w' => ∃ m : Int, 0 ≤ m ∧ e = .returned (.int .i64 m) ∧ Below B w w' ∧ (∀ (q : Nat) (cur : Array Value) (t : TypeId), w.heap[q]? = some (Obj.cells cur t (0, 0)) → t ≠ 3 → w'.heap[q]? = w.heap[q]?) ∧
      Calls Try.prog 31 #[.agg #[v0, v1, v2], .int .i64 1] w' fun e w'' => e = .returned (.int .i64 m) ∧ Below w'.heap.size w' w'' := by
  obtain ⟨a0, c0, e0⟩ := own_shape h.o0
  obtain ⟨a1, c1, e1⟩ := h.rq.sl
  obtain ⟨a2, c2, e2⟩ := own_shape h.o2
  subst e0 e1 e2
  obtain ⟨W1, hW1⟩ : ∃ W1, W1 = w.alloc (.cells #[.slice a0 vs.length c0, .slice a1 rows.length c1, .slice a2 ws.length c2] 53) := ⟨_, rfl⟩
  have hb1 : Below w.heap.size w W1 := by rw [hW1]; exact (Below.refl _ _).alloc (Nat.le_refl _) _
  have HP1 := hid (h.below hb1)
  have HX1 : Hid (TX W1 w.heap.size (.slice a0 vs.length c0) (.slice a1 rows.length c1) (.slice a2 ws.length c2)) := hid (by rw [hW1]; exact TX.made _ _ _ _)
  have d0 := HX1.out.c0
  have K1 := hid (mark_heldQ W1 B _ vs 1 HP1.out.o0 (by omega) (by omega) (by omega))
  have HFr : Hid (∀ (q : Nat) (cur : Array Value) (t : TypeId), w.heap[q]? = some (Obj.cells cur t (0, 0)) → W1.heap[q]? = some (Obj.cells cur t (0, 0))) := hid fun q cur t hq => (hb1.block q (by
    rcases Nat.lt_or_ge q w.heap.size with h5 | h5
    · exact h5
    · rw [Array.getElem?_eq_none h5] at hq; cases hq)).trans hq
  have HBB : Hid (Below B w W1) := hid (hb1.mono hB)
  clear hb1 h
  go_enter Try.func30, Try.ntmps30
  go_upto_region 1 with fail
  rw [← hW1]
  clear hW1
  go_wp2_with fail
  refine K1.out.mono ?_
  rintro e w2 ⟨rfl, hf2, hz2, hb2, hk2⟩
  have keepI : ∀ {v : Value} {n : Nat} {xs : List Value}, W1.ownsRow B 3 1 v n xs → Ap' v (.slice a0 vs.length c0) → w2.ownsRow B 3 1 v n xs := fun hv ha => own_move hv fun q hq => hf2 q fun e => ha q hq e.symm
  have ap0 : ∀ {v : Value}, Ap' (.slice a0 vs.length c0) v → Ap' v (.slice a0 vs.length c0) := fun ha g h5 h6 => ha g h6 h5
  have HQ2 : Hid (RQ w2 B (.slice a1 rows.length c1) us rows) := hid ⟨own_move HP1.out.rq.own fun q hq => hf2 q (own_ne HP1.out.o0 (own_typ HP1.out.rq.own hq) (by decide)), HP1.out.rq.len, fun i hi => keepI (HP1.out.rq.each i hi) (HP1.out.a0 i hi), HP1.out.rq.ap⟩
  have HW2 : Hid (w2.ownsRow B 3 1 (.slice a2 ws.length c2) ws.length (ws.map (Value.int .i64))) := hid (keepI HP1.out.o2 (ap0 HP1.out.a02))
  have HX2 : Hid (TX w2 w.heap.size (.slice a0 vs.length c0) (.slice a1 rows.length c1) (.slice a2 ws.length c2)) := hid ⟨(hf2 _ (own_ne HP1.out.o0 HX1.out.typ (by decide))).trans HX1.out.blk⟩
  obtain ⟨s1, hs1⟩ : ∃ s : Int, s = 1 + (vs.length : Int) := ⟨_, rfl⟩
  rw [← hs1] at hk2 ⊢
  have r1 : 0 ≤ s1 ∧ s1 ≤ 2000000 := by omega
  have HF2 := hid hf2
  have HK2 := hid hk2
  have HB2 := hid hb2
  have HZ2 := hid hz2
  have d1 := HX2.out.c1
  have K2 := hid (marksQ w2 B _ us rows s1 HQ2.out HQ2.out.ap h1 h2 (by omega) (by omega))
  obtain ⟨L, hL⟩ : ∃ L : Nat, L = lenQ rows rows.length := ⟨_, rfl⟩
  rw [← hL] at K2 h1
  have HLe := hid hL
  clear hf2 hk2 hb2 hz2 K1 d0 hs1 keepI ap0 hL
  go_wp2_with fail
  refine K2.out.mono ?_
  rintro e w3 ⟨rfl, hM⟩
  have HW3 : Hid (w3.ownsRow B 3 1 (.slice a2 ws.length c2) ws.length (ws.map (Value.int .i64))) := hid (own_move HW2.out fun q hq => hM.far q fun i hi e => HP1.out.a2 i hi q e.symm hq)
  have HX3 : Hid (TX w3 w.heap.size (.slice a0 vs.length c0) (.slice a1 rows.length c1) (.slice a2 ws.length c2)) := hid ⟨(hM.far _ fun i hi => own_ne (HQ2.out.each i hi) HX2.out.typ (by decide)).trans HX2.out.blk⟩
  obtain ⟨s2, hs2⟩ : ∃ s : Int, s = s1 + (L : Int) := ⟨_, rfl⟩
  rw [← hs2]
  have r2 : 0 ≤ s2 ∧ s2 ≤ 4000000 := by omega
  have HS2 := hid hs2
  have HM := hid hM
  have d2 := HX3.out.c2
  have K3 := hid (mark_heldQ w3 B _ ws s2 HW3.out (by omega) (by omega) (by omega))
  clear hM K2 d1 hs2
  go_wp2_with fail
  refine K3.out.mono ?_
  rintro e w4 ⟨rfl, hf4, hz4, hb4, hk4⟩
  obtain ⟨s3, hs3⟩ : ∃ s : Int, s = s2 + (ws.length : Int) := ⟨_, rfl⟩
  rw [← hs3] at hk4 ⊢
  have r3 : 0 ≤ s3 := by omega
  have HF4 := hid hf4
  have HK4 := hid hk4
  have HB4 := hid hb4
  have HZ4 := hid hz4
  clear hf4 hk4 hb4 hz4 K3 d2 hs3
  go_wp2_with fail
  go_ret
  have hM := HM.out
  have hz2 := HZ2.out
  have hz4 := HZ4.out
  have t4 : ∀ (q : Nat) (cur : Array Value) (e : TypeId), W1.heap[q]? = some (Obj.cells cur e (0, 0)) → e ≠ 3 → w4.heap[q]? = some (Obj.cells cur e (0, 0)) := fun q cur e hq n1 => by
    have b2 : w2.heap[q]? = some (.cells cur e (0, 0)) := (HF2.out q (own_ne HP1.out.o0 ⟨_, hq⟩ (Ne.symm n1))).trans hq
    have b3 : w3.heap[q]? = some (.cells cur e (0, 0)) := (hM.far q fun i hi => own_ne (HQ2.out.each i hi) ⟨_, b2⟩ (Ne.symm n1)).trans b2
    exact (HF4.out q (own_ne HW3.out ⟨_, b3⟩ (Ne.symm n1))).trans b3
  have k0 : ∀ q, (Value.slice a0 vs.length c0).ownBlock = some q → w4.heap[q]? = w2.heap[q]? := fun q hq => (HF4.out q fun e => HP1.out.a02 q hq e.symm).trans (hM.far q fun i hi e => HP1.out.a0 i hi q e.symm hq)
  have k1 : ∀ i, i < rows.length → ∀ q, (us.getD i undef).ownBlock = some q → w4.heap[q]? = w3.heap[q]? := fun i hi q hq => HF4.out q fun e => HP1.out.a2 i hi q hq e.symm
  refine ⟨s3, r3, rfl, ((HBB.out.trans HB2.out).trans hM.bel).trans HB4.out, fun q cur e hq n1 => (t4 q cur e (HFr.out q cur e hq) n1).trans hq.symm, ?_⟩
  have hsz3 := hM.size
  refine heldTable_calls w4 a0 a1 a2 _ _ _ c0 c1 c2 s1 s2 s3 r1.1 r2.1 r3 (fun W' hW' => HK2.out W' (fun q hq => (hW'.block q (by have := (HP1.out.o0.lt q hq).2; omega)).trans (k0 q hq)) (by have := hW'.size; omega)) (fun W' hW' => ?_) (fun W' hW' => HK4.out W' (fun q hq => hW'.block q (by have := (HW3.out.lt q hq).2; omega)) hW'.size)
  rw [HS2.out, HLe.out]
  refine heldsQ W' _ us rows s1 ⟨_, _, rfl⟩ (fun i hi => ?_) (fun i hi => ?_) (fun i hi => hM.held i hi W' (fun q hq => (hW'.block q (by have := ((HQ2.out.each i hi).lt q hq).2; omega)).trans (k1 i hi q hq)) (by have := hW'.size; omega)) (by rw [← HLe.out]; exact h1) h2 (by omega) (by omega)
  · obtain ⟨g, cap, e, -, hc⟩ := HP1.out.rq.get hi
    refine ⟨g, cap, e, ?_⟩
    obtain ⟨cur, ht⟩ := own_typ HP1.out.rq.own (g := g) (by rw [e]; rfl)
    have h5' := t4 g cur _ ht (by decide)
    have hlt : g < w4.heap.size := by
      rcases Nat.lt_or_ge g w4.heap.size with h5 | h5
      · exact h5
      · rw [Array.getElem?_eq_none h5] at h5'; cases h5'
    exact ((World.cell?_of_block (w := w4) (a := ⟨g, i, none⟩) (hW'.block g hlt)).trans (World.cell?_of_block (w := W1) (a := ⟨g, i, none⟩) (h5'.trans ht.symm))).trans hc
  · obtain ⟨a, cap, e⟩ := own_shape (HP1.out.rq.each i hi)
    exact ⟨_, _, _, e⟩

end Go.Proofs.Ytpdloenmplafiaa
