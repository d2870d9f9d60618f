import Derived.Test.YtliggcbiiaegeabPj40
/-
  impl: plainTable, projectedRows.
-/
namespace Go.Proofs.Ytliggcbiiaegeab
open Go.RowKit

theorem drew_below2 {a b : World} (h : Below a.drew.heap.size a.drew b) : Below a.heap.size a b := ⟨h.os, h.tape, h.output, h.size, h.block⟩
theorem own_shape {w : World} {B n s : Nat} {e : TypeId} {v : Value} {xs : List Value} (h : w.ownsRow B e s v n xs) : ∃ a cap, v = .slice a n cap := by
  rcases h.2 with ⟨rfl, hn⟩ | ⟨g, cap, cur, rfl, _⟩
  · exact ⟨none, 0, by rw [hn]⟩
  · exact ⟨_, cap, rfl⟩
/-- a row's block is none of another type; what is stored there does not reach it -/
theorem own_keep3 {W : World} {B s n p : Nat} {e e' : TypeId} {v : Value} {xs : List Value} {off : Nat} {y : Value} (h : W.ownsRow B e s v n xs) (ht : ∃ cur, W.heap[p]? = some (.cells cur e' (0, 0))) (he : e ≠ e') : (W.setCell ⟨p, off, none⟩ y).ownsRow B e s v n xs :=
  own_move h fun g hg => Below.heap_setCell _ _ _ _ (by rintro rfl; exact own_ne h ht he hg.symm)
theorem RQ.set {W : World} {B p off : Nat} {v y : Value} {us : List Value} {ls : List (List Int)} (h : RQ W B v us ls) (ht : ∃ cur, W.heap[p]? = some (.cells cur 62 (0, 0))) : RQ (W.setCell ⟨p, off, none⟩ y) B v us ls :=
  ⟨own_keep3 h.own ht (by decide), h.len, fun i hi => own_keep3 (h.each i hi) ht (by decide), h.ap⟩
theorem RQ.sl {W : World} {B : Nat} {v : Value} {us : List Value} {ls : List (List Int)} (h : RQ W B v us ls) : ∃ a cap, v = .slice a ls.length cap := own_shape h.own

/-- a table's block -/
structure TX (W : World) (p : Nat) (v0 v1 v2 : Value) : Prop where
  blk : W.heap[p]? = some (.cells #[v0, v1, v2] 62 (0, 0))
section
variable {W W' : World} {p : Nat} {v0 v1 v2 : Value}
theorem TX.lt (h : TX W p v0 v1 v2) : p < W.heap.size := by
  rcases Nat.lt_or_ge p W.heap.size with h1 | h1
  · exact h1
  · have := h.blk; rw [Array.getElem?_eq_none h1] at this; cases this
theorem TX.below (h : TX W p v0 v1 v2) (hb : Below W.heap.size W W') : TX W' p v0 v1 v2 := ⟨(hb.block p h.lt).trans h.blk⟩
theorem TX.c0 (h : TX W p v0 v1 v2) : W.cell? ⟨p, 0, none⟩ = some v0 := by rw [cell_of_row _ _ _ _ _ _ h.blk]; rfl
theorem TX.c1 (h : TX W p v0 v1 v2) : W.cell? ⟨p, 1, none⟩ = some v1 := by rw [cell_of_row _ _ _ _ _ _ h.blk]; rfl
theorem TX.c2 (h : TX W p v0 v1 v2) : W.cell? ⟨p, 2, none⟩ = some v2 := by rw [cell_of_row _ _ _ _ _ _ h.blk]; rfl
theorem TX.free (h : TX W p v0 v1 v2) (j : Nat) : W.frozen? ⟨p, j, none⟩ = false := by unfold World.frozen?; rw [h.blk]; simp
theorem TX.typ (h : TX W p v0 v1 v2) : ∃ cur, W.heap[p]? = some (.cells cur 62 (0, 0)) := ⟨_, h.blk⟩
theorem TX.made (W : World) (v0 v1 v2 : Value) : TX (W.alloc (.cells #[v0, v1, v2] 62)) W.heap.size v0 v1 v2 := ⟨heap_alloc_new _ _⟩
end

set_option maxHeartbeats 2000000 in
set_option maxRecDepth 1000000 in
theorem plainTable_calls (w : World) (vv vr : Value) (vars : List Int) (n : Nat) (hv : IS w vv vars) (hr : ∃ a c, vr = .slice a n c) (hlv : vars.length ≤ 1000) (hn : n ≤ 100000) :
    Calls Try.prog 90 #[vv, vr] w fun e w' => ∃ v0 v2, e = .returned (.agg #[v0, vr, v2]) ∧ w'.ownsRow w.heap.size 3 1 v0 vars.length (vars.map (Value.int .i64)) ∧ w'.ownsRow w.heap.size 3 1 v2 n (List.replicate n (.int .i64 1)) ∧ Ap' v0 v2 ∧ Below w.heap.size w w' := by
  obtain ⟨W1, hW1⟩ : ∃ W1, W1 = w.alloc (.cells #[.slice none 0 0, .slice none 0 0, .slice none 0 0] 62) := ⟨_, rfl⟩
  have hB1 : Below w.heap.size w W1 := by rw [hW1]; exact (Below.refl _ _).alloc (Nat.le_refl _) _
  have HT1 : Hid (TX W1 w.heap.size (.slice none 0 0) (.slice none 0 0) (.slice none 0 0)) := hid (by rw [hW1]; exact TX.made _ _ _ _)
  have KC := hid (cloneI_calls W1 vv vars (hv.below hB1) (by omega))
  have HB1 := hid hB1
  obtain ⟨ar, cr, rfl⟩ := hr
  obtain ⟨av, cv, rfl, -⟩ := hv
  clear hB1
  go_enter Try.func90, Try.ntmps90
  go_upto_region 1 with fail
  rw [← hW1]
  clear hW1
  go_wp2_with fail
  refine KC.out.mono ?_
  rintro e w2 ⟨v0, rfl, ho0, hb2⟩
  have HT2 := hid (HT1.out.below hb2)
  have HB2 := hid (bt HB1.out hb2)
  have HO2 := hid (own_base ho0 HB1.out.size)
  have hlt0 : ∀ g, v0.ownBlock = some g → g < w2.heap.size := fun g hg => (ho0.lt g hg).2
  obtain ⟨a0, c0, rfl⟩ := own_shape ho0
  have HL0 := hid hlt0
  clear ho0 hb2 KC HT1 HB1 hlt0
  have HAl : Hid (Below w2.heap.size w2 (w2.alloc (.cells #[.int .i64 1] 3))) := hid ((Below.refl _ _).alloc (Nat.le_refl _) _)
  have KR := hid (repeat_calls (w2.alloc (.cells #[.int .i64 1] 3)) w2.heap.size n hn (by rw [World.cell?_alloc_at _ _ _ _ rfl]; rfl))
  have hs2 := HB2.out.size
  go_wp2_with fail
  refine KR.out.mono ?_
  rintro e w3 ⟨v2, rfl, ho2, hb3⟩
  have hb23 := bt HAl.out hb3
  have HT3 := hid (HT2.out.below hb23)
  have HB3 := hid (bt HB2.out hb23)
  have HO3 := hid (own_below HO2.out hb23)
  have HV3 := hid (own_base (B' := w.heap.size) ho2 (by simp; omega))
  have HAp : Hid (Ap' (.slice a0 vars.length c0) v2) := hid fun g h1 h2 => by
    have e1 := HL0.out g h1
    have e2 := (ho2.lt g h2).1
    simp at e2
    omega
  obtain ⟨a2, c2, rfl⟩ := own_shape ho2
  clear ho2 hb3 hb23 KR HAl HT2 HB2 HO2 HL0
  have d0 := HT3.out.c0
  have d1 := HT3.out.c1
  have d2 := HT3.out.c2
  have f0 := HT3.out.free 0
  have f1 := HT3.out.free 1
  have f2 := HT3.out.free 2
  have HTy := hid HT3.out.typ
  generalize hnv : vars.length = nv at *
  have HNV := hid hnv
  clear hnv
  go_wp2_with fail
  refine bodyPost_ret (v := .agg #[.slice a0 nv c0, .slice ar n cr, .slice a2 n c2]) (by simp [results, Try.results90, go_sem, d0, d1, d2]) rfl ⟨_, _, rfl, ?_, ?_, HAp.out, ?_⟩
  · rw [HNV.out]
    exact own_keep3 (own_keep3 (own_keep3 HO3.out HTy.out (by decide)) (typ_set HTy.out) (by decide)) (typ_set (typ_set HTy.out)) (by decide)
  · exact own_keep3 (own_keep3 (own_keep3 HV3.out HTy.out (by decide)) (typ_set HTy.out) (by decide)) (typ_set (typ_set HTy.out)) (by decide)
  · exact ((HB3.out.setCell (Nat.le_refl _) _).setCell (Nat.le_refl _) _).setCell (Nat.le_refl _) _

set_option maxHeartbeats 2000000 in
set_option maxRecDepth 1000000 in
theorem projectedRows_calls (w : World) (v0 v1 v2 vv : Value) (vs : List Int) (rows : List (List Int)) (ws vars : List Int) (h : IT w v0 v1 v2 vs rows ws) (hv : IS w vv vars) (hlv : vars.length ≤ 1000) (hls : vs.length ≤ 1000) (hn : rows.length ≤ 100000) (hrow : ∀ r ∈ rows, r.length = vs.length) :
    Calls Try.prog 91 #[.agg #[v0, v1, v2], vv] w fun e w' => ∃ v uo, e = .returned v ∧ RQ w' w.heap.size v uo (srt (prjL rows (plc (fun i => decide (vs.getD i 0 ∈ vars)) vs.length))) ∧ Below w.heap.size w w' := by
  obtain ⟨W1, hW1⟩ : ∃ W1, W1 = w.alloc (.cells #[v0, v1, v2] 62) := ⟨_, rfl⟩
  have hB1 : Below w.heap.size w W1 := by rw [hW1]; exact (Below.refl _ _).alloc (Nat.le_refl _) _
  have HT1 : Hid (TX W1 w.heap.size v0 v1 v2) := hid (by rw [hW1]; exact TX.made _ _ _ _)
  have KP : Hid (∀ W, Below W1.heap.size W1 W → Calls Try.prog 89 #[v0, vv] W fun e w' => ∃ v, e = .returned v ∧ w'.ownsRow W.heap.size 3 1 v (plc (fun i => decide (vs.getD i 0 ∈ vars)) vs.length).length ((plc (fun i => decide (vs.getD i 0 ∈ vars)) vs.length).map (Value.int .i64)) ∧ Below W.heap.size W w') := hid fun W hW => placesIn_calls W v0 vv vs vars (h.vs.below (bt hB1 hW)) (hv.below (bt hB1 hW)) (by omega) (by omega)
  have hpl := plc_le (fun i => decide (vs.getD i 0 ∈ vars)) vs.length
  have hpin : ∀ p ∈ plc (fun i => decide (vs.getD i 0 ∈ vars)) vs.length, 0 ≤ p ∧ p < (vs.length : Int) := fun p hp => by
    unfold plc at hp
    rw [List.mem_map] at hp
    obtain ⟨j, hj, e⟩ := hp
    rw [List.mem_filter, List.mem_range] at hj
    simp only [Int.ofNat_eq_natCast] at e
    omega
  have KR : Hid (∀ W u, Below W1.heap.size W1 W → IS W u (plc (fun i => decide (vs.getD i 0 ∈ vars)) vs.length) → Calls Try.prog 129 #[v1, u] W fun e w' => ∃ v uo, e = .returned v ∧ RQ w' W.heap.size v uo (srt (prjL rows (plc (fun i => decide (vs.getD i 0 ∈ vars)) vs.length))) ∧ Below W.heap.size W w') := hid fun W u hW hu =>
    rowsAt_calls W v1 u rows _ (h.rows.below (bt hB1 hW)) hu (by omega) (by omega) (fun r hr p hp => by rw [hrow r hr]; exact hpin p hp)
  have HB1 := hid hB1
  obtain ⟨a0, c0, e0, -⟩ := h.vs
  obtain ⟨a1, c1, e1, -⟩ := h.rows
  obtain ⟨a2, c2, e2, -⟩ := h.ws
  obtain ⟨av, cv, e3, -⟩ := hv
  subst e0 e1 e2 e3
  clear hB1 hpin h hrow
  generalize plc (fun i => decide (vs.getD i 0 ∈ vars)) vs.length = pl at *
  generalize vs.length = l0 at *
  generalize rows.length = l1 at *
  generalize ws.length = l2 at *
  generalize vars.length = l3 at *
  have d0 := HT1.out.c0
  have d1 := HT1.out.c1
  go_enter Try.func91, Try.ntmps91
  go_upto_region 1 with fail
  rw [← hW1]
  clear hW1
  go_region_law (first
    | (go_simp; go_at_call 89; (with_reducible refine (KP.out _ (Below.refl _ _).drew).mono ?_); rintro e w2 ⟨u2, rfl, ho2, hb2'⟩; have hb2 := drew_below2 hb2'; have HI2 := hid (own_is ho2); have d1b := (HT1.out.below hb2).c1; obtain ⟨a9, c9, e9⟩ := own_shape ho2; subst e9; clear ho2 hb2')
    | (go_simp; go_at_call 129; (with_reducible refine (KR.out _ _ hb2 HI2.out).mono ?_); rintro e w3 ⟨u3, uo3, rfl, hQ3, hb3⟩))
  all_goals
    go_wp2_with fail
    go_ret
    exact ⟨_, uo3, rfl, hQ3.base (Nat.le_trans HB1.out.size hb2.size), bt (bt HB1.out hb2) hb3⟩

end Go.Proofs.Ytliggcbiiaegeab
