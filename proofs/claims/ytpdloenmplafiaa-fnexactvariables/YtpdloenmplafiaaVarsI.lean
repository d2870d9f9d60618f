import Derived.Test.YtpdloenmplafiaaNumbers
import Derived.Maps.RangeWalk
/-
  impl.Variables.
-/
namespace Go.Proofs.Ytpdloenmplafiaa
open Go.RowKit Go.Maps

theorem keyOf_str_inv {key : Value} {kl : Lit} (h : keyOf Try.prog 9 key = some kl) : ∃ x, key = .string x ∧ kl = .string x.data.toList := by
  cases key <;> simp [keyOf, Try.underlying9, mapKey] at h
  exact ⟨_, rfl, h.2.symm⟩

theorem elem_int_inv {v : Value} {y : DataW Unit × List MemPlace} (h : plainElem Try.prog 3 v = some y) : ∃ c, v = .int .i64 c ∧ y = (.lit (.int .i64 c), []) := by
  obtain ⟨c, rfl, h2, _⟩ := plainElem_int_inv Try.underlying3 h
  exact ⟨c, rfl, h2⟩

theorem rg_move {w w' : World} {k : TypeId} {R : Value → Option (DataW Unit × List MemPlace)} {b r n cnt : Nat} {D : DataW Unit} {left : Lit → Bool} (h : w.ranges Try.prog k R b r n D left cnt) (h1 : w'.heap[b]? = w.heap[b]?) (h2 : w'.heap[r]? = w.heap[r]?) : w'.ranges Try.prog k R b r n D left cnt := by
  obtain ⟨es, clock, since, seen, c0, g1, g2, g3, g4, g5, g6⟩ := h
  exact ⟨es, clock, since, seen, c0, h1.trans g1, g2, g3, g4, h2.trans g5, g6⟩

def kLit (s : ByteArray) : Lit := .string s.data.toList

theorem kLit_same {a b : ByteArray} (h : (kLit a).sameKey (kLit b) = true) : a = b := by
  unfold kLit at h
  simp [Lit.sameKey] at h
  exact ByteArray.ext h

/-- the names that have come stand at their places -/
structure Named (w : World) (g : Nat) (L : List ByteArray) (left : Lit → Bool) : Prop where
  cell : ∀ i, i < L.length → ∃ u, w.cell? ⟨g, i, none⟩ = some u ∧ (left (kLit (L.getD i noTx)) = false → u = .string (L.getD i noTx))
  free : ∀ i, i < L.length → w.frozen? ⟨g, i, none⟩ = false
  lt : g < w.heap.size

theorem Named.move {w w' : World} {g : Nat} {L : List ByteArray} {left : Lit → Bool} (h : Named w g L left) (hb : w'.heap[g]? = w.heap[g]?) (hs : w.heap.size ≤ w'.heap.size) : Named w' g L left :=
  ⟨fun i hi => by
    obtain ⟨u, h1, h2⟩ := h.cell i hi
    exact ⟨u, (World.cell?_of_block (w := w) (a := ⟨g, i, none⟩) hb).trans h1, h2⟩, fun i hi => (World.frozen?_of_block (w := w) (a := ⟨g, i, none⟩) hb).trans (h.free i hi), Nat.lt_of_lt_of_le h.lt hs⟩

theorem Named.put {w : World} {g i : Nat} {L : List ByteArray} {left : Lit → Bool} (h : Named w g L left) (hi : i < L.length) (huniq : ∀ j, j < L.length → L.getD j noTx = L.getD i noTx → j = i) : Named (w.setCell ⟨g, i, none⟩ (.string (L.getD i noTx))) g L (fun z => left z && !z.sameKey (kLit (L.getD i noTx))) := by
  refine ⟨fun j hj => ?_, fun j hj => by rw [World.frozen?_setCell]; exact h.free j hj, by simpa [World.setCell] using h.lt⟩
  by_cases e : j = i
  · subst e
    obtain ⟨u, h1, _⟩ := h.cell j hj
    exact ⟨_, World.cell?_setCell_same _ _ _ h1, fun _ => rfl⟩
  · obtain ⟨u, h1, h2⟩ := h.cell j hj
    refine ⟨u, (World.cell?_setCell_other _ _ _ _ (by intro e2; simp only [Addr.mk.injEq] at e2; omega)).trans h1, fun hl => h2 ?_⟩
    cases hz : left (kLit (L.getD j noTx))
    · rfl
    · exfalso
      rw [hz, Bool.true_and] at hl
      have hsk : (kLit (L.getD j noTx)).sameKey (kLit (L.getD i noTx)) = true := by simpa using hl
      have := kLit_same hsk
      exact e (huniq j hj this)

theorem hasT_find {L : List ByteArray} {x : ByteArray} (h : hasT L x = true) : ∃ i, i < L.length ∧ L.getD i noTx = x := by
  unfold hasT at h
  obtain ⟨y, hy, he⟩ := List.any_eq_true.1 h
  rw [beq_tx] at he
  have : y = x := by simpa using he
  subst this
  obtain ⟨i, hi, e⟩ := List.getElem_of_mem hy
  exact ⟨i, hi, by rw [List.getD_eq_getElem?_getD, List.getElem?_eq_getElem hi]; exact e⟩

theorem addV_mem {L : List ByteArray} {t : TermV} {x : ByteArray} (h : x ∈ addV L t) : x ∈ L ∨ x = t.1 := by
  unfold addV at h
  split at h
  · exact Or.inl h
  · simpa using h

theorem VL_size (ats : List AtomV) (h : ∀ j, j < ats.length → ∀ p, p < (ats.getD j noAt).2.length → ((ats.getD j noAt).2.getD p noTm).1.size ≤ 1048576) (i : Nat) (hi : i ≤ ats.length) : ∀ x, x ∈ VL ats i → x.size ≤ 1048576 := by
  induction i with
  | zero => intro x hx; rw [VL_zero] at hx; cases hx
  | succ i ih =>
    have step : ∀ p, p ≤ (ats.getD i noAt).2.length → ∀ x, x ∈ VT ats i p → x.size ≤ 1048576 := by
      intro p
      induction p with
      | zero => intro _ x hx; rw [VT_zero] at hx; exact ih (by omega) x hx
      | succ p ihp =>
        intro hp x hx
        rw [VT_succ ats i (by omega)] at hx
        rcases addV_mem hx with hx | hx
        · exact ihp (by omega) x hx
        · rw [hx]; exact h i (by omega) p (by omega)
    intro x hx
    rw [VL_succ ats (by omega)] at hx
    exact step _ (Nat.le_refl _) x hx

set_option maxHeartbeats 20000000 in
set_option maxRecDepth 1000000 in
theorem variables_calls (w : World) (vh va : Value) (q : QV) (h : IQ w vh va q) (hq : OkQ q) :
    Calls Try.prog 37 #[.agg #[.string q.name, vh, .int .i64 q.ring, va]] w fun e w' => ∃ g, e = .returned (.slice (some ⟨g, 0, none⟩) (varsQ q).length (varsQ q).length) ∧ OwnSt w' g (varsQ q) ∧ w.heap.size ≤ g ∧ Below w.heap.size w w' := by
  have HI := hid h
  have HVN : Hid ((VL q.atoms q.atoms.length).length ≤ 1099511627776 ∧ ∀ i, i < (VL q.atoms q.atoms.length).length → ((VL q.atoms q.atoms.length).getD i noTx).size ≤ 281474976710656) := hid (by
    have h1 := VL_len q.atoms (fun j hj => (hq.atoms j hj).len) q.atoms.length (Nat.le_refl _)
    have h2 := hq.alen
    refine ⟨by omega, fun i hi => ?_⟩
    have := VL_size q.atoms (fun j hj => (hq.atoms j hj).tx) q.atoms.length (Nat.le_refl _) ((VL q.atoms q.atoms.length).getD i noTx) (List.mem_of_getElem? (i := i) (by simp [List.getD_eq_getElem?_getD, hi]))
    omega)
  obtain ⟨a1, k1, e1, -⟩ := h.head
  obtain ⟨a2, k2, e2, -⟩ := h.atoms
  subst e1 e2
  obtain ⟨W1, hW1⟩ : ∃ W, W = w.alloc (.cells #[.string q.name, .slice a1 q.head.length k1, .int .i64 q.ring, .slice a2 q.atoms.length k2] 69) := ⟨_, rfl⟩
  have c0 : W1.cell? ⟨w.heap.size, 0, none⟩ = some (.string q.name) := by rw [hW1, World.cell?_alloc_at _ _ _ _ rfl]; rfl
  have c1 : W1.cell? ⟨w.heap.size, 1, none⟩ = some (.slice a1 q.head.length k1) := by rw [hW1, World.cell?_alloc_at _ _ _ _ rfl]; rfl
  have c2 : W1.cell? ⟨w.heap.size, 2, none⟩ = some (.int .i64 q.ring) := by rw [hW1, World.cell?_alloc_at _ _ _ _ rfl]; rfl
  have c3 : W1.cell? ⟨w.heap.size, 3, none⟩ = some (.slice a2 q.atoms.length k2) := by rw [hW1, World.cell?_alloc_at _ _ _ _ rfl]; rfl
  have HB1 : Hid (Below w.heap.size w W1) := hid (by rw [hW1]; exact (Below.refl _ _).alloc (Nat.le_refl _) _)
  have KS := hid (hasGoodShape_calls W1 _ _ q (HI.out.below HB1.out) hq)
  have KV : Hid (∀ W, Below w.heap.size w W → Calls Try.prog 91 #[.agg #[.string q.name, .slice a1 q.head.length k1, .int .i64 q.ring, .slice a2 q.atoms.length k2]] W fun e w' => ∃ b, e = .returned (.map (some b)) ∧ Numb w' b (VL q.atoms q.atoms.length) ∧ W.heap.size < b ∧ b < w'.heap.size ∧ Below W.heap.size W w') := hid (fun W hb => variableNumbers_calls W _ _ q (HI.out.below hb) hq)
  unfold varsQ
  clear h hq HI
  generalize VL q.atoms q.atoms.length = L at *
  generalize shapeB q = SB at *
  generalize q.name = nm at *
  generalize q.ring = rg at *
  generalize q.head.length = hn at *
  generalize q.atoms.length = an at *
  go_enter Try.func37, Try.ntmps37
  go_upto_region 1 with fail
  rw [← hW1]
  clear hW1
  go_wp2_with fail
  refine KS.out.mono ?_
  rintro e w2 ⟨rfl, hb2⟩
  have d0 := bcl' hb2 c0
  have d1 := bcl' hb2 c1
  have d2 := bcl' hb2 c2
  have d3 := bcl' hb2 c3
  have HB2 := hid (bt HB1.out hb2)
  clear c0 c1 c2 c3 hb2 KS
  cases SB
  · go_wp2
    go_ret
    exact ⟨_, rfl, ⟨fun j hj => by simp at hj, fun j hj => by simp at hj, by simp⟩, HB2.out.size, HB2.out.alloc HB2.out.size _⟩
  · go_wp2_with fail
    refine (KV.out w2 HB2.out).mono ?_
    rintro e w3 ⟨bm, rfl, ⟨D, hown, hhas, hsize, hat⟩, hbm, hbm2, hb3⟩
    have HB3 := hid (bt HB2.out hb3)
    have hs3 := HB3.out.size
    have hs2 := HB2.out.size
    have HHAS := hid (And.intro hhas hat)
    have hL1 := HVN.out.1
    clear hb3 d0 d1 d2 d3 KV hhas hat HB2
    have hmk := run_make_row' (P := Try.prog) 61 9 (.string ⟨#[]⟩) 16 Try.underlying61 (by kernel_rfl) rfl .i64 .i64 L.length (by omega) (by omega)
    have hb4 : Below w3.heap.size w3 (w3.alloc (.cells (madeCells #[.string ⟨#[]⟩] L.length) 9)) := (Below.refl _ _).alloc (Nat.le_refl _) _
    have hown4 := map_bel hown hb4
    have hN4 : Named (w3.alloc (.cells (madeCells #[.string ⟨#[]⟩] L.length) 9)) w3.heap.size L (Maps.has D) := ⟨fun i hi => ⟨_, by rw [cell_of_row _ _ _ _ _ _ (heap_alloc_new w3 _)]; exact made_get _ _ _ hi, fun hl => by
        have := HHAS.out.1 (L.getD i noTx)
        rw [hasT_get hi] at this
        unfold kLit at hl
        rw [this] at hl; cases hl⟩, fun i hi => by unfold World.frozen?; rw [heap_alloc_new w3 _]; simp, by simp⟩
    have HN4 := hid hN4
    have HB4 : Hid (Below w.heap.size w (w3.alloc (.cells (madeCells #[.string ⟨#[]⟩] L.length) 9))) := hid (bt HB3.out hb4)
    have hsz4 : (w3.alloc (.cells (madeCells #[.string ⟨#[]⟩] L.length) 9)).heap.size = w3.heap.size + 1 := by simp
    clear hb4 hN4
    go_upto_region 5 with (first | (at_len; refine wpList_len_own _ rfl _ 102 rfl 9 3 Try.underlying102 _ bm L.length D rfl hown ?_; rw [hsize]) | fail)
    generalize w3.alloc (.cells (madeCells #[.string ⟨#[]⟩] L.length) 9) = w4 at *
    clear hown hmk
    go_wp2_with (first
      | (at_range; refine wpList_range_own _ rfl _ 102 rfl 9 3 Try.lawT Try.underlying102 _ bm L.length D rfl hown4 ?_; intro w5 hrg0 hg0 hs0)
      | go_in)
    go_frame
    rw [hsz4] at hrg0 hs0 ⊢
    have HX0 : Hid (Below w.heap.size w w5 ∧ Named w5 w3.heap.size L (Maps.has D) ∧ (∀ kl, Maps.has D kl = true → Maps.has D kl = true) ∧ w3.heap.size + 1 < w5.heap.size) := hid ⟨HB4.out.grown hg0 (by omega) (fun j hj => by cases hj), HN4.out.move (hg0.block _ (by omega) (by simp)) (by omega), fun _ h => h, by omega⟩
    clear HN4 HB4 hown4 hg0
    go_loopw [5] (fun _ wr => ∃ (left : Lit → Bool) (cnt : Nat), wr.ranges Try.prog 9 (plainElem Try.prog 3) bm (w3.heap.size + 1) L.length D left cnt ∧ Hid (Below w.heap.size w wr ∧ Named wr w3.heap.size L left ∧ (∀ kl, left kl = true → Maps.has D kl = true) ∧ w3.heap.size + 1 < wr.heap.size)) (fun _ wr => wr.rangeLeft bm (w3.heap.size + 1))
    case atStart => exact ⟨_, _, hrg0, HX0⟩
    case round =>
      clear HX0 hrg0
      obtain ⟨left, cnt, hrg, HH⟩ := hrel
      go_wp2_with (first
        | (at_next; refine wpList_next_ranges _ rfl _ rfl 9 Try.lawT _ Value.string (Value.int .i64) (fun key kl hk => by obtain ⟨x, e, _⟩ := keyOf_str_inv hk; exact ⟨x, e⟩) (fun v y hv => by obtain ⟨c, e, _⟩ := elem_int_inv hv; exact ⟨c, e⟩) bm (w3.heap.size + 1) L.length D left cnt rfl hrg ?_ ?_)
        | go_in)
      · intro hc0 hl0
        have HO : Hid (OwnSt wr w3.heap.size L) := hid ⟨fun i hi => by
          obtain ⟨u, h1, h2⟩ := HH.out.2.1.cell i hi
          rw [h2 (hl0 _)] at h1
          exact h1, HH.out.2.1.free, HH.out.2.1.lt⟩
        go_wp2
        go_ret
        exact ⟨_, rfl, HO.out, by omega, HH.out.1⟩
      · intro x c kl ya yb w6 cnt1 hkey hlk hv hat1 hrg1 hlt hg1 hs1 hen
        obtain ⟨x', ex, ekl⟩ := keyOf_str_inv hkey
        cases ex
        obtain ⟨c', ec, ey⟩ := elem_int_inv hv
        cases ec
        simp only [Prod.mk.injEq] at ey
        obtain ⟨rfl, rfl⟩ := ey
        subst ekl
        obtain ⟨i, hi, hxi⟩ := hasT_find (L := L) (x := x) (by rw [← HHAS.out.1 x]; exact HH.out.2.2.1 _ hlk)
        have hci : c = (i : Int) := by
          have e1 := hat1 (.lit (.int .i64 0))
          have e2 := HHAS.out.2 i hi (.lit (.int .i64 0))
          rw [hxi] at e2
          rw [e2] at e1
          simpa using e1.symm
        subst hci
        have huniq : ∀ j, j < L.length → L.getD j noTx = L.getD i noTx → j = i := fun j hj e => by
          have e1 := HHAS.out.2 j hj (.lit (.int .i64 0))
          have e2 := HHAS.out.2 i hi (.lit (.int .i64 0))
          rw [e, e2] at e1
          simp at e1
          omega
        have hxs : x.size ≤ 281474976710656 := by rw [← hxi]; exact HVN.out.2 i hi
        have hil : (i : Int) < (L.length : Int) := by omega
        have hsw := HH.out.2.2.2
        have hN6 := HH.out.2.1.move (w' := w6) (hg1.block _ (by omega) (by intro e; simp only [Option.some.injEq] at e; omega)) (by omega)
        have HB6 : Hid (Below w.heap.size w w6) := hid (HH.out.1.grown hg1 (by omega) (fun j hj => by cases hj; omega))
        have HN6 := hid hN6
        have HR6 := hid hrg1
        have HLT := hid hlt
        have HRG := hid hrg
        have HLE := hid (fun kl (h : (left kl && !kl.sameKey (.string x.data.toList)) = true) => HH.out.2.2.1 kl (by revert h; cases left kl <;> simp))
        have hs6 : w3.heap.size + 1 < w6.heap.size := by have := HH.out.2.2.2; omega
        clear hN6 hrg1 hlt hrg hkey hlk hv hat1 hg1 HH
        go_wp2_with fail
        refine (clone_calls x w6 hxs).mono ?_
        rintro e w7 ⟨rfl, hb7⟩
        have hN7 := HN6.out.move (w' := w7) (hb7.block _ (by omega)) hb7.size
        obtain ⟨u, cu, -⟩ := hN7.cell i hi
        have fu := hN7.free i hi
        have HF : Hid ((w7.setCell ⟨w3.heap.size, i, none⟩ (.string x)).ranges Try.prog 9 (plainElem Try.prog 3) bm (w3.heap.size + 1) L.length D (fun z => left z && !z.sameKey (.string x.data.toList)) cnt1 ∧ (Below w.heap.size w (w7.setCell ⟨w3.heap.size, i, none⟩ (.string x)) ∧ Named (w7.setCell ⟨w3.heap.size, i, none⟩ (.string x)) w3.heap.size L (fun z => left z && !z.sameKey (.string x.data.toList)) ∧ w3.heap.size + 1 < (w7.setCell ⟨w3.heap.size, i, none⟩ (.string x)).heap.size)) := hid ⟨rg_move HR6.out (by rw [heap_set_ne (by omega)]; exact hb7.block _ (by omega)) (by rw [heap_set_ne (by omega)]; exact hb7.block _ (by omega)), (bt HB6.out hb7).setCell (by show w.heap.size ≤ w3.heap.size; omega) _, by
            have := hN7.put hi huniq
            rw [hxi] at this
            exact this, by have := hb7.size; simp [World.setCell]; omega⟩
        clear hN7 hb7 HN6 HB6 HR6 hen
        go_wp2
        go_roundw
        case rel => exact ⟨_, cnt1, HF.out.1, hid ⟨HF.out.2.1, HF.out.2.2.1, HLE.out, HF.out.2.2.2⟩⟩
        case measure => rw [HF.out.1.left_eq, HRG.out.left_eq]; exact HLT.out

end Go.Proofs.Ytpdloenmplafiaa
