import Derived.Test.YtpdloenmplafiaaV29
/-
  spec: l2Subset, l2Project.
-/
namespace Go.Proofs.Ytpdloenmplafiaa
open Go.RowKit

theorem allQ_false {p : Int → Bool} {l : List Int} {j : Nat} (hj : j < l.length) (h : p (l.getD j 0) = false) : l.all p = false := by
  rw [List.all_eq_false]
  refine ⟨l[j], List.getElem_mem _, ?_⟩
  rw [List.getD_eq_getElem?_getD, List.getElem?_eq_getElem hj, Option.getD_some] at h
  rw [h]; decide
theorem allQ_true {p : Int → Bool} {l : List Int} (h : ∀ j, j < l.length → p (l.getD j 0) = true) : l.all p = true := by
  rw [List.all_eq_true]
  intro x hx
  obtain ⟨i, hi, e⟩ := List.getElem_of_mem hx
  have := h i hi
  rw [List.getD_eq_getElem?_getD, List.getElem?_eq_getElem hi, Option.getD_some, e] at this
  exact this

set_option maxHeartbeats 2000000 in
theorem subset_calls (w : World) (v v2 : Value) (l l2 : List Int) (h : IS w v l) (hl : l.length ≤ 1099511627776) (h2 : IS w v2 l2) (hl2 : l2.length ≤ 1099511627776) :
    Calls Try.prog 69 #[v, v2] w fun e w' => e = .returned (.bool (subQ l l2)) ∧ w' = w := by
  obtain ⟨a, cap, rfl, hc⟩ := h
  have H2 := hid h2
  obtain ⟨a2, cap2, rfl, -⟩ := h2
  obtain ⟨res, hres⟩ : ∃ r, r = subQ l l2 := ⟨_, rfl⟩
  rw [← hres]
  have HF : Hid (∀ j, j < l.length → decide (l.getD j 0 ∈ l2) = false → res = false) := hid fun j hj e => by
    rw [hres]; unfold subQ
    exact allQ_false (p := fun x => decide (x ∈ l2)) hj e
  have HT : Hid ((∀ j, j < l.length → decide (l.getD j 0 ∈ l2) = true) → res = true) := hid fun h1 => by
    rw [hres]; unfold subQ
    exact allQ_true (p := fun x => decide (x ∈ l2)) h1
  obtain ⟨n, hn⟩ : ∃ n, n = l.length := ⟨_, rfl⟩
  rw [← hn] at hc hl HF HT ⊢
  have HC := hid hc
  clear hc hn hres
  go_enter Try.func69, Try.ntmps69
  go_wp2_with fail
  go_loop [9] (fun t => ∃ j : Nat, j ≤ n ∧ t = .int .i64 j ∧ Hid (∀ i, i < j → decide (l.getD i 0 ∈ l2) = true)) (fun t => n - (intOf t).toNat)
  case atStart => exact ⟨0, Nat.zero_le _, rfl, hid (fun i hi => by omega)⟩
  case round =>
    obtain ⟨j, hj, rfl, hok⟩ := hrel
    by_cases hjn : j < n
    · have i1 : (j : Int) < (n : Int) := by omega
      rcases HC.out with h0 | ⟨b, o, rfl, hcell⟩
      · omega
      · have c1 := hcell j hjn
        have HK := hid (l1Has_calls w _ l2 (l.getD j 0) H2.out hl2)
        have fin := HF.out j hjn
        have nxt : decide (l.getD j 0 ∈ l2) = true → Hid (∀ i, i < j + 1 → decide (l.getD i 0 ∈ l2) = true) := fun e i hi => by
          by_cases e2 : i = j
          · rw [e2]; exact e
          · exact hok.out i (by omega)
        clear hcell hok
        generalize decide (l.getD j 0 ∈ l2) = y at *
        generalize l.getD j 0 = x at *
        cases y
        · obtain rfl := fin rfl
          clear nxt
          go_wp2_with fail
          refine HK.out.mono ?_
          rintro e w1 ⟨rfl, hw1⟩
          subst w1
          go_wp2_with fail
          go_ret
          exact ⟨rfl, rfl⟩
        · have hf := nxt rfl
          clear fin nxt
          go_wp2_with fail
          refine HK.out.mono ?_
          rintro e w1 ⟨rfl, hw1⟩
          subst w1
          go_wp2_with fail
          go_round
          case rel => exact ⟨j + 1, by omega, by go_num, hf⟩
          case measure => simp [intOf]; omega
    · obtain rfl : j = n := by omega
      obtain rfl := HT.out hok.out
      have i1 : ¬ ((j : Int) < (j : Int)) := by omega
      clear hok
      go_wp2_with fail
      go_ret
      exact ⟨rfl, rfl⟩


theorem TX.set2 {W : World} {p : Nat} {v0 v1 v2 : Value} (h : TX W p v0 v1 v2) (y : Value) : TX (W.setCell ⟨p, 2, none⟩ y) p v0 v1 y := ⟨by rw [heap_setCell_same _ _ _ _ _ _ h.blk]; rfl⟩
theorem TX.grown {W w3 : World} {p B s n : Nat} {v0 v1 v2 u : Value} {e : TypeId} {xs : List Value} {o : Obj} (h : TX W p v0 v1 v2) (hu : W.ownsRow B e s u n xs) (he : e ≠ 53) (hg : (W.alloc o).grownBy w3 u.ownBlock) : TX w3 p v0 v1 v2 := ⟨(kept_of hg h.lt (own_ne hu h.typ he)).trans h.blk⟩

/-- rows read past a table's block in which nothing but lists lies -/
theorem issc_set3 {W : World} {p : Nat} {a : Option Addr} {n c : Nat} {ls : List (List Int)} (h : ISSc W (.slice a n c) ls) (hX : TX W p (.slice none 0 0) (.slice none 0 0) (.slice none 0 0)) (hne : (Value.slice a n c).ownBlock ≠ some p) (x0 x1 x2 : Value) : ISSc (((W.setCell ⟨p, 0, none⟩ x0).setCell ⟨p, 1, none⟩ x1).setCell ⟨p, 2, none⟩ x2) (.slice a n c) ls := by
  have far : ∀ b, b ≠ p → (((W.setCell ⟨p, 0, none⟩ x0).setCell ⟨p, 1, none⟩ x1).setCell ⟨p, 2, none⟩ x2).heap[b]? = W.heap[b]? := fun b hb => by
    rw [Below.heap_setCell _ _ _ _ (by exact hb), Below.heap_setCell _ _ _ _ (by exact hb), Below.heap_setCell _ _ _ _ (by exact hb)]
  have hint : ∀ (b o : Nat) (x : Int), W.cell? ⟨b, o, none⟩ = some (.int .i64 x) → b ≠ p := fun b o x hc e => by
    subst e
    rw [cell_of_row _ _ _ _ _ _ hX.blk] at hc
    match o, hc with
    | 0, hc => simp at hc
    | 1, hc => simp at hc
    | 2, hc => simp at hc
    | o + 3, hc => simp at hc
  obtain ⟨a', cap', e, hh⟩ := h
  refine ⟨a', cap', e, ?_⟩
  rcases hh with h0 | ⟨b, o, rfl, hh⟩
  · exact Or.inl h0
  · refine Or.inr ⟨b, o, rfl, fun j hj => ?_⟩
    obtain ⟨u, h1, h2⟩ := hh j hj
    simp only [Value.slice.injEq] at e
    have hb : b ≠ p := fun e2 => hne (by rw [e.1, e2]; rfl)
    refine ⟨u, (World.cell?_of_block (w := W) (a := ⟨b, o + j, none⟩) (far b hb)).trans h1, ?_⟩
    obtain ⟨⟨a2, c2, e2, h3⟩, hcap⟩ := h2
    refine ⟨⟨a2, c2, e2, ?_⟩, hcap⟩
    rcases h3 with h0 | ⟨b2, o2, rfl, h3⟩
    · exact Or.inl h0
    · exact Or.inr ⟨b2, o2, rfl, fun i hi => (World.cell?_of_block (w := W) (a := ⟨b2, o2 + i, none⟩) (far b2 (hint _ _ _ (h3 i hi)))).trans (h3 i hi)⟩

theorem iss_set3 {W : World} {p : Nat} {a : Option Addr} {n c : Nat} {ls : List (List Int)} (h : ISS W (.slice a n c) ls) (hX : TX W p (.slice none 0 0) (.slice none 0 0) (.slice none 0 0)) (hne : (Value.slice a n c).ownBlock ≠ some p) (x0 x1 x2 : Value) : ISS (((W.setCell ⟨p, 0, none⟩ x0).setCell ⟨p, 1, none⟩ x1).setCell ⟨p, 2, none⟩ x2) (.slice a n c) ls := by
  have far : ∀ b, b ≠ p → (((W.setCell ⟨p, 0, none⟩ x0).setCell ⟨p, 1, none⟩ x1).setCell ⟨p, 2, none⟩ x2).heap[b]? = W.heap[b]? := fun b hb => by
    rw [Below.heap_setCell _ _ _ _ (by exact hb), Below.heap_setCell _ _ _ _ (by exact hb), Below.heap_setCell _ _ _ _ (by exact hb)]
  have hint : ∀ (b o : Nat) (x : Int), W.cell? ⟨b, o, none⟩ = some (.int .i64 x) → b ≠ p := fun b o x hc e => by
    subst e
    rw [cell_of_row _ _ _ _ _ _ hX.blk] at hc
    match o, hc with
    | 0, hc => simp at hc
    | 1, hc => simp at hc
    | 2, hc => simp at hc
    | o + 3, hc => simp at hc
  obtain ⟨a', cap', e, hh⟩ := h
  refine ⟨a', cap', e, ?_⟩
  rcases hh with h0 | ⟨b, o, rfl, hh⟩
  · exact Or.inl h0
  · refine Or.inr ⟨b, o, rfl, fun j hj => ?_⟩
    obtain ⟨u, h1, h2⟩ := hh j hj
    simp only [Value.slice.injEq] at e
    have hb : b ≠ p := fun e2 => hne (by rw [e.1, e2]; rfl)
    refine ⟨u, (World.cell?_of_block (w := W) (a := ⟨b, o + j, none⟩) (far b hb)).trans h1, ?_⟩
    obtain ⟨a2, c2, e2, h3⟩ := h2
    refine ⟨a2, c2, e2, ?_⟩
    rcases h3 with h0 | ⟨b2, o2, rfl, h3⟩
    · exact Or.inl h0
    · exact Or.inr ⟨b2, o2, rfl, fun i hi => (World.cell?_of_block (w := W) (a := ⟨b2, o2 + i, none⟩) (far b2 (hint _ _ _ (h3 i hi)))).trans (h3 i hi)⟩

theorem is_set3 {W : World} {p : Nat} {v : Value} {l : List Int} (h : IS W v l) (hX : TX W p (.slice none 0 0) (.slice none 0 0) (.slice none 0 0)) (x0 x1 x2 : Value) : IS (((W.setCell ⟨p, 0, none⟩ x0).setCell ⟨p, 1, none⟩ x1).setCell ⟨p, 2, none⟩ x2) v l := by
  have far : ∀ b, b ≠ p → (((W.setCell ⟨p, 0, none⟩ x0).setCell ⟨p, 1, none⟩ x1).setCell ⟨p, 2, none⟩ x2).heap[b]? = W.heap[b]? := fun b hb => by
    rw [Below.heap_setCell _ _ _ _ (by exact hb), Below.heap_setCell _ _ _ _ (by exact hb), Below.heap_setCell _ _ _ _ (by exact hb)]
  have hint : ∀ (b o : Nat) (x : Int), W.cell? ⟨b, o, none⟩ = some (.int .i64 x) → b ≠ p := fun b o x hc e => by
    subst e
    rw [cell_of_row _ _ _ _ _ _ hX.blk] at hc
    match o, hc with
    | 0, hc => simp at hc
    | 1, hc => simp at hc
    | 2, hc => simp at hc
    | o + 3, hc => simp at hc
  obtain ⟨a2, c2, e2, h3⟩ := h
  refine ⟨a2, c2, e2, ?_⟩
  rcases h3 with h0 | ⟨b2, o2, rfl, h3⟩
  · exact Or.inl h0
  · exact Or.inr ⟨b2, o2, rfl, fun i hi => (World.cell?_of_block (w := W) (a := ⟨b2, o2 + i, none⟩) (far b2 (hint _ _ _ (h3 i hi)))).trans (h3 i hi)⟩

set_option maxHeartbeats 1000000 in
set_option maxRecDepth 1000000 in
theorem l2Project_calls (w : World) (v0 v1 v2 : Value) (ad : Addr) (cv : Nat) (vs : List Int) (rows : List (List Int)) (ws vars : List Int) (h : IT w v0 v1 v2 vs rows ws) (hv : IS w (.slice (some ad) vars.length cv) vars) (hlv : vars.length ≤ 1000) (hls : vs.length ≤ 1000) (hn : rows.length ≤ 100000) (hrow : ∀ r ∈ rows, r.length = vs.length) :
    Calls Try.prog 70 #[.agg #[v0, v1, v2], .slice (some ad) vars.length cv] w fun e w' => ∃ x0 x1 x2, e = .returned (.agg #[x0, x1, x2]) ∧ IT w' x0 x1 x2 vars (srt (rows.map (prjR vs vars))) (ones (srt (rows.map (prjR vs vars))).length) ∧ (∀ g, x1.ownBlock = some g → w.heap.size ≤ g) ∧ Below w.heap.size w w' ∧ ISSc w' x1 (srt (rows.map (prjR vs vars))) := by
  obtain ⟨iS, hj, hy0, hy1, hy2⟩ := info_parts Try.infoIS
  obtain ⟨i0, hi, hz0, hz1, hz2⟩ := info_parts Try.infoInt
  obtain ⟨W1, hW1⟩ : ∃ W1, W1 = (w.alloc (.cells #[v0, v1, v2] 53)).alloc (.cells #[.slice none 0 0, .slice none 0 0, .slice none 0 0] 53) := ⟨_, rfl⟩
  have hB1 : Below w.heap.size w W1 := by rw [hW1]; exact ((Below.refl _ _).alloc (Nat.le_refl _) _).alloc (by simp) _
  have HT1 : Hid (TX W1 w.heap.size v0 v1 v2) := hid (by rw [hW1]; exact (TX.made _ _ _ _).below ((Below.refl _ _).alloc (Nat.le_refl _) _))
  have HR1 : Hid (TX W1 (w.heap.size + 1) (.slice none 0 0) (.slice none 0 0) (.slice none 0 0)) := hid (by
    rw [hW1]
    have := TX.made (w.alloc (.cells #[v0, v1, v2] 53)) (.slice none 0 0) (.slice none 0 0) (.slice none 0 0)
    rw [World.size_alloc] at this
    exact this)
  have HI : Hid (∀ W, Below w.heap.size w W → IT W v0 v1 v2 vs rows ws ∧ IS W (.slice (some ad) vars.length cv) vars) := hid fun W hW => ⟨h.below hW, hv.below hW⟩
  have HB1 := hid hB1
  obtain ⟨a0, c0, e0, -⟩ := h.vs
  obtain ⟨a1, c1, e1, hc1⟩ := h.rows
  obtain ⟨a2, c2, e2, -⟩ := h.ws
  subst e0 e1 e2
  have HC : Hid (∀ W, Below w.heap.size w W → ∀ j, j < rows.length → ∃ (b o : Nat) (u : Value), a1 = some ⟨b, o, none⟩ ∧ W.cell? ⟨b, o + j, none⟩ = some u ∧ IS W u (rows.getD j [])) := hid fun W hW j hj => by
    rcases hc1 with h0 | ⟨b, o, rfl, hq⟩
    · omega
    · obtain ⟨u, h1, h2⟩ := hq j hj
      exact ⟨b, o, u, rfl, (hW.cell (World.block_lt_of_cell? w _ h1)).trans h1, h2.below hW⟩
  have KV : Hid (∀ W u j, Below w.heap.size w W → j < rows.length → IS W u (rows.getD j []) → Calls Try.prog 79 #[.agg #[.slice a0 vs.length c0, .slice a1 rows.length c1, .slice a2 ws.length c2], u, .slice (some ad) vars.length cv] W fun e w' => ∃ v, e = .returned v ∧ w'.ownsRow W.heap.size 3 1 v (prjR vs vars (rows.getD j [])).length ((prjR vs vars (rows.getD j [])).map (Value.int .i64)) ∧ Below W.heap.size W w') := hid fun W u j hW hj hu =>
    l2Values_calls W _ _ _ u _ vs (rows.getD j []) vars rows.length ws.length ⟨_, _, rfl⟩ ⟨_, _, rfl⟩ (HI.out W hW).1.vs hu (HI.out W hW).2 (by omega) (hrow _ (by rw [List.getD_eq_getElem?_getD, List.getElem?_eq_getElem hj]; exact List.getElem_mem _)) hlv
  have HP : Hid (∀ j, j < rows.length → (rows.take (j + 1)).map (prjR vs vars) = (rows.take j).map (prjR vs vars) ++ [prjR vs vars (rows.getD j [])]) := hid fun j hj => by
    rw [List.take_add_one, List.getElem?_eq_getElem hj, List.getD_eq_getElem?_getD, List.getElem?_eq_getElem hj, List.map_append]
    rfl
  have HPl : Hid (∀ j, j ≤ rows.length → ((rows.take j).map (prjR vs vars)).length = j) := hid fun j hj => by rw [List.length_map, List.length_take]; omega
  have HPn : Hid ((rows.take rows.length).map (prjR vs vars) = rows.map (prjR vs vars)) := hid (by rw [List.take_length])
  have HM : Hid (∀ r ∈ rows.map (prjR vs vars), r.length ≤ 1099511627776) := hid fun r hr => by
    obtain ⟨q, -, rfl⟩ := List.mem_map.1 hr
    rw [prjR_len]; omega
  have hs1 : W1.heap.size = w.heap.size + 2 := by rw [hW1]; simp
  have HS0 : Hid (Below w.heap.size w (W1.alloc (.cells #[] 22)) ∧ RQ (W1.alloc (.cells #[] 22)) w.heap.size (.slice (some ⟨w.heap.size + 2, 0, none⟩) 0 0) [] [] ∧ TX (W1.alloc (.cells #[] 22)) w.heap.size (.slice a0 vs.length c0) (.slice a1 rows.length c1) (.slice a2 ws.length c2) ∧ TX (W1.alloc (.cells #[] 22)) (w.heap.size + 1) (.slice none 0 0) (.slice none 0 0) (.slice none 0 0)) := hid (by
    have hA : Below W1.heap.size W1 (W1.alloc (.cells #[] 22)) := (Below.refl _ _).alloc (Nat.le_refl _) _
    refine ⟨bt hB1 hA, ⟨?_, rfl, fun i hi => by simp at hi, fun i j _ hj => by simp at hj⟩, HT1.out.below hA, HR1.out.below hA⟩
    have := World.ownsRow_made W1 (e := 22) (size := 1) (base := w.heap.size) #[] 0 (by omega) (by decide) rfl
    rw [hs1] at this
    exact this)
  clear hc1 h hv hrow hB1 HT1 HR1 HB1
  obtain ⟨n, hn'⟩ : ∃ n, n = rows.length := ⟨_, rfl⟩
  rw [← hn'] at HC KV HP HPl HPn HS0 hn hW1 ⊢
  clear hn'
  generalize vs.length = l0 at *
  generalize ws.length = l2 at *
  go_enter Try.func70, Try.ntmps70
  go_upto_region 1 with fail
  rw [← hW1]
  clear hW1
  go_upto_region 2 with fail
  clear hs1
  generalize W1.alloc (.cells #[] 22) = W2 at *
  have d1 := HS0.out.2.2.1.c1
  go_wp2_with fail
  clear d1
  go_loopw [5, 13] (fun u t wr => ∃ (j : Nat) (vo : Value), j ≤ n ∧ t = .int .i64 j ∧ vo = u ∧ Hid (∃ uo, Below w.heap.size w wr ∧ RQ wr w.heap.size vo uo ((rows.take j).map (prjR vs vars)) ∧ TX wr w.heap.size (.slice a0 l0 c0) (.slice a1 n c1) (.slice a2 l2 c2) ∧ TX wr (w.heap.size + 1) (.slice none 0 0) (.slice none 0 0) (.slice none 0 0))) (fun _ t _ => n - (intOf t).toNat)
  case atStart => exact ⟨0, _, Nat.zero_le _, rfl, rfl, hid ⟨[], HS0.out.1, HS0.out.2.1, HS0.out.2.2.1, HS0.out.2.2.2⟩⟩
  case round =>
    clear HS0
    obtain ⟨j, vo, hjn, rfl, rfl, HT⟩ := hrel
    obtain ⟨uo, hB, hQ, hT, hRs⟩ := HT.out
    have HQ := hid hQ
    have HB := hid hB
    have HX := hid hT
    have HRs := hid hRs
    clear HT hQ hB hT hRs
    by_cases hlt : j < n
    · have i1 : (j : Int) < (n : Int) := by omega
      obtain ⟨b, o, u, ea, e1, hu⟩ := HC.out wr HB.out j hlt
      subst ea
      have KV1 := hid (KV.out wr u j HB.out hlt hu)
      have HPj := hid (HP.out j hlt)
      have hlj := HPl.out j hjn
      have d0 := HX.out.c0
      have d1 := HX.out.c1
      have d2 := HX.out.c2
      obtain ⟨au, cu, rfl, -⟩ := hu
      generalize (rows.getD j []).length = lr at *
      generalize prjR vs vars (rows.getD j []) = pr at *
      go_wp2_with fail
      refine KV1.out.mono ?_
      rintro e w2 ⟨v2, rfl, hv2, hb2⟩
      have HQ2 := hid (HQ.out.below hb2)
      have HB2 := hid (bt HB.out hb2)
      have HX2 := hid (HX.out.below hb2)
      have HRs2 := hid (HRs.out.below hb2)
      have HV2 := hid (own_base hv2 HB.out.size)
      have HAp : Hid (∀ i, i < ((rows.take j).map (prjR vs vars)).length → ∀ g, (uo.getD i undef).ownBlock = some g → v2.ownBlock ≠ some g) := hid fun i hi g h1 h2 => by
        have a1 := ((HQ.out.each i hi).lt g h1).2
        have a2 := (hv2.lt g h2).1
        omega
      obtain ⟨a3, k3, e3⟩ := own_shape hv2
      subst e3
      have hs2 := HB2.out.size
      clear hv2 hb2 KV1 e1 HQ HB HX HRs d0 d1 d2
      have ho2 : w2.ownsRow w.heap.size 22 1 vo j uo := by have := HQ2.out.own; rw [hlj] at this; exact this
      have HO2 := hid ho2
      clear ho2
      go_wp2_with (first | (at_builtin; refine wpList_append_lies _ rfl _ _ 23 rfl w.heap.size 22 iS (.slice none 0 0) 1 24 Try.underlying23 hj hy0 hy1 hy2 rfl (by decide) vo _ uo rfl (HO2.out.alloc _) ⟨_, 0, none⟩ 1 1 [.slice a3 pr.length k3] rfl rfl (new1_cell _ _ _) (fun u hu => by simp at hu; subst hu; rfl) (by decide) (by unfold maxLen; omega) (by omega) (by simp; omega) _ rfl ?_; intro g3 cp3 w3 hown3 hgrow3 hat3 hlt3) | fail)
      have HN : Hid (∃ uo', Below w.heap.size w w3 ∧ RQ w3 w.heap.size (.slice (some ⟨g3, 0, none⟩) (j + 1) cp3) uo' ((rows.take (j + 1)).map (prjR vs vars)) ∧ TX w3 w.heap.size (.slice a0 l0 c0) (.slice (some ⟨b, o, none⟩) n c1) (.slice a2 l2 c2) ∧ TX w3 (w.heap.size + 1) (.slice none 0 0) (.slice none 0 0) (.slice none 0 0)) := hid ⟨_, (HB2.out.alloc hs2 _).grown hgrow3 (by simp; omega) (fun q hq => (HO2.out.lt q hq).1), by rw [HPj.out]; exact HQ2.out.step HV2.out HAp.out (by rw [hlj]; exact hown3) hgrow3, HX2.out.grown HO2.out (by decide) hgrow3, HRs2.out.grown HO2.out (by decide) hgrow3⟩
      clear hown3 hgrow3 hat3 hlt3
      go_roundw
      case rel => exact ⟨j + 1, _, by omega, by go_num, rfl, HN⟩
      case measure => simp [intOf]; omega
    · obtain rfl : j = n := by omega
      have i1 : ¬ ((j : Int) < (j : Int)) := by omega
      have hlj := HPl.out j (Nat.le_refl _)
      rw [HPn.out] at HQ hlj
      clear HC KV HP HPl HPn HX
      obtain ⟨b, o, eb, hcv⟩ : ∃ b o, (0 < vars.length → ad = ⟨b, o, none⟩) ∧ ∀ q, q < vars.length → wr.cell? ⟨b, o + q, none⟩ = some (.int .i64 (vars.getD q 0)) := by
        obtain ⟨a', c', e, hh⟩ := (HI.out wr HB.out).2
        simp only [Value.slice.injEq] at e
        obtain ⟨rfl, -, -⟩ := e
        rcases hh with h0 | ⟨b, o, e, hh⟩
        · exact ⟨0, 0, fun h => by omega, fun q hq => by omega⟩
        · exact ⟨b, o, fun _ => Option.some.inj e, hh⟩
      have hown : (wr.alloc (.cells #[] 3)).ownsRow wr.heap.size 3 1 (.slice (some ⟨wr.heap.size, 0, none⟩) 0 0) 0 [] := World.ownsRow_made wr #[] 0 (Nat.le_refl _) (by decide) rfl
      have hbA : Below wr.heap.size wr (wr.alloc (.cells #[] 3)) := (Below.refl _ _).alloc (Nat.le_refl _) _
      have hnews : ∀ q u, (vars.map (Value.int .i64))[q]? = some u → (wr.alloc (.cells #[] 3)).cell? (ad.add q) = some u := fun q u hu => by
        have hq : q < vars.length := by
          rcases Nat.lt_or_ge q vars.length with h | h
          · exact h
          · rw [List.getElem?_eq_none (by simpa using h)] at hu; cases hu
        rw [eb (by omega), show ((⟨b, o, none⟩ : Addr).add q) = ⟨b, o + q, none⟩ by unfold Addr.add; split <;> simp_all, hbA.cell (p := ⟨b, o + q, none⟩) (World.block_lt_of_cell? wr _ (hcv q hq)), hcv q hq, ← hu, List.getElem?_map, List.getD_eq_getElem?_getD, List.getElem?_eq_getElem hq]
        rfl
      have HNW := hid hnews
      have HOW := hid hown
      have HBA := hid hbA
      clear hnews hcv eb hown hbA HI
      generalize wr = W5 at *
      go_wp2_with (first | (at_builtin; refine wpList_append_own _ rfl _ _ 22 rfl W5.heap.size 3 i0 (.int .i64 0) 1 8 Try.underlying22 hi hz0 hz1 hz2 rfl (by decide) (.slice (some ⟨W5.heap.size, 0, none⟩) 0 0) 0 [] rfl HOW.out ad vars.length cv (vars.map (Value.int .i64)) rfl (by rw [List.length_map]; omega) HNW.out (fun u hu => by obtain ⟨x, _, rfl⟩ := List.mem_map.1 hu; rfl) (by unfold maxLen; omega) (by omega) (by simp) ?_; intro v6 w6 hown6 hgrow6 _) | fail)
      have hb6 : Below W5.heap.size W5 w6 := HBA.out.grown hgrow6 (by simp) (fun k hk => (HOW.out.lt k hk).1)
      have HQ6 := hid (HQ.out.below hb6)
      have HB6 := hid (bt HB.out hb6)
      have HRs6 := hid (HRs.out.below hb6)
      have HV6 : Hid (w6.ownsRow w.heap.size 3 1 v6 vars.length (vars.map (Value.int .i64))) := hid (own_base (by simpa using hown6) HB.out.size)
      obtain ⟨a6, k6, e6⟩ := own_shape HV6.out
      subst e6
      have KS := hid (l2Sort_calls w6 _ w6 vo uo (rows.map (prjR vs vars)) (Nat.le_refl _) (Below.refl _ _) HQ6.out.rs (by omega) HM.out)
      have hlS := srt_len _ (rows.map (prjR vs vars)) (Nat.le_refl _)
      rw [hlj] at hlS
      generalize hR : srt (rows.map (prjR vs vars)) = R at *
      have HRe := hid hR
      clear hR
      have HTv : Hid (∀ g, vo.ownBlock = some g → ∃ cur, w6.heap[g]? = some (.cells cur 22 (0, 0))) := hid fun g hg => own_typ HQ6.out.own hg
      clear hb6 hown6 hgrow6 HOW HBA HNW HQ HB HRs HM
      refine KS.out.mono ?_
      rintro e w7 ⟨v7, us7, rfl, hRS7, hNw, hb7⟩
      have HI7 := hid (hRS7.issc hb7)
      have HB7 := hid (bt HB6.out hb7)
      have HRs7 := hid (HRs6.out.below hb7)
      have HV7 := hid (own_below HV6.out hb7)
      have HNl : Hid (∀ g, v7.ownBlock = some g → w.heap.size ≤ g) := hid fun g hg => by
        rcases hNw with h1 | h1
        · rw [h1] at hg
          exact (HQ6.out.own.lt g hg).1
        · exact Nat.le_trans HB6.out.size (h1 g hg)
      have HNe : Hid (v7.ownBlock ≠ some (w.heap.size + 1)) := hid fun e => by
        rcases hNw with h1 | h1
        · rw [h1] at e
          obtain ⟨cur, hc⟩ := HTv.out _ e
          rw [HRs6.out.blk] at hc
          simp at hc
        · have := h1 _ e
          have := HRs6.out.lt
          omega
      obtain ⟨⟨a7, k7, e7, -, -⟩, -, -⟩ := hRS7
      subst e7
      clear hb7 KS HQ6 HB6 HRs6 HV6 HTv hNw
      go_upto_region 8 with fail
      have HAl : Hid (Below w7.heap.size w7 (w7.alloc (.cells #[.slice a6 vars.length k6, .slice a7 R.length k7, .slice none 0 0] 53))) := hid ((Below.refl _ _).alloc (Nat.le_refl _) _)
      have HX8 := hid (TX.made w7 (.slice a6 vars.length k6) (.slice a7 R.length k7) (.slice none 0 0))
      have hq1 : w.heap.size + 1 < w7.heap.size := HRs7.out.lt
      have HS8 : Hid (Below w7.heap.size w7 (w7.alloc (.cells #[.slice a6 vars.length k6, .slice a7 R.length k7, .slice none 0 0] 53)) ∧ TX (w7.alloc (.cells #[.slice a6 vars.length k6, .slice a7 R.length k7, .slice none 0 0] 53)) w7.heap.size (.slice a6 vars.length k6) (.slice a7 R.length k7) (.slice none 0 0) ∧ (w7.alloc (.cells #[.slice a6 vars.length k6, .slice a7 R.length k7, .slice none 0 0] 53)).ownsRow w7.heap.size 3 1 (.slice none 0 0) 0 (List.replicate 0 (.int .i64 1))) := hid ⟨HAl.out, HX8.out, World.ownsRow_nil _ _ _ _⟩
      clear HAl HX8
      generalize w7.alloc (.cells #[.slice a6 vars.length k6, .slice a7 R.length k7, .slice none 0 0] 53) = W8 at *
      have d1 := HS8.out.2.1.c1
      obtain ⟨r, hr⟩ : ∃ r, r = R.length := ⟨_, rfl⟩
      have HRr := hid hr
      rw [← hr] at HS8 d1 hlS ⊢
      clear hr
      go_wp2_with fail
      clear d1
      go_loopw [34] (fun t wr => ∃ (q : Nat), q ≤ r ∧ t = .int .i64 q ∧ Hid (∃ vw, Below w7.heap.size w7 wr ∧ TX wr w7.heap.size (.slice a6 vars.length k6) (.slice a7 r k7) vw ∧ wr.ownsRow w7.heap.size 3 1 vw q (List.replicate q (.int .i64 1)))) (fun t _ => r - (intOf t).toNat)
      case atStart => exact ⟨0, Nat.zero_le _, rfl, hid ⟨_, HS8.out.1, HS8.out.2.1, HS8.out.2.2⟩⟩
      case round =>
        clear HS8
        obtain ⟨q, hqr, rfl, HT⟩ := hrel
        obtain ⟨vw, hB, hX, hO⟩ := HT.out
        have HB9 := hid hB
        have HX9 := hid hX
        have HO9 := hid hO
        clear HT hB hX hO
        by_cases hlt : q < r
        · have i2 : (q : Int) < (r : Int) := by omega
          have d2 := HX9.out.c2
          have hs9 := HB9.out.size
          generalize wr = W9 at *
          go_wp2_with (first | (at_builtin; refine wpList_append_lies _ rfl _ _ 22 rfl w7.heap.size 3 i0 (.int .i64 0) 1 8 Try.underlying22 hi hz0 hz1 hz2 rfl (by decide) vw _ _ rfl (HO9.out.alloc _) ⟨_, 0, none⟩ 1 1 [.int .i64 1] rfl rfl (new1_cell _ _ _) (fun u hu => by simp at hu; subst hu; rfl) (by decide) (by unfold maxLen; omega) (by omega) (by simp; omega) _ rfl ?_; intro g3 cp3 w3 hown3 hgrow3 hat3 hlt3; have c2' := (HX9.out.grown HO9.out (by decide) hgrow3).c2; have f2' := (HX9.out.grown HO9.out (by decide) hgrow3).free 2) | fail)
          have HX3 := hid (HX9.out.grown HO9.out (by decide) hgrow3)
          have HN : Hid (∃ vw', Below w7.heap.size w7 (w3.setCell ⟨w7.heap.size, 2, none⟩ (.slice (some ⟨g3, 0, none⟩) (q + 1) cp3)) ∧ TX (w3.setCell ⟨w7.heap.size, 2, none⟩ (.slice (some ⟨g3, 0, none⟩) (q + 1) cp3)) w7.heap.size (.slice a6 vars.length k6) (.slice a7 r k7) vw' ∧ (w3.setCell ⟨w7.heap.size, 2, none⟩ (.slice (some ⟨g3, 0, none⟩) (q + 1) cp3)).ownsRow w7.heap.size 3 1 vw' (q + 1) (List.replicate (q + 1) (.int .i64 1))) := hid ⟨_, ((HB9.out.alloc hs9 _).grown hgrow3 (by simp; omega) (fun k hk => (HO9.out.lt k hk).1)).setCell (Nat.le_refl _) _, HX3.out.set2 _, own_keep3 (by rw [List.replicate_succ']; exact hown3) HX3.out.typ (by decide)⟩
          clear hown3 hgrow3 hat3 hlt3 c2' f2' d2
          go_roundw
          case rel => exact ⟨q + 1, by omega, by go_num, HN⟩
          case measure => simp [intOf]; omega
        · obtain rfl : q = r := by omega
          have i2 : ¬ ((q : Int) < (q : Int)) := by omega
          obtain ⟨aw, kw, ew⟩ := own_shape HO9.out
          subst ew
          have d0 := HX9.out.c0
          have d1 := HX9.out.c1
          have d2 := HX9.out.c2
          have HRs9 := hid (HRs7.out.below HB9.out)
          have f0 := HRs9.out.free 0
          have f1 := HRs9.out.free 1
          have f2 := HRs9.out.free 2
          have r0 := HRs9.out.c0
          have r1 := HRs9.out.c1
          have r2 := HRs9.out.c2
          have HFin : Hid (∀ x0 x1 x2, IT (((wr.setCell ⟨w.heap.size + 1, 0, none⟩ x0).setCell ⟨w.heap.size + 1, 1, none⟩ x1).setCell ⟨w.heap.size + 1, 2, none⟩ x2) (.slice a6 vars.length k6) (.slice a7 q k7) (.slice aw q kw) vars R (ones R.length)) := hid fun x0 x1 x2 => by
            rw [← HRr.out]
            have hX := HRs9.out
            refine ⟨?_, ?_, ?_⟩
            · exact own_is (own_keep3 (own_keep3 (own_keep3 (own_below HV7.out HB9.out) hX.typ (by decide)) (typ_set hX.typ) (by decide)) (typ_set (typ_set hX.typ)) (by decide))
            · have h7 : ISSc wr (.slice a7 R.length k7) R := HI7.out.below HB9.out
              rw [← HRr.out] at h7
              have hNe := HNe.out
              rw [← HRr.out] at hNe
              exact (issc_set3 h7 hX hNe _ _ _).iss
            · have := own_is (l := ones q) (own_keep3 (own_keep3 (own_keep3 (by rw [ones_len, ones_vals]; exact HO9.out) hX.typ (by decide)) (typ_set hX.typ) (by decide)) (typ_set (typ_set hX.typ)) (by decide) : (((wr.setCell ⟨w.heap.size + 1, 0, none⟩ x0).setCell ⟨w.heap.size + 1, 1, none⟩ x1).setCell ⟨w.heap.size + 1, 2, none⟩ x2).ownsRow w7.heap.size 3 1 (.slice aw q kw) (ones q).length ((ones q).map (Value.int .i64)))
              exact this
          have HFi2 : Hid (∀ x0 x1 x2, ISSc (((wr.setCell ⟨w.heap.size + 1, 0, none⟩ x0).setCell ⟨w.heap.size + 1, 1, none⟩ x1).setCell ⟨w.heap.size + 1, 2, none⟩ x2) (.slice a7 q k7) R) := hid fun x0 x1 x2 => by
            have h7 : ISSc wr (.slice a7 R.length k7) R := HI7.out.below HB9.out
            rw [← HRr.out] at h7
            have hNe := HNe.out
            rw [← HRr.out] at hNe
            exact issc_set3 h7 HRs9.out hNe _ _ _
          go_wp2_with fail
          refine bodyPost_ret (v := .agg #[.slice a6 vars.length k6, .slice a7 q k7, .slice aw q kw]) (by simp [results, Try.results70, go_sem, r0, r1, r2]) rfl ⟨_, _, _, rfl, by rw [HRe.out]; exact HFin.out _ _ _, by have h := HNl.out; rw [← HRr.out] at h; exact h, ?_, by rw [HRe.out]; exact HFi2.out _ _ _⟩
          exact (((bt HB7.out HB9.out).setCell (Nat.le_succ _) _).setCell (Nat.le_succ _) _).setCell (Nat.le_succ _) _

end Go.Proofs.Ytpdloenmplafiaa
