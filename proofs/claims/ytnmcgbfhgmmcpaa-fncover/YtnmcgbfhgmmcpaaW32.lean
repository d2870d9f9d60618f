import Derived.Test.YtnmcgbfhgmmcpaaW31
/-
  spec.CoverOf.
-/
namespace Go.Proofs.Ytnmcgbfhgmmcpaa
open Go.RowKit

def zCov : Nat → Value := f5 (.bool false) (.int .i64 0) (.int .i64 0) (.slice none 0 0) (.slice none 0 0)

theorem own_slice {w : World} {B n s : Nat} {e : TypeId} {v : Value} {xs : List Value} (h : w.ownsRow B e s v n xs) : ∃ a cap, v = .slice a n cap := by
  rcases h.2 with ⟨rfl, hn⟩ | ⟨g, cap, cur, rfl, _⟩
  · exact ⟨none, 0, by rw [hn]⟩
  · exact ⟨_, cap, rfl⟩

theorem apart2 {W : World} {B g cp n : Nat} {u v : Value} {qs : List (Value × Dem)} (h : DL W B u qs) (hne : ∀ g, u.ownBlock = some g → v.ownBlock ≠ some g) (hat : v.ownBlock = some g ∨ W.heap.size ≤ g) : ∀ k, u.ownBlock = some k → (Value.slice (some ⟨g, 0, none⟩) n cp).ownBlock ≠ some k := by
  intro k hk e
  have e2 := ownB e
  subst e2
  rcases hat with h1 | h1
  · exact hne g hk h1
  · have := (h.own.lt g hk).2
    omega

theorem newU (W : World) (k : Int) (x y : Value) : ∀ j u, [.slice (some ⟨W.heap.size, 0, none⟩) 1 1, x, y][j]? = some u → ((W.alloc (.cells #[.int .i64 k] 3)).alloc (.cells #[.slice (some ⟨W.heap.size, 0, none⟩) 1 1, x, y] 71)).cell? ((⟨W.heap.size + 1, 0, none⟩ : Addr).add j) = some u := by
  have := new3_cell (W.alloc (.cells #[.int .i64 k] 3)) (.slice (some ⟨W.heap.size, 0, none⟩) 1 1) x y 71
  rw [show (W.alloc (.cells #[.int .i64 k] 3)).heap.size = W.heap.size + 1 by simp] at this
  exact this

/-- the answer's block, still empty -/
structure ZC (W : World) (g : Nat) : Prop where
  blk : W.heap[g]? = some (.cells #[.bool false, .int .i64 0, .int .i64 0, .slice none 0 0, .slice none 0 0] 31 (0, 0))
  arr : ArrAt W g 5 zCov

theorem ZC.typ {W : World} {g : Nat} (h : ZC W g) : ∃ cur, W.heap[g]? = some (.cells cur 31 (0, 0)) := ⟨_, h.blk⟩
theorem ZC.move {W W' : World} {g : Nat} (h : ZC W g) (e : W'.heap[g]? = W.heap[g]?) : ZC W' g := ⟨e.trans h.blk, h.arr.move e⟩
theorem ZC.lt {W : World} {g : Nat} (h : ZC W g) : g < W.heap.size := lt_of_typ h.typ
theorem ZC.below {W W' : World} {g : Nat} (h : ZC W g) (hb : Below W.heap.size W W') : ZC W' g := h.move (hb.block g h.lt)
theorem ZC.alloc {W : World} {g : Nat} (h : ZC W g) (o : Obj) : ZC (W.alloc o) g := h.move (Below.heap_alloc _ _ _ h.lt)
theorem ZC.grow {W w3 : World} {g B n : Nat} {v : Value} {xs : List Value} {o : Obj} (h : ZC W g) (hown : W.ownsRow B 71 3 v n xs) (hg : (W.alloc o).grownBy w3 v.ownBlock) : ZC w3 g := h.move (grown_keep hg h.lt (own_ne hown h.typ (by decide)))

theorem ir_far {W : World} {g n : Nat} {v : Value} {x : Nat → Rat} (h : IR W v (prs n x)) (hz : ZC W g) (a b c d e : Value) : IR (((((W.setCell ⟨g, 0, none⟩ a).setCell ⟨g, 1, none⟩ b).setCell ⟨g, 2, none⟩ c).setCell ⟨g, 3, none⟩ d).setCell ⟨g, 4, none⟩ e) v (prs n x) := by
  obtain ⟨ad, cap, ev, hc⟩ := h
  refine ⟨ad, cap, ev, ?_⟩
  rcases hc with h0 | ⟨bl, o, ea, hc⟩
  · exact Or.inl h0
  · by_cases hn : n = 0
    · exact Or.inl (by rw [prs_length]; exact hn)
    · have hne : bl ≠ g := by
        rintro rfl
        obtain ⟨h1, h2⟩ := hc 0 (by rw [prs_length]; omega)
        rw [prs_get (by omega)] at h1 h2
        rw [Nat.zero_mul, Nat.add_zero, cell_of_row _ _ _ _ _ _ hz.blk] at h1 h2
        match o, h1, h2 with
        | 0, h1, _ => simp at h1
        | 1, _, h2 =>
          have := (x 0).den_nz
          simp at h2
          omega
        | 2, _, h2 => simp at h2
        | 3, h1, _ => simp at h1
        | 4, h1, _ => simp at h1
        | o + 5, h1, _ => simp at h1
      have hk : ∀ i, (((((W.setCell ⟨g, 0, none⟩ a).setCell ⟨g, 1, none⟩ b).setCell ⟨g, 2, none⟩ c).setCell ⟨g, 3, none⟩ d).setCell ⟨g, 4, none⟩ e).cell? ⟨bl, i, none⟩ = W.cell? ⟨bl, i, none⟩ := fun i =>
        World.cell?_of_block (w := W) (a := ⟨bl, i, none⟩) (by rw [Below.heap_setCell _ _ _ _ hne, Below.heap_setCell _ _ _ _ hne, Below.heap_setCell _ _ _ _ hne, Below.heap_setCell _ _ _ _ hne, Below.heap_setCell _ _ _ _ hne])
      exact Or.inr ⟨bl, o, ea, fun j hj => ⟨(hk _).trans (hc j hj).1, (hk _).trans (hc j hj).2⟩⟩

/-- what spec.CoverOf answers -/
def CovIs (bag : List Int) (es : List (List Int)) (x y : Nat → Rat) (e : Ending) (w' : World) : Prop :=
  ((setB bag && edgesB es && coverB bag es) = false ∧ e = .returned (.agg #[.bool false, .int .i64 0, .int .i64 0, .slice none 0 0, .slice none 0 0])) ∨
  ((setB bag && edgesB es && coverB bag es) = true ∧ ∃ vW vD, e = .returned (.agg #[.bool true, .int .i64 (Cov.sm es.length x).num, .int .i64 (Cov.sm es.length x).den, vW, vD]) ∧ IR w' vW (prs es.length x) ∧ IR w' vD (prs bag.length y))

set_option maxHeartbeats 60000000 in
set_option maxRecDepth 100000 in
theorem sCoverOf_calls (w : World) (vb ve : Value) (bag : List Int) (es : List (List Int)) (x y : Nat → Rat) (hb : IS w vb bag) (h : ISS w ve es) (hlb : bag.length ≤ 1099511627776) (hl : Short es)
    (hbest : (setB bag && edgesB es && coverB bag es) = true → CoverBest bag.length es.length (inc (coverL bag es)) x ∧ PackBest es.length bag.length (inc (packL bag es)) y ∧ Parts es.length x) :
    Calls Try.prog 8 #[vb, ve] w fun e w' => CovIs bag es x y e w' ∧ Below w.heap.size w w' := by
  obtain ⟨i0, hi, hz0, hz1, hz2⟩ := info_parts Try.infoInt
  obtain ⟨iD, hj, hy0, hy1, hy2⟩ := info_parts Try.infoDem
  have HIS := hid hb
  have HES := hid h
  have HBEST := hid hbest
  obtain ⟨aB, cB, rfl, hcB⟩ := hb
  obtain ⟨aE, cE, rfl, -⟩ := h
  obtain ⟨nb, hnb⟩ : ∃ nb, nb = bag.length := ⟨_, rfl⟩
  obtain ⟨m, hm⟩ : ∃ m, m = es.length := ⟨_, rfl⟩
  have HNB := hid hnb
  have HM := hid hm
  have hm1 : m ≤ 1099511627776 := by rw [hm]; exact hl.1
  have HLE := hid hl.2
  have HCB : Hid (∀ j, j < nb → ∃ b o, aB = some ⟨b, o, none⟩ ∧ w.cell? ⟨b, o + j, none⟩ = some (.int .i64 (bag.getD j 0))) := hid (fun j hj => by
    rcases hcB with h0 | ⟨b, o, e, hc⟩
    · omega
    · exact ⟨b, o, e, hc j (by omega)⟩)
  have HCE : Hid (∀ j, j < m → ∃ b o u, aE = some ⟨b, o, none⟩ ∧ w.cell? ⟨b, o + j, none⟩ = some u ∧ IS w u (es.getD j [])) := hid (fun j hj => HES.out.get rfl (by omega))
  have KB : Hid (∀ W, Below w.heap.size w W → Calls Try.prog 36 #[.slice aB nb cB, .int .i64 6] W fun e w' => e = .returned (.bool (setB bag)) ∧ w' = W) := hid (fun W hW => by rw [hnb]; exact l1SetOK_calls W _ bag (HIS.out.below hW) hlb)
  have hA : Below w.heap.size w (w.alloc (.cells #[.bool false, .int .i64 0, .int .i64 0, .slice none 0 0, .slice none 0 0] 31)) := (Below.refl _ _).alloc (Nat.le_refl _) _
  have hs : w.heap.size < (w.alloc (.cells #[.bool false, .int .i64 0, .int .i64 0, .slice none 0 0, .slice none 0 0] 31)).heap.size := by simp
  have hc : ZC (w.alloc (.cells #[.bool false, .int .i64 0, .int .i64 0, .slice none 0 0, .slice none 0 0] 31)) w.heap.size := ⟨heap_alloc_new _ _, arrAt_alloc w 5 zCov 31⟩
  rw [← hnb] at hlb ⊢
  rw [← hm]
  clear hcB hbest hl hnb hm
  go_enter Try.func8, Try.ntmps8
  go_upto_region 1 with fail
  generalize w.alloc (.cells #[.bool false, .int .i64 0, .int .i64 0, .slice none 0 0, .slice none 0 0] 31) = W0 at *
  have HA := hid hA
  have HC := hid hc
  clear hA hc
  go_cut [5] (fun v wx => v = .bool (setB bag && decide (m ≤ 7)) ∧ wx = W0)
  case first =>
    cases h1 : setB bag
    · rw [h1] at KB
      go_wp2_with (first | (go_at_call 36; refine (KB.out _ HA.out).mono ?_; rintro e w' ⟨rfl, hw'⟩; subst w'))
      go_meet
      exact ⟨by rw [h1]; rfl, rfl⟩
    · rw [h1] at KB
      by_cases h7 : m ≤ 7
      · have i7 : (m : Int) ≤ 7 := by omega
        go_wp2_with (first | (go_at_call 36; refine (KB.out _ HA.out).mono ?_; rintro e w' ⟨rfl, hw'⟩; subst w'))
        go_meet
        exact ⟨by rw [h1, decide_eq_true h7]; rfl, rfl⟩
      · have i7 : ¬ ((m : Int) ≤ 7) := by omega
        go_wp2_with (first | (go_at_call 36; refine (KB.out _ HA.out).mono ?_; rintro e w' ⟨rfl, hw'⟩; subst w'))
        go_meet
        exact ⟨by rw [h1, Bool.true_and]; congr 1; rw [decide_eq_decide]; omega, rfl⟩
  case rest =>
  obtain ⟨rfl, hwc⟩ := hcut
  obtain rfl : W0 = wc := hwc.symm
  clear hwc KB
  obtain ⟨r0, hr0⟩ : ∃ r0, r0 = (setB bag && decide (m ≤ 7)) := ⟨_, rfl⟩
  rw [← hr0]
  have HR0 := hid hr0
  clear hr0
  go_wp2
  go_loopw [5, 32] (fun v t wr => ∃ (k : Nat) (rb : Bool), k ≤ m ∧ t = .int .i64 k ∧ v = .bool rb ∧ Hid (wr = W0 ∧ rb = (r0 && (es.take k).all setB))) (fun _ t _ => m - (intOf t).toNat)
  case atStart => exact ⟨0, r0, Nat.zero_le _, rfl, rfl, hid ⟨rfl, by simp⟩⟩
  case round =>
    obtain ⟨k, rb, hk, rfl, rfl, hH⟩ := hrel
    obtain rfl : W0 = wr := hH.out.1.symm
    have HRB := hid hH.out.2
    clear hH
    by_cases hkm : k < m
    · have i1 : (k : Int) < (m : Int) := by omega
      obtain ⟨b, o, u, rfl, e1, hu⟩ := HCE.out k hkm
      have c1 := (HA.out.cell (p := ⟨b, o + k, none⟩) (World.block_lt_of_cell? w _ e1)).trans e1
      have hkl : k < es.length := by rw [← HM.out]; exact hkm
      have HT := hid (take_all_snoc es setB hkl)
      have KS : Hid (Calls Try.prog 36 #[u, .int .i64 6] W0 fun e w' => e = .returned (.bool (setB (es.getD k []))) ∧ w' = W0) := hid (l1SetOK_calls W0 u _ (hu.below HA.out) (HLE.out k))
      obtain ⟨sb, hsb⟩ : ∃ sb, sb = setB (es.getD k []) := ⟨_, rfl⟩
      rw [← hsb] at KS HT
      clear hsb hkl e1 hu
      cases rb
      · go_wp2
        go_roundw
        case rel => exact ⟨k + 1, false, by omega, by go_num, rfl, hid ⟨by trivial, by rw [HT.out, ← Bool.and_assoc, ← HRB.out]; rfl⟩⟩
        case measure => simp [intOf]; omega
      · go_wp2_with (first | (go_at_call 36; refine KS.out.mono ?_; rintro e w' ⟨rfl, hw'⟩; subst w'))
        go_roundw
        case rel => exact ⟨k + 1, sb, by omega, by go_num, rfl, hid ⟨by trivial, by rw [HT.out, ← Bool.and_assoc, ← HRB.out]; rfl⟩⟩
        case measure => simp [intOf]; omega
    · obtain rfl : m = k := by omega
      have i1 : ¬ ((m : Int) < (m : Int)) := by omega
      have HRR : Hid (rb = (setB bag && edgesB es)) := hid (by
        rw [HRB.out, HR0.out, HM.out, List.take_length]
        unfold edgesB
        rw [Bool.and_assoc])
      clear HRB
      cases rb
      · obtain ⟨c0, c1, c2, c3, c4⟩ := ArrAt.five HC.out.arr
        obtain ⟨d0, d1, d2, d3, d4⟩ := HC.out.arr.frees
        have HNO : Hid ((setB bag && edgesB es && coverB bag es) = false) := hid (by rw [← HRR.out]; rfl)
        have HZ := hid (ArrAt.five_set HC.out.arr (.bool false) (.int .i64 0) (.int .i64 0) (.slice none 0 0) (.slice none 0 0))
        go_wp2
        obtain ⟨r0, r1, r2, r3, r4⟩ := HZ.out.five
        refine bodyPost_ret (v := .agg #[.bool false, .int .i64 0, .int .i64 0, .slice none 0 0, .slice none 0 0]) (by simp [results, Try.results8, go_sem, r0, r1, r2, r3, r4]) rfl ⟨Or.inl ⟨HNO.out, rfl⟩, ?_⟩
        exact ((((HA.out.setCell (Nat.le_refl _) _).setCell (Nat.le_refl _) _).setCell (Nat.le_refl _) _).setCell (Nat.le_refl _) _).setCell (Nat.le_refl _) _
      · have h12 : setB bag = true ∧ edgesB es = true := by
          have := HRR.out
          simpa using this.symm
        have hnb6 : nb ≤ 6 := by rw [HNB.out]; exact setB_len h12.1
        have hm7 : m ≤ 7 := by rw [HM.out]; exact edgesB_len h12.2
        have H12 := hid h12
        clear h12 HRR HR0
        go_wp2
        go_loopw [8, 48] (fun v t wr => ∃ (k : Nat) (vc : Value) (ps : List (Value × Dem)), k ≤ nb ∧ t = .int .i64 k ∧ vc = v ∧ Hid (Below w.heap.size w wr ∧ ZC wr w.heap.size ∧ DL wr w.heap.size vc ps ∧ ps.map Prod.snd = rowsD ((coverL bag es).take k) ∧ ps.length = k ∧ ∀ i, i < k → (coverL bag es).getD i [] ≠ [])) (fun _ t _ => nb - (intOf t).toNat)
        case atStart => exact ⟨0, _, [], Nat.zero_le _, rfl, rfl, hid ⟨HA.out.alloc HA.out.size _, HC.out.alloc _, (DL.nil W0).base HA.out.size, rfl, rfl, fun i hi => by omega⟩⟩
        case round =>
          obtain ⟨k, vc, ps, hk, rfl, rfl, hH⟩ := hrel
          generalize wr = W2 at *
          have HB2 := hid hH.out.1
          have HC2 := hid hH.out.2.1
          have HD2 := hid hH.out.2.2.1
          have HP2 := hid hH.out.2.2.2.1
          have HPL := hid hH.out.2.2.2.2.1
          have HN2 := hid hH.out.2.2.2.2.2
          clear hH
          by_cases hkb : k < nb
          · have i2 : (k : Int) < (nb : Int) := by omega
            obtain ⟨b, o, rfl, e1⟩ := HCB.out k hkb
            have c1 := (HB2.out.cell (p := ⟨b, o + k, none⟩) (World.block_lt_of_cell? w _ e1)).trans e1
            have hkl : k < bag.length := by rw [← HNB.out]; exact hkb
            have HRS := hid (rowsD_succ (es := es) hkl)
            have HCG := hid (coverL_get bag es hkl)
            have HNC : Hid (plN (fun i => decide (bag.getD k 0 ∈ es.getD i [])) es.length = [] → coverB bag es = false) := hid (no_cover hkl)
            rw [← HM.out] at HRS HCG HNC
            obtain ⟨p, hp⟩ : ∃ p : Nat → Bool, p = fun i => decide (bag.getD k 0 ∈ es.getD i []) := ⟨_, rfl⟩
            rw [← hp] at HRS HCG HNC
            have HPP := hid hp
            obtain ⟨z, hz⟩ : ∃ z, z = bag.getD k 0 := ⟨_, rfl⟩
            rw [← hz] at c1 HPP
            clear hkl hp e1 hz
            go_upto_region 14 with fail
            have hAT := AT.new W2 (.slice none 0 0) false
            have hB3 : Below W2.heap.size W2 (W2.alloc (.cells #[.slice none 0 0, .bool false, .int .i64 1] 71)) := (Below.refl _ _).alloc (Nat.le_refl _) _
            have HX : Hid (Below W2.heap.size W2 (W2.alloc (.cells #[.slice none 0 0, .bool false, .int .i64 1] 71)) ∧ ∃ vat, AT (W2.alloc (.cells #[.slice none 0 0, .bool false, .int .i64 1] 71)) W2.heap.size vat false ∧ (W2.alloc (.cells #[.slice none 0 0, .bool false, .int .i64 1] 71)).ownsRow W2.heap.size 3 1 vat (plc p 0).length ((plc p 0).map (Value.int .i64))) := hid ⟨hB3, _, hAT, World.ownsRow_nil _ _ _ _⟩
            clear hAT hB3 c1
            generalize W2.alloc (.cells #[.slice none 0 0, .bool false, .int .i64 1] 71) = W3 at *
            go_wp2
            go_loopw [55] (fun t wr => ∃ j : Nat, j ≤ m ∧ t = .int .i64 j ∧ Hid (Below W2.heap.size W2 wr ∧ ∃ vat, AT wr W2.heap.size vat false ∧ wr.ownsRow W2.heap.size 3 1 vat (plc p j).length ((plc p j).map (Value.int .i64)))) (fun t _ => m - (intOf t).toNat)
            case atStart => exact ⟨0, Nat.zero_le _, rfl, HX⟩
            case round =>
              obtain ⟨j, hjm, rfl, hH⟩ := hrel
              clear HX
              obtain ⟨hB4, vat, hAT, hown⟩ := hH.out
              have HB4 := hid hB4
              have HAT := hid hAT
              have HOWN := hid hown
              have hple := plc_le p j
              have hns := hB4.size
              have t0 := hAT.arr.cell 0 (by omega)
              have t1 := hAT.arr.cell 1 (by omega)
              have t2 := hAT.arr.cell 2 (by omega)
              have f0 := hAT.arr.free 0 (by omega)
              simp only [f3] at t0 t1 t2
              clear hH hB4 hAT hown
              by_cases hjn : j < m
              · have i3 : (j : Int) < (m : Int) := by omega
                obtain ⟨b', o', u, rfl, e1, hu⟩ := HCE.out j hjn
                have hBw := bt HB2.out HB4.out
                have c2 := (hBw.cell (p := ⟨b', o' + j, none⟩) (World.block_lt_of_cell? w _ e1)).trans e1
                have KH : Hid (Calls Try.prog 37 #[u, .int .i64 z] wr fun e w' => e = .returned (.bool (decide (z ∈ es.getD j []))) ∧ w' = wr) := hid (l1Has_calls wr u _ z (hu.below hBw) (HLE.out j))
                have hpj : p j = decide (z ∈ es.getD j []) := by rw [HPP.out]
                rw [← hpj] at KH
                clear e1 hu hBw hpj
                by_cases hpt : p j = true
                · have e1 := hid (plc_hit p j hpt)
                  rw [hpt] at KH
                  have hown := HOWN.out
                  go_wp2_with (first
                    | (go_at_call 37; refine KH.out.mono ?_; rintro e w' ⟨rfl, hw'⟩; subst w')
                    | (at_builtin; refine wpList_append_own _ rfl _ _ 23 rfl W2.heap.size 3 i0 (.int .i64 0) 1 8 Try.underlying23 hi hz0 hz1 hz2 rfl (by decide) _ _ _ rfl (hown.alloc _) ⟨wr.heap.size, 0, none⟩ 1 1 [.int .i64 j] rfl rfl ?ka1 ?ka2 ?ka3 ?ka4 ?ka5 ?_))
                  case ka1 => exact new1_cell _ _ _
                  case ka2 => intro u hu; simp at hu; subst hu; rfl
                  case ka3 => unfold maxLen; omega
                  case ka4 => omega
                  case ka5 => exact Nat.le_trans hns (by simp)
                  intro v' w1 hown' hgrow _
                  obtain ⟨a6, c6, e6⟩ := own_slice hown'
                  obtain ⟨⟨q0, q1⟩, hAT', hown2⟩ := HAT.out.grow hown hown' hgrow
                  have hbl := own_grow2 hns hown HB4.out hgrow
                  have HF : Hid (Below W2.heap.size W2 (w1.setCell ⟨W2.heap.size, 0, none⟩ v') ∧ ∃ vat, AT (w1.setCell ⟨W2.heap.size, 0, none⟩ v') W2.heap.size vat false ∧ (w1.setCell ⟨W2.heap.size, 0, none⟩ v').ownsRow W2.heap.size 3 1 vat (plc p (j + 1)).length ((plc p (j + 1)).map (Value.int .i64))) := hid ⟨hbl.setCell (Nat.le_refl _) _, v', hAT', by rw [e1.out]; simpa using hown2⟩
                  clear hown' hgrow hown hAT' hown2 hbl t0 t1 t2 f0
                  subst e6
                  go_wp2
                  go_roundw
                  case rel => exact ⟨j + 1, by omega, by go_num, HF⟩
                  case measure => simp [intOf]; omega
                · have hpf : p j = false := by simpa using hpt
                  have e1 := hid (plc_miss p j hpf)
                  rw [hpf] at KH
                  go_wp2_with (first | (go_at_call 37; refine KH.out.mono ?_; rintro e w' ⟨rfl, hw'⟩; subst w'))
                  go_roundw
                  case rel => exact ⟨j + 1, by omega, by go_num, hid ⟨HB4.out, vat, HAT.out, by rw [e1.out]; exact HOWN.out⟩⟩
                  case measure => simp [intOf]; omega
              · obtain rfl : m = j := by omega
                have i3 : ¬ ((m : Int) < (m : Int)) := by omega
                obtain ⟨a5, c5, e5, -⟩ := own_is HOWN.out
                subst e5
                have HLP := hid (plc_len p m)
                have HWr := hid (bt HB2.out HB4.out)
                generalize hlp : (plc p m).length = lp at *
                by_cases hl0 : lp = 0
                · subst hl0
                  have HNO : Hid ((setB bag && edgesB es && coverB bag es) = false) := hid (by rw [HNC.out (List.length_eq_zero_iff.1 (HLP.out.symm.trans rfl)), Bool.and_false])
                  have hc5 := (HC2.out.below HB4.out).arr
                  obtain ⟨c0, c1, c2, c3, c4⟩ := ArrAt.five hc5
                  obtain ⟨d0, d1, d2, d3, d4⟩ := hc5.frees
                  have HZ := hid (ArrAt.five_set hc5 (.bool false) (.int .i64 0) (.int .i64 0) (.slice none 0 0) (.slice none 0 0))
                  clear hc5
                  go_wp2
                  obtain ⟨r0, r1, r2, r3, r4⟩ := HZ.out.five
                  refine bodyPost_ret (v := .agg #[.bool false, .int .i64 0, .int .i64 0, .slice none 0 0, .slice none 0 0]) (by simp [results, Try.results8, go_sem, r0, r1, r2, r3, r4]) rfl ⟨Or.inl ⟨HNO.out, rfl⟩, ?_⟩
                  exact ((((HWr.out.setCell (Nat.le_refl _) _).setCell (Nat.le_refl _) _).setCell (Nat.le_refl _) _).setCell (Nat.le_refl _) _).setCell (Nat.le_refl _) _
                · have i4 : ¬ ((lp : Int) = 0) := by omega
                  have i5 : ((lp : Int) == 0) = false := by simp; omega
                  have hDL := HD2.out.below HB4.out
                  have hlen := HPL.out
                  have hown := hDL.own
                  rw [hlen] at hown
                  have hrs := HWr.out.size
                  go_wp2_with (first
                    | (at_builtin; refine wpList_append_own _ rfl _ _ 69 rfl w.heap.size 71 iD (.agg #[.slice none 0 0, .bool false, .int .i64 0]) 3 40 Try.underlying69 hj hy0 hy1 hy2 rfl (by decide) _ _ _ rfl (hown.alloc _) ⟨wr.heap.size, 0, none⟩ 1 1 [.slice a5 lp c5, .bool false, .int .i64 1] rfl rfl ?kb1 ?kb2 ?kb3 ?kb4 ?kb5 ?_))
                  case kb2 => first | rfl | exact ⟨rfl, rfl, rfl⟩ | (intro u hu; simp at hu; rcases hu with rfl | rfl | rfl <;> rfl)
                  case kb3 => unfold maxLen; omega
                  case kb4 => omega
                  case kb5 => exact Nat.le_trans hrs (by simp)
                  intro v' w3 hown' hgrow _
                  have hst := hDL.step (p := (.slice a5 lp c5, ⟨plN p m, false, 1⟩)) (by
                    have := own_base HOWN.out HB2.out.size
                    show wr.ownsRow w.heap.size 3 1 (.slice a5 lp c5) (plN p m).length (ivals (plN p m))
                    rw [← HLP.out, ← plc_ivals]
                    exact this) (by rw [hlen]; exact hown') hgrow
                  have hbl := own_grow2 hrs hown HWr.out hgrow
                  have hc6 : ZC w3 w.heap.size := (HC2.out.below HB4.out).grow hown hgrow
                  have HF : Hid (Below w.heap.size w w3 ∧ ZC w3 w.heap.size ∧ DL w3 w.heap.size v' (ps ++ [(.slice a5 lp c5, ⟨plN p m, false, 1⟩)]) ∧ (ps ++ [((.slice a5 lp c5 : Value), (⟨plN p m, false, 1⟩ : Dem))]).map Prod.snd = rowsD ((coverL bag es).take (k + 1)) ∧ (ps ++ [((.slice a5 lp c5 : Value), (⟨plN p m, false, 1⟩ : Dem))]).length = k + 1 ∧ ∀ i, i < k + 1 → (coverL bag es).getD i [] ≠ []) := hid ⟨hbl, hc6, hst, by rw [List.map_append, HP2.out, HRS.out]; rfl, by rw [List.length_append, hlen]; rfl, fun i hi => by
                    by_cases e : i = k
                    · rw [e, HCG.out]
                      intro e2
                      have := HLP.out
                      rw [e2] at this
                      exact hl0 this
                    · exact HN2.out i (by omega)⟩
                  clear hst hbl hc6 hown' hgrow hown hDL t0 t1 t2 f0
                  go_wp2
                  go_roundw
                  case rel => exact ⟨k + 1, v', _, by omega, by go_num, rfl, HF⟩
                  case measure => simp [intOf]; omega
          · obtain rfl : nb = k := by omega
            have i2 : ¬ ((nb : Int) < (nb : Int)) := by omega
            have HCV : Hid (coverB bag es = true) := hid (cover_rows (by rw [← HNB.out]; exact HN2.out))
            have HP3 : Hid (ps.map Prod.snd = rowsD (coverL bag es)) := hid (by rw [HP2.out, HNB.out, ← coverL_len bag es, List.take_length])
            have HX : Hid (Below w.heap.size w (W2.alloc eD) ∧ ZC (W2.alloc eD) w.heap.size ∧ DL (W2.alloc eD) w.heap.size vc ps ∧ DL (W2.alloc eD) w.heap.size (.slice (some ⟨W2.heap.size, 0, none⟩) 0 0) [] ∧ ps.map Prod.snd = rowsD (coverL bag es) ++ unitsD 0 ∧ ([] : List (Value × Dem)).map Prod.snd = capsD ((packL bag es).take 0) ∧ (∀ g, (Value.slice (some ⟨W2.heap.size, 0, none⟩) 0 0).ownBlock = some g → vc.ownBlock ≠ some g)) := hid ⟨HB2.out.alloc HB2.out.size _, HC2.out.alloc _, HD2.out.below ((Below.refl _ _).alloc (Nat.le_refl _) _), (DL.nil W2).base HB2.out.size, by rw [HP3.out]; simp [unitsD], by simp [capsD], fun g e e2 => by
              have h1 := ownB e
              have h2 := (HD2.out.own.lt g e2).2
              omega⟩
            clear HP2 HP3 HN2 HPL
            go_wp2
            go_loopw [8, 14, 83] (fun v u t wr => ∃ (k : Nat) (vc vp : Value) (ps qs : List (Value × Dem)), k ≤ m ∧ t = .int .i64 k ∧ vc = v ∧ vp = u ∧ Hid (Below w.heap.size w wr ∧ ZC wr w.heap.size ∧ DL wr w.heap.size vc ps ∧ DL wr w.heap.size vp qs ∧ ps.map Prod.snd = rowsD (coverL bag es) ++ unitsD k ∧ qs.map Prod.snd = capsD ((packL bag es).take k) ∧ (∀ g, vp.ownBlock = some g → vc.ownBlock ≠ some g))) (fun _ _ t _ => m - (intOf t).toNat)
            case atStart => exact ⟨0, _, _, ps, [], Nat.zero_le _, rfl, rfl, rfl, HX⟩
            case round =>
              clear HX HB2 HC2 HD2
              obtain ⟨k, vc, vp, ps, qs, hk, rfl, rfl, rfl, hH⟩ := hrel
              generalize wr = W4 at *
              obtain ⟨hB4, hZ4, hD4, hQ4, hP4, hC4, hN4⟩ := hH.out
              have HB4 := hid hB4
              have HZ4 := hid hZ4
              have HD4 := hid hD4
              have HQ4 := hid hQ4
              have HP4 := hid hP4
              have HC4 := hid hC4
              have HN4 := hid hN4
              have HLP : Hid (ps.length = nb + k) := hid (by
                have := congrArg List.length hP4
                rw [List.length_map, List.length_append] at this
                rw [this]
                simp only [rowsD, unitsD, List.length_map, coverL_len, List.length_range]
                rw [HNB.out])
              have HLQ : Hid (qs.length ≤ k) := hid (by
                have := congrArg List.length hC4
                rw [List.length_map] at this
                rw [this]
                simp only [capsD, List.length_map]
                refine Nat.le_trans (List.length_filter_le _ _) ?_
                rw [List.length_take]; omega)
              clear hH hB4 hZ4 hD4 hQ4 hP4 hC4 hN4
              by_cases hkm : k < m
              · have i2 : (k : Int) < (m : Int) := by omega
                obtain ⟨b, o, u, rfl, e1, hu⟩ := HCE.out k hkm
                have c1 := (HB4.out.cell (p := ⟨b, o + k, none⟩) (World.block_lt_of_cell? w _ e1)).trans e1
                have HU := hid hu
                have hkl : k < es.length := by rw [← HM.out]; exact hkm
                have HHIT := hid (fun h => capsD_hit (bag := bag) hkl h)
                have HMISS := hid (fun h => capsD_miss (bag := bag) hkl h)
                rw [← HNB.out] at HHIT HMISS
                obtain ⟨p, hp⟩ : ∃ p : Nat → Bool, p = fun i => decide (bag.getD i 0 ∈ es.getD k []) := ⟨_, rfl⟩
                rw [← hp] at HHIT HMISS
                have HPP := hid hp
                have HLK := hid (HLE.out k)
                clear hkl hp e1 hu
                have hown := HD4.out.own
                have hlen := HLP.out
                rw [hlen] at hown
                have hrs := HB4.out.size
                go_wp2_with (first
                  | (at_builtin; refine wpList_append_lies _ rfl _ _ 69 rfl w.heap.size 71 iD (.agg #[.slice none 0 0, .bool false, .int .i64 0]) 3 40 Try.underlying69 hj hy0 hy1 hy2 rfl (by decide) _ _ _ rfl ((hown.alloc _).alloc _) ⟨W4.heap.size + 1, 0, none⟩ 1 1 [.slice (some ⟨W4.heap.size, 0, none⟩) 1 1, .bool false, .int .i64 0] rfl rfl ?kc1 ?kc2 (by decide) ?kc3 ?kc4 ?kc5 _ rfl ?_))
                case kc1 => exact newU _ _ _ _
                case kc2 => first | rfl | exact ⟨rfl, rfl, rfl⟩ | (intro u hu; simp at hu; rcases hu with rfl | rfl | rfl <;> rfl)
                case kc3 => unfold maxLen; omega
                case kc4 => omega
                case kc5 => exact Nat.le_trans hrs (by simp; omega)
                intro g1 cp1 w1 hown1 hgrow1 hat1 hlt1
                have hBa : Below W4.heap.size W4 (W4.alloc (.cells #[.int .i64 k] 3)) := (Below.refl _ _).alloc (Nat.le_refl _) _
                have hUn : (W4.alloc (.cells #[.int .i64 k] 3)).ownsRow w.heap.size 3 1 (.slice (some ⟨W4.heap.size, 0, none⟩) 1 1) 1 (ivals [k]) := World.ownsRow_lit W4 #[.int .i64 k] 1 hrs (by decide) rfl
                obtain ⟨vc', hvc'⟩ : ∃ v : Value, v = .slice (some ⟨g1, 0, none⟩) (nb + k + 1) cp1 := ⟨_, rfl⟩
                obtain ⟨ps', hps'⟩ : ∃ q : List (Value × Dem), q = ps ++ [(.slice (some ⟨W4.heap.size, 0, none⟩) 1 1, ⟨[k], false, 0⟩)] := ⟨_, rfl⟩
                have HX : Hid (Below w.heap.size w w1 ∧ ZC w1 w.heap.size ∧ DL w1 w.heap.size vc' ps' ∧ DL w1 w.heap.size vp qs ∧ ps'.map Prod.snd = rowsD (coverL bag es) ++ unitsD (k + 1) ∧ (∀ g, vp.ownBlock = some g → vc'.ownBlock ≠ some g)) := hid (by
                  rw [hvc', hps']
                  exact ⟨own_grow2 (Nat.le_trans hrs hBa.size) (own_below HD4.out.own hBa) (bt HB4.out hBa) hgrow1, (HZ4.out.below hBa).grow (own_below HD4.out.own hBa) hgrow1, (HD4.out.below hBa).step (p := (.slice (some ⟨W4.heap.size, 0, none⟩) 1 1, ⟨[k], false, 0⟩)) hUn (by rw [hlen]; exact hown1) hgrow1, (HQ4.out.below hBa).other (own_below HD4.out.own hBa) HN4.out hgrow1, by rw [List.map_append, HP4.out, unitsD_succ, List.append_assoc]; rfl, apart2 (HQ4.out.below hBa) HN4.out (hat1.imp id (fun h => by simp; omega))⟩)
                have HVC := hid hvc'
                clear hown1 hgrow1 hat1 hlt1 hBa hUn hown HD4 HQ4 HP4 HZ4 HN4 HB4 c1 hps' HLP hlen hrs
                rw [← hvc']
                clear hvc'
                go_upto_region 30 with fail
                generalize w1 = W5 at *
                have hAT := AT.new W5 (.slice none 0 0) true
                have hB6 : Below W5.heap.size W5 (W5.alloc (.cells #[.slice none 0 0, .bool true, .int .i64 1] 71)) := (Below.refl _ _).alloc (Nat.le_refl _) _
                have HY : Hid (Below W5.heap.size W5 (W5.alloc (.cells #[.slice none 0 0, .bool true, .int .i64 1] 71)) ∧ ∃ vat, AT (W5.alloc (.cells #[.slice none 0 0, .bool true, .int .i64 1] 71)) W5.heap.size vat true ∧ (W5.alloc (.cells #[.slice none 0 0, .bool true, .int .i64 1] 71)).ownsRow W5.heap.size 3 1 vat (plc p 0).length ((plc p 0).map (Value.int .i64))) := hid ⟨hB6, _, hAT, World.ownsRow_nil _ _ _ _⟩
                clear hAT hB6
                generalize W5.alloc (.cells #[.slice none 0 0, .bool true, .int .i64 1] 71) = W6 at *
                go_wp2
                go_loopw [97] (fun t wr => ∃ j : Nat, j ≤ nb ∧ t = .int .i64 j ∧ Hid (Below W5.heap.size W5 wr ∧ ∃ vat, AT wr W5.heap.size vat true ∧ wr.ownsRow W5.heap.size 3 1 vat (plc p j).length ((plc p j).map (Value.int .i64)))) (fun t _ => nb - (intOf t).toNat)
                case atStart => exact ⟨0, Nat.zero_le _, rfl, HY⟩
                case round =>
                  obtain ⟨j, hjm, rfl, hH⟩ := hrel
                  clear HY
                  obtain ⟨hB6, vat, hAT, hown⟩ := hH.out
                  have HB6 := hid hB6
                  have HAT := hid hAT
                  have HOWN := hid hown
                  have hple := plc_le p j
                  have hns := hB6.size
                  have t0 := hAT.arr.cell 0 (by omega)
                  have t1 := hAT.arr.cell 1 (by omega)
                  have t2 := hAT.arr.cell 2 (by omega)
                  have f0 := hAT.arr.free 0 (by omega)
                  simp only [f3] at t0 t1 t2
                  have HBw := hid (bt HX.out.1 HB6.out)
                  clear hH hB6 hAT hown
                  by_cases hjn : j < nb
                  · have i3 : (j : Int) < (nb : Int) := by omega
                    obtain ⟨b', o', rfl, e1⟩ := HCB.out j hjn
                    have c2 := (HBw.out.cell (p := ⟨b', o' + j, none⟩) (World.block_lt_of_cell? w _ e1)).trans e1
                    have KH : Hid (Calls Try.prog 37 #[u, .int .i64 (bag.getD j 0)] wr fun e w' => e = .returned (.bool (decide (bag.getD j 0 ∈ es.getD k []))) ∧ w' = wr) := hid (l1Has_calls wr u _ _ (HU.out.below HBw.out) HLK.out)
                    have hpj : p j = decide (bag.getD j 0 ∈ es.getD k []) := by rw [HPP.out]
                    rw [← hpj] at KH
                    clear e1 hpj
                    generalize bag.getD j 0 = z at *
                    by_cases hpt : p j = true
                    · have e1 := hid (plc_hit p j hpt)
                      rw [hpt] at KH
                      have hown := HOWN.out
                      go_wp2_with (first
                        | (go_at_call 37; refine KH.out.mono ?_; rintro e w' ⟨rfl, hw'⟩; subst w')
                        | (at_builtin; refine wpList_append_own _ rfl _ _ 23 rfl W5.heap.size 3 i0 (.int .i64 0) 1 8 Try.underlying23 hi hz0 hz1 hz2 rfl (by decide) _ _ _ rfl (hown.alloc _) ⟨wr.heap.size, 0, none⟩ 1 1 [.int .i64 j] rfl rfl ?kd1 ?kd2 ?kd3 ?kd4 ?kd5 ?_))
                      case kd1 => exact new1_cell _ _ _
                      case kd2 => intro u hu; simp at hu; subst hu; rfl
                      case kd3 => unfold maxLen; omega
                      case kd4 => omega
                      case kd5 => exact Nat.le_trans hns (by simp)
                      intro v' w1 hown' hgrow _
                      obtain ⟨a6, c6, e6⟩ := own_slice hown'
                      obtain ⟨⟨q0, q1⟩, hAT', hown2⟩ := HAT.out.grow hown hown' hgrow
                      have hbl := own_grow2 hns hown HB6.out hgrow
                      have HF : Hid (Below W5.heap.size W5 (w1.setCell ⟨W5.heap.size, 0, none⟩ v') ∧ ∃ vat, AT (w1.setCell ⟨W5.heap.size, 0, none⟩ v') W5.heap.size vat true ∧ (w1.setCell ⟨W5.heap.size, 0, none⟩ v').ownsRow W5.heap.size 3 1 vat (plc p (j + 1)).length ((plc p (j + 1)).map (Value.int .i64))) := hid ⟨hbl.setCell (Nat.le_refl _) _, v', hAT', by rw [e1.out]; simpa using hown2⟩
                      clear hown' hgrow hown hAT' hown2 hbl t0 t1 t2 f0
                      subst e6
                      go_wp2
                      go_roundw
                      case rel => exact ⟨j + 1, by omega, by go_num, HF⟩
                      case measure => simp [intOf]; omega
                    · have hpf : p j = false := by simpa using hpt
                      have e1 := hid (plc_miss p j hpf)
                      rw [hpf] at KH
                      go_wp2_with (first | (go_at_call 37; refine KH.out.mono ?_; rintro e w' ⟨rfl, hw'⟩; subst w'))
                      go_roundw
                      case rel => exact ⟨j + 1, by omega, by go_num, hid ⟨HB6.out, vat, HAT.out, by rw [e1.out]; exact HOWN.out⟩⟩
                      case measure => simp [intOf]; omega
                  · obtain rfl : nb = j := by omega
                    have i3 : ¬ ((nb : Int) < (nb : Int)) := by omega
                    obtain ⟨a5, c5, e5, -⟩ := own_is HOWN.out
                    subst e5
                    have HLP := hid (plc_len p nb)
                    generalize hlp : (plc p nb).length = lp at *
                    have HDp := hid (HX.out.2.2.2.1.below HB6.out)
                    have HDc := hid (HX.out.2.2.1.below HB6.out)
                    have HZ7 := hid (HX.out.2.1.below HB6.out)
                    by_cases hl0 : lp = 0
                    · subst hl0
                      have HF : Hid (Below w.heap.size w wr ∧ ZC wr w.heap.size ∧ DL wr w.heap.size vc' ps' ∧ DL wr w.heap.size vp qs ∧ ps'.map Prod.snd = rowsD (coverL bag es) ++ unitsD (k + 1) ∧ qs.map Prod.snd = capsD ((packL bag es).take (k + 1)) ∧ (∀ g, vp.ownBlock = some g → vc'.ownBlock ≠ some g)) := hid ⟨HBw.out, HZ7.out, HDc.out, HDp.out, HX.out.2.2.2.2.1, by rw [HMISS.out (List.length_eq_zero_iff.1 (HLP.out.symm.trans rfl))]; exact HC4.out, HX.out.2.2.2.2.2⟩
                      go_wp2
                      go_roundw
                      case rel => exact ⟨k + 1, vc', vp, ps', qs, by omega, by go_num, rfl, rfl, HF⟩
                      case measure => simp [intOf]; omega
                    · have i4 : (0 : Int) < (lp : Int) := by omega
                      have hown := HDp.out.own
                      have hlq := HLQ.out
                      have hrs := HBw.out.size
                      go_wp2_with (first
                        | (at_builtin; refine wpList_append_lies _ rfl _ _ 69 rfl w.heap.size 71 iD (.agg #[.slice none 0 0, .bool false, .int .i64 0]) 3 40 Try.underlying69 hj hy0 hy1 hy2 rfl (by decide) _ _ _ rfl (hown.alloc _) ⟨wr.heap.size, 0, none⟩ 1 1 [.slice a5 lp c5, .bool true, .int .i64 1] rfl rfl ?ke1 ?ke2 (by decide) ?ke3 ?ke4 ?ke5 _ rfl ?_))
                      case ke2 => first | rfl | exact ⟨rfl, rfl, rfl⟩ | (intro u hu; simp at hu; rcases hu with rfl | rfl | rfl <;> rfl)
                      case ke3 => unfold maxLen; omega
                      case ke4 => omega
                      case ke5 => exact Nat.le_trans hrs (by simp)
                      intro g3 cp3 w3 hown3 hgrow3 hat3 hlt3
                      have hpo : wr.ownsRow w.heap.size 3 1 (.slice a5 lp c5) (plN p nb).length (ivals (plN p nb)) := by
                        have := own_base HOWN.out HX.out.1.size
                        rw [← HLP.out, ← plc_ivals]
                        exact this
                      have HNEQ : Hid (plN p nb ≠ []) := hid (fun e => by
                        have := HLP.out
                        rw [e] at this
                        exact hl0 this)
                      have HF : Hid (Below w.heap.size w w3 ∧ ZC w3 w.heap.size ∧ DL w3 w.heap.size vc' ps' ∧ DL w3 w.heap.size (.slice (some ⟨g3, 0, none⟩) (qs.length + 1) cp3) (qs ++ [(.slice a5 lp c5, ⟨plN p nb, true, 1⟩)]) ∧ ps'.map Prod.snd = rowsD (coverL bag es) ++ unitsD (k + 1) ∧ (qs ++ [((.slice a5 lp c5 : Value), (⟨plN p nb, true, 1⟩ : Dem))]).map Prod.snd = capsD ((packL bag es).take (k + 1)) ∧ (∀ g, (Value.slice (some ⟨g3, 0, none⟩) (qs.length + 1) cp3).ownBlock = some g → vc'.ownBlock ≠ some g)) := hid ⟨own_grow2 hrs hown HBw.out hgrow3, HZ7.out.grow hown hgrow3, HDc.out.other hown (fun g h1 h2 => HX.out.2.2.2.2.2 g h2 h1) hgrow3, HDp.out.step (p := (.slice a5 lp c5, ⟨plN p nb, true, 1⟩)) hpo hown3 hgrow3, HX.out.2.2.2.2.1, by rw [List.map_append, HC4.out, HHIT.out HNEQ.out]; rfl, fun g h1 h2 => apart2 HDc.out (fun g h1 h2 => HX.out.2.2.2.2.2 g h2 h1) (hat3.imp id (fun h => by omega)) g h2 h1⟩
                      clear hown3 hgrow3 hat3 hlt3 hown hpo t0 t1 t2 f0
                      go_wp2
                      go_roundw
                      case rel => exact ⟨k + 1, vc', _, ps', _, by omega, by go_num, rfl, rfl, HF⟩
                      case measure => simp [intOf]; omega
              · obtain rfl : m = k := by omega
                have i2 : ¬ ((m : Int) < (m : Int)) := by omega
                have HX : Hid (Below w.heap.size w W4 ∧ ZC W4 w.heap.size ∧ DL W4 w.heap.size vc ps ∧ DL W4 w.heap.size vp qs ∧ qs.map Prod.snd = capsD (packL bag es) ++ unitsD 0 ∧ (∀ g, vp.ownBlock = some g → vc.ownBlock ≠ some g)) := hid ⟨HB4.out, HZ4.out, HD4.out, HQ4.out, by rw [HC4.out, HM.out, ← packL_len bag es, List.take_length]; simp [unitsD], HN4.out⟩
                have HPC : Hid (ps.map Prod.snd = coverD bag es) := hid (by rw [HP4.out, HM.out]; rfl)
                clear HB4 HZ4 HD4 HQ4 HP4 HC4 HN4 HLP HLQ
                go_wp2
                go_loopw [14, 123] (fun u t wr => ∃ (j : Nat) (vp : Value) (qs : List (Value × Dem)), j ≤ nb ∧ t = .int .i64 j ∧ vp = u ∧ Hid (Below w.heap.size w wr ∧ ZC wr w.heap.size ∧ DL wr w.heap.size vc ps ∧ DL wr w.heap.size vp qs ∧ qs.map Prod.snd = capsD (packL bag es) ++ unitsD j ∧ (∀ g, vp.ownBlock = some g → vc.ownBlock ≠ some g))) (fun _ t _ => nb - (intOf t).toNat)
                case atStart => exact ⟨0, _, qs, Nat.zero_le _, rfl, rfl, HX⟩
                case round =>
                  clear HX
                  obtain ⟨j, vp, qs, hjb, rfl, rfl, hH⟩ := hrel
                  generalize wr = W7 at *
                  obtain ⟨hB4, hZ4, hD4, hQ4, hC4, hN4⟩ := hH.out
                  have HB4 := hid hB4
                  have HZ4 := hid hZ4
                  have HD4 := hid hD4
                  have HQ4 := hid hQ4
                  have HC4 := hid hC4
                  have HN4 := hid hN4
                  have hlq : qs.length ≤ m + j := by
                    have := congrArg List.length hC4
                    rw [List.length_map, List.length_append] at this
                    rw [this]
                    simp only [capsD, unitsD, List.length_map, List.length_range]
                    have := List.length_filter_le (fun l : List Nat => !l.isEmpty) (packL bag es)
                    rw [packL_len, ← HM.out] at this
                    omega
                  clear hH hB4 hZ4 hD4 hQ4 hC4 hN4
                  by_cases hjn : j < nb
                  · have i3 : (j : Int) < (nb : Int) := by omega
                    have hown := HQ4.out.own
                    have hrs := HB4.out.size
                    go_wp2_with (first
                      | (at_builtin; refine wpList_append_lies _ rfl _ _ 69 rfl w.heap.size 71 iD (.agg #[.slice none 0 0, .bool false, .int .i64 0]) 3 40 Try.underlying69 hj hy0 hy1 hy2 rfl (by decide) _ _ _ rfl ((hown.alloc _).alloc _) ⟨W7.heap.size + 1, 0, none⟩ 1 1 [.slice (some ⟨W7.heap.size, 0, none⟩) 1 1, .bool false, .int .i64 0] rfl rfl ?kf1 ?kf2 (by decide) ?kf3 ?kf4 ?kf5 _ rfl ?_))
                    case kf1 => exact newU _ _ _ _
                    case kf2 => first | rfl | exact ⟨rfl, rfl, rfl⟩ | (intro u hu; simp at hu; rcases hu with rfl | rfl | rfl <;> rfl)
                    case kf3 => unfold maxLen; omega
                    case kf4 => omega
                    case kf5 => exact Nat.le_trans hrs (by simp; omega)
                    intro g1 cp1 w1 hown1 hgrow1 hat1 hlt1
                    have hBa : Below W7.heap.size W7 (W7.alloc (.cells #[.int .i64 j] 3)) := (Below.refl _ _).alloc (Nat.le_refl _) _
                    have hUn : (W7.alloc (.cells #[.int .i64 j] 3)).ownsRow w.heap.size 3 1 (.slice (some ⟨W7.heap.size, 0, none⟩) 1 1) 1 (ivals [j]) := World.ownsRow_lit W7 #[.int .i64 j] 1 hrs (by decide) rfl
                    have HF : Hid (Below w.heap.size w w1 ∧ ZC w1 w.heap.size ∧ DL w1 w.heap.size vc ps ∧ DL w1 w.heap.size (.slice (some ⟨g1, 0, none⟩) (qs.length + 1) cp1) (qs ++ [(.slice (some ⟨W7.heap.size, 0, none⟩) 1 1, ⟨[j], false, 0⟩)]) ∧ (qs ++ [((.slice (some ⟨W7.heap.size, 0, none⟩) 1 1 : Value), (⟨[j], false, 0⟩ : Dem))]).map Prod.snd = capsD (packL bag es) ++ unitsD (j + 1) ∧ (∀ g, (Value.slice (some ⟨g1, 0, none⟩) (qs.length + 1) cp1).ownBlock = some g → vc.ownBlock ≠ some g)) := hid ⟨own_grow2 (Nat.le_trans hrs hBa.size) (own_below hown hBa) (bt HB4.out hBa) hgrow1, (HZ4.out.below hBa).grow (own_below hown hBa) hgrow1, (HD4.out.below hBa).other (own_below hown hBa) (fun g h1 h2 => HN4.out g h2 h1) hgrow1, (HQ4.out.below hBa).step (p := (.slice (some ⟨W7.heap.size, 0, none⟩) 1 1, ⟨[j], false, 0⟩)) hUn hown1 hgrow1, by rw [List.map_append, HC4.out, unitsD_succ, List.append_assoc]; rfl, fun g h1 h2 => apart2 (HD4.out.below hBa) (fun g h1 h2 => HN4.out g h2 h1) (hat1.imp id (fun h => by simp; omega)) g h2 h1⟩
                    clear hown1 hgrow1 hat1 hlt1 hBa hUn hown
                    go_wp2
                    go_roundw
                    case rel => exact ⟨j + 1, _, _, by omega, by go_num, rfl, HF⟩
                    case measure => simp [intOf]; omega
                  · obtain rfl : nb = j := by omega
                    have i3 : ¬ ((nb : Int) < (nb : Int)) := by omega
                    have HPQ : Hid (qs.map Prod.snd = packD bag es) := hid (by rw [HC4.out, HNB.out]; rfl)
                    have HYES : Hid ((setB bag && edgesB es && coverB bag es) = true) := hid (by rw [H12.out.1, H12.out.2, HCV.out]; rfl)
                    obtain ⟨hCB, hPB, hPX⟩ := HBEST.out HYES.out
                    have HCBb := hid hCB
                    have HPBb := hid hPB
                    have HPX := hid hPX
                    clear hCB hPB hPX HC4 HN4
                    by_cases hn0 : nb = 0
                    · have i5 : (nb : Int) = 0 := by omega
                      have i6 : ((nb : Int) == 0) = true := by simp; omega
                      have hx0 : ∀ i, i < m → x i = 0 := by
                        have := HCBb.out
                        rw [← HNB.out, ← HM.out, hn0] at this
                        exact cover_none this
                      have KZ : Hid (∀ W, Calls Try.prog 38 #[.int .i64 m] W fun e w' => ∃ v, e = .returned v ∧ IR w' v (prs m x) ∧ (∃ a cap, v = .slice a m cap) ∧ Below W.heap.size W w') := hid (fun W => (l1Zeros_calls W m (by omega)).mono (by
                        rintro e w' ⟨v, rfl, h1, h2⟩
                        refine ⟨v, rfl, own_ir (B := W.heap.size) (by rw [prs_length, ← zs_prs hx0]; exact h1), own_slice h1, h2⟩))
                      have HSM : Hid (Cov.sm es.length x = 0) := hid (by rw [← HM.out]; exact Cov.sm_zero hx0)
                      have HN0 := hid hn0
                      clear hx0 hn0
                      go_wp2_with (first | (go_at_call 38; refine (KZ.out _).mono ?_; rintro e w1 ⟨vz, rfl, hIR, ⟨az, cz, rfl⟩, hb1⟩; have hz := (HZ4.out.below hb1).alloc (.cells #[] 28); obtain ⟨c0, c1, c2, c3, c4⟩ := ArrAt.five hz.arr; obtain ⟨d0, d1, d2, d3, d4⟩ := hz.arr.frees))
                      have hzz := ArrAt.five_set hz.arr (.bool true) (.int .i64 0) (.int .i64 1) (.slice az m cz) (.slice (some ⟨w1.heap.size, 0, none⟩) 0 0)
                      obtain ⟨r0, r1, r2, r3, r4⟩ := hzz.five
                      have hbf := (bt HB4.out hb1).alloc (bt HB4.out hb1).size (.cells #[] 28)
                      refine bodyPost_ret (v := .agg #[.bool true, .int .i64 0, .int .i64 1, .slice az m cz, .slice (some ⟨w1.heap.size, 0, none⟩) 0 0]) (by simp [results, Try.results8, go_sem, r0, r1, r2, r3, r4]) rfl ⟨Or.inr ⟨HYES.out, _, _, by rw [HSM.out]; rfl, ?_, ?_⟩, ?_⟩
                      · rw [← HM.out]
                        exact ir_far (hIR.below ((Below.refl _ _).alloc (Nat.le_refl _) _)) hz _ _ _ _ _
                      · rw [← HNB.out, HN0.out]
                        exact ⟨_, 0, rfl, Or.inl rfl⟩
                      · exact ((((hbf.setCell (Nat.le_refl _) _).setCell (Nat.le_refl _) _).setCell (Nat.le_refl _) _).setCell (Nat.le_refl _) _).setCell (Nat.le_refl _) _
                    · have i5 : ¬ ((nb : Int) = 0) := by omega
                      have i6 : ((nb : Int) == 0) = false := by simp; omega
                      have hm1' : 1 ≤ m := by
                        obtain ⟨e, he, _⟩ := coverB_at HCV.out (v := 0) (by rw [← HNB.out]; omega)
                        rw [HM.out]; omega
                      have K1 : Hid (Calls Try.prog 39 #[.int .i64 m, vc, .int .i64 0, .slice none 0 0, .slice none 0 0, .bool false] W7 fun e w' => ∃ v, e = .returned v ∧ IR w' v (prs m x) ∧ Below W7.heap.size W7 w') := hid (corner_best m false ps x hm1' hm7 (by
                        have := congrArg List.length HPC.out
                        rw [List.length_map, coverD_len, ← HNB.out, ← HM.out] at this
                        omega) (by rw [HPC.out, HM.out]; exact coverD_ok (by rw [← HM.out]; exact hm7)) (by rw [HPC.out, HM.out]; exact star_cover HCBb.out) vc W7 HD4.out.dp)
                      have K2 : Hid (∀ W, Below W7.heap.size W7 W → Calls Try.prog 39 #[.int .i64 nb, vp, .int .i64 0, .slice none 0 0, .slice none 0 0, .bool true] W fun e w' => ∃ v, e = .returned v ∧ IR w' v (prs nb y) ∧ Below W.heap.size W w') := hid (fun W hW => corner_best nb true qs y (by omega) (by omega) (by
                        have := congrArg List.length HPQ.out
                        rw [List.length_map] at this
                        have h2 := packD_len bag es
                        rw [← HNB.out, ← HM.out] at h2
                        omega) (by rw [HPQ.out, HNB.out]; exact packD_ok (by rw [← HNB.out]; exact hnb6)) (by rw [HPQ.out, HNB.out]; exact star_pack HPBb.out) vp W (HQ4.out.below hW).dp)
                      have HPXm : Hid (Parts m x) := hid (by rw [HM.out]; exact HPX.out)
                      have HS12 : Hid ((Cov.sm es.length x).num = (Cov.sm m x).num ∧ (Cov.sm es.length x).den = (Cov.sm m x).den) := hid (by rw [HM.out]; exact ⟨rfl, rfl⟩)
                      clear HD4 HQ4 HPC HPQ HCBb HPBb
                      go_upto_region 47 with (first | (go_at_call 39; refine K1.out.mono ?_; rintro e w1 ⟨v1, rfl, hI1, hb1⟩))
                      have HI1 := hid hI1
                      have HB1 := hid hb1
                      obtain ⟨a1, q1, e1, -⟩ := hI1
                      rw [prs_length] at e1
                      subst e1
                      have HK2 := hid (K2.out w1 hb1)
                      clear hb1 K1 K2
                      go_upto_region 48 with (first | (go_at_call 39; refine HK2.out.mono ?_; rintro e w2 ⟨v2, rfl, hI2, hb2⟩))
                      have HI2 := hid hI2
                      have HB2' := hid hb2
                      obtain ⟨a2, q2, e2, -⟩ := hI2
                      rw [prs_length] at e2
                      subst e2
                      have KSU : Hid (Calls Try.prog 40 #[.slice a1 m q1] w2 fun e w' => e = .returned (.agg #[.int .i64 (Cov.sm m x).num, .int .i64 (Cov.sm m x).den]) ∧ Below w2.heap.size w2 w') := hid (ssum_best w2 _ m x hm7 (HI1.out.below hb2) HPXm.out)
                      have HZ8 := hid ((HZ4.out.below HB1.out).below hb2)
                      clear hb2 HK2
                      generalize (Cov.sm m x).num = s1 at *
                      generalize (Cov.sm m x).den = s2 at *
                      go_wp2_with (first | (go_at_call 40; refine KSU.out.mono ?_; rintro e w3 ⟨rfl, hb3⟩; have hz := HZ8.out.below hb3; obtain ⟨c0, c1, c2, c3, c4⟩ := ArrAt.five hz.arr; obtain ⟨d0, d1, d2, d3, d4⟩ := hz.arr.frees))
                      have hzz := ArrAt.five_set hz.arr (.bool true) (.int .i64 s1) (.int .i64 s2) (.slice a1 m q1) (.slice a2 nb q2)
                      obtain ⟨r0, r1, r2, r3, r4⟩ := hzz.five
                      have hbf := bt (bt (bt HB4.out HB1.out) HB2'.out) hb3
                      refine bodyPost_ret (v := .agg #[.bool true, .int .i64 s1, .int .i64 s2, .slice a1 m q1, .slice a2 nb q2]) (by simp [results, Try.results8, go_sem, r0, r1, r2, r3, r4]) rfl ⟨Or.inr ⟨HYES.out, _, _, by rw [HS12.out.1, HS12.out.2], ?_, ?_⟩, ?_⟩
                      · rw [← HM.out]
                        exact ir_far ((HI1.out.below HB2'.out).below hb3) hz _ _ _ _ _
                      · rw [← HNB.out]
                        exact ir_far (HI2.out.below hb3) hz _ _ _ _ _
                      · exact ((((hbf.setCell (Nat.le_refl _) _).setCell (Nat.le_refl _) _).setCell (Nat.le_refl _) _).setCell (Nat.le_refl _) _).setCell (Nat.le_refl _) _

end Go.Proofs.Ytnmcgbfhgmmcpaa
