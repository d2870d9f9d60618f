import Derived.Test.YtnmcgbfhgmmcpaaW31
import Derived.Test.YtnmcgbfhgmmcpaaW44
/-
  A list of rows that grows; an empty Rat's block.
-/
namespace Go.Proofs.Ytnmcgbfhgmmcpaa
open Go.RowKit

theorem ownSl {w : World} {B n s : Nat} {e : TypeId} {v : Value} {xs : List Value} (h : w.ownsRow B e s v n xs) : ∃ a cap, v = .slice a n cap := by
  rcases h.2 with ⟨rfl, hn⟩ | ⟨g, cap, cur, rfl, _⟩
  · exact ⟨none, 0, by rw [hn]⟩
  · exact ⟨_, cap, rfl⟩

/-- rows in a slice that grows, each in a row of its own -/
structure RL (W : World) (B : Nat) (v : Value) (vs : List Value) (ls : List (List Int)) : Prop where
  own : W.ownsRow B 23 1 v ls.length vs
  len : vs.length = ls.length
  each : ∀ i, i < ls.length → W.ownsRow B 3 1 (vs.getD i undef) (ls.getD i []).length ((ls.getD i []).map (Value.int .i64))

section
variable {W W' w3 : World} {B : Nat} {v v' u : Value} {vs : List Value} {ls : List (List Int)} {l : List Int} {o : Obj}

theorem RL.below (h : RL W B v vs ls) (hb : Below W.heap.size W W') : RL W' B v vs ls := ⟨own_below h.own hb, h.len, fun i hi => own_below (h.each i hi) hb⟩
theorem RL.nil (W : World) : RL (W.alloc (.cells #[] 23)) W.heap.size (.slice (some ⟨W.heap.size, 0, none⟩) 0 0) [] [] := ⟨World.ownsRow_made W #[] 0 (Nat.le_refl _) (by decide) rfl, rfl, fun i hi => by simp at hi⟩
theorem RL.base {B' : Nat} (h : RL W B v vs ls) (hB : B' ≤ B) : RL W B' v vs ls := ⟨own_base h.own hB, h.len, fun i hi => own_base (h.each i hi) hB⟩

theorem RL.step (h : RL W B v vs ls) (hu : W.ownsRow B 3 1 u l.length (l.map (Value.int .i64))) (hown : w3.ownsRow B 23 1 v' (ls.length + 1) (vs ++ [u])) (hg : (W.alloc o).grownBy w3 v.ownBlock) : RL w3 B v' (vs ++ [u]) (ls ++ [l]) := by
  have hint : ∀ {x : Value} {k : Nat} {xs : List Value}, W.ownsRow B 3 1 x k xs → w3.ownsRow B 3 1 x k xs := fun hx =>
    own_move hx (fun g hgx => grown_keep hg ((hx.lt g hgx).2) (fun e => own_ne h.own (own_typ hx hgx) (by decide) e))
  refine ⟨by rw [List.length_append]; exact hown, by rw [List.length_append, List.length_append, h.len]; rfl, fun i hi => ?_⟩
  rw [List.length_append, List.length_singleton] at hi
  by_cases e : i < ls.length
  · have := hint (h.each i e)
    rw [List.getD_eq_getElem?_getD, List.getElem?_append_left (by rw [h.len]; exact e), List.getD_eq_getElem?_getD (l := ls ++ [l]), List.getElem?_append_left e, ← List.getD_eq_getElem?_getD, ← List.getD_eq_getElem?_getD]
    exact this
  · have e1 : (vs ++ [u]).getD i undef = u := by rw [List.getD_eq_getElem?_getD, List.getElem?_append_right (by rw [h.len]; omega), show i - vs.length = 0 by rw [h.len]; omega]; rfl
    have e2 : (ls ++ [l]).getD i [] = l := by rw [List.getD_eq_getElem?_getD, List.getElem?_append_right (by omega), show i - ls.length = 0 by omega]; rfl
    rw [e1, e2]
    exact hint hu

/-- another list of demands grows -/
theorem RL.other (h : RL W B v vs ls) {n : Nat} {xs : List Value} (hv : W.ownsRow B 71 3 u n xs) (hg : (W.alloc o).grownBy w3 u.ownBlock) : RL w3 B v vs ls :=
  ⟨own_move h.own (fun g hgx => grown_keep hg ((h.own.lt g hgx).2) (fun e => own_ne hv (own_typ h.own hgx) (by decide) e)), h.len, fun i hi =>
    own_move (h.each i hi) (fun g hgx => grown_keep hg (((h.each i hi).lt g hgx).2) (fun e => own_ne hv (own_typ (h.each i hi) hgx) (by decide) e))⟩
theorem DL.far {ps : List (Value × Dem)} (h : DL W B u ps) {n : Nat} {xs : List Value} (hv : W.ownsRow B 23 1 v n xs) (hg : (W.alloc o).grownBy w3 v.ownBlock) : DL w3 B u ps :=
  ⟨own_move h.own (fun g hgx => grown_keep hg ((h.own.lt g hgx).2) (fun e => own_ne hv (own_typ h.own hgx) (by decide) e)), fun q hq =>
    own_move (h.each q hq) (fun g hgx => grown_keep hg (((h.each q hq).lt g hgx).2) (fun e => own_ne hv (own_typ (h.each q hq) hgx) (by decide) e))⟩

theorem RL.get (h : RL W B v vs ls) {i : Nat} (hi : i < ls.length) : ∃ g cap, v = .slice (some ⟨g, 0, none⟩) ls.length cap ∧ W.cell? ⟨g, i, none⟩ = some (vs.getD i undef) ∧ IS W (vs.getD i undef) (ls.getD i []) := by
  rcases h.own.2 with ⟨-, h2⟩ | ⟨g, cap, cur, rfl, hb', hc, hn, -, -, ht⟩
  · omega
  · refine ⟨g, cap, rfl, ?_, own_is (h.each i hi)⟩
    have hlen := h.len
    rw [cell_of_row _ _ _ _ _ _ hc, List.getD_eq_getElem?_getD, List.getElem?_eq_getElem (by omega), Option.getD_some, ← List.getElem?_eq_getElem (by omega : i < vs.length), ← ht, List.getElem?_take_of_lt (by omega), Array.getElem?_toList]
theorem RL.sl (h : RL W B v vs ls) : ∃ a cap, v = .slice a ls.length cap := by
  rcases h.own.2 with ⟨rfl, hn⟩ | ⟨g, cap, cur, rfl, _⟩
  · exact ⟨none, 0, by rw [hn]⟩
  · exact ⟨_, cap, rfl⟩

/-- an empty Rat -/
structure ZR (W : World) (g : Nat) : Prop where
  blk : W.heap[g]? = some (.cells #[.int .i64 0, .int .i64 0] 28 (0, 0))
variable {g : Nat}
theorem ZR.typ (h : ZR W g) : ∃ cur, W.heap[g]? = some (.cells cur 28 (0, 0)) := ⟨_, h.blk⟩
theorem ZR.move (h : ZR W g) (e : W'.heap[g]? = W.heap[g]?) : ZR W' g := ⟨e.trans h.blk⟩
theorem ZR.lt (h : ZR W g) : g < W.heap.size := lt_of_typ h.typ
theorem ZR.below (h : ZR W g) (hb : Below W.heap.size W W') : ZR W' g := h.move (hb.block g h.lt)
theorem ZR.alloc (h : ZR W g) (o : Obj) : ZR (W.alloc o) g := h.move (Below.heap_alloc _ _ _ h.lt)
theorem ZR.grow {n : Nat} {xs : List Value} (h : ZR W g) (hown : W.ownsRow B 71 3 v n xs) (hg : (W.alloc o).grownBy w3 v.ownBlock) : ZR w3 g := h.move (grown_keep hg h.lt (own_ne hown h.typ (by decide)))
theorem ZR.grow2 {n : Nat} {xs : List Value} (h : ZR W g) (hown : W.ownsRow B 23 1 v n xs) (hg : (W.alloc o).grownBy w3 v.ownBlock) : ZR w3 g := h.move (grown_keep hg h.lt (own_ne hown h.typ (by decide)))
theorem ZR.two (h : ZR W g) : Two W g 0 0 := by
  refine ⟨?_, ?_, ?_, ?_⟩
  · rw [cell_of_row _ _ _ _ _ _ h.blk]; rfl
  · rw [cell_of_row _ _ _ _ _ _ h.blk]; rfl
  · unfold World.frozen?; rw [h.blk]; simp
  · unfold World.frozen?; rw [h.blk]; simp
end

/-- the parts kept of the first k edges -/
def partsU (bag : List Int) (es : List (List Int)) (k : Nat) : List (List Int) := ((List.range k).filter (needB bag es)).map fun i => partL bag (es.getD i [])
theorem partsU_hit {bag : List Int} {es : List (List Int)} {k : Nat} (h : needB bag es k = true) : partsU bag es (k + 1) = partsU bag es k ++ [partL bag (es.getD k [])] := by
  simp [partsU, List.range_succ, List.filter_append, h]
theorem partsU_miss {bag : List Int} {es : List (List Int)} {k : Nat} (h : needB bag es k = false) : partsU bag es (k + 1) = partsU bag es k := by
  simp [partsU, List.range_succ, List.filter_append, h]
theorem partsU_le (bag : List Int) (es : List (List Int)) (k : Nat) : (partsU bag es k).length ≤ k := by
  unfold partsU
  rw [List.length_map]
  exact Nat.le_trans (List.length_filter_le _ _) (by simp)
theorem partsU_all (bag : List Int) (es : List (List Int)) : partsU bag es es.length = partsL bag es := rfl
def needU (bag : List Int) (es : List (List Int)) (i j : Nat) : Bool := decide (0 < (partL bag (es.getD i [])).length) && (List.range j).all fun j => !overB bag es i j
theorem needU_succ {bag : List Int} {es : List (List Int)} (i j : Nat) : needU bag es i (j + 1) = (needU bag es i j && !overB bag es i j) := by
  unfold needU
  rw [List.range_succ, List.all_append]
  simp [Bool.and_assoc]
theorem part_len (bag e : List Int) : (partL bag e).length ≤ e.length := List.length_filter_le _ _

end Go.Proofs.Ytnmcgbfhgmmcpaa

/-
  spec.l4Width.
-/
namespace Go.Proofs.Ytnmcgbfhgmmcpaa
open Go.RowKit

theorem newUnit (W : World) (k : Int) (x y : Value) : ∀ j u, [.slice (some ⟨W.heap.size, 0, none⟩) 1 1, x, y][j]? = some u → ((W.alloc (.cells #[.int .i64 k] 3)).alloc (.cells #[.slice (some ⟨W.heap.size, 0, none⟩) 1 1, x, y] 71)).cell? ((⟨W.heap.size + 1, 0, none⟩ : Addr).add j) = some u := by
  have := new3_cell (W.alloc (.cells #[.int .i64 k] 3)) (.slice (some ⟨W.heap.size, 0, none⟩) 1 1) x y 71
  rw [show (W.alloc (.cells #[.int .i64 k] 3)).heap.size = W.heap.size + 1 by simp] at this
  exact this

set_option maxHeartbeats 40000000 in
set_option maxRecDepth 1000000 in
theorem l4Width_calls (w : World) (vb ve : Value) (bag : List Int) (es : List (List Int)) (hb : IS w vb bag) (h : ISS w ve es) (hl : Short es) (he : edgesB es = true) (hg : GoodBag es bag) (hne : 1 ≤ bag.length) :
    Calls Try.prog 94 #[vb, ve] w fun e w' => e = .returned (.agg #[.int .i64 (wdR es bag).num, .int .i64 (wdR es bag).den]) ∧ Below w.heap.size w w' := by
  obtain ⟨i0, hi, hz0, hz1, hz2⟩ := info_parts Try.infoInt
  obtain ⟨iD, hj, hy0, hy1, hy2⟩ := info_parts Try.infoDem
  obtain ⟨iS, hk, hx0, hx1, hx2⟩ := info_parts Try.infoIS
  have hb6 := setB_len hg.set
  have he7 := edgesB_len he
  have hnd := edges_nodup he
  have hcov := parts_cover hnd (cover_has hg.cov)
  obtain ⟨y, hy, hpy⟩ := coverBest_exists (bag := bag) (es := partsL bag es) (by omega) hcov
  obtain ⟨x, hx, hpx⟩ := hg.best
  have HSUM : Hid (Cov.sm (partsL bag es).length y = wdR es bag) := hid (by rw [← width_parts hnd hx hy]; exact wdR_eq hx hpx)
  have HY := hid hy
  have HPY := hid hpy
  have hP1 : 1 ≤ (partsL bag es).length := by
    obtain ⟨e, h1, -⟩ := hcov 0 (by omega)
    omega
  have hP7 : (partsL bag es).length ≤ 7 := by
    have := keptI_le bag es
    rw [partsL_length]; omega
  have HIS := hid hb
  have HES := hid h
  obtain ⟨aB, cB, rfl, hcB⟩ := hb
  obtain ⟨aE, cE, rfl, -⟩ := h
  have HLE := hid hl.2
  have HCB : Hid (∀ j, j < bag.length → ∃ b o, aB = some ⟨b, o, none⟩ ∧ w.cell? ⟨b, o + j, none⟩ = some (.int .i64 (bag.getD j 0))) := hid (fun j hj => by
    rcases hcB with h0 | ⟨b, o, e, hc⟩
    · omega
    · exact ⟨b, o, e, hc j (by omega)⟩)
  have HCE : Hid (∀ j, j < es.length → ∃ b o u, aE = some ⟨b, o, none⟩ ∧ w.cell? ⟨b, o + j, none⟩ = some u ∧ IS w u (es.getD j [])) := hid (fun j hj => HES.out.get rfl (by omega))
  have KSH : Hid (∀ W u j, Below w.heap.size w W → j < es.length → IS W u (es.getD j []) → Calls Try.prog 119 #[u, .slice aB bag.length cB] W fun e w' => ∃ u, e = .returned u ∧ w'.ownsRow W.heap.size 3 1 u (partL bag (es.getD j [])).length ((partL bag (es.getD j [])).map (Value.int .i64)) ∧ Below W.heap.size W w') :=
    hid fun W u j hW hj hu => l2Shared_calls W u _ (es.getD j []) bag hu (HLE.out j) (HIS.out.below hW) (by omega)
  have HPS := hid (partsU_all bag es)
  have HHIT : Hid (∀ k, needB bag es k = true → partsU bag es (k + 1) = partsU bag es k ++ [partL bag (es.getD k [])]) := hid fun k => partsU_hit
  have HMISS : Hid (∀ k, needB bag es k = false → partsU bag es (k + 1) = partsU bag es k) := hid fun k => partsU_miss
  have HULE := hid (partsU_le bag es)
  have HNU0 : Hid (∀ i, needU bag es i 0 = decide (0 < (partL bag (es.getD i [])).length)) := hid fun i => by simp [needU]
  have HNUS : Hid (∀ i j, needU bag es i (j + 1) = (needU bag es i j && !overB bag es i j)) := hid needU_succ
  have HNUN : Hid (∀ i, needU bag es i es.length = needB bag es i) := hid fun i => rfl
  have HOV : Hid (∀ i j, overB bag es i j = (decide (j ≠ i) && subB (partL bag (es.getD i [])) (partL bag (es.getD j [])) && (decide ((partL bag (es.getD i [])).length < (partL bag (es.getD j [])).length) || decide (j < i)))) := hid fun i j => rfl
  have HPL : Hid (∀ i, (partL bag (es.getD i [])).length ≤ 1099511627776) := hid fun i => Nat.le_trans (part_len _ _) (HLE.out i)
  have HPU0 : Hid (partsU bag es 0 = []) := hid rfl
  obtain ⟨nb, hnb⟩ : ∃ nb, nb = bag.length := ⟨_, rfl⟩
  obtain ⟨m, hm⟩ : ∃ m, m = es.length := ⟨_, rfl⟩
  have HNB := hid hnb
  have HM := hid hm
  have HGS := hid hg
  rw [← hnb] at hb6 hne HCB KSH ⊢
  rw [← hm] at he7 HCE KSH HPS HNUN ⊢
  have hA : Below w.heap.size w (w.alloc (.cells #[.int .i64 0, .int .i64 0] 28)) := (Below.refl _ _).alloc (Nat.le_refl _) _
  have hzr : ZR (w.alloc (.cells #[.int .i64 0, .int .i64 0] 28)) w.heap.size := ⟨heap_alloc_new _ _⟩
  clear hcB hl hnb hm he hnd hcov hy hpy hx hg
  go_enter Try.func94, Try.ntmps94
  go_upto_region 1 with fail
  generalize w.alloc (.cells #[.int .i64 0, .int .i64 0] 28) = W0 at *
  have HA := hid hA
  have HZ := hid hzr
  clear hA hzr
  have hB1 : Below w.heap.size w (W0.alloc eD) := HA.out.alloc HA.out.size _
  have HX0 : Hid (Below w.heap.size w ((W0.alloc eD).alloc (.cells #[] 23)) ∧ ZR ((W0.alloc eD).alloc (.cells #[] 23)) w.heap.size ∧ DL ((W0.alloc eD).alloc (.cells #[] 23)) w.heap.size (.slice (some ⟨W0.heap.size, 0, none⟩) 0 0) [] ∧ RL ((W0.alloc eD).alloc (.cells #[] 23)) w.heap.size (.slice (some ⟨W0.heap.size + 1, 0, none⟩) 0 0) [] []) :=
    hid ⟨hB1.alloc hB1.size _, (HZ.out.alloc _).alloc _, ((DL.nil W0).base HA.out.size).below ((Below.refl _ _).alloc (Nat.le_refl _) _), by
      have := (RL.nil (W0.alloc eD)).base hB1.size
      rw [show (W0.alloc eD).heap.size = W0.heap.size + 1 by simp] at this
      exact this⟩
  clear hB1
  go_wp2
  go_loopw [6, 24] (fun v t wr => ∃ (k : Nat) (vp : Value) (vs : List Value), k ≤ m ∧ t = .int .i64 k ∧ vp = v ∧ Hid (Below w.heap.size w wr ∧ ZR wr w.heap.size ∧ DL wr w.heap.size (.slice (some ⟨W0.heap.size, 0, none⟩) 0 0) [] ∧ RL wr w.heap.size vp vs (partsU bag es k))) (fun _ t _ => m - (intOf t).toNat)
  case atStart => exact ⟨0, _, [], Nat.zero_le _, rfl, rfl, by rw [HPU0.out]; exact HX0⟩
  case round =>
    clear HX0
    obtain ⟨k, vp, vs, hkm, rfl, rfl, hH⟩ := hrel
    generalize wr = W1 at *
    have HB1 := hid hH.out.1
    have HZ1 := hid hH.out.2.1
    have HD1 := hid hH.out.2.2.1
    have HR1 := hid hH.out.2.2.2
    clear hH
    by_cases hk1 : k < m
    · have i1 : (k : Int) < (m : Int) := by omega
      obtain ⟨b, o, u, rfl, e1, hu⟩ := HCE.out k hk1
      have c1 := bclp HB1.out e1
      have KS1 := hid (KSH.out W1 u k HB1.out hk1 (hu.below HB1.out))
      have hple := HPL.out k
      obtain ⟨a1, cap1, rfl, -⟩ := hu
      clear e1
      generalize (es.getD k []).length = lk at *
      go_wp2_with fail
      refine KS1.out.mono ?_
      rintro e W2 ⟨u9, rfl, hown9, hb2⟩
      have HB2 := hid hb2
      have HO9 := hid hown9
      have HB12 := hid (bt HB1.out hb2)
      obtain ⟨a9, c9, e9, -⟩ := own_is hown9
      subst e9
      clear hown9 hb2 KS1 c1
      have hn0 := HNU0.out k
      have HNSk := hid (HNUS.out k)
      have hnn := HNUN.out k
      have HOVk := hid (HOV.out k)
      obtain ⟨pk, hpk⟩ : ∃ p, p = partL bag (es.getD k []) := ⟨_, rfl⟩
      have HPK := hid hpk
      rw [← hpk] at hple HO9 HOVk hn0 ⊢
      clear hpk
      have HN0 := hid hn0
      have HNN := hid hnn
      clear hn0 hnn
      obtain ⟨lp, hlp⟩ : ∃ n, n = pk.length := ⟨_, rfl⟩
      rw [← hlp] at hple HO9 HN0 ⊢
      have HLP := hid hlp
      clear hlp
      go_wp2_with fail
      go_loopw [10, 37] (fun s t wr => ∃ j : Nat, j ≤ m ∧ t = .int .i64 j ∧ s = .bool (needU bag es k j) ∧ Hid (Below W2.heap.size W2 wr)) (fun _ t _ => m - (intOf t).toNat)
      case atStart =>
        refine ⟨0, Nat.zero_le _, rfl, ?_, hid (Below.refl _ _)⟩
        rw [HN0.out]
      case round =>
        obtain ⟨j, hjm, rfl, rfl, hH⟩ := hrel
        generalize wr = W3 at *
        have HB3 := hid hH.out
        have HB03 := hid (bt HB12.out hH.out)
        clear hH
        by_cases hj1 : j < m
        · have i2 : (j : Int) < (m : Int) := by omega
          obtain ⟨b', o', u, e', e1, hu⟩ := HCE.out j hj1
          simp only [Option.some.injEq, Addr.mk.injEq, and_true] at e'
          obtain ⟨rfl, rfl⟩ := e'
          have c1 := bclp HB03.out e1
          have KS1 := hid (KSH.out W3 u j HB03.out hj1 (hu.below HB03.out))
          have hplj := HPL.out j
          obtain ⟨a1, cap1, rfl, -⟩ := hu
          have hns := HNSk.out j
          have hov := HOVk.out j
          clear e1
          generalize (es.getD j []).length = lj at *
          generalize needU bag es k j = s at *
          generalize overB bag es k j = ov at *
          generalize partL bag (es.getD j []) = pj at *
          go_wp2_with fail
          refine KS1.out.mono ?_
          rintro e W4 ⟨u13, rfl, hown13, hb4⟩
          have HB4 := hid (bt HB3.out hb4)
          have h13 := own_is hown13
          have h9 := (own_is (l := pk) (by rw [← HLP.out]; exact HO9.out)).below (bt HB3.out hb4)
          have KSB := hid (l2Subset_calls W4 _ u13 pk pj h9 (by rw [← HLP.out]; exact hple) h13 hplj)
          obtain ⟨a13, c13, e13, -⟩ := h13
          subst e13
          clear hown13 hb4 h9 KS1 c1
          rw [← HLP.out] at hov
          generalize pj.length = lpj at *
          generalize subB pk pj = sb at *
          by_cases hjk : j = k
          · subst hjk
            rw [decide_eq_false (by simp), Bool.false_and, Bool.false_and] at hov
            subst hov
            go_wp2_with fail
            go_roundw
            case rel => exact ⟨j + 1, by omega, by go_num, by rw [hns]; simp, HB4⟩
            case measure => simp [intOf]; omega
          rw [decide_eq_true hjk, Bool.true_and] at hov
          have x1 : ((j : Int) != (k : Int)) = true := by simp; omega
          cases sb
          · rw [Bool.false_and] at hov
            subst hov
            go_wp2_with fail
            refine KSB.out.mono ?_
            rintro e w' ⟨rfl, hw'⟩
            subst w'
            go_wp2_with fail
            go_roundw
            case rel => exact ⟨j + 1, by omega, by go_num, by rw [hns]; simp, HB4⟩
            case measure => simp [intOf]; omega
          rw [Bool.true_and] at hov
          by_cases hll : lp < lpj
          · rw [decide_eq_true hll, Bool.true_or] at hov
            subst hov
            have x2 : (lp : Int) < (lpj : Int) := by omega
            go_wp2_with fail
            refine KSB.out.mono ?_
            rintro e w' ⟨rfl, hw'⟩
            subst w'
            go_wp2_with fail
            go_roundw
            case rel => exact ⟨j + 1, by omega, by go_num, by rw [hns]; simp, HB4⟩
            case measure => simp [intOf]; omega
          rw [decide_eq_false hll, Bool.false_or] at hov
          have x2 : ¬ ((lp : Int) < (lpj : Int)) := by omega
          by_cases hjl : j < k
          · rw [decide_eq_true hjl] at hov
            subst hov
            have x3 : (j : Int) < (k : Int) := by omega
            go_wp2_with fail
            refine KSB.out.mono ?_
            rintro e w' ⟨rfl, hw'⟩
            subst w'
            go_wp2_with fail
            go_roundw
            case rel => exact ⟨j + 1, by omega, by go_num, by rw [hns]; simp, HB4⟩
            case measure => simp [intOf]; omega
          · rw [decide_eq_false hjl] at hov
            subst hov
            have x3 : ¬ ((j : Int) < (k : Int)) := by omega
            go_wp2_with fail
            refine KSB.out.mono ?_
            rintro e w' ⟨rfl, hw'⟩
            subst w'
            go_wp2_with fail
            go_roundw
            case rel => exact ⟨j + 1, by omega, by go_num, by rw [hns]; simp, HB4⟩
            case measure => simp [intOf]; omega
        · obtain rfl : j = m := by omega
          have i2 : ¬ ((j : Int) < (j : Int)) := by omega
          have hhit := HHIT.out k
          have hmiss := HMISS.out k
          rw [← HNN.out] at hhit hmiss
          generalize needU bag es k j = s at *
          cases s
          · have HE := hid (hmiss rfl)
            clear hhit hmiss
            have HF : Hid (Below w.heap.size w W3 ∧ ZR W3 w.heap.size ∧ DL W3 w.heap.size (.slice (some ⟨W0.heap.size, 0, none⟩) 0 0) [] ∧ RL W3 w.heap.size vp vs (partsU bag es (k + 1))) := hid (by
              have hb := bt HB2.out HB3.out
              rw [HE.out]
              exact ⟨HB03.out, HZ1.out.below hb, HD1.out.below hb, HR1.out.below hb⟩)
            go_wp2_with fail
            go_roundw
            case rel => exact ⟨k + 1, vp, vs, by omega, by go_num, rfl, HF⟩
            case measure => simp [intOf]; omega
          · have HE := hid (hhit rfl)
            clear hhit hmiss
            have hb := bt HB2.out HB3.out
            have HR3 := hid (HR1.out.below hb)
            have HZ3 := hid (HZ1.out.below hb)
            have HD3 := hid (HD1.out.below hb)
            have hown := HR3.out.own
            have hule := HULE.out k
            have hrs := HB03.out.size
            have HO93 := hid (own_base (own_below HO9.out HB3.out) HB1.out.size)
            clear hb
            go_wp2_with (first
              | (at_builtin; refine wpList_append_own _ rfl _ _ 24 rfl w.heap.size 23 iS (.slice none 0 0) 1 24 Try.underlying24 hk hx0 hx1 hx2 rfl (by decide) _ _ _ rfl (hown.alloc _) ⟨W3.heap.size, 0, none⟩ 1 1 [.slice a9 lp c9] rfl rfl ?ka1 ?ka2 ?ka3 ?ka4 ?ka5 ?_) | fail)
            try (case ka1 => exact new1_cell _ _ _)
            case ka2 => first | rfl | (intro u hu; simp at hu; subst hu; rfl)
            case ka3 => unfold maxLen; omega
            case ka4 => omega
            case ka5 => exact Nat.le_trans hrs (by simp)
            intro v' w5 hown' hgrow _
            have HF : Hid (Below w.heap.size w w5 ∧ ZR w5 w.heap.size ∧ DL w5 w.heap.size (.slice (some ⟨W0.heap.size, 0, none⟩) 0 0) [] ∧ RL w5 w.heap.size v' (vs ++ [.slice a9 lp c9]) (partsU bag es (k + 1))) := hid (by
              rw [HE.out]
              refine ⟨own_grow2 hrs hown HB03.out hgrow, HZ3.out.grow2 hown hgrow, HD3.out.far hown hgrow, HR3.out.step (u := .slice a9 lp c9) ?_ hown' hgrow⟩
              rw [← HPK.out, ← HLP.out]
              exact HO93.out)
            clear hown' hgrow hown
            go_wp2
            go_roundw
            case rel => exact ⟨k + 1, v', _, by omega, by go_num, rfl, HF⟩
            case measure => simp [intOf]; omega
    · obtain rfl : m = k := by omega
      have i1 : ¬ ((m : Int) < (m : Int)) := by omega
      rw [HPS.out] at HR1
      clear HHIT HMISS HULE HNU0 HNUS HNUN HOV HPL HPU0 KSH HPS
      have HPLE : Hid (∀ j, j < (partsL bag es).length → ((partsL bag es).getD j []).length ≤ 1099511627776) := hid fun j hj => by
        rw [partsL_get (by rw [← partsL_length]; exact hj)]
        exact Nat.le_trans (part_len _ _) (HLE.out _)
      obtain ⟨PS, hPS⟩ : ∃ PS, PS = partsL bag es := ⟨_, rfl⟩
      rw [← hPS] at HR1 HSUM HY HPY hP1 hP7 HPLE
      clear hPS
      obtain ⟨gP, cP, rfl, -, -⟩ := HR1.out.get (i := 0) (by omega)
      have HRC : Hid (∀ W, RL W w.heap.size (.slice (some ⟨gP, 0, none⟩) PS.length cP) vs PS → ∀ j, j < PS.length → W.cell? ⟨gP, j, none⟩ = some (vs.getD j undef) ∧ IS W (vs.getD j undef) (PS.getD j [])) := hid fun W hR j hj => by
        obtain ⟨g, c, e, h1, h2⟩ := hR.get hj
        simp only [Value.slice.injEq, Option.some.injEq, Addr.mk.injEq, and_true, true_and] at e
        obtain ⟨rfl, rfl⟩ := e
        exact ⟨h1, h2⟩
      have HRS : Hid (∀ k, k < nb → rowsD ((coverL bag PS).take (k + 1)) = rowsD ((coverL bag PS).take k) ++ [⟨plN (fun i => decide (bag.getD k 0 ∈ PS.getD i [])) PS.length, false, 1⟩]) := hid fun k hk => rowsD_succ (by rw [← HNB.out]; exact hk)
      have HRN : Hid (rowsD ((coverL bag PS).take nb) = rowsD (coverL bag PS)) := hid (by rw [HNB.out, ← coverL_len bag PS, List.take_length])
      have HCD : Hid (rowsD (coverL bag PS) ++ unitsD PS.length = coverD bag PS) := hid rfl
      have HOKD : Hid (∀ D ∈ coverD bag PS, DemOk PS.length D) := hid (coverD_ok hP7)
      have HSTAR : Hid (Star PS.length false (coverD bag PS) y) := hid (star_cover HY.out)
      have HRDL : Hid (∀ k, k ≤ nb → (rowsD ((coverL bag PS).take k)).length = k) := hid fun k hk => by
        simp only [rowsD, List.length_map, List.length_take, coverL_len]
        rw [← HNB.out]; omega
      obtain ⟨nP, hnP⟩ : ∃ n, n = PS.length := ⟨_, rfl⟩
      have HNP := hid hnP
      rw [← hnP] at HRC hP1 hP7 HPLE HRS HCD HOKD HSTAR HSUM HPY HR1 ⊢
      clear hnP HY
      have HX3 : Hid (Below w.heap.size w W1 ∧ ZR W1 w.heap.size ∧ DL W1 w.heap.size (.slice (some ⟨W0.heap.size, 0, none⟩) 0 0) [] ∧ RL W1 w.heap.size (.slice (some ⟨gP, 0, none⟩) nP cP) vs PS ∧ ([] : List (Value × Dem)).map Prod.snd = rowsD ((coverL bag PS).take 0) ∧ ([] : List (Value × Dem)).length = 0) := hid ⟨HB1.out, HZ1.out, HD1.out, HR1.out, rfl, rfl⟩
      clear HB1 HZ1 HD1 HR1
      go_wp2_with fail
      go_loopw [5, 74] (fun v t wr => ∃ (k : Nat) (vc : Value) (ps : List (Value × Dem)), k ≤ nb ∧ t = .int .i64 k ∧ vc = v ∧ Hid (Below w.heap.size w wr ∧ ZR wr w.heap.size ∧ DL wr w.heap.size vc ps ∧ RL wr w.heap.size (.slice (some ⟨gP, 0, none⟩) nP cP) vs PS ∧ ps.map Prod.snd = rowsD ((coverL bag PS).take k) ∧ ps.length = k)) (fun _ t _ => nb - (intOf t).toNat)
      case atStart => exact ⟨0, _, [], Nat.zero_le _, rfl, rfl, HX3⟩
      case round =>
        clear HX3
        obtain ⟨k, vc, ps, hk3, rfl, rfl, hH⟩ := hrel
        generalize wr = W2 at *
        have HB2 := hid hH.out.1
        have HZ2 := hid hH.out.2.1
        have HD2 := hid hH.out.2.2.1
        have HR2 := hid hH.out.2.2.2.1
        have HP2 := hid hH.out.2.2.2.2.1
        have HPL := hid hH.out.2.2.2.2.2
        clear hH
        by_cases hkb : k < nb
        · have i2 : (k : Int) < (nb : Int) := by omega
          obtain ⟨b, o, rfl, e1⟩ := HCB.out k hkb
          have c1 := bclp HB2.out e1
          have HRSk := hid (HRS.out k hkb)
          obtain ⟨p, hp⟩ : ∃ p : Nat → Bool, p = fun i => decide (bag.getD k 0 ∈ PS.getD i []) := ⟨_, rfl⟩
          rw [← hp] at HRSk
          have HPP := hid hp
          obtain ⟨z, hz⟩ : ∃ z, z = bag.getD k 0 := ⟨_, rfl⟩
          rw [← hz] at c1 HPP
          clear hp e1 hz
          go_upto_region 22 with fail
          have hAT := AT.new W2 (.slice none 0 0) false
          have hB3 : Below W2.heap.size W2 (W2.alloc (.cells #[.slice none 0 0, .bool false, .int .i64 1] 71)) := (Below.refl _ _).alloc (Nat.le_refl _) _
          have HX : Hid (Below W2.heap.size W2 (W2.alloc (.cells #[.slice none 0 0, .bool false, .int .i64 1] 71)) ∧ ∃ vat, AT (W2.alloc (.cells #[.slice none 0 0, .bool false, .int .i64 1] 71)) W2.heap.size vat false ∧ (W2.alloc (.cells #[.slice none 0 0, .bool false, .int .i64 1] 71)).ownsRow W2.heap.size 3 1 vat (plc p 0).length ((plc p 0).map (Value.int .i64))) := hid ⟨hB3, _, hAT, World.ownsRow_nil _ _ _ _⟩
          clear hAT hB3 c1
          generalize W2.alloc (.cells #[.slice none 0 0, .bool false, .int .i64 1] 71) = W3 at *
          go_wp2
          go_loopw [81] (fun t wr => ∃ j : Nat, j ≤ nP ∧ t = .int .i64 j ∧ Hid (Below W2.heap.size W2 wr ∧ ∃ vat, AT wr W2.heap.size vat false ∧ wr.ownsRow W2.heap.size 3 1 vat (plc p j).length ((plc p j).map (Value.int .i64)))) (fun t _ => nP - (intOf t).toNat)
          case atStart => exact ⟨0, Nat.zero_le _, rfl, HX⟩
          case round =>
            obtain ⟨j, hjm, rfl, hH⟩ := hrel
            clear HX
            obtain ⟨hB4, vat, hAT, hown⟩ := hH.out
            have HB4 := hid hB4
            have HAT := hid hAT
            have HOWN := hid hown
            have hple := plc_le p j
            have hns := hB4.size
            have t0 := hAT.arr.cell 0 (by omega)
            have t1 := hAT.arr.cell 1 (by omega)
            have t2 := hAT.arr.cell 2 (by omega)
            have f0 := hAT.arr.free 0 (by omega)
            simp only [f3] at t0 t1 t2
            clear hH hB4 hAT hown
            by_cases hjn : j < nP
            · have i3 : (j : Int) < (nP : Int) := by omega
              obtain ⟨c2, hu⟩ := HRC.out wr (HR2.out.below HB4.out) j hjn
              have KH : Hid (Calls Try.prog 37 #[vs.getD j undef, .int .i64 z] wr fun e w' => e = .returned (.bool (decide (z ∈ PS.getD j []))) ∧ w' = wr) := hid (l1Has_calls wr _ _ z hu (HPLE.out j hjn))
              have hpj : p j = decide (z ∈ PS.getD j []) := by rw [HPP.out]
              rw [← hpj] at KH
              obtain ⟨a7, c7, e7, -⟩ := hu
              rw [e7] at c2 KH
              clear hpj e7
              generalize (PS.getD j []).length = lj at *
              by_cases hpt : p j = true
              · have e1 := hid (plc_hit p j hpt)
                rw [hpt] at KH
                have hown := HOWN.out
                go_wp2_with (first
                  | (go_at_call 37; refine KH.out.mono ?_; rintro e w' ⟨rfl, hw'⟩; subst w')
                  | (at_builtin; refine wpList_append_own _ rfl _ _ 23 rfl W2.heap.size 3 i0 (.int .i64 0) 1 8 Try.underlying23 hi hz0 hz1 hz2 rfl (by decide) _ _ _ rfl (hown.alloc _) ⟨wr.heap.size, 0, none⟩ 1 1 [.int .i64 j] rfl rfl ?kb1 ?kb2 ?kb3 ?kb4 ?kb5 ?_))
                case kb1 => exact new1_cell _ _ _
                case kb2 => intro u hu; simp at hu; subst hu; rfl
                case kb3 => unfold maxLen; omega
                case kb4 => omega
                case kb5 => exact Nat.le_trans hns (by simp)
                intro v' w1 hown' hgrow _
                obtain ⟨a6, c6, e6⟩ := ownSl hown'
                obtain ⟨⟨q0, q1⟩, hAT', hown2⟩ := HAT.out.grow hown hown' hgrow
                have hbl := own_grow2 hns hown HB4.out hgrow
                have HF : Hid (Below W2.heap.size W2 (w1.setCell ⟨W2.heap.size, 0, none⟩ v') ∧ ∃ vat, AT (w1.setCell ⟨W2.heap.size, 0, none⟩ v') W2.heap.size vat false ∧ (w1.setCell ⟨W2.heap.size, 0, none⟩ v').ownsRow W2.heap.size 3 1 vat (plc p (j + 1)).length ((plc p (j + 1)).map (Value.int .i64))) := hid ⟨hbl.setCell (Nat.le_refl _) _, v', hAT', by rw [e1.out]; simpa using hown2⟩
                clear hown' hgrow hown hAT' hown2 hbl t0 t1 t2 f0
                subst e6
                go_wp2
                go_roundw
                case rel => exact ⟨j + 1, by omega, by go_num, HF⟩
                case measure => simp [intOf]; omega
              · have hpf : p j = false := by simpa using hpt
                have e1 := hid (plc_miss p j hpf)
                rw [hpf] at KH
                go_wp2_with (first | (go_at_call 37; refine KH.out.mono ?_; rintro e w' ⟨rfl, hw'⟩; subst w'))
                go_roundw
                case rel => exact ⟨j + 1, by omega, by go_num, hid ⟨HB4.out, vat, HAT.out, by rw [e1.out]; exact HOWN.out⟩⟩
                case measure => simp [intOf]; omega
            · obtain rfl : nP = j := by omega
              have i3 : ¬ ((nP : Int) < (nP : Int)) := by omega
              obtain ⟨a5, c5, e5, -⟩ := own_is HOWN.out
              subst e5
              have HLP := hid (plc_len p nP)
              have HWr := hid (bt HB2.out HB4.out)
              generalize hlp : (plc p nP).length = lp at *
              have hDL := HD2.out.below HB4.out
              have hlen := HPL.out
              have hown := hDL.own
              rw [hlen] at hown
              have hrs := HWr.out.size
              go_wp2_with (first
                | (at_builtin; refine wpList_append_own _ rfl _ _ 69 rfl w.heap.size 71 iD (.agg #[.slice none 0 0, .bool false, .int .i64 0]) 3 40 Try.underlying69 hj hy0 hy1 hy2 rfl (by decide) _ _ _ rfl (hown.alloc _) ⟨wr.heap.size, 0, none⟩ 1 1 [.slice a5 lp c5, .bool false, .int .i64 1] rfl rfl ?kc1 ?kc2 ?kc3 ?kc4 ?kc5 ?_) | fail)
              case kc2 => first | rfl | exact ⟨rfl, rfl, rfl⟩ | (intro u hu; simp at hu; rcases hu with rfl | rfl | rfl <;> rfl)
              case kc3 => unfold maxLen; omega
              case kc4 => omega
              case kc5 => exact Nat.le_trans hrs (by simp)
              intro v' w3 hown' hgrow _
              have hst := hDL.step (p := (.slice a5 lp c5, ⟨plN p nP, false, 1⟩)) (by
                have := own_base HOWN.out HB2.out.size
                show wr.ownsRow w.heap.size 3 1 (.slice a5 lp c5) (plN p nP).length (ivals (plN p nP))
                rw [← HLP.out, ← plc_ivals]
                exact this) (by rw [hlen]; exact hown') hgrow
              have hbl := own_grow2 hrs hown HWr.out hgrow
              have HF : Hid (Below w.heap.size w w3 ∧ ZR w3 w.heap.size ∧ DL w3 w.heap.size v' (ps ++ [(.slice a5 lp c5, ⟨plN p nP, false, 1⟩)]) ∧ RL w3 w.heap.size (.slice (some ⟨gP, 0, none⟩) nP cP) vs PS ∧ (ps ++ [((.slice a5 lp c5 : Value), (⟨plN p nP, false, 1⟩ : Dem))]).map Prod.snd = rowsD ((coverL bag PS).take (k + 1)) ∧ (ps ++ [((.slice a5 lp c5 : Value), (⟨plN p nP, false, 1⟩ : Dem))]).length = k + 1) :=
                hid ⟨hbl, (HZ2.out.below HB4.out).grow hown hgrow, hst, (HR2.out.below HB4.out).other hown hgrow, by rw [List.map_append, HP2.out, HRSk.out]; rfl, by rw [List.length_append, hlen]; rfl⟩
              clear hst hbl hown' hgrow hown hDL t0 t1 t2 f0
              go_wp2
              go_roundw
              case rel => exact ⟨k + 1, v', _, by omega, by go_num, rfl, HF⟩
              case measure => simp [intOf]; omega
        · obtain rfl : nb = k := by omega
          have i2 : ¬ ((nb : Int) < (nb : Int)) := by omega
          have HX5 : Hid (Below w.heap.size w W2 ∧ ZR W2 w.heap.size ∧ DL W2 w.heap.size vc ps ∧ ps.map Prod.snd = rowsD (coverL bag PS) ++ unitsD 0) := hid ⟨HB2.out, HZ2.out, HD2.out, by rw [HP2.out, HRN.out]; simp [unitsD]⟩
          clear HB2 HZ2 HD2 HR2 HP2 HPL HRS HRC
          go_wp2_with fail
          go_loopw [5, 103] (fun v t wr => ∃ (k : Nat) (vc : Value) (ps : List (Value × Dem)), k ≤ nP ∧ t = .int .i64 k ∧ vc = v ∧ Hid (Below w.heap.size w wr ∧ ZR wr w.heap.size ∧ DL wr w.heap.size vc ps ∧ ps.map Prod.snd = rowsD (coverL bag PS) ++ unitsD k)) (fun _ t _ => nP - (intOf t).toNat)
          case atStart => exact ⟨0, _, ps, Nat.zero_le _, rfl, rfl, HX5⟩
          case round =>
            clear HX5
            obtain ⟨k, vc, ps, hk5, rfl, rfl, hH⟩ := hrel
            generalize wr = W4 at *
            have HB4 := hid hH.out.1
            have HZ4 := hid hH.out.2.1
            have HD4 := hid hH.out.2.2.1
            have HP4 := hid hH.out.2.2.2
            have HLP : Hid (ps.length = nb + k) := hid (by
              have := congrArg List.length hH.out.2.2.2
              rw [List.length_map, List.length_append, ← HRN.out, HRDL.out nb (Nat.le_refl _)] at this
              rw [this]
              simp [unitsD])
            clear hH
            by_cases hkm : k < nP
            · have i3 : (k : Int) < (nP : Int) := by omega
              have hown := HD4.out.own
              have hlen := HLP.out
              rw [hlen] at hown
              have hrs := HB4.out.size
              go_wp2_with (first
                | (at_builtin; refine wpList_append_own _ rfl _ _ 69 rfl w.heap.size 71 iD (.agg #[.slice none 0 0, .bool false, .int .i64 0]) 3 40 Try.underlying69 hj hy0 hy1 hy2 rfl (by decide) _ _ _ rfl ((hown.alloc _).alloc _) ⟨W4.heap.size + 1, 0, none⟩ 1 1 [.slice (some ⟨W4.heap.size, 0, none⟩) 1 1, .bool false, .int .i64 0] rfl rfl ?kd1 ?kd2 ?kd3 ?kd4 ?kd5 ?_) | fail)
              case kd1 => exact newUnit _ _ _ _
              case kd2 => first | rfl | exact ⟨rfl, rfl, rfl⟩ | (intro u hu; simp at hu; rcases hu with rfl | rfl | rfl <;> rfl)
              case kd3 => unfold maxLen; omega
              case kd4 => omega
              case kd5 => exact Nat.le_trans hrs (by simp; omega)
              intro v' w1 hown1 hgrow1 _
              have hBa : Below W4.heap.size W4 (W4.alloc (.cells #[.int .i64 k] 3)) := (Below.refl _ _).alloc (Nat.le_refl _) _
              have hUn : (W4.alloc (.cells #[.int .i64 k] 3)).ownsRow w.heap.size 3 1 (.slice (some ⟨W4.heap.size, 0, none⟩) 1 1) 1 (ivals [k]) := World.ownsRow_lit W4 #[.int .i64 k] 1 hrs (by decide) rfl
              have HF : Hid (Below w.heap.size w w1 ∧ ZR w1 w.heap.size ∧ DL w1 w.heap.size v' (ps ++ [(.slice (some ⟨W4.heap.size, 0, none⟩) 1 1, ⟨[k], false, 0⟩)]) ∧ (ps ++ [((.slice (some ⟨W4.heap.size, 0, none⟩) 1 1 : Value), (⟨[k], false, 0⟩ : Dem))]).map Prod.snd = rowsD (coverL bag PS) ++ unitsD (k + 1)) :=
                hid ⟨own_grow2 (Nat.le_trans hrs hBa.size) (own_below HD4.out.own hBa) (bt HB4.out hBa) hgrow1, (HZ4.out.below hBa).grow (own_below HD4.out.own hBa) hgrow1, (HD4.out.below hBa).step (p := (.slice (some ⟨W4.heap.size, 0, none⟩) 1 1, ⟨[k], false, 0⟩)) hUn (by rw [hlen]; exact hown1) hgrow1, by rw [List.map_append, HP4.out, unitsD_succ, List.append_assoc]; rfl⟩
              clear hown1 hgrow1 hBa hUn hown
              go_wp2
              go_roundw
              case rel => exact ⟨k + 1, v', _, by omega, by go_num, rfl, HF⟩
              case measure => simp [intOf]; omega
            · obtain rfl : nP = k := by omega
              have i3 : ¬ ((nP : Int) < (nP : Int)) := by omega
              rw [HCD.out] at HP4
              have KC := hid (corner_best nP false ps y hP1 hP7 (by rw [HLP.out]; omega) (by rw [HP4.out]; exact HOKD.out) (by rw [HP4.out]; exact HSTAR.out) vc W4 HD4.out.dp)
              go_wp2_with fail
              refine KC.out.mono ?_
              rintro e w5 ⟨v5, rfl, hir, hb5⟩
              have KS := hid (ssum_best w5 v5 nP y hP7 hir HPY.out)
              rw [HSUM.out] at KS
              obtain ⟨a5, c5, e5, -⟩ := hir
              subst e5
              have HB5 := hid hb5
              clear hb5 KC
              go_wp2_with fail
              refine KS.out.mono ?_
              rintro e w6 ⟨rfl, hb6'⟩
              have hb46 := bt HB5.out hb6'
              have hT := (HZ4.out.below hb46).two
              have e1 := hT.1
              have e2 := hT.2.1
              have e3 := hT.2.2.1
              have e4 := hT.2.2.2
              generalize hq1 : (wdR es bag).num = qn at *
              generalize hq2 : ((wdR es bag).den : Int) = qd at *
              have HQ1 := hid hq1
              have HQ2 := hid hq2
              clear hq1 hq2
              have HQ := hid (And.intro (bt HB4.out hb46) (hT.set qn qd))
              clear hb6' hb46 hT
              go_wp2
              have r1 := HQ.out.2.1
              have r2 := HQ.out.2.2.1
              refine bodyPost_ret (v := .agg #[.int .i64 qn, .int .i64 qd]) (by simp [results, Try.results94, go_sem, r1, r2]) rfl ⟨by rw [HQ1.out, HQ2.out], (HQ.out.1.setCell (Nat.le_refl _) _).setCell (Nat.le_refl _) _⟩

end Go.Proofs.Ytnmcgbfhgmmcpaa
