import Derived.Test.YtcdfoephhjacdaaGreatDoorR44
import Derived.Test.YtcdfoephhjacdaaGreatDoorR45
/-
  impl.ParseQuery.
-/
namespace Go.Proofs.YtcdfoephhjacdaaGreatDoor
open Go.RowKit

/-- package errors' own variable, as its text lays it -/
def ErrQ (w : World) : Prop := w.cell? ⟨1, 0, none⟩ = some (.iface 164 (.agg #[.pointer (some ⟨9, 74, none⟩)]))
theorem ErrQ.below {w w' : World} (h : ErrQ w) (hb : Below w.heap.size w w') : ErrQ w' := (hb.cell (p := ⟨1, 0, none⟩) (World.block_lt_of_cell? w _ h)).trans h
theorem gotCells {w w' : World} {B : Nat} {c p : Int} {u v : Value} (h : GotE w B c p w') (hb : w.heap[B]? = some (.cells #[u, v] 78 (0, 0))) : w'.heap[B]? = some (.cells #[.int .i64 c, .int .i64 p] 78 (0, 0)) ∧ Ex B w w' := by
  obtain ⟨w1, hb1, rfl⟩ := h
  have hlt : B < w.heap.size := World.block_lt_of_cell? w ⟨B, 0, none⟩ (cell_of_row _ _ _ _ _ _ hb)
  have h0 := (hb1.block B hlt).trans hb
  have h1 : (w1.setCell ⟨B, 0, none⟩ (.int .i64 c)).heap[B]? = some (.cells #[.int .i64 c, v] 78 (0, 0)) := by rw [heap_setCell_same _ _ _ _ _ _ h0]; rfl
  exact ⟨by rw [heap_setCell_same _ _ _ _ _ _ h1]; rfl, ((Ex.bel hb1).set).set⟩

set_option maxHeartbeats 8000000 in
set_option maxRecDepth 1000000 in
theorem iParseQ_calls (w : World) (s : ByteArray) (hs : s.size ≤ 1048576) (hsy : SyV w) (hrg : RgV w) (her : ErrQ w) : Calls Tryz.prog 8 #[.string s] w (PqE w s) := by
  obtain ⟨W1, hW1⟩ : ∃ W, W = w.alloc (.cells #[.string ⟨#[]⟩, .slice none 0 0, .int .i64 0, .slice none 0 0] 29) := ⟨_, rfl⟩
  have hB1 : Below w.heap.size w W1 := by rw [hW1]; exact (Below.refl _ _).alloc (Nat.le_refl _) _
  have hR0 : W1.heap[w.heap.size]? = some (.cells #[.string ⟨#[]⟩, .slice none 0 0, .int .i64 0, .slice none 0 0] 29 (0, 0)) := by rw [hW1]; exact heap_alloc_new _ _
  have hs1 : W1.heap.size = w.heap.size + 1 := by rw [hW1]; simp
  have HSet : Hid (∀ (W : World) a' b' c' d', W.heap[w.heap.size]? = some (.cells #[.string ⟨#[]⟩, .slice none 0 0, .int .i64 0, .slice none 0 0] 29 (0, 0)) → Below w.heap.size w W → ∃ WF, WF = (((W.setCell ⟨w.heap.size, 0, none⟩ a').setCell ⟨w.heap.size, 1, none⟩ b').setCell ⟨w.heap.size, 2, none⟩ c').setCell ⟨w.heap.size, 3, none⟩ d' ∧ (WF.cell? ⟨w.heap.size, 0, none⟩ = some a' ∧ WF.cell? ⟨w.heap.size, 1, none⟩ = some b' ∧ WF.cell? ⟨w.heap.size, 2, none⟩ = some c' ∧ WF.cell? ⟨w.heap.size, 3, none⟩ = some d') ∧ Below w.heap.size w WF ∧ (∀ {x y hd us}, QyR w.heap.size W x hd y us → QyR w.heap.size WF x hd y us) ∧ W.cell? ⟨w.heap.size, 0, none⟩ = some (.string ⟨#[]⟩) ∧ W.cell? ⟨w.heap.size, 1, none⟩ = some (.slice none 0 0) ∧ W.cell? ⟨w.heap.size, 2, none⟩ = some (.int .i64 0) ∧ W.cell? ⟨w.heap.size, 3, none⟩ = some (.slice none 0 0) ∧ W.frozen? ⟨w.heap.size, 0, none⟩ = false ∧ W.frozen? ⟨w.heap.size, 1, none⟩ = false ∧ W.frozen? ⟨w.heap.size, 2, none⟩ = false ∧ W.frozen? ⟨w.heap.size, 3, none⟩ = false) := hid fun W a' b' c' d' hW hb => by
    have h4 := q4_set (a' := a') (b' := b') (c' := c') (d' := d') hW
    have fr : ∀ q, W.frozen? ⟨w.heap.size, q, none⟩ = false := fun q => by unfold World.frozen?; rw [hW]; simp
    exact ⟨_, rfl, ⟨cell_of_row _ _ _ _ _ _ h4.1, cell_of_row _ _ _ _ _ _ h4.1, cell_of_row _ _ _ _ _ _ h4.1, cell_of_row _ _ _ _ _ _ h4.1⟩, (((hb.setCell (Nat.le_refl _) _).setCell (Nat.le_refl _) _).setCell (Nat.le_refl _) _).setCell (Nat.le_refl _) _, h4.2, cell_of_row _ _ _ _ _ _ hW, cell_of_row _ _ _ _ _ _ hW, cell_of_row _ _ _ _ _ _ hW, cell_of_row _ _ _ _ _ _ hW, fr 0, fr 1, fr 2, fr 3⟩
  have KR := hid (readQuery_calls W1 s hs (hsy.below hB1) (hrg.below hB1))
  have HNo : Hid (∀ w' c o, pqA s = (none, c, o) → Below w.heap.size w w' → PqE w s (.returned (.tuple #[.agg #[.string ⟨#[]⟩, .slice none 0 0, .int .i64 0, .slice none 0 0], .int .i64 c, .int .i64 (o : Int)])) w') := hid fun w' c o h1 h2 => PqE.no h1 h2
  have HYes : Hid (∀ w' nm x y hd r us, pqA s = (some ⟨nm, hd, r, us.map uAt⟩, 0, 0) → QyR w.heap.size w' x hd y us → Below w.heap.size w w' → PqE w s (.returned (.tuple #[.agg #[.string nm, x, .int .i64 r, y], .int .i64 0, .int .i64 0])) w') := hid fun w' nm x y hd r us h1 h4 h5 => PqE.yes h1 h4 h5
  generalize PqE w s = E at *
  have HER := hid (her.below hB1)
  have HB1 := hid hB1
  have HR0 := hid hR0
  clear hsy hrg her hB1 hR0
  go_enter Tryz.func8, Tryz.ntmps8
  go_upto_region 1 with fail
  rw [← hW1]
  clear hW1
  go_wp2_with fail
  refine KR.out.mono ?_
  rintro e w2 (⟨nm, x, hd, r, y, us, hpa, rfl, hqr, hb2⟩ | ⟨c, z, er, hpa, her, rfl, hb2⟩)
  · obtain ⟨ax, cx, ex⟩ := own_shapeT2 hqr.own1
    obtain ⟨ay, cy, ey⟩ := own_shapeT2 hqr.own2
    obtain ⟨nx', hnx'⟩ : ∃ n, n = hd.length := ⟨_, rfl⟩
    obtain ⟨ny', hny'⟩ : ∃ n, n = us.length := ⟨_, rfl⟩
    rw [← hnx'] at ex
    rw [← hny'] at ey
    subst ex ey
    clear hnx' hny'
    obtain ⟨W3, hW3⟩ : ∃ W, W = w2.alloc (.cells #[.string nm, .slice ax nx' cx, .int .i64 r, .slice ay ny' cy] 29) := ⟨_, rfl⟩
    have hb23 : Below w2.heap.size w2 W3 := by rw [hW3]; exact (Below.refl _ _).alloc (Nat.le_refl _) _
    have hbl3 : W3.heap[w2.heap.size]? = some (.cells #[.string nm, .slice ax nx' cx, .int .i64 r, .slice ay ny' cy] 29 (0, 0)) := by rw [hW3]; exact heap_alloc_new _ _
    have hs3 : w2.heap.size < W3.heap.size := by rw [hW3]; simp
    obtain ⟨W4, hW4⟩ : ∃ W, W = W3.alloc (.cells #[.int .i64 0, .int .i64 0] 78) := ⟨_, rfl⟩
    have hb34 : Below W3.heap.size W3 W4 := by rw [hW4]; exact (Below.refl _ _).alloc (Nat.le_refl _) _
    have hb24 : Below w2.heap.size w2 W4 := bt hb23 hb34
    have hs2 : w.heap.size < w2.heap.size := by have := hb2.size; omega
    have hb4 : Below w.heap.size w W4 := HB1.out.trans ((hb2.mono (by omega)).trans (hb24.mono (by omega)))
    have hR4 := (hb24.block w.heap.size hs2).trans ((hb2.block w.heap.size (by omega)).trans HR0.out)
    have hbl := (hb34.block w2.heap.size hs3).trans hbl3
    have hq4 : QyR w.heap.size W4 (.slice ax nx' cx) hd (.slice ay ny' cy) us := ⟨own_below (own_base hqr.own1 (by omega)) hb24, own_below (own_base hqr.own2 (by omega)) hb24, fun u hu => own_below (own_base (hqr.tms u hu) (by omega)) hb24, hqr.ap⟩
    obtain ⟨WF, hWF, hqq, hbF, hqF, r0, r1, r2, r3, f0, f1, f2, f3⟩ := HSet.out W4 (.string nm) (.slice ax nx' cx) (.int .i64 r) (.slice ay ny' cy) hR4 hb4
    have HE := hid (HYes.out WF nm _ _ hd r us hpa (hqF hq4) hbF)
    have HQ := hid hqq
    have HWF := hid hWF
    have l0 : W4.cell? ⟨w2.heap.size, 0, none⟩ = some (.string nm) := cell_of_row _ _ _ _ _ _ hbl
    have l1 : W4.cell? ⟨w2.heap.size, 1, none⟩ = some (.slice ax nx' cx) := cell_of_row _ _ _ _ _ _ hbl
    have l2 : W4.cell? ⟨w2.heap.size, 2, none⟩ = some (.int .i64 r) := cell_of_row _ _ _ _ _ _ hbl
    have l3 : W4.cell? ⟨w2.heap.size, 3, none⟩ = some (.slice ay ny' cy) := cell_of_row _ _ _ _ _ _ hbl
    have KN := hid (as_nil (.iface 80 (.pointer (some ⟨W3.heap.size, 0, none⟩))) W4)
    go_upto_region 2 with fail
    rw [← hW3]
    clear hW3
    go_upto_region 3 with fail
    rw [← hW4]
    clear hW4 hb23 hbl3 hb34 hb24 hb4 hR4 hbl hq4 hWF hqq hbF hqF HNo HYes HSet HR0 HB1 hpa hqr hb2 KR HER
    generalize w2.heap.size = L at *
    generalize W3.heap.size = F at *
    go_upto_region 4 with (first | (go_at_call 28; refine KN.out.mono ?_; rintro e w' ⟨rfl, hw'⟩; subst w') | fail)
    go_cut [3, 4] from 5 (fun x y wx => x = .int .i64 0 ∧ y = .int .i64 0 ∧ Hid (wx = WF))
    case first =>
      go_wp2_with fail
      go_meet
      exact ⟨rfl, rfl, hid HWF.out.symm⟩
    case rest =>
      obtain ⟨rfl, rfl, hw⟩ := hcut
      have hw := hw.out
      subst wc
      obtain ⟨q0, q1, q2, q3⟩ := HQ.out
      clear r0 r1 r2 r3 f0 f1 f2 f3
      rename_i KK1 hKK1
      refine hKK1 _ _ ?_
      refine wp_ret ?_
      refine bodyPost_ret (v := .tuple #[.agg #[.string nm, .slice ax nx' cx, .int .i64 r, .slice ay ny' cy], .int .i64 0, .int .i64 0]) (by simp [results, Tryz.results8, go_sem, q0, q1, q2, q3]) rfl ?_
      exact HE.out
  · obtain ⟨W3, hW3⟩ : ∃ W, W = w2.alloc (.cells #[.string ⟨#[]⟩, .slice none 0 0, .int .i64 0, .slice none 0 0] 29) := ⟨_, rfl⟩
    have hb23 : Below w2.heap.size w2 W3 := by rw [hW3]; exact (Below.refl _ _).alloc (Nat.le_refl _) _
    have hs3 : w2.heap.size < W3.heap.size := by rw [hW3]; simp
    obtain ⟨W4, hW4⟩ : ∃ W, W = W3.alloc (.cells #[.int .i64 0, .int .i64 0] 78) := ⟨_, rfl⟩
    have hb34 : Below W3.heap.size W3 W4 := by rw [hW4]; exact (Below.refl _ _).alloc (Nat.le_refl _) _
    have hbf : W4.heap[W3.heap.size]? = some (.cells #[.int .i64 0, .int .i64 0] 78 (0, 0)) := by rw [hW4]; exact heap_alloc_new _ _
    have hs4 : W3.heap.size < W4.heap.size := by rw [hW4]; simp
    have hb24 : Below w2.heap.size w2 W4 := bt hb23 hb34
    have hs2 : w.heap.size < w2.heap.size := by have := hb2.size; omega
    have hb4 : Below w.heap.size w W4 := HB1.out.trans ((hb2.mono (by omega)).trans (hb24.mono (by omega)))
    have hR4 := (hb24.block w.heap.size hs2).trans ((hb2.block w.heap.size (by omega)).trans HR0.out)
    have hE4 : ErrQ W4 := (HER.out.below hb2).below hb24
    have g0 : W4.cell? ⟨W3.heap.size, 0, none⟩ = some (.int .i64 0) := cell_of_row _ _ _ _ _ _ hbf
    have g1 : W4.cell? ⟨W3.heap.size, 1, none⟩ = some (.int .i64 0) := cell_of_row _ _ _ _ _ _ hbf
    have gf : ∀ q, W4.frozen? ⟨W3.heap.size, q, none⟩ = false := fun q => by unfold World.frozen?; rw [hbf]; simp
    have KA : Hid (Calls Tryz.prog 28 #[er, .iface 80 (.pointer (some ⟨W3.heap.size, 0, none⟩))] W4 fun ev w' => ev = .returned (.bool true) ∧ w'.heap[W3.heap.size]? = some (.cells #[.int .i64 c, .int .i64 z] 78 (0, 0)) ∧ Ex W3.heap.size W4 w') := hid (by
      rcases her with rfl | ⟨part, rfl⟩
      · exact (as_fault c z W3.heap.size _ _ W4 hE4 g0 g1 (gf 0) (gf 1)).mono fun e w' ⟨h1, h2⟩ => ⟨h1, gotCells h2 hbf⟩
      · exact (as_within part c z W3.heap.size _ _ W4 hE4 g0 g1 (gf 0) (gf 1)).mono fun e w' ⟨h1, h2⟩ => ⟨h1, gotCells h2 hbf⟩)
    have KI : Hid (∀ W, Calls Tryz.prog 29 #[er, .iface 78 (.agg #[.int .i64 3, .int .i64 (-1)])] W fun ev w' => ev = .returned (.bool (decide (c = 3 ∧ z = -1))) ∧ Below W.heap.size W w') := hid fun W => by
      rcases her with rfl | ⟨part, rfl⟩
      · exact is_fault c z W
      · exact is_within part c z W
    have hsh : ∃ t v, er = .iface t v := by
      rcases her with rfl | ⟨part, rfl⟩
      · exact ⟨_, _, rfl⟩
      · exact ⟨_, _, rfl⟩
    obtain ⟨et, ev, rfl⟩ := hsh
    have HK : Hid (∀ w5, w5.heap[W3.heap.size]? = some (.cells #[.int .i64 c, .int .i64 z] 78 (0, 0)) → Ex W3.heap.size W4 w5 → ∀ w6, Below w5.heap.size w5 w6 → w6.heap[w.heap.size]? = some (.cells #[.string ⟨#[]⟩, .slice none 0 0, .int .i64 0, .slice none 0 0] 29 (0, 0)) ∧ Below w.heap.size w w6 ∧ w6.heap[W3.heap.size]? = some (.cells #[.int .i64 c, .int .i64 z] 78 (0, 0))) := hid fun w5 h1 h2 w6 h3 => by
      have hz5 := h2.size
      refine ⟨(h3.block w.heap.size (by omega)).trans ((h2.block w.heap.size (by omega) (by omega)).trans hR4), ?_, (h3.block W3.heap.size (by omega)).trans h1⟩
      exact hb4.trans ((⟨h2.os, h2.tape, h2.output, h2.size, fun b hb => h2.block b (by omega) (by omega)⟩ : Below w.heap.size W4 w5).trans (h3.mono (by omega)))
    go_upto_region 2 with fail
    rw [← hW3]
    clear hW3
    go_upto_region 3 with fail
    rw [← hW4]
    clear hW4 hb23 hb34 hb24 hb4 hR4 HYes HR0 HB1 hb2 KR HER hbf g0 g1 gf hE4
    generalize w2.heap.size = L at *
    generalize W3.heap.size = F at *
    obtain ⟨bb, hbb⟩ : ∃ b, b = decide (c = 3 ∧ z = -1) := ⟨_, rfl⟩
    rw [← hbb] at KI
    have HBB := hid hbb
    clear hbb
    go_upto_region 5 with (first | (go_at_call 28; refine KA.out.mono ?_; rintro e w5 ⟨rfl, hf5, hx5⟩) | fail)
    have HK5 := hid (HK.out w5 hf5 hx5)
    clear HK hf5 hx5 KA
    have K5 := hid (KI.out w5)
    clear KI
    cases bb with
    | true =>
      have hcz := decide_eq_true_iff.1 HBB.out.symm
      have HPA : Hid (pqA s = (none, 3, s.size)) := hid (by
        rcases hpa with ⟨h1, h2⟩ | ⟨-, -, h3⟩
        · omega
        · exact h3)
      go_upto_region 6 with (first | (go_at_call 29; refine K5.out.mono ?_; rintro e w6 ⟨rfl, hb6⟩) | fail)
      obtain ⟨hR6, hB6, -⟩ := HK5.out w6 hb6
      obtain ⟨WF, hWF, hqq, hbF, -, r0, r1, r2, r3, f0, f1, f2, f3⟩ := HSet.out w6 (.string ⟨#[]⟩) (.slice none 0 0) (.int .i64 0) (.slice none 0 0) hR6 hB6
      have HE := hid (HNo.out WF 3 _ HPA.out hbF)
      have HQ := hid hqq
      have HWF := hid hWF
      clear HNo HSet HK5 K5 hb6 hR6 hB6 hWF hqq hbF HPA HBB hpa hcz her
      go_cut [3, 4] from 5 (fun x y wx => x = .int .i64 3 ∧ y = .int .i64 (s.size : Int) ∧ Hid (wx = WF))
      case first =>
        go_wp2_with fail
        go_meet
        exact ⟨rfl, rfl, hid HWF.out.symm⟩
      case rest =>
        obtain ⟨rfl, rfl, hw⟩ := hcut
        have hw := hw.out
        subst wc
        obtain ⟨q0, q1, q2, q3⟩ := HQ.out
        clear r0 r1 r2 r3 f0 f1 f2 f3
        rename_i KK1 hKK1
        refine hKK1 _ _ ?_
        refine wp_ret ?_
        refine bodyPost_ret (v := .tuple #[.agg #[.string ⟨#[]⟩, .slice none 0 0, .int .i64 0, .slice none 0 0], .int .i64 3, .int .i64 (s.size : Int)]) (by simp [results, Tryz.results8, go_sem, q0, q1, q2, q3]) rfl ?_
        exact HE.out
    | false =>
      have hcz := decide_eq_false_iff_not.1 HBB.out.symm
      have HPA : Hid (pqA s = (none, c, z.toNat) ∧ 0 ≤ z) := hid (by
        rcases hpa with h1 | ⟨h1, h2, -⟩
        · exact h1
        · exact absurd ⟨h1, h2⟩ hcz)
      have hzz : ((z.toNat : Nat) : Int) = z := Int.toNat_of_nonneg HPA.out.2
      go_upto_region 7 with (first | (go_at_call 29; refine K5.out.mono ?_; rintro e w6 ⟨rfl, hb6⟩) | fail)
      obtain ⟨hR6, hB6, hF6⟩ := HK5.out w6 hb6
      obtain ⟨WF, hWF, hqq, hbF, -, r0, r1, r2, r3, f0, f1, f2, f3⟩ := HSet.out w6.drew (.string ⟨#[]⟩) (.slice none 0 0) (.int .i64 0) (.slice none 0 0) hR6 (hB6.drew)
      have HE : Hid (E (.returned (.tuple #[.agg #[.string ⟨#[]⟩, .slice none 0 0, .int .i64 0, .slice none 0 0], .int .i64 c, .int .i64 z])) WF) := hid (by have := HNo.out WF c _ HPA.out.1 hbF; rw [hzz] at this; exact this)
      have HQ := hid hqq
      have HWF := hid hWF
      have t0 : w6.cell? ⟨F, 0, none⟩ = some (.int .i64 c) := cell_of_row _ _ _ _ _ _ hF6
      have t1 : w6.cell? ⟨F, 1, none⟩ = some (.int .i64 z) := cell_of_row _ _ _ _ _ _ hF6
      have r0' : w6.cell? ⟨w.heap.size, 0, none⟩ = some (.string ⟨#[]⟩) := r0
      have r1' : w6.cell? ⟨w.heap.size, 1, none⟩ = some (.slice none 0 0) := r1
      have r2' : w6.cell? ⟨w.heap.size, 2, none⟩ = some (.int .i64 0) := r2
      have r3' : w6.cell? ⟨w.heap.size, 3, none⟩ = some (.slice none 0 0) := r3
      have f0' : w6.frozen? ⟨w.heap.size, 0, none⟩ = false := f0
      have f1' : w6.frozen? ⟨w.heap.size, 1, none⟩ = false := f1
      have f2' : w6.frozen? ⟨w.heap.size, 2, none⟩ = false := f2
      have f3' : w6.frozen? ⟨w.heap.size, 3, none⟩ = false := f3
      clear HNo HSet HK5 K5 hb6 hR6 hB6 hF6 hWF hqq hbF HPA HBB hpa hcz her hzz
      go_cut [3, 4] from 5 (fun x y wx => x = .int .i64 c ∧ y = .int .i64 z ∧ Hid (wx = WF))
      case first =>
        go_region_law fail
        all_goals (go_wp2_with fail; go_meet)
        all_goals exact ⟨rfl, rfl, hid HWF.out.symm⟩
      case rest =>
        obtain ⟨rfl, rfl, hw⟩ := hcut
        have hw := hw.out
        subst wc
        obtain ⟨q0, q1, q2, q3⟩ := HQ.out
        clear r0 r1 r2 r3 f0 f1 f2 f3
        rename_i KK1 hKK1
        refine hKK1 _ _ ?_
        refine wp_ret ?_
        refine bodyPost_ret (v := .tuple #[.agg #[.string ⟨#[]⟩, .slice none 0 0, .int .i64 0, .slice none 0 0], .int .i64 c, .int .i64 z]) (by simp [results, Tryz.results8, go_sem, q0, q1, q2, q3]) rfl ?_
        exact HE.out

end Go.Proofs.YtcdfoephhjacdaaGreatDoor
