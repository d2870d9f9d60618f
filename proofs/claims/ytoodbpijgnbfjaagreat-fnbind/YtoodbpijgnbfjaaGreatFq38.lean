import Derived.Deep.CutBlock
import Derived.Deep.DeepCutAuto
import Derived.Deep.RegionHeld3
import Derived.Deep.RegionHeldLaw
import Derived.Laws.MakeOwn
import Derived.Test.YtoodbpijgnbfjaaGreatFq07
import Derived.Test.YtoodbpijgnbfjaaGreatFq37
namespace Go.Proofs.YtoodbpijgnbfjaaGreat
open Go.RowKit Meet

theorem new2_cellJ (w : World) (x y : Value) (t : TypeId) : ∀ j u, [x, y][j]? = some u → (w.alloc (.cells #[x, y] t)).cell? ((⟨w.heap.size, 0, none⟩ : Addr).add j) = some u := by
  intro j u hj
  match j, hj with
  | 0, hj => simp at hj; subst hj; simp [Addr.add]
  | 1, hj => simp at hj; subst hj; simp [Addr.add]
def curC (nd : Nat → Nat) (q : Nat → Nat) (k : Nat) : List Value := (List.range k).flatMap fun i => [.pointer (some ⟨nd i, 0, none⟩), .int .i64 (q i)]
theorem curC_succ (nd q : Nat → Nat) (k : Nat) : curC nd q (k + 1) = curC nd q k ++ [.pointer (some ⟨nd k, 0, none⟩), .int .i64 (q k)] := by
  unfold curC
  rw [List.range_succ, List.flatMap_append]
  simp
theorem curC_len (nd q : Nat → Nat) (k : Nat) : (curC nd q k).length = k * 2 := by
  induction k with
  | zero => rfl
  | succ k ih => rw [curC_succ, List.length_append, ih]; simp; omega
theorem curC_get (nd q : Nat → Nat) (k i : Nat) (hi : i < k) : (curC nd q k)[i * 2]? = some (.pointer (some ⟨nd i, 0, none⟩)) ∧ (curC nd q k)[i * 2 + 1]? = some (.int .i64 (q i)) := by
  induction k with
  | zero => omega
  | succ k ih =>
    rw [curC_succ]
    by_cases e : i < k
    · have := ih e
      rw [List.getElem?_append_left (by rw [curC_len]; omega), List.getElem?_append_left (by rw [curC_len]; omega)]
      exact this
    · obtain rfl : i = k := by omega
      rw [List.getElem?_append_right (by rw [curC_len]; omega), List.getElem?_append_right (by rw [curC_len]; omega), curC_len]
      refine ⟨?_, ?_⟩
      · rw [Nat.sub_self]; rfl
      · rw [show i * 2 + 1 - i * 2 = 1 by omega]; rfl

set_option maxHeartbeats 4000000 in
set_option maxRecDepth 1000000 in
theorem cursors_calls (w : World) (vp vt : Value) (bb nT cb : Nat) (ts : List Int) (nd : Nat → Nat) (hsp : ∃ a n c, vp = .slice a n c) (ht : IS w vt ts) (hn : ts.length ≤ 1000)
    (hin : ∀ j, j < ts.length → 0 ≤ ts.getD j 0 ∧ ts.getD j 0 < nT) (hnd : ∀ j, j < ts.length → w.cell? ⟨bb, (ts.getD j 0).toNat, none⟩ = some (.pointer (some ⟨nd j, 0, none⟩))) :
    Calls Tryz.prog 87 #[.agg #[vp, .slice (some ⟨bb, 0, none⟩) nT cb], vt] w fun e w' => ∃ v, e = .returned v ∧ w'.ownsRow w.heap.size 153 2 v ts.length (curC nd (fun _ => 0) ts.length) ∧ Below w.heap.size w w' := by
  obtain ⟨iC, hi, hz0, hz1, hz2⟩ := info_parts Tryz.infoCur
  obtain ⟨ap, np, cp, rfl⟩ := hsp
  obtain ⟨at', ct, rfl, hc⟩ := ht
  obtain ⟨n, hnn⟩ : ∃ n, n = ts.length := ⟨_, rfl⟩
  rw [← hnn] at hc hn hin hnd ⊢
  clear hnn
  obtain ⟨Wx, hWx⟩ : ∃ Wx, Wx = w.alloc (.cells #[.slice ap np cp, .slice (some ⟨bb, 0, none⟩) nT cb] 93) := ⟨_, rfl⟩
  have hBx : Below w.heap.size w Wx := by rw [hWx]; exact (Below.refl _ _).alloc (Nat.le_refl _) _
  have hsx : Wx.heap.size = w.heap.size + 1 := by rw [hWx]; simp
  have hbx : Wx.cell? ⟨w.heap.size, 1, none⟩ = some (.slice (some ⟨bb, 0, none⟩) nT cb) := by rw [hWx, World.cell?_alloc_at _ _ _ _ rfl]; rfl
  obtain ⟨Wm, hmk', hownm, hgrm⟩ := run_makeSlice_owned (P := Tryz.prog) Wx w.heap.size 148 153 iC (.agg #[.pointer none, .int .i64 0]) 2 Tryz.underlying148 hi hz0 hz1 .i64 .i64 n (by omega) (by rw [hz2]; omega) (by unfold maxLen; omega) (by omega)
  have hmk : Sem.run Tryz.prog (Instr.makeSlice 148 (.int .i64 0) (.int .i64 (n : Int))) Wx = .ok (.slice (some ⟨Wx.heap.size, 0, none⟩) 0 n) Wm := hmk'
  have hBm : Below w.heap.size w Wm := hBx.grown hgrm (by omega) (fun k hk => by cases hk)
  have HBM := hid hBm
  have HOM := hid hownm
  have hbm : Wm.cell? ⟨w.heap.size, 1, none⟩ = some (.slice (some ⟨bb, 0, none⟩) nT cb) := (World.cell?_of_block (w := Wx) (a := ⟨w.heap.size, 1, none⟩) (hgrm.block _ (by show w.heap.size < _; omega) (fun e => by cases e))).trans hbx
  have htm : ∃ cur, Wm.heap[w.heap.size]? = some (.cells cur 93 (0, 0)) := ⟨#[.slice ap np cp, .slice (some ⟨bb, 0, none⟩) nT cb], (hgrm.block _ (by omega) (fun e => by cases e)).trans (by rw [hWx]; exact heap_alloc_new _ _)⟩
  have HTM := hid htm
  have HC : Hid (∀ W, Below w.heap.size w W → ∀ j, j < n → ∃ (b o : Nat), at' = some ⟨b, o, none⟩ ∧ W.cell? ⟨b, o + j, none⟩ = some (.int .i64 (ts.getD j 0)) ∧ W.cell? ⟨bb, (ts.getD j 0).toNat, none⟩ = some (.pointer (some ⟨nd j, 0, none⟩))) := hid fun W hW j hj => by
    rcases hc with h0 | ⟨b, o, rfl, h⟩
    · omega
    · exact ⟨b, o, rfl, (hW.cell (World.block_lt_of_cell? w _ (h j hj))).trans (h j hj), (hW.cell (World.block_lt_of_cell? w _ (hnd j hj))).trans (hnd j hj)⟩
  have HIN := hid hin
  clear hc hin hnd hmk' hownm hgrm hBm htm hBx
  go_enter Tryz.func87, Tryz.ntmps87
  go_upto_region 1 with fail
  rw [← hWx]
  clear hWx hbx
  go_upto_block 0 with fail
  clear hmk
  go_wp2_with fail
  go_loopw [5, 13] (fun v t wr => ∃ (k : Nat) (vo : Value), k ≤ n ∧ t = .int .i64 k ∧ vo = v ∧ wr.cell? ⟨w.heap.size, 1, none⟩ = some (.slice (some ⟨bb, 0, none⟩) nT cb) ∧ Hid (Below w.heap.size w wr ∧ wr.ownsRow w.heap.size 153 2 vo k (curC nd (fun _ => 0) k) ∧ ∃ cur, wr.heap[w.heap.size]? = some (.cells cur 93 (0, 0)))) (fun _ t _ => n - (intOf t).toNat)
  case atStart => exact ⟨0, _, Nat.zero_le _, rfl, rfl, hbm, hid ⟨HBM.out, by have := HOM.out; rw [hsx] at this; exact this, HTM.out⟩⟩
  case round =>
    clear hbm HBM HOM HTM
    obtain ⟨k, vo, hk, rfl, rfl, hbr, HT⟩ := hrel
    by_cases hkn : k < n
    · have i1 : (k : Int) < (n : Int) := by omega
      obtain ⟨b, o, ea, c1, c2⟩ := HC.out wr HT.out.1 k hkn
      subst ea
      have h3 := HIN.out k hkn
      obtain ⟨t, ht⟩ : ∃ t : Nat, t = (ts.getD k 0).toNat := ⟨_, rfl⟩
      have e1 : ts.getD k 0 = (t : Int) := by omega
      rw [e1] at c1 c2
      have i2 : (t : Int) < (nT : Int) := by omega
      rw [show ((t : Int)).toNat = t by omega] at c2
      clear h3 ht e1 HC HIN
      have hs := HT.out.1.size
      go_wp2_with (first
        | (at_builtin; refine wpList_append_lies _ rfl _ _ 148 rfl w.heap.size 153 iC (.agg #[.pointer none, .int .i64 0]) 2 16 Tryz.underlying148 hi hz0 hz1 hz2 rfl (by decide) vo _ _ rfl (HT.out.2.1.alloc _) ⟨_, 0, none⟩ 1 1 [.pointer (some ⟨nd k, 0, none⟩), .int .i64 0] rfl rfl (new2_cellJ _ _ _ _) (fun u hu => by simp at hu; rcases hu with rfl | rfl <;> rfl) (by decide) (by unfold maxLen; omega) (by omega) (by simp; omega) _ rfl ?_; intro g3 cp3 w3 hown3 hgrow3 hat3 hlt3)
        | fail)
      obtain ⟨cur, hcur⟩ := HT.out.2.2
      have hk3 : w3.heap[w.heap.size]? = wr.heap[w.heap.size]? := kept_of hgrow3 (lt_some hcur) (own_ne HT.out.2.1 ⟨cur, hcur⟩ (by decide))
      have hb3 : w3.cell? ⟨w.heap.size, 1, none⟩ = some (.slice (some ⟨bb, 0, none⟩) nT cb) := (World.cell?_of_block (w := wr) (a := ⟨w.heap.size, 1, none⟩) hk3).trans hbr
      have HN : Hid (Below w.heap.size w w3 ∧ w3.ownsRow w.heap.size 153 2 (.slice (some ⟨g3, 0, none⟩) (k + 1) cp3) (k + 1) (curC nd (fun _ => 0) (k + 1)) ∧ ∃ cur, w3.heap[w.heap.size]? = some (.cells cur 93 (0, 0))) := hid ⟨(HT.out.1.alloc hs _).grown hgrow3 (by simp; omega) (fun q hq => (HT.out.2.1.lt q hq).1), by rw [curC_succ]; exact hown3, cur, hk3.trans hcur⟩
      clear hown3 hgrow3 hat3 hlt3 HT hbr hk3 hcur
      go_roundw
      case rel => exact ⟨k + 1, _, by omega, by go_num, rfl, hb3, HN⟩
      case measure => simp [intOf]; omega
    · obtain rfl : k = n := by omega
      have i1 : ¬ ((k : Int) < (k : Int)) := by omega
      clear HC HIN
      go_wp2_with fail
      go_ret
      exact ⟨vo, rfl, HT.out.2.1, HT.out.1⟩

end Go.Proofs.YtoodbpijgnbfjaaGreat

namespace Go.Proofs.YtoodbpijgnbfjaaGreat
open Go.RowKit Meet

set_option maxHeartbeats 4000000 in
set_option maxRecDepth 1000000 in
theorem fewest_calls (w : World) (cu cc n : Nat) (nd q : Nat → Nat) (ba : Nat → Option Addr) (ln ca : Nat → Nat) (h1 : 0 < n) (hn : n ≤ 1000) (hc : ∀ j, j < n → w.cell? ⟨cu, j * 2, none⟩ = some (.pointer (some ⟨nd j, 0, none⟩)) ∧ w.cell? ⟨cu, j * 2 + 1, none⟩ = some (.int .i64 (q j)))
    (hv : ∀ j, j < n → w.cell? ⟨nd j, 0, none⟩ = some (.slice (ba j) (ln j) (ca j))) :
    Calls Tryz.prog 88 #[.slice (some ⟨cu, 0, none⟩) n cc] w fun e w' => ∃ i, i < n ∧ e = .returned (.slice (ba i) (ln i) (ca i)) ∧ Below w.heap.size w w' := by
  obtain ⟨c0, -⟩ := hc 0 h1
  have v0 := hv 0 h1
  rw [Nat.zero_mul] at c0
  have i0 : (0 : Int) < (n : Int) := by omega
  have HC : Hid (∀ W, Below w.heap.size w W → ∀ j, j < n → W.cell? ⟨cu, j * 2, none⟩ = some (.pointer (some ⟨nd j, 0, none⟩)) ∧ W.cell? ⟨cu, j * 2 + 1, none⟩ = some (.int .i64 (q j)) ∧ W.cell? ⟨nd j, 0, none⟩ = some (.slice (ba j) (ln j) (ca j))) := hid fun W hW j hj =>
    ⟨(hW.cell (World.block_lt_of_cell? w _ (hc j hj).1)).trans (hc j hj).1, (hW.cell (World.block_lt_of_cell? w _ (hc j hj).2)).trans (hc j hj).2, (hW.cell (World.block_lt_of_cell? w _ (hv j hj))).trans (hv j hj)⟩
  clear hc hv
  go_enter Tryz.func88, Tryz.ntmps88
  go_upto_block 0 with fail
  clear c0 v0
  go_wp2_with fail
  go_loopw [3, 15] (fun v t wr => ∃ (k i : Nat), k ≤ n ∧ i < n ∧ t = .int .i64 k ∧ v = .slice (ba i) (ln i) (ca i) ∧ Hid (Below w.heap.size w wr)) (fun _ t _ => n - (intOf t).toNat)
  case atStart => exact ⟨0, 0, Nat.zero_le _, h1, rfl, rfl, hid (Below.refl _ _)⟩
  case round =>
    obtain ⟨k, i, hk, hi, rfl, rfl, HB⟩ := hrel
    by_cases hkn : k < n
    · have i1 : (k : Int) < (n : Int) := by omega
      obtain ⟨c1, c2, c3⟩ := HC.out wr HB.out k hkn
      obtain ⟨W2, hW2⟩ : ∃ W2, W2 = wr.alloc (.cells #[.pointer (some ⟨nd k, 0, none⟩), .int .i64 (q k)] 153) := ⟨_, rfl⟩
      have hB2 : Below wr.heap.size wr W2 := by rw [hW2]; exact (Below.refl _ _).alloc (Nat.le_refl _) _
      have d1 : W2.cell? ⟨wr.heap.size, 0, none⟩ = some (.pointer (some ⟨nd k, 0, none⟩)) := by rw [hW2, World.cell?_alloc_at _ _ _ _ rfl]; rfl
      have d3 : W2.cell? ⟨nd k, 0, none⟩ = some (.slice (ba k) (ln k) (ca k)) := (hB2.cell (World.block_lt_of_cell? wr _ c3)).trans c3
      have HB2 := hid (bt HB.out hB2)
      clear hB2 HC c3
      go_upto_region 5 with fail
      rw [← hW2]
      clear hW2 c1 c2
      by_cases hlt : (ln k : Int) < (ln i : Int)
      · go_wp2_with fail
        go_roundw
        case rel => exact ⟨k + 1, k, by omega, hkn, by go_num, rfl, HB2⟩
        case measure => simp [intOf]; omega
      · go_wp2_with fail
        go_roundw
        case rel => exact ⟨k + 1, i, by omega, hi, by go_num, rfl, HB2⟩
        case measure => simp [intOf]; omega
    · obtain rfl : k = n := by omega
      have i1 : ¬ ((k : Int) < (k : Int)) := by omega
      clear HC
      go_wp2_with fail
      go_ret
      exact ⟨i, hi, rfl, HB.out⟩

end Go.Proofs.YtoodbpijgnbfjaaGreat
