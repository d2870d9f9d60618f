import Derived.Deep.AppendLies
import Derived.Laws.MakeOwn
import Derived.Test.YtfjchjhakjghcaaDoorD32
/-
  impl.decimals: the numbers' texts, in a list of its own.
-/
namespace Go.Proofs.YtfjchjhakjghcaaDoor
open Go.RowKit

theorem Tryd.infoStr : (Tryd.prog.info? 9).map (fun i => (i.zero, i.size, i.bytes)) = some (some (.string ⟨#[]⟩), 1, 16) := by kernel_rfl

def dcV (row : List Int) (q : Nat) : List Value := (row.take q).map fun x => .string ⟨(Lib.itoa x).toArray⟩
theorem dcV_succ {row : List Int} {q : Nat} (hq : q < row.length) : dcV row (q + 1) = dcV row q ++ [.string ⟨(Lib.itoa (row.getD q 0)).toArray⟩] := by
  have e : row.take (q + 1) = row.take q ++ [row.getD q 0] := by
    rw [List.take_add_one, List.getElem?_eq_getElem hq, List.getD_eq_getElem?_getD, List.getElem?_eq_getElem hq]; rfl
  unfold dcV
  rw [e, List.map_append]
  rfl

set_option maxHeartbeats 4000000 in
set_option maxRecDepth 1000000 in
theorem decimals_calls (w : World) (a : Option Addr) (c : Nat) (row : List Int) (hcell : ∀ q, q < row.length → ∃ b o, a = some ⟨b, o, none⟩ ∧ w.cell? ⟨b, o + q, none⟩ = some (.int .i64 (row.getD q 0))) (hn : row.length ≤ 1000000) (hv : ∀ q, q < row.length → -1000000 ≤ row.getD q 0 ∧ row.getD q 0 ≤ 1000000) (htab : Lib.TabIs Tryd.prog w "internal/strconv.uint64pow10" .u64 Lib.pow10Tab) :
    Calls Tryd.prog 26 #[.slice a row.length c] w fun e w' => ∃ g cp, e = .returned (.slice (some ⟨g, 0, none⟩) row.length cp) ∧ w'.ownsRow w.heap.size 9 1 (.slice (some ⟨g, 0, none⟩) row.length cp) row.length (dcV row row.length) ∧ Below w.heap.size w w' := by
  obtain ⟨iT, hi, hz0, hz1, hz2⟩ := info_parts Tryd.infoStr
  have KI : Hid (∀ W n, Below w.heap.size w W → -1000000 ≤ n → n ≤ 1000000 → Calls Tryd.prog 25 #[.int .i64 n] W fun e w' => e = .returned (.string ⟨(Lib.itoa n).toArray⟩) ∧ Below W.heap.size W w') := hid fun W n hW h0 h1 => Tryd.c_Itoa n (by omega) (by omega) W (tab_below htab hW)
  have HCu : Hid (∀ W, Below w.heap.size w W → ∀ q, q < row.length → ∃ b o, a = some ⟨b, o, none⟩ ∧ W.cell? ⟨b, o + q, none⟩ = some (.int .i64 (row.getD q 0))) := hid fun W hW q hq => by
    obtain ⟨b, o, rfl, h⟩ := hcell q hq
    exact ⟨b, o, rfl, (hW.cell (World.block_lt_of_cell? w _ h)).trans h⟩
  have HRv := hid hv
  have HS : Hid (∀ q, q < row.length → dcV row (q + 1) = dcV row q ++ [.string ⟨(Lib.itoa (row.getD q 0)).toArray⟩]) := hid fun q hq => dcV_succ hq
  have HS0 : Hid (dcV row 0 = []) := hid rfl
  clear htab hcell hv
  obtain ⟨m, hm⟩ : ∃ m, m = row.length := ⟨_, rfl⟩
  rw [← hm] at hn HRv HCu HS ⊢
  clear hm
  obtain ⟨Wm, hmk', hownm, hgrm⟩ := run_makeSlice_owned (P := Tryd.prog) w w.heap.size 33 9 iT (.string ⟨#[]⟩) 1 Tryd.underlying33 hi hz0 hz1 .i64 .i64 m (by omega) (by rw [hz2]; omega) (by unfold maxLen; omega) (Nat.le_refl _)
  have hmk : Sem.run Tryd.prog (Instr.makeSlice 33 (.int .i64 0) (.int .i64 (m : Int))) w = .ok (.slice (some ⟨w.heap.size, 0, none⟩) 0 m) Wm := hmk'
  have hbm : Below w.heap.size w Wm := (Below.refl _ _).grown hgrm (Nat.le_refl _) (fun j hj => by simp at hj)
  have HM0 : Hid (Below w.heap.size w Wm ∧ Wm.ownsRow w.heap.size 9 1 (.slice (some ⟨w.heap.size, 0, none⟩) 0 m) 0 (dcV row 0)) := hid ⟨hbm, by rw [HS0.out]; exact hownm⟩
  clear hmk' hownm hgrm hbm
  go_enter Tryd.func26, Tryd.ntmps26
  go_wp2_with fail
  clear hmk
  go_loopw [3, 11] (fun v t wr => ∃ (p : Nat) (g c : Nat), p ≤ m ∧ t = .int .i64 p ∧ v = .slice (some ⟨g, 0, none⟩) p c ∧ Hid (Below w.heap.size w wr ∧ wr.ownsRow w.heap.size 9 1 (.slice (some ⟨g, 0, none⟩) p c) p (dcV row p))) (fun _ t _ => m - (intOf t).toNat)
  case atStart => exact ⟨0, _, _, Nat.zero_le _, rfl, rfl, HM0⟩
  case round =>
    clear HM0
    obtain ⟨p, g, c2, hpm, rfl, rfl, HG⟩ := hrel
    by_cases hlp : p < m
    · have i2 : (p : Int) < (m : Int) := by omega
      obtain ⟨tb, to', ea, g0⟩ := HCu.out wr HG.out.1 p hlp
      subst ea
      obtain ⟨hv0, hv1⟩ := HRv.out p hlp
      have KI1 := hid (KI.out wr (row.getD p 0) HG.out.1 hv0 hv1)
      have HSp := hid (HS.out p hlp)
      generalize Lib.itoa (row.getD p 0) = it at *
      generalize row.getD p 0 = x at *
      go_wp2_with fail
      refine KI1.out.mono ?_
      rintro e w6 ⟨rfl, hb6⟩
      have HG6 : Hid (Below w.heap.size w w6 ∧ w6.ownsRow w.heap.size 9 1 (.slice (some ⟨g, 0, none⟩) p c2) p (dcV row p)) := hid ⟨bt HG.out.1 hb6, own_below HG.out.2 hb6⟩
      have hs6 := HG6.out.1.size
      clear hb6 KI1 HG g0
      go_wp2_with (first | (at_builtin; refine wpList_append_lies _ rfl _ _ 33 rfl w.heap.size 9 iT (.string ⟨#[]⟩) 1 16 Tryd.underlying33 hi hz0 hz1 hz2 rfl (by decide) _ _ _ rfl (HG6.out.2.alloc _) ⟨_, 0, none⟩ 1 1 [.string ⟨it.toArray⟩] rfl rfl (new1_cell _ _ _) (fun u hu => by simp at hu; subst hu; rfl) (by decide) (by unfold maxLen; omega) (by omega) (by simp; omega) _ rfl ?_; intro g8 cp8 w8 hown8 hgrow8 hat8 hlt8) | fail)
      have HN2 : Hid (Below w.heap.size w w8 ∧ w8.ownsRow w.heap.size 9 1 (.slice (some ⟨g8, 0, none⟩) (p + 1) cp8) (p + 1) (dcV row (p + 1))) := hid ⟨(HG6.out.1.alloc hs6 _).grown hgrow8 (by simp; omega) (fun j hj => (HG6.out.2.lt j hj).1), by rw [HSp.out]; exact hown8⟩
      clear hown8 hgrow8 hat8 hlt8
      go_wp2_with fail
      go_roundw
      case rel => exact ⟨p + 1, _, _, by omega, by go_num, rfl, HN2⟩
      case measure => simp [intOf]; omega
    · obtain rfl : p = m := by omega
      have i2 : ¬ ((p : Int) < (p : Int)) := by omega
      go_wp2_with fail
      go_ret
      exact ⟨g, c2, rfl, HG.out.2, HG.out.1⟩

end Go.Proofs.YtfjchjhakjghcaaDoor
