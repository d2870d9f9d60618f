import Derived.Test.YtajelomllfcmiabMeets
import Derived.Test.YtajelomllfcmiabEdges
/-
  impl.areAscending.
-/
namespace Go.Proofs.Ytajelomllfcmiab
open Go.RowKit Meet

set_option maxHeartbeats 4000000 in
set_option maxRecDepth 1000000 in
theorem areAsc_calls (w : World) (ve : Value) (ls : List (List Int)) (h : ISS w ve ls) (hl : Short ls) :
    Calls Try.prog 100 #[ve] w fun e w' => e = .returned (.bool (ls.all ascB)) ∧ ∃ d, w' = w.drewN d := by
  obtain ⟨a, cap, rfl, hc⟩ := h
  obtain ⟨hl1, hl2⟩ := hl
  obtain ⟨n, hn⟩ : ∃ n, n = ls.length := ⟨_, rfl⟩
  obtain ⟨res, hres⟩ : ∃ r, r = ls.all ascB := ⟨_, rfl⟩
  rw [← hres]
  rw [← hn] at hc hl1 ⊢
  have HR := hid hres
  have HC := hid hc
  have HN := hid hn
  have HL := hid hl2
  clear hc hn hl2 hres
  go_enter Try.func100, Try.ntmps100
  go_wp2
  go_loopw [8] (fun t wr => ∃ j : Nat, j ≤ n ∧ t = .int .i64 j ∧ Hid (∃ m, wr = w.drewN m) ∧ Hid (∀ i, i < j → ascB (ls.getD i []) = true)) (fun t _ => n - (intOf t).toNat)
  case atStart => exact ⟨0, Nat.zero_le _, rfl, hid ⟨0, rfl⟩, hid (fun i hi => by omega)⟩
  case round =>
    obtain ⟨j, hj, rfl, hB, hok⟩ := hrel
    by_cases hjn : j < n
    · have i1 : (j : Int) < (n : Int) := by omega
      rcases HC.out with h0 | ⟨b, o, rfl, hcell⟩
      · omega
      · obtain ⟨u, d1, hu⟩ := hcell j hjn
        have c1 : wr.cell? ⟨b, o + j, none⟩ = some u := by obtain ⟨m, rfl⟩ := hB.out; exact d1
        have hml := HL.out j
        obtain ⟨a1, cap1, rfl, hu2⟩ := hu
        have HU := hid hu2
        have fin : ∀ i, i < (ls.getD j []).length → ascAt (ls.getD j []) i = false → Hid (res = false) := fun i hi e => HR.out.trans (all_getD_false ascB [] ls j (by rw [← HN.out]; exact hjn) (ascB_false hi e))
        have nxt : (∀ k, k < (ls.getD j []).length → ascAt (ls.getD j []) k = true) → Hid (∀ i, i < j + 1 → ascB (ls.getD i []) = true) := fun e i hi => by
          by_cases e2 : i = j
          · rw [e2]; exact ascB_true e
          · exact hok.out i (by omega)
        have HF := hid fin
        have HX := hid nxt
        clear hcell hok d1 hu2 fin nxt
        generalize ls.getD j [] = l at *
        obtain ⟨m, hm⟩ : ∃ m, m = l.length := ⟨_, rfl⟩
        rw [← hm] at c1 hml HU HF HX
        clear hm
        go_wp2
        go_loopw [5] (fun t wi => ∃ i : Nat, 1 ≤ i ∧ i ≤ m + 1 ∧ t = .int .i64 i ∧ Hid (∃ m, wi = w.drewN m) ∧ Hid (∀ k, k < i → k < m → ascAt l k = true)) (fun t _ => m - (intOf t).toNat)
        case atStart => exact ⟨1, Nat.le_refl _, by omega, rfl, hB, hid (fun k hk _ => by rw [show k = 0 by omega]; rfl)⟩
        case round =>
          obtain ⟨i, hi1, hi2, rfl, hBi, hoki⟩ := hrel
          by_cases him : i < m
          · have j1 : (i : Int) < (m : Int) := by omega
            rcases HU.out with h0 | ⟨b', o', rfl, hcl⟩
            · omega
            · have c2 : wr.cell? ⟨b', o' + i, none⟩ = some (.int .i64 (l.getD i 0)) := by obtain ⟨q, rfl⟩ := hBi.out; exact hcl i him
              have c3 : wr.cell? ⟨b', o' + (i - 1), none⟩ = some (.int .i64 (l.getD (i - 1) 0)) := by obtain ⟨q, rfl⟩ := hBi.out; exact hcl (i - 1) (by omega)
              have i4 : ((i : Int) - 1).toNat = i - 1 := by omega
              have hat : ascAt l i = decide (l.getD (i - 1) 0 < l.getD i 0) := by unfold ascAt; rw [decide_eq_false (by omega), Bool.false_or]
              clear hcl
              by_cases hx : l.getD (i - 1) 0 < l.getD i 0
              · rw [decide_eq_true hx] at hat
                have hnx : Hid (∀ k, k < i + 1 → k < m → ascAt l k = true) := hid (fun k hk hkm => by
                  by_cases e2 : k = i
                  · rw [e2]; exact hat
                  · exact hoki.out k (by omega) hkm)
                clear hat
                generalize l.getD i 0 = y at *
                generalize l.getD (i - 1) 0 = x at *
                have d1 : ¬ (y ≤ x) := by omega
                go_wp2_with fail
                go_quiet (fail)
                go_wp2
                go_roundw
                case rel => exact ⟨i + 1, by omega, by omega, by go_num, hid (drewN_step _ hBi.out), hnx⟩
                case measure => simp [intOf]; omega
              · rw [decide_eq_false hx] at hat
                have hf := HF.out i him hat
                clear hat
                generalize l.getD i 0 = y at *
                generalize l.getD (i - 1) 0 = x at *
                have d1 : y ≤ x := by omega
                go_wp2_with fail
                go_quiet (fail)
                go_wp2
                go_ret
                exact ⟨ret_bool (by rw [hf.out]), drewN_step _ hBi.out⟩
          · have j1 : ¬ ((i : Int) < (m : Int)) := by omega
            have hnx := HX.out (fun k hk => hoki.out k (by omega) hk)
            go_wp2
            go_roundw
            case rel => exact ⟨j + 1, by omega, by go_num, hBi, hnx⟩
            case measure => simp [intOf]; omega
    · obtain rfl : j = n := by omega
      have i1 : ¬ ((j : Int) < (j : Int)) := by omega
      have hf : Hid (res = true) := HR.out.trans (all_getD ascB [] ls (fun i hi => hok.out i (by rw [HN.out]; exact hi)))
      clear hok
      go_wp2
      go_ret
      exact ⟨ret_bool (by rw [hf.out]), hB.out⟩

end Go.Proofs.Ytajelomllfcmiab
