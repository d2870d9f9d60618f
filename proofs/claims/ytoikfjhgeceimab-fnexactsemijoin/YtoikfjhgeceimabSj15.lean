import Derived.Test.YtoikfjhgeceimabSj14
/-
  spec.Intersect.
-/
namespace Go.Proofs.Ytoikfjhgeceimab
open Go.RowKit Meet

theorem new1_cell (w : World) (v : Value) (t : TypeId) : ∀ j u, [v][j]? = some u → (w.alloc (.cells #[v] t)).cell? ((⟨w.heap.size, 0, none⟩ : Addr).add j) = some u := by
  intro j u hj
  match j, hj with
  | 0, hj => simp at hj; subst hj; simp [Addr.add]

theorem one_int (x : Int) : ∀ u ∈ [Value.int .i64 x], u.oneCell' = true := by
  intro u hu
  simp at hu; subst hu; rfl

theorem mem_iff {l : List Int} {x : Int} {q : Nat} (h1 : ∀ j, j < q → l.getD j 0 < x) (h2 : ∀ j, q ≤ j → j < l.length → x ≤ l.getD j 0) (ha : Asc l) : decide (x ∈ l) = (decide (q < l.length) && decide (l.getD q 0 = x)) := by
  by_cases hq : q < l.length
  · rw [decide_eq_true hq, Bool.true_and]
    by_cases e : l.getD q 0 = x
    · rw [decide_eq_true e]
      exact decide_eq_true (e ▸ at_mem hq)
    · rw [decide_eq_false e]
      refine decide_eq_false (fun hm => ?_)
      obtain ⟨j, hj, e2⟩ := mem_at hm
      rcases Nat.lt_or_ge j q with h3 | h3
      · have := h1 j h3; omega
      · have h4 := h2 q (Nat.le_refl _) hq
        rcases Nat.lt_or_ge q j with h5 | h5
        · have := ha q j h5 hj; omega
        · rw [show j = q by omega] at e2; exact e e2
  · rw [decide_eq_false hq, Bool.false_and]
    refine decide_eq_false (fun hm => ?_)
    obtain ⟨j, hj, e2⟩ := mem_at hm
    have := h1 j (by omega)
    omega

theorem filter_hit (f : Int → Bool) (l : List Int) (k : Nat) (h : k < l.length) (hf : f (l.getD k 0) = true) : (l.take (k + 1)).filter f = (l.take k).filter f ++ [l.getD k 0] := by
  rw [List.take_add_one, List.getElem?_eq_getElem h, List.filter_append]
  rw [List.getD_eq_getElem?_getD, List.getElem?_eq_getElem h] at hf ⊢
  simp only [Option.getD_some] at hf ⊢
  simp [hf]
theorem filter_miss (f : Int → Bool) (l : List Int) (k : Nat) (h : k < l.length) (hf : f (l.getD k 0) = false) : (l.take (k + 1)).filter f = (l.take k).filter f := by
  rw [List.take_add_one, List.getElem?_eq_getElem h, List.filter_append]
  rw [List.getD_eq_getElem?_getD, List.getElem?_eq_getElem h] at hf
  simp only [Option.getD_some] at hf
  simp [hf]

def inSome (ls : List (List Int)) (x : Int) (i : Nat) : Bool := (ls.take i).all fun l => decide (x ∈ l)
theorem inSome_succ (ls : List (List Int)) (x : Int) (i : Nat) (h : i < ls.length) : inSome ls x (i + 1) = (inSome ls x i && decide (x ∈ ls.getD i [])) := by
  unfold inSome
  rw [List.take_add_one, List.getElem?_eq_getElem h, List.all_append, List.getD_eq_getElem?_getD, List.getElem?_eq_getElem h]
  simp
theorem inSome_all (ls : List (List Int)) (x : Int) : inSome ls x ls.length = inAll ls x := by
  unfold inSome inAll
  rw [List.take_length]

set_option maxHeartbeats 8000000 in
set_option maxRecDepth 1000000 in
theorem sInter_calls (w : World) (ve : Value) (ls : List (List Int)) (h : ISS w ve ls) (ht : tot ls ls.length ≤ 1048576) :
    Calls Try.prog 48 #[ve] w fun e w' => ∃ v, e = .returned v ∧ w'.ownsRow w.heap.size 3 1 v (common ls).length ((common ls).map (Value.int .i64)) ∧ Below w.heap.size w w' := by
  obtain ⟨j0, hj, hy0, hy1, hy2⟩ := info_parts Try.infoInt
  have hshort := short_of_tot ht
  have HO0 : Hid ((w.alloc (.cells #[] 3)).ownsRow w.heap.size 3 1 (.slice (some ⟨w.heap.size, 0, none⟩) 0 0) 0 []) := hid (World.ownsRow_made w #[] 0 (Nat.le_refl _) (Nat.zero_le _) rfl)
  have HB0 : Hid (Below w.heap.size w (w.alloc (.cells #[] 3))) := hid ((Below.refl _ _).alloc (Nat.le_refl _) _)
  have hI := h
  obtain ⟨a, cap, rfl, hc⟩ := h
  obtain ⟨n, hn⟩ : ∃ n, n = ls.length := ⟨_, rfl⟩
  obtain ⟨out, hout⟩ : ∃ o, o = common ls := ⟨_, rfl⟩
  rw [← hout]
  have hn7 : ls.length ≤ 1048576 := by have := tot_le ls ls.length 0 (by omega); rw [tot_zero] at this; omega
  have HL : Hid (∀ j, (ls.getD j []).length ≤ 1048576) := hid (fun j => by have := getD_le_tot ls j; omega)
  have HN := hid hn
  have HE := hid hout
  have HC := hid hc
  rw [← hn] at HC hn7 ⊢
  clear hc hI hshort hn hout
  by_cases c0 : n = 0
  · have e0 : Hid (out = []) := hid (HE.out.trans (common_no (by rw [← HN.out]; omega)))
    subst c0
    go_enter Try.func48, Try.ntmps48
    go_wp2_with (first | (go_at_call 51; refine (between_no1 _ _ _ _ (by omega)).mono ?_; rintro e w' ⟨rfl, rfl⟩))
    go_ret
    rw [e0.out]
    exact ⟨_, rfl, HO0.out, HB0.out⟩
  by_cases c1 : 100 < n
  · have e0 : Hid (out = []) := hid (HE.out.trans (common_no (by rw [← HN.out]; omega)))
    go_enter Try.func48, Try.ntmps48
    go_wp2_with (first | (go_at_call 51; refine (between_no2 _ _ _ _ (by omega) (by omega)).mono ?_; rintro e w' ⟨rfl, rfl⟩))
    go_ret
    rw [e0.out]
    exact ⟨_, rfl, HO0.out, HB0.out⟩
  have HX : Hid (ls.all ascB = false → out = []) := hid (fun hf => HE.out.trans (common_no (fun hh => by rw [hf] at hh; exact Bool.noConfusion hh.2.2)))
  have HY : Hid (ls.all ascB = true → out = (ls.getD 0 []).filter (inAll ls)) := hid (fun hf => HE.out.trans (if_pos ⟨by rw [← HN.out]; omega, by rw [← HN.out]; omega, hf⟩))
  clear HE
  go_enter Try.func48, Try.ntmps48
  go_wp2_with (first | (go_at_call 51; refine (between_yes _ _ _ _ (by omega) (by omega)).mono ?_; rintro e w' ⟨rfl, rfl⟩))
  go_loopw [23] (fun t wr => ∃ j : Nat, j ≤ n ∧ t = .int .i64 j ∧ Hid ((∃ m, wr = (w.alloc (.cells #[] 3)).drewN m) ∧ ∀ i, i < j → ascB (ls.getD i []) = true)) (fun t _ => n - (intOf t).toNat)
  case atStart => exact ⟨0, Nat.zero_le _, rfl, hid ⟨⟨0, rfl⟩, fun i hi => by omega⟩⟩
  case round =>
    obtain ⟨j, hjn', rfl, hH⟩ := hrel
    obtain ⟨hB, hok⟩ := hH.out
    have HBr : Hid (Below w.heap.size w wr) := hid (by obtain ⟨m, rfl⟩ := hB; exact below_drewN HB0.out _)
    have HOr : Hid (wr.ownsRow w.heap.size 3 1 (.slice (some ⟨w.heap.size, 0, none⟩) 0 0) 0 []) := hid (by obtain ⟨m, rfl⟩ := hB; exact HO0.out)
    have HB := hid hB
    have HOK := hid hok
    clear hB hok hH
    by_cases hjn : j < n
    · have i1 : (j : Int) < (n : Int) := by omega
      rcases HC.out with h0 | ⟨b, o, rfl, hcell⟩
      · omega
      · obtain ⟨u, d1, hu⟩ := hcell j hjn
        have c1' : wr.cell? ⟨b, o + j, none⟩ = some u := (HBr.out.cell (p := ⟨b, o + j, none⟩) (World.block_lt_of_cell? w _ d1)).trans d1
        have hml := HL.out j
        have HU0 := hid hu
        obtain ⟨a1, cap1, rfl, -⟩ := hu
        have HF : Hid (∀ i, i < (ls.getD j []).length → ascAt (ls.getD j []) i = false → out = []) := hid (fun i hi e => HX.out (all_getD_false ascB [] ls j (by rw [← HN.out]; exact hjn) (ascB_false hi e)))
        have HG : Hid ((∀ k, k < (ls.getD j []).length → ascAt (ls.getD j []) k = true) → ∀ i, i < j + 1 → ascB (ls.getD i []) = true) := hid (fun e i hi => by
          by_cases e2 : i = j
          · rw [e2]; exact ascB_true e
          · exact HOK.out i (by omega))
        clear hcell HOK d1
        generalize ls.getD j [] = l at *
        obtain ⟨m, hm⟩ : ∃ m, m = l.length := ⟨_, rfl⟩
        rw [← hm] at c1' hml HF HG
        have HML := hid hm
        clear hm
        go_wp2
        go_loopw [6] (fun t wi => ∃ i : Nat, 1 ≤ i ∧ i ≤ m + 1 ∧ t = .int .i64 i ∧ Hid ((∃ m, wi = (w.alloc (.cells #[] 3)).drewN m) ∧ (∀ k, k < i → k < m → ascAt l k = true))) (fun t _ => m - (intOf t).toNat)
        case atStart => exact ⟨1, Nat.le_refl _, by omega, rfl, hid ⟨HB.out, fun k hk _ => by rw [show k = 0 by omega]; rfl⟩⟩
        case round =>
          obtain ⟨i, hi1, hi2, rfl, hHi⟩ := hrel
          obtain ⟨hBi0, hoki⟩ := hHi.out
          have hBi := hid hBi0
          have HBi : Hid (Below w.heap.size w wr) := hid (by obtain ⟨m, rfl⟩ := hBi0; exact below_drewN HB0.out _)
          have HOi : Hid (wr.ownsRow w.heap.size 3 1 (.slice (some ⟨w.heap.size, 0, none⟩) 0 0) 0 []) := hid (by obtain ⟨m, rfl⟩ := hBi0; exact HO0.out)
          clear hHi hBi0
          by_cases him : i < m
          · have j1 : (i : Int) < (m : Int) := by omega
            obtain ⟨a2, cap2, hv2, hcl0⟩ := HU0.out
            simp only [Value.slice.injEq] at hv2
            obtain ⟨rfl, -, rfl⟩ := hv2
            rcases hcl0 with h0 | ⟨b', o', rfl, hcl⟩
            · exact absurd h0 (by rw [← HML.out]; omega)
            · have k2 := hcl i (by rw [← HML.out]; exact him)
              have k3 := hcl (i - 1) (by rw [← HML.out]; omega)
              have c2 : wr.cell? ⟨b', o' + i, none⟩ = some (.int .i64 (l.getD i 0)) := (HBi.out.cell (p := ⟨b', o' + i, none⟩) (World.block_lt_of_cell? w _ k2)).trans k2
              have c3 : wr.cell? ⟨b', o' + (i - 1), none⟩ = some (.int .i64 (l.getD (i - 1) 0)) := (HBi.out.cell (p := ⟨b', o' + (i - 1), none⟩) (World.block_lt_of_cell? w _ k3)).trans k3
              have i4 : ((i : Int) - 1).toNat = i - 1 := by omega
              have hat : ascAt l i = decide (l.getD (i - 1) 0 < l.getD i 0) := by unfold ascAt; rw [decide_eq_false (by omega), Bool.false_or]
              clear hcl k2 k3
              by_cases hx : l.getD (i - 1) 0 < l.getD i 0
              · rw [decide_eq_true hx] at hat
                have hnx : Hid (∀ k, k < i + 1 → k < m → ascAt l k = true) := hid (fun k hk hkm => by
                  by_cases e2 : k = i
                  · rw [e2]; exact hat
                  · exact hoki k (by omega) hkm)
                clear hat hoki
                generalize l.getD i 0 = y at *
                generalize l.getD (i - 1) 0 = x at *
                have d1 : ¬ (y ≤ x) := by omega
                go_wp2_with fail
                go_quiet (fail)
                go_wp2
                go_roundw
                case rel => exact ⟨i + 1, by omega, by omega, by go_num, hid ⟨drewN_step _ hBi.out, hnx.out⟩⟩
                case measure => simp [intOf]; omega
              · rw [decide_eq_false hx] at hat
                have hf := hid (HF.out i him hat)
                clear hat hoki
                generalize l.getD i 0 = y at *
                generalize l.getD (i - 1) 0 = x at *
                have d1 : y ≤ x := by omega
                go_wp2_with fail
                go_quiet (fail)
                go_wp2
                go_ret
                rw [hf.out]
                exact ⟨_, rfl, own_drewN HOi.out _, below_drewN HBi.out _⟩
          · have j1 : ¬ ((i : Int) < (m : Int)) := by omega
            have hnx := hid (HG.out (fun k hk => hoki k (by omega) hk))
            clear hoki
            go_wp2
            go_roundw
            case rel => exact ⟨j + 1, by omega, by go_num, hid ⟨hBi.out, hnx.out⟩⟩
            case measure => simp [intOf]; omega
    · obtain rfl : j = n := by omega
      have i1 : ¬ ((j : Int) < (j : Int)) := by omega
      have hall : ls.all ascB = true := all_getD ascB [] ls (fun i hi => HOK.out i (by rw [HN.out]; exact hi))
      have e0 := hid (HY.out hall)
      have HA : Hid (∀ k, k < ls.length → Asc (ls.getD k [])) := hid (fun k hk => asc_of (by
        rw [List.all_eq_true] at hall
        rw [List.getD_eq_getElem?_getD, List.getElem?_eq_getElem hk]
        exact hall _ (List.getElem_mem hk)))
      rcases HC.out with h0 | ⟨b, o, rfl, hcell⟩
      · omega
      · obtain ⟨u, d1, hu⟩ := hcell 0 (by omega)
        have c1' : wr.cell? ⟨b, o, none⟩ = some u := by simpa using (HBr.out.cell (p := ⟨b, o + 0, none⟩) (World.block_lt_of_cell? w _ d1)).trans d1
        have hj0 : (0 : Int) < (j : Int) := by omega
        have HU0 := hid hu
        obtain ⟨a1, cap1, rfl, -⟩ := hu
        have HCC := hid hcell
        clear hall HOK HX HY hcell d1
        obtain ⟨m, hm⟩ : ∃ m, m = (ls.getD 0 []).length := ⟨_, rfl⟩
        have hml := HL.out 0
        rw [← hm] at c1' hml
        have HML := hid hm
        clear hm HB
        go_wp2
        go_loopw [3, 49] (fun v t wr => ∃ k : Nat, k ≤ m ∧ t = .int .i64 k ∧ Hid (wr.ownsRow w.heap.size 3 1 v (((ls.getD 0 []).take k).filter (inAll ls)).length ((((ls.getD 0 []).take k).filter (inAll ls)).map (Value.int .i64)) ∧ Below w.heap.size w wr)) (fun _ t _ => m - (intOf t).toNat)
        case atStart => exact ⟨0, Nat.zero_le _, rfl, hid ⟨by simpa using HOr.out, HBr.out⟩⟩
        case round =>
          clear HOr HBr
          obtain ⟨k, hk, rfl, hH⟩ := hrel
          obtain ⟨hown, hnx⟩ := hH.out
          have hns := hnx.size
          clear hH
          by_cases hkm : k < m
          · have i2 : (k : Int) < (m : Int) := by omega
            obtain ⟨a2, cap2, hv2, hcl0⟩ := HU0.out
            simp only [Value.slice.injEq] at hv2
            obtain ⟨rfl, -, rfl⟩ := hv2
            rcases hcl0 with h0 | ⟨b', o', rfl, hcl⟩
            · exact absurd h0 (by rw [← HML.out]; omega)
            · have k2 := hcl k (by rw [← HML.out]; exact hkm)
              have c2 : wr.cell? ⟨b', o' + k, none⟩ = some (.int .i64 ((ls.getD 0 []).getD k 0)) := (hnx.cell (p := ⟨b', o' + k, none⟩) (World.block_lt_of_cell? w _ k2)).trans k2
              have HROW : Hid (∀ i, i < j → ∃ a3 cap3, wr.cell? ⟨b, o + i, none⟩ = some (.slice a3 (ls.getD i []).length cap3) ∧ ((ls.getD i []).length = 0 ∨ ∃ b3 o3, a3 = some ⟨b3, o3, none⟩ ∧ ∀ q, q < (ls.getD i []).length → wr.cell? ⟨b3, o3 + q, none⟩ = some (.int .i64 ((ls.getD i []).getD q 0)))) := hid (fun i hi => by
                obtain ⟨u, e1, hu⟩ := HCC.out i hi
                obtain ⟨a3, cap3, rfl, hu2⟩ := hu.below hnx
                exact ⟨a3, cap3, (hnx.cell (p := ⟨b, o + i, none⟩) (World.block_lt_of_cell? w _ e1)).trans e1, hu2⟩)
              have HHIT : Hid (inAll ls ((ls.getD 0 []).getD k 0) = true → ((ls.getD 0 []).take (k + 1)).filter (inAll ls) = ((ls.getD 0 []).take k).filter (inAll ls) ++ [(ls.getD 0 []).getD k 0]) := hid (filter_hit _ _ _ (by rw [← HML.out]; exact hkm))
              have HMISS : Hid (inAll ls ((ls.getD 0 []).getD k 0) = false → ((ls.getD 0 []).take (k + 1)).filter (inAll ls) = ((ls.getD 0 []).take k).filter (inAll ls)) := hid (filter_miss _ _ _ (by rw [← HML.out]; exact hkm))
              have hfl : (((ls.getD 0 []).take k).filter (inAll ls)).length ≤ 1048576 := Nat.le_trans (List.length_filter_le _ _) (by rw [List.length_take]; omega)
              have HOW := hid hown
              have HNX := hid hnx
              clear hcl k2 hown hnx
              generalize (ls.getD 0 []).getD k 0 = x at *
              have HSA := hid (inSome_all ls x)
              rw [← HN.out] at HSA
              go_wp2
              go_loop [9, 55] (fun a t => ∃ i : Nat, i ≤ j ∧ t = .int .i64 i ∧ ∃ q : Bool, a = .bool q ∧ Hid (q = inSome ls x i)) (fun _ t => j - (intOf t).toNat)
              case atStart => exact ⟨0, Nat.zero_le _, rfl, true, rfl, hid rfl⟩
              case round =>
                obtain ⟨i, hi, rfl, q, rfl, hq⟩ := hrel
                by_cases hij : i < j
                · have i3 : (i : Int) < (j : Int) := by omega
                  obtain ⟨a3, cap3, c3, hrow⟩ := HROW.out i hij
                  have hil : i < ls.length := by rw [← HN.out]; exact hij
                  have hasc := HA.out i hil
                  have HNXT := hid (inSome_succ ls x i hil)
                  have hm3 := HL.out i
                  have HRW := hid hrow
                  have HASC := hid hasc
                  clear hrow hasc
                  rw [← hq.out] at HNXT
                  clear hq
                  generalize ls.getD i [] = l at *
                  obtain ⟨m3, hm3'⟩ : ∃ q, q = l.length := ⟨_, rfl⟩
                  rw [← hm3'] at c3 hm3 HRW
                  have HM3 := hid hm3'
                  have HS : Hid (∀ i j, i ≤ j → j < m3 → l.getD i 0 ≤ l.getD j 0) := hid (by rw [HM3.out]; exact up_of_asc HASC.out)
                  clear hm3'
                  go_wp2
                  go_loop [12, 13] (fun s t => ∃ lo hi : Nat, s = .int .i64 lo ∧ t = .int .i64 hi ∧ lo ≤ hi ∧ hi ≤ m3 ∧ Hid ((∀ t, t < lo → l.getD t 0 < x) ∧ (∀ t, hi ≤ t → t < m3 → x ≤ l.getD t 0))) (fun s t => (intOf t).toNat - (intOf s).toNat)
                  case atStart => exact ⟨0, m3, rfl, rfl, Nat.zero_le _, Nat.le_refl _, hid ⟨fun t ht => absurd ht (Nat.not_lt_zero _), fun t h1 h2 => by omega⟩⟩
                  case round =>
                    obtain ⟨lo, hi', rfl, rfl, hlh, hin, I⟩ := hrel
                    by_cases hlt : lo < hi'
                    · rcases HRW.out with h0 | ⟨b3, o3, rfl, hcl⟩
                      · omega
                      · have cm : wr.cell? ⟨b3, o3 + (lo + hi') / 2, none⟩ = some (.int .i64 (l.getD ((lo + hi') / 2) 0)) := hcl _ (by omega)
                        clear hcl
                        generalize hy : l.getD ((lo + hi') / 2) 0 = y at cm
                        have Y : Hid (l.getD ((lo + hi') / 2) 0 = y) := hid hy
                        clear hy
                        by_cases hyx : y < x
                        · go_wp2
                          go_round
                          case rel =>
                            refine ⟨(lo + hi') / 2 + 1, hi', by rw [show ((lo : Int) + (hi' : Int)) / 2 + 1 = (((lo + hi') / 2 + 1 : Nat) : Int) by omega], rfl, by omega, hin, hid ⟨fun t ht => ?_, I.out.2⟩⟩
                            have := HS.out t ((lo + hi') / 2) (by omega) (by omega)
                            rw [Y.out] at this
                            omega
                          case measure => simp [intOf]; omega
                        · go_wp2
                          go_round
                          case rel =>
                            refine ⟨lo, (lo + hi') / 2, rfl, by rw [show ((lo : Int) + (hi' : Int)) / 2 = (((lo + hi') / 2 : Nat) : Int) by omega], by omega, by omega, hid ⟨I.out.1, fun t ht htn => ?_⟩⟩
                            have := HS.out ((lo + hi') / 2) t ht htn
                            rw [Y.out] at this
                            omega
                          case measure => simp [intOf]; omega
                    · obtain rfl : hi' = lo := by omega
                      have hme := mem_iff I.out.1 (by rw [← HM3.out]; exact I.out.2) HASC.out
                      rw [← HM3.out] at hme
                      rw [hme] at HNXT
                      clear hme I
                      cases q
                      · have HN2 : Hid (false = inSome ls x (i + 1)) := hid (HNXT.out.symm)
                        clear HNXT
                        go_wp2
                        go_round
                        case rel => exact ⟨i + 1, by omega, by go_num, false, rfl, HN2⟩
                        case measure => simp [intOf]; omega
                      · by_cases hl3 : hi' < m3
                        · have i5 : (hi' : Int) < (m3 : Int) := by omega
                          rcases HRW.out with h0 | ⟨b3, o3, rfl, hcl⟩
                          · omega
                          · have cm : wr.cell? ⟨b3, o3 + hi', none⟩ = some (.int .i64 (l.getD hi' 0)) := hcl _ hl3
                            rw [decide_eq_true hl3, Bool.true_and, Bool.true_and] at HNXT
                            clear hcl
                            generalize l.getD hi' 0 = y at *
                            have HN2 : Hid (decide (y = x) = inSome ls x (i + 1)) := hid (HNXT.out.symm)
                            clear HNXT
                            go_wp2
                            go_round
                            case rel => exact ⟨i + 1, by omega, by go_num, _, rfl, HN2⟩
                            case measure => simp [intOf]; omega
                        · have i5 : ¬ ((hi' : Int) < (m3 : Int)) := by omega
                          rw [decide_eq_false hl3, Bool.false_and, Bool.true_and] at HNXT
                          have HN2 : Hid (false = inSome ls x (i + 1)) := hid (HNXT.out.symm)
                          clear HNXT
                          go_wp2
                          go_round
                          case rel => exact ⟨i + 1, by omega, by go_num, false, rfl, HN2⟩
                          case measure => simp [intOf]; omega
                · obtain rfl : i = j := by omega
                  have i3 : ¬ ((i : Int) < (i : Int)) := by omega
                  have hqa := hq.out.trans HSA.out
                  clear hq HSA
                  cases q
                  · have HE1 := hid (HMISS.out hqa.symm)
                    clear hqa HHIT HMISS
                    go_wp2
                    go_roundw
                    case rel => exact ⟨k + 1, by omega, by go_num, hid ⟨by rw [HE1.out]; exact HOW.out, HNX.out⟩⟩
                    case measure => simp [intOf]; omega
                  · have HE1 := hid (HHIT.out hqa.symm)
                    have hown := HOW.out
                    clear hqa HHIT HMISS HOW
                    generalize ((ls.getD 0 []).take k).filter (inAll ls) = F at *
                    go_wp2_with (first
                      | (at_builtin; refine wpList_append_own _ rfl _ _ 32 rfl w.heap.size 3 j0 (.int .i64 0) 1 8 Try.underlying32 hj hy0 hy1 hy2 rfl (by decide) _ _ _ rfl (hown.alloc _) ⟨wr.heap.size, 0, none⟩ 1 1 [.int .i64 x] rfl rfl (new1_cell _ _ _) (one_int _) (by unfold maxLen; omega) (by omega) (by simp; omega) ?_))
                    intro v' w1 hown' hgrow _
                    have HB2 := hid (own_grow hns hown HNX.out hgrow)
                    have HO2 : Hid (w1.ownsRow w.heap.size 3 1 v' (((ls.getD 0 []).take (k + 1)).filter (inAll ls)).length ((((ls.getD 0 []).take (k + 1)).filter (inAll ls)).map (Value.int .i64))) := hid (by
                      rw [HE1.out]; simpa using hown')
                    clear hown' hgrow hown
                    go_wp2
                    go_roundw
                    case rel => exact ⟨k + 1, by omega, by go_num, hid ⟨HO2.out, HB2.out⟩⟩
                    case measure => simp [intOf]; omega
          · obtain rfl : k = m := by omega
            have i2 : ¬ ((k : Int) < (k : Int)) := by omega
            rw [HML.out, List.take_length, ← e0.out] at hown
            have HOW := hid hown
            clear hown
            go_wp2
            go_ret
            exact ⟨_, rfl, HOW.out, hnx⟩

end Go.Proofs.Ytoikfjhgeceimab
