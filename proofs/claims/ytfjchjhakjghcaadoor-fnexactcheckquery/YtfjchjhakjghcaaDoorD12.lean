import Derived.Test.YtfjchjhakjghcaaDoorD10
import Derived.Test.YtfjchjhakjghcaaDoorD11
/-
  spec.l2Name; impl.isRelationName, isArity, areValues, areWeights.
-/
namespace Go.Proofs.YtfjchjhakjghcaaDoor
open Go.RowKit

set_option maxHeartbeats 2000000 in
set_option maxRecDepth 1000000 in
theorem l2Name_calls (w : World) (s : ByteArray) (hs : s.size ≤ 9223372036854775807) : Calls Tryd.prog 47 #[.string s] w fun e w' => e = .returned (.bool (nameB s)) ∧ w' = w := by
  by_cases h0 : s.size = 0
  · have e0 : nameB s = false := by simp [nameB, h0]
    rw [e0]
    have i1 : (s.size : Int) < 1 := by omega
    go_enter Tryd.func47, Tryd.ntmps47
    go_wp2
    go_ret
    exact ⟨rfl, rfl⟩
  have iz : ¬ ((s.size : Int) < 1) := by omega
  by_cases h1 : 30 < s.size
  · have e0 : nameB s = false := by unfold nameB; rw [decide_eq_false (show ¬ s.size ≤ 30 by omega)]; simp
    rw [e0]
    have i1 : (30 : Int) < (s.size : Int) := by omega
    go_enter Tryd.func47, Tryd.ntmps47
    go_wp2
    go_ret
    exact ⟨rfl, rfl⟩
  have i1 : ¬ ((30 : Int) < (s.size : Int)) := by omega
  have i0 : (0 : Int) < (s.size : Int) := by omega
  have hp0 : 0 < s.size := by omega
  have hb0 := byteAt_eq s 0 hp0
  cases h2 : letterB (byteAt s 0)
  · have e0 : nameB s = false := by unfold nameB; rw [h2]; simp
    rw [e0]
    rw [hb0] at h2
    go_enter Tryd.func47, Tryd.ntmps47
    go_wp2_with (first | (go_at_call 71; refine (l2Letter_calls _ _).mono ?_; rintro e w' ⟨rfl, hw'⟩; subst w'))
    go_ret
    exact ⟨rfl, rfl⟩
  obtain ⟨res, hres⟩ : ∃ r, r = nameB s := ⟨_, rfl⟩
  rw [← hres]
  have HT : Hid ((∀ i, i < s.size → nbyteB (byteAt s i) = true) → res = true) := hid (fun h3 => hres.trans (nameB_all (by omega) (by omega) h2 h3))
  have HF : Hid (∀ i, i < s.size → nbyteB (byteAt s i) = false → res = false) := hid (fun i hi h3 => hres.trans (nameB_bad hi h3))
  obtain ⟨n, hn⟩ : ∃ n, n = s.size := ⟨_, rfl⟩
  rw [← hn] at HT HF
  rw [hb0] at h2
  clear hres
  go_enter Tryd.func47, Tryd.ntmps47
  go_wp2_with (first | (go_at_call 71; refine (l2Letter_calls _ _).mono ?_; rintro e w' ⟨rfl, hw'⟩; subst w'))
  go_loop [3] (fun t => ∃ j : Nat, j ≤ n ∧ t = .int .i64 j ∧ Hid (∀ i, i < j → nbyteB (byteAt s i) = true)) (fun t => n - (intOf t).toNat)
  case atStart => exact ⟨0, Nat.zero_le _, rfl, hid (fun i hi => by omega)⟩
  case round =>
    obtain ⟨j, hj, rfl, hok⟩ := hrel
    by_cases hjn : j < n
    · have j1 : (j : Int) < (s.size : Int) := by omega
      have hbj := byteAt_eq s j (by omega)
      have nxt : nbyteB (byteAt s j) = true → Hid (∀ i, i < j + 1 → nbyteB (byteAt s i) = true) := fun e i hi => by
        by_cases e2 : i = j
        · rw [e2]; exact e
        · exact hok.out i (by omega)
      have fin := HF.out j hjn
      clear hok
      rw [hbj] at nxt fin
      unfold nbyteB at nxt fin
      cases hy : letterB ((s[j]'(by omega)).toNat : Int)
      · cases hz : digitB ((s[j]'(by omega)).toNat : Int)
        · by_cases hu : ((s[j]'(by omega)).toNat : Int) = 95
          · have hf := nxt (by rw [hy, hz, decide_eq_true hu]; rfl)
            have hu2 : (((s[j]'(by omega)).toNat : Int) != 95) = false := by simpa using hu
            clear nxt fin
            go_wp2_with (first | (go_at_call 71; refine (l2Letter_calls _ _).mono ?_; rintro e w' ⟨rfl, hw'⟩; subst w') | (go_at_call 72; refine (l2Digit_calls _ _).mono ?_; rintro e w' ⟨rfl, hw'⟩; subst w'))
            go_round
            case rel => exact ⟨j + 1, by omega, by go_num, hf⟩
            case measure => simp [intOf]; omega
          · have hf := hid (fin (by rw [hy, hz, decide_eq_false hu]; rfl))
            have hu2 : (((s[j]'(by omega)).toNat : Int) != 95) = true := by simpa using hu
            clear nxt fin
            go_wp2_with (first | (go_at_call 71; refine (l2Letter_calls _ _).mono ?_; rintro e w' ⟨rfl, hw'⟩; subst w') | (go_at_call 72; refine (l2Digit_calls _ _).mono ?_; rintro e w' ⟨rfl, hw'⟩; subst w'))
            go_ret
            exact ⟨ret_bool (by rw [hf.out]), rfl⟩
        · have hf := nxt (by rw [hy, hz]; rfl)
          clear nxt fin
          go_wp2_with (first | (go_at_call 71; refine (l2Letter_calls _ _).mono ?_; rintro e w' ⟨rfl, hw'⟩; subst w') | (go_at_call 72; refine (l2Digit_calls _ _).mono ?_; rintro e w' ⟨rfl, hw'⟩; subst w'))
          go_round
          case rel => exact ⟨j + 1, by omega, by go_num, hf⟩
          case measure => simp [intOf]; omega
      · have hf := nxt (by rw [hy]; rfl)
        clear nxt fin
        go_wp2_with (first | (go_at_call 71; refine (l2Letter_calls _ _).mono ?_; rintro e w' ⟨rfl, hw'⟩; subst w'))
        go_round
        case rel => exact ⟨j + 1, by omega, by go_num, hf⟩
        case measure => simp [intOf]; omega
    · obtain rfl : j = n := by omega
      have j1 : ¬ ((j : Int) < (s.size : Int)) := by omega
      have hf := hid (HT.out hok.out)
      clear hok
      go_wp2
      go_ret
      exact ⟨ret_bool (by rw [hf.out]), rfl⟩

def relName (s : ByteArray) : Bool := nameB s && !(s.toList == [114, 101, 108])

set_option maxHeartbeats 1000000 in
theorem isRelationName_calls (w : World) (s : ByteArray) (hs : s.size ≤ 9223372036854775807) : Calls Tryd.prog 76 #[.string s] w fun e w' => e = .returned (.bool (relName s)) ∧ w' = w := by
  have K := hid (isName_calls w s hs)
  unfold relName
  generalize nameB s = y at *
  cases y
  all_goals
    go_enter Tryd.func76, Tryd.ntmps76
    go_wp2_with (first | (go_at_call 58; refine K.out.mono ?_; rintro e w' ⟨rfl, hw'⟩; subst w'))
    go_ret
    exact ⟨ret_bool (by simp), rfl⟩

def arityB (n : Int) : Bool := decide (1 ≤ n) && decide (n ≤ 3)

set_option maxHeartbeats 1000000 in
theorem isArity_calls (w : World) (n : Int) : Calls Tryd.prog 77 #[.int .i64 n] w fun e w' => e = .returned (.bool (arityB n)) ∧ w' = w := by
  by_cases h1 : 1 ≤ n <;> by_cases h2 : n ≤ 3
  all_goals first | omega | skip
  all_goals
    go_enter Tryd.func77, Tryd.ntmps77
    go_wp2
    go_ret
    exact ⟨ret_bool (by unfold arityB; simp [h1, h2]), rfl⟩

def valB (x : Int) : Bool := decide (0 ≤ x) && decide (x ≤ 1000000)
def wtB (x : Int) : Bool := decide (-1000000 ≤ x) && decide (x ≤ 1000000)

set_option maxHeartbeats 2000000 in
set_option maxRecDepth 1000000 in
theorem areWeights_calls (w : World) (v : Value) (l : List Int) (h : IS w v l) (hl : l.length ≤ 1099511627776) :
    Calls Tryd.prog 80 #[v] w fun e w' => e = .returned (.bool (l.all wtB)) ∧ w' = w := by
  obtain ⟨a, cap, rfl, hc⟩ := h
  obtain ⟨n, hn⟩ : ∃ n, n = l.length := ⟨_, rfl⟩
  obtain ⟨res, hres⟩ : ∃ r, r = l.all wtB := ⟨_, rfl⟩
  rw [← hres]
  have HR := hid hres
  rw [← hn] at hc hl ⊢
  have HC := hid hc
  have HN := hid hn
  clear hc hn hres
  go_enter Tryd.func80, Tryd.ntmps80
  go_wp2
  go_loop [7] (fun t => ∃ j : Nat, j ≤ n ∧ t = .int .i64 j ∧ Hid (∀ i, i < j → wtB (l.getD i 0) = true)) (fun t => n - (intOf t).toNat)
  case atStart => exact ⟨0, Nat.zero_le _, rfl, hid (fun i hi => by omega)⟩
  case round =>
    obtain ⟨j, hj, rfl, hok⟩ := hrel
    by_cases hjn : j < n
    · have i1 : (j : Int) < (n : Int) := by omega
      rcases HC.out with h0 | ⟨b, o, rfl, hcell⟩
      · omega
      · have c1 : w.cell? ⟨b, o + j, none⟩ = some (.int .i64 (l.getD j 0)) := hcell j hjn
        have fin : wtB (l.getD j 0) = false → Hid (res = false) := fun e => hid (HR.out.trans (all_getD_false wtB 0 l j (by rw [← HN.out]; exact hjn) e))
        have nxt : wtB (l.getD j 0) = true → Hid (∀ i, i < j + 1 → wtB (l.getD i 0) = true) := fun e i hi => by
          by_cases e2 : i = j
          · rw [e2]; exact e
          · exact hok.out i (by omega)
        clear hcell hok
        generalize l.getD j 0 = x at *
        unfold wtB at nxt fin
        by_cases h1 : x < -1000000
        · have hf := fin (by rw [decide_eq_false (by omega)]; rfl)
          clear fin nxt
          go_wp2
          go_ret
          exact ⟨ret_bool (by rw [hf.out]), rfl⟩
        · by_cases h2 : 1000000 < x
          · have hf := fin (by rw [decide_eq_false (show ¬ x ≤ 1000000 by omega)]; simp)
            clear fin nxt
            go_wp2
            go_ret
            exact ⟨ret_bool (by rw [hf.out]), rfl⟩
          · have hf := nxt (by rw [decide_eq_true (by omega), decide_eq_true (by omega)]; rfl)
            clear fin nxt
            go_wp2
            go_round
            case rel => exact ⟨j + 1, by omega, by go_num, hf⟩
            case measure => simp [intOf]; omega
    · obtain rfl : j = n := by omega
      have hf : Hid (res = true) := hid (HR.out.trans (all_getD wtB 0 l (fun i hi => hok.out i (by rw [HN.out]; exact hi))))
      have i1 : ¬ ((j : Int) < (j : Int)) := by omega
      clear hok
      go_wp2
      go_ret
      exact ⟨ret_bool (by rw [hf.out]), rfl⟩

set_option maxHeartbeats 2000000 in
set_option maxRecDepth 1000000 in
theorem areValues_calls (w : World) (ve : Value) (ls : List (List Int)) (h : ISS w ve ls) (hl : Short ls) :
    Calls Tryd.prog 79 #[ve] w fun e w' => e = .returned (.bool (ls.all fun l => l.all valB)) ∧ w' = w := by
  obtain ⟨a, cap, rfl, hc⟩ := h
  obtain ⟨hl1, hl2⟩ := hl
  obtain ⟨n, hn⟩ : ∃ n, n = ls.length := ⟨_, rfl⟩
  obtain ⟨res, hres⟩ : ∃ r, r = ls.all fun l => l.all valB := ⟨_, rfl⟩
  rw [← hres]
  rw [← hn] at hc hl1 ⊢
  have HR := hid hres
  have HC := hid hc
  have HN := hid hn
  have HL := hid hl2
  clear hc hn hl2 hres
  go_enter Tryd.func79, Tryd.ntmps79
  go_wp2
  go_loop [9] (fun t => ∃ j : Nat, j ≤ n ∧ t = .int .i64 j ∧ Hid (∀ i, i < j → (ls.getD i []).all valB = true)) (fun t => n - (intOf t).toNat)
  case atStart => exact ⟨0, Nat.zero_le _, rfl, hid (fun i hi => by omega)⟩
  case round =>
    obtain ⟨j, hj, rfl, hok⟩ := hrel
    by_cases hjn : j < n
    · have i1 : (j : Int) < (n : Int) := by omega
      rcases HC.out with h0 | ⟨b, o, rfl, hcell⟩
      · omega
      · obtain ⟨u, c1, hu⟩ := hcell j hjn
        have hml := HL.out j
        obtain ⟨a1, cap1, rfl, hu2⟩ := hu
        have HU := hid hu2
        have HF : Hid (∀ i, i < (ls.getD j []).length → valB ((ls.getD j []).getD i 0) = false → res = false) := hid (fun i hi e => HR.out.trans (all_getD_false (fun l => l.all valB) [] ls j (by rw [← HN.out]; exact hjn) (all_getD_false valB 0 _ i hi e)))
        have HX : Hid ((∀ k, k < (ls.getD j []).length → valB ((ls.getD j []).getD k 0) = true) → ∀ i, i < j + 1 → (ls.getD i []).all valB = true) := hid (fun e i hi => by
          by_cases e2 : i = j
          · rw [e2]; exact all_getD valB 0 _ e
          · exact hok.out i (by omega))
        clear hcell hok hu2
        generalize ls.getD j [] = l at *
        obtain ⟨m, hm⟩ : ∃ m, m = l.length := ⟨_, rfl⟩
        rw [← hm] at c1 hml HU HF HX
        clear hm
        go_wp2
        go_loop [15] (fun t => ∃ i : Nat, i ≤ m ∧ t = .int .i64 i ∧ Hid (∀ k, k < i → valB (l.getD k 0) = true)) (fun t => m - (intOf t).toNat)
        case atStart => exact ⟨0, Nat.zero_le _, rfl, hid (fun k hk => by omega)⟩
        case round =>
          obtain ⟨i, hi, rfl, hoki⟩ := hrel
          by_cases him : i < m
          · have j1 : (i : Int) < (m : Int) := by omega
            rcases HU.out with h0 | ⟨b', o', rfl, hcl⟩
            · omega
            · have c2 : w.cell? ⟨b', o' + i, none⟩ = some (.int .i64 (l.getD i 0)) := hcl i him
              have fin := HF.out i him
              have nxt : valB (l.getD i 0) = true → Hid (∀ k, k < i + 1 → valB (l.getD k 0) = true) := fun e k hk => by
                by_cases e2 : k = i
                · rw [e2]; exact e
                · exact hoki.out k (by omega)
              clear hcl hoki
              generalize l.getD i 0 = x at *
              unfold valB at nxt fin
              by_cases h1 : x < 0
              · have hf := hid (fin (by rw [decide_eq_false (by omega)]; rfl))
                clear fin nxt
                go_wp2
                go_ret
                exact ⟨ret_bool (by rw [hf.out]), rfl⟩
              · by_cases h2 : 1000000 < x
                · have hf := hid (fin (by rw [decide_eq_false (show ¬ x ≤ 1000000 by omega)]; simp))
                  clear fin nxt
                  go_wp2
                  go_ret
                  exact ⟨ret_bool (by rw [hf.out]), rfl⟩
                · have hf := nxt (by rw [decide_eq_true (by omega), decide_eq_true (by omega)]; rfl)
                  clear fin nxt
                  go_wp2
                  go_round
                  case rel => exact ⟨i + 1, by omega, by go_num, hf⟩
                  case measure => simp [intOf]; omega
          · obtain rfl : i = m := by omega
            have j1 : ¬ ((i : Int) < (i : Int)) := by omega
            have hnx := hid (HX.out hoki.out)
            clear hoki
            go_wp2
            go_round
            case rel => exact ⟨j + 1, by omega, by go_num, hnx⟩
            case measure => simp [intOf]; omega
    · obtain rfl : j = n := by omega
      have i1 : ¬ ((j : Int) < (j : Int)) := by omega
      have hf : Hid (res = true) := hid (HR.out.trans (all_getD (fun l => l.all valB) [] ls (fun i hi => hok.out i (by rw [HN.out]; exact hi))))
      clear hok
      go_wp2
      go_ret
      exact ⟨ret_bool (by rw [hf.out]), rfl⟩

end Go.Proofs.YtfjchjhakjghcaaDoor
