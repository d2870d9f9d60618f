import Derived.Test.YtegcpplkcahkhaaGreatB06
import Derived.Test.YtegcpplkcahkhaaGreatB08
/-
  spec.l2Name; impl.isRelationName, isArity, areValues, areWeights.
-/
namespace Go.Proofs.YtegcpplkcahkhaaGreat
open Go.RowKit

set_option maxHeartbeats 2000000 in
set_option maxRecDepth 1000000 in
theorem l2Name_calls (w : World) (s : ByteArray) (hs : s.size ≤ 9223372036854775807) : Calls Tryz.prog 73 #[.string s] w fun e w' => e = .returned (.bool (nameB s)) ∧ w' = w := by
  by_cases h0 : s.size = 0
  · have e0 : nameB s = false := by simp [nameB, h0]
    rw [e0]
    have i1 : (s.size : Int) < 1 := by omega
    go_enter Tryz.func73, Tryz.ntmps73
    go_wp2
    go_ret
    exact ⟨rfl, rfl⟩
  have iz : ¬ ((s.size : Int) < 1) := by omega
  by_cases h1 : 30 < s.size
  · have e0 : nameB s = false := by unfold nameB; rw [decide_eq_false (show ¬ s.size ≤ 30 by omega)]; simp
    rw [e0]
    have i1 : (30 : Int) < (s.size : Int) := by omega
    go_enter Tryz.func73, Tryz.ntmps73
    go_wp2
    go_ret
    exact ⟨rfl, rfl⟩
  have i1 : ¬ ((30 : Int) < (s.size : Int)) := by omega
  have i0 : (0 : Int) < (s.size : Int) := by omega
  have hp0 : 0 < s.size := by omega
  have hb0 := byteAt_eq s 0 hp0
  cases h2 : letterB (byteAt s 0)
  · have e0 : nameB s = false := by unfold nameB; rw [h2]; simp
    rw [e0]
    rw [hb0] at h2
    go_enter Tryz.func73, Tryz.ntmps73
    go_wp2_with (first | (go_at_call 93; refine (l2Letter_calls _ _).mono ?_; rintro e w' ⟨rfl, hw'⟩; subst w'))
    go_ret
    exact ⟨rfl, rfl⟩
  obtain ⟨res, hres⟩ : ∃ r, r = nameB s := ⟨_, rfl⟩
  rw [← hres]
  have HT : Hid ((∀ i, i < s.size → nbyteB (byteAt s i) = true) → res = true) := hid (fun h3 => hres.trans (nameB_all (by omega) (by omega) h2 h3))
  have HF : Hid (∀ i, i < s.size → nbyteB (byteAt s i) = false → res = false) := hid (fun i hi h3 => hres.trans (nameB_bad hi h3))
  obtain ⟨n, hn⟩ : ∃ n, n = s.size := ⟨_, rfl⟩
  rw [← hn] at HT HF
  rw [hb0] at h2
  clear hres
  go_enter Tryz.func73, Tryz.ntmps73
  go_wp2_with (first | (go_at_call 93; refine (l2Letter_calls _ _).mono ?_; rintro e w' ⟨rfl, hw'⟩; subst w'))
  go_loop [3] (fun t => ∃ j : Nat, j ≤ n ∧ t = .int .i64 j ∧ Hid (∀ i, i < j → nbyteB (byteAt s i) = true)) (fun t => n - (intOf t).toNat)
  case atStart => exact ⟨0, Nat.zero_le _, rfl, hid (fun i hi => by omega)⟩
  case round =>
    obtain ⟨j, hj, rfl, hok⟩ := hrel
    by_cases hjn : j < n
    · have j1 : (j : Int) < (s.size : Int) := by omega
      have hbj := byteAt_eq s j (by omega)
      have nxt : nbyteB (byteAt s j) = true → Hid (∀ i, i < j + 1 → nbyteB (byteAt s i) = true) := fun e i hi => by
        by_cases e2 : i = j
        · rw [e2]; exact e
        · exact hok.out i (by omega)
      have fin := HF.out j hjn
      clear hok
      rw [hbj] at nxt fin
      unfold nbyteB at nxt fin
      cases hy : letterB ((s[j]'(by omega)).toNat : Int)
      · cases hz : digitB ((s[j]'(by omega)).toNat : Int)
        · by_cases hu : ((s[j]'(by omega)).toNat : Int) = 95
          · have hf := nxt (by rw [hy, hz, decide_eq_true hu]; rfl)
            have hu2 : (((s[j]'(by omega)).toNat : Int) != 95) = false := by simpa using hu
            clear nxt fin
            go_wp2_with (first | (go_at_call 93; refine (l2Letter_calls _ _).mono ?_; rintro e w' ⟨rfl, hw'⟩; subst w') | (go_at_call 94; refine (l2Digit_calls _ _).mono ?_; rintro e w' ⟨rfl, hw'⟩; subst w'))
            go_round
            case rel => exact ⟨j + 1, by omega, by go_num, hf⟩
            case measure => simp [intOf]; omega
          · have hf := hid (fin (by rw [hy, hz, decide_eq_false hu]; rfl))
            have hu2 : (((s[j]'(by omega)).toNat : Int) != 95) = true := by simpa using hu
            clear nxt fin
            go_wp2_with (first | (go_at_call 93; refine (l2Letter_calls _ _).mono ?_; rintro e w' ⟨rfl, hw'⟩; subst w') | (go_at_call 94; refine (l2Digit_calls _ _).mono ?_; rintro e w' ⟨rfl, hw'⟩; subst w'))
            go_ret
            exact ⟨ret_bool (by rw [hf.out]), rfl⟩
        · have hf := nxt (by rw [hy, hz]; rfl)
          clear nxt fin
          go_wp2_with (first | (go_at_call 93; refine (l2Letter_calls _ _).mono ?_; rintro e w' ⟨rfl, hw'⟩; subst w') | (go_at_call 94; refine (l2Digit_calls _ _).mono ?_; rintro e w' ⟨rfl, hw'⟩; subst w'))
          go_round
          case rel => exact ⟨j + 1, by omega, by go_num, hf⟩
          case measure => simp [intOf]; omega
      · have hf := nxt (by rw [hy]; rfl)
        clear nxt fin
        go_wp2_with (first | (go_at_call 93; refine (l2Letter_calls _ _).mono ?_; rintro e w' ⟨rfl, hw'⟩; subst w'))
        go_round
        case rel => exact ⟨j + 1, by omega, by go_num, hf⟩
        case measure => simp [intOf]; omega
    · obtain rfl : j = n := by omega
      have j1 : ¬ ((j : Int) < (s.size : Int)) := by omega
      have hf := hid (HT.out hok.out)
      clear hok
      go_wp2
      go_ret
      exact ⟨ret_bool (by rw [hf.out]), rfl⟩

def relName (s : ByteArray) : Bool := nameB s && !(s.toList == [114, 101, 108])

set_option maxHeartbeats 1000000 in
theorem isRelationName_calls (w : World) (s : ByteArray) (hs : s.size ≤ 9223372036854775807) : Calls Tryz.prog 96 #[.string s] w fun e w' => e = .returned (.bool (relName s)) ∧ w' = w := by
  have K := hid (isName_calls w s hs)
  unfold relName
  generalize nameB s = y at *
  cases y
  all_goals
    go_enter Tryz.func96, Tryz.ntmps96
    go_wp2_with (first | (go_at_call 81; refine K.out.mono ?_; rintro e w' ⟨rfl, hw'⟩; subst w'))
    go_ret
    exact ⟨ret_bool (by simp), rfl⟩

def arityB (n : Int) : Bool := decide (1 ≤ n) && decide (n ≤ 3)

set_option maxHeartbeats 1000000 in
theorem isArity_calls (w : World) (n : Int) : Calls Tryz.prog 97 #[.int .i64 n] w fun e w' => e = .returned (.bool (arityB n)) ∧ w' = w := by
  by_cases h1 : 1 ≤ n <;> by_cases h2 : n ≤ 3
  all_goals first | omega | skip
  all_goals
    go_enter Tryz.func97, Tryz.ntmps97
    go_wp2
    go_ret
    exact ⟨ret_bool (by unfold arityB; simp [h1, h2]), rfl⟩

def valB (x : Int) : Bool := decide (0 ≤ x) && decide (x ≤ 1000000)
def wtB (x : Int) : Bool := decide (-1000000 ≤ x) && decide (x ≤ 1000000)

set_option maxHeartbeats 2000000 in
set_option maxRecDepth 1000000 in
theorem areWeights_calls (w : World) (v : Value) (l : List Int) (h : IS w v l) (hl : l.length ≤ 1099511627776) :
    Calls Tryz.prog 100 #[v] w fun e w' => e = .returned (.bool (l.all wtB)) ∧ w' = w := by
  obtain ⟨a, cap, rfl, hc⟩ := h
  obtain ⟨n, hn⟩ : ∃ n, n = l.length := ⟨_, rfl⟩
  obtain ⟨res, hres⟩ : ∃ r, r = l.all wtB := ⟨_, rfl⟩
  rw [← hres]
  have HR := hid hres
  rw [← hn] at hc hl ⊢
  have HC := hid hc
  have HN := hid hn
  clear hc hn hres
  go_enter Tryz.func100, Tryz.ntmps100
  go_wp2
  go_loop [7] (fun t => ∃ j : Nat, j ≤ n ∧ t = .int .i64 j ∧ Hid (∀ i, i < j → wtB (l.getD i 0) = true)) (fun t => n - (intOf t).toNat)
  case atStart => exact ⟨0, Nat.zero_le _, rfl, hid (fun i hi => by omega)⟩
  case round =>
    obtain ⟨j, hj, rfl, hok⟩ := hrel
    by_cases hjn : j < n
    · have i1 : (j : Int) < (n : Int) := by omega
      rcases HC.out with h0 | ⟨b, o, rfl, hcell⟩
      · omega
      · have c1 : w.cell? ⟨b, o + j, none⟩ = some (.int .i64 (l.getD j 0)) := hcell j hjn
        have fin : wtB (l.getD j 0) = false → Hid (res = false) := fun e => hid (HR.out.trans (all_getD_false wtB 0 l j (by rw [← HN.out]; exact hjn) e))
        have nxt : wtB (l.getD j 0) = true → Hid (∀ i, i < j + 1 → wtB (l.getD i 0) = true) := fun e i hi => by
          by_cases e2 : i = j
          · rw [e2]; exact e
          · exact hok.out i (by omega)
        clear hcell hok
        generalize l.getD j 0 = x at *
        unfold wtB at nxt fin
        by_cases h1 : x < -1000000
        · have hf := fin (by rw [decide_eq_false (by omega)]; rfl)
          clear fin nxt
          go_wp2
          go_ret
          exact ⟨ret_bool (by rw [hf.out]), rfl⟩
        · by_cases h2 : 1000000 < x
          · have hf := fin (by rw [decide_eq_false (show ¬ x ≤ 1000000 by omega)]; simp)
            clear fin nxt
            go_wp2
            go_ret
            exact ⟨ret_bool (by rw [hf.out]), rfl⟩
          · have hf := nxt (by rw [decide_eq_true (by omega), decide_eq_true (by omega)]; rfl)
            clear fin nxt
            go_wp2
            go_round
            case rel => exact ⟨j + 1, by omega, by go_num, hf⟩
            case measure => simp [intOf]; omega
    · obtain rfl : j = n := by omega
      have hf : Hid (res = true) := hid (HR.out.trans (all_getD wtB 0 l (fun i hi => hok.out i (by rw [HN.out]; exact hi))))
      have i1 : ¬ ((j : Int) < (j : Int)) := by omega
      clear hok
      go_wp2
      go_ret
      exact ⟨ret_bool (by rw [hf.out]), rfl⟩

set_option maxHeartbeats 2000000 in
set_option maxRecDepth 1000000 in
theorem areValues_calls (w : World) (ve : Value) (ls : List (List Int)) (h : ISS w ve ls) (hl : Short ls) :
    Calls Tryz.prog 99 #[ve] w fun e w' => e = .returned (.bool (ls.all fun l => l.all valB)) ∧ w' = w := by
  obtain ⟨a, cap, rfl, hc⟩ := h
  obtain ⟨hl1, hl2⟩ := hl
  obtain ⟨n, hn⟩ : ∃ n, n = ls.length := ⟨_, rfl⟩
  obtain ⟨res, hres⟩ : ∃ r, r = ls.all fun l => l.all valB := ⟨_, rfl⟩
  rw [← hres]
  rw [← hn] at hc hl1 ⊢
  have HR := hid hres
  have HC := hid hc
  have HN := hid hn
  have HL := hid hl2
  clear hc hn hl2 hres
  go_enter Tryz.func99, Tryz.ntmps99
  go_wp2
  go_loop [9] (fun t => ∃ j : Nat, j ≤ n ∧ t = .int .i64 j ∧ Hid (∀ i, i < j → (ls.getD i []).all valB = true)) (fun t => n - (intOf t).toNat)
  case atStart => exact ⟨0, Nat.zero_le _, rfl, hid (fun i hi => by omega)⟩
  case round =>
    obtain ⟨j, hj, rfl, hok⟩ := hrel
    by_cases hjn : j < n
    · have i1 : (j : Int) < (n : Int) := by omega
      rcases HC.out with h0 | ⟨b, o, rfl, hcell⟩
      · omega
      · obtain ⟨u, c1, hu⟩ := hcell j hjn
        have hml := HL.out j
        obtain ⟨a1, cap1, rfl, hu2⟩ := hu
        have HU := hid hu2
        have HF : Hid (∀ i, i < (ls.getD j []).length → valB ((ls.getD j []).getD i 0) = false → res = false) := hid (fun i hi e => HR.out.trans (all_getD_false (fun l => l.all valB) [] ls j (by rw [← HN.out]; exact hjn) (all_getD_false valB 0 _ i hi e)))
        have HX : Hid ((∀ k, k < (ls.getD j []).length → valB ((ls.getD j []).getD k 0) = true) → ∀ i, i < j + 1 → (ls.getD i []).all valB = true) := hid (fun e i hi => by
          by_cases e2 : i = j
          · rw [e2]; exact all_getD valB 0 _ e
          · exact hok.out i (by omega))
        clear hcell hok hu2
        generalize ls.getD j [] = l at *
        obtain ⟨m, hm⟩ : ∃ m, m = l.length := ⟨_, rfl⟩
        rw [← hm] at c1 hml HU HF HX
        clear hm
        go_wp2
        go_loop [15] (fun t => ∃ i : Nat, i ≤ m ∧ t = .int .i64 i ∧ Hid (∀ k, k < i → valB (l.getD k 0) = true)) (fun t => m - (intOf t).toNat)
        case atStart => exact ⟨0, Nat.zero_le _, rfl, hid (fun k hk => by omega)⟩
        case round =>
          obtain ⟨i, hi, rfl, hoki⟩ := hrel
          by_cases him : i < m
          · have j1 : (i : Int) < (m : Int) := by omega
            rcases HU.out with h0 | ⟨b', o', rfl, hcl⟩
            · omega
            · have c2 : w.cell? ⟨b', o' + i, none⟩ = some (.int .i64 (l.getD i 0)) := hcl i him
              have fin := HF.out i him
              have nxt : valB (l.getD i 0) = true → Hid (∀ k, k < i + 1 → valB (l.getD k 0) = true) := fun e k hk => by
                by_cases e2 : k = i
                · rw [e2]; exact e
                · exact hoki.out k (by omega)
              clear hcl hoki
              generalize l.getD i 0 = x at *
              unfold valB at nxt fin
              by_cases h1 : x < 0
              · have hf := hid (fin (by rw [decide_eq_false (by omega)]; rfl))
                clear fin nxt
                go_wp2
                go_ret
                exact ⟨ret_bool (by rw [hf.out]), rfl⟩
              · by_cases h2 : 1000000 < x
                · have hf := hid (fin (by rw [decide_eq_false (show ¬ x ≤ 1000000 by omega)]; simp))
                  clear fin nxt
                  go_wp2
                  go_ret
                  exact ⟨ret_bool (by rw [hf.out]), rfl⟩
                · have hf := nxt (by rw [decide_eq_true (by omega), decide_eq_true (by omega)]; rfl)
                  clear fin nxt
                  go_wp2
                  go_round
                  case rel => exact ⟨i + 1, by omega, by go_num, hf⟩
                  case measure => simp [intOf]; omega
          · obtain rfl : i = m := by omega
            have j1 : ¬ ((i : Int) < (i : Int)) := by omega
            have hnx := hid (HX.out hoki.out)
            clear hoki
            go_wp2
            go_round
            case rel => exact ⟨j + 1, by omega, by go_num, hnx⟩
            case measure => simp [intOf]; omega
    · obtain rfl : j = n := by omega
      have i1 : ¬ ((j : Int) < (j : Int)) := by omega
      have hf : Hid (res = true) := hid (HR.out.trans (all_getD (fun l => l.all valB) [] ls (fun i hi => hok.out i (by rw [HN.out]; exact hi))))
      clear hok
      go_wp2
      go_ret
      exact ⟨ret_bool (by rw [hf.out]), rfl⟩

end Go.Proofs.YtegcpplkcahkhaaGreat

/-
  Relations: impl.isRelation.
-/
namespace Go.Proofs.YtegcpplkcahkhaaGreat
open Go.RowKit

structure RelV where
  name : ByteArray
  ar : Int
  rows : List (List Int)
  ws : List Int

def relB (r : RelV) : Bool := relName r.name && arityB r.ar && decide (r.rows.length ≤ 2000) && rowsB r.rows r.ar && (r.rows.all fun l => l.all valB) && decide (r.ws.length = r.rows.length) && r.ws.all wtB

structure IRel (w : World) (vr vw : Value) (r : RelV) : Prop where
  rows : ISS w vr r.rows
  ws : IS w vw r.ws

theorem IRel.below {w w' : World} {vr vw : Value} {r : RelV} (h : IRel w vr vw r) (hb : Below w.heap.size w w') : IRel w' vr vw r := ⟨h.rows.below hb, h.ws.below hb⟩

/-- what a copy may be made of -/
structure OkRel (r : RelV) : Prop where
  name : r.name.size ≤ 9223372036854775807
  rows : Short r.rows
  ws : r.ws.length ≤ 1099511627776

set_option maxHeartbeats 4000000 in
set_option maxRecDepth 1000000 in
theorem isRelation_calls (w : World) (vr vw : Value) (r : RelV) (h : IRel w vr vw r) (hr : OkRel r) :
    Calls Tryz.prog 80 #[.agg #[.string r.name, .int .i64 r.ar, vr, vw]] w fun e w' => e = .returned (.bool (relB r)) ∧ Below w.heap.size w w' := by
  have HB : Hid (Below w.heap.size w (w.alloc (.cells #[.string r.name, .int .i64 r.ar, vr, vw] 65))) := hid ((Below.refl _ _).alloc (Nat.le_refl _) _)
  have K1 := hid (isRelationName_calls (w.alloc (.cells #[.string r.name, .int .i64 r.ar, vr, vw] 65)) r.name hr.name)
  have K2 := hid (isArity_calls (w.alloc (.cells #[.string r.name, .int .i64 r.ar, vr, vw] 65)) r.ar)
  have K4 := hid (areSortedRows_calls (w.alloc (.cells #[.string r.name, .int .i64 r.ar, vr, vw] 65)) vr r.rows r.ar (h.rows.below HB.out) hr.rows)
  have K5 := hid (areValues_calls (w.alloc (.cells #[.string r.name, .int .i64 r.ar, vr, vw] 65)) vr r.rows (h.rows.below HB.out) hr.rows)
  have K7 := hid (areWeights_calls (w.alloc (.cells #[.string r.name, .int .i64 r.ar, vr, vw] 65)) vw r.ws (h.ws.below HB.out) hr.ws)
  have hr1 := hr.rows.1
  have hr2 := hr.ws
  obtain ⟨a1, k1, rfl, -⟩ := h.rows
  obtain ⟨a2, k2, rfl, -⟩ := h.ws
  clear h hr
  unfold relB
  generalize relName r.name = b1 at *
  generalize arityB r.ar = b2 at *
  generalize rowsB r.rows r.ar = b4 at *
  generalize (r.rows.all fun l => l.all valB) = b5 at *
  generalize r.ws.all wtB = b7 at *
  generalize r.rows.length = n at *
  generalize r.ws.length = m at *
  generalize r.name = nm at *
  generalize r.ar = ar at *
  cases b1
  case false =>
    clear K2 K4 K5 K7
    go_enter Tryz.func80, Tryz.ntmps80
    go_wp2_with (first | (go_at_call 96; refine K1.out.mono ?_; rintro e w' ⟨rfl, hw'⟩; subst w'))
    go_ret
    exact ⟨ret_bool (by simp), HB.out⟩
  cases b2
  case false =>
    clear K4 K5 K7
    go_enter Tryz.func80, Tryz.ntmps80
    go_wp2_with (first | (go_at_call 96; refine K1.out.mono ?_; rintro e w' ⟨rfl, hw'⟩; subst w') | (go_at_call 97; refine K2.out.mono ?_; rintro e w' ⟨rfl, hw'⟩; subst w'))
    go_ret
    exact ⟨ret_bool (by simp), HB.out⟩
  by_cases h3 : 2000 < n
  · have i3 : ¬ ((n : Int) ≤ 2000) := by omega
    have d3 : ¬ (n ≤ 2000) := by omega
    clear K4 K5 K7
    go_enter Tryz.func80, Tryz.ntmps80
    go_wp2_with (first | (go_at_call 96; refine K1.out.mono ?_; rintro e w' ⟨rfl, hw'⟩; subst w') | (go_at_call 97; refine K2.out.mono ?_; rintro e w' ⟨rfl, hw'⟩; subst w'))
    go_ret
    exact ⟨ret_bool (by simp), HB.out⟩
  have i3 : (n : Int) ≤ 2000 := by omega
  have d3 : n ≤ 2000 := by omega
  cases b4
  case false =>
    clear K5 K7
    go_enter Tryz.func80, Tryz.ntmps80
    go_wp2_with (first | (go_at_call 96; refine K1.out.mono ?_; rintro e w' ⟨rfl, hw'⟩; subst w') | (go_at_call 97; refine K2.out.mono ?_; rintro e w' ⟨rfl, hw'⟩; subst w') | (go_at_call 98; refine K4.out.mono ?_; rintro e w' ⟨rfl, hw'⟩; subst w'))
    go_ret
    exact ⟨ret_bool (by simp), HB.out⟩
  cases b5
  case false =>
    clear K7
    go_enter Tryz.func80, Tryz.ntmps80
    go_wp2_with (first | (go_at_call 96; refine K1.out.mono ?_; rintro e w' ⟨rfl, hw'⟩; subst w') | (go_at_call 97; refine K2.out.mono ?_; rintro e w' ⟨rfl, hw'⟩; subst w') | (go_at_call 98; refine K4.out.mono ?_; rintro e w' ⟨rfl, hw'⟩; subst w') | (go_at_call 99; refine K5.out.mono ?_; rintro e w' ⟨rfl, hw'⟩; subst w'))
    go_ret
    exact ⟨ret_bool (by simp), HB.out⟩
  by_cases h6 : m = n
  · subst h6
    go_enter Tryz.func80, Tryz.ntmps80
    go_wp2_with (first | (go_at_call 96; refine K1.out.mono ?_; rintro e w' ⟨rfl, hw'⟩; subst w') | (go_at_call 97; refine K2.out.mono ?_; rintro e w' ⟨rfl, hw'⟩; subst w') | (go_at_call 98; refine K4.out.mono ?_; rintro e w' ⟨rfl, hw'⟩; subst w') | (go_at_call 99; refine K5.out.mono ?_; rintro e w' ⟨rfl, hw'⟩; subst w') | (go_at_call 100; refine K7.out.mono ?_; rintro e w' ⟨rfl, hw'⟩; subst w'))
    go_ret
    exact ⟨ret_bool (by simp [d3]), HB.out⟩
  · have i6 : ¬ ((m : Int) = (n : Int)) := by omega
    have i7 : ((m : Int) == (n : Int)) = false := by simp; omega
    clear K7
    go_enter Tryz.func80, Tryz.ntmps80
    go_wp2_with (first | (go_at_call 96; refine K1.out.mono ?_; rintro e w' ⟨rfl, hw'⟩; subst w') | (go_at_call 97; refine K2.out.mono ?_; rintro e w' ⟨rfl, hw'⟩; subst w') | (go_at_call 98; refine K4.out.mono ?_; rintro e w' ⟨rfl, hw'⟩; subst w') | (go_at_call 99; refine K5.out.mono ?_; rintro e w' ⟨rfl, hw'⟩; subst w'))
    go_ret
    exact ⟨ret_bool (by simp [h6]), HB.out⟩

end Go.Proofs.YtegcpplkcahkhaaGreat
