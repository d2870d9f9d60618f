import Derived.Test.YtcgboccdffgkfaaDoorPa04
/-
  Sorted rows: impl.areSortedRows, spec.l2SortedRows.
-/
namespace Go.Proofs.YtcgboccdffgkfaaDoor
open Go.RowKit

def rowAt (rows : List (List Int)) (q : Int) (j : Nat) : Bool := decide (((rows.getD j []).length : Int) = q) && (decide (j = 0) || decide (cmpL (rows.getD (j - 1) []) (rows.getD j []) < 0))
def rowsB (rows : List (List Int)) (q : Int) : Bool := (List.range rows.length).all (rowAt rows q)

theorem rowsB_true {rows : List (List Int)} {q : Int} (h : ∀ i, i < rows.length → rowAt rows q i = true) : rowsB rows q = true := by
  unfold rowsB
  rw [List.all_eq_true]
  intro i hi
  exact h i (by simpa using hi)

theorem rowsB_false {rows : List (List Int)} {q : Int} {j : Nat} (hj : j < rows.length) (h : rowAt rows q j = false) : rowsB rows q = false := by
  unfold rowsB
  rw [List.all_eq_false]
  exact ⟨j, by simpa using hj, by rw [h]; decide⟩

theorem rowAt_cases (rows : List (List Int)) (q : Int) (j : Nat) :
    (((rows.getD j []).length : Int) ≠ q ∧ rowAt rows q j = false) ∨ (((rows.getD j []).length : Int) = q ∧ j = 0 ∧ rowAt rows q j = true) ∨
    (((rows.getD j []).length : Int) = q ∧ 0 < j ∧ 0 ≤ cmpL (rows.getD (j - 1) []) (rows.getD j []) ∧ rowAt rows q j = false) ∨ (((rows.getD j []).length : Int) = q ∧ 0 < j ∧ cmpL (rows.getD (j - 1) []) (rows.getD j []) < 0 ∧ rowAt rows q j = true) := by
  unfold rowAt
  generalize ((rows.getD j []).length : Int) = x
  generalize cmpL (rows.getD (j - 1) []) (rows.getD j []) = y
  by_cases h1 : x = q
  · right
    by_cases h3 : j = 0
    · left; refine ⟨h1, h3, ?_⟩; simp [h3, h1]
    · right
      by_cases h4 : y < 0
      · right; refine ⟨h1, by omega, h4, ?_⟩; simp [h1]; omega
      · left; refine ⟨h1, by omega, by omega, ?_⟩; simp [h1]; omega
  · left; exact ⟨h1, by simp [h1]⟩

set_option maxHeartbeats 2000000 in
set_option maxRecDepth 1000000 in
theorem areSortedRows_calls (w : World) (vr : Value) (rows : List (List Int)) (q : Int) (h : ISS w vr rows) (hl : Short rows) :
    Calls Tryd.prog 77 #[vr, .int .i64 q] w fun e w' => e = .returned (.bool (rowsB rows q)) ∧ w' = w := by
  obtain ⟨a, cap, rfl, hc⟩ := h
  obtain ⟨hl1, hl2⟩ := hl
  obtain ⟨n, hn⟩ : ∃ n, n = rows.length := ⟨_, rfl⟩
  obtain ⟨res, hres⟩ : ∃ r, r = rowsB rows q := ⟨_, rfl⟩
  rw [← hres]
  rw [← hn] at hc hl1 ⊢
  have HR := hid hres
  have HC := hid hc
  have HN := hid hn
  have HL := hid hl2
  clear hc hn hres hl2
  go_enter Tryd.func77, Tryd.ntmps77
  go_wp2
  go_loop [9] (fun t => ∃ j : Nat, j ≤ n ∧ t = .int .i64 j ∧ Hid (∀ i, i < j → rowAt rows q i = true)) (fun t => n - (intOf t).toNat)
  case atStart => exact ⟨0, Nat.zero_le _, rfl, hid (fun i hi => by omega)⟩
  case round =>
    obtain ⟨j, hj, rfl, hok⟩ := hrel
    by_cases hjn : j < n
    · have i1 : (j : Int) < (n : Int) := by omega
      rcases HC.out with h0 | ⟨b, o, rfl, hcell⟩
      · omega
      · obtain ⟨u, c1, hu⟩ := hcell j hjn
        have hcs := rowAt_cases rows q j
        have fin : rowAt rows q j = false → Hid (res = false) := fun e => HR.out.trans (rowsB_false (by rw [← HN.out]; exact hjn) e)
        have nxt : rowAt rows q j = true → Hid (∀ i, i < j + 1 → rowAt rows q i = true) := fun e i hi => by
          by_cases e2 : i = j
          · rw [e2]; exact e
          · exact hok.out i (by omega)
        have hp : 0 < j → ∃ u', w.cell? ⟨b, o + (j - 1), none⟩ = some u' ∧ IS w u' (rows.getD (j - 1) []) := fun e => hcell (j - 1) (by omega)
        have HU := hid hu
        have hm := HL.out j
        obtain ⟨a1, cap1, rfl, -⟩ := hu
        clear hcell hok
        rcases hcs with ⟨h1, h2⟩ | ⟨h1, h2, h3⟩ | ⟨h1, h2, h3, h4⟩ | ⟨h1, h2, h3, h4⟩
        · have hf := fin h2
          clear hp fin nxt h2
          generalize (rows.getD j []).length = m at *
          go_wp2
          go_ret
          exact ⟨ret_bool (by rw [hf.out]), rfl⟩
        · have hf := nxt h3
          subst h2
          have c1' : w.cell? ⟨b, o, none⟩ = some (.slice a1 (rows.getD 0 []).length cap1) := by simpa using c1
          clear hp fin nxt h3 HU
          generalize (rows.getD 0 []).length = m at *
          subst h1
          go_wp2
          go_round
          case rel => exact ⟨0 + 1, by omega, by go_num, hf⟩
          case measure => simp [intOf]; omega
        · have hf := fin h4
          obtain ⟨u', c2, hu'⟩ := hp h2
          have HK := hid (sCompare_calls w u' _ (rows.getD (j - 1) []) (rows.getD j []) hu' HU.out (HL.out (j - 1)) hm)
          obtain ⟨a2, cap2, rfl, -⟩ := hu'
          have i3 : (0 : Int) < (j : Int) := by omega
          have i4 : ((j : Int) - 1).toNat = j - 1 := by omega
          clear hp fin nxt h4 HU
          generalize cmpL (rows.getD (j - 1) []) (rows.getD j []) = y at *
          generalize (rows.getD j []).length = m at *
          generalize (rows.getD (j - 1) []).length = m' at *
          subst h1
          go_wp2_with (first | (go_at_call 94; refine HK.out.mono ?_; rintro e w' ⟨rfl, hw'⟩; subst w'))
          go_ret
          exact ⟨ret_bool (by rw [hf.out]), rfl⟩
        · have hf := nxt h4
          obtain ⟨u', c2, hu'⟩ := hp h2
          have HK := hid (sCompare_calls w u' _ (rows.getD (j - 1) []) (rows.getD j []) hu' HU.out (HL.out (j - 1)) hm)
          obtain ⟨a2, cap2, rfl, -⟩ := hu'
          have i3 : (0 : Int) < (j : Int) := by omega
          have i4 : ((j : Int) - 1).toNat = j - 1 := by omega
          clear hp fin nxt h4 HU
          generalize cmpL (rows.getD (j - 1) []) (rows.getD j []) = y at *
          generalize (rows.getD j []).length = m at *
          generalize (rows.getD (j - 1) []).length = m' at *
          subst h1
          have i5 : ¬ (0 ≤ y) := by omega
          go_wp2_with (first | (go_at_call 94; refine HK.out.mono ?_; rintro e w' ⟨rfl, hw'⟩; subst w'))
          go_round
          case rel => exact ⟨j + 1, by omega, by go_num, hf⟩
          case measure => simp [intOf]; omega
    · obtain rfl : j = n := by omega
      have hf : Hid (res = true) := HR.out.trans (rowsB_true (fun i hi => hok.out i (by rw [HN.out]; exact hi)))
      have i1 : ¬ ((j : Int) < (j : Int)) := by omega
      clear hok
      go_wp2
      go_ret
      exact ⟨ret_bool (by rw [hf.out]), rfl⟩

set_option maxHeartbeats 2000000 in
set_option maxRecDepth 1000000 in
theorem l2SortedRows_calls (w : World) (vr : Value) (rows : List (List Int)) (q : Int) (h : ISS w vr rows) (hl : Short rows) :
    Calls Tryd.prog 48 #[vr, .int .i64 q] w fun e w' => e = .returned (.bool (rowsB rows q)) ∧ ∃ q, w' = w.drewN q := by
  obtain ⟨a, cap, rfl, hc⟩ := h
  obtain ⟨hl1, hl2⟩ := hl
  obtain ⟨n, hn⟩ : ∃ n, n = rows.length := ⟨_, rfl⟩
  obtain ⟨res, hres⟩ : ∃ r, r = rowsB rows q := ⟨_, rfl⟩
  rw [← hres]
  rw [← hn] at hc hl1 ⊢
  have HR := hid hres
  have HC := hid hc
  have HN := hid hn
  have HL := hid hl2
  clear hc hn hres hl2
  go_enter Tryd.func48, Tryd.ntmps48
  go_wp2
  go_loopw [9] (fun t wr => ∃ j : Nat, j ≤ n ∧ t = .int .i64 j ∧ Hid (∃ k, wr = w.drewN k) ∧ Hid (∀ i, i < j → rowAt rows q i = true)) (fun t _ => n - (intOf t).toNat)
  case atStart => exact ⟨0, Nat.zero_le _, rfl, hid ⟨0, rfl⟩, hid (fun i hi => by omega)⟩
  case round =>
    obtain ⟨j, hj, rfl, hB, hok⟩ := hrel
    by_cases hjn : j < n
    · have i1 : (j : Int) < (n : Int) := by omega
      rcases HC.out with h0 | ⟨b, o, rfl, hcell⟩
      · omega
      · obtain ⟨u, c1, hu⟩ : ∃ u, wr.cell? ⟨b, o + j, none⟩ = some u ∧ IS wr u (rows.getD j []) := by obtain ⟨k, rfl⟩ := hB.out; exact hcell j hjn
        have hcs := rowAt_cases rows q j
        have fin : rowAt rows q j = false → Hid (res = false) := fun e => HR.out.trans (rowsB_false (by rw [← HN.out]; exact hjn) e)
        have nxt : rowAt rows q j = true → Hid (∀ i, i < j + 1 → rowAt rows q i = true) := fun e i hi => by
          by_cases e2 : i = j
          · rw [e2]; exact e
          · exact hok.out i (by omega)
        have hp : 0 < j → ∃ u', wr.cell? ⟨b, o + (j - 1), none⟩ = some u' ∧ IS wr u' (rows.getD (j - 1) []) := fun e => by obtain ⟨k, rfl⟩ := hB.out; exact hcell (j - 1) (by omega)
        have HU := hid hu
        have hm := HL.out j
        obtain ⟨a1, cap1, rfl, -⟩ := hu
        clear hcell hok
        rcases hcs with ⟨h1, h2⟩ | ⟨h1, h2, h3⟩ | ⟨h1, h2, h3, h4⟩ | ⟨h1, h2, h3, h4⟩
        · have hf := fin h2
          clear hp fin nxt h2
          generalize (rows.getD j []).length = m at *
          go_wp2
          go_ret
          exact ⟨ret_bool (by rw [hf.out]), hB.out⟩
        · have hf := nxt h3
          subst h2
          have c1' : wr.cell? ⟨b, o, none⟩ = some (.slice a1 (rows.getD 0 []).length cap1) := by simpa using c1
          clear hp fin nxt h3 HU
          generalize (rows.getD 0 []).length = m at *
          subst h1
          go_wp2
          go_roundw
          case rel => exact ⟨0 + 1, by omega, by go_num, hB, hf⟩
          case measure => simp [intOf]; omega
        · have hf := fin h4
          obtain ⟨u', c2, hu'⟩ := hp h2
          have HK := hid (l2Compare_calls wr u' _ (rows.getD (j - 1) []) (rows.getD j []) hu' HU.out (HL.out (j - 1)) hm)
          obtain ⟨a2, cap2, rfl, -⟩ := hu'
          have i3 : (0 : Int) < (j : Int) := by omega
          have i4 : ((j : Int) - 1).toNat = j - 1 := by omega
          clear hp fin nxt h4 HU
          generalize cmpL (rows.getD (j - 1) []) (rows.getD j []) = y at *
          generalize (rows.getD j []).length = m at *
          generalize (rows.getD (j - 1) []).length = m' at *
          subst h1
          go_wp2_with (first | (go_at_call 74; refine HK.out.mono ?_; rintro e w' ⟨rfl, q', hw'⟩; subst w'))
          go_ret
          exact ⟨ret_bool (by rw [hf.out]), drewN_step _ hB.out⟩
        · have hf := nxt h4
          obtain ⟨u', c2, hu'⟩ := hp h2
          have HK := hid (l2Compare_calls wr u' _ (rows.getD (j - 1) []) (rows.getD j []) hu' HU.out (HL.out (j - 1)) hm)
          obtain ⟨a2, cap2, rfl, -⟩ := hu'
          have i3 : (0 : Int) < (j : Int) := by omega
          have i4 : ((j : Int) - 1).toNat = j - 1 := by omega
          clear hp fin nxt h4 HU
          generalize cmpL (rows.getD (j - 1) []) (rows.getD j []) = y at *
          generalize (rows.getD j []).length = m at *
          generalize (rows.getD (j - 1) []).length = m' at *
          subst h1
          have i5 : ¬ (0 ≤ y) := by omega
          go_wp2_with (first | (go_at_call 74; refine HK.out.mono ?_; rintro e w' ⟨rfl, q', hw'⟩; subst w'))
          go_roundw
          case rel => exact ⟨j + 1, by omega, by go_num, hid (drewN_step _ hB.out), hf⟩
          case measure => simp [intOf]; omega
    · obtain rfl : j = n := by omega
      have hf : Hid (res = true) := HR.out.trans (rowsB_true (fun i hi => hok.out i (by rw [HN.out]; exact hi)))
      have i1 : ¬ ((j : Int) < (j : Int)) := by omega
      clear hok
      go_wp2
      go_ret
      exact ⟨ret_bool (by rw [hf.out]), hB.out⟩

end Go.Proofs.YtcgboccdffgkfaaDoor

/-
  Sorted rows, each once: what merging halves gives, and what sorting and taking out neighbours that are alike gives, are one and the same.
-/
namespace Go.Proofs.YtcgboccdffgkfaaDoor

theorem cmpL_self : ∀ a : List Int, cmpL a a = 0
  | [] => rfl
  | x :: a => by simp [cmpL, cmpL_self a]
theorem cmpL_eq : ∀ {a b : List Int}, cmpL a b = 0 → a = b
  | [], [], _ => rfl
  | [], _ :: _, h => by simp [cmpL] at h
  | _ :: _, [], h => by simp [cmpL] at h
  | x :: a, y :: b, h => by
    simp only [cmpL] at h
    split at h
    · omega
    · split at h
      · omega
      · rw [cmpL_eq h, show x = y by omega]
theorem cmpL_neg : ∀ a b : List Int, cmpL b a = - cmpL a b
  | [], [] => rfl
  | [], _ :: _ => rfl
  | _ :: _, [] => rfl
  | x :: a, y :: b => by
    simp only [cmpL]
    by_cases h1 : x < y
    · rw [if_neg (by omega), if_pos h1, if_pos h1]; rfl
    · by_cases h2 : y < x
      · rw [if_pos h2, if_neg h1, if_pos h2]
      · rw [if_neg h2, if_neg h1, if_neg h1, if_neg h2]; exact cmpL_neg a b
theorem cmpL_trans : ∀ {a b c : List Int}, cmpL a b < 0 → cmpL b c < 0 → cmpL a c < 0
  | [], [], _, h, _ => by simp [cmpL] at h
  | [], _ :: _, [], _, h => by simp [cmpL] at h
  | [], _ :: _, _ :: _, _, _ => by simp [cmpL]
  | _ :: _, [], _, h, _ => by simp [cmpL] at h
  | _ :: _, _ :: _, [], _, h => by simp [cmpL] at h
  | x :: a, y :: b, z :: c, h1, h2 => by
    simp only [cmpL] at h1 h2 ⊢
    by_cases e1 : x < y
    · by_cases e2 : y < z
      · rw [if_pos (by omega)]; decide
      · rw [if_neg e2] at h2
        by_cases e3 : z < y
        · rw [if_pos e3] at h2; omega
        · rw [if_pos (by omega)]; decide
    · rw [if_neg e1] at h1
      by_cases e2 : y < x
      · rw [if_pos e2] at h1; omega
      · rw [if_neg e2] at h1
        by_cases e3 : y < z
        · rw [if_pos (by omega)]; decide
        · rw [if_neg e3] at h2
          by_cases e4 : z < y
          · rw [if_pos e4] at h2; omega
          · rw [if_neg e4] at h2
            rw [if_neg (by omega), if_neg (by omega)]
            exact cmpL_trans h1 h2

/-- ascending, each once -/
def SL (l : List (List Int)) : Prop := l.Pairwise fun a b => cmpL a b < 0

theorem SL.uniq : ∀ {a b : List (List Int)}, SL a → SL b → (∀ x, x ∈ a ↔ x ∈ b) → a = b
  | [], [], _, _, _ => rfl
  | [], y :: b, _, _, h => by have := (h y).2 (List.mem_cons_self ..); cases this
  | x :: a, [], _, _, h => by have := (h x).1 (List.mem_cons_self ..); cases this
  | x :: a, y :: b, ha, hb, h => by
    unfold SL at ha hb
    rw [List.pairwise_cons] at ha hb
    have hxy : x = y := by
      rcases List.mem_cons.1 ((h x).1 (List.mem_cons_self ..)) with e | e
      · exact e
      · rcases List.mem_cons.1 ((h y).2 (List.mem_cons_self ..)) with e2 | e2
        · exact e2.symm
        · have h1 := hb.1 x e
          have h2 := ha.1 y e2
          have := cmpL_trans h1 h2
          rw [cmpL_self] at this
          omega
    subst hxy
    rw [SL.uniq (a := a) (b := b) ha.2 hb.2 fun z => ?_]
    constructor
    · intro hz
      rcases List.mem_cons.1 ((h z).1 (List.mem_cons_of_mem _ hz)) with e | e
      · subst e; have := ha.1 _ hz; rw [cmpL_self] at this; omega
      · exact e
    · intro hz
      rcases List.mem_cons.1 ((h z).2 (List.mem_cons_of_mem _ hz)) with e | e
      · subst e; have := hb.1 _ hz; rw [cmpL_self] at this; omega
      · exact e

/-- merging -/
def mrg : List (List Int) → List (List Int) → List (List Int)
  | [], b => b
  | x :: a, [] => x :: a
  | x :: a, y :: b => if cmpL x y < 0 then x :: mrg a (y :: b) else if 0 < cmpL x y then y :: mrg (x :: a) b else x :: mrg a b
termination_by a b => a.length + b.length
theorem mrg_nil_left (b : List (List Int)) : mrg [] b = b := by rw [mrg]
theorem mrg_nil_right (a : List (List Int)) : mrg a [] = a := by cases a <;> rw [mrg]
theorem mrg_lt {x y : List Int} {a b : List (List Int)} (h : cmpL x y < 0) : mrg (x :: a) (y :: b) = x :: mrg a (y :: b) := by rw [mrg, if_pos h]
theorem mrg_gt {x y : List Int} {a b : List (List Int)} (h : 0 < cmpL x y) : mrg (x :: a) (y :: b) = y :: mrg (x :: a) b := by rw [mrg, if_neg (by omega), if_pos h]
theorem mrg_eq {x y : List Int} {a b : List (List Int)} (h1 : ¬ cmpL x y < 0) (h2 : ¬ 0 < cmpL x y) : mrg (x :: a) (y :: b) = x :: mrg a b := by rw [mrg, if_neg h1, if_neg h2]

theorem mem_mrg (z : List Int) : ∀ (n : Nat) (a b : List (List Int)), a.length + b.length ≤ n → (z ∈ mrg a b ↔ z ∈ a ∨ z ∈ b)
  | n, [], b, _ => by rw [mrg_nil_left]; simp
  | n, x :: a, [], _ => by rw [mrg_nil_right]; simp
  | n + 1, x :: a, y :: b, h => by
    simp only [List.length_cons] at h
    by_cases h1 : cmpL x y < 0
    · rw [mrg_lt h1, List.mem_cons, mem_mrg z n a (y :: b) (by simp only [List.length_cons]; omega), List.mem_cons, List.mem_cons, or_assoc]
    · by_cases h2 : 0 < cmpL x y
      · rw [mrg_gt h2, List.mem_cons, mem_mrg z n (x :: a) b (by simp only [List.length_cons]; omega), List.mem_cons, List.mem_cons]
        constructor
        · rintro (h | (h | h) | h)
          · exact Or.inr (Or.inl h)
          · exact Or.inl (Or.inl h)
          · exact Or.inl (Or.inr h)
          · exact Or.inr (Or.inr h)
        · rintro ((h | h) | (h | h))
          · exact Or.inr (Or.inl (Or.inl h))
          · exact Or.inr (Or.inl (Or.inr h))
          · exact Or.inl h
          · exact Or.inr (Or.inr h)
      · have e : x = y := cmpL_eq (by omega)
        subst e
        rw [mrg_eq h1 h2, List.mem_cons, mem_mrg z n a b (by omega), List.mem_cons, List.mem_cons]
        constructor
        · rintro (h | h | h)
          · exact Or.inl (Or.inl h)
          · exact Or.inl (Or.inr h)
          · exact Or.inr (Or.inr h)
        · rintro ((h | h) | (h | h))
          · exact Or.inl h
          · exact Or.inr (Or.inl h)
          · exact Or.inl h
          · exact Or.inr (Or.inr h)
  | 0, x :: a, y :: b, h => by simp only [List.length_cons] at h; omega

theorem SL.mrg : ∀ (n : Nat) (a b : List (List Int)), a.length + b.length ≤ n → SL a → SL b → SL (mrg a b)
  | n, [], b, _, _, hb => by rw [mrg_nil_left]; exact hb
  | n, x :: a, [], _, ha, _ => by rw [mrg_nil_right]; exact ha
  | 0, x :: a, y :: b, h, _, _ => by simp only [List.length_cons] at h; omega
  | n + 1, x :: a, y :: b, h, ha, hb => by
    simp only [List.length_cons] at h
    have ha' := List.pairwise_cons.1 ha
    have hb' := List.pairwise_cons.1 hb
    by_cases h1 : cmpL x y < 0
    · rw [mrg_lt h1]
      refine List.pairwise_cons.2 ⟨fun z hz => ?_, SL.mrg n a (y :: b) (by simp only [List.length_cons]; omega) ha'.2 hb⟩
      rcases (mem_mrg z _ a (y :: b) (Nat.le_refl _)).1 hz with h | h
      · exact ha'.1 z h
      · rcases List.mem_cons.1 h with rfl | h
        · exact h1
        · exact cmpL_trans h1 (hb'.1 z h)
    · by_cases h2 : 0 < cmpL x y
      · have h3 : cmpL y x < 0 := by rw [cmpL_neg]; omega
        rw [mrg_gt h2]
        refine List.pairwise_cons.2 ⟨fun z hz => ?_, SL.mrg n (x :: a) b (by simp only [List.length_cons]; omega) ha hb'.2⟩
        rcases (mem_mrg z _ (x :: a) b (Nat.le_refl _)).1 hz with h | h
        · rcases List.mem_cons.1 h with rfl | h
          · exact h3
          · exact cmpL_trans h3 (ha'.1 z h)
        · exact hb'.1 z h
      · have e : x = y := cmpL_eq (by omega)
        subst e
        rw [mrg_eq h1 h2]
        refine List.pairwise_cons.2 ⟨fun z hz => ?_, SL.mrg n a b (by omega) ha'.2 hb'.2⟩
        rcases (mem_mrg z _ a b (Nat.le_refl _)).1 hz with h | h
        · exact ha'.1 z h
        · exact hb'.1 z h

/-- halves sorted and merged -/
def srt : List (List Int) → List (List Int) := fun l => if h : l.length < 2 then l else mrg (srt (l.take (l.length / 2))) (srt (l.drop (l.length / 2)))
termination_by l => l.length
decreasing_by
  · simp only [List.length_take]; omega
  · simp only [List.length_drop]; omega
theorem srt_short {l : List (List Int)} (h : l.length < 2) : srt l = l := by rw [srt, dif_pos h]
theorem srt_long {l : List (List Int)} (h : ¬ l.length < 2) : srt l = mrg (srt (l.take (l.length / 2))) (srt (l.drop (l.length / 2))) := by rw [srt, dif_neg h]
theorem srt_ok : ∀ (n : Nat) (l : List (List Int)), l.length ≤ n → SL (srt l) ∧ ∀ z, z ∈ srt l ↔ z ∈ l
  | n, l, h => by
    by_cases h2 : l.length < 2
    · rw [srt_short h2]
      refine ⟨?_, fun z => Iff.rfl⟩
      match l, h2 with
      | [], _ => exact List.Pairwise.nil
      | [x], _ => exact List.pairwise_singleton _ _
    · rw [srt_long h2]
      match n with
      | 0 => omega
      | n + 1 =>
        obtain ⟨a1, a2⟩ := srt_ok n (l.take (l.length / 2)) (by rw [List.length_take]; omega)
        obtain ⟨b1, b2⟩ := srt_ok n (l.drop (l.length / 2)) (by rw [List.length_drop]; omega)
        refine ⟨SL.mrg _ _ _ (Nat.le_refl _) a1 b1, fun z => ?_⟩
        rw [mem_mrg z _ _ _ (Nat.le_refl _), a2, b2, ← List.mem_append, List.take_append_drop]
theorem srt_len_mrg : ∀ (n : Nat) (a b : List (List Int)), a.length + b.length ≤ n → (mrg a b).length ≤ a.length + b.length
  | n, [], b, _ => by rw [mrg_nil_left]; simp
  | n, x :: a, [], _ => by rw [mrg_nil_right]; simp
  | 0, x :: a, y :: b, h => by simp only [List.length_cons] at h; omega
  | n + 1, x :: a, y :: b, h => by
    simp only [List.length_cons] at h
    by_cases h1 : cmpL x y < 0
    · have := srt_len_mrg n a (y :: b) (by simp only [List.length_cons]; omega)
      rw [mrg_lt h1]; simp only [List.length_cons] at this ⊢; omega
    · by_cases h2 : 0 < cmpL x y
      · have := srt_len_mrg n (x :: a) b (by simp only [List.length_cons]; omega)
        rw [mrg_gt h2]; simp only [List.length_cons] at this ⊢; omega
      · have := srt_len_mrg n a b (by omega)
        rw [mrg_eq h1 h2]; simp only [List.length_cons]; omega
theorem srt_len : ∀ (n : Nat) (l : List (List Int)), l.length ≤ n → (srt l).length ≤ l.length
  | n, l, h => by
    by_cases h2 : l.length < 2
    · rw [srt_short h2]; exact Nat.le_refl _
    · rw [srt_long h2]
      match n with
      | 0 => omega
      | n + 1 =>
        have a1 := srt_len n (l.take (l.length / 2)) (by rw [List.length_take]; omega)
        have b1 := srt_len n (l.drop (l.length / 2)) (by rw [List.length_drop]; omega)
        have c1 := srt_len_mrg _ (srt (l.take (l.length / 2))) (srt (l.drop (l.length / 2))) (Nat.le_refl _)
        rw [List.length_take] at a1
        rw [List.length_drop] at b1
        omega

/-- neighbours that are alike are taken out -/
def cpt : List (List Int) → List (List Int)
  | [] => []
  | [x] => [x]
  | x :: y :: l => if x = y then cpt (y :: l) else x :: cpt (y :: l)
theorem mem_cpt (z : List Int) : ∀ l : List (List Int), z ∈ cpt l ↔ z ∈ l
  | [] => Iff.rfl
  | [x] => Iff.rfl
  | x :: y :: l => by
    rw [cpt]
    split
    · rename_i e
      subst e
      rw [mem_cpt z (x :: l)]
      simp
    · rw [List.mem_cons, mem_cpt z (y :: l), List.mem_cons (a := z) (b := x)]
theorem SL.cpt : ∀ l : List (List Int), (l.Pairwise fun a b => ¬ cmpL b a < 0) → SL (cpt l)
  | [], _ => List.Pairwise.nil
  | [x], _ => List.pairwise_singleton _ _
  | x :: y :: l, h => by
    have h' := List.pairwise_cons.1 h
    rw [Go.Proofs.YtcgboccdffgkfaaDoor.cpt]
    split
    · exact SL.cpt (y :: l) h'.2
    · rename_i ne
      refine List.pairwise_cons.2 ⟨fun z hz => ?_, SL.cpt (y :: l) h'.2⟩
      rw [mem_cpt] at hz
      have h1 := h'.1 z hz
      have h2 := h'.1 y (List.mem_cons_self ..)
      have hy : ¬ cmpL z y < 0 := by
        rcases List.mem_cons.1 hz with rfl | h3
        · rw [cmpL_self]; omega
        · exact (List.pairwise_cons.1 h'.2).1 z h3
      -- x < y, since x ≤ y and x ≠ y
      have hxy : cmpL x y < 0 := by
        have e1 := cmpL_neg x y
        rcases Int.lt_trichotomy (cmpL x y) 0 with h | h | h
        · exact h
        · exact absurd (cmpL_eq h) ne
        · omega
      have e2 := cmpL_neg y z
      rcases Int.lt_trichotomy (cmpL y z) 0 with h | h | h
      · exact cmpL_trans hxy h
      · rw [← cmpL_eq h]; exact hxy
      · omega
/-- the two ways meet -/
theorem cpt_srt {l l' : List (List Int)} (hs : l'.Pairwise fun a b => ¬ cmpL b a < 0) (hm : ∀ z, z ∈ l' ↔ z ∈ l) : cpt l' = srt l := by
  obtain ⟨a, b⟩ := srt_ok _ l (Nat.le_refl _)
  exact SL.uniq (SL.cpt l' hs) a fun z => by rw [mem_cpt, b, hm]

end Go.Proofs.YtcgboccdffgkfaaDoor

/-
  impl.areEdges, impl.inEdges.
-/
namespace Go.Proofs.YtcgboccdffgkfaaDoor
open Go.RowKit

def edgesB (es : List (List Int)) : Bool := decide (es.length ≤ 7) && es.all setB
def coverB (bag : List Int) (es : List (List Int)) : Bool := bag.all fun x => es.any fun e => decide (x ∈ e)

theorem all_getD {α : Type} (p : α → Bool) (d : α) (l : List α) (h : ∀ i, i < l.length → p (l.getD i d) = true) : l.all p = true := by
  rw [List.all_eq_true]
  intro x hx
  obtain ⟨j, hj, e⟩ := List.getElem_of_mem hx
  have := h j hj
  rw [List.getD_eq_getElem?_getD, List.getElem?_eq_getElem hj] at this
  rw [← e]; exact this

theorem all_getD_false {α : Type} (p : α → Bool) (d : α) (l : List α) (j : Nat) (hj : j < l.length) (h : p (l.getD j d) = false) : l.all p = false := by
  rw [List.all_eq_false]
  rw [List.getD_eq_getElem?_getD, List.getElem?_eq_getElem hj] at h
  exact ⟨_, List.getElem_mem hj, by simpa using h⟩

theorem plc_nil_iff (p : Nat → Bool) (k : Nat) : (plc p k).length = 0 ↔ ∀ i, i < k → p i = false := by
  unfold plc
  rw [List.length_map, List.length_eq_zero_iff, List.filter_eq_nil_iff]
  simp

theorem any_plc (x : Int) (es : List (List Int)) : (es.any fun e => decide (x ∈ e)) = !decide ((plc (fun i => decide (x ∈ es.getD i [])) es.length).length = 0) := by
  cases hb : (es.any fun e => decide (x ∈ e))
  · rw [eq_comm, Bool.not_eq_false', decide_eq_true_eq, plc_nil_iff]
    intro i hi
    rw [List.any_eq_false] at hb
    have := hb _ (List.getElem_mem hi)
    rw [List.getD_eq_getElem?_getD, List.getElem?_eq_getElem hi]
    simpa using this
  · rw [eq_comm, Bool.not_eq_true', decide_eq_false_iff_not, plc_nil_iff]
    intro hall
    rw [List.any_eq_true] at hb
    obtain ⟨e, he, h2⟩ := hb
    obtain ⟨j, hj, e1⟩ := List.getElem_of_mem he
    have := hall j hj
    rw [List.getD_eq_getElem?_getD, List.getElem?_eq_getElem hj] at this
    simp only [Option.getD_some, e1] at this
    rw [this] at h2
    exact Bool.noConfusion h2

end Go.Proofs.YtcgboccdffgkfaaDoor

/-
  spec.l1Zeros: n zeros.
-/
namespace Go.Proofs.YtcgboccdffgkfaaDoor
open Go.RowKit

def zs (k : Nat) : List Value := (List.replicate k [Value.int .i64 0, Value.int .i64 1]).flatten
theorem zs_succ (k : Nat) : zs (k + 1) = zs k ++ [.int .i64 0, .int .i64 1] := by
  simp [zs, List.replicate_succ', List.flatten_append]

theorem own_grow2 {B n s : Nat} {e : TypeId} {w wr w1 : World} {u : Value} {o : Obj} {xs : List Value} (hB : B ≤ wr.heap.size)
    (hown : wr.ownsRow B e s u n xs) (hnx : Below B w wr) (hgrow : (wr.alloc o).grownBy w1 u.ownBlock) : Below B w w1 :=
  (hnx.alloc hB o).grown hgrow (by simp; omega) (fun j hj => (hown.lt j hj).1)

end Go.Proofs.YtcgboccdffgkfaaDoor

/-
  impl.ratsOf: fractions as Rats.
-/
namespace Go.Proofs.YtcgboccdffgkfaaDoor
open Go.RowKit

/-- pairs of numbers in memory -/
def IR (w : World) (v : Value) (l : List (Int × Int)) : Prop := ∃ a cap, v = .slice a l.length cap ∧ (l.length = 0 ∨ ∃ b o, a = some ⟨b, o, none⟩ ∧ ∀ j, j < l.length →
  w.cell? ⟨b, o + j * 2, none⟩ = some (.int .i64 (l.getD j (0, 0)).1) ∧ w.cell? ⟨b, o + j * 2 + 1, none⟩ = some (.int .i64 (l.getD j (0, 0)).2))

def rcs (l : List (Int × Int)) : List Value := l.flatMap fun p => [.int .i64 p.1, .int .i64 p.2]
theorem rcs_succ (l : List (Int × Int)) (k : Nat) (h : k < l.length) : rcs (l.take (k + 1)) = rcs (l.take k) ++ [.int .i64 (l.getD k (0, 0)).1, .int .i64 (l.getD k (0, 0)).2] := by
  unfold rcs
  rw [List.take_add_one, List.getElem?_eq_getElem h, List.getD_eq_getElem?_getD, List.getElem?_eq_getElem h]
  simp only [Option.toList_some, List.flatMap_append, List.flatMap_cons, List.flatMap_nil, List.append_nil, Option.getD_some]

theorem own_below {B n s : Nat} {e : TypeId} {w w' : World} {v : Value} {xs : List Value} (h : w.ownsRow B e s v n xs) (hb : Below w.heap.size w w') : w'.ownsRow B e s v n xs := by
  obtain ⟨h1, h2⟩ := h
  refine ⟨h1, ?_⟩
  rcases h2 with h2 | ⟨g, cap, cur, hv, hg, hc, hr⟩
  · exact Or.inl h2
  · refine Or.inr ⟨g, cap, cur, hv, hg, ?_, hr⟩
    rw [hb.block g (by
      rcases Nat.lt_or_ge g w.heap.size with h3 | h3
      · exact h3
      · rw [Array.getElem?_eq_none h3] at hc; cases hc)]
    exact hc

end Go.Proofs.YtcgboccdffgkfaaDoor

/-
  laws.markIntSS on a copy of the law's own: only the blocks of its lists are others.
-/
namespace Go.Proofs.YtcgboccdffgkfaaDoor
open Go.RowKit

/-- only the blocks f 0 .. f (n - 1) are others -/
structure Ost (f : Nat → Nat) (n : Nat) (w w' : World) : Prop where
  os : w'.os = w.os
  tape : w'.tape = w.tape
  output : w'.output = w.output
  size : w'.heap.size = w.heap.size
  block : ∀ b, (∀ i, i < n → b ≠ f i) → w'.heap[b]? = w.heap[b]?

theorem Ost.refl (f : Nat → Nat) (w : World) : Ost f 0 w w := ⟨rfl, rfl, rfl, rfl, fun _ _ => rfl⟩
theorem Ost.step {f : Nat → Nat} {n : Nat} {w w1 w2 : World} (h : Ost f n w w1) (h' : Og (f n) w1 w2) : Ost f (n + 1) w w2 :=
  ⟨h'.os.trans h.os, h'.tape.trans h.tape, h'.output.trans h.output, h'.size.trans h.size, fun b hb => (h'.block b (hb n (by omega))).trans (h.block b (fun i hi => hb i (by omega)))⟩
theorem Ost.below {f : Nat → Nat} {n N : Nat} {w w' : World} (h : Ost f n w w') (hN : ∀ i, i < n → N ≤ f i) : Below N w w' :=
  ⟨h.os, h.tape, h.output, Nat.le_of_eq h.size.symm, fun b hb => h.block b (fun i hi => by have := hN i hi; omega)⟩

set_option maxHeartbeats 2000000 in
set_option maxRecDepth 1000000 in
theorem markIntSS_calls (w : World) (G : Nat) (ls : List (List Int)) (f : Nat → Nat) (k : Int) (h : Half w G ls.length ls.length ls f) (hl : tot ls ls.length ≤ 1048576) (hk : 0 ≤ k) (hk' : k ≤ 8388608) :
    Calls Tryd.prog 42 #[.slice (some ⟨G, 0, none⟩) ls.length ls.length, .int .i64 k] w fun e w' => e = .returned (.int .i64 (k + (tot ls ls.length - ls.length))) ∧ Ost f ls.length w w' := by
  obtain ⟨n, hn⟩ : ∃ n, n = ls.length := ⟨_, rfl⟩
  rw [← hn] at h hl ⊢
  have HH := hid h
  have HN := hid hn
  have HT : Hid (∀ k, k ≤ n → tot ls k ≤ tot ls n) := fun k hk => by
    have := tot_le ls (ls.length - k) k (by rw [← HN.out]; omega)
    rw [← HN.out] at this; exact this
  have HS : Hid (∀ k, k < n → tot ls (k + 1) = tot ls k + (ls.getD k []).length) := fun k hk => tot_succ ls k (by rw [← HN.out]; exact hk)
  have H0 : Hid (tot ls 0 = n) := (tot_zero ls).trans HN.out.symm
  have hn7 : n ≤ 1048576 := by have := HT.out 0 (by omega); rw [H0.out] at this; omega
  clear h hn
  go_enter Tryd.func42, Tryd.ntmps42
  go_wp2
  go_loopw [1, 5] (fun u t wr => ∃ j : Nat, j ≤ n ∧ t = .int .i64 j ∧ ∃ c : Int, u = .int .i64 c ∧ 0 ≤ c ∧ c ≤ 9437184 ∧ Hid (c = k + (tot ls j - n) ∧ Ost f j w wr)) (fun _ t _ => n - (intOf t).toNat)
  case atStart => exact ⟨0, Nat.zero_le _, rfl, _, rfl, by omega, by omega, hid ⟨by rw [H0.out]; omega, Ost.refl _ _⟩⟩
  case round =>
    obtain ⟨j, hj, rfl, c, rfl, hc0, hc1, hok⟩ := hrel
    by_cases hjn : j < n
    · have i1 : (j : Int) < (n : Int) := by omega
      have hO := hok.out.2
      have hgt : ∀ i, i < n → G < f i := HH.out.gt
      have d1 := HH.out.cell j hjn
      rw [if_pos hjn] at d1
      have c1 : wr.cell? ⟨G, j, none⟩ = some (.slice (some ⟨f j, 0, none⟩) (ls.getD j []).length (ls.getD j []).length) :=
        (World.cell?_of_block (w := w) (a := ⟨G, j, none⟩) (hO.block G (fun i hi => by have := hgt i (by omega); omega))).trans d1
      have ho : OwnI wr (f j) (ls.getD j []) := (HH.out.own j hjn).move (hO.block (f j) (fun i hi => by have := HH.out.up i j hi hjn; omega)) (Nat.le_of_eq hO.size.symm)
      have hs := HS.out j hjn
      have ht := HT.out (j + 1) (by omega)
      have HK := hid (markIntS_calls wr (f j) (ls.getD j []) c ho (by omega) hc0 (by omega))
      have hoc := hok.out.1
      have hR : Hid (c + (ls.getD j []).length = k + (tot ls (j + 1) - n)) := hid (by omega)
      have hR2 : c + ((ls.getD j []).length : Int) ≤ 9437184 := by have t0 := HT.out 0 (by omega); rw [H0.out] at t0; omega
      have HST : Hid (∀ w2, Og (f j) wr w2 → Ost f (j + 1) w w2) := fun w2 h2 => hO.step h2
      clear ho hs ht hoc hgt d1 hO hok
      generalize (ls.getD j []).length = m at *
      go_wp2_with (first | (go_at_call 43; refine HK.out.mono ?_; rintro e w2 ⟨rfl, -, hog⟩; have HG := hid hog; clear hog))
      go_roundw
      case rel => exact ⟨j + 1, by omega, by go_num, _, rfl, by omega, hR2, hid ⟨hR.out, HST.out _ HG.out⟩⟩
      case measure => simp [intOf]; omega
    · obtain rfl : j = n := by omega
      have i1 : ¬ ((j : Int) < (j : Int)) := by omega
      go_wp2
      go_ret
      exact ⟨ret_int hok.out.1, hok.out.2⟩

end Go.Proofs.YtcgboccdffgkfaaDoor

/-
  laws.markIntS, laws.heldIntS on a slice that a call has made (ownsRow).
-/
namespace Go.Proofs.YtcgboccdffgkfaaDoor
open Go.RowKit

set_option maxHeartbeats 1000000 in
theorem markIntS_cap (w : World) (g cap : Nat) (l : List Int) (k : Int) (h : OwnI w g l) (hl : l.length ≤ 1099511627776) (hk : 0 ≤ k) (hk' : k ≤ 1099511627776) :
    Calls Tryd.prog 43 #[.slice (some ⟨g, 0, none⟩) l.length cap, .int .i64 k] w fun e w' => e = .returned (.int .i64 (k + l.length)) ∧ OwnI w' g (upFrom k l.length) ∧ Og g w w' := by
  obtain ⟨n, hn⟩ : ∃ n, n = l.length := ⟨_, rfl⟩
  have HO : Hid ((∀ j, j < n → w.cell? ⟨g, j, none⟩ = some (.int .i64 (l.getD j 0))) ∧ ∀ j, j < n → w.frozen? ⟨g, j, none⟩ = false) := by rw [hn]; exact ⟨h.cell, h.free⟩
  have hglt := h.lt
  rw [← hn] at hl ⊢
  clear h hn
  go_enter Tryd.func43, Tryd.ntmps43
  go_wp2
  go_loopw [1, 5] (fun u t wr => ∃ j : Nat, j ≤ n ∧ t = .int .i64 j ∧ u = .int .i64 (k + j) ∧ Og g w wr ∧ Hid ((∀ i, i < n → wr.cell? ⟨g, i, none⟩ = some (.int .i64 (if i < j then k + (i : Nat) else l.getD i 0))) ∧ ∀ i, i < n → wr.frozen? ⟨g, i, none⟩ = false)) (fun _ t _ => n - (intOf t).toNat)
  case atStart => exact ⟨0, Nat.zero_le _, rfl, by simp, Og.refl _ _, hid ⟨fun i hi => by rw [if_neg (by omega)]; exact HO.out.1 i hi, HO.out.2⟩⟩
  case round =>
    obtain ⟨j, hj, rfl, rfl, hB, hH⟩ := hrel
    by_cases hjn : j < n
    · have i1 : (j : Int) < (n : Int) := by omega
      have c2 : wr.cell? ⟨g, j, none⟩ = some (.int .i64 (if j < j then k + (j : Nat) else l.getD j 0)) := hH.out.1 j hjn
      have c3 : wr.frozen? ⟨g, j, none⟩ = false := hH.out.2 j hjn
      go_wp2
      go_roundw
      case rel =>
        refine ⟨j + 1, by omega, by go_num, by go_num, hB.set _ _, hid ⟨fun i hi => ?_, fun i hi => by rw [World.frozen?_setCell]; exact hH.out.2 i hi⟩⟩
        by_cases e : i = j
        · subst e
          rw [if_pos (by omega)]
          exact World.cell?_setCell_same _ _ _ c2
        · rw [World.cell?_setCell_other _ _ _ _ (by intro e2; simp only [Addr.mk.injEq] at e2; omega), hH.out.1 i hi]
          by_cases e2 : i < j
          · rw [if_pos e2, if_pos (by omega)]
          · rw [if_neg e2, if_neg (by omega)]
      case measure => simp [intOf]; omega
    · obtain rfl : j = n := by omega
      have i1 : ¬ ((j : Int) < (j : Int)) := by omega
      go_wp2
      go_ret
      refine ⟨rfl, ⟨fun i hi => ?_, fun i hi => hH.out.2 i (by rwa [upFrom_length] at hi), by rw [hB.size]; exact hglt⟩, hB⟩
      rw [upFrom_length] at hi
      rw [hH.out.1 i hi, if_pos hi, upFrom_get hi]

set_option maxHeartbeats 1000000 in
theorem heldIntS_cap (w : World) (g cap : Nat) (n : Nat) (k : Int) (h : OwnI w g (upFrom k n)) (hl : n ≤ 1099511627776) (hk : 0 ≤ k) (hk' : k ≤ 1099511627776) :
    Calls Tryd.prog 45 #[.slice (some ⟨g, 0, none⟩) n cap, .int .i64 k] w fun e w' => e = .returned (.int .i64 (k + n)) ∧ w' = w := by
  have HO : Hid (∀ j, j < n → w.cell? ⟨g, j, none⟩ = some (.int .i64 (k + (j : Nat)))) := fun j hj => by
    have := h.cell j (by rw [upFrom_length]; exact hj)
    rwa [upFrom_get hj] at this
  clear h
  go_enter Tryd.func45, Tryd.ntmps45
  go_wp2
  go_loop [1, 5] (fun u t => ∃ j : Nat, j ≤ n ∧ t = .int .i64 j ∧ u = .int .i64 (k + j)) (fun _ t => n - (intOf t).toNat)
  case atStart => exact ⟨0, Nat.zero_le _, rfl, by simp⟩
  case round =>
    obtain ⟨j, hj, rfl, rfl⟩ := hrel
    by_cases hjn : j < n
    · have i1 : (j : Int) < (n : Int) := by omega
      have c2 : w.cell? ⟨g, j, none⟩ = some (.int .i64 (k + (j : Nat))) := HO.out j hjn
      have hne : ((k + (j : Int)) != (k + (j : Int))) = false := by simp
      go_wp2
      go_round
      case rel => exact ⟨j + 1, by omega, by go_num, by go_num⟩
      case measure => simp [intOf]; omega
    · obtain rfl : j = n := by omega
      have i1 : ¬ ((j : Int) < (j : Int)) := by omega
      go_wp2
      go_ret
      exact ⟨rfl, rfl⟩


theorem own_move {w w' : World} {B n s : Nat} {e : TypeId} {v : Value} {xs : List Value} (h : w.ownsRow B e s v n xs) (hb : ∀ g, v.ownBlock = some g → w'.heap[g]? = w.heap[g]?) : w'.ownsRow B e s v n xs := by
  obtain ⟨h1, h2⟩ := h
  refine ⟨h1, ?_⟩
  rcases h2 with h2 | ⟨g, cap, cur, rfl, hb', hc, hr⟩
  · exact Or.inl h2
  · exact Or.inr ⟨g, cap, cur, rfl, hb', (hb g rfl).trans hc, hr⟩

theorem own_is {w : World} {B : Nat} {v : Value} {l : List Int} (h : w.ownsRow B 3 1 v l.length (l.map (Value.int .i64))) : IS w v l := by
  rcases h.2 with ⟨rfl, h2⟩ | ⟨g, cap, cur, rfl, hb', hc, hr⟩
  · exact ⟨none, 0, by rw [h2], Or.inl h2⟩
  · refine ⟨_, cap, rfl, Or.inr ⟨g, 0, rfl, fun j hj => ?_⟩⟩
    rw [Nat.zero_add, h.cellAt j (by omega), List.getElem?_map, List.getElem?_eq_getElem hj, List.getD_eq_getElem?_getD, List.getElem?_eq_getElem hj]
    rfl

theorem own_ownI {w : World} {B g cap : Nat} {l : List Int} (h : w.ownsRow B 3 1 (.slice (some ⟨g, 0, none⟩) l.length cap) l.length (l.map (Value.int .i64))) : OwnI w g l where
  cell j hj := by
    rw [h.cellAt j (by omega), List.getElem?_map, List.getElem?_eq_getElem hj, List.getD_eq_getElem?_getD, List.getElem?_eq_getElem hj]
    rfl
  free j _ := h.frozenAt j
  lt := (h.lt g rfl).2

set_option maxHeartbeats 400000 in
theorem markIntS_nil (w : World) (a : Option Addr) (cap : Nat) (k : Int) :
    Calls Tryd.prog 43 #[.slice a 0 cap, .int .i64 k] w fun e w' => e = .returned (.int .i64 k) ∧ w' = w := by
  go_enter Tryd.func43, Tryd.ntmps43
  go_wp2
  refine wp_loop_rounds 1 ?_
  rw [rounds_succ]
  go_wp2
  go_ret
  exact ⟨rfl, rfl⟩

set_option maxHeartbeats 400000 in
theorem heldIntS_nil (w : World) (a : Option Addr) (cap : Nat) (k : Int) :
    Calls Tryd.prog 45 #[.slice a 0 cap, .int .i64 k] w fun e w' => e = .returned (.int .i64 k) ∧ w' = w := by
  go_enter Tryd.func45, Tryd.ntmps45
  go_wp2
  refine wp_loop_rounds 1 ?_
  rw [rounds_succ]
  go_wp2
  go_ret
  exact ⟨rfl, rfl⟩

/-- marking a slice that a call has made, and finding the marks again -/
theorem mark_held (w : World) (B : Nat) (v : Value) (l : List Int) (k : Int) (h : w.ownsRow B 3 1 v l.length (l.map (Value.int .i64))) (hl : l.length ≤ 1099511627776) (hk : 0 ≤ k) (hk' : k ≤ 1099511627776) :
    Calls Tryd.prog 43 #[v, .int .i64 k] w fun e w' => e = .returned (.int .i64 (k + l.length)) ∧ (∀ b, some b ≠ v.ownBlock → w'.heap[b]? = w.heap[b]?) ∧ Below B w w' ∧ Calls Tryd.prog 45 #[v, .int .i64 k] w' fun e w'' => e = .returned (.int .i64 (k + l.length)) ∧ w'' = w' := by
  rcases h.2 with ⟨rfl, h2⟩ | ⟨g, cap, cur, rfl, hb', hc, hr⟩
  · rw [h2]
    refine (markIntS_nil w none 0 k).mono ?_
    rintro e w' ⟨rfl, rfl⟩
    refine ⟨by simp, fun b _ => rfl, Below.refl _ _, ?_⟩
    have := heldIntS_nil w' none 0 k
    simpa using this
  · refine (markIntS_cap w g cap l k (own_ownI h) hl hk hk').mono ?_
    rintro e w' ⟨rfl, ho, hog⟩
    exact ⟨rfl, fun b hb => hog.block b (fun e => hb (by rw [e]; rfl)), hog.below hb', heldIntS_cap w' g cap l.length k ho hl hk hk'⟩

end Go.Proofs.YtcgboccdffgkfaaDoor
