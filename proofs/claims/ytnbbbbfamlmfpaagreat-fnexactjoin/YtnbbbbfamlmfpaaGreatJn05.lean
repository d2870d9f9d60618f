import Derived.Test.YtnbbbbfamlmfpaaGreatJn04
/-
  laws.toIntSS: a copy of a slice of slices in new memory, every list in a block of its own.
-/
namespace Go.Proofs.YtnbbbbfamlmfpaaGreat
open Go.RowKit

/-- the first j of n lists have been laid -/
structure Half (w : World) (G n j : Nat) (ls : List (List Int)) (f : Nat → Nat) : Prop where
  cell : ∀ i, i < n → w.cell? ⟨G, i, none⟩ = some (if i < j then .slice (some ⟨f i, 0, none⟩) (ls.getD i []).length (ls.getD i []).length else .slice none 0 0)
  free : ∀ i, i < n → w.frozen? ⟨G, i, none⟩ = false
  own : ∀ i, i < j → OwnI w (f i) (ls.getD i [])
  gt : ∀ i, i < j → G < f i
  up : ∀ i k, i < k → k < j → f i < f k

theorem Half.step {w w1 : World} {G n j : Nat} {ls : List (List Int)} {f : Nat → Nat} (h : Half w G n j ls f) (hj : j < n) (hG : G < w.heap.size)
    (ho : OwnI w1 w.heap.size (ls.getD j [])) (hb : Below w.heap.size w w1) :
    Half (w1.setCell ⟨G, j, none⟩ (.slice (some ⟨w.heap.size, 0, none⟩) (ls.getD j []).length (ls.getD j []).length)) G n (j + 1) ls (fun i => if i = j then w.heap.size else f i) := by
  have hc : ∀ i, i < n → w1.cell? ⟨G, i, none⟩ = some (if i < j then .slice (some ⟨f i, 0, none⟩) (ls.getD i []).length (ls.getD i []).length else .slice none 0 0) :=
    fun i hi => (hb.cell (p := ⟨G, i, none⟩) hG).trans (h.cell i hi)
  have hsz : ∀ (a : Addr) (v : Value), (w1.setCell a v).heap.size = w1.heap.size := fun a v => by simp [World.setCell]
  refine ⟨fun i hi => ?_, fun i hi => ?_, fun i hi => ?_, fun i hi => ?_, fun i k hik hk => ?_⟩
  · by_cases e : i = j
    · subst e
      rw [if_pos (by omega), if_pos rfl]
      exact World.cell?_setCell_same _ _ _ (hc i hi)
    · rw [World.cell?_setCell_other _ _ _ _ (by intro e2; simp only [Addr.mk.injEq] at e2; omega), hc i hi, if_neg e]
      by_cases e2 : i < j
      · rw [if_pos e2, if_pos (by omega)]
      · rw [if_neg e2, if_neg (by omega)]
  · rw [World.frozen?_setCell]
    exact (World.frozen?_of_block (w := w) (a := ⟨G, i, none⟩) (hb.block G hG)).trans (h.free i hi)
  · by_cases e : i = j
    · subst e
      rw [if_pos rfl]
      exact ho.move (Below.heap_setCell _ _ _ _ (by show w.heap.size ≠ G; omega)) (by rw [hsz]; exact Nat.le_refl _)
    · rw [if_neg e]
      have hgt := h.gt i (by omega)
      exact ((h.own i (by omega)).below hb).move (Below.heap_setCell _ _ _ _ (by show f i ≠ G; omega)) (by rw [hsz]; exact Nat.le_refl _)
  · show G < (if i = j then w.heap.size else f i)
    by_cases e : i = j
    · rw [if_pos e]; exact hG
    · rw [if_neg e]; exact h.gt i (by omega)
  · show (if i = j then w.heap.size else f i) < (if k = j then w.heap.size else f k)
    rw [if_neg (by omega)]
    by_cases e : k = j
    · rw [if_pos e]; exact (h.own i (by omega)).lt
    · rw [if_neg e]; exact h.up i k hik (by omega)

set_option maxHeartbeats 2000000 in
set_option maxRecDepth 1000000 in
theorem toIntSS_calls (w : World) (v : Value) (ls : List (List Int)) (h : ISS w v ls) (hl : Short ls) :
    Calls Tryz.prog 35 #[v] w fun e w' => e = .returned (.slice (some ⟨w.heap.size, 0, none⟩) ls.length ls.length) ∧ (∃ f, Half w' w.heap.size ls.length ls.length ls f) ∧ w.heap.size < w'.heap.size ∧ Below w.heap.size w w' := by
  obtain ⟨a, cap, rfl, hc⟩ := h
  obtain ⟨hl1, hl2⟩ := hl
  obtain ⟨n, hn⟩ : ∃ n, n = ls.length := ⟨_, rfl⟩
  rw [← hn] at hc hl1 ⊢
  have hmk := run_make_row' (P := Tryz.prog) 25 23 (.slice none 0 0) 24 Tryz.underlying25 (by kernel_rfl) rfl .i64 .i64 n (by omega) (by omega)
  have hb0 := heap_alloc_new w (.cells (madeCells #[.slice none 0 0] n) 23)
  have hA0 : ∀ j, j < n → (w.alloc (.cells (madeCells #[.slice none 0 0] n) 23)).cell? ⟨w.heap.size, j, none⟩ = some (.slice none 0 0) := fun j hj => by rw [cell_of_row _ _ _ _ _ _ hb0]; exact made_get _ _ _ hj
  have hF0 : ∀ j, (w.alloc (.cells (madeCells #[.slice none 0 0] n) 23)).frozen? ⟨w.heap.size, j, none⟩ = false := fun j => by unfold World.frozen?; rw [hb0]; simp
  have HA0 := hid hA0
  have HF0 := hid hF0
  clear hA0 hF0 hb0
  have HC := hid hc
  have HN := hid hn
  have HL := hid hl2
  clear hc hn hl2
  go_enter Tryz.func35, Tryz.ntmps35
  go_wp2
  go_loopw [4] (fun t wr => ∃ j : Nat, j ≤ n ∧ t = .int .i64 j ∧ Below w.heap.size w wr ∧ w.heap.size < wr.heap.size ∧ Hid (∃ f, Half wr w.heap.size n j ls f)) (fun t _ => n - (intOf t).toNat)
  case atStart => exact ⟨0, Nat.zero_le _, rfl, (Below.refl _ _).alloc (Nat.le_refl _) _, by simp, hid ⟨fun _ => 0, fun i hi => by rw [if_neg (by omega)]; exact HA0.out i hi, fun i _ => HF0.out i, fun i hi => by omega, fun i hi => by omega, fun i k _ hk => by omega⟩⟩
  case round =>
    obtain ⟨j, hj, rfl, hB, hlt, hH⟩ := hrel
    by_cases hjn : j < n
    · have i1 : (j : Int) < (n : Int) := by omega
      rcases HC.out with h0 | ⟨b, o, rfl, hcell⟩
      · omega
      · obtain ⟨u, c0, hu⟩ := hcell j hjn
        have c1 : wr.cell? ⟨b, o + j, none⟩ = some u := (hB.cell (p := ⟨b, o + j, none⟩) (World.block_lt_of_cell? w _ c0)).trans c0
        have HK := hid (toIntS_calls wr u (ls.getD j []) (hu.below hB) (HL.out j))
        obtain ⟨a1, cap1, rfl, -⟩ := hu
        have c2 : wr.cell? ⟨w.heap.size, j, none⟩ = some (.slice none 0 0) := by
          obtain ⟨f, hf⟩ := hH.out
          exact (hf.cell j hjn).trans (by rw [if_neg (by omega)])
        have c3 : wr.frozen? ⟨w.heap.size, j, none⟩ = false := by
          obtain ⟨f, hf⟩ := hH.out
          exact hf.free j hjn
        have HS : Hid (∀ w1, OwnI w1 wr.heap.size (ls.getD j []) → Below wr.heap.size wr w1 → ∃ f, Half (w1.setCell ⟨w.heap.size, j, none⟩ (.slice (some ⟨wr.heap.size, 0, none⟩) (ls.getD j []).length (ls.getD j []).length)) w.heap.size n (j + 1) ls f) := fun w1 ho hb => by
          obtain ⟨f, hf⟩ := hH.out
          exact ⟨_, hf.step hjn hlt ho hb⟩
        clear hcell c0 hH
        go_wp2_with (first | (go_at_call 7; refine HK.out.mono ?_; rintro e w1 ⟨rfl, ho, hb⟩; have c4 : w1.cell? ⟨w.heap.size, j, none⟩ = some (.slice none 0 0) := (hb.cell (p := ⟨w.heap.size, j, none⟩) hlt).trans c2; have c5 : w1.frozen? ⟨w.heap.size, j, none⟩ = false := (World.frozen?_of_block (w := wr) (a := ⟨w.heap.size, j, none⟩) (hb.block w.heap.size hlt)).trans c3; have HO := hid ho; have HB := hid hb; clear ho hb))
        go_roundw
        case rel => exact ⟨j + 1, by omega, by go_num, (bt hB HB.out).setCell (Nat.le_refl _) _, by have := HB.out.size; simp [World.setCell]; omega, hid (HS.out _ HO.out HB.out)⟩
        case measure => simp [intOf]; omega
    · obtain rfl : j = n := by omega
      have i1 : ¬ ((j : Int) < (j : Int)) := by omega
      go_wp2
      go_ret
      exact ⟨rfl, hH.out, hlt, hB⟩

end Go.Proofs.YtnbbbbfamlmfpaaGreat

/-
  laws.eqIntS, laws.eqIntSS at lists alike: they only draw.
-/
namespace Go.Proofs.YtnbbbbfamlmfpaaGreat
open Go.RowKit

theorem drewN_step {w wr : World} (k : Nat) (h : ∃ m, wr = w.drewN m) : ∃ m, wr.drewN k = w.drewN m := by
  obtain ⟨m, rfl⟩ := h
  exact ⟨m + k, World.drewN_drewN _ _ _⟩

set_option maxHeartbeats 1000000 in
theorem eqIntS_quiet (w : World) (v v' : Value) (l : List Int) (h : IS w v l) (h' : IS w v' l) (hl : l.length ≤ 1099511627776) :
    Calls Tryz.prog 11 #[v, v'] w fun e w' => e = .returned (.bool true) ∧ ∃ m, w' = w.drewN m := by
  obtain ⟨a, cap, rfl, hc⟩ := h
  obtain ⟨a', cap', rfl, hc'⟩ := h'
  obtain ⟨n, hn⟩ : ∃ n, n = l.length := ⟨_, rfl⟩
  rw [← hn] at hc hc' hl ⊢
  have HC := hid hc
  have HC' := hid hc'
  clear hc hc' hn
  have hne : ((n : Int) != (n : Int)) = false := by simp
  go_enter Tryz.func11, Tryz.ntmps11
  go_wp2
  go_loopw [5] (fun t wr => ∃ j : Nat, j ≤ n ∧ t = .int .i64 j ∧ Hid (∃ m, wr = w.drewN m)) (fun t _ => n - (intOf t).toNat)
  case atStart => exact ⟨0, Nat.zero_le _, rfl, hid ⟨0, rfl⟩⟩
  case round =>
    obtain ⟨j, hj, rfl, hB⟩ := hrel
    by_cases hjn : j < n
    · have i1 : (j : Int) < (n : Int) := by omega
      rcases HC.out with h0 | ⟨b, o, rfl, hcell⟩
      · omega
      · rcases HC'.out with h0 | ⟨b', o', rfl, hcell'⟩
        · omega
        · have c1 : wr.cell? ⟨b, o + j, none⟩ = some (.int .i64 (l.getD j 0)) := by obtain ⟨m, rfl⟩ := hB.out; exact hcell j hjn
          have c2 : wr.cell? ⟨b', o' + j, none⟩ = some (.int .i64 (l.getD j 0)) := by obtain ⟨m, rfl⟩ := hB.out; exact hcell' j hjn
          obtain ⟨x, hx⟩ : ∃ x, x = l.getD j 0 := ⟨_, rfl⟩
          rw [← hx] at c1 c2
          have hxx : (x != x) = false := by simp
          clear hcell hcell' hx
          go_wp2_with fail
          go_quiet (fail)
          go_wp2
          go_roundw
          case rel => exact ⟨j + 1, by omega, by go_num, hid (drewN_step _ hB.out)⟩
          case measure => simp [intOf]; omega
    · obtain rfl : j = n := by omega
      have i1 : ¬ ((j : Int) < (j : Int)) := by omega
      go_wp2
      go_ret
      exact ⟨rfl, hB.out⟩

theorem IS.drewN {w : World} {v : Value} {l : List Int} (h : IS w v l) (m : Nat) : IS (w.drewN m) v l := h

set_option maxHeartbeats 2000000 in
set_option maxRecDepth 1000000 in
theorem eqIntSS_quiet (w : World) (v v' : Value) (ls : List (List Int)) (h : ISS w v ls) (h' : ISS w v' ls) (hl : Short ls) :
    Calls Tryz.prog 9 #[v, v'] w fun e w' => e = .returned (.bool true) ∧ ∃ m, w' = w.drewN m := by
  obtain ⟨a, cap, rfl, hc⟩ := h
  obtain ⟨a', cap', rfl, hc'⟩ := h'
  obtain ⟨hl1, hl2⟩ := hl
  obtain ⟨n, hn⟩ : ∃ n, n = ls.length := ⟨_, rfl⟩
  rw [← hn] at hc hc' hl1 ⊢
  have HC := hid hc
  have HC' := hid hc'
  have HL := hid hl2
  clear hc hc' hn hl2
  have hne : ((n : Int) != (n : Int)) = false := by simp
  go_enter Tryz.func9, Tryz.ntmps9
  go_wp2
  go_loopw [5] (fun t wr => ∃ j : Nat, j ≤ n ∧ t = .int .i64 j ∧ Hid (∃ m, wr = w.drewN m)) (fun t _ => n - (intOf t).toNat)
  case atStart => exact ⟨0, Nat.zero_le _, rfl, hid ⟨0, rfl⟩⟩
  case round =>
    obtain ⟨j, hj, rfl, hB⟩ := hrel
    by_cases hjn : j < n
    · have i1 : (j : Int) < (n : Int) := by omega
      rcases HC.out with h0 | ⟨b, o, rfl, hcell⟩
      · omega
      · rcases HC'.out with h0 | ⟨b', o', rfl, hcell'⟩
        · omega
        · obtain ⟨u, d1, hu⟩ := hcell j hjn
          obtain ⟨u', d2, hu'⟩ := hcell' j hjn
          have c1 : wr.cell? ⟨b, o + j, none⟩ = some u := by obtain ⟨m, rfl⟩ := hB.out; exact d1
          have c2 : wr.cell? ⟨b', o' + j, none⟩ = some u' := by obtain ⟨m, rfl⟩ := hB.out; exact d2
          have HK : Hid (∀ q, Calls Tryz.prog 11 #[u, u'] (wr.drewN q) fun e w' => e = .returned (.bool true) ∧ ∃ m, w' = (wr.drewN q).drewN m) := fun q => by
            obtain ⟨m, rfl⟩ := hB.out
            exact eqIntS_quiet _ u u' (ls.getD j []) hu hu' (HL.out j)
          obtain ⟨a1, cap1, rfl, -⟩ := hu
          obtain ⟨a2, cap2, rfl, -⟩ := hu'
          clear hcell hcell' d1 d2
          go_wp2_with fail
          go_quiet ((go_at_call 11; exact Calls.quiet_of (HK.out _)))
          go_wp2
          go_roundw
          case rel => exact ⟨j + 1, by omega, by go_num, hid (drewN_step _ hB.out)⟩
          case measure => simp [intOf]; omega
    · obtain rfl : j = n := by omega
      have i1 : ¬ ((j : Int) < (j : Int)) := by omega
      go_wp2
      go_ret
      exact ⟨rfl, hB.out⟩

end Go.Proofs.YtnbbbbfamlmfpaaGreat

/-
  Lists in order: cmp.Compare, slices.Compare, spec.l2Compare.
-/
namespace Go.Proofs.YtnbbbbfamlmfpaaGreat
open Go.RowKit

def cmpL : List Int → List Int → Int
  | [], [] => 0
  | [], _ :: _ => -1
  | _ :: _, [] => 1
  | x :: a, y :: b => if x < y then -1 else if y < x then 1 else cmpL a b

theorem drop_getD {l : List Int} {j : Nat} (h : j < l.length) : l.drop j = l.getD j 0 :: l.drop (j + 1) := by
  rw [List.getD_eq_getElem?_getD, List.getElem?_eq_getElem h]
  exact List.drop_eq_getElem_cons h

theorem cmpL_drop (a b : List Int) : ∀ j, j ≤ a.length → j ≤ b.length → (∀ i, i < j → a.getD i 0 = b.getD i 0) → cmpL a b = cmpL (a.drop j) (b.drop j) := by
  intro j
  induction j with
  | zero => intros; simp
  | succ j ih =>
    intro h1 h2 h3
    rw [ih (by omega) (by omega) (fun i hi => h3 i (by omega)), drop_getD (show j < a.length by omega), drop_getD (show j < b.length by omega), h3 j (by omega)]
    simp [cmpL]

theorem cmpL_lt {a b : List Int} {j : Nat} (h1 : j < a.length) (h2 : j < b.length) (h3 : ∀ i, i < j → a.getD i 0 = b.getD i 0) (h4 : a.getD j 0 < b.getD j 0) : cmpL a b = -1 := by
  rw [cmpL_drop a b j (by omega) (by omega) h3, drop_getD h1, drop_getD h2]
  simp only [cmpL]
  rw [if_pos h4]

theorem cmpL_gt {a b : List Int} {j : Nat} (h1 : j < a.length) (h2 : j < b.length) (h3 : ∀ i, i < j → a.getD i 0 = b.getD i 0) (h4 : b.getD j 0 < a.getD j 0) : cmpL a b = 1 := by
  rw [cmpL_drop a b j (by omega) (by omega) h3, drop_getD h1, drop_getD h2]
  simp only [cmpL]
  rw [if_neg (by omega), if_pos h4]

theorem cmpL_short {a b : List Int} (h2 : a.length < b.length) (h3 : ∀ i, i < a.length → a.getD i 0 = b.getD i 0) : cmpL a b = -1 := by
  rw [cmpL_drop a b a.length (by omega) (by omega) h3, drop_getD h2, List.drop_length]
  rfl

theorem cmpL_long {a b : List Int} (h2 : b.length < a.length) (h3 : ∀ i, i < b.length → a.getD i 0 = b.getD i 0) : cmpL a b = 1 := by
  rw [cmpL_drop a b b.length (by omega) (by omega) h3, drop_getD h2, List.drop_length]
  rfl

theorem cmpL_same {a b : List Int} (h2 : a.length = b.length) (h3 : ∀ i, i < a.length → a.getD i 0 = b.getD i 0) : cmpL a b = 0 := by
  rw [cmpL_drop a b a.length (by omega) (by omega) h3, List.drop_length, h2, List.drop_length]
  rfl

def cmpI (x y : Int) : Int := if x < y then -1 else if y < x then 1 else 0

set_option maxHeartbeats 400000 in
theorem cmpInt_calls (w : World) (x y : Int) :
    Calls Tryz.prog 85 #[.int .i64 x, .int .i64 y] w fun e w' => e = .returned (.int .i64 (cmpI x y)) ∧ w' = w := by
  have hx : (x != x) = false := by simp
  have hy : (y != y) = false := by simp
  unfold cmpI
  by_cases h1 : x < y
  · rw [if_pos h1]
    go_enter Tryz.func85, Tryz.ntmps85
    go_wp2
    go_ret
    exact ⟨rfl, rfl⟩
  · rw [if_neg h1]
    by_cases h2 : y < x
    · rw [if_pos h2]
      go_enter Tryz.func85, Tryz.ntmps85
      go_wp2
      go_ret
      exact ⟨rfl, rfl⟩
    · rw [if_neg h2]
      go_enter Tryz.func85, Tryz.ntmps85
      go_wp2
      go_ret
      exact ⟨rfl, rfl⟩

end Go.Proofs.YtnbbbbfamlmfpaaGreat

/-
  Sorted rows, each once: what merging halves gives, and what sorting and taking out neighbours that are alike gives, are one and the same.
-/
namespace Go.Proofs.YtnbbbbfamlmfpaaGreat

theorem cmpL_self : ∀ a : List Int, cmpL a a = 0
  | [] => rfl
  | x :: a => by simp [cmpL, cmpL_self a]
theorem cmpL_eq : ∀ {a b : List Int}, cmpL a b = 0 → a = b
  | [], [], _ => rfl
  | [], _ :: _, h => by simp [cmpL] at h
  | _ :: _, [], h => by simp [cmpL] at h
  | x :: a, y :: b, h => by
    simp only [cmpL] at h
    split at h
    · omega
    · split at h
      · omega
      · rw [cmpL_eq h, show x = y by omega]
theorem cmpL_neg : ∀ a b : List Int, cmpL b a = - cmpL a b
  | [], [] => rfl
  | [], _ :: _ => rfl
  | _ :: _, [] => rfl
  | x :: a, y :: b => by
    simp only [cmpL]
    by_cases h1 : x < y
    · rw [if_neg (by omega), if_pos h1, if_pos h1]; rfl
    · by_cases h2 : y < x
      · rw [if_pos h2, if_neg h1, if_pos h2]
      · rw [if_neg h2, if_neg h1, if_neg h1, if_neg h2]; exact cmpL_neg a b
theorem cmpL_trans : ∀ {a b c : List Int}, cmpL a b < 0 → cmpL b c < 0 → cmpL a c < 0
  | [], [], _, h, _ => by simp [cmpL] at h
  | [], _ :: _, [], _, h => by simp [cmpL] at h
  | [], _ :: _, _ :: _, _, _ => by simp [cmpL]
  | _ :: _, [], _, h, _ => by simp [cmpL] at h
  | _ :: _, _ :: _, [], _, h => by simp [cmpL] at h
  | x :: a, y :: b, z :: c, h1, h2 => by
    simp only [cmpL] at h1 h2 ⊢
    by_cases e1 : x < y
    · by_cases e2 : y < z
      · rw [if_pos (by omega)]; decide
      · rw [if_neg e2] at h2
        by_cases e3 : z < y
        · rw [if_pos e3] at h2; omega
        · rw [if_pos (by omega)]; decide
    · rw [if_neg e1] at h1
      by_cases e2 : y < x
      · rw [if_pos e2] at h1; omega
      · rw [if_neg e2] at h1
        by_cases e3 : y < z
        · rw [if_pos (by omega)]; decide
        · rw [if_neg e3] at h2
          by_cases e4 : z < y
          · rw [if_pos e4] at h2; omega
          · rw [if_neg e4] at h2
            rw [if_neg (by omega), if_neg (by omega)]
            exact cmpL_trans h1 h2

/-- ascending, each once -/
def SL (l : List (List Int)) : Prop := l.Pairwise fun a b => cmpL a b < 0

theorem SL.uniq : ∀ {a b : List (List Int)}, SL a → SL b → (∀ x, x ∈ a ↔ x ∈ b) → a = b
  | [], [], _, _, _ => rfl
  | [], y :: b, _, _, h => by have := (h y).2 (List.mem_cons_self ..); cases this
  | x :: a, [], _, _, h => by have := (h x).1 (List.mem_cons_self ..); cases this
  | x :: a, y :: b, ha, hb, h => by
    unfold SL at ha hb
    rw [List.pairwise_cons] at ha hb
    have hxy : x = y := by
      rcases List.mem_cons.1 ((h x).1 (List.mem_cons_self ..)) with e | e
      · exact e
      · rcases List.mem_cons.1 ((h y).2 (List.mem_cons_self ..)) with e2 | e2
        · exact e2.symm
        · have h1 := hb.1 x e
          have h2 := ha.1 y e2
          have := cmpL_trans h1 h2
          rw [cmpL_self] at this
          omega
    subst hxy
    rw [SL.uniq (a := a) (b := b) ha.2 hb.2 fun z => ?_]
    constructor
    · intro hz
      rcases List.mem_cons.1 ((h z).1 (List.mem_cons_of_mem _ hz)) with e | e
      · subst e; have := ha.1 _ hz; rw [cmpL_self] at this; omega
      · exact e
    · intro hz
      rcases List.mem_cons.1 ((h z).2 (List.mem_cons_of_mem _ hz)) with e | e
      · subst e; have := hb.1 _ hz; rw [cmpL_self] at this; omega
      · exact e

/-- merging -/
def mrgI (x : List Int) (a : List (List Int)) (f : List (List Int) → List (List Int)) : List (List Int) → List (List Int)
  | [] => x :: a
  | y :: b => if cmpL x y < 0 then x :: f (y :: b) else if 0 < cmpL x y then y :: mrgI x a f b else x :: f b
def mrg : List (List Int) → List (List Int) → List (List Int)
  | [], b => b
  | x :: a, b => mrgI x a (mrg a) b
theorem mrg_nil_left (b : List (List Int)) : mrg [] b = b := rfl
theorem mrg_nil_right (a : List (List Int)) : mrg a [] = a := by cases a <;> rfl
theorem mrg_lt {x y : List Int} {a b : List (List Int)} (h : cmpL x y < 0) : mrg (x :: a) (y :: b) = x :: mrg a (y :: b) := if_pos h
theorem mrg_gt {x y : List Int} {a b : List (List Int)} (h : 0 < cmpL x y) : mrg (x :: a) (y :: b) = y :: mrg (x :: a) b := (if_neg (by omega)).trans (if_pos h)
theorem mrg_eq {x y : List Int} {a b : List (List Int)} (h1 : ¬ cmpL x y < 0) (h2 : ¬ 0 < cmpL x y) : mrg (x :: a) (y :: b) = x :: mrg a b := (if_neg h1).trans (if_neg h2)

theorem mem_mrg (z : List Int) : ∀ (n : Nat) (a b : List (List Int)), a.length + b.length ≤ n → (z ∈ mrg a b ↔ z ∈ a ∨ z ∈ b)
  | n, [], b, _ => by rw [mrg_nil_left]; simp
  | n, x :: a, [], _ => by rw [mrg_nil_right]; simp
  | n + 1, x :: a, y :: b, h => by
    simp only [List.length_cons] at h
    by_cases h1 : cmpL x y < 0
    · rw [mrg_lt h1, List.mem_cons, mem_mrg z n a (y :: b) (by simp only [List.length_cons]; omega), List.mem_cons, List.mem_cons, or_assoc]
    · by_cases h2 : 0 < cmpL x y
      · rw [mrg_gt h2, List.mem_cons, mem_mrg z n (x :: a) b (by simp only [List.length_cons]; omega), List.mem_cons, List.mem_cons]
        constructor
        · rintro (h | (h | h) | h)
          · exact Or.inr (Or.inl h)
          · exact Or.inl (Or.inl h)
          · exact Or.inl (Or.inr h)
          · exact Or.inr (Or.inr h)
        · rintro ((h | h) | (h | h))
          · exact Or.inr (Or.inl (Or.inl h))
          · exact Or.inr (Or.inl (Or.inr h))
          · exact Or.inl h
          · exact Or.inr (Or.inr h)
      · have e : x = y := cmpL_eq (by omega)
        subst e
        rw [mrg_eq h1 h2, List.mem_cons, mem_mrg z n a b (by omega), List.mem_cons, List.mem_cons]
        constructor
        · rintro (h | h | h)
          · exact Or.inl (Or.inl h)
          · exact Or.inl (Or.inr h)
          · exact Or.inr (Or.inr h)
        · rintro ((h | h) | (h | h))
          · exact Or.inl h
          · exact Or.inr (Or.inl h)
          · exact Or.inl h
          · exact Or.inr (Or.inr h)
  | 0, x :: a, y :: b, h => by simp only [List.length_cons] at h; omega

theorem SL.mrg : ∀ (n : Nat) (a b : List (List Int)), a.length + b.length ≤ n → SL a → SL b → SL (mrg a b)
  | n, [], b, _, _, hb => by rw [mrg_nil_left]; exact hb
  | n, x :: a, [], _, ha, _ => by rw [mrg_nil_right]; exact ha
  | 0, x :: a, y :: b, h, _, _ => by simp only [List.length_cons] at h; omega
  | n + 1, x :: a, y :: b, h, ha, hb => by
    simp only [List.length_cons] at h
    have ha' := List.pairwise_cons.1 ha
    have hb' := List.pairwise_cons.1 hb
    by_cases h1 : cmpL x y < 0
    · rw [mrg_lt h1]
      refine List.pairwise_cons.2 ⟨fun z hz => ?_, SL.mrg n a (y :: b) (by simp only [List.length_cons]; omega) ha'.2 hb⟩
      rcases (mem_mrg z _ a (y :: b) (Nat.le_refl _)).1 hz with h | h
      · exact ha'.1 z h
      · rcases List.mem_cons.1 h with rfl | h
        · exact h1
        · exact cmpL_trans h1 (hb'.1 z h)
    · by_cases h2 : 0 < cmpL x y
      · have h3 : cmpL y x < 0 := by rw [cmpL_neg]; omega
        rw [mrg_gt h2]
        refine List.pairwise_cons.2 ⟨fun z hz => ?_, SL.mrg n (x :: a) b (by simp only [List.length_cons]; omega) ha hb'.2⟩
        rcases (mem_mrg z _ (x :: a) b (Nat.le_refl _)).1 hz with h | h
        · rcases List.mem_cons.1 h with rfl | h
          · exact h3
          · exact cmpL_trans h3 (ha'.1 z h)
        · exact hb'.1 z h
      · have e : x = y := cmpL_eq (by omega)
        subst e
        rw [mrg_eq h1 h2]
        refine List.pairwise_cons.2 ⟨fun z hz => ?_, SL.mrg n a b (by omega) ha'.2 hb'.2⟩
        rcases (mem_mrg z _ a b (Nat.le_refl _)).1 hz with h | h
        · exact ha'.1 z h
        · exact hb'.1 z h

/-- halves sorted and merged -/
def srtF : Nat → List (List Int) → List (List Int)
  | 0, l => l
  | n + 1, l => if l.length < 2 then l else mrg (srtF n (l.take (l.length / 2))) (srtF n (l.drop (l.length / 2)))
def srt (l : List (List Int)) : List (List Int) := srtF l.length l
theorem srtF_same : ∀ (n m : Nat) (l : List (List Int)), l.length ≤ n → l.length ≤ m → srtF n l = srtF m l
  | 0, 0, l, _, _ => rfl
  | 0, m + 1, l, h, _ => by unfold srtF; rw [if_pos (by omega)]
  | n + 1, 0, l, _, h => by unfold srtF; rw [if_pos (by omega)]
  | n + 1, m + 1, l, h1, h2 => by
    unfold srtF
    by_cases h : l.length < 2
    · rw [if_pos h, if_pos h]
    · rw [if_neg h, if_neg h, srtF_same n m _ (by rw [List.length_take]; omega) (by rw [List.length_take]; omega), srtF_same n m (l.drop _) (by rw [List.length_drop]; omega) (by rw [List.length_drop]; omega)]
theorem srt_short {l : List (List Int)} (h : l.length < 2) : srt l = l := by
  unfold srt
  cases e : l.length with
  | zero => rfl
  | succ n => exact if_pos h
theorem srt_long {l : List (List Int)} (h : ¬ l.length < 2) : srt l = mrg (srt (l.take (l.length / 2))) (srt (l.drop (l.length / 2))) := by
  rw [show srt l = srtF (l.length + 1) l from srtF_same _ _ _ (Nat.le_refl _) (Nat.le_succ _)]
  refine (if_neg h).trans ?_
  rw [srtF_same l.length _ (l.take _) (by rw [List.length_take]; omega) (Nat.le_refl _), srtF_same l.length _ (l.drop _) (by rw [List.length_drop]; omega) (Nat.le_refl _)]
  rfl
theorem srt_ok : ∀ (n : Nat) (l : List (List Int)), l.length ≤ n → SL (srt l) ∧ ∀ z, z ∈ srt l ↔ z ∈ l
  | n, l, h => by
    by_cases h2 : l.length < 2
    · rw [srt_short h2]
      refine ⟨?_, fun z => Iff.rfl⟩
      match l, h2 with
      | [], _ => exact List.Pairwise.nil
      | [x], _ => exact List.pairwise_singleton _ _
    · rw [srt_long h2]
      match n with
      | 0 => omega
      | n + 1 =>
        obtain ⟨a1, a2⟩ := srt_ok n (l.take (l.length / 2)) (by rw [List.length_take]; omega)
        obtain ⟨b1, b2⟩ := srt_ok n (l.drop (l.length / 2)) (by rw [List.length_drop]; omega)
        refine ⟨SL.mrg _ _ _ (Nat.le_refl _) a1 b1, fun z => ?_⟩
        rw [mem_mrg z _ _ _ (Nat.le_refl _), a2, b2, ← List.mem_append, List.take_append_drop]
theorem srt_len_mrg : ∀ (n : Nat) (a b : List (List Int)), a.length + b.length ≤ n → (mrg a b).length ≤ a.length + b.length
  | n, [], b, _ => by rw [mrg_nil_left]; simp
  | n, x :: a, [], _ => by rw [mrg_nil_right]; simp
  | 0, x :: a, y :: b, h => by simp only [List.length_cons] at h; omega
  | n + 1, x :: a, y :: b, h => by
    simp only [List.length_cons] at h
    by_cases h1 : cmpL x y < 0
    · have := srt_len_mrg n a (y :: b) (by simp only [List.length_cons]; omega)
      rw [mrg_lt h1]; simp only [List.length_cons] at this ⊢; omega
    · by_cases h2 : 0 < cmpL x y
      · have := srt_len_mrg n (x :: a) b (by simp only [List.length_cons]; omega)
        rw [mrg_gt h2]; simp only [List.length_cons] at this ⊢; omega
      · have := srt_len_mrg n a b (by omega)
        rw [mrg_eq h1 h2]; simp only [List.length_cons]; omega
theorem srt_len : ∀ (n : Nat) (l : List (List Int)), l.length ≤ n → (srt l).length ≤ l.length
  | n, l, h => by
    by_cases h2 : l.length < 2
    · rw [srt_short h2]; exact Nat.le_refl _
    · rw [srt_long h2]
      match n with
      | 0 => omega
      | n + 1 =>
        have a1 := srt_len n (l.take (l.length / 2)) (by rw [List.length_take]; omega)
        have b1 := srt_len n (l.drop (l.length / 2)) (by rw [List.length_drop]; omega)
        have c1 := srt_len_mrg _ (srt (l.take (l.length / 2))) (srt (l.drop (l.length / 2))) (Nat.le_refl _)
        rw [List.length_take] at a1
        rw [List.length_drop] at b1
        omega

/-- neighbours that are alike are taken out -/
def cpt : List (List Int) → List (List Int)
  | [] => []
  | [x] => [x]
  | x :: y :: l => if x = y then cpt (y :: l) else x :: cpt (y :: l)
theorem mem_cpt (z : List Int) : ∀ l : List (List Int), z ∈ cpt l ↔ z ∈ l
  | [] => Iff.rfl
  | [x] => Iff.rfl
  | x :: y :: l => by
    rw [cpt]
    split
    · rename_i e
      subst e
      rw [mem_cpt z (x :: l)]
      simp
    · rw [List.mem_cons, mem_cpt z (y :: l), List.mem_cons (a := z) (b := x)]
theorem SL.cpt : ∀ l : List (List Int), (l.Pairwise fun a b => ¬ cmpL b a < 0) → SL (cpt l)
  | [], _ => List.Pairwise.nil
  | [x], _ => List.pairwise_singleton _ _
  | x :: y :: l, h => by
    have h' := List.pairwise_cons.1 h
    rw [Go.Proofs.YtnbbbbfamlmfpaaGreat.cpt]
    split
    · exact SL.cpt (y :: l) h'.2
    · rename_i ne
      refine List.pairwise_cons.2 ⟨fun z hz => ?_, SL.cpt (y :: l) h'.2⟩
      rw [mem_cpt] at hz
      have h1 := h'.1 z hz
      have h2 := h'.1 y (List.mem_cons_self ..)
      have hy : ¬ cmpL z y < 0 := by
        rcases List.mem_cons.1 hz with rfl | h3
        · rw [cmpL_self]; omega
        · exact (List.pairwise_cons.1 h'.2).1 z h3
      -- x < y, since x ≤ y and x ≠ y
      have hxy : cmpL x y < 0 := by
        have e1 := cmpL_neg x y
        rcases Int.lt_trichotomy (cmpL x y) 0 with h | h | h
        · exact h
        · exact absurd (cmpL_eq h) ne
        · omega
      have e2 := cmpL_neg y z
      rcases Int.lt_trichotomy (cmpL y z) 0 with h | h | h
      · exact cmpL_trans hxy h
      · rw [← cmpL_eq h]; exact hxy
      · omega
/-- the two ways meet -/
theorem cpt_srt {l l' : List (List Int)} (hs : l'.Pairwise fun a b => ¬ cmpL b a < 0) (hm : ∀ z, z ∈ l' ↔ z ∈ l) : cpt l' = srt l := by
  obtain ⟨a, b⟩ := srt_ok _ l (Nat.le_refl _)
  exact SL.uniq (SL.cpt l' hs) a fun z => by rw [mem_cpt, b, hm]

end Go.Proofs.YtnbbbbfamlmfpaaGreat
