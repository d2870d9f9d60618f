import Derived.Test.YtegcpplkcahkhaaGreatB03
/-
  Slices of slices of ints; impl.edgesWith.
-/
namespace Go.Proofs.YtegcpplkcahkhaaGreat
open Go.RowKit

/-- a slice of slices of ints that can be read -/
def ISS (w : World) (v : Value) (ls : List (List Int)) : Prop := ∃ a cap, v = .slice a ls.length cap ∧ (ls.length = 0 ∨ ∃ b o, a = some ⟨b, o, none⟩ ∧ ∀ j, j < ls.length → ∃ u, w.cell? ⟨b, o + j, none⟩ = some u ∧ IS w u (ls.getD j []))

theorem ISS.below {w w' : World} {v : Value} {ls : List (List Int)} (h : ISS w v ls) (hb : Below w.heap.size w w') : ISS w' v ls := by
  obtain ⟨a, cap, rfl, h⟩ := h
  refine ⟨a, cap, rfl, ?_⟩
  rcases h with h | ⟨b, o, rfl, h⟩
  · exact Or.inl h
  · refine Or.inr ⟨b, o, rfl, fun j hj => ?_⟩
    obtain ⟨u, h1, h2⟩ := h j hj
    exact ⟨u, (hb.cell (p := ⟨b, o + j, none⟩) (World.block_lt_of_cell? w _ h1)).trans h1, h2.below hb⟩

/-- all of the lists are short -/
def Short (ls : List (List Int)) : Prop := ls.length ≤ 1099511627776 ∧ ∀ j, (ls.getD j []).length ≤ 1099511627776

end Go.Proofs.YtegcpplkcahkhaaGreat

/-
  laws.szIntSS: how many cells a slice of slices takes.
-/
namespace Go.Proofs.YtegcpplkcahkhaaGreat
open Go.RowKit


def tot (ls : List (List Int)) (k : Nat) : Nat := ls.length + ((ls.take k).map List.length).sum

theorem tot_zero (ls : List (List Int)) : tot ls 0 = ls.length := by simp [tot]
theorem tot_succ (ls : List (List Int)) (k : Nat) (h : k < ls.length) : tot ls (k + 1) = tot ls k + (ls.getD k []).length := by
  unfold tot
  rw [List.take_add_one, List.getElem?_eq_getElem h, List.getD_eq_getElem?_getD, List.getElem?_eq_getElem h]
  simp only [Option.toList_some, List.map_append, List.map_cons, List.map_nil, List.sum_append, List.sum_cons, List.sum_nil, Option.getD_some]
  omega
theorem tot_le (ls : List (List Int)) : ∀ (d k : Nat), k + d = ls.length → tot ls k ≤ tot ls ls.length := by
  intro d
  induction d with
  | zero => intro k h; rw [show k = ls.length by omega]; exact Nat.le_refl _
  | succ d ih =>
    intro k h
    have h1 := ih (k + 1) (by omega)
    have h2 := tot_succ ls k (by omega)
    omega

/-- the bound that every slice keeps -/
def Fits (ls : List (List Int)) : Prop := ls.length ≤ 9223372036854775807 ∧ ∀ j, (ls.getD j []).length ≤ 9223372036854775807

theorem getD_le_tot (ls : List (List Int)) (j : Nat) : (ls.getD j []).length ≤ tot ls ls.length := by
  by_cases h : j < ls.length
  · have h1 := tot_succ ls j h
    have h2 := tot_le ls (ls.length - (j + 1)) (j + 1) (by omega)
    omega
  · rw [List.getD_eq_getElem?_getD, List.getElem?_eq_none (by omega)]; simp

theorem short_of_tot {ls : List (List Int)} (h : tot ls ls.length ≤ 1048576) : Short ls := by
  have h0 := tot_le ls ls.length 0 (by omega)
  rw [tot_zero] at h0
  exact ⟨by omega, fun j => by have := getD_le_tot ls j; omega⟩

def szSS (ls : List (List Int)) (left : Int) : Int := if left < tot ls ls.length then -1 else left - tot ls ls.length

set_option maxHeartbeats 2000000 in
set_option maxRecDepth 1000000 in
theorem szIntSS_calls (w : World) (ve : Value) (ls : List (List Int)) (left : Int) (h : ISS w ve ls) (hl : Fits ls) (h1 : 0 ≤ left) (h2 : left ≤ 1048576) :
    Calls Tryz.prog 70 #[ve, .int .i64 left] w fun e w' => e = .returned (.int .i64 (szSS ls left)) ∧ w' = w := by
  obtain ⟨a, cap, rfl, hc⟩ := h
  obtain ⟨hl1, hl2⟩ := hl
  obtain ⟨n, hn⟩ : ∃ n, n = ls.length := ⟨_, rfl⟩
  obtain ⟨res, hres⟩ : ∃ r, r = szSS ls left := ⟨_, rfl⟩
  rw [← hres]
  unfold szSS at hres
  rw [← hn] at hc hl1 hres ⊢
  have HR := hid hres
  have HC := hid hc
  have HN := hid hn
  have HL := hid hl2
  have HT : Hid (∀ k, k ≤ n → tot ls k ≤ tot ls n) := fun k hk => by
    have := tot_le ls (ls.length - k) k (by rw [← HN.out]; omega)
    rw [← HN.out] at this; exact this
  have HS : Hid (∀ k, k < n → tot ls (k + 1) = tot ls k + (ls.getD k []).length) := fun k hk => tot_succ ls k (by rw [← HN.out]; exact hk)
  have H0 : Hid (tot ls 0 = n) := (tot_zero ls).trans HN.out.symm
  clear hc hn hl2 hres
  by_cases hf : left < n
  · have hf1 : left - (n : Int) < 0 := by omega
    have hf2 : Hid (res = -1) := by
      have t0 := HT.out 0 (by omega)
      rw [H0.out] at t0
      exact HR.out.trans (if_pos (by omega))
    go_enter Tryz.func70, Tryz.ntmps70
    go_wp2
    go_ret
    exact ⟨ret_int hf2.out.symm, rfl⟩
  have hf1 : ¬ (left - (n : Int) < 0) := by omega
  go_enter Tryz.func70, Tryz.ntmps70
  go_wp2
  go_loop [1, 5] (fun u t => ∃ j : Nat, j ≤ n ∧ t = .int .i64 j ∧ ∃ c : Int, u = .int .i64 c ∧ 0 ≤ c ∧ c ≤ left ∧ Hid (c = left - tot ls j)) (fun _ t => n - (intOf t).toNat)
  case atStart => exact ⟨0, Nat.zero_le _, rfl, _, rfl, by omega, by omega, hid (by rw [H0.out])⟩
  case round =>
    obtain ⟨j, hj, rfl, c, rfl, hc0, hc1, hok⟩ := hrel
    by_cases hjn : j < n
    · have i1 : (j : Int) < (n : Int) := by omega
      rcases HC.out with h0 | ⟨b, o, rfl, hcell⟩
      · omega
      · obtain ⟨u, c1, hu⟩ := hcell j hjn
        have hs := HS.out j hjn
        have hm := HL.out j
        obtain ⟨a1, cap1, rfl, -⟩ := hu
        have ht := HT.out (j + 1) (by omega)
        have ho := hok.out
        have hr := HR.out
        clear hcell hok
        generalize (ls.getD j []).length = m at *
        have HK := hid (szIntS_calls w a1 m cap1 c hc0 (by omega) (by omega))
        by_cases hcm : c < m
        · have hf : Hid (res = -1) := hid (hr.trans (if_pos (by omega)))
          rw [if_pos hcm] at HK
          clear hs ht ho hr
          go_wp2_with (first | (go_at_call 71; refine HK.out.mono ?_; rintro e w' ⟨rfl, hw'⟩; subst w'))
          go_ret
          exact ⟨ret_int hf.out.symm, rfl⟩
        · have hf : Hid (c - m = left - tot ls (j + 1)) := hid (by omega)
          have hc2 : ¬ (c - (m : Int) < 0) := by omega
          rw [if_neg hcm] at HK
          clear hs ht ho hr
          go_wp2_with (first | (go_at_call 71; refine HK.out.mono ?_; rintro e w' ⟨rfl, hw'⟩; subst w'))
          go_round
          case rel => exact ⟨j + 1, by omega, by go_num, _, rfl, by omega, by omega, hf⟩
          case measure => simp [intOf]; omega
    · obtain rfl : j = n := by omega
      have ho := hok.out
      have hf : Hid (res = c) := HR.out.trans (by rw [if_neg (by omega)]; omega)
      have i1 : ¬ ((j : Int) < (j : Int)) := by omega
      clear hok ho
      go_wp2
      go_ret
      exact ⟨ret_int hf.out.symm, rfl⟩

end Go.Proofs.YtegcpplkcahkhaaGreat

/-
  laws.toIntSS: a copy of a slice of slices in new memory, every list in a block of its own.
-/
namespace Go.Proofs.YtegcpplkcahkhaaGreat
open Go.RowKit

/-- the first j of n lists have been laid -/
structure Half (w : World) (G n j : Nat) (ls : List (List Int)) (f : Nat → Nat) : Prop where
  cell : ∀ i, i < n → w.cell? ⟨G, i, none⟩ = some (if i < j then .slice (some ⟨f i, 0, none⟩) (ls.getD i []).length (ls.getD i []).length else .slice none 0 0)
  free : ∀ i, i < n → w.frozen? ⟨G, i, none⟩ = false
  own : ∀ i, i < j → OwnI w (f i) (ls.getD i [])
  gt : ∀ i, i < j → G < f i
  up : ∀ i k, i < k → k < j → f i < f k

theorem Half.step {w w1 : World} {G n j : Nat} {ls : List (List Int)} {f : Nat → Nat} (h : Half w G n j ls f) (hj : j < n) (hG : G < w.heap.size)
    (ho : OwnI w1 w.heap.size (ls.getD j [])) (hb : Below w.heap.size w w1) :
    Half (w1.setCell ⟨G, j, none⟩ (.slice (some ⟨w.heap.size, 0, none⟩) (ls.getD j []).length (ls.getD j []).length)) G n (j + 1) ls (fun i => if i = j then w.heap.size else f i) := by
  have hc : ∀ i, i < n → w1.cell? ⟨G, i, none⟩ = some (if i < j then .slice (some ⟨f i, 0, none⟩) (ls.getD i []).length (ls.getD i []).length else .slice none 0 0) :=
    fun i hi => (hb.cell (p := ⟨G, i, none⟩) hG).trans (h.cell i hi)
  have hsz : ∀ (a : Addr) (v : Value), (w1.setCell a v).heap.size = w1.heap.size := fun a v => by simp [World.setCell]
  refine ⟨fun i hi => ?_, fun i hi => ?_, fun i hi => ?_, fun i hi => ?_, fun i k hik hk => ?_⟩
  · by_cases e : i = j
    · subst e
      rw [if_pos (by omega), if_pos rfl]
      exact World.cell?_setCell_same _ _ _ (hc i hi)
    · rw [World.cell?_setCell_other _ _ _ _ (by intro e2; simp only [Addr.mk.injEq] at e2; omega), hc i hi, if_neg e]
      by_cases e2 : i < j
      · rw [if_pos e2, if_pos (by omega)]
      · rw [if_neg e2, if_neg (by omega)]
  · rw [World.frozen?_setCell]
    exact (World.frozen?_of_block (w := w) (a := ⟨G, i, none⟩) (hb.block G hG)).trans (h.free i hi)
  · by_cases e : i = j
    · subst e
      rw [if_pos rfl]
      exact ho.move (Below.heap_setCell _ _ _ _ (by show w.heap.size ≠ G; omega)) (by rw [hsz]; exact Nat.le_refl _)
    · rw [if_neg e]
      have hgt := h.gt i (by omega)
      exact ((h.own i (by omega)).below hb).move (Below.heap_setCell _ _ _ _ (by show f i ≠ G; omega)) (by rw [hsz]; exact Nat.le_refl _)
  · show G < (if i = j then w.heap.size else f i)
    by_cases e : i = j
    · rw [if_pos e]; exact hG
    · rw [if_neg e]; exact h.gt i (by omega)
  · show (if i = j then w.heap.size else f i) < (if k = j then w.heap.size else f k)
    rw [if_neg (by omega)]
    by_cases e : k = j
    · rw [if_pos e]; exact (h.own i (by omega)).lt
    · rw [if_neg e]; exact h.up i k hik (by omega)

set_option maxHeartbeats 2000000 in
set_option maxRecDepth 1000000 in
theorem toIntSS_calls (w : World) (v : Value) (ls : List (List Int)) (h : ISS w v ls) (hl : Short ls) :
    Calls Tryz.prog 77 #[v] w fun e w' => e = .returned (.slice (some ⟨w.heap.size, 0, none⟩) ls.length ls.length) ∧ (∃ f, Half w' w.heap.size ls.length ls.length ls f) ∧ w.heap.size < w'.heap.size ∧ Below w.heap.size w w' := by
  obtain ⟨a, cap, rfl, hc⟩ := h
  obtain ⟨hl1, hl2⟩ := hl
  obtain ⟨n, hn⟩ : ∃ n, n = ls.length := ⟨_, rfl⟩
  rw [← hn] at hc hl1 ⊢
  have hmk := run_make_row' (P := Tryz.prog) 58 57 (.slice none 0 0) 24 Tryz.underlying58 (by kernel_rfl) rfl .i64 .i64 n (by omega) (by omega)
  have hb0 := heap_alloc_new w (.cells (madeCells #[.slice none 0 0] n) 57)
  have hA0 : ∀ j, j < n → (w.alloc (.cells (madeCells #[.slice none 0 0] n) 57)).cell? ⟨w.heap.size, j, none⟩ = some (.slice none 0 0) := fun j hj => by rw [cell_of_row _ _ _ _ _ _ hb0]; exact made_get _ _ _ hj
  have hF0 : ∀ j, (w.alloc (.cells (madeCells #[.slice none 0 0] n) 57)).frozen? ⟨w.heap.size, j, none⟩ = false := fun j => by unfold World.frozen?; rw [hb0]; simp
  have HA0 := hid hA0
  have HF0 := hid hF0
  clear hA0 hF0 hb0
  have HC := hid hc
  have HN := hid hn
  have HL := hid hl2
  clear hc hn hl2
  go_enter Tryz.func77, Tryz.ntmps77
  go_wp2
  go_loopw [4] (fun t wr => ∃ j : Nat, j ≤ n ∧ t = .int .i64 j ∧ Below w.heap.size w wr ∧ w.heap.size < wr.heap.size ∧ Hid (∃ f, Half wr w.heap.size n j ls f)) (fun t _ => n - (intOf t).toNat)
  case atStart => exact ⟨0, Nat.zero_le _, rfl, (Below.refl _ _).alloc (Nat.le_refl _) _, by simp, hid ⟨fun _ => 0, fun i hi => by rw [if_neg (by omega)]; exact HA0.out i hi, fun i _ => HF0.out i, fun i hi => by omega, fun i hi => by omega, fun i k _ hk => by omega⟩⟩
  case round =>
    obtain ⟨j, hj, rfl, hB, hlt, hH⟩ := hrel
    by_cases hjn : j < n
    · have i1 : (j : Int) < (n : Int) := by omega
      rcases HC.out with h0 | ⟨b, o, rfl, hcell⟩
      · omega
      · obtain ⟨u, c0, hu⟩ := hcell j hjn
        have c1 : wr.cell? ⟨b, o + j, none⟩ = some u := (hB.cell (p := ⟨b, o + j, none⟩) (World.block_lt_of_cell? w _ c0)).trans c0
        have HK := hid (toIntS_calls wr u (ls.getD j []) (hu.below hB) (HL.out j))
        obtain ⟨a1, cap1, rfl, -⟩ := hu
        have c2 : wr.cell? ⟨w.heap.size, j, none⟩ = some (.slice none 0 0) := by
          obtain ⟨f, hf⟩ := hH.out
          exact (hf.cell j hjn).trans (by rw [if_neg (by omega)])
        have c3 : wr.frozen? ⟨w.heap.size, j, none⟩ = false := by
          obtain ⟨f, hf⟩ := hH.out
          exact hf.free j hjn
        have HS : Hid (∀ w1, OwnI w1 wr.heap.size (ls.getD j []) → Below wr.heap.size wr w1 → ∃ f, Half (w1.setCell ⟨w.heap.size, j, none⟩ (.slice (some ⟨wr.heap.size, 0, none⟩) (ls.getD j []).length (ls.getD j []).length)) w.heap.size n (j + 1) ls f) := fun w1 ho hb => by
          obtain ⟨f, hf⟩ := hH.out
          exact ⟨_, hf.step hjn hlt ho hb⟩
        clear hcell c0 hH
        go_wp2_with (first | (go_at_call 78; refine HK.out.mono ?_; rintro e w1 ⟨rfl, ho, hb⟩; have c4 : w1.cell? ⟨w.heap.size, j, none⟩ = some (.slice none 0 0) := (hb.cell (p := ⟨w.heap.size, j, none⟩) hlt).trans c2; have c5 : w1.frozen? ⟨w.heap.size, j, none⟩ = false := (World.frozen?_of_block (w := wr) (a := ⟨w.heap.size, j, none⟩) (hb.block w.heap.size hlt)).trans c3; have HO := hid ho; have HB := hid hb; clear ho hb))
        go_roundw
        case rel => exact ⟨j + 1, by omega, by go_num, (bt hB HB.out).setCell (Nat.le_refl _) _, by have := HB.out.size; simp [World.setCell]; omega, hid (HS.out _ HO.out HB.out)⟩
        case measure => simp [intOf]; omega
    · obtain rfl : j = n := by omega
      have i1 : ¬ ((j : Int) < (j : Int)) := by omega
      go_wp2
      go_ret
      exact ⟨rfl, hH.out, hlt, hB⟩

end Go.Proofs.YtegcpplkcahkhaaGreat

/-
  laws.eqIntS, laws.eqIntSS at lists alike: they only draw.
-/
namespace Go.Proofs.YtegcpplkcahkhaaGreat
open Go.RowKit

theorem drewN_step {w wr : World} (k : Nat) (h : ∃ m, wr = w.drewN m) : ∃ m, wr.drewN k = w.drewN m := by
  obtain ⟨m, rfl⟩ := h
  exact ⟨m + k, World.drewN_drewN _ _ _⟩

set_option maxHeartbeats 1000000 in
theorem eqIntS_quiet (w : World) (v v' : Value) (l : List Int) (h : IS w v l) (h' : IS w v' l) (hl : l.length ≤ 1099511627776) :
    Calls Tryz.prog 64 #[v, v'] w fun e w' => e = .returned (.bool true) ∧ ∃ m, w' = w.drewN m := by
  obtain ⟨a, cap, rfl, hc⟩ := h
  obtain ⟨a', cap', rfl, hc'⟩ := h'
  obtain ⟨n, hn⟩ : ∃ n, n = l.length := ⟨_, rfl⟩
  rw [← hn] at hc hc' hl ⊢
  have HC := hid hc
  have HC' := hid hc'
  clear hc hc' hn
  have hne : ((n : Int) != (n : Int)) = false := by simp
  go_enter Tryz.func64, Tryz.ntmps64
  go_wp2
  go_loopw [5] (fun t wr => ∃ j : Nat, j ≤ n ∧ t = .int .i64 j ∧ Hid (∃ m, wr = w.drewN m)) (fun t _ => n - (intOf t).toNat)
  case atStart => exact ⟨0, Nat.zero_le _, rfl, hid ⟨0, rfl⟩⟩
  case round =>
    obtain ⟨j, hj, rfl, hB⟩ := hrel
    by_cases hjn : j < n
    · have i1 : (j : Int) < (n : Int) := by omega
      rcases HC.out with h0 | ⟨b, o, rfl, hcell⟩
      · omega
      · rcases HC'.out with h0 | ⟨b', o', rfl, hcell'⟩
        · omega
        · have c1 : wr.cell? ⟨b, o + j, none⟩ = some (.int .i64 (l.getD j 0)) := by obtain ⟨m, rfl⟩ := hB.out; exact hcell j hjn
          have c2 : wr.cell? ⟨b', o' + j, none⟩ = some (.int .i64 (l.getD j 0)) := by obtain ⟨m, rfl⟩ := hB.out; exact hcell' j hjn
          obtain ⟨x, hx⟩ : ∃ x, x = l.getD j 0 := ⟨_, rfl⟩
          rw [← hx] at c1 c2
          have hxx : (x != x) = false := by simp
          clear hcell hcell' hx
          go_wp2_with fail
          go_quiet (fail)
          go_wp2
          go_roundw
          case rel => exact ⟨j + 1, by omega, by go_num, hid (drewN_step _ hB.out)⟩
          case measure => simp [intOf]; omega
    · obtain rfl : j = n := by omega
      have i1 : ¬ ((j : Int) < (j : Int)) := by omega
      go_wp2
      go_ret
      exact ⟨rfl, hB.out⟩

theorem IS.drewN {w : World} {v : Value} {l : List Int} (h : IS w v l) (m : Nat) : IS (w.drewN m) v l := h

set_option maxHeartbeats 2000000 in
set_option maxRecDepth 1000000 in
theorem eqIntSS_quiet (w : World) (v v' : Value) (ls : List (List Int)) (h : ISS w v ls) (h' : ISS w v' ls) (hl : Short ls) :
    Calls Tryz.prog 65 #[v, v'] w fun e w' => e = .returned (.bool true) ∧ ∃ m, w' = w.drewN m := by
  obtain ⟨a, cap, rfl, hc⟩ := h
  obtain ⟨a', cap', rfl, hc'⟩ := h'
  obtain ⟨hl1, hl2⟩ := hl
  obtain ⟨n, hn⟩ : ∃ n, n = ls.length := ⟨_, rfl⟩
  rw [← hn] at hc hc' hl1 ⊢
  have HC := hid hc
  have HC' := hid hc'
  have HL := hid hl2
  clear hc hc' hn hl2
  have hne : ((n : Int) != (n : Int)) = false := by simp
  go_enter Tryz.func65, Tryz.ntmps65
  go_wp2
  go_loopw [5] (fun t wr => ∃ j : Nat, j ≤ n ∧ t = .int .i64 j ∧ Hid (∃ m, wr = w.drewN m)) (fun t _ => n - (intOf t).toNat)
  case atStart => exact ⟨0, Nat.zero_le _, rfl, hid ⟨0, rfl⟩⟩
  case round =>
    obtain ⟨j, hj, rfl, hB⟩ := hrel
    by_cases hjn : j < n
    · have i1 : (j : Int) < (n : Int) := by omega
      rcases HC.out with h0 | ⟨b, o, rfl, hcell⟩
      · omega
      · rcases HC'.out with h0 | ⟨b', o', rfl, hcell'⟩
        · omega
        · obtain ⟨u, d1, hu⟩ := hcell j hjn
          obtain ⟨u', d2, hu'⟩ := hcell' j hjn
          have c1 : wr.cell? ⟨b, o + j, none⟩ = some u := by obtain ⟨m, rfl⟩ := hB.out; exact d1
          have c2 : wr.cell? ⟨b', o' + j, none⟩ = some u' := by obtain ⟨m, rfl⟩ := hB.out; exact d2
          have HK : Hid (∀ q, Calls Tryz.prog 64 #[u, u'] (wr.drewN q) fun e w' => e = .returned (.bool true) ∧ ∃ m, w' = (wr.drewN q).drewN m) := fun q => by
            obtain ⟨m, rfl⟩ := hB.out
            exact eqIntS_quiet _ u u' (ls.getD j []) hu hu' (HL.out j)
          obtain ⟨a1, cap1, rfl, -⟩ := hu
          obtain ⟨a2, cap2, rfl, -⟩ := hu'
          clear hcell hcell' d1 d2
          go_wp2_with fail
          go_quiet ((go_at_call 64; exact Calls.quiet_of (HK.out _)))
          go_wp2
          go_roundw
          case rel => exact ⟨j + 1, by omega, by go_num, hid (drewN_step _ hB.out)⟩
          case measure => simp [intOf]; omega
    · obtain rfl : j = n := by omega
      have i1 : ¬ ((j : Int) < (j : Int)) := by omega
      go_wp2
      go_ret
      exact ⟨rfl, hB.out⟩

end Go.Proofs.YtegcpplkcahkhaaGreat
