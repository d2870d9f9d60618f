import Derived.Test.YtpdloenmplafiaaInts3
/-
  laws.toIntSS: a copy of a slice of slices in new memory, every list in a block of its own.
-/
namespace Go.Proofs.Ytpdloenmplafiaa
open Go.RowKit

/-- the first j of n lists have been laid -/
structure Half (w : World) (G n j : Nat) (ls : List (List Int)) (f : Nat → Nat) : Prop where
  cell : ∀ i, i < n → w.cell? ⟨G, i, none⟩ = some (if i < j then .slice (some ⟨f i, 0, none⟩) (ls.getD i []).length (ls.getD i []).length else .slice none 0 0)
  free : ∀ i, i < n → w.frozen? ⟨G, i, none⟩ = false
  own : ∀ i, i < j → OwnI w (f i) (ls.getD i [])
  gt : ∀ i, i < j → G < f i
  up : ∀ i k, i < k → k < j → f i < f k

theorem Half.step {w w1 : World} {G n j : Nat} {ls : List (List Int)} {f : Nat → Nat} (h : Half w G n j ls f) (hj : j < n) (hG : G < w.heap.size)
    (ho : OwnI w1 w.heap.size (ls.getD j [])) (hb : Below w.heap.size w w1) :
    Half (w1.setCell ⟨G, j, none⟩ (.slice (some ⟨w.heap.size, 0, none⟩) (ls.getD j []).length (ls.getD j []).length)) G n (j + 1) ls (fun i => if i = j then w.heap.size else f i) := by
  have hc : ∀ i, i < n → w1.cell? ⟨G, i, none⟩ = some (if i < j then .slice (some ⟨f i, 0, none⟩) (ls.getD i []).length (ls.getD i []).length else .slice none 0 0) :=
    fun i hi => (hb.cell (p := ⟨G, i, none⟩) hG).trans (h.cell i hi)
  have hsz : ∀ (a : Addr) (v : Value), (w1.setCell a v).heap.size = w1.heap.size := fun a v => by simp [World.setCell]
  refine ⟨fun i hi => ?_, fun i hi => ?_, fun i hi => ?_, fun i hi => ?_, fun i k hik hk => ?_⟩
  · by_cases e : i = j
    · subst e
      rw [if_pos (by omega), if_pos rfl]
      exact World.cell?_setCell_same _ _ _ (hc i hi)
    · rw [World.cell?_setCell_other _ _ _ _ (by intro e2; simp only [Addr.mk.injEq] at e2; omega), hc i hi, if_neg e]
      by_cases e2 : i < j
      · rw [if_pos e2, if_pos (by omega)]
      · rw [if_neg e2, if_neg (by omega)]
  · rw [World.frozen?_setCell]
    exact (World.frozen?_of_block (w := w) (a := ⟨G, i, none⟩) (hb.block G hG)).trans (h.free i hi)
  · by_cases e : i = j
    · subst e
      rw [if_pos rfl]
      exact ho.move (Below.heap_setCell _ _ _ _ (by show w.heap.size ≠ G; omega)) (by rw [hsz]; exact Nat.le_refl _)
    · rw [if_neg e]
      have hgt := h.gt i (by omega)
      exact ((h.own i (by omega)).below hb).move (Below.heap_setCell _ _ _ _ (by show f i ≠ G; omega)) (by rw [hsz]; exact Nat.le_refl _)
  · show G < (if i = j then w.heap.size else f i)
    by_cases e : i = j
    · rw [if_pos e]; exact hG
    · rw [if_neg e]; exact h.gt i (by omega)
  · show (if i = j then w.heap.size else f i) < (if k = j then w.heap.size else f k)
    rw [if_neg (by omega)]
    by_cases e : k = j
    · rw [if_pos e]; exact (h.own i (by omega)).lt
    · rw [if_neg e]; exact h.up i k hik (by omega)

set_option maxHeartbeats 2000000 in
set_option maxRecDepth 1000000 in
theorem toIntSS_calls (w : World) (v : Value) (ls : List (List Int)) (h : ISS w v ls) (hl : Short ls) :
    Calls Try.prog 11 #[v] w fun e w' => e = .returned (.slice (some ⟨w.heap.size, 0, none⟩) ls.length ls.length) ∧ (∃ f, Half w' w.heap.size ls.length ls.length ls f) ∧ w.heap.size < w'.heap.size ∧ Below w.heap.size w w' := by
  obtain ⟨a, cap, rfl, hc⟩ := h
  obtain ⟨hl1, hl2⟩ := hl
  obtain ⟨n, hn⟩ : ∃ n, n = ls.length := ⟨_, rfl⟩
  rw [← hn] at hc hl1 ⊢
  have hmk := run_make_row' (P := Try.prog) 23 22 (.slice none 0 0) 24 Try.underlying23 (by kernel_rfl) rfl .i64 .i64 n (by omega) (by omega)
  have hb0 := heap_alloc_new w (.cells (madeCells #[.slice none 0 0] n) 22)
  have hA0 : ∀ j, j < n → (w.alloc (.cells (madeCells #[.slice none 0 0] n) 22)).cell? ⟨w.heap.size, j, none⟩ = some (.slice none 0 0) := fun j hj => by rw [cell_of_row _ _ _ _ _ _ hb0]; exact made_get _ _ _ hj
  have hF0 : ∀ j, (w.alloc (.cells (madeCells #[.slice none 0 0] n) 22)).frozen? ⟨w.heap.size, j, none⟩ = false := fun j => by unfold World.frozen?; rw [hb0]; simp
  have HA0 := hid hA0
  have HF0 := hid hF0
  clear hA0 hF0 hb0
  have HC := hid hc
  have HN := hid hn
  have HL := hid hl2
  clear hc hn hl2
  go_enter Try.func11, Try.ntmps11
  go_wp2
  go_loopw [4] (fun t wr => ∃ j : Nat, j ≤ n ∧ t = .int .i64 j ∧ Below w.heap.size w wr ∧ w.heap.size < wr.heap.size ∧ Hid (∃ f, Half wr w.heap.size n j ls f)) (fun t _ => n - (intOf t).toNat)
  case atStart => exact ⟨0, Nat.zero_le _, rfl, (Below.refl _ _).alloc (Nat.le_refl _) _, by simp, hid ⟨fun _ => 0, fun i hi => by rw [if_neg (by omega)]; exact HA0.out i hi, fun i _ => HF0.out i, fun i hi => by omega, fun i hi => by omega, fun i k _ hk => by omega⟩⟩
  case round =>
    obtain ⟨j, hj, rfl, hB, hlt, hH⟩ := hrel
    by_cases hjn : j < n
    · have i1 : (j : Int) < (n : Int) := by omega
      rcases HC.out with h0 | ⟨b, o, rfl, hcell⟩
      · omega
      · obtain ⟨u, c0, hu⟩ := hcell j hjn
        have c1 : wr.cell? ⟨b, o + j, none⟩ = some u := (hB.cell (p := ⟨b, o + j, none⟩) (World.block_lt_of_cell? w _ c0)).trans c0
        have HK := hid (toIntS_calls wr u (ls.getD j []) (hu.below hB) (HL.out j))
        obtain ⟨a1, cap1, rfl, -⟩ := hu
        have c2 : wr.cell? ⟨w.heap.size, j, none⟩ = some (.slice none 0 0) := by
          obtain ⟨f, hf⟩ := hH.out
          exact (hf.cell j hjn).trans (by rw [if_neg (by omega)])
        have c3 : wr.frozen? ⟨w.heap.size, j, none⟩ = false := by
          obtain ⟨f, hf⟩ := hH.out
          exact hf.free j hjn
        have HS : Hid (∀ w1, OwnI w1 wr.heap.size (ls.getD j []) → Below wr.heap.size wr w1 → ∃ f, Half (w1.setCell ⟨w.heap.size, j, none⟩ (.slice (some ⟨wr.heap.size, 0, none⟩) (ls.getD j []).length (ls.getD j []).length)) w.heap.size n (j + 1) ls f) := fun w1 ho hb => by
          obtain ⟨f, hf⟩ := hH.out
          exact ⟨_, hf.step hjn hlt ho hb⟩
        clear hcell c0 hH
        go_wp2_with (first | (go_at_call 10; refine HK.out.mono ?_; rintro e w1 ⟨rfl, ho, hb⟩; have c4 : w1.cell? ⟨w.heap.size, j, none⟩ = some (.slice none 0 0) := (hb.cell (p := ⟨w.heap.size, j, none⟩) hlt).trans c2; have c5 : w1.frozen? ⟨w.heap.size, j, none⟩ = false := (World.frozen?_of_block (w := wr) (a := ⟨w.heap.size, j, none⟩) (hb.block w.heap.size hlt)).trans c3; have HO := hid ho; have HB := hid hb; clear ho hb))
        go_roundw
        case rel => exact ⟨j + 1, by omega, by go_num, (bt hB HB.out).setCell (Nat.le_refl _) _, by have := HB.out.size; simp [World.setCell]; omega, hid (HS.out _ HO.out HB.out)⟩
        case measure => simp [intOf]; omega
    · obtain rfl : j = n := by omega
      have i1 : ¬ ((j : Int) < (j : Int)) := by omega
      go_wp2
      go_ret
      exact ⟨rfl, hH.out, hlt, hB⟩

end Go.Proofs.Ytpdloenmplafiaa
