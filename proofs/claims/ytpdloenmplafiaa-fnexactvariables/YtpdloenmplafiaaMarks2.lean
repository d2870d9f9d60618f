import Derived.Test.YtpdloenmplafiaaMarks
/-
  laws.markStringS, heldStringS, markTermS.
-/
namespace Go.Proofs.Ytpdloenmplafiaa
open Go.RowKit

/-- all blocks but g are as they were; of g all cells are there still, none frozen -/
structure Kg (g : Nat) (w w' : World) : Prop where
  os : w'.os = w.os
  tape : w'.tape = w.tape
  output : w'.output = w.output
  size : w.heap.size ≤ w'.heap.size
  block : ∀ b, b < w.heap.size → b ≠ g → w'.heap[b]? = w.heap[b]?
  any : ∀ q, (∃ u, w.cell? ⟨g, q, none⟩ = some u) → ∃ u, w'.cell? ⟨g, q, none⟩ = some u
  froz : ∀ q, g < w.heap.size → w.frozen? ⟨g, q, none⟩ = false → w'.frozen? ⟨g, q, none⟩ = false

theorem Kg.refl (g : Nat) (w : World) : Kg g w w := ⟨rfl, rfl, rfl, Nat.le_refl _, fun _ _ _ => rfl, fun _ h => h, fun _ _ h => h⟩
theorem Kg.trans {g : Nat} {a b c : World} (h : Kg g a b) (k : Kg g b c) : Kg g a c :=
  ⟨k.os.trans h.os, k.tape.trans h.tape, k.output.trans h.output, Nat.le_trans h.size k.size, fun x hx hg => (k.block x (Nat.lt_of_lt_of_le hx h.size) hg).trans (h.block x hx hg), fun q hq => k.any q (h.any q hq), fun q hg hq => k.froz q (Nat.lt_of_lt_of_le hg h.size) (h.froz q hg hq)⟩
theorem Kg.below {g : Nat} {a b c : World} (h : Kg g a b) (k : Below b.heap.size b c) : Kg g a c :=
  h.trans ⟨k.os, k.tape, k.output, k.size, fun x hx _ => k.block x hx, fun q ⟨u, hu⟩ => ⟨u, (k.cell (p := ⟨g, q, none⟩) (World.block_lt_of_cell? b _ hu)).trans hu⟩, fun q hg hq => (k.frozen (p := ⟨g, q, none⟩) hg).trans hq⟩
theorem Kg.set {g : Nat} {a b : World} (h : Kg g a b) (o : Nat) (v : Value) : Kg g a (b.setCell ⟨g, o, none⟩ v) :=
  h.trans ⟨rfl, rfl, rfl, by simp [World.setCell], fun x _ hg => heap_set_ne hg, fun q hq => cell_any hq, fun q _ hq => by rw [World.frozen?_setCell]; exact hq⟩

/-- n marks from k on -/
def mks (k n : Nat) : List ByteArray := (List.range n).map fun i => mkT (k + i)
theorem mks_length (k n : Nat) : (mks k n).length = n := by simp [mks]
theorem mks_get {k n j : Nat} (h : j < n) : (mks k n).getD j noTx = mkT (k + j) := by
  unfold mks
  rw [List.getD_eq_getElem?_getD, List.getElem?_map, List.getElem?_range h]; rfl

set_option maxHeartbeats 2000000 in
set_option maxRecDepth 1000000 in
theorem markStringS_calls (w : World) (g n cap k : Nat) (hc : ∀ j, j < n → ∃ u, w.cell? ⟨g, j, none⟩ = some u) (hf : ∀ j, j < n → w.frozen? ⟨g, j, none⟩ = false) (hg : g < w.heap.size) (hn : n ≤ 4398046511104) (hk0 : 0 < k) (hk : k ≤ 576460752303423488) :
    Calls Try.prog 41 #[.slice (some ⟨g, 0, none⟩) n cap, .int .i64 k] w fun e w' => e = .returned (.int .i64 (k + n : Nat)) ∧ Kg g w w' ∧ ∀ j, j < n → w'.cell? ⟨g, j, none⟩ = some (.string (mkT (k + j))) := by
  have HC := hid (And.intro hc hf)
  clear hc hf
  go_enter Try.func41, Try.ntmps41
  go_wp2
  go_loopw [1, 5] (fun v t wr => ∃ j : Nat, j ≤ n ∧ t = .int .i64 j ∧ v = .int .i64 (k + j : Nat) ∧ Hid (Kg g w wr ∧ ∀ i, i < j → wr.cell? ⟨g, i, none⟩ = some (.string (mkT (k + i))))) (fun _ t _ => n - (intOf t).toNat)
  case atStart => exact ⟨0, Nat.zero_le _, rfl, rfl, hid ⟨Kg.refl _ _, fun i hi => by omega⟩⟩
  case round =>
    obtain ⟨j, hj, rfl, rfl, HH⟩ := hrel
    by_cases hjn : j < n
    · have i1 : (j : Int) < (n : Int) := by omega
      go_wp2_with fail
      refine (markText_calls wr (k + j) (by omega) (by omega)).mono ?_
      rintro e w2 ⟨rfl, hb⟩
      have hK := HH.out.1.below hb
      obtain ⟨u, c0⟩ := hK.any j (HC.out.1 j hjn)
      have f0 := hK.froz j hg (HC.out.2 j hjn)
      have HN : Hid (Kg g w (w2.setCell ⟨g, j, none⟩ (.string (mkT (k + j)))) ∧ ∀ i, i < j + 1 → (w2.setCell ⟨g, j, none⟩ (.string (mkT (k + j)))).cell? ⟨g, i, none⟩ = some (.string (mkT (k + i)))) := hid ⟨hK.set _ _, fun i hi => by
        by_cases e : i = j
        · subst e; exact World.cell?_setCell_same _ _ _ c0
        · rw [World.cell?_setCell_other _ _ _ _ (by intro e2; simp only [Addr.mk.injEq] at e2; omega)]
          have := HH.out.2 i (by omega)
          exact (hb.cell (p := ⟨g, i, none⟩) (World.block_lt_of_cell? wr _ this)).trans this⟩
      clear hb hK HH
      generalize mkT (k + j) = s at *
      go_wp2
      go_roundw
      case rel => exact ⟨j + 1, by omega, by go_num, by go_num, HN⟩
      case measure => simp [intOf]; omega
    · obtain rfl : j = n := by omega
      have i1 : ¬ ((j : Int) < (j : Int)) := by omega
      go_wp2
      go_ret
      exact ⟨rfl, HH.out⟩

set_option maxHeartbeats 4000000 in
set_option maxRecDepth 1000000 in
theorem markTermS_calls (w : World) (g n cap k : Nat) (hc : ∀ j, j < n * 2 → ∃ u, w.cell? ⟨g, j, none⟩ = some u) (hf : ∀ j, j < n * 2 → w.frozen? ⟨g, j, none⟩ = false) (hg : g < w.heap.size) (hn : n ≤ 1048576) (hk0 : 0 < k) (hk : k ≤ 576460752303423488) :
    Calls Try.prog 133 #[.slice (some ⟨g, 0, none⟩) n cap, .int .i64 k] w fun e w' => e = .returned (.int .i64 (k + 2 * n : Nat)) ∧ Kg g w w' := by
  have HC := hid (And.intro hc hf)
  clear hc hf
  go_enter Try.func133, Try.ntmps133
  go_wp2
  go_loopw [1, 5] (fun v t wr => ∃ j : Nat, j ≤ n ∧ t = .int .i64 j ∧ v = .int .i64 (k + 2 * j : Nat) ∧ Hid (Kg g w wr)) (fun _ t _ => n - (intOf t).toNat)
  case atStart => exact ⟨0, Nat.zero_le _, rfl, rfl, hid (Kg.refl _ _)⟩
  case round =>
    obtain ⟨j, hj, rfl, rfl, HH⟩ := hrel
    by_cases hjn : j < n
    · have i1 : (j : Int) < (n : Int) := by omega
      go_wp2_with fail
      refine (markText_calls wr (k + 2 * j) (by omega) (by omega)).mono ?_
      rintro e w2 ⟨rfl, hb⟩
      have hK := HH.out.below hb
      obtain ⟨u, c0⟩ := hK.any (j * 2) (HC.out.1 (j * 2) (by omega))
      have f0 := hK.froz (j * 2) hg (HC.out.2 (j * 2) (by omega))
      obtain ⟨u1, c1⟩ := hK.any (j * 2 + 1) (HC.out.1 (j * 2 + 1) (by omega))
      have f1 := hK.froz (j * 2 + 1) hg (HC.out.2 (j * 2 + 1) (by omega))
      have HN : Hid (∀ s v, Kg g w ((w2.setCell ⟨g, j * 2, none⟩ s).setCell ⟨g, j * 2 + 1, none⟩ v)) := hid (fun s v => (hK.set _ _).set _ _)
      clear hb hK HH
      generalize mkT (k + 2 * j) = s at *
      go_wp2
      go_roundw
      case rel => exact ⟨j + 1, by omega, by go_num, by go_num, hid (HN.out _ _)⟩
      case measure => simp [intOf]; omega
    · obtain rfl : j = n := by omega
      have i1 : ¬ ((j : Int) < (j : Int)) := by omega
      go_wp2
      go_ret
      exact ⟨rfl, HH.out⟩

set_option maxHeartbeats 2000000 in
set_option maxRecDepth 1000000 in
theorem heldStringS_calls (w : World) (g n cap k : Nat) (hc : ∀ j, j < n → w.cell? ⟨g, j, none⟩ = some (.string (mkT (k + j)))) (hn : n ≤ 4398046511104) (hk0 : 0 < k) (hk : k ≤ 576460752303423488) :
    Calls Try.prog 42 #[.slice (some ⟨g, 0, none⟩) n cap, .int .i64 k] w fun e w' => e = .returned (.int .i64 (k + n : Nat)) ∧ Below w.heap.size w w' := by
  have HC := hid hc
  clear hc
  go_enter Try.func42, Try.ntmps42
  go_wp2
  go_loopw [1, 5] (fun v t wr => ∃ j : Nat, j ≤ n ∧ t = .int .i64 j ∧ v = .int .i64 (k + j : Nat) ∧ Hid (Below w.heap.size w wr)) (fun _ t _ => n - (intOf t).toNat)
  case atStart => exact ⟨0, Nat.zero_le _, rfl, rfl, hid (Below.refl _ _)⟩
  case round =>
    obtain ⟨j, hj, rfl, rfl, HH⟩ := hrel
    by_cases hjn : j < n
    · have i1 : (j : Int) < (n : Int) := by omega
      have c0' := HC.out j hjn
      have c0 := (HH.out.cell (p := ⟨g, j, none⟩) (World.block_lt_of_cell? w _ c0')).trans c0'
      have KM : Hid (∀ W, Calls Try.prog 95 #[.int .i64 (k + j : Nat)] W fun e w' => e = .returned (.string (mkT (k + j))) ∧ Below W.heap.size W w') := hid (fun W => markText_calls W (k + j) (by omega) (by omega))
      clear c0'
      generalize mkT (k + j) = s at *
      have hne : (!s.toList == s.toList) = false := by simp
      have hcell : ∀ W, Below wr.heap.size wr W → W.cell? ⟨g, j, none⟩ = some (.string s) := fun W hb => (hb.cell (p := ⟨g, j, none⟩) (World.block_lt_of_cell? wr _ c0)).trans c0
      have HCL := hid hcell
      clear hcell
      go_wp2_with fail
      go_region_held3 (fun W => W.cell? ⟨g, j, none⟩ = some (.string s) ∧ Below wr.heap.size wr W)
        (first | exact ⟨c0, (Below.refl _ _).drew⟩ | exact ⟨HCL.out _ (bt (Below.refl _ _).drew hb), bt (Below.refl _ _).drew hb⟩ | (refine ⟨HCL.out _ (bt (And.right (by assumption)) hb), bt (And.right (by assumption)) hb⟩))
        (first | (go_at_call 95; refine (KM.out _).mono ?_; rintro e w' ⟨rfl, hb⟩))
      go_wp2
      go_roundw
      case rel => exact ⟨j + 1, by omega, by go_num, by go_num, hid (bt HH.out (And.right (by assumption)))⟩
      case measure => simp [intOf]; omega
    · obtain rfl : j = n := by omega
      have i1 : ¬ ((j : Int) < (j : Int)) := by omega
      go_wp2
      go_ret
      exact ⟨rfl, HH.out⟩

end Go.Proofs.Ytpdloenmplafiaa
