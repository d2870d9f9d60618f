import Derived.Laws.BytesArg
import Derived.Test.YtcdfoephhjacdaaDoorQ40
/-
  laws.markText: a text that hangs on the number alone.
-/
namespace Go.Proofs.YtcdfoephhjacdaaDoor
open Go.RowKit

def mtxN : Nat → Nat → ByteArray → ByteArray
  | 0, _, s => s
  | n + 1, j, s => if j = 0 then s else mtxN n (j / 10) (strOfNums [48 + (j : Int) % 10] ++ s)
theorem mtxN_eq : ∀ (n m j : Nat) (s : ByteArray), j ≤ n → j ≤ m → mtxN n j s = mtxN m j s
  | 0, 0, _, _, _, _ => rfl
  | 0, m + 1, j, s, h, _ => (if_pos (show j = 0 by omega)).symm
  | n + 1, 0, j, s, _, h => if_pos (show j = 0 by omega)
  | n + 1, m + 1, j, s, hn, hm => by
    unfold mtxN
    by_cases h : j = 0
    · rw [if_pos h, if_pos h]
    · rw [if_neg h, if_neg h, mtxN_eq n m (j / 10) _ (by omega) (by omega)]
def mtx (j : Nat) (s : ByteArray) : ByteArray := mtxN j j s
theorem mtx_zero (s : ByteArray) : mtx 0 s = s := rfl
theorem mtx_more {j : Nat} (s : ByteArray) (h : ¬ j = 0) : mtx j s = mtx (j / 10) (strOfNums [48 + (j : Int) % 10] ++ s) := by
  unfold mtx
  rw [mtxN_eq j (j + 1) j s (by omega) (by omega)]
  refine (if_neg h).trans ?_
  exact mtxN_eq _ _ _ _ (by omega) (Nat.le_refl _)

/-- the mark k -/
def mkT (k : Nat) : ByteArray := ⟨#[109]⟩ ++ mtx k ⟨#[]⟩

set_option maxHeartbeats 2000000 in
set_option maxRecDepth 1000000 in
theorem markText_calls (w : World) (k : Nat) (hk0 : 0 < k) (hk : k ≤ 1152921504606846976) :
    Calls Tryd.prog 43 #[.int .i64 k] w fun e w' => e = .returned (.string (mkT k)) ∧ Below w.heap.size w w' := by
  have i0 : ¬ ((k : Int) ≤ 0) := by omega
  unfold mkT
  obtain ⟨T, hT⟩ : ∃ T, T = mtx k ⟨#[]⟩ := ⟨_, rfl⟩
  rw [← hT]
  have HT := hid hT
  clear hT
  go_enter Tryd.func43, Tryd.ntmps43
  go_wp2
  go_loopw [0, 3] (fun v t wr => ∃ (j : Nat) (s : ByteArray), s.size + j ≤ k ∧ v = .int .i64 j ∧ t = .string s ∧ Hid (Below w.heap.size w wr ∧ mtx j s = T)) (fun v _ _ => (intOf v).toNat)
  case atStart => exact ⟨k, _, by show 0 + k ≤ k; omega, rfl, rfl, hid ⟨Below.refl _ _, HT.out.symm⟩⟩
  case round =>
    obtain ⟨j, s, hj, rfl, rfl, HB⟩ := hrel
    by_cases h0 : 0 < j
    · have i1 : (0 : Int) < (j : Int) := by omega
      have HN : Hid (mtx (j / 10) (strOfNums [48 + (j : Int) % 10] ++ s) = T) := hid (by rw [← HB.out.2]; conv => rhs; rw [mtx_more _ (by omega)])
      have kc := run_convert_bytes_arg (P := Tryd.prog) (wr.alloc (.cells #[.int .u8 (48 + (j : Int) % 10)] 5)) 143 5 Tryd.underlying143 Tryd.underlying5 wr.heap.size 0 1 1 [48 + (j : Int) % 10] rfl (fun i hi => by
        have : i = 0 := by omega
        subst this
        rw [World.cell?_alloc_at _ _ _ _ rfl]; rfl) 9 Tryd.underlying9
      have hxs : (strOfNums [48 + (j : Int) % 10]).size = 1 := strOfNums_size _
      generalize strOfNums [48 + (j : Int) % 10] = x at *
      have hov : ¬ (9223372036854775807 < x.size + s.size) := by omega
      have HX := hid hxs
      clear hxs
      go_wp2
      go_roundw
      case rel => exact ⟨j / 10, x ++ s, by rw [ByteArray.size_append, HX.out]; omega, by go_num, rfl, hid ⟨bt HB.out.1 ((Below.refl _ _).alloc (Nat.le_refl _) _), HN.out⟩⟩
      case measure => simp [intOf]; omega
    · obtain rfl : j = 0 := by omega
      have hov : ¬ (9223372036854775807 < 1 + s.size) := by omega
      have HE : Hid (s = T) := hid (by have := HB.out.2; rw [mtx_zero] at this; exact this)
      go_wp2
      go_ret
      exact ⟨by rw [← HE.out]; rfl, HB.out.1⟩

end Go.Proofs.YtcdfoephhjacdaaDoor

/-
  laws.markStringS, heldStringS, markTermS.
-/
namespace Go.Proofs.YtcdfoephhjacdaaDoor
open Go.RowKit

/-- all blocks but g are as they were; of g all cells are there still, none frozen -/
structure Kg (g : Nat) (w w' : World) : Prop where
  os : w'.os = w.os
  tape : w'.tape = w.tape
  output : w'.output = w.output
  size : w.heap.size ≤ w'.heap.size
  block : ∀ b, b < w.heap.size → b ≠ g → w'.heap[b]? = w.heap[b]?
  any : ∀ q, (∃ u, w.cell? ⟨g, q, none⟩ = some u) → ∃ u, w'.cell? ⟨g, q, none⟩ = some u
  froz : ∀ q, g < w.heap.size → w.frozen? ⟨g, q, none⟩ = false → w'.frozen? ⟨g, q, none⟩ = false

theorem Kg.refl (g : Nat) (w : World) : Kg g w w := ⟨rfl, rfl, rfl, Nat.le_refl _, fun _ _ _ => rfl, fun _ h => h, fun _ _ h => h⟩
theorem Kg.trans {g : Nat} {a b c : World} (h : Kg g a b) (k : Kg g b c) : Kg g a c :=
  ⟨k.os.trans h.os, k.tape.trans h.tape, k.output.trans h.output, Nat.le_trans h.size k.size, fun x hx hg => (k.block x (Nat.lt_of_lt_of_le hx h.size) hg).trans (h.block x hx hg), fun q hq => k.any q (h.any q hq), fun q hg hq => k.froz q (Nat.lt_of_lt_of_le hg h.size) (h.froz q hg hq)⟩
theorem Kg.below {g : Nat} {a b c : World} (h : Kg g a b) (k : Below b.heap.size b c) : Kg g a c :=
  h.trans ⟨k.os, k.tape, k.output, k.size, fun x hx _ => k.block x hx, fun q ⟨u, hu⟩ => ⟨u, (k.cell (p := ⟨g, q, none⟩) (World.block_lt_of_cell? b _ hu)).trans hu⟩, fun q hg hq => (k.frozen (p := ⟨g, q, none⟩) hg).trans hq⟩
theorem Kg.set {g : Nat} {a b : World} (h : Kg g a b) (o : Nat) (v : Value) : Kg g a (b.setCell ⟨g, o, none⟩ v) :=
  h.trans ⟨rfl, rfl, rfl, by simp [World.setCell], fun x _ hg => heap_set_ne hg, fun q hq => cell_any hq, fun q _ hq => by rw [World.frozen?_setCell]; exact hq⟩

/-- n marks from k on -/
def mks (k n : Nat) : List ByteArray := (List.range n).map fun i => mkT (k + i)
theorem mks_length (k n : Nat) : (mks k n).length = n := by simp [mks]
theorem mks_get {k n j : Nat} (h : j < n) : (mks k n).getD j noTx = mkT (k + j) := by
  unfold mks
  rw [List.getD_eq_getElem?_getD, List.getElem?_map, List.getElem?_range h]; rfl

set_option maxHeartbeats 2000000 in
set_option maxRecDepth 1000000 in
theorem markStringS_calls (w : World) (g n cap k : Nat) (hc : ∀ j, j < n → ∃ u, w.cell? ⟨g, j, none⟩ = some u) (hf : ∀ j, j < n → w.frozen? ⟨g, j, none⟩ = false) (hg : g < w.heap.size) (hn : n ≤ 4398046511104) (hk0 : 0 < k) (hk : k ≤ 576460752303423488) :
    Calls Tryd.prog 30 #[.slice (some ⟨g, 0, none⟩) n cap, .int .i64 k] w fun e w' => e = .returned (.int .i64 (k + n : Nat)) ∧ Kg g w w' ∧ ∀ j, j < n → w'.cell? ⟨g, j, none⟩ = some (.string (mkT (k + j))) := by
  have HC := hid (And.intro hc hf)
  clear hc hf
  go_enter Tryd.func30, Tryd.ntmps30
  go_wp2
  go_loopw [1, 5] (fun v t wr => ∃ j : Nat, j ≤ n ∧ t = .int .i64 j ∧ v = .int .i64 (k + j : Nat) ∧ Hid (Kg g w wr ∧ ∀ i, i < j → wr.cell? ⟨g, i, none⟩ = some (.string (mkT (k + i))))) (fun _ t _ => n - (intOf t).toNat)
  case atStart => exact ⟨0, Nat.zero_le _, rfl, rfl, hid ⟨Kg.refl _ _, fun i hi => by omega⟩⟩
  case round =>
    obtain ⟨j, hj, rfl, rfl, HH⟩ := hrel
    by_cases hjn : j < n
    · have i1 : (j : Int) < (n : Int) := by omega
      go_wp2_with fail
      refine (markText_calls wr (k + j) (by omega) (by omega)).mono ?_
      rintro e w2 ⟨rfl, hb⟩
      have hK := HH.out.1.below hb
      obtain ⟨u, c0⟩ := hK.any j (HC.out.1 j hjn)
      have f0 := hK.froz j hg (HC.out.2 j hjn)
      have HN : Hid (Kg g w (w2.setCell ⟨g, j, none⟩ (.string (mkT (k + j)))) ∧ ∀ i, i < j + 1 → (w2.setCell ⟨g, j, none⟩ (.string (mkT (k + j)))).cell? ⟨g, i, none⟩ = some (.string (mkT (k + i)))) := hid ⟨hK.set _ _, fun i hi => by
        by_cases e : i = j
        · subst e; exact World.cell?_setCell_same _ _ _ c0
        · rw [World.cell?_setCell_other _ _ _ _ (by intro e2; simp only [Addr.mk.injEq] at e2; omega)]
          have := HH.out.2 i (by omega)
          exact (hb.cell (p := ⟨g, i, none⟩) (World.block_lt_of_cell? wr _ this)).trans this⟩
      clear hb hK HH
      generalize mkT (k + j) = s at *
      go_wp2
      go_roundw
      case rel => exact ⟨j + 1, by omega, by go_num, by go_num, HN⟩
      case measure => simp [intOf]; omega
    · obtain rfl : j = n := by omega
      have i1 : ¬ ((j : Int) < (j : Int)) := by omega
      go_wp2
      go_ret
      exact ⟨rfl, HH.out⟩

set_option maxHeartbeats 4000000 in
set_option maxRecDepth 1000000 in
theorem markTermS_calls (w : World) (g n cap k : Nat) (hc : ∀ j, j < n * 2 → ∃ u, w.cell? ⟨g, j, none⟩ = some u) (hf : ∀ j, j < n * 2 → w.frozen? ⟨g, j, none⟩ = false) (hg : g < w.heap.size) (hn : n ≤ 1048576) (hk0 : 0 < k) (hk : k ≤ 576460752303423488) :
    Calls Tryd.prog 65 #[.slice (some ⟨g, 0, none⟩) n cap, .int .i64 k] w fun e w' => e = .returned (.int .i64 (k + 2 * n : Nat)) ∧ Kg g w w' := by
  have HC := hid (And.intro hc hf)
  clear hc hf
  go_enter Tryd.func65, Tryd.ntmps65
  go_wp2
  go_loopw [1, 5] (fun v t wr => ∃ j : Nat, j ≤ n ∧ t = .int .i64 j ∧ v = .int .i64 (k + 2 * j : Nat) ∧ Hid (Kg g w wr)) (fun _ t _ => n - (intOf t).toNat)
  case atStart => exact ⟨0, Nat.zero_le _, rfl, rfl, hid (Kg.refl _ _)⟩
  case round =>
    obtain ⟨j, hj, rfl, rfl, HH⟩ := hrel
    by_cases hjn : j < n
    · have i1 : (j : Int) < (n : Int) := by omega
      go_wp2_with fail
      refine (markText_calls wr (k + 2 * j) (by omega) (by omega)).mono ?_
      rintro e w2 ⟨rfl, hb⟩
      have hK := HH.out.below hb
      obtain ⟨u, c0⟩ := hK.any (j * 2) (HC.out.1 (j * 2) (by omega))
      have f0 := hK.froz (j * 2) hg (HC.out.2 (j * 2) (by omega))
      obtain ⟨u1, c1⟩ := hK.any (j * 2 + 1) (HC.out.1 (j * 2 + 1) (by omega))
      have f1 := hK.froz (j * 2 + 1) hg (HC.out.2 (j * 2 + 1) (by omega))
      have HN : Hid (∀ s v, Kg g w ((w2.setCell ⟨g, j * 2, none⟩ s).setCell ⟨g, j * 2 + 1, none⟩ v)) := hid (fun s v => (hK.set _ _).set _ _)
      clear hb hK HH
      generalize mkT (k + 2 * j) = s at *
      go_wp2
      go_roundw
      case rel => exact ⟨j + 1, by omega, by go_num, by go_num, hid (HN.out _ _)⟩
      case measure => simp [intOf]; omega
    · obtain rfl : j = n := by omega
      have i1 : ¬ ((j : Int) < (j : Int)) := by omega
      go_wp2
      go_ret
      exact ⟨rfl, HH.out⟩

set_option maxHeartbeats 2000000 in
set_option maxRecDepth 1000000 in
theorem heldStringS_calls (w : World) (g n cap k : Nat) (hc : ∀ j, j < n → w.cell? ⟨g, j, none⟩ = some (.string (mkT (k + j)))) (hn : n ≤ 4398046511104) (hk0 : 0 < k) (hk : k ≤ 576460752303423488) :
    Calls Tryd.prog 32 #[.slice (some ⟨g, 0, none⟩) n cap, .int .i64 k] w fun e w' => e = .returned (.int .i64 (k + n : Nat)) ∧ Below w.heap.size w w' := by
  have HC := hid hc
  clear hc
  go_enter Tryd.func32, Tryd.ntmps32
  go_wp2
  go_loopw [1, 5] (fun v t wr => ∃ j : Nat, j ≤ n ∧ t = .int .i64 j ∧ v = .int .i64 (k + j : Nat) ∧ Hid (Below w.heap.size w wr)) (fun _ t _ => n - (intOf t).toNat)
  case atStart => exact ⟨0, Nat.zero_le _, rfl, rfl, hid (Below.refl _ _)⟩
  case round =>
    obtain ⟨j, hj, rfl, rfl, HH⟩ := hrel
    by_cases hjn : j < n
    · have i1 : (j : Int) < (n : Int) := by omega
      have c0' := HC.out j hjn
      have c0 := (HH.out.cell (p := ⟨g, j, none⟩) (World.block_lt_of_cell? w _ c0')).trans c0'
      have KM : Hid (∀ W, Calls Tryd.prog 43 #[.int .i64 (k + j : Nat)] W fun e w' => e = .returned (.string (mkT (k + j))) ∧ Below W.heap.size W w') := hid (fun W => markText_calls W (k + j) (by omega) (by omega))
      clear c0'
      generalize mkT (k + j) = s at *
      have hne : (!s.toList == s.toList) = false := by simp
      have hcell : ∀ W, Below wr.heap.size wr W → W.cell? ⟨g, j, none⟩ = some (.string s) := fun W hb => (hb.cell (p := ⟨g, j, none⟩) (World.block_lt_of_cell? wr _ c0)).trans c0
      have HCL := hid hcell
      clear hcell
      go_wp2_with fail
      go_region_held3 (fun W => W.cell? ⟨g, j, none⟩ = some (.string s) ∧ Below wr.heap.size wr W)
        (first | exact ⟨c0, (Below.refl _ _).drew⟩ | exact ⟨HCL.out _ (bt (Below.refl _ _).drew hb), bt (Below.refl _ _).drew hb⟩ | (refine ⟨HCL.out _ (bt (And.right (by assumption)) hb), bt (And.right (by assumption)) hb⟩))
        (first | (go_at_call 43; refine (KM.out _).mono ?_; rintro e w' ⟨rfl, hb⟩))
      go_wp2
      go_roundw
      case rel => exact ⟨j + 1, by omega, by go_num, by go_num, hid (bt HH.out (And.right (by assumption)))⟩
      case measure => simp [intOf]; omega
    · obtain rfl : j = n := by omega
      have i1 : ¬ ((j : Int) < (j : Int)) := by omega
      go_wp2
      go_ret
      exact ⟨rfl, HH.out⟩

end Go.Proofs.YtcdfoephhjacdaaDoor
