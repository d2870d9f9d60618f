import Derived.Laws.BytesArg
import Derived.Test.YtcgboccdffgkfaaDoorPa38
/-
  laws.markText: a text that hangs on the number alone.
-/
namespace Go.Proofs.YtcgboccdffgkfaaDoor
open Go.RowKit

def mtx (j : Nat) (s : ByteArray) : ByteArray := if j = 0 then s else mtx (j / 10) (strOfNums [48 + (j : Int) % 10] ++ s)
termination_by j
decreasing_by omega

/-- the mark k -/
def mkT (k : Nat) : ByteArray := ⟨#[109]⟩ ++ mtx k ⟨#[]⟩

set_option maxHeartbeats 2000000 in
set_option maxRecDepth 1000000 in
theorem markText_calls (w : World) (k : Nat) (hk0 : 0 < k) (hk : k ≤ 1152921504606846976) :
    Calls Tryd.prog 41 #[.int .i64 k] w fun e w' => e = .returned (.string (mkT k)) ∧ Below w.heap.size w w' := by
  have i0 : ¬ ((k : Int) ≤ 0) := by omega
  unfold mkT
  obtain ⟨T, hT⟩ : ∃ T, T = mtx k ⟨#[]⟩ := ⟨_, rfl⟩
  rw [← hT]
  have HT := hid hT
  clear hT
  go_enter Tryd.func41, Tryd.ntmps41
  go_wp2
  go_loopw [0, 3] (fun v t wr => ∃ (j : Nat) (s : ByteArray), s.size + j ≤ k ∧ v = .int .i64 j ∧ t = .string s ∧ Hid (Below w.heap.size w wr ∧ mtx j s = T)) (fun v _ _ => (intOf v).toNat)
  case atStart => exact ⟨k, _, by show 0 + k ≤ k; omega, rfl, rfl, hid ⟨Below.refl _ _, HT.out.symm⟩⟩
  case round =>
    obtain ⟨j, s, hj, rfl, rfl, HB⟩ := hrel
    by_cases h0 : 0 < j
    · have i1 : (0 : Int) < (j : Int) := by omega
      have HN : Hid (mtx (j / 10) (strOfNums [48 + (j : Int) % 10] ++ s) = T) := hid (by rw [← HB.out.2]; conv => rhs; rw [mtx, if_neg (by omega)])
      have kc := run_convert_bytes_arg (P := Tryd.prog) (wr.alloc (.cells #[.int .u8 (48 + (j : Int) % 10)] 5)) 51 5 Tryd.underlying51 Tryd.underlying5 wr.heap.size 0 1 1 [48 + (j : Int) % 10] rfl (fun i hi => by
        have : i = 0 := by omega
        subst this
        rw [World.cell?_alloc_at _ _ _ _ rfl]; rfl) 9 Tryd.underlying9
      have hxs : (strOfNums [48 + (j : Int) % 10]).size = 1 := strOfNums_size _
      generalize strOfNums [48 + (j : Int) % 10] = x at *
      have hov : ¬ (9223372036854775807 < x.size + s.size) := by omega
      have HX := hid hxs
      clear hxs
      go_wp2
      go_roundw
      case rel => exact ⟨j / 10, x ++ s, by rw [ByteArray.size_append, HX.out]; omega, by go_num, rfl, hid ⟨bt HB.out.1 ((Below.refl _ _).alloc (Nat.le_refl _) _), HN.out⟩⟩
      case measure => simp [intOf]; omega
    · obtain rfl : j = 0 := by omega
      have hov : ¬ (9223372036854775807 < 1 + s.size) := by omega
      have HE : Hid (s = T) := hid (by have := HB.out.2; rw [mtx, if_pos rfl] at this; exact this)
      go_wp2
      go_ret
      exact ⟨by rw [← HE.out]; rfl, HB.out.1⟩

end Go.Proofs.YtcgboccdffgkfaaDoor

/-
  laws.markStringS, heldStringS, markTermS.
-/
namespace Go.Proofs.YtcgboccdffgkfaaDoor
open Go.RowKit

/-- all blocks but g are as they were; of g all cells are there still, none frozen -/
structure Kg (g : Nat) (w w' : World) : Prop where
  os : w'.os = w.os
  tape : w'.tape = w.tape
  output : w'.output = w.output
  size : w.heap.size ≤ w'.heap.size
  block : ∀ b, b < w.heap.size → b ≠ g → w'.heap[b]? = w.heap[b]?
  any : ∀ q, (∃ u, w.cell? ⟨g, q, none⟩ = some u) → ∃ u, w'.cell? ⟨g, q, none⟩ = some u
  froz : ∀ q, g < w.heap.size → w.frozen? ⟨g, q, none⟩ = false → w'.frozen? ⟨g, q, none⟩ = false

theorem Kg.refl (g : Nat) (w : World) : Kg g w w := ⟨rfl, rfl, rfl, Nat.le_refl _, fun _ _ _ => rfl, fun _ h => h, fun _ _ h => h⟩
theorem Kg.trans {g : Nat} {a b c : World} (h : Kg g a b) (k : Kg g b c) : Kg g a c :=
  ⟨k.os.trans h.os, k.tape.trans h.tape, k.output.trans h.output, Nat.le_trans h.size k.size, fun x hx hg => (k.block x (Nat.lt_of_lt_of_le hx h.size) hg).trans (h.block x hx hg), fun q hq => k.any q (h.any q hq), fun q hg hq => k.froz q (Nat.lt_of_lt_of_le hg h.size) (h.froz q hg hq)⟩
theorem Kg.below {g : Nat} {a b c : World} (h : Kg g a b) (k : Below b.heap.size b c) : Kg g a c :=
  h.trans ⟨k.os, k.tape, k.output, k.size, fun x hx _ => k.block x hx, fun q ⟨u, hu⟩ => ⟨u, (k.cell (p := ⟨g, q, none⟩) (World.block_lt_of_cell? b _ hu)).trans hu⟩, fun q hg hq => (k.frozen (p := ⟨g, q, none⟩) hg).trans hq⟩
theorem Kg.set {g : Nat} {a b : World} (h : Kg g a b) (o : Nat) (v : Value) : Kg g a (b.setCell ⟨g, o, none⟩ v) :=
  h.trans ⟨rfl, rfl, rfl, by simp [World.setCell], fun x _ hg => heap_set_ne hg, fun q hq => cell_any hq, fun q _ hq => by rw [World.frozen?_setCell]; exact hq⟩

/-- n marks from k on -/
def mks (k n : Nat) : List ByteArray := (List.range n).map fun i => mkT (k + i)
theorem mks_length (k n : Nat) : (mks k n).length = n := by simp [mks]
theorem mks_get {k n j : Nat} (h : j < n) : (mks k n).getD j noTx = mkT (k + j) := by
  unfold mks
  rw [List.getD_eq_getElem?_getD, List.getElem?_map, List.getElem?_range h]; rfl

end Go.Proofs.YtcgboccdffgkfaaDoor
