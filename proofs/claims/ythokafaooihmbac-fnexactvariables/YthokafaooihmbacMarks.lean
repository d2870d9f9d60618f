import Derived.Test.YthokafaooihmbacQueryTo2
import Derived.Laws.BytesArg
/-
  laws.markText: a text that hangs on the number alone.
-/
namespace Go.Proofs.Ythokafaooihmbac
open Go.RowKit

def mtx (j : Nat) (s : ByteArray) : ByteArray := if j = 0 then s else mtx (j / 10) (strOfNums [48 + (j : Int) % 10] ++ s)
termination_by j
decreasing_by omega

/-- the mark k -/
def mkT (k : Nat) : ByteArray := ⟨#[109]⟩ ++ mtx k ⟨#[]⟩

set_option maxHeartbeats 2000000 in
set_option maxRecDepth 1000000 in
theorem markText_calls (w : World) (k : Nat) (hk0 : 0 < k) (hk : k ≤ 1152921504606846976) :
    Calls Try.prog 50 #[.int .i64 k] w fun e w' => e = .returned (.string (mkT k)) ∧ Below w.heap.size w w' := by
  have i0 : ¬ ((k : Int) ≤ 0) := by omega
  unfold mkT
  obtain ⟨T, hT⟩ : ∃ T, T = mtx k ⟨#[]⟩ := ⟨_, rfl⟩
  rw [← hT]
  have HT := hid hT
  clear hT
  go_enter Try.func50, Try.ntmps50
  go_wp2
  go_loopw [0, 3] (fun v t wr => ∃ (j : Nat) (s : ByteArray), s.size + j ≤ k ∧ v = .int .i64 j ∧ t = .string s ∧ Hid (Below w.heap.size w wr ∧ mtx j s = T)) (fun v _ _ => (intOf v).toNat)
  case atStart => exact ⟨k, _, by show 0 + k ≤ k; omega, rfl, rfl, hid ⟨Below.refl _ _, HT.out.symm⟩⟩
  case round =>
    obtain ⟨j, s, hj, rfl, rfl, HB⟩ := hrel
    by_cases h0 : 0 < j
    · have i1 : (0 : Int) < (j : Int) := by omega
      have HN : Hid (mtx (j / 10) (strOfNums [48 + (j : Int) % 10] ++ s) = T) := hid (by rw [← HB.out.2]; conv => rhs; rw [mtx, if_neg (by omega)])
      have kc := run_convert_bytes_arg (P := Try.prog) (wr.alloc (.cells #[.int .u8 (48 + (j : Int) % 10)] 5)) 127 5 Try.underlying127 Try.underlying5 wr.heap.size 0 1 1 [48 + (j : Int) % 10] rfl (fun i hi => by
        have : i = 0 := by omega
        subst this
        rw [World.cell?_alloc_at _ _ _ _ rfl]; rfl) 9 Try.underlying9
      have hxs : (strOfNums [48 + (j : Int) % 10]).size = 1 := strOfNums_size _
      generalize strOfNums [48 + (j : Int) % 10] = x at *
      have hov : ¬ (9223372036854775807 < x.size + s.size) := by omega
      have HX := hid hxs
      clear hxs
      go_wp2
      go_roundw
      case rel => exact ⟨j / 10, x ++ s, by rw [ByteArray.size_append, HX.out]; omega, by go_num, rfl, hid ⟨bt HB.out.1 ((Below.refl _ _).alloc (Nat.le_refl _) _), HN.out⟩⟩
      case measure => simp [intOf]; omega
    · obtain rfl : j = 0 := by omega
      have hov : ¬ (9223372036854775807 < 1 + s.size) := by omega
      have HE : Hid (s = T) := hid (by have := HB.out.2; rw [mtx, if_pos rfl] at this; exact this)
      go_wp2
      go_ret
      exact ⟨by rw [← HE.out]; rfl, HB.out.1⟩

end Go.Proofs.Ythokafaooihmbac
