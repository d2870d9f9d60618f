import Derived.Test.YtpdloenmplafiaaQueryTo2
import Derived.Laws.BytesArg
/-
  laws.markText: a text that hangs on the number alone.
-/
namespace Go.Proofs.Ytpdloenmplafiaa
open Go.RowKit

def mtxN : Nat → Nat → ByteArray → ByteArray
  | 0, _, s => s
  | n + 1, j, s => if j = 0 then s else mtxN n (j / 10) (strOfNums [48 + (j : Int) % 10] ++ s)
theorem mtxN_eq : ∀ (n m j : Nat) (s : ByteArray), j ≤ n → j ≤ m → mtxN n j s = mtxN m j s
  | 0, 0, _, _, _, _ => rfl
  | 0, m + 1, j, s, h, _ => (if_pos (show j = 0 by omega)).symm
  | n + 1, 0, j, s, _, h => if_pos (show j = 0 by omega)
  | n + 1, m + 1, j, s, hn, hm => by
    unfold mtxN
    by_cases h : j = 0
    · rw [if_pos h, if_pos h]
    · rw [if_neg h, if_neg h, mtxN_eq n m (j / 10) _ (by omega) (by omega)]
def mtx (j : Nat) (s : ByteArray) : ByteArray := mtxN j j s
theorem mtx_zero (s : ByteArray) : mtx 0 s = s := rfl
theorem mtx_more {j : Nat} (s : ByteArray) (h : ¬ j = 0) : mtx j s = mtx (j / 10) (strOfNums [48 + (j : Int) % 10] ++ s) := by
  unfold mtx
  rw [mtxN_eq j (j + 1) j s (by omega) (by omega)]
  refine (if_neg h).trans ?_
  exact mtxN_eq _ _ _ _ (by omega) (Nat.le_refl _)

/-- the mark k -/
def mkT (k : Nat) : ByteArray := ⟨#[109]⟩ ++ mtx k ⟨#[]⟩

set_option maxHeartbeats 2000000 in
set_option maxRecDepth 1000000 in
theorem markText_calls (w : World) (k : Nat) (hk0 : 0 < k) (hk : k ≤ 1152921504606846976) :
    Calls Try.prog 95 #[.int .i64 k] w fun e w' => e = .returned (.string (mkT k)) ∧ Below w.heap.size w w' := by
  have i0 : ¬ ((k : Int) ≤ 0) := by omega
  unfold mkT
  obtain ⟨T, hT⟩ : ∃ T, T = mtx k ⟨#[]⟩ := ⟨_, rfl⟩
  rw [← hT]
  have HT := hid hT
  clear hT
  go_enter Try.func95, Try.ntmps95
  go_wp2
  go_loopw [0, 3] (fun v t wr => ∃ (j : Nat) (s : ByteArray), s.size + j ≤ k ∧ v = .int .i64 j ∧ t = .string s ∧ Hid (Below w.heap.size w wr ∧ mtx j s = T)) (fun v _ _ => (intOf v).toNat)
  case atStart => exact ⟨k, _, by show 0 + k ≤ k; omega, rfl, rfl, hid ⟨Below.refl _ _, HT.out.symm⟩⟩
  case round =>
    obtain ⟨j, s, hj, rfl, rfl, HB⟩ := hrel
    by_cases h0 : 0 < j
    · have i1 : (0 : Int) < (j : Int) := by omega
      have HN : Hid (mtx (j / 10) (strOfNums [48 + (j : Int) % 10] ++ s) = T) := hid (by rw [← HB.out.2]; conv => rhs; rw [mtx_more _ (by omega)])
      have kc := run_convert_bytes_arg (P := Try.prog) (wr.alloc (.cells #[.int .u8 (48 + (j : Int) % 10)] 5)) 174 5 Try.underlying174 Try.underlying5 wr.heap.size 0 1 1 [48 + (j : Int) % 10] rfl (fun i hi => by
        have : i = 0 := by omega
        subst this
        rw [World.cell?_alloc_at _ _ _ _ rfl]; rfl) 9 Try.underlying9
      have hxs : (strOfNums [48 + (j : Int) % 10]).size = 1 := strOfNums_size _
      generalize strOfNums [48 + (j : Int) % 10] = x at *
      have hov : ¬ (9223372036854775807 < x.size + s.size) := by omega
      have HX := hid hxs
      clear hxs
      go_wp2
      go_roundw
      case rel => exact ⟨j / 10, x ++ s, by rw [ByteArray.size_append, HX.out]; omega, by go_num, rfl, hid ⟨bt HB.out.1 ((Below.refl _ _).alloc (Nat.le_refl _) _), HN.out⟩⟩
      case measure => simp [intOf]; omega
    · obtain rfl : j = 0 := by omega
      have hov : ¬ (9223372036854775807 < 1 + s.size) := by omega
      have HE : Hid (s = T) := hid (by have := HB.out.2; rw [mtx_zero] at this; exact this)
      go_wp2
      go_ret
      exact ⟨by rw [← HE.out]; rfl, HB.out.1⟩

end Go.Proofs.Ytpdloenmplafiaa
