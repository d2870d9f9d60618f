import Derived.Test.YtnmcgbfhgmmcpaaW07
import Derived.Test.YtnmcgbfhgmmcpaaW20
/-
  impl: (members).list.
-/
namespace Go.Proofs.Ytnmcgbfhgmmcpaa
open Go.RowKit

/-- members as a value -/
def memV (m : Nat → Bool) : Value := .agg #[.bool (m 0), .bool (m 1), .bool (m 2), .bool (m 3), .bool (m 4), .bool (m 5)]
def memA (m : Nat → Bool) : Array Value := #[.bool (m 0), .bool (m 1), .bool (m 2), .bool (m 3), .bool (m 4), .bool (m 5)]

theorem memA_get (m : Nat → Bool) {v : Nat} (h : v < 6) : (memA m)[v]? = some (.bool (m v)) := by
  obtain rfl | rfl | rfl | rfl | rfl | rfl : v = 0 ∨ v = 1 ∨ v = 2 ∨ v = 3 ∨ v = 4 ∨ v = 5 := by omega
  all_goals rfl

theorem run_index_mem (m : Nat → Bool) {v : Nat} (h : v < 6) (w : World) : (Sem.run Try.prog (Instr.index 134 (.agg #[.bool (m 0), .bool (m 1), .bool (m 2), .bool (m 3), .bool (m 4), .bool (m 5)]) (.int .i64 v)) w) = .ok (.bool (m v)) w := by
  obtain rfl | rfl | rfl | rfl | rfl | rfl : v = 0 ∨ v = 1 ∨ v = 2 ∨ v = 3 ∨ v = 4 ∨ v = 5 := by omega
  all_goals kernel_rfl

set_option maxHeartbeats 4000000 in
set_option maxRecDepth 1000000 in
theorem list_calls (w : World) (m : Nat → Bool) :
    Calls Try.prog 104 #[memV m] w fun e w' => ∃ v, e = .returned v ∧ w'.ownsRow w.heap.size 3 1 v (plc m 6).length ((plc m 6).map (Value.int .i64)) ∧ Below w.heap.size w w' := by
  obtain ⟨i0, hi, hz0, hz1, hz2⟩ := info_parts Try.infoInt
  have HX : Hid (∀ (v : Nat) (W : World), v < 6 → (Sem.run Try.prog (Instr.index 134 (.agg #[.bool (m 0), .bool (m 1), .bool (m 2), .bool (m 3), .bool (m 4), .bool (m 5)]) (.int .i64 v)) W) = .ok (.bool (m v)) W) := hid fun v W h => run_index_mem m h W
  have HS0 : Hid (((w.alloc (.cells #[.bool (m 0), .bool (m 1), .bool (m 2), .bool (m 3), .bool (m 4), .bool (m 5)] 134)).alloc (.cells #[] 3)).ownsRow w.heap.size 3 1 (.slice (some ⟨w.heap.size + 1, 0, none⟩) 0 0) (plc m 0).length ((plc m 0).map (Value.int .i64))) := hid (by
    have h := World.ownsRow_made (w.alloc (.cells #[.bool (m 0), .bool (m 1), .bool (m 2), .bool (m 3), .bool (m 4), .bool (m 5)] 134)) (e := 3) (size := 1) #[] 0 (Nat.le_refl _) (by decide) rfl
    rw [World.size_alloc] at h
    exact own_base h (Nat.le_succ _))
  unfold memV
  go_enter Try.func104, Try.ntmps104
  go_wp2
  go_loopw [3, 8] (fun u t wr => ∃ v : Nat, v ≤ 6 ∧ t = .int .i64 v ∧ wr.ownsRow w.heap.size 3 1 u (plc m v).length ((plc m v).map (Value.int .i64)) ∧ Below w.heap.size w wr) (fun _ t _ => 6 - (intOf t).toNat)
  case atStart => exact ⟨0, Nat.zero_le _, rfl, HS0.out, ((Below.refl _ _).alloc (Nat.le_refl _) _).alloc (by simp) _⟩
  case round =>
    obtain ⟨v, hv, rfl, hown, hnx⟩ := hrel
    have hple := plc_le m v
    have hns := hnx.size
    by_cases hvk : v < 6
    · have i1 : (v : Int) < 6 := by omega
      have c1 := HX.out v wr hvk
      cases hR : m v
      · rw [hR] at c1
        have e1 := hid (plc_miss m v hR)
        clear hR
        go_wp2_with fail
        go_roundw
        case rel => exact ⟨v + 1, by omega, by go_num, by rw [e1.out]; exact hown, hnx⟩
        case measure => simp [intOf]; omega
      · rw [hR] at c1
        have e1 := hid (plc_hit m v hR)
        clear hR
        go_wp2_with (first
          | (at_builtin; refine wpList_append_own _ rfl _ _ 23 rfl w.heap.size 3 i0 (.int .i64 0) 1 8 Try.underlying23 hi hz0 hz1 hz2 rfl (by decide) _ _ _ rfl (hown.alloc _) ⟨wr.heap.size, 0, none⟩ 1 1 [.int .i64 v] rfl rfl ?c1 ?c2 ?c3 ?c4 ?c5 ?_)
          | fail)
        case c1 =>
          intro j u hj
          match j, hj with
          | 0, hj => simp at hj; subst hj; simp [Addr.add]
        case c2 => intro u hu; simp at hu; subst hu; rfl
        case c3 => unfold maxLen; omega
        case c4 => omega
        case c5 => simp; omega
        intro v' w1 hown' hgrow _
        have hb := own_grow hns hown hnx hgrow
        have hown2 : w1.ownsRow w.heap.size 3 1 v' (plc m (v + 1)).length ((plc m (v + 1)).map (Value.int .i64)) := by
          rw [e1.out]; simpa using hown'
        clear hown' hgrow hown
        go_wp2
        go_roundw
        case rel => exact ⟨v + 1, by omega, by go_num, hown2, hb⟩
        case measure => simp [intOf]; omega
    · obtain rfl : v = 6 := by omega
      go_wp2
      go_ret
      exact ⟨_, rfl, hown, hnx⟩

end Go.Proofs.Ytnmcgbfhgmmcpaa
