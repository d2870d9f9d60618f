import Derived.Deep.Cut
import Derived.Test.YtcgboccdffgkfaaDoorPa20
import Derived.Test.YtcgboccdffgkfaaDoorPa38
/-
  The place of a relation of a name: spec.l2Rel.
-/
namespace Go.Proofs.YtcgboccdffgkfaaDoor
open Go.RowKit

/-- z: the first place of a relation of the name s, or -1 -/
def RelIx (ds : List RelV) (s : ByteArray) (z : Int) : Prop :=
  (z = -1 ∧ ∀ i, i < ds.length → ((ds.getD i noRel).name.toList == s.toList) = false) ∨
  ∃ j : Nat, z = j ∧ j < ds.length ∧ ((ds.getD j noRel).name.toList == s.toList) = true ∧ ∀ i, i < j → ((ds.getD i noRel).name.toList == s.toList) = false

theorem RelIx.one {ds : List RelV} {s : ByteArray} {y z : Int} (h : RelIx ds s y) (k : RelIx ds s z) : y = z := by
  rcases h with ⟨e, h⟩ | ⟨j, e, hj, h1, h2⟩ <;> rcases k with ⟨e', k⟩ | ⟨j', e', hj', k1, k2⟩
  · rw [e, e']
  · rw [h j' hj'] at k1; cases k1
  · rw [k j hj] at h1; cases h1
  · rcases Nat.lt_trichotomy j j' with hl | hl | hl
    · rw [k2 j hl] at h1; cases h1
    · rw [e, e', hl]
    · rw [h2 j' hl] at k1; cases k1

set_option maxHeartbeats 4000000 in
set_option maxRecDepth 1000000 in
theorem l2Rel_calls (w : World) (v : Value) (ds : List RelV) (s : ByteArray) (h : IRelS w v ds) (hl : ds.length ≤ 1099511627776) :
    Calls Tryd.prog 33 #[.agg #[v], .string s] w fun e w' => ∃ z : Int, e = .returned (.int .i64 z) ∧ RelIx ds s z ∧ Below w.heap.size w w' := by
  have HB0 : Hid (Below w.heap.size w (w.alloc (.cells #[v] 24))) := hid ((Below.refl _ _).alloc (Nat.le_refl _) _)
  have HD0 : Hid ((w.alloc (.cells #[v] 24)).cell? ⟨w.heap.size, 0, none⟩ = some v) := hid (by simp [go_sem])
  have HI := hid (h.below HB0.out)
  obtain ⟨a, cap, rfl, -⟩ := h
  obtain ⟨a', cap', ee, hc⟩ := HI.out
  simp only [Value.slice.injEq] at ee
  obtain ⟨rfl, -, rfl⟩ := ee
  have HC := hid hc
  have HIX : Hid (∀ z, RelIx ds s z → RelIx ds s z) := hid (fun z h => h)
  obtain ⟨n, hn⟩ : ∃ n, n = ds.length := ⟨_, rfl⟩
  have HN := hid hn
  rw [← hn] at HC HB0 HD0 hl ⊢
  clear hc hn HI HIX
  go_enter Tryd.func33, Tryd.ntmps33
  go_upto_region 1 with fail
  generalize w.alloc (.cells #[.slice a n cap] 24) = W0 at *
  have c0 := HD0.out
  go_wp2_with fail
  clear c0 HD0
  go_loopw [10] (fun t wr => ∃ j : Nat, j ≤ n ∧ t = .int .i64 j ∧ Hid (Below W0.heap.size W0 wr ∧ ∀ i, i < j → ((ds.getD i noRel).name.toList == s.toList) = false)) (fun t _ => n - (intOf t).toNat)
  case atStart => exact ⟨0, Nat.zero_le _, rfl, hid ⟨Below.refl _ _, fun i hi => by omega⟩⟩
  case round =>
    obtain ⟨j, hj, rfl, HH⟩ := hrel
    by_cases hjn : j < n
    · have i1 : (j : Int) < (n : Int) := by omega
      rcases HC.out with h0 | ⟨b, o, rfl, hcell⟩
      · omega
      · obtain ⟨vr, vw, d0, d1, d2, d3, hir⟩ := hcell j hjn
        obtain ⟨ra, rc, er, -⟩ := hir.rows
        obtain ⟨wa, wc, ew, -⟩ := hir.ws
        subst er ew
        clear hir
        have e0 := bcl' HH.out.1 d0
        have e1 := bcl' HH.out.1 d1
        have e2 := bcl' HH.out.1 d2
        have e3 := bcl' HH.out.1 d3
        have HX : Hid (((ds.getD j noRel).name.toList == s.toList) = true → RelIx ds s j) := hid (fun h => Or.inr ⟨j, rfl, by rw [← HN.out]; exact hjn, h, HH.out.2⟩)
        have HY : Hid (((ds.getD j noRel).name.toList == s.toList) = false → ∀ i, i < j + 1 → ((ds.getD i noRel).name.toList == s.toList) = false) := hid (fun h i hi => by
          by_cases e : i = j
          · rw [e]; exact h
          · exact HH.out.2 i (by omega))
        have HW := hid HH.out.1
        clear hcell HH d0 d1 d2 d3
        generalize (ds.getD j noRel).rows.length = rn at *
        generalize (ds.getD j noRel).ws.length = wn at *
        generalize (ds.getD j noRel).ar = ar at *
        generalize (ds.getD j noRel).name = x at *
        cases hb : (x.toList == s.toList)
        · have HZ := hid (HY.out hb)
          clear HX HY
          go_wp2
          go_roundw
          case rel => exact ⟨j + 1, by omega, by go_num, hid ⟨HW.out.alloc HW.out.size _, HZ.out⟩⟩
          case measure => simp [intOf]; omega
        · have HZ := hid (HX.out hb)
          clear HX HY
          go_wp2
          go_ret
          exact ⟨_, rfl, HZ.out, bt HB0.out (HW.out.alloc HW.out.size _)⟩
    · obtain rfl : j = n := by omega
      have i1 : ¬ ((j : Int) < (j : Int)) := by omega
      have HZ : Hid (RelIx ds s (-1)) := hid (Or.inl ⟨rfl, fun i hi => HH.out.2 i (by rw [HN.out]; exact hi)⟩)
      go_wp2
      go_ret
      exact ⟨_, rfl, HZ.out, bt HB0.out HH.out.1⟩

end Go.Proofs.YtcgboccdffgkfaaDoor
