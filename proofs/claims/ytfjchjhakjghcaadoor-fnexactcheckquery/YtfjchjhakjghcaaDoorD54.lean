import Derived.Deep.RegionHeld3
import Derived.Test.YtfjchjhakjghcaaDoorD53
/-
  impl.checkAtoms.
-/
namespace Go.Proofs.YtfjchjhakjghcaaDoor
open Go.RowKit

/-- a fault, as an error -/
def faultV (c p : Int) : Value := .iface 86 (.agg #[.int .i64 c, .int .i64 p])
def atomsV (ds : List RelV) (ats : List AtomV) : Value :=
  match (List.range ats.length).find? (fun i => decide (atomCode ds (ats.getD i noAt) ≠ 0)) with
  | some i => faultV (atomCode ds (ats.getD i noAt)) i
  | none => .nilIface
theorem atomsV_bad {ds : List RelV} {ats : List AtomV} {i : Nat} (hi : i < ats.length) (hb : ∀ j, j < i → atomCode ds (ats.getD j noAt) = 0) (hc : atomCode ds (ats.getD i noAt) ≠ 0) : atomsV ds ats = faultV (atomCode ds (ats.getD i noAt)) i := by
  unfold atomsV
  rw [find_range_some hi (by simpa using hc) (fun j hj => by simpa using hb j hj)]
theorem atomsV_ok {ds : List RelV} {ats : List AtomV} (hb : ∀ j, j < ats.length → atomCode ds (ats.getD j noAt) = 0) : atomsV ds ats = .nilIface := by
  unfold atomsV
  rw [find_range_none (fun j hj => by simpa using hb j hj)]

set_option maxHeartbeats 20000000 in
set_option maxRecDepth 1000000 in
theorem checkAtoms_calls (w : World) (v va : Value) (ds : List RelV) (ats : List AtomV) (h : IRelS w v ds) (hdl : ds.length ≤ 1099511627776) (hi : IAt w va ats) (hal : ats.length ≤ 1048576) :
    Calls Tryd.prog 66 #[.agg #[v], va] w fun e w' => e = .returned (atomsV ds ats) ∧ Below w.heap.size w w' := by
  have h' := h
  obtain ⟨a3, k3, rfl, -⟩ := h'
  have hi' := hi
  obtain ⟨a2, k2, rfl, -⟩ := hi'
  have HBW : Hid (Below w.heap.size w (w.alloc (.cells #[.slice a3 ds.length k3] 29))) := hid ((Below.refl _ _).alloc (Nat.le_refl _) _)
  have d0 : (w.alloc (.cells #[.slice a3 ds.length k3] 29)).cell? ⟨w.heap.size, 0, none⟩ = some (.slice a3 ds.length k3) := by rw [World.cell?_alloc_at _ _ _ _ rfl]; rfl
  obtain ⟨W0, hW0⟩ : ∃ W, W = w.alloc (.cells #[.slice a3 ds.length k3] 29) := ⟨_, rfl⟩
  rw [← hW0] at HBW d0
  have HD := hid (h.below HBW.out)
  have HA := hid (hi.below HBW.out)
  have KL : Hid (∀ W s, Below W0.heap.size W0 W → Calls Tryd.prog 94 #[.agg #[.slice a3 ds.length k3], .string s] W fun e w' => ∃ z : Int, e = .returned (.int .i64 z) ∧ RelIx ds s z ∧ Below W.heap.size W w') := hid (fun W s hb => relationPlace_calls W _ ds s (HD.out.below hb) hdl)
  have HPA : Hid (∀ i, i < ats.length → (∀ j, j < i → atomCode ds (ats.getD j noAt) = 0) → atomCode ds (ats.getD i noAt) ≠ 0 → atomsV ds ats = faultV (atomCode ds (ats.getD i noAt)) i) := hid (fun i hi hb hc => atomsV_bad hi hb hc)
  have HPO : Hid ((∀ j, j < ats.length → atomCode ds (ats.getD j noAt) = 0) → atomsV ds ats = .nilIface) := hid (fun hb => atomsV_ok hb)
  obtain ⟨ax, kx, ee, hca⟩ := HA.out
  simp only [Value.slice.injEq] at ee
  obtain ⟨rfl, -, -⟩ := ee
  have HCA := hid hca
  obtain ⟨ay, ky, ee, hcd⟩ := HD.out
  simp only [Value.slice.injEq] at ee
  obtain ⟨rfl, -, -⟩ := ee
  have HCD := hid hcd
  clear hca hcd h hi HA HD
  obtain ⟨RV, hRV⟩ : ∃ r, r = atomsV ds ats := ⟨_, rfl⟩
  rw [← hRV] at HPA HPO ⊢
  clear hRV
  go_enter Tryd.func66, Tryd.ntmps66
  go_upto_region 1 with fail
  rw [← hW0]
  clear hW0
  obtain ⟨an, han⟩ : ∃ n, n = ats.length := ⟨_, rfl⟩
  obtain ⟨dn, hdn⟩ : ∃ n, n = ds.length := ⟨_, rfl⟩
  have HDN := hid hdn
  rw [← han] at HPA HPO HCA hal ⊢
  rw [← hdn] at KL HCD d0 hdl ⊢
  clear han hdn
  go_wp2_with fail
  go_loopw [10] (fun t wr => ∃ i : Nat, i ≤ an ∧ t = .int .i64 i ∧ Hid (Below W0.heap.size W0 wr ∧ ∀ p, p < i → atomCode ds (ats.getD p noAt) = 0)) (fun t _ => an - (intOf t).toNat)
  case atStart => exact ⟨0, Nat.zero_le _, rfl, hid ⟨Below.refl _ _, fun p hp => by omega⟩⟩
  case round =>
    obtain ⟨i, hin, rfl, HH⟩ := hrel
    by_cases hlt : i < an
    · have i2 : (i : Int) < (an : Int) := by omega
      rcases HCA.out with h0 | ⟨b, o, rfl, hat⟩
      · omega
      · obtain ⟨u, g0, g1, hit⟩ := hat i hlt
        obtain ⟨ua, uc, eu, -⟩ := hit
        subst eu
        have e0 := bcl' HH.out.1 g0
        have e1 := bcl' HH.out.1 g1
        have HPI := hid (HPA.out i hlt HH.out.2)
        have HNX : Hid (atomCode ds (ats.getD i noAt) = 0 → ∀ p, p < i + 1 → atomCode ds (ats.getD p noAt) = 0) := hid (fun h p hp => by
          by_cases e : p = i
          · rw [e]; exact h
          · exact HH.out.2 p (by omega))
        have HNO : Hid (RelIx ds (ats.getD i noAt).1 (-1) → atomCode ds (ats.getD i noAt) = 4) := hid RelIx.code_no
        have HYE : Hid (∀ j : Nat, RelIx ds (ats.getD i noAt).1 (j : Int) → j < dn ∧ atomCode ds (ats.getD i noAt) = if (ds.getD j noRel).ar = ((ats.getD i noAt).2.length : Int) then 0 else 5) := hid (fun j h => by rw [HDN.out]; exact RelIx.code_yes h)
        have HW : Hid (Below W0.heap.size W0 (wr.alloc (.cells #[.string (ats.getD i noAt).1, .slice ua (ats.getD i noAt).2.length uc] 72))) := hid (HH.out.1.alloc HH.out.1.size _)
        have f1 : (wr.alloc (.cells #[.string (ats.getD i noAt).1, .slice ua (ats.getD i noAt).2.length uc] 72)).cell? ⟨wr.heap.size, 0, none⟩ = some (.string (ats.getD i noAt).1) := by rw [World.cell?_alloc_at _ _ _ _ rfl]; rfl
        have f2 : (wr.alloc (.cells #[.string (ats.getD i noAt).1, .slice ua (ats.getD i noAt).2.length uc] 72)).cell? ⟨wr.heap.size, 1, none⟩ = some (.slice ua (ats.getD i noAt).2.length uc) := by rw [World.cell?_alloc_at _ _ _ _ rfl]; rfl
        have dd := bcl' HW.out d0
        clear hat g0 g1 HH HPA
        generalize atomCode ds (ats.getD i noAt) = ac at *
        generalize ats.getD i noAt = at1 at *
        generalize at1.2.length = tn at *
        generalize at1.1 = nm at *
        go_upto_region 4 with fail
        clear e0 e1
        generalize wr.alloc (.cells #[.string nm, .slice ua tn uc] 72) = Wr at *
        generalize wr.heap.size = B3 at *
        go_wp2_with fail
        refine (KL.out Wr nm HW.out).mono ?_
        rintro e w3 ⟨z, rfl, hz, hb3⟩
        have HB3 := hid (bt HW.out hb3)
        have f2' := bcl' hb3 f2
        clear f1 f2 dd hb3 HW
        by_cases hz0 : z < 0
        · obtain rfl : z = -1 := by
            rcases hz with ⟨e, -⟩ | ⟨j, e, -⟩
            · exact e
            · omega
          have hc := HNO.out hz
          subst hc
          have HR := hid (HPI.out (by decide))
          clear HPI HNX HNO HYE hz
          go_wp2_with fail
          go_ret
          exact ⟨by rw [HR.out]; rfl, bt HBW.out HB3.out⟩
        · obtain ⟨j, rfl⟩ : ∃ j : Nat, z = j := ⟨z.toNat, by omega⟩
          obtain ⟨hjd, hc⟩ := HYE.out j hz
          have i3 : (j : Int) < (dn : Int) := by omega
          rcases HCD.out with h0 | ⟨b', o', rfl, hre⟩
          · omega
          · obtain ⟨vr, vw, -, g1, -⟩ := hre j hjd
            have r1 := bcl' HB3.out g1
            have dd := bcl' HB3.out d0
            clear hre g1 HNO HYE hz
            generalize (ds.getD j noRel).ar = ar at *
            by_cases hart : ar = (tn : Int)
            · subst hart
              rw [if_pos rfl] at hc
              have HN := hid (HNX.out hc)
              clear HNX HPI hc
              go_wp2_with fail
              go_quiet (fail)
              go_wp2_with fail
              go_roundw
              case rel => exact ⟨i + 1, by omega, by go_num, hid ⟨below_drewN HB3.out _, HN.out⟩⟩
              case measure => simp [intOf]; omega
            · rw [if_neg hart] at hc
              subst hc
              have HR := hid (HPI.out (by decide))
              clear HNX HPI
              go_wp2_with fail
              go_quiet (fail)
              go_wp2_with fail
              go_ret
              exact ⟨by rw [HR.out]; rfl, below_drewN (bt HBW.out HB3.out) _⟩
    · obtain rfl : i = an := by omega
      have i2 : ¬ ((i : Int) < (i : Int)) := by omega
      have HR := hid (HPO.out HH.out.2)
      have HB := hid HH.out.1
      clear HH HPA HPO
      go_wp2_with fail
      go_ret
      exact ⟨by rw [HR.out]; rfl, bt HBW.out HB.out⟩

end Go.Proofs.YtfjchjhakjghcaaDoor
