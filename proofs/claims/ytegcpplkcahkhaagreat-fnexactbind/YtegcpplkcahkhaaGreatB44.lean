import Derived.Test.YtegcpplkcahkhaaGreatB24
/-
  spec.l3Fits.
-/
namespace Go.Proofs.YtegcpplkcahkhaaGreat
open Go.RowKit

set_option maxHeartbeats 8000000 in
set_option maxRecDepth 1000000 in
theorem l3Fits_calls (w : World) (vr vt : Value) (rel : ByteArray) (row : List Int) (ts : List TermV) (hr : IS w vr row) (ht : ITm w vt ts) (hlen : ts.length ≤ row.length) (hl : row.length ≤ 1000000) :
    Calls Tryz.prog 24 #[.agg #[.string rel, vt], vr] w fun e w' => e = .returned (.bool (fitB ts row)) ∧ Below w.heap.size w w' := by
  obtain ⟨ra, rc, rfl, hrc⟩ := hr
  obtain ⟨ta, tc', rfl, htc⟩ := ht
  obtain ⟨W0, hW0⟩ : ∃ W, W = w.alloc (.cells #[.string rel, .slice ta ts.length tc'] 56) := ⟨_, rfl⟩
  have HB0 : Hid (Below w.heap.size w W0) := hid (by rw [hW0]; exact (Below.refl _ _).alloc (Nat.le_refl _) _)
  have HA0 : Hid (W0.cell? ⟨w.heap.size, 1, none⟩ = some (.slice ta ts.length tc')) := hid (by rw [hW0, World.cell?_alloc_at _ _ _ _ rfl]; rfl)
  have HR : Hid (∀ W, Below W0.heap.size W0 W → ∀ j, j < row.length → ∃ b o, ra = some ⟨b, o, none⟩ ∧ W.cell? ⟨b, o + j, none⟩ = some (.int .i64 (row.getD j 0))) := hid fun W hW j hj => by
    rcases hrc with h0 | ⟨b, o, rfl, h⟩
    · omega
    · exact ⟨b, o, rfl, bcl' hW (bcl' HB0.out (h j hj))⟩
  have HC : Hid (∀ W, Below W0.heap.size W0 W → ∀ j, j < ts.length → ∃ b o, ta = some ⟨b, o, none⟩ ∧ W.cell? ⟨b, o + j * 2, none⟩ = some (.string (ts.getD j noTm).1) ∧ W.cell? ⟨b, o + j * 2 + 1, none⟩ = some (.int .i64 (ts.getD j noTm).2)) := hid fun W hW j hj => by
    rcases htc with h0 | ⟨b, o, rfl, hh⟩
    · omega
    · exact ⟨b, o, rfl, bcl' hW (bcl' HB0.out (hh j hj).1), bcl' hW (bcl' HB0.out (hh j hj).2)⟩
  clear hrc htc
  obtain ⟨n, hn⟩ : ∃ n, n = ts.length := ⟨_, rfl⟩
  have HN := hid hn
  obtain ⟨m, hm⟩ : ∃ m, m = row.length := ⟨_, rfl⟩
  rw [← hn] at HC hlen HA0 hW0 ⊢
  rw [← hm] at HR hlen hl ⊢
  clear hn hm
  go_enter Tryz.func24, Tryz.ntmps24
  go_upto_region 1 with fail
  rw [← hW0]
  clear hW0
  obtain ⟨pa, hpa⟩ : ∃ p, p = w.heap.size := ⟨_, rfl⟩
  rw [← hpa] at HA0 ⊢
  have HPA := hid hpa
  clear hpa
  have a1 := HA0.out
  go_wp2_with fail
  clear a1
  go_loopw [11] (fun t wr => ∃ j : Nat, j ≤ n ∧ t = .int .i64 j ∧ Hid (Below W0.heap.size W0 wr) ∧ Hid (∀ i, i < j → fitAt ts row i = true)) (fun t _ => n - (intOf t).toNat)
  case atStart => exact ⟨0, Nat.zero_le _, rfl, hid (Below.refl _ _), hid (fun i hi => by omega)⟩
  case round =>
    obtain ⟨j, hj, rfl, HW, HH⟩ := hrel
    by_cases hjn : j < n
    · have i1 : (j : Int) < (n : Int) := by omega
      have im1 : (j : Int) < (m : Int) := by omega
      obtain ⟨b, o, ea, g0, g1⟩ := HC.out wr HW.out j hjn
      subst ea
      have HNo : Hid (∀ i, (ts.getD j noTm).1.toList.isEmpty = false → i < n → ((ts.getD i noTm).1.toList == (ts.getD j noTm).1.toList) = true → row.getD j 0 ≠ row.getD i 0 → fitB ts row = false) := hid fun i he hi hs hne => fitB_false (by rw [← HN.out]; exact hjn) (fitAt_no he (by rw [← HN.out]; exact hi) hs hne)
      have HNc : Hid ((ts.getD j noTm).1.toList.isEmpty = true → row.getD j 0 ≠ (ts.getD j noTm).2 → fitB ts row = false) := hid fun he hne => fitB_false (by rw [← HN.out]; exact hjn) (by rw [fitAt_const he]; exact decide_eq_false hne)
      have HOk : Hid (fitAt ts row j = true → ∀ i, i < j + 1 → fitAt ts row i = true) := hid fun h i hi => by
        by_cases e : i = j
        · rw [e]; exact h
        · exact HH.out i (by omega)
      have HO1 : Hid ((ts.getD j noTm).1.toList.isEmpty = true → row.getD j 0 = (ts.getD j noTm).2 → fitAt ts row j = true) := hid fun he h => by rw [fitAt_const he]; exact decide_eq_true h
      have HO2 : Hid ((ts.getD j noTm).1.toList.isEmpty = false → (∀ i, i < n → ((ts.getD i noTm).1.toList == (ts.getD j noTm).1.toList) = true → row.getD j 0 = row.getD i 0) → fitAt ts row j = true) := hid fun he h => fitAt_var he (by rw [← HN.out]; exact h)
      clear HH
      generalize ts.getD j noTm = tt at *
      obtain ⟨x, y⟩ := tt
      dsimp only at *
      generalize wr = Wt at *
      go_upto_region 4 with fail
      obtain ⟨W5, hW5⟩ : ∃ W5, W5 = Wt.alloc (.cells #[.string x, .int .i64 y] 62) := ⟨_, rfl⟩
      have t0 : W5.cell? ⟨Wt.heap.size, 0, none⟩ = some (.string x) := by rw [hW5, World.cell?_alloc_at _ _ _ _ rfl]; rfl
      have t1 : W5.cell? ⟨Wt.heap.size, 1, none⟩ = some (.int .i64 y) := by rw [hW5, World.cell?_alloc_at _ _ _ _ rfl]; rfl
      have HT0 := hid t0
      have HB5 : Hid (Below W0.heap.size W0 W5) := hid (by rw [hW5]; exact HW.out.alloc HW.out.size _)
      rw [← hW5]
      clear hW5 HW g0 g1
      generalize Wt.heap.size = tp at *
      obtain ⟨rb, ro, er, r1⟩ := HR.out W5 HB5.out j (by omega)
      subst er
      have HRj : Hid (∀ W, Below W5.heap.size W5 W → W.cell? ⟨rb, ro + j, none⟩ = some (.int .i64 (row.getD j 0))) := hid fun W hW => bcl' hW r1
      have HR2 : Hid (∀ W, Below W5.heap.size W5 W → ∀ i, i < n → W.cell? ⟨rb, ro + i, none⟩ = some (.int .i64 (row.getD i 0))) := hid fun W hW i hi => by
        obtain ⟨b', o', e', h⟩ := HR.out W (bt HB5.out hW) i (by omega)
        simp only [Option.some.injEq, Addr.mk.injEq, and_true] at e'
        obtain ⟨rfl, rfl⟩ := e'
        exact h
      have HC2 : Hid (∀ W, Below W5.heap.size W5 W → ∀ i, i < n → W.cell? ⟨b, o + i * 2, none⟩ = some (.string (ts.getD i noTm).1)) := hid fun W hW i hi => by
        obtain ⟨b', o', e', h, -⟩ := HC.out W (bt HB5.out hW) i hi
        simp only [Option.some.injEq, Addr.mk.injEq, and_true] at e'
        obtain ⟨rfl, rfl⟩ := e'
        exact h
      have a1 : Hid (∀ W, Below W5.heap.size W5 W → W.cell? ⟨pa, 1, none⟩ = some (.slice (some ⟨b, o, none⟩) n tc')) := hid fun W hW => bcl' hW (bcl' HB5.out HA0.out)
      have a5 := a1.out W5 (Below.refl _ _)
      have HB5f := hid (bt HB0.out HB5.out)
      have hemE : (x.toList == ([] : List UInt8)) = x.toList.isEmpty := by cases x.toList <;> rfl
      generalize row.getD j 0 = qw at *
      cases hem : x.toList.isEmpty
      · rw [hem] at hemE
        clear HNc HO1
        go_quiet (fail)
        have HQ := hid (below_drewN (Below.refl W5.heap.size W5) nq)
        have a6 := a1.out _ HQ.out
        clear a5 t0 t1 r1
        generalize W5.drewN nq = W6 at *
        go_wp2_with fail
        clear a6
        go_loopw [31] (fun t wr => ∃ i : Nat, i ≤ n ∧ t = .int .i64 i ∧ Hid (Below W5.heap.size W5 wr) ∧ Hid (∀ k, k < i → ((ts.getD k noTm).1.toList == x.toList) = true → qw = row.getD k 0)) (fun t _ => n - (intOf t).toNat)
        case atStart => exact ⟨0, Nat.zero_le _, rfl, HQ, hid (fun i hi => by omega)⟩
        case round =>
          obtain ⟨i, hi, rfl, HW, HG⟩ := hrel
          by_cases hin : i < n
          · have i2 : (i : Int) < (n : Int) := by omega
            have im2 : (i : Int) < (m : Int) := by omega
            have s1 := HRj.out wr HW.out
            have s2 := HR2.out wr HW.out i hin
            have s3 := HC2.out wr HW.out i hin
            have s4 := a1.out wr HW.out
            have s5 := bcl' HW.out HT0.out
            have HNo1 := hid (HNo.out i hem hin)
            have HGs : Hid ((((ts.getD i noTm).1.toList == x.toList) = true → qw = row.getD i 0) → ∀ k, k < i + 1 → ((ts.getD k noTm).1.toList == x.toList) = true → qw = row.getD k 0) := hid fun h k hk => by
              by_cases e : k = i
              · rw [e]; exact h
              · exact HG.out k (by omega)
            generalize (ts.getD i noTm).1 = x2 at *
            generalize row.getD i 0 = qv at *
            have HBr := hid (bt HB5f.out HW.out)
            cases hs : (x2.toList == x.toList)
            · have HF := hid (HGs.out (fun h => by rw [hs] at h; cases h))
              clear HNo1 HGs HG
              go_wp2_with fail
              go_quiet (fail)
              have HQ2 := hid (below_drewN HW.out nq)
              clear s1 s2 s3 s4 s5
              generalize wr.drewN nq = W7 at *
              go_wp2_with fail
              go_roundw
              case rel => exact ⟨i + 1, by omega, by go_num, HQ2, HF⟩
              case measure => simp [intOf]; omega
            · by_cases hq : qw = qv
              · have HF := hid (HGs.out (fun _ => hq))
                clear HNo1 HGs HG
                go_wp2_with fail
                go_quiet (fail)
                have HQ2 := hid (below_drewN HW.out nq)
                clear s1 s2 s3 s4 s5
                generalize wr.drewN nq = W7 at *
                go_wp2_with fail
                go_roundw
                case rel => exact ⟨i + 1, by omega, by go_num, HQ2, HF⟩
                case measure => simp [intOf]; omega
              · have HF := hid (HNo1.out hs hq)
                clear HNo1 HGs HG
                go_wp2_with fail
                go_quiet (fail)
                have HQ2 := hid (below_drewN HBr.out nq)
                clear s1 s2 s3 s4 s5
                generalize wr.drewN nq = W7 at *
                go_wp2_with fail
                go_ret
                exact ⟨(by rw [HF.out]; rfl), HQ2.out⟩
          · obtain rfl : i = n := by omega
            have i2 : ¬ ((i : Int) < (i : Int)) := by omega
            have HF := hid (HOk.out (HO2.out hem HG.out))
            have HBq := hid (bt HB5.out HW.out)
            clear HG HO2 HOk HNo
            go_wp2_with fail
            go_roundw
            case rel => exact ⟨j + 1, by omega, by go_num, HBq, HF⟩
            case measure => simp [intOf]; omega
      · rw [hem] at hemE
        clear HNo HO2
        by_cases hq : qw = y
        · have HF := hid (HOk.out (HO1.out hem hq))
          clear HNc HO1 HOk
          go_quiet (fail)
          have HQ := hid (below_drewN (Below.refl W5.heap.size W5) nq)
          have a6 := a1.out _ HQ.out
          clear a5 t0 t1 r1
          generalize W5.drewN nq = W6 at *
          go_wp2_with fail
          clear a6
          go_loopw [31] (fun t wr => ∃ i : Nat, i ≤ n ∧ t = .int .i64 i ∧ Hid (Below W5.heap.size W5 wr)) (fun t _ => n - (intOf t).toNat)
          case atStart => exact ⟨0, Nat.zero_le _, rfl, HQ⟩
          case round =>
            obtain ⟨i, hi, rfl, HW⟩ := hrel
            by_cases hin : i < n
            · have i2 : (i : Int) < (n : Int) := by omega
              have s5 := bcl' HW.out HT0.out
              go_wp2_with fail
              go_quiet (fail)
              have HQ2 := hid (below_drewN HW.out nq)
              clear s5
              generalize wr.drewN nq = W7 at *
              go_wp2_with fail
              go_roundw
              case rel => exact ⟨i + 1, by omega, by go_num, HQ2⟩
              case measure => simp [intOf]; omega
            · obtain rfl : i = n := by omega
              have i2 : ¬ ((i : Int) < (i : Int)) := by omega
              have HBq := hid (bt HB5.out HW.out)
              go_wp2_with fail
              go_roundw
              case rel => exact ⟨j + 1, by omega, by go_num, HBq, HF⟩
              case measure => simp [intOf]; omega
        · have HF := hid (HNc.out hem hq)
          clear HNc HO1 HOk
          go_quiet (fail)
          have HQ := hid (below_drewN HB5f.out nq)
          clear a5 t0 t1 r1
          generalize W5.drewN nq = W6 at *
          go_wp2_with fail
          go_ret
          exact ⟨(by rw [HF.out]; rfl), HQ.out⟩
    · obtain rfl : j = n := by omega
      have i1 : ¬ ((j : Int) < (j : Int)) := by omega
      have HF : Hid (fitB ts row = true) := hid (fitB_true (by rw [← HN.out]; exact HH.out))
      have HBz := hid (bt HB0.out HW.out)
      clear HH HC HR
      go_wp2_with fail
      go_ret
      exact ⟨(by rw [HF.out]; rfl), HBz.out⟩

end Go.Proofs.YtegcpplkcahkhaaGreat
