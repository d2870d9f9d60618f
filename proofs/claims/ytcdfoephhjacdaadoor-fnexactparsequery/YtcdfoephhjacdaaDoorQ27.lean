import Derived.Deep.Cut
import Derived.Deep.RegionLaw
import Derived.Test.YtcdfoephhjacdaaDoorQ21
import Derived.Test.YtcdfoephhjacdaaDoorQ26
/-
  impl.readNumber.
-/
namespace Go.Proofs.YtcdfoephhjacdaaDoor
open Go.RowKit

def numN (s : ByteArray) (most : Nat) : Nat := (rdN s.data.toList most).getD 0
def numG (s : ByteArray) (most : Nat) : Bool := (rdN s.data.toList most).isSome
theorem num_no {s : ByteArray} {most : Nat} (h : NumT s.data.toList → dv s.data.toList ≤ most → False) : numN s most = 0 ∧ numG s most = false := by
  unfold numN numG rdN
  rw [if_neg (fun c => h (numTB_iff.1 c.1) c.2)]
  exact ⟨rfl, rfl⟩
theorem num_yes {s : ByteArray} {most : Nat} (h : NumT s.data.toList) (h2 : dv s.data.toList ≤ most) : numN s most = dv s.data.toList ∧ numG s most = true := by
  unfold numN numG rdN
  rw [if_pos ⟨numTB_iff.2 h, h2⟩]
  exact ⟨rfl, rfl⟩
theorem byte_dgt (b : UInt8) : digitB (b.toNat : Int) = dgt b := by
  unfold digitB dgt
  congr 1
  · apply decide_eq_decide.2; omega
  · apply decide_eq_decide.2; omega

set_option maxHeartbeats 2000000 in
set_option maxRecDepth 1000000 in
theorem readNumber_calls (w : World) (s : ByteArray) (most : Nat) (hs : s.size ≤ 1099511627776) (hm : most ≤ 1000000000000) :
    Calls Tryd.prog 74 #[.string s, .int .i64 most] w fun e w' => e = .returned (.tuple #[.int .i64 (numN s most), .bool (numG s most)]) ∧ w' = w := by
  by_cases h0 : s.size = 0
  · have e1 : s = ⟨#[]⟩ := by
      obtain ⟨⟨l⟩⟩ := s
      simp [ByteArray.size] at h0
      simp [h0]
    obtain ⟨f1, f2⟩ := num_no (s := s) (most := most) (fun h _ => h.ne (by rw [e1]))
    rw [f1, f2]
    subst e1
    go_enter Tryd.func74, Tryd.ntmps74
    go_wp2
    go_ret2
    exact ⟨rfl, rfl⟩
  have hne := not_empty h0
  have i0 : (0 : Int) < (s.size : Int) := by omega
  have hp0 : 0 < s.size := by omega
  have hb0 := byteAt_eq s 0 hp0
  have hat : ∀ i, byteAt s i = (((s.data.toList.getD i 0).toNat : Nat) : Int) := fun i => rfl
  have hlen : s.data.toList.length = s.size := by simp
  have hhd : s.data.toList.head? = some (s.data.toList.getD 0 0) := by
    cases hl : s.data.toList with
    | nil => rw [hl] at hlen; simp at hlen; omega
    | cons x r => rfl
  by_cases hbad : byteAt s 0 = 48 ∧ s.toList ≠ [48]
  · obtain ⟨f1, f2⟩ := num_no (s := s) (most := most) (fun h _ => hbad.2 (by
      rw [ByteArray.toList_eq]
      refine h.zo (by rw [hhd, show s.data.toList.getD 0 0 = 48 from UInt8.toNat_inj.1 (by have := hat 0; rw [hbad.1] at this; show _ = 48; omega)])))
    rw [f1, f2]
    have hz3 : (((s[0]'hp0).toNat : Int) == 48) = true := by rw [← hb0, hbad.1]; rfl
    have hz4 : (s.toList == [48]) = false := by simpa using hbad.2
    go_enter Tryd.func74, Tryd.ntmps74
    go_wp2
    go_ret2
    exact ⟨rfl, rfl⟩
  have hzo : s.data.toList.head? = some 48 → s.data.toList = [48] := fun e => by
    rw [hhd, Option.some.injEq] at e
    by_cases e2 : s.toList = [48]
    · rw [← ByteArray.toList_eq]; exact e2
    · exact absurd ⟨by rw [hat 0, e]; rfl, e2⟩ hbad
  have HT : Hid ((∀ i, i < s.size → dgt (s.data.toList.getD i 0) = true) → dv s.data.toList ≤ most → numN s most = dv s.data.toList ∧ numG s most = true) := hid fun h1 h2 => num_yes ⟨fun e => by rw [e] at hlen; simp at hlen; omega, fun b hb => by
      obtain ⟨j, hj, e⟩ := List.getElem_of_mem hb
      have := h1 j (by omega)
      rw [List.getD_eq_getElem?_getD, List.getElem?_eq_getElem hj] at this
      rw [← e]; exact this, hzo⟩ h2
  have HF1 : Hid (∀ i, i < s.size → dgt (s.data.toList.getD i 0) = false → numN s most = 0 ∧ numG s most = false) := hid fun i hi hd => num_no fun h _ => by
    have := h.dg (s.data.toList.getD i 0) (by rw [List.getD_eq_getElem?_getD, List.getElem?_eq_getElem (by omega)]; exact List.getElem_mem _)
    rw [hd] at this; cases this
  have HF2 : Hid (∀ i, most < dv (s.data.toList.take i) → numN s most = 0 ∧ numG s most = false) := hid fun i hi => num_no fun _ h => by
    have := dv_take s.data.toList i
    omega
  have HE : Hid (dv (s.data.toList.take s.size) = dv s.data.toList) := hid (by rw [← hlen, List.take_length])
  have HS : Hid (∀ i, i < s.size → dv (s.data.toList.take (i + 1)) = dv (s.data.toList.take i) * 10 + ((s.data.toList.getD i 0).toNat - 48)) := hid fun i hi => dv_succ (by omega)
  have H0 : Hid (dv (s.data.toList.take 0) = 0) := hid rfl
  have HAT : Hid (∀ i (h : i < s.size), ((s[i]'h).toNat : Int) = ((s.data.toList.getD i 0).toNat : Int)) := hid fun i h => by rw [← byteAt_eq s i h, hat i]
  clear hlen hhd hzo hat
  generalize numN s most = N at *
  generalize numG s most = Gd at *
  generalize dv s.data.toList = DV at *
  obtain ⟨n, hn⟩ : ∃ n, n = s.size := ⟨_, rfl⟩
  rw [← hn] at HT HF1 HE HS
  go_enter Tryd.func74, Tryd.ntmps74
  go_upto_region 1 with fail
  go_cut [18] from 8 (fun v wx => v = .bool false ∧ wx = w)
  case first =>
    by_cases hz : byteAt s 0 = 48
    · have hz3 : (((s[0]'hp0).toNat : Int) == 48) = true := by rw [← hb0, hz]; rfl
      have hz4 : (s.toList == [48]) = true := by
        by_cases e : s.toList = [48]
        · simpa using e
        · exact absurd ⟨hz, e⟩ hbad
      go_wp2
      go_meet
      exact ⟨by simp, rfl⟩
    · have hz3 : (((s[0]'hp0).toNat : Int) == 48) = false := by
        rw [← hb0]; simpa using hz
      go_wp2
      go_meet
      exact ⟨rfl, rfl⟩
  case rest =>
    obtain ⟨rfl, rfl⟩ := hcut
    clear hbad hb0
    go_wp2_with fail
    go_loop [6, 21] (fun u t => ∃ j d : Nat, j ≤ n ∧ t = .int .i64 j ∧ u = .int .i64 d ∧ d ≤ most ∧ Hid (d = dv (s.data.toList.take j) ∧ ∀ i, i < j → dgt (s.data.toList.getD i 0) = true)) (fun _ t => n - (intOf t).toNat)
    case atStart => exact ⟨0, 0, Nat.zero_le _, rfl, rfl, Nat.zero_le _, hid ⟨H0.out.symm, fun i hi => by omega⟩⟩
    case round =>
      obtain ⟨j, d, hj, rfl, rfl, hd, hok⟩ := hrel
      by_cases hjn : j < n
      · have j1 : (j : Int) < (s.size : Int) := by omega
        have hjs : j < s.size := by omega
        have hAT := HAT.out j hjs
        have hF1 := hid (HF1.out j hjn)
        have hS := HS.out j hjn
        rw [← hok.out.1] at hS
        have hF2 := hid (HF2.out (j + 1))
        have KD := hid (isDigit_calls wc ((s[j]'hjs).toNat : Int))
        rw [hAT, byte_dgt] at KD
        have hx := hid (dgt_num (b := s.data.toList.getD j 0))
        have nxt : Hid (dgt (s.data.toList.getD j 0) = true → ∀ i, i < j + 1 → dgt (s.data.toList.getD i 0) = true) := hid fun e i hi => by
          by_cases e2 : i = j
          · rw [e2]; exact e
          · exact hok.out.2 i (by omega)
        have HD' := hid hS
        clear hok HF1 HF2 HS HAT HT HE H0 hS
        generalize dgt (s.data.toList.getD j 0) = dg at *
        generalize (s.data.toList.getD j 0).toNat = b at *
        cases dg
        · obtain ⟨f1, f2⟩ := hF1.out rfl
          subst f1 f2
          go_wp2_with (first | (go_at_call 100; refine KD.out.mono ?_; rintro e w' ⟨rfl, hw'⟩; subst w') | fail)
          go_ret2
          exact ⟨rfl, rfl⟩
        · obtain ⟨x1, x2⟩ := hx.out rfl
          have hw1 : IntKind.u8.wrap ((b : Int) - 48) = (b : Int) - 48 := by simp [IntKind.wrap, IntKind.bits, IntKind.signed]; omega
          have hw2 : IntKind.i64.wrap ((b : Int) - 48) = (b : Int) - 48 := by simp [IntKind.wrap, IntKind.bits, IntKind.signed]; omega
          have hw3 : IntKind.i64.wrap ((d : Int) * 10) = (d : Int) * 10 := by simp [IntKind.wrap, IntKind.bits, IntKind.signed]; omega
          have hw4 : IntKind.i64.wrap ((d : Int) * 10 + ((b : Int) - 48)) = (d : Int) * 10 + ((b : Int) - 48) := by simp [IntKind.wrap, IntKind.bits, IntKind.signed]; omega
          by_cases hgt : most < d * 10 + (b - 48)
          · have i5 : (most : Int) < (d : Int) * 10 + ((b : Int) - 48) := by omega
            obtain ⟨f1, f2⟩ := hF2.out (by rw [HD'.out]; exact hgt)
            subst f1 f2
            clear hgt
            go_wp2_with (first | (go_at_call 100; refine KD.out.mono ?_; rintro e w' ⟨rfl, hw'⟩; subst w') | fail)
            go_ret2
            exact ⟨rfl, rfl⟩
          · have i5 : ¬ ((most : Int) < (d : Int) * 10 + ((b : Int) - 48)) := by omega
            have HNX : Hid (∃ d' : Nat, ((d : Int) * 10 + ((b : Int) - 48)) = d' ∧ d' ≤ most ∧ d' = dv (s.data.toList.take (j + 1))) := hid ⟨d * 10 + (b - 48), by omega, by omega, HD'.out.symm⟩
            have HAL := hid (nxt.out rfl)
            clear hgt nxt hx
            go_wp2_with (first | (go_at_call 100; refine KD.out.mono ?_; rintro e w' ⟨rfl, hw'⟩; subst w') | fail)
            go_round
            case rel =>
              obtain ⟨d', e1, e2, e3⟩ := HNX.out
              exact ⟨j + 1, d', by omega, by go_num, by rw [e1], e2, hid ⟨e3, HAL.out⟩⟩
            case measure => simp [intOf]; omega
      · obtain rfl : j = n := by omega
        have j1 : ¬ ((j : Int) < (s.size : Int)) := by omega
        have hdv : d = DV := by rw [hok.out.1, HE.out]
        subst hdv
        obtain ⟨f1, f2⟩ := HT.out hok.out.2 hd
        subst f1 f2
        clear hok HT HF1 HF2 HS HAT HE H0
        go_wp2
        go_ret2
        exact ⟨rfl, rfl⟩
end Go.Proofs.YtcdfoephhjacdaaDoor
