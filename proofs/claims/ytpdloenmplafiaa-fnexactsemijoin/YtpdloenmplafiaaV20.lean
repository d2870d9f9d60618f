import Derived.BigQuiet
import Derived.Deep.QuietTactic
import Derived.Test.YtpdloenmplafiaaV19
/-
  spec.l2Sort, walked.
-/
namespace Go.Proofs.Ytpdloenmplafiaa
open Go.RowKit

theorem drop_cons {l : List (List Int)} {j : Nat} (h : j < l.length) : l.drop j = l.getD j [] :: l.drop (j + 1) := by
  rw [List.getD_eq_getElem?_getD, List.getElem?_eq_getElem h]
  exact List.drop_eq_getElem_cons h
theorem MS.drewN {W0 W wr : World} {v : Value} {us : List Value} {ls : List (List Int)} (h : MS W0 W wr v us ls) (n : Nat) : MS W0 W (wr.drewN n) v us ls := ⟨⟨h.bel.os, h.bel.tape, h.bel.output, h.bel.size, h.bel.block⟩, h.own, h.len, h.each⟩
theorem drop_end {l : List (List Int)} {j : Nat} (h : ¬ j < l.length) : l.drop j = [] := List.drop_eq_nil_of_le (by omega)

/-- the same slice, or a new one -/
def NewOr (W : World) (v v' : Value) : Prop := v' = v ∨ ∀ g, v'.ownBlock = some g → W.heap.size ≤ g

set_option maxHeartbeats 1000000 in
set_option maxRecDepth 1000000 in
theorem l2Sort_calls (W0 : World) : ∀ (n : Nat) (W : World) (v : Value) (us : List Value) (ls : List (List Int)), ls.length ≤ n → Below W0.heap.size W0 W → RS W0 W v us ls → ls.length ≤ 100000 → (∀ r ∈ ls, r.length ≤ 1099511627776) →
    Calls Try.prog 118 #[v] W fun e w' => ∃ v' us', e = .returned v' ∧ RS W0 w' v' us' (srt ls) ∧ NewOr W v v' ∧ Below W.heap.size W w' := by
  intro n
  induction n with
  | zero =>
    intro W v us ls hn hB h hl hM
    have HR := hid h
    obtain ⟨⟨a, cap, rfl, -⟩, -, -⟩ := h
    have e0 : ls.length = 0 := by omega
    have hS : srt ls = ls := srt_short (by omega)
    rw [hS]
    rw [e0] at HR ⊢
    go_enter Try.func118, Try.ntmps118
    go_wp2
    go_ret
    exact ⟨_, us, rfl, HR.out, Or.inl rfl, Below.refl _ _⟩
  | succ n ih =>
    intro W v us ls hn hB h hl hM
    by_cases h2 : ls.length < 2
    · have HR := hid h
      obtain ⟨⟨a, cap, rfl, -⟩, -, -⟩ := h
      have hS : srt ls = ls := srt_short h2
      rw [hS]
      have i1 : (ls.length : Int) < 2 := by omega
      go_enter Try.func118, Try.ntmps118
      go_wp2
      go_ret
      exact ⟨_, us, rfl, HR.out, Or.inl rfl, Below.refl _ _⟩
    · rw [srt_long h2]
      have HR := hid h
      obtain ⟨⟨a, cap, rfl, hcap, hc⟩, -, -⟩ := h
      obtain ⟨b, o, rfl, -⟩ : ∃ b o, a = some ⟨b, o, none⟩ ∧ ∀ j, j < ls.length → W.cell? ⟨b, o + j, none⟩ = some (us.getD j undef) := by
        rcases hc with h0 | h0
        · omega
        · exact h0
      clear hc
      obtain ⟨N, hN⟩ : ∃ N, N = ls.length := ⟨_, rfl⟩
      have KA : Hid (∀ w1, Below W.heap.size W w1 → Calls Try.prog 118 #[.slice (some ⟨b, o, none⟩) (N / 2) cap] w1 fun e w' => ∃ v' us', e = .returned v' ∧ RS W0 w' v' us' (srt (ls.take (N / 2))) ∧ Below w1.heap.size w1 w') := hid fun w1 hb => (
        ih w1 _ (us.take (N / 2)) (ls.take (N / 2)) (by rw [List.length_take]; omega) (bt hB hb) ((HR.out.below hb).take (by omega)) (by rw [List.length_take]; omega) (fun r hr => hM r (List.mem_of_mem_take hr))).mono fun e w' ⟨v', us', h1, h2, _, h3⟩ => ⟨v', us', h1, h2, h3⟩
      have KB : Hid (∀ w1, Below W.heap.size W w1 → Calls Try.prog 118 #[.slice (some ⟨b, o + N / 2, none⟩) (N - N / 2) (cap - N / 2)] w1 fun e w' => ∃ v' us', e = .returned v' ∧ RS W0 w' v' us' (srt (ls.drop (N / 2))) ∧ Below w1.heap.size w1 w') := hid fun w1 hb => by
        have := ih w1 (.slice (some ⟨b, o + N / 2, none⟩) (N - N / 2) (cap - N / 2)) (us.drop (N / 2)) (ls.drop (N / 2)) (by rw [List.length_drop]; omega) (bt hB hb) (by rw [hN]; exact (HR.out.below hb).drop (by omega)) (by rw [List.length_drop]; omega) (fun r hr => hM r (List.mem_of_mem_drop hr))
        exact this.mono fun e w' ⟨v', us', h1, h2, _, h3⟩ => ⟨v', us', h1, h2, h3⟩
      have HMa : Hid (∀ r ∈ srt (ls.take (N / 2)), r.length ≤ 1099511627776) := hid fun r hr => hM r (List.mem_of_mem_take (((srt_ok _ (ls.take (N / 2)) (Nat.le_refl _)).2 r).1 hr))
      have HMb : Hid (∀ r ∈ srt (ls.drop (N / 2)), r.length ≤ 1099511627776) := hid fun r hr => hM r (List.mem_of_mem_drop (((srt_ok _ (ls.drop (N / 2)) (Nat.le_refl _)).2 r).1 hr))
      have hla : (srt (ls.take (N / 2))).length ≤ 100000 := Nat.le_trans (srt_len _ _ (Nat.le_refl _)) (by rw [List.length_take]; omega)
      have hlb : (srt (ls.drop (N / 2))).length ≤ 100000 := Nat.le_trans (srt_len _ _ (Nat.le_refl _)) (by rw [List.length_drop]; omega)
      rw [← hN] at hcap hl h2 ⊢
      have q2 : ¬ ((N : Int) < 2) := by omega
      have q5 : ¬ cap = N / 2 := by omega
      have q6 : N / 2 ≤ cap := by omega
      have q7 : N / 2 ≤ N := by omega
      have HB := hid hB
      clear ih hn HR hM hN hB
      generalize srt (ls.take (N / 2)) = la at *
      generalize srt (ls.drop (N / 2)) = lb at *
      clear us
      go_enter Try.func118, Try.ntmps118
      go_wp2_with fail
      refine (KA.out W (Below.refl _ _)).mono ?_
      rintro e w1 ⟨va, ua, rfl, hRa, hb1⟩
      have HRa := hid hRa
      have HB1 := hid hb1
      clear hRa hb1 KA
      go_wp2_with fail
      refine (KB.out w1 HB1.out).mono ?_
      rintro e w2 ⟨vb, ub, rfl, hRb, hb2⟩
      have HRa2 := hid (HRa.out.below hb2)
      have HRb := hid hRb
      have HB2 := hid (bt HB.out (bt HB1.out hb2))
      have HBw := hid (bt HB1.out hb2)
      obtain ⟨⟨aa, ca, rfl, -, -⟩, -, -⟩ := HRa.out
      obtain ⟨⟨ab, cb, rfl, -, -⟩, -, -⟩ := hRb
      clear hb2 KB HRa HB1 HB q2 q5 q6 q7 hcap h2
      have HS0 := hid (MS.start W0 w2)
      have HCa : Hid (∀ W, Below w2.heap.size w2 W → ∀ i, i < la.length → ∃ b o u, aa = some ⟨b, o, none⟩ ∧ W.cell? ⟨b, o + i, none⟩ = some u ∧ ISc W0 u (la.getD i [])) := hid fun W hW i hi => by
        obtain ⟨⟨a', c', e, -, h1⟩, -, h3⟩ := HRa2.out.below hW
        simp only [Value.slice.injEq] at e
        obtain ⟨rfl, -, -⟩ := e
        rcases h1 with h1 | ⟨b', o', rfl, h1⟩
        · omega
        · exact ⟨b', o', _, rfl, h1 i hi, h3 i hi⟩
      have HCb : Hid (∀ W, Below w2.heap.size w2 W → ∀ i, i < lb.length → ∃ b o u, ab = some ⟨b, o, none⟩ ∧ W.cell? ⟨b, o + i, none⟩ = some u ∧ ISc W0 u (lb.getD i [])) := hid fun W hW i hi => by
        obtain ⟨⟨a', c', e, -, h1⟩, -, h3⟩ := HRb.out.below hW
        simp only [Value.slice.injEq] at e
        obtain ⟨rfl, -, -⟩ := e
        rcases h1 with h1 | ⟨b', o', rfl, h1⟩
        · omega
        · exact ⟨b', o', _, rfl, h1 i hi, h3 i hi⟩
      have KC : Hid (∀ W i j u v, Below w2.heap.size w2 W → i < la.length → j < lb.length → ISc W0 u (la.getD i []) → ISc W0 v (lb.getD j []) → Calls Try.prog 110 #[u, v] W fun e w' => e = .returned (.int .i64 (cmpL (la.getD i []) (lb.getD j []))) ∧ ∃ q, w' = W.drewN q) := hid fun W i j u v hW hi hj hu hv =>
        l2Compare_calls W u v _ _ (hu.1.below (bt HB2.out hW)) (hv.1.below (bt HB2.out hW)) (HMa.out _ (by rw [List.getD_eq_getElem?_getD, List.getElem?_eq_getElem hi]; exact List.getElem_mem _)) (HMb.out _ (by rw [List.getD_eq_getElem?_getD, List.getElem?_eq_getElem hj]; exact List.getElem_mem _))
      have HM : Hid (∀ i j, i < la.length → j < lb.length → la.drop i = la.getD i [] :: la.drop (i + 1) ∧ lb.drop j = lb.getD j [] :: lb.drop (j + 1)) := hid fun i j hi hj => ⟨drop_cons hi, drop_cons hj⟩
      have HDa : Hid (∀ i, i < la.length → la.drop i = la.getD i [] :: la.drop (i + 1)) := hid fun i hi => drop_cons hi
      have HDb : Hid (∀ i, i < lb.length → lb.drop i = lb.getD i [] :: lb.drop (i + 1)) := hid fun i hi => drop_cons hi
      have HEa : Hid (∀ i, ¬ i < la.length → la.drop i = []) := hid fun i hi => drop_end hi
      have HEb : Hid (∀ i, ¬ i < lb.length → lb.drop i = []) := hid fun i hi => drop_end hi
      have HLm : Hid (∀ lo i j, lo ++ mrg (la.drop i) (lb.drop j) = mrg la lb → lo.length ≤ 200000) := hid fun lo i j h => by
        have := srt_len_mrg _ la lb (Nat.le_refl _)
        rw [← h, List.length_append] at this
        omega
      clear HRa2 HRb HMa HMb HM
      obtain ⟨na, hna⟩ : ∃ na, na = la.length := ⟨_, rfl⟩
      obtain ⟨nb, hnb⟩ : ∃ nb, nb = lb.length := ⟨_, rfl⟩
      rw [← hna] at HCa KC HDa HEa hla ⊢
      rw [← hnb] at HCb KC HDb HEb hlb ⊢
      clear hna hnb
      obtain ⟨iS, hj, hy0, hy1, hy2⟩ := info_parts Try.infoIS
      go_wp2_with fail
      go_loopw [5, 6, 7] (fun t5 t6 t7 wr => ∃ (i j : Nat) (vo : Value), i ≤ na ∧ j ≤ nb ∧ t6 = .int .i64 i ∧ t7 = .int .i64 j ∧ vo = t5 ∧ Hid (∃ uo lo, lo ++ mrg (la.drop i) (lb.drop j) = mrg la lb ∧ MS W0 w2 wr vo uo lo)) (fun _ t6 t7 _ => (na - (intOf t6).toNat) + (nb - (intOf t7).toNat))
      case atStart => exact ⟨0, 0, _, Nat.zero_le _, Nat.zero_le _, rfl, rfl, rfl, hid ⟨[], [], by simp, HS0.out⟩⟩
      case round =>
        clear HS0
        obtain ⟨i, j, vo, hi, hj', rfl, rfl, rfl, HT⟩ := hrel
        obtain ⟨uo, lo, hlo, hMS⟩ := HT.out
        have HLo := hid hlo
        have HMS := hid hMS
        have hlen := HLm.out lo i j hlo
        clear HT hlo hMS
        by_cases hin : i < na
        · have i1 : (i : Int) < (na : Int) := by omega
          have i3 : ¬ ((i : Int) = (na : Int)) := by omega
          have i7 : ((i : Int) == (na : Int)) = false := by simp; omega
          have i8 : ¬ (i = na) := by omega
          obtain ⟨b1, o1, u1, ea, c1, hu1⟩ := HCa.out wr HMS.out.bel i hin
          subst ea
          have HU1 := hid hu1
          obtain ⟨⟨a1, k1, rfl, -⟩, -⟩ := hu1
          by_cases hjn : j < nb
          · have i2 : (j : Int) < (nb : Int) := by omega
            have i4 : ¬ ((j : Int) = (nb : Int)) := by omega
            have i5 : ((j : Int) == (nb : Int)) = false := by simp; omega
            have i6 : ¬ (j = nb) := by omega
            obtain ⟨b2, o2, u2, ea, c2, hu2⟩ := HCb.out wr HMS.out.bel j hjn
            subst ea
            have HU2 := hid hu2
            obtain ⟨⟨a2, k2, rfl, -⟩, -⟩ := hu2
            have KCg : Hid (∀ W, Below w2.heap.size w2 W → Calls Try.prog 110 #[.slice a1 (la.getD i []).length k1, .slice a2 (lb.getD j []).length k2] W fun e w' => e = .returned (.int .i64 (cmpL (la.getD i []) (lb.getD j []))) ∧ ∃ q, w' = W.drewN q) := hid fun W hW => KC.out W i j _ _ hW hin hjn HU1.out HU2.out
            have HNa : Hid (cmpL (la.getD i []) (lb.getD j []) < 0 → lo ++ [la.getD i []] ++ mrg (la.drop (i + 1)) (lb.drop j) = mrg la lb) := hid fun hc => by
              have h := HLo.out
              rw [HDa.out i hin, HDb.out j hjn, mrg_lt hc, ← HDb.out j hjn] at h
              rw [List.append_assoc]
              exact h
            have HNb : Hid (0 < cmpL (la.getD i []) (lb.getD j []) → lo ++ [lb.getD j []] ++ mrg (la.drop i) (lb.drop (j + 1)) = mrg la lb) := hid fun hc => by
              have h := HLo.out
              rw [HDa.out i hin, HDb.out j hjn, mrg_gt hc, ← HDa.out i hin] at h
              rw [List.append_assoc]
              exact h
            have HNc : Hid (¬ cmpL (la.getD i []) (lb.getD j []) < 0 → ¬ 0 < cmpL (la.getD i []) (lb.getD j []) → lo ++ [la.getD i []] ++ mrg (la.drop (i + 1)) (lb.drop (j + 1)) = mrg la lb) := hid fun h1 h2 => by
              have h := HLo.out
              rw [HDa.out i hin, HDb.out j hjn, mrg_eq h1 h2] at h
              rw [List.append_assoc]
              exact h
            generalize cmpL (la.getD i []) (lb.getD j []) = cc at *
            generalize (la.getD i []).length = m1 at *
            generalize (lb.getD j []).length = m2 at *
            clear KC HLo
            have HQ1 : Hid (∀ q, Below w2.heap.size w2 (wr.drewN q)) := hid fun q => (HMS.out.drewN q).bel
            have HQ2 : Hid (∀ n q, Below w2.heap.size w2 ((wr.drewN n).drewN q)) := hid fun n q => ((HMS.out.drewN n).drewN q).bel
            by_cases h1 : cc < 0
            · have h1' : decide (cc < 0) = true := by simp [h1]
              go_upto_region 12 with fail
              go_quiet (first | (go_at_call 110; exact Calls.quiet_of (KCg.out _ (HQ1.out _))))
              have HMSd := hid (HMS.out.drewN nq)
              go_wp2_with (first | (at_builtin; refine wpList_append_lies _ rfl _ _ 23 rfl w2.heap.size 22 iS (.slice none 0 0) 1 24 Try.underlying23 hj hy0 hy1 hy2 rfl (by decide) vo _ uo rfl (HMSd.out.own.alloc _) ⟨_, 0, none⟩ 1 1 [.slice a1 m1 k1] rfl rfl (new1_cell _ _ _) (fun u hu => by simp at hu; subst hu; rfl) (by decide) (by unfold maxLen; omega) (by omega) (by have := HMSd.out.bel.size; simp at this ⊢; omega) _ rfl ?_; intro g3 cp3 w3 hown3 hgrow3 hat3 hlt3) | fail)
              go_roundw
              case rel => exact ⟨i + 1, j, _, by omega, by omega, by go_num, rfl, rfl, hid ⟨_, _, HNa.out h1, HMSd.out.push HU1.out hown3 hgrow3⟩⟩
              case measure => simp [intOf]; omega
            · have h1' : decide (cc < 0) = false := by simp; omega
              by_cases h2 : 0 < cc
              · have h2' : decide (0 < cc) = true := by simp [h2]
                go_upto_region 12 with fail
                go_quiet (first | (go_at_call 110; exact Calls.quiet_of (KCg.out _ (HQ1.out _))))
                go_upto_region 15 with fail
                have HMS1 := hid (HMS.out.drewN nq)
                have HQ3 : Hid (∀ q, Below w2.heap.size w2 ((wr.drewN nq).drewN q)) := hid fun q => HQ2.out nq q
                have d1 : (wr.drewN nq).cell? ⟨b1, o1 + i, none⟩ = some (.slice a1 m1 k1) := c1
                have d2 : (wr.drewN nq).cell? ⟨b2, o2 + j, none⟩ = some (.slice a2 m2 k2) := c2
                generalize wr.drewN nq = W5 at HMS1 HQ3 d1 d2 ⊢
                go_quiet (first | (go_at_call 110; exact Calls.quiet_of (KCg.out _ (HQ3.out _))))
                have HMSd := hid (HMS1.out.drewN nq)
                go_wp2_with (first | (at_builtin; refine wpList_append_lies _ rfl _ _ 23 rfl w2.heap.size 22 iS (.slice none 0 0) 1 24 Try.underlying23 hj hy0 hy1 hy2 rfl (by decide) vo _ uo rfl (HMSd.out.own.alloc _) ⟨_, 0, none⟩ 1 1 [.slice a2 m2 k2] rfl rfl (new1_cell _ _ _) (fun u hu => by simp at hu; subst hu; rfl) (by decide) (by unfold maxLen; omega) (by omega) (by have := HMSd.out.bel.size; simp at this ⊢; omega) _ rfl ?_; intro g3 cp3 w3 hown3 hgrow3 hat3 hlt3) | fail)
                go_roundw
                case rel => exact ⟨i, j + 1, _, by omega, by omega, rfl, by go_num, rfl, hid ⟨_, _, HNb.out h2, HMSd.out.push HU2.out hown3 hgrow3⟩⟩
                case measure => simp [intOf]; omega
              · have h2' : decide (0 < cc) = false := by simp; omega
                go_upto_region 12 with fail
                go_quiet (first | (go_at_call 110; exact Calls.quiet_of (KCg.out _ (HQ1.out _))))
                go_upto_region 15 with fail
                have HMS1 := hid (HMS.out.drewN nq)
                have HQ3 : Hid (∀ q, Below w2.heap.size w2 ((wr.drewN nq).drewN q)) := hid fun q => HQ2.out nq q
                have d1 : (wr.drewN nq).cell? ⟨b1, o1 + i, none⟩ = some (.slice a1 m1 k1) := c1
                have d2 : (wr.drewN nq).cell? ⟨b2, o2 + j, none⟩ = some (.slice a2 m2 k2) := c2
                generalize wr.drewN nq = W5 at HMS1 HQ3 d1 d2 ⊢
                go_quiet (first | (go_at_call 110; exact Calls.quiet_of (KCg.out _ (HQ3.out _))))
                have HMSd := hid (HMS1.out.drewN nq)
                go_wp2_with (first | (at_builtin; refine wpList_append_lies _ rfl _ _ 23 rfl w2.heap.size 22 iS (.slice none 0 0) 1 24 Try.underlying23 hj hy0 hy1 hy2 rfl (by decide) vo _ uo rfl (HMSd.out.own.alloc _) ⟨_, 0, none⟩ 1 1 [.slice a1 m1 k1] rfl rfl (new1_cell _ _ _) (fun u hu => by simp at hu; subst hu; rfl) (by decide) (by unfold maxLen; omega) (by omega) (by have := HMSd.out.bel.size; simp at this ⊢; omega) _ rfl ?_; intro g3 cp3 w3 hown3 hgrow3 hat3 hlt3) | fail)
                go_roundw
                case rel => exact ⟨i + 1, j + 1, _, by omega, by omega, by go_num, by go_num, rfl, hid ⟨_, _, HNc.out h1 h2, HMSd.out.push HU1.out hown3 hgrow3⟩⟩
                case measure => simp [intOf]; omega
          · obtain rfl : j = nb := by omega
            have HN : Hid (lo ++ [la.getD i []] ++ mrg (la.drop (i + 1)) (lb.drop j) = mrg la lb) := hid (by
              have h := HLo.out
              rw [HEb.out j hjn, mrg_nil_right, HDa.out i hin] at h
              rw [HEb.out j hjn, mrg_nil_right, List.append_assoc]
              exact h)
            generalize (la.getD i []).length = m1 at *
            go_upto_region 12 with fail
            go_quiet (fail)
            have HMSd := hid (HMS.out.drewN nq)
            go_wp2_with (first | (at_builtin; refine wpList_append_lies _ rfl _ _ 23 rfl w2.heap.size 22 iS (.slice none 0 0) 1 24 Try.underlying23 hj hy0 hy1 hy2 rfl (by decide) vo _ uo rfl (HMSd.out.own.alloc _) ⟨_, 0, none⟩ 1 1 [.slice a1 m1 k1] rfl rfl (new1_cell _ _ _) (fun u hu => by simp at hu; subst hu; rfl) (by decide) (by unfold maxLen; omega) (by omega) (by have := HMSd.out.bel.size; simp at this ⊢; omega) _ rfl ?_; intro g3 cp3 w3 hown3 hgrow3 hat3 hlt3) | fail)
            go_roundw
            case rel => exact ⟨i + 1, j, _, by omega, by omega, by go_num, rfl, rfl, hid ⟨_, _, HN.out, HMSd.out.push HU1.out hown3 hgrow3⟩⟩
            case measure => simp [intOf]; omega
        · obtain rfl : i = na := by omega
          have i1 : ¬ ((i : Int) < (i : Int)) := by omega
          by_cases hjn : j < nb
          · have i2 : (j : Int) < (nb : Int) := by omega
            have i4 : ¬ ((j : Int) = (nb : Int)) := by omega
            have i5 : ((j : Int) == (nb : Int)) = false := by simp; omega
            have i6 : ¬ (j = nb) := by omega
            obtain ⟨b2, o2, u2, ea, c2, hu2⟩ := HCb.out wr HMS.out.bel j hjn
            subst ea
            have HU2 := hid hu2
            obtain ⟨⟨a2, k2, rfl, -⟩, -⟩ := hu2
            have HN : Hid (lo ++ [lb.getD j []] ++ mrg (la.drop i) (lb.drop (j + 1)) = mrg la lb) := hid (by
              have h := HLo.out
              rw [HEa.out i hin, mrg_nil_left, HDb.out j hjn] at h
              rw [HEa.out i hin, mrg_nil_left, List.append_assoc]
              exact h)
            have i9 : decide ((i : Int) < (i : Int)) = false := by simp
            generalize (lb.getD j []).length = m2 at *
            go_upto_region 12 with fail
            go_quiet (fail)
            go_upto_region 15 with fail
            have HMS1 := hid (HMS.out.drewN nq)
            have d2 : (wr.drewN nq).cell? ⟨b2, o2 + j, none⟩ = some (.slice a2 m2 k2) := c2
            generalize wr.drewN nq = W5 at HMS1 d2 ⊢
            go_quiet (fail)
            have HMSd := hid (HMS1.out.drewN nq)
            go_wp2_with (first | (at_builtin; refine wpList_append_lies _ rfl _ _ 23 rfl w2.heap.size 22 iS (.slice none 0 0) 1 24 Try.underlying23 hj hy0 hy1 hy2 rfl (by decide) vo _ uo rfl (HMSd.out.own.alloc _) ⟨_, 0, none⟩ 1 1 [.slice a2 m2 k2] rfl rfl (new1_cell _ _ _) (fun u hu => by simp at hu; subst hu; rfl) (by decide) (by unfold maxLen; omega) (by omega) (by have := HMSd.out.bel.size; simp at this ⊢; omega) _ rfl ?_; intro g3 cp3 w3 hown3 hgrow3 hat3 hlt3) | fail)
            go_roundw
            case rel => exact ⟨i, j + 1, _, by omega, by omega, rfl, by go_num, rfl, hid ⟨_, _, HN.out, HMSd.out.push HU2.out hown3 hgrow3⟩⟩
            case measure => simp [intOf]; omega
          · obtain rfl : j = nb := by omega
            have i2 : ¬ ((j : Int) < (j : Int)) := by omega
            have HN : Hid (lo = mrg la lb) := hid (by
              have h := HLo.out
              rw [HEa.out i hin, HEb.out j hjn, mrg_nil_left, List.append_nil] at h
              exact h)
            have HRS := hid HMS.out.rs
            have HBf := hid (bt HBw.out HMS.out.bel)
            have HNw : Hid (∀ g, vo.ownBlock = some g → W.heap.size ≤ g) := hid fun g hg => Nat.le_trans HBw.out.size (HMS.out.own.lt g hg).1
            obtain ⟨⟨ao, co, rfl, -⟩, -, -⟩ := HMS.out.rs
            clear HMS HLo
            go_wp2_with fail
            go_ret
            refine ⟨_, rfl, ⟨uo, ?_⟩, Or.inr HNw.out, HBf.out⟩
            rw [← HN.out]
            exact HRS.out

end Go.Proofs.Ytpdloenmplafiaa
