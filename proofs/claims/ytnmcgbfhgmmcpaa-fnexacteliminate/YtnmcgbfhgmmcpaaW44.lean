import Derived.BigQuiet
import Derived.Deep.RegionWith
import Derived.Test.YtnmcgbfhgmmcpaaW43
/-
  spec: l1SetOK below whatever number, l4Pattern, l2Subset, l2Shared.
-/
namespace Go.Proofs.Ytnmcgbfhgmmcpaa
open Go.RowKit

def okAtK (k : Int) (l : List Int) (j : Nat) : Bool := decide (0 ≤ l.getD j 0) && decide (l.getD j 0 < k) && (decide (j = 0) || decide (l.getD (j - 1) 0 < l.getD j 0))
def setKB (k : Int) (l : List Int) : Bool := (List.range l.length).all (okAtK k l)

theorem setKB_true {k : Int} {l : List Int} (h : ∀ i, i < l.length → okAtK k l i = true) : setKB k l = true := range_all_true h
theorem setKB_false {k : Int} {l : List Int} {j : Nat} (hj : j < l.length) (h : okAtK k l j = false) : setKB k l = false := range_all_false hj h
theorem okAtK_cases (k : Int) (l : List Int) (j : Nat) :
    (l.getD j 0 < 0 ∧ okAtK k l j = false) ∨ (0 ≤ l.getD j 0 ∧ k ≤ l.getD j 0 ∧ okAtK k l j = false) ∨ (0 ≤ l.getD j 0 ∧ l.getD j 0 < k ∧ j = 0 ∧ okAtK k l j = true) ∨
    (0 ≤ l.getD j 0 ∧ l.getD j 0 < k ∧ 0 < j ∧ l.getD j 0 ≤ l.getD (j - 1) 0 ∧ okAtK k l j = false) ∨ (0 ≤ l.getD j 0 ∧ l.getD j 0 < k ∧ 0 < j ∧ l.getD (j - 1) 0 < l.getD j 0 ∧ okAtK k l j = true) := by
  unfold okAtK
  generalize l.getD j 0 = x
  generalize l.getD (j - 1) 0 = y
  by_cases h1 : x < 0
  · left; refine ⟨h1, ?_⟩; simp; omega
  · by_cases h2 : k ≤ x
    · right; left; refine ⟨by omega, h2, ?_⟩; simp; omega
    · by_cases h3 : j = 0
      · right; right; left; refine ⟨by omega, by omega, h3, ?_⟩; simp [h3]; omega
      · by_cases h4 : y < x
        · right; right; right; right; refine ⟨by omega, by omega, by omega, h4, ?_⟩; simp; omega
        · right; right; right; left; refine ⟨by omega, by omega, by omega, by omega, ?_⟩; simp; omega

theorem setKB_eq {k : Int} (hk : k ≤ 6) (l : List Int) : setKB k l = (setB l && lowB k l) := by
  cases hs : setB l
  · rw [Bool.false_and]
    refine Bool.eq_false_iff.2 fun h => ?_
    unfold setKB at h
    rw [List.all_eq_true] at h
    have : setB l = true := setB_true fun i hi => by
      have := h i (by simpa using hi)
      unfold okAtK at this
      unfold okAt
      simp only [Bool.and_eq_true, Bool.or_eq_true, decide_eq_true_eq] at this ⊢
      omega
    rw [this] at hs; cases hs
  rw [Bool.true_and]
  cases hl : lowB k l
  · refine Bool.eq_false_iff.2 fun h => ?_
    unfold lowB at hl
    rw [Bool.or_eq_false_iff, decide_eq_false_iff_not, decide_eq_false_iff_not] at hl
    unfold setKB at h
    rw [List.all_eq_true] at h
    have := h (l.length - 1) (by simp; omega)
    unfold okAtK at this
    simp only [Bool.and_eq_true, decide_eq_true_eq] at this
    exact hl.2 this.1.2
  · refine setKB_true fun i hi => ?_
    have h1 := setB_at hs hi
    have h2 := set_low hs hl (mem_getD hi)
    unfold okAtK
    simp only [Bool.and_eq_true, Bool.or_eq_true, decide_eq_true_eq]
    omega

set_option maxHeartbeats 2000000 in
theorem l1SetOKk_calls (w : World) (k : Int) (hk0 : 0 ≤ k) (hk6 : k ≤ 6) (v : Value) (l : List Int) (h : IS w v l) (hl : l.length ≤ 1099511627776) :
    Calls Try.prog 36 #[v, .int .i64 k] w fun e w' => e = .returned (.bool (setKB k l)) ∧ w' = w := by
  obtain ⟨a, cap, rfl, hc⟩ := h
  obtain ⟨n, hn⟩ : ∃ n, n = l.length := ⟨_, rfl⟩
  obtain ⟨res, hres⟩ : ∃ r, r = setKB k l := ⟨_, rfl⟩
  rw [← hres]
  have HR := hid hres
  rw [← hn] at hc hl ⊢
  have HC := hid hc
  have HN := hid hn
  clear hc hn hres
  go_enter Try.func36, Try.ntmps36
  go_wp2
  go_loop [9] (fun t => ∃ j : Nat, j ≤ n ∧ t = .int .i64 j ∧ Hid (∀ i, i < j → okAtK k l i = true)) (fun t => n - (intOf t).toNat)
  case atStart => exact ⟨0, Nat.zero_le _, rfl, hid (fun i hi => by omega)⟩
  case round =>
    obtain ⟨j, hj, rfl, hok⟩ := hrel
    by_cases hjn : j < n
    · have i1 : (j : Int) < (n : Int) := by omega
      rcases HC.out with h0 | ⟨b, o, rfl, hcell⟩
      · omega
      · have c1 : w.cell? ⟨b, o + j, none⟩ = some (.int .i64 (l.getD j 0)) := hcell j hjn
        have hcs := okAtK_cases k l j
        have fin : okAtK k l j = false → Hid (res = false) := fun e => HR.out.trans (setKB_false (by rw [← HN.out]; exact hjn) e)
        have nxt : okAtK k l j = true → Hid (∀ i, i < j + 1 → okAtK k l i = true) := fun e i hi => by
          by_cases e2 : i = j
          · rw [e2]; exact e
          · exact hok.out i (by omega)
        have c2 : 0 < j → w.cell? ⟨b, o + (j - 1), none⟩ = some (.int .i64 (l.getD (j - 1) 0)) := fun e => hcell (j - 1) (by omega)
        clear hcell hok
        generalize l.getD j 0 = x at *
        generalize l.getD (j - 1) 0 = y at *
        rcases hcs with ⟨h1, h2⟩ | ⟨h1, h2, h3⟩ | ⟨h1, h2, h3, h4⟩ | ⟨h1, h2, h3, h4, h5⟩ | ⟨h1, h2, h3, h4, h5⟩
        · have hf := fin h2
          clear c2 fin nxt h2
          go_wp2_with (first | (go_at_call 63; refine (between_no1 _ _ _ _ (by omega)).mono ?_; rintro e w' ⟨rfl, rfl⟩))
          go_ret
          exact ⟨ret_bool (by rw [hf.out]), rfl⟩
        · have hf := fin h3
          have d1 : decide (x < 0) = false := by simp; omega
          clear c2 fin nxt h3
          go_wp2_with (first | (go_at_call 63; refine (between_no2 _ _ _ _ (by omega) (by omega)).mono ?_; rintro e w' ⟨rfl, rfl⟩))
          go_ret
          exact ⟨ret_bool (by rw [hf.out]), rfl⟩
        · have hf := nxt h4
          have d1 : decide (x < 0) = false := by simp; omega
          have d2 : decide (k ≤ x) = false := by simp; omega
          subst h3
          have c1' : w.cell? ⟨b, o, none⟩ = some (.int .i64 x) := by simpa using c1
          clear c2 fin nxt h4
          go_wp2_with (first | (go_at_call 63; refine (between_yes _ _ _ _ (by omega) (by omega)).mono ?_; rintro e w' ⟨rfl, rfl⟩))
          go_round
          case rel => exact ⟨0 + 1, by omega, by go_num, hf⟩
          case measure => simp [intOf]; omega
        · have hf := fin h5
          have d1 : decide (x < 0) = false := by simp; omega
          have d2 : decide (k ≤ x) = false := by simp; omega
          have c3 := c2 h3
          have i3 : (0 : Int) < (j : Int) := by omega
          have i4 : ((j : Int) - 1).toNat = j - 1 := by omega
          clear c2 fin nxt h5
          go_wp2_with (first | (go_at_call 63; refine (between_yes _ _ _ _ (by omega) (by omega)).mono ?_; rintro e w' ⟨rfl, rfl⟩))
          go_ret
          exact ⟨ret_bool (by rw [hf.out]), rfl⟩
        · have hf := nxt h5
          have d1 : decide (x < 0) = false := by simp; omega
          have d2 : decide (k ≤ x) = false := by simp; omega
          have d3 : decide (x ≤ y) = false := by simp; omega
          have c3 := c2 h3
          have i3 : (0 : Int) < (j : Int) := by omega
          have i4 : ((j : Int) - 1).toNat = j - 1 := by omega
          clear c2 fin nxt h5
          go_wp2_with (first | (go_at_call 63; refine (between_yes _ _ _ _ (by omega) (by omega)).mono ?_; rintro e w' ⟨rfl, rfl⟩))
          go_round
          case rel => exact ⟨j + 1, by omega, by go_num, hf⟩
          case measure => simp [intOf]; omega
    · obtain rfl : j = n := by omega
      have hf : Hid (res = true) := HR.out.trans (setKB_true (fun i hi => hok.out i (by rw [HN.out]; exact hi)))
      have i1 : ¬ ((j : Int) < (j : Int)) := by omega
      clear hok
      go_wp2
      go_ret
      exact ⟨ret_bool (by rw [hf.out]), rfl⟩


set_option maxHeartbeats 2000000 in
theorem l2Subset_calls (w : World) (v v2 : Value) (l l2 : List Int) (h : IS w v l) (hl : l.length ≤ 1099511627776) (h2 : IS w v2 l2) (hl2 : l2.length ≤ 1099511627776) :
    Calls Try.prog 65 #[v, v2] w fun e w' => e = .returned (.bool (subB l l2)) ∧ w' = w := by
  obtain ⟨a, cap, rfl, hc⟩ := h
  have H2 := hid h2
  obtain ⟨a2, cap2, rfl, -⟩ := h2
  obtain ⟨res, hres⟩ : ∃ r, r = subB l l2 := ⟨_, rfl⟩
  rw [← hres]
  have HF : Hid (∀ j, j < l.length → decide (l.getD j 0 ∈ l2) = false → res = false) := hid fun j hj e => by
    rw [hres]; unfold subB
    exact all_getD_false (fun x => decide (x ∈ l2)) 0 l j hj e
  have HT : Hid ((∀ j, j < l.length → decide (l.getD j 0 ∈ l2) = true) → res = true) := hid fun h1 => by
    rw [hres]; unfold subB
    exact all_getD (fun x => decide (x ∈ l2)) 0 l h1
  obtain ⟨n, hn⟩ : ∃ n, n = l.length := ⟨_, rfl⟩
  rw [← hn] at hc hl HF HT ⊢
  have HC := hid hc
  clear hc hn hres
  go_enter Try.func65, Try.ntmps65
  go_wp2_with fail
  go_loop [9] (fun t => ∃ j : Nat, j ≤ n ∧ t = .int .i64 j ∧ Hid (∀ i, i < j → decide (l.getD i 0 ∈ l2) = true)) (fun t => n - (intOf t).toNat)
  case atStart => exact ⟨0, Nat.zero_le _, rfl, hid (fun i hi => by omega)⟩
  case round =>
    obtain ⟨j, hj, rfl, hok⟩ := hrel
    by_cases hjn : j < n
    · have i1 : (j : Int) < (n : Int) := by omega
      rcases HC.out with h0 | ⟨b, o, rfl, hcell⟩
      · omega
      · have c1 := hcell j hjn
        have HK := hid (l1Has_calls w _ l2 (l.getD j 0) H2.out hl2)
        have fin := HF.out j hjn
        have nxt : decide (l.getD j 0 ∈ l2) = true → Hid (∀ i, i < j + 1 → decide (l.getD i 0 ∈ l2) = true) := fun e i hi => by
          by_cases e2 : i = j
          · rw [e2]; exact e
          · exact hok.out i (by omega)
        clear hcell hok
        generalize decide (l.getD j 0 ∈ l2) = y at *
        generalize l.getD j 0 = x at *
        cases y
        · obtain rfl := fin rfl
          clear nxt
          go_wp2_with fail
          refine HK.out.mono ?_
          rintro e w1 ⟨rfl, hw1⟩
          subst w1
          go_wp2_with fail
          go_ret
          exact ⟨rfl, rfl⟩
        · have hf := nxt rfl
          clear fin nxt
          go_wp2_with fail
          refine HK.out.mono ?_
          rintro e w1 ⟨rfl, hw1⟩
          subst w1
          go_wp2_with fail
          go_round
          case rel => exact ⟨j + 1, by omega, by go_num, hf⟩
          case measure => simp [intOf]; omega
    · obtain rfl : j = n := by omega
      obtain rfl := HT.out hok.out
      have i1 : ¬ ((j : Int) < (j : Int)) := by omega
      clear hok
      go_wp2_with fail
      go_ret
      exact ⟨rfl, rfl⟩

theorem filter_take {l : List Int} {p : Int → Bool} {k : Nat} (hk : k < l.length) : (l.take (k + 1)).filter p = if p (l.getD k 0) then (l.take k).filter p ++ [l.getD k 0] else (l.take k).filter p := by
  rw [List.take_add_one, List.getElem?_eq_getElem hk, List.filter_append]
  have e : l.getD k 0 = l[k] := by rw [List.getD_eq_getElem?_getD, List.getElem?_eq_getElem hk]; rfl
  rw [e]
  simp only [Option.toList_some]
  by_cases h : p l[k] = true
  · rw [if_pos h, List.filter_cons_of_pos h]; rfl
  · rw [if_neg h, List.filter_cons_of_neg h]; simp

set_option maxHeartbeats 4000000 in
set_option maxRecDepth 1000000 in
theorem l2Shared_calls (w : World) (v v2 : Value) (l l2 : List Int) (h : IS w v l) (hl : l.length ≤ 1099511627776) (h2 : IS w v2 l2) (hl2 : l2.length ≤ 1099511627776) :
    Calls Try.prog 119 #[v, v2] w fun e w' => ∃ u, e = .returned u ∧ w'.ownsRow w.heap.size 3 1 u (partL l2 l).length ((partL l2 l).map (Value.int .i64)) ∧ Below w.heap.size w w' := by
  obtain ⟨i0, hi, hz0, hz1, hz2⟩ := info_parts Try.infoInt
  obtain ⟨a, cap, rfl, hc⟩ := h
  have H2 := hid h2
  obtain ⟨a2, cap2, rfl, -⟩ := h2
  obtain ⟨PL, hPL⟩ : ∃ PL : Nat → List Int, PL = fun k => (l.take k).filter fun x => decide (x ∈ l2) := ⟨_, rfl⟩
  have HS : Hid (∀ k, k < l.length → PL (k + 1) = if decide (l.getD k 0 ∈ l2) then PL k ++ [l.getD k 0] else PL k) := hid fun k hk => by rw [hPL]; exact filter_take hk
  have H0 : Hid (PL 0 = []) := hid (by rw [hPL]; rfl)
  have HE : Hid (PL l.length = partL l2 l) := hid (by rw [hPL]; simp [partL])
  have HLE : Hid (∀ k, (PL k).length ≤ k) := hid fun k => by
    rw [hPL]
    exact Nat.le_trans (List.length_filter_le _ _) (by simp; omega)
  rw [← HE.out]
  obtain ⟨n, hn⟩ : ∃ n, n = l.length := ⟨_, rfl⟩
  rw [← hn] at hc hl HS ⊢
  have HC := hid hc
  clear hc hn hPL HE
  go_enter Try.func119, Try.ntmps119
  go_wp2
  have b0 : Below w.heap.size w (w.alloc (.cells #[] 3)) := (Below.refl _ _).alloc (Nat.le_refl _) _
  have HB0 := hid b0
  clear b0
  go_loopw [5, 11] (fun v t wr => ∃ k : Nat, k ≤ n ∧ t = .int .i64 k ∧ wr.ownsRow w.heap.size 3 1 v (PL k).length ((PL k).map (Value.int .i64)) ∧ Below w.heap.size w wr) (fun _ t _ => n - (intOf t).toNat)
  case atStart => exact ⟨0, Nat.zero_le _, rfl, by rw [H0.out]; exact World.ownsRow_made w #[] 0 (Nat.le_refl _) (by decide) rfl, HB0.out⟩
  case round =>
    clear HB0
    obtain ⟨k, hk, rfl, hown, hnx⟩ := hrel
    have hple := HLE.out k
    have hns := hnx.size
    by_cases hkn : k < n
    · have i1 : (k : Int) < (n : Int) := by omega
      rcases HC.out with h0 | ⟨b, o, rfl, hcell⟩
      · omega
      · have c1 := bclp hnx (hcell k hkn)
        have HK := hid (l1Has_calls wr _ l2 (l.getD k 0) (H2.out.below hnx) hl2)
        have e1 := HS.out k hkn
        clear hcell
        generalize decide (l.getD k 0 ∈ l2) = y at *
        generalize l.getD k 0 = x at *
        cases y
        · rw [if_neg (by decide)] at e1
          have E1 := hid e1
          clear e1
          go_wp2_with fail
          refine HK.out.mono ?_
          rintro e w1 ⟨rfl, hw1⟩
          subst w1
          go_wp2_with fail
          go_roundw
          case rel => exact ⟨k + 1, by omega, by go_num, by rw [E1.out]; exact hown, hnx⟩
          case measure => simp [intOf]; omega
        · rw [if_pos rfl] at e1
          have E1 := hid e1
          clear e1
          go_wp2_with fail
          refine HK.out.mono ?_
          rintro e w1 ⟨rfl, hw1⟩
          subst w1
          go_wp2_with (first
            | (at_builtin; refine wpList_append_own _ rfl _ _ 23 rfl w.heap.size 3 i0 (.int .i64 0) 1 8 Try.underlying23 hi hz0 hz1 hz2 rfl (by decide) _ _ _ rfl (hown.alloc _) ⟨wr.heap.size, 0, none⟩ 1 1 [.int .i64 x] rfl rfl ?c1 ?c2 ?c3 ?c4 ?c5 ?_) | fail)
          case c1 =>
            intro j u hj
            match j, hj with
            | 0, hj => simp at hj; subst hj; simp [Addr.add]
          case c2 => intro u hu; simp at hu; subst hu; rfl
          case c3 => unfold maxLen; omega
          case c4 => omega
          case c5 => simp; omega
          intro v' w1 hown' hgrow _
          have hb := own_grow hns hown hnx hgrow
          have hown2 : w1.ownsRow w.heap.size 3 1 v' (PL (k + 1)).length ((PL (k + 1)).map (Value.int .i64)) := by
            rw [E1.out]; simpa using hown'
          clear hown' hgrow hown
          go_wp2
          go_roundw
          case rel => exact ⟨k + 1, by omega, by go_num, hown2, hb⟩
          case measure => simp [intOf]; omega
    · obtain rfl : k = n := by omega
      have i1 : ¬ ((k : Int) < (k : Int)) := by omega
      go_wp2
      go_ret
      exact ⟨_, rfl, hown, hnx⟩

end Go.Proofs.Ytnmcgbfhgmmcpaa

/-
  spec: l4Pattern, l4Together.
-/
namespace Go.Proofs.Ytnmcgbfhgmmcpaa
open Go.RowKit

theorem any_take {es : List (List Int)} {x : Int} {j : Nat} (hj : j < es.length) : inEs (es.take (j + 1)) x = (inEs (es.take j) x || decide (x ∈ es.getD j [])) := by
  unfold inEs
  rw [List.take_add_one, List.getElem?_eq_getElem hj, List.any_append, List.getD_eq_getElem?_getD, List.getElem?_eq_getElem hj]
  simp

theorem pat_alt {k : Int} {es : List (List Int)} : patB k es = (decide (0 ≤ k) && decide (k ≤ 6) && decide (es.length ≤ 7) && es.all (setKB k) && (List.range k.toNat).all fun v => inEs es (v : Int)) := by
  unfold patB edgesB
  by_cases h6 : k ≤ 6
  case neg => rw [decide_eq_false h6]; simp
  have : es.all (setKB k) = (es.all setB && es.all (lowB k)) := by
    rw [show setKB k = fun l => setB l && lowB k l from funext fun l => setKB_eq h6 l]
    induction es with
    | nil => rfl
    | cons e es ih =>
      simp only [List.all_cons, ih]
      cases setB e <;> cases lowB k e <;> simp
  rw [this]
  cases decide (0 ≤ k) <;> cases decide (k ≤ 6) <;> cases decide (es.length ≤ 7) <;> cases es.all setB <;> cases es.all (lowB k) <;> rfl

set_option maxHeartbeats 4000000 in
set_option maxRecDepth 1000000 in
theorem l4Pattern_calls (w : World) (ve : Value) (k : Int) (es : List (List Int)) (h : ISS w ve es) (hl : Short es) :
    Calls Try.prog 62 #[.int .i64 k, ve] w fun e w' => e = .returned (.bool (patB k es)) ∧ w' = w := by
  obtain ⟨a, cap, rfl, hc⟩ := h
  obtain ⟨hl1, hl2⟩ := hl
  obtain ⟨res, hres⟩ : ∃ r, r = patB k es := ⟨_, rfl⟩
  rw [← hres]
  rw [pat_alt] at hres
  have HR := hid hres
  have HC := hid hc
  have HL := hid hl2
  clear hc hl2 hres
  by_cases hk0 : 0 ≤ k
  case neg =>
    have hf : res = false := by rw [HR.out, decide_eq_false hk0]; simp
    subst hf
    generalize es.length = n at *
    go_enter Try.func62, Try.ntmps62
    go_wp2_with fail
    refine (between_no1 _ _ _ _ (by omega)).mono ?_
    rintro e w1 ⟨rfl, hw1⟩
    subst w1
    go_wp2_with fail
    go_ret
    exact ⟨rfl, rfl⟩
  by_cases hk6 : k ≤ 6
  case neg =>
    have hf : res = false := by rw [HR.out, decide_eq_false hk6]; simp
    subst hf
    generalize es.length = n at *
    go_enter Try.func62, Try.ntmps62
    go_wp2_with fail
    refine (between_no2 _ _ _ _ (by omega) (by omega)).mono ?_
    rintro e w1 ⟨rfl, hw1⟩
    subst w1
    go_wp2_with fail
    go_ret
    exact ⟨rfl, rfl⟩
  by_cases h7 : es.length ≤ 7
  case neg =>
    have hf : res = false := by rw [HR.out, decide_eq_false h7]; simp
    subst hf
    have i1 : (7 : Int) < (es.length : Int) := by omega
    generalize es.length = n at *
    go_enter Try.func62, Try.ntmps62
    go_wp2_with fail
    refine (between_yes _ _ _ _ (by omega) (by omega)).mono ?_
    rintro e w1 ⟨rfl, hw1⟩
    subst w1
    go_wp2_with fail
    go_ret
    exact ⟨rfl, rfl⟩
  rw [decide_eq_true hk0, decide_eq_true hk6, decide_eq_true h7] at HR
  simp only [Bool.true_and] at HR
  have HF1 : Hid (∀ j, j < es.length → setKB k (es.getD j []) = false → res = false) := hid fun j hj e => by
    rw [HR.out, all_getD_false (setKB k) [] es j hj e]; simp
  have HF2 : Hid (∀ v, v < k.toNat → inEs es (v : Int) = false → res = false) := hid fun v hv e => by
    rw [HR.out, range_all_false hv e]; simp
  have HT : Hid ((∀ j, j < es.length → setKB k (es.getD j []) = true) → (∀ v, v < k.toNat → inEs es (v : Int) = true) → res = true) := hid fun h1 h2 => by
    rw [HR.out, all_getD (setKB k) [] es h1, range_all_true h2]; rfl
  have HA : Hid (∀ x j, j < es.length → inEs (es.take (j + 1)) x = (inEs (es.take j) x || decide (x ∈ es.getD j []))) := hid fun x j hj => any_take hj
  have HA0 : Hid (∀ x, inEs (es.take 0) x = false) := hid fun x => rfl
  have HAN : Hid (∀ x, inEs (es.take es.length) x = inEs es x) := hid fun x => by simp
  clear HR
  have d7 : ¬ ((7 : Int) < (es.length : Int)) := by omega
  obtain ⟨n, hn⟩ : ∃ n, n = es.length := ⟨_, rfl⟩
  rw [← hn] at HF1 HT hl1 HC HA HAN d7 ⊢
  clear hn h7
  go_enter Try.func62, Try.ntmps62
  go_wp2_with fail
  refine (between_yes _ _ _ _ (by omega) (by omega)).mono ?_
  rintro e w1 ⟨rfl, hw1⟩
  subst w1
  go_wp2_with fail
  go_loop [21] (fun t => ∃ j : Nat, j ≤ n ∧ t = .int .i64 j ∧ Hid (∀ i, i < j → setKB k (es.getD i []) = true)) (fun t => n - (intOf t).toNat)
  case atStart => exact ⟨0, Nat.zero_le _, rfl, hid (fun i hi => by omega)⟩
  case round =>
    obtain ⟨j, hj, rfl, hok⟩ := hrel
    by_cases hjn : j < n
    · have i1 : (j : Int) < (n : Int) := by omega
      rcases HC.out with h0 | ⟨b, o, rfl, hcell⟩
      · omega
      · obtain ⟨u, c1, hu⟩ := hcell j hjn
        have HK := hid (l1SetOKk_calls w k hk0 hk6 u (es.getD j []) hu (HL.out j))
        obtain ⟨a1, cap1, rfl, -⟩ := hu
        have fin := HF1.out j hjn
        have nxt : setKB k (es.getD j []) = true → Hid (∀ i, i < j + 1 → setKB k (es.getD i []) = true) := fun e i hi => by
          by_cases e2 : i = j
          · rw [e2]; exact e
          · exact hok.out i (by omega)
        clear hcell hok
        generalize (es.getD j []).length = m at *
        generalize setKB k (es.getD j []) = y at *
        cases y
        · obtain rfl := fin rfl
          clear nxt
          go_wp2_with fail
          refine HK.out.mono ?_
          rintro e w1 ⟨rfl, hw1⟩
          subst w1
          go_wp2_with fail
          go_ret
          exact ⟨rfl, rfl⟩
        · have hf := nxt rfl
          clear fin nxt
          go_wp2_with fail
          refine HK.out.mono ?_
          rintro e w1 ⟨rfl, hw1⟩
          subst w1
          go_wp2_with fail
          go_round
          case rel => exact ⟨j + 1, by omega, by go_num, hf⟩
          case measure => simp [intOf]; omega
    · obtain rfl : j = n := by omega
      have HT2 : Hid ((∀ v, v < k.toNat → inEs es (v : Int) = true) → res = true) := hid (HT.out hok.out)
      have i1 : ¬ ((j : Int) < (j : Int)) := by omega
      clear hok HT HF1
      obtain ⟨q, hq⟩ : ∃ q : Nat, q = k.toNat := ⟨_, rfl⟩
      obtain rfl : k = (q : Int) := by omega
      rw [← hq] at HT2 HF2
      clear hq hk0
      have hq6 : q ≤ 6 := by omega
      clear hk6
      go_wp2_with fail
      go_loop [7] (fun t => ∃ v : Nat, v ≤ q ∧ t = .int .i64 v ∧ Hid (∀ i : Nat, i < v → inEs es (i : Int) = true)) (fun t => q - (intOf t).toNat)
      case atStart => exact ⟨0, Nat.zero_le _, rfl, hid (fun i hi => by omega)⟩
      case round =>
        obtain ⟨v, hv, rfl, hok⟩ := hrel
        by_cases hvq : v < q
        · have i2 : (v : Int) < (q : Int) := by omega
          have fin := HF2.out v hvq
          have nxt : inEs es (v : Int) = true → Hid (∀ i : Nat, i < v + 1 → inEs es (i : Int) = true) := fun e i hi => by
            by_cases e2 : i = v
            · rw [e2]; exact e
            · exact hok.out i (by omega)
          have HAv := hid (HA.out (v : Int))
          have HA0v := hid (HA0.out (v : Int))
          have hANv := HAN.out (v : Int)
          rw [← hANv] at fin nxt
          have FIN := hid fin
          have NXT := hid nxt
          clear hok fin nxt hANv
          go_wp2_with fail
          go_loop [8, 37] (fun s t => ∃ i : Nat, i ≤ j ∧ t = .int .i64 i ∧ s = .bool (inEs (es.take i) (v : Int))) (fun _ t => j - (intOf t).toNat)
          case atStart => exact ⟨0, Nat.zero_le _, rfl, by rw [HA0v.out]⟩
          case round =>
            obtain ⟨i, hi, rfl, rfl⟩ := hrel
            by_cases hin : i < j
            · have i3 : (i : Int) < (j : Int) := by omega
              rcases HC.out with h0 | ⟨b, o, rfl, hcell⟩
              · omega
              · obtain ⟨u, c1, hu⟩ := hcell i hin
                have HK := hid (l1Has_calls w u (es.getD i []) (v : Int) hu (HL.out i))
                obtain ⟨a1, cap1, rfl, -⟩ := hu
                have hs := HAv.out i hin
                clear hcell
                generalize (es.getD i []).length = m at *
                generalize decide ((v : Int) ∈ es.getD i []) = f at *
                generalize inEs (es.take i) (v : Int) = s at *
                cases s
                · go_wp2_with fail
                  refine HK.out.mono ?_
                  rintro e w1 ⟨rfl, hw1⟩
                  subst w1
                  go_wp2_with fail
                  go_round
                  case rel => exact ⟨i + 1, by omega, by go_num, by rw [hs]; rfl⟩
                  case measure => simp [intOf]; omega
                · go_wp2_with fail
                  go_round
                  case rel => exact ⟨i + 1, by omega, by go_num, by rw [hs]; rfl⟩
                  case measure => simp [intOf]; omega
            · obtain rfl : i = j := by omega
              have i3 : ¬ ((i : Int) < (i : Int)) := by omega
              have fin := FIN.out
              have nxt := NXT.out
              clear FIN NXT
              generalize inEs (es.take i) (v : Int) = s at *
              cases s
              · obtain rfl := fin rfl
                clear nxt
                go_wp2_with fail
                go_ret
                exact ⟨rfl, rfl⟩
              · have hf := nxt rfl
                clear fin nxt
                go_wp2_with fail
                go_round
                case rel => exact ⟨v + 1, by omega, by go_num, hf⟩
                case measure => simp [intOf]; omega
        · obtain rfl : v = q := by omega
          obtain rfl := HT2.out hok.out
          have i2 : ¬ ((v : Int) < (v : Int)) := by omega
          clear hok
          go_wp2_with fail
          go_ret
          exact ⟨rfl, rfl⟩

set_option maxHeartbeats 4000000 in
set_option maxRecDepth 1000000 in
theorem l4Together_calls (w : World) (vb vp vh vw : Value) (x n d : Int) (bs : List (List Int)) (ps : List Int) (hb : ISS w vb bs) (hl : Short bs) (hl12 : bs.length ≤ 12) (hp : IS w vp ps) (hok : ParOk ps bs.length) :
    Calls Try.prog 64 #[.agg #[vb, vp, vh, vw, .int .i64 n, .int .i64 d], .int .i64 x] w fun e w' => e = .returned (.bool (decide (topsN x bs ps bs.length = 1))) ∧ Below w.heap.size w w' := by
  have HB0 : Hid (Below w.heap.size w (w.alloc (.cells #[vb, vp, vh, vw, .int .i64 n, .int .i64 d] 53))) := hid ((Below.refl _ _).alloc (Nat.le_refl _) _)
  have c0 : (w.alloc (.cells #[vb, vp, vh, vw, .int .i64 n, .int .i64 d] 53)).cell? ⟨w.heap.size, 0, none⟩ = some vb := by rw [World.cell?_alloc_at _ _ _ _ rfl]; rfl
  have c1 : (w.alloc (.cells #[vb, vp, vh, vw, .int .i64 n, .int .i64 d] 53)).cell? ⟨w.heap.size, 1, none⟩ = some vp := by rw [World.cell?_alloc_at _ _ _ _ rfl]; rfl
  obtain ⟨W, hW⟩ : ∃ W, W = w.alloc (.cells #[vb, vp, vh, vw, .int .i64 n, .int .i64 d] 53) := ⟨_, rfl⟩
  rw [← hW] at HB0 c0 c1
  obtain ⟨hpl, hpo⟩ := hok
  have HP0 := hp.below HB0.out
  have HBS := hb.below HB0.out
  clear hb hp
  obtain ⟨a, cap, rfl, hc⟩ := HBS
  obtain ⟨a2, cap2, rfl, hc2⟩ := HP0
  rw [hpl] at hc2 c1
  obtain ⟨hl1, hl2⟩ := hl
  have HC := hid hc
  have HC2 := hid hc2
  have HL := hid hl2
  have HPO := hid hpo
  have HT : Hid (∀ i, topsN x bs ps (i + 1) = topsN x bs ps i + if topAt x bs ps i then 1 else 0) := hid fun i => rfl
  have HTL := hid (topsN_le x bs ps)
  have HTA : Hid (∀ i, topAt x bs ps i = (decide (x ∈ bs.getD i []) && !(decide (0 ≤ ps.getD i 0) && decide (x ∈ bs.getD (ps.getD i 0).toNat [])))) := hid fun i => rfl
  have HT0 : Hid (topsN x bs ps 0 = 0) := hid rfl
  obtain ⟨m, hm⟩ : ∃ m, m = bs.length := ⟨_, rfl⟩
  have hpl2 : ps.length = m := by omega
  rw [← hm] at HC HC2 HPO hl1 hl12 c0 c1 hW ⊢
  rw [hpl2] at hW ⊢
  clear hc hc2 hl2 hpo hpl hm hpl2
  generalize topsN x bs ps = TN at *
  go_enter Try.func64, Try.ntmps64
  go_upto_region 1 with fail
  rw [← hW]
  clear hW
  go_wp2_with fail
  go_loopw [5, 11] (fun s t wr => ∃ j : Nat, j ≤ m ∧ t = .int .i64 j ∧ s = .int .i64 (TN j) ∧ Below W.heap.size W wr) (fun _ t _ => m - (intOf t).toNat)
  case atStart => exact ⟨0, Nat.zero_le _, rfl, by rw [HT0.out]; rfl, Below.refl _ _⟩
  case round =>
    obtain ⟨j, hj, rfl, rfl, hnx⟩ := hrel
    by_cases hjn : j < m
    · have i1 : (j : Int) < (m : Int) := by omega
      rcases HC.out with h0 | ⟨b, o, rfl, hcell⟩
      · omega
      rcases HC2.out with h0 | ⟨b2, o2, rfl, hcell2⟩
      · omega
      have HCE := hid hcell
      obtain ⟨u, e1', hu⟩ := hcell j hjn
      have e1 := bclp hnx e1'
      have e2 := bclp hnx (hcell2 j hjn)
      have y0 := bclp hnx c0
      have y1 := bclp hnx c1
      have HK1 : Hid (∀ W', Below wr.heap.size wr W' → _) := hid fun W' hb => l1Has_calls W' u (bs.getD j []) x (hu.below (bt hnx hb)) (HL.out j)
      obtain ⟨a3, cap3, rfl, -⟩ := hu
      have hpo := HPO.out j hjn
      have hta := HTA.out j
      have htt := HT.out j
      have htl := HTL.out j
      have hbr : Below wr.heap.size wr wr := Below.refl _ _
      clear hcell hcell2 e1'
      generalize (bs.getD j []).length = lj at *
      generalize decide (x ∈ bs.getD j []) = f1 at *
      generalize ps.getD j 0 = y at *
      generalize topAt x bs ps j = tp at *
      cases f1
      · rw [Bool.false_and] at hta
        subst hta
        go_wp2_with fail
        go_quiet (first | (go_at_call_of 37 (Value.slice a3 lj cap3); exact Calls.quiet_of_same (HK1.out _ (below_drewN hbr _))) | (go_at_call_of 37 (Value.slice a3 lj cap3); exact Calls.quiet_of_same (HK1.out _ hbr)))
        go_wp2_with fail
        go_roundw
        case rel => exact ⟨j + 1, by omega, by go_num, by rw [htt]; simp, below_drewN hnx _⟩
        case measure => simp [intOf]; omega
      rw [Bool.true_and] at hta
      rcases hpo with rfl | ⟨hy0, hym⟩
      · rw [show (decide ((0 : Int) ≤ -1)) = false by decide, Bool.false_and, Bool.not_false] at hta
        subst hta
        go_wp2_with fail
        go_quiet (first | (go_at_call_of 37 (Value.slice a3 lj cap3); exact Calls.quiet_of_same (HK1.out _ (below_drewN hbr _))) | (go_at_call_of 37 (Value.slice a3 lj cap3); exact Calls.quiet_of_same (HK1.out _ hbr)))
        go_wp2_with fail
        go_roundw
        case rel => exact ⟨j + 1, by omega, by go_num, by rw [htt]; simp, below_drewN hnx _⟩
        case measure => simp [intOf]; omega
      · obtain ⟨z, rfl⟩ : ∃ z : Nat, y = (z : Int) := ⟨y.toNat, by omega⟩
        have hzm : z < m := by omega
        obtain ⟨u2, e3', hu2⟩ := HCE.out z hzm
        have e3 := bclp hnx e3'
        rw [show ((z : Int)).toNat = z by omega] at hta
        have HK2 : Hid (∀ W', Below wr.heap.size wr W' → _) := hid fun W' hb => l1Has_calls W' u2 (bs.getD z []) x (hu2.below (bt hnx hb)) (HL.out z)
        obtain ⟨a4, cap4, rfl, -⟩ := hu2
        clear e3'
        generalize (bs.getD z []).length = lz at *
        generalize decide (x ∈ bs.getD z []) = f2 at *
        rw [decide_eq_true hy0, Bool.true_and] at hta
        have hd : decide ((z : Int) < 0) = false := by simp
        have hzi : (z : Int) < (m : Int) := by omega
        cases f2
        · subst hta
          go_wp2_with fail
          go_quiet (first | (go_at_call_of 37 (Value.slice a3 lj cap3); exact Calls.quiet_of_same (HK1.out _ (below_drewN hbr _))) | (go_at_call_of 37 (Value.slice a3 lj cap3); exact Calls.quiet_of_same (HK1.out _ hbr)) | (go_at_call_of 37 (Value.slice a4 lz cap4); exact Calls.quiet_of_same (HK2.out _ (below_drewN hbr _))) | (go_at_call_of 37 (Value.slice a4 lz cap4); exact Calls.quiet_of_same (HK2.out _ hbr)))
          go_wp2_with fail
          go_roundw
          case rel => exact ⟨j + 1, by omega, by go_num, by rw [htt]; simp, below_drewN hnx _⟩
          case measure => simp [intOf]; omega
        · subst hta
          go_wp2_with fail
          go_quiet (first | (go_at_call_of 37 (Value.slice a3 lj cap3); exact Calls.quiet_of_same (HK1.out _ (below_drewN hbr _))) | (go_at_call_of 37 (Value.slice a3 lj cap3); exact Calls.quiet_of_same (HK1.out _ hbr)) | (go_at_call_of 37 (Value.slice a4 lz cap4); exact Calls.quiet_of_same (HK2.out _ (below_drewN hbr _))) | (go_at_call_of 37 (Value.slice a4 lz cap4); exact Calls.quiet_of_same (HK2.out _ hbr)))
          go_wp2_with fail
          go_roundw
          case rel => exact ⟨j + 1, by omega, by go_num, by rw [htt]; simp, below_drewN hnx _⟩
          case measure => simp [intOf]; omega
    · obtain rfl : j = m := by omega
      have i1 : ¬ ((j : Int) < (j : Int)) := by omega
      have htl := HTL.out j
      go_wp2_with fail
      go_ret
      refine ⟨ret_bool ?_, bt HB0.out hnx⟩
      by_cases ht : TN j = 1
      · rw [ht]; rfl
      · rw [decide_eq_false ht]; simp; omega

end Go.Proofs.Ytnmcgbfhgmmcpaa
