import Derived.Deep.LoopGhost
import Derived.Test.YtpdloenmplafiaaV32
import Derived.Test.YtpdloenmplafiaaV40
/-
  spec.l2Shared: a slice that is never nil.
-/
namespace Go.Proofs.Ytpdloenmplafiaa
open Go.RowKit

theorem filter_take2 {l : List Int} {p : Int → Bool} {k : Nat} (hk : k < l.length) : (l.take (k + 1)).filter p = if p (l.getD k 0) then (l.take k).filter p ++ [l.getD k 0] else (l.take k).filter p := by
  rw [List.take_add_one, List.getElem?_eq_getElem hk, List.filter_append]
  have e : l.getD k 0 = l[k] := by rw [List.getD_eq_getElem?_getD, List.getElem?_eq_getElem hk]; rfl
  rw [e]
  simp only [Option.toList_some]
  by_cases h : p l[k] = true
  · rw [if_pos h, List.filter_cons_of_pos h]; rfl
  · rw [if_neg h, List.filter_cons_of_neg h]; simp

set_option maxHeartbeats 4000000 in
set_option maxRecDepth 1000000 in
theorem shared_calls (w : World) (v v2 : Value) (l l2 : List Int) (h : IS w v l) (hl : l.length ≤ 1099511627776) (h2 : IS w v2 l2) (hl2 : l2.length ≤ 1099511627776) :
    Calls Try.prog 77 #[v, v2] w fun e w' => ∃ g cap, e = .returned (.slice (some ⟨g, 0, none⟩) (shr l l2).length cap) ∧ w'.ownsRow w.heap.size 3 1 (.slice (some ⟨g, 0, none⟩) (shr l l2).length cap) (shr l l2).length ((shr l l2).map (Value.int .i64)) ∧ Below w.heap.size w w' := by
  obtain ⟨i0, hi, hz0, hz1, hz2⟩ := info_parts Try.infoInt
  obtain ⟨a, cap, rfl, hc⟩ := h
  have H2 := hid h2
  obtain ⟨a2, cap2, rfl, -⟩ := h2
  obtain ⟨PL, hPL⟩ : ∃ PL : Nat → List Int, PL = fun k => (l.take k).filter fun x => decide (x ∈ l2) := ⟨_, rfl⟩
  have HS : Hid (∀ k, k < l.length → PL (k + 1) = if decide (l.getD k 0 ∈ l2) then PL k ++ [l.getD k 0] else PL k) := hid fun k hk => by rw [hPL]; exact filter_take2 hk
  have H0 : Hid (PL 0 = []) := hid (by rw [hPL]; rfl)
  have HE : Hid (PL l.length = shr l l2) := hid (by rw [hPL]; simp [shr])
  have HLE : Hid (∀ k, (PL k).length ≤ k) := hid fun k => by
    rw [hPL]
    exact Nat.le_trans (List.length_filter_le _ _) (by simp; omega)
  rw [← HE.out]
  obtain ⟨n, hn⟩ : ∃ n, n = l.length := ⟨_, rfl⟩
  rw [← hn] at hc hl HS ⊢
  have HC := hid hc
  clear hc hn hPL HE
  go_enter Try.func77, Try.ntmps77
  go_wp2
  have b0 : Below w.heap.size w (w.alloc (.cells #[] 3)) := (Below.refl _ _).alloc (Nat.le_refl _) _
  have HB0 := hid b0
  clear b0
  go_loopw [5, 11] (fun v t wr => ∃ k g cp lk : Nat, k ≤ n ∧ t = .int .i64 k ∧ v = .slice (some ⟨g, 0, none⟩) lk cp ∧ lk ≤ k ∧ Hid (lk = (PL k).length ∧ wr.ownsRow w.heap.size 3 1 (.slice (some ⟨g, 0, none⟩) lk cp) lk ((PL k).map (Value.int .i64)) ∧ Below w.heap.size w wr)) (fun _ t _ => n - (intOf t).toNat)
  case atStart => exact ⟨0, w.heap.size, 0, 0, Nat.zero_le _, rfl, rfl, Nat.le_refl _, hid (by rw [H0.out]; exact ⟨rfl, World.ownsRow_made w #[] 0 (Nat.le_refl _) (by decide) rfl, HB0.out⟩)⟩
  case round =>
    clear HB0
    obtain ⟨k, g, cp, lk, hk, rfl, rfl, hlk, HT⟩ := hrel
    have hns := HT.out.2.2.size
    by_cases hkn : k < n
    · have i1 : (k : Int) < (n : Int) := by omega
      rcases HC.out with h0 | ⟨b, o, rfl, hcell⟩
      · omega
      · have c1 : wr.cell? ⟨b, o + k, none⟩ = some (.int .i64 (l.getD k 0)) := (HT.out.2.2.cell (World.block_lt_of_cell? w _ (hcell k hkn))).trans (hcell k hkn)
        have HK := hid (l1Has_calls wr _ l2 (l.getD k 0) (H2.out.below HT.out.2.2) hl2)
        have e1 := HS.out k hkn
        clear hcell
        generalize decide (l.getD k 0 ∈ l2) = y at *
        generalize l.getD k 0 = x at *
        cases y
        · rw [if_neg (by decide)] at e1
          have HF : Hid (lk = (PL (k + 1)).length ∧ wr.ownsRow w.heap.size 3 1 (.slice (some ⟨g, 0, none⟩) lk cp) lk ((PL (k + 1)).map (Value.int .i64)) ∧ Below w.heap.size w wr) := hid (by rw [e1]; exact HT.out)
          clear e1 HT
          go_wp2_with fail
          refine HK.out.mono ?_
          rintro e w1 ⟨rfl, hw1⟩
          subst w1
          go_wp2_with fail
          go_roundw
          case rel => exact ⟨k + 1, g, cp, lk, by omega, by go_num, rfl, by omega, HF⟩
          case measure => simp [intOf]; omega
        · rw [if_pos rfl] at e1
          have E1 := hid e1
          clear e1
          go_wp2_with fail
          refine HK.out.mono ?_
          rintro e w1 ⟨rfl, hw1⟩
          subst w1
          go_wp2_with (first
            | (at_builtin; refine wpList_append_lies _ rfl _ _ 22 rfl w.heap.size 3 i0 (.int .i64 0) 1 8 Try.underlying22 hi hz0 hz1 hz2 rfl (by decide) (.slice (some ⟨g, 0, none⟩) lk cp) _ _ rfl (HT.out.2.1.alloc _) ⟨_, 0, none⟩ 1 1 [.int .i64 x] rfl rfl (new1_cell _ _ _) (fun u hu => by simp at hu; subst hu; rfl) (by decide) (by unfold maxLen; omega) (by omega) (by simp; omega) _ rfl ?_; intro g3 cp3 w3 hown3 hgrow3 hat3 hlt3) | fail)
          have HF : Hid (lk + 1 = (PL (k + 1)).length ∧ w3.ownsRow w.heap.size 3 1 (.slice (some ⟨g3, 0, none⟩) (lk + 1) cp3) (lk + 1) ((PL (k + 1)).map (Value.int .i64)) ∧ Below w.heap.size w w3) := hid (by
            rw [E1.out, List.length_append, List.length_singleton, List.map_append]
            exact ⟨by rw [HT.out.1], hown3, (HT.out.2.2.alloc hns _).grown hgrow3 (by simp; omega) (fun q hq => (HT.out.2.1.lt q hq).1)⟩)
          clear hown3 hgrow3 hat3 hlt3 HT
          go_roundw
          case rel => exact ⟨k + 1, g3, cp3, lk + 1, by omega, by go_num, rfl, by omega, HF⟩
          case measure => simp [intOf]; omega
    · obtain rfl : k = n := by omega
      have i1 : ¬ ((k : Int) < (k : Int)) := by omega
      obtain ⟨h1, h3, h4⟩ := HT.out
      have HF : Hid (wr.ownsRow w.heap.size 3 1 (.slice (some ⟨g, 0, none⟩) (PL k).length cp) (PL k).length ((PL k).map (Value.int .i64)) ∧ Below w.heap.size w wr) := hid (by rw [← h1]; exact ⟨h3, h4⟩)
      have H1 := hid h1
      clear h1 h3 h4 HT
      go_wp2_with fail
      go_ret
      exact ⟨g, cp, by rw [H1.out]; rfl, HF.out.1, HF.out.2⟩

end Go.Proofs.Ytpdloenmplafiaa

/-
  spec: l2Seek, l2Begins.
-/
namespace Go.Proofs.Ytpdloenmplafiaa
open Go.RowKit

theorem is_take {w : World} {ad : Addr} {n c m : Nat} {l : List Int} (h : IS w (.slice (some ad) n c) l) (hm : m ≤ l.length) : IS w (.slice (some ad) m c) (l.take m) := by
  obtain ⟨a, c', e, h1⟩ := h
  simp only [Value.slice.injEq] at e
  obtain ⟨rfl, -, rfl⟩ := e
  have hl : (l.take m).length = m := by rw [List.length_take]; omega
  refine ⟨_, c, by rw [hl], ?_⟩
  rcases h1 with h1 | ⟨b, o, e, h1⟩
  · exact Or.inl (by omega)
  · exact Or.inr ⟨b, o, e, fun j hj => by rw [getD_take (by omega)]; exact h1 j (by omega)⟩

set_option maxHeartbeats 4000000 in
set_option maxRecDepth 1000000 in
theorem l2Seek_calls (w : World) (vr vq : Value) (rows : List (List Int)) (q : List Int) (h : ISSc w vr rows) (hq : IS w vq q) (hS : SL rows) (hn : rows.length ≤ 1099511627776) (hl : ∀ r ∈ rows, q.length ≤ r.length ∧ r.length ≤ 1099511627776) :
    Calls Try.prog 122 #[vr, vq] w fun e w' => ∃ k : Nat, e = .returned (.int .i64 k) ∧ Sk rows q k ∧ ∃ d, w' = w.drewN d := by
  obtain ⟨ar, cr, rfl, hc⟩ := h
  have HC : Hid (∀ j, j < rows.length → ∃ (b o : Nat) (au : Option Addr) (lr cu : Nat), ar = some ⟨b, o, none⟩ ∧ w.cell? ⟨b, o + j, none⟩ = some (.slice au lr cu) ∧ q.length ≤ lr ∧ lr ≤ cu ∧ (au = none → lr = 0) ∧ ∀ d ad, au = some ad → Calls Try.prog 110 #[.slice (some ad) q.length cu, vq] (w.drewN d) fun e w' => e = .returned (.int .i64 (cmpL ((rows.getD j []).take q.length) q)) ∧ ∃ q', w' = (w.drewN d).drewN q') := hid fun j hj => by
    rcases hc with h0 | ⟨b, o, rfl, h⟩
    · omega
    · obtain ⟨u, h1, hI, a', n', c', e, hcap⟩ := h j hj
      have hm := hl _ (by rw [List.getD_eq_getElem?_getD, List.getElem?_eq_getElem hj]; exact List.getElem_mem _ : rows.getD j [] ∈ rows)
      have hI' := hI
      obtain ⟨au, cu, eu, h2⟩ := hI
      subst eu
      simp only [Value.slice.injEq] at e
      obtain ⟨-, rfl, rfl⟩ := e
      refine ⟨b, o, au, _, cu, rfl, h1, hm.1, hcap, fun e => ?_, fun d ad e => ?_⟩
      · rcases h2 with h2 | ⟨b2, o2, e2, -⟩
        · exact h2
        · rw [e] at e2; cases e2
      · subst e
        have h3 := is_take hI' hm.1
        exact l2Compare_calls (w.drewN d) _ vq _ q (h3.below (below_drewN (Below.refl _ _) d)) (hq.below (below_drewN (Below.refl _ _) d)) (by rw [List.length_take]; omega) (by omega)
  have HD : Hid (∀ i j, i ≤ j → j < rows.length → cmpL ((rows.getD j []).take q.length) q < 0 → cmpL ((rows.getD i []).take q.length) q < 0) := hid fun i j hij hj hc => sk_down hS hij hj hc
  have HF : Hid (∀ k, k ≤ rows.length → (∀ t, t < k → cmpL ((rows.getD t []).take q.length) q < 0) → (∀ t, k ≤ t → t < rows.length → ¬ cmpL ((rows.getD t []).take q.length) q < 0) → Sk rows q k) := hid fun k h1 h2 h3 => ⟨h1, h2, h3⟩
  have KN : Hid (q.length = 0 → ∀ d cu j, Calls Try.prog 110 #[.slice none 0 cu, vq] (w.drewN d) fun e w' => e = .returned (.int .i64 (cmpL ((rows.getD j []).take q.length) q)) ∧ ∃ q', w' = (w.drewN d).drewN q') := hid fun h0 d cu j => by
    rw [h0, List.take_zero]
    exact l2Compare_calls (w.drewN d) _ vq [] q ⟨none, cu, rfl, Or.inl rfl⟩ (hq.below (below_drewN (Below.refl _ _) d)) (by simp) (by omega)
  clear hc hS hl
  obtain ⟨aq, cq, rfl, -⟩ := hq
  generalize rows.length = n at *
  generalize hm : q.length = m at *
  have HMq := hid hm
  clear hm
  obtain ⟨C, hC⟩ : ∃ C : Nat → Int, C = fun j => cmpL ((rows.getD j []).take m) q := ⟨_, rfl⟩
  have HCC : Hid (∀ j, cmpL ((rows.getD j []).take m) q = C j) := hid fun j => by rw [hC]
  simp only [HCC.out] at HC HD HF KN
  clear hC HCC
  go_enter Try.func122, Try.ntmps122
  go_wp2
  go_loopg [5, 6] n (fun g s5 s6 wr => ∃ lo hi d : Nat, s5 = .int .i64 lo ∧ s6 = .int .i64 hi ∧ lo ≤ hi ∧ hi ≤ n ∧ hi - lo ≤ g ∧ wr = w.drewN d ∧ Hid ((∀ t, t < lo → C t < 0) ∧ (∀ t, hi ≤ t → t < n → ¬ C t < 0)))
  case atStart => exact ⟨0, n, 0, rfl, rfl, Nat.zero_le _, Nat.le_refl _, by omega, rfl, hid ⟨fun t ht => absurd ht (Nat.not_lt_zero _), fun t h1 h2 => by omega⟩⟩
  case round =>
    obtain ⟨lo, hi, d, rfl, rfl, hlh, hin, hg, rfl, I⟩ := hrel
    by_cases hlt : lo < hi
    · obtain ⟨b, o, au, lr, cu, ea, c1, hmr, hrc, hno, hcall⟩ := HC.out ((lo + hi) / 2) (by omega)
      subst ea
      have hmc : m ≤ cu := by omega
      have KC : Hid (∀ d, Calls Try.prog 110 #[.slice au m cu, .slice aq m cq] (w.drewN d) fun e w' => e = .returned (.int .i64 (C ((lo + hi) / 2))) ∧ ∃ q', w' = (w.drewN d).drewN q') := hid fun d => by
        cases au with
        | none => 
          have h0 : m = 0 := by have := hno rfl; omega
          have := KN.out h0 d cu ((lo + hi) / 2)
          rw [h0] at this ⊢
          exact this
        | some ad => exact hcall d ad rfl
      have HUp : Hid (C ((lo + hi) / 2) < 0 → ∀ t, t < (lo + hi) / 2 + 1 → C t < 0) := hid fun h t ht => HD.out t ((lo + hi) / 2) (by omega) (by omega) h
      have HDn : Hid (¬ C ((lo + hi) / 2) < 0 → ∀ t, (lo + hi) / 2 ≤ t → t < n → ¬ C t < 0) := hid fun h t h1 h2 h3 => h (HD.out ((lo + hi) / 2) t h1 h2 h3)
      clear hcall hno HC KN HD HF
      generalize C ((lo + hi) / 2) = y at *
      by_cases hy : y < 0
      · have HI2 : Hid ((∀ t, t < (lo + hi) / 2 + 1 → C t < 0) ∧ (∀ t, hi ≤ t → t < n → ¬ C t < 0)) := hid ⟨HUp.out hy, I.out.2⟩
        have hy' : decide (y < 0) = true := decide_eq_true hy
        clear I HUp HDn
        go_wp2_with fail
        refine (KC.out _).mono ?_
        rintro e w2 ⟨rfl, d2, rfl⟩
        go_wp2_with fail
        go_roundg (hi - ((lo + hi) / 2 + 1))
        case measure => omega
        case rel => exact ⟨(lo + hi) / 2 + 1, hi, _, by rw [show ((lo : Int) + (hi : Int)) / 2 + 1 = (((lo + hi) / 2 + 1 : Nat) : Int) by omega], rfl, by omega, hin, Nat.le_refl _, rfl, HI2⟩
      · have HI2 : Hid ((∀ t, t < lo → C t < 0) ∧ (∀ t, (lo + hi) / 2 ≤ t → t < n → ¬ C t < 0)) := hid ⟨I.out.1, HDn.out hy⟩
        have hy' : decide (y < 0) = false := decide_eq_false hy
        clear I HUp HDn
        go_wp2_with fail
        refine (KC.out _).mono ?_
        rintro e w2 ⟨rfl, d2, rfl⟩
        go_wp2_with fail
        go_roundg ((lo + hi) / 2 - lo)
        case measure => omega
        case rel => exact ⟨lo, (lo + hi) / 2, _, rfl, by rw [show ((lo : Int) + (hi : Int)) / 2 = (((lo + hi) / 2 : Nat) : Int) by omega], by omega, by omega, Nat.le_refl _, rfl, HI2⟩
    · obtain rfl : hi = lo := by omega
      have HE := hid (HF.out hi hin I.out.1 (fun t h1 h2 => by have := I.out.2 t h1 h2; omega))
      clear HC HD HF KN I
      go_wp2_with fail
      go_ret
      exact ⟨_, rfl, HE.out, _, rfl⟩

set_option maxHeartbeats 4000000 in
set_option maxRecDepth 1000000 in
theorem l2Begins_calls (w : World) (vr vq : Value) (rows : List (List Int)) (q : List Int) (h : ISSc w vr rows) (hq : IS w vq q) (hS : SL rows) (hn : rows.length ≤ 1099511627776) (hl : ∀ r ∈ rows, q.length ≤ r.length ∧ r.length ≤ 1099511627776) :
    Calls Try.prog 78 #[vr, vq] w fun e w' => e = .returned (.bool (begB rows q)) ∧ ∃ d, w' = w.drewN d := by
  have KS := hid (l2Seek_calls w vr vq rows q h hq hS hn hl)
  have HB : Hid (∀ k, Sk rows q k → k ≤ rows.length ∧ begB rows q = (decide (k < rows.length) && decide (cmpL ((rows.getD k []).take q.length) q = 0))) := hid fun k hk => ⟨hk.le, hk.beg hS⟩
  obtain ⟨ar, cr, rfl, hc⟩ := h
  have HC : Hid (∀ j, j < rows.length → ∃ (b o : Nat) (au : Option Addr) (lr cu : Nat), ar = some ⟨b, o, none⟩ ∧ w.cell? ⟨b, o + j, none⟩ = some (.slice au lr cu) ∧ q.length ≤ lr ∧ lr ≤ cu ∧ ∀ d, Calls Try.prog 110 #[.slice au q.length cu, vq] (w.drewN d) fun e w' => e = .returned (.int .i64 (cmpL ((rows.getD j []).take q.length) q)) ∧ ∃ q', w' = (w.drewN d).drewN q') := hid fun j hj => by
    rcases hc with h0 | ⟨b, o, rfl, h⟩
    · omega
    · obtain ⟨u, h1, hI, a', n', c', e, hcap⟩ := h j hj
      have hm := hl _ (by rw [List.getD_eq_getElem?_getD, List.getElem?_eq_getElem hj]; exact List.getElem_mem _ : rows.getD j [] ∈ rows)
      have hI' := hI
      obtain ⟨au, cu, eu, h2⟩ := hI
      subst eu
      simp only [Value.slice.injEq] at e
      obtain ⟨-, rfl, rfl⟩ := e
      refine ⟨b, o, au, _, cu, rfl, h1, hm.1, hcap, fun d => ?_⟩
      have hqd := hq.below (below_drewN (Below.refl _ _) d)
      cases au with
      | none =>
        have h0 : (rows.getD j []).length = 0 := by
          rcases h2 with h2 | ⟨b2, o2, e2, -⟩
          · exact h2
          · cases e2
        have e1 : (rows.getD j []).take q.length = [] := by rw [List.length_eq_zero_iff.1 h0, List.take_nil]
        have e2 : q.length = 0 := by omega
        rw [e1, e2]
        exact l2Compare_calls (w.drewN d) _ vq [] q ⟨none, cu, rfl, Or.inl rfl⟩ hqd (by simp) (by omega)
      | some ad =>
        have h3 := is_take hI' hm.1
        exact l2Compare_calls (w.drewN d) _ vq _ q (h3.below (below_drewN (Below.refl _ _) d)) hqd (by rw [List.length_take]; omega) (by omega)
  clear hc hS hl
  obtain ⟨aq, cq, rfl, -⟩ := hq
  generalize begB rows q = ans at *
  obtain ⟨C, hC⟩ : ∃ C : Nat → Int, C = fun j => cmpL ((rows.getD j []).take q.length) q := ⟨_, rfl⟩
  have HCC : Hid (∀ j, cmpL ((rows.getD j []).take q.length) q = C j) := hid fun j => by rw [hC]
  simp only [HCC.out] at HC HB
  clear hC HCC
  generalize rows.length = n at *
  generalize q.length = m at *
  go_enter Try.func78, Try.ntmps78
  go_wp2_with fail
  refine KS.out.mono ?_
  rintro e w2 ⟨k, rfl, hk, d, rfl⟩
  obtain ⟨hkn, hans⟩ := HB.out k hk
  clear KS HB hk
  by_cases hlt : k < n
  · obtain ⟨b, o, au, lr, cu, ea, c1, hmr, hrc, hcall⟩ := HC.out k hlt
    subst ea
    have i1 : (k : Int) < (n : Int) := by omega
    have hmc : m ≤ cu := by omega
    have KC := hid hcall
    have HA : Hid (ans = decide (C k = 0)) := hid (by rw [hans, decide_eq_true hlt, Bool.true_and])
    clear hcall HC hans
    generalize C k = y at *
    go_wp2_with fail
    refine (KC.out _).mono ?_
    rintro e w3 ⟨rfl, d3, rfl⟩
    go_wp2_with fail
    go_ret
    exact ⟨ret_bool (by rw [HA.out]; first | rfl | simp), _, rfl⟩
  · have i1 : ¬ ((k : Int) < (n : Int)) := by omega
    rw [decide_eq_false hlt, Bool.false_and] at hans
    subst hans
    clear HC
    go_wp2_with fail
    go_ret
    exact ⟨rfl, _, rfl⟩

end Go.Proofs.Ytpdloenmplafiaa

/-
  spec.Semijoin.
-/
namespace Go.Proofs.Ytpdloenmplafiaa
open Go.RowKit

set_option maxHeartbeats 4000000 in
set_option maxRecDepth 1000000 in
theorem sSemijoin_no (w : World) (a0 a1 a2 b0 b1 b2 : Value) (va wa vb wb : List Int) (ra rb : List (List Int)) (hA : IT w a0 a1 a2 va ra wa) (hB : IT w b0 b1 b2 vb rb wb) (hla : va.length ≤ 1099511627776) (hSa : Short ra) (hlb : vb.length ≤ 1099511627776) (hSb : Short rb) (hno : semOK va ra wa vb rb wb = false) :
    Calls Try.prog 32 #[.agg #[a0, a1, a2], .agg #[b0, b1, b2]] w fun e w' => ∃ x0 x1 x2, e = .returned (.agg #[x0, x1, x2]) ∧ IT w' x0 x1 x2 [] [] [] ∧ (∀ g, x1.ownBlock = some g → w.heap.size ≤ g) ∧ Below w.heap.size w w' := by
  obtain ⟨W1, hW1⟩ : ∃ W1, W1 = three w a0 a1 a2 b0 b1 b2 := ⟨_, rfl⟩
  obtain ⟨hB1, hTa, hTb, hTr⟩ := three_is w a0 a1 a2 b0 b1 b2
  rw [← hW1] at hB1 hTa hTb hTr
  have HTa := hid hTa
  have HTb := hid hTb
  have HTr := hid hTr
  have HB1 := hid hB1
  have KTa := hid (sTableOK_calls W1 a0 a1 a2 va ra wa (hA.below hB1) hla hSa)
  have KTb : Hid (∀ W, Below W1.heap.size W1 W → Calls Try.prog 68 #[.agg #[b0, b1, b2]] W fun e w' => e = .returned (.bool (tableB vb rb wb)) ∧ Below W.heap.size W w') := hid fun W hW => sTableOK_calls W b0 b1 b2 vb rb wb (hB.below (bt hB1 hW)) hlb hSb
  unfold three at hW1
  unfold semOK at hno
  obtain ⟨p0, k0, e0, -⟩ := hA.vs
  obtain ⟨p1, k1, e1, -⟩ := hA.rows
  obtain ⟨p2, k2, e2, -⟩ := hA.ws
  obtain ⟨q0, m0, f0, -⟩ := hB.vs
  obtain ⟨q1, m1, f1, -⟩ := hB.rows
  obtain ⟨q2, m2, f2, -⟩ := hB.ws
  subst e0 e1 e2 f0 f1 f2
  clear hA hB hB1 hTa hTb hTr hla hSa hlb hSb
  have d0 := HTa.out.c0
  have d1 := HTa.out.c1
  have d2 := HTa.out.c2
  cases ht : tableB va ra wa
  · rw [ht] at KTa
    clear KTb ht hno
    generalize va.length = l0 at *
    generalize ra.length = l1 at *
    generalize wa.length = l2 at *
    generalize vb.length = n0 at *
    generalize rb.length = n1 at *
    generalize wb.length = n2 at *
    go_enter Try.func32, Try.ntmps32
    go_upto_region 1 with fail
    rw [← hW1]
    clear hW1
    go_wp2_with fail
    refine KTa.out.mono ?_
    rintro e w2 ⟨rfl, hb2⟩
    have HR2 := hid (HTr.out.below hb2)
    have HB2 := hid (bt HB1.out hb2)
    clear hb2 KTa HTr d0 d1 d2 HB1 HTa HTb
    have f0 := HR2.out.free 0
    have f1 := HR2.out.free 1
    have f2 := HR2.out.free 2
    have r0 := HR2.out.c0
    have r1 := HR2.out.c1
    have r2 := HR2.out.c2
    go_wp2_with fail
    refine bodyPost_ret (v := .agg #[.slice none 0 0, .slice none 0 0, .slice none 0 0]) (by simp [results, Try.results32, go_sem, r0, r1, r2]) rfl ⟨_, _, _, rfl, nil_it _, fun g hg => by simp [Value.ownBlock] at hg, ((HB2.out.setCell (Nat.le_add_right _ 2) _).setCell (Nat.le_add_right _ 2) _).setCell (Nat.le_add_right _ 2) _⟩
  · rw [ht, Bool.true_and] at hno
    rw [ht] at KTa
    rw [hno] at KTb
    clear ht hno
    generalize va.length = l0 at *
    generalize ra.length = l1 at *
    generalize wa.length = l2 at *
    generalize vb.length = n0 at *
    generalize rb.length = n1 at *
    generalize wb.length = n2 at *
    go_enter Try.func32, Try.ntmps32
    go_upto_region 1 with fail
    rw [← hW1]
    clear hW1
    go_wp2_with fail
    refine KTa.out.mono ?_
    rintro e w2 ⟨rfl, hb2⟩
    have HR2 := hid (HTr.out.below hb2)
    have HB2 := hid (bt HB1.out hb2)
    have HT2 := hid (HTb.out.below hb2)
    have KTb2 := hid (KTb.out w2 hb2)
    clear hb2 KTa HTr d0 d1 d2 HB1 HTa HTb KTb
    have d0 := HT2.out.c0
    have d1 := HT2.out.c1
    have d2 := HT2.out.c2
    go_wp2_with fail
    refine KTb2.out.mono ?_
    rintro e w3 ⟨rfl, hb3⟩
    have HR3 := hid (HR2.out.below hb3)
    have HB3 := hid (bt HB2.out hb3)
    clear hb3 KTb2 HR2 HB2 HT2 d0 d1 d2
    have f0 := HR3.out.free 0
    have f1 := HR3.out.free 1
    have f2 := HR3.out.free 2
    have r0 := HR3.out.c0
    have r1 := HR3.out.c1
    have r2 := HR3.out.c2
    go_wp2_with fail
    refine bodyPost_ret (v := .agg #[.slice none 0 0, .slice none 0 0, .slice none 0 0]) (by simp [results, Try.results32, go_sem, r0, r1, r2]) rfl ⟨_, _, _, rfl, nil_it _, fun g hg => by simp [Value.ownBlock] at hg, ((HB3.out.setCell (Nat.le_add_right _ 2) _).setCell (Nat.le_add_right _ 2) _).setCell (Nat.le_add_right _ 2) _⟩

theorem step_append_own2 {P : Program} {w : World} {ops : Array Oper} {o : Oper} {a : Act} {K : Act → World → Prop} {Q : Exit → Act → World → Prop} {E : Prop} (hgd : o.guard = none) (s x : Operand) (t : TypeId)
    (ho : o.op = .call { callee := .builtin .append, args := #[s, x], argTypes := #[t, t] })
    (base : Nat) (e : TypeId) (i : TypeInfo) (z : Value) (size bytes : Nat) (ht : P.underlying t = some (.slice e)) (hi : P.info? e = some i) (hz : i.zero = some z)
    (hsize : i.size = size) (hby : i.bytes = bytes) (hzs : z.cells.size = size) (hsz : 0 < size)
    (v : Value) (n : Nat) (xs : List Value) (hs : a.eval s = v) (hown : w.ownsRow base e size v n xs)
    (ad : Addr) (m c : Nat) (news : List Value) (hx : a.eval x = .slice (some ad) m c) (hl : news.length = m * size) (hnews : ∀ j u, news[j]? = some u → w.cell? (ad.add j) = some u) (h1 : ∀ u ∈ news, u.oneCell' = true)
    (h63 : n + m ≤ maxLen) (hbytes : (n + m) * bytes ≤ 140737488355328) (hbase : base ≤ w.heap.size)
    (h : ∀ v' w', w'.ownsRow base e size v' (n + m) (xs ++ news) → w.grownBy w' v.ownBlock → (v' = .slice none 0 0 ↔ v = .slice none 0 0 ∧ m = 0) → K (a.put o.dst v') w') : if Region.wanted o (yielded ops a.tmps) = true then Oper.wp P o a w K Q else E := by
  have hw : Region.wanted o (yielded ops a.tmps) = true := by simp [Region.wanted, hgd]
  rw [if_pos hw]
  exact wp_append_own w s x t ho base e i z size bytes ht hi hz hsize hby hzs hsz v n xs hs hown ad m c news hx hl hnews h1 h63 hbytes hbase h

/-- rows in slices that are not nil -/
def ISSs (w : World) (v : Value) (ls : List (List Int)) : Prop := ∃ a cap, v = .slice a ls.length cap ∧ (ls.length = 0 ∨ ∃ b o, a = some ⟨b, o, none⟩ ∧ ∀ j, j < ls.length → ∃ ad c, w.cell? ⟨b, o + j, none⟩ = some (.slice (some ad) (ls.getD j []).length c) ∧ IS w (.slice (some ad) (ls.getD j []).length c) (ls.getD j []))
theorem ISSs.below {w w' : World} {v : Value} {ls : List (List Int)} (h : ISSs w v ls) (hb : Below w.heap.size w w') : ISSs w' v ls := by
  obtain ⟨a, cap, rfl, h1⟩ := h
  refine ⟨a, cap, rfl, ?_⟩
  rcases h1 with h1 | ⟨b, o, rfl, h1⟩
  · exact Or.inl h1
  · exact Or.inr ⟨b, o, rfl, fun j hj => by obtain ⟨ad, c, h2, h3⟩ := h1 j hj; exact ⟨ad, c, (hb.cell (p := ⟨b, o + j, none⟩) (World.block_lt_of_cell? w _ h2)).trans h2, h3.below hb⟩⟩

/-- what an append finds in a slice -/
theorem news_is {w : World} {ad : Addr} {n c : Nat} {l : List Int} (h : IS w (.slice (some ad) n c) l) : ∀ j u, (l.map (Value.int .i64))[j]? = some u → w.cell? (ad.add j) = some u := fun j u hu => by
  have hj : j < l.length := by
    rcases Nat.lt_or_ge j l.length with h | h
    · exact h
    · rw [List.getElem?_eq_none (by simpa using h)] at hu; cases hu
  obtain ⟨a', c', e, hh⟩ := h
  simp only [Value.slice.injEq] at e
  obtain ⟨rfl, -, -⟩ := e
  rcases hh with h0 | ⟨b, o, e, hh⟩
  · omega
  · obtain rfl := Option.some.inj e
    rw [show ((⟨b, o, none⟩ : Addr).add j) = ⟨b, o + j, none⟩ by unfold Addr.add; split <;> simp_all, hh j hj, ← hu, List.getElem?_map, List.getD_eq_getElem?_getD, List.getElem?_eq_getElem hj]
    rfl
theorem Try.fieldT1 (b c d : Value) (w : World) : Sem.run Try.prog (Instr.field 53 (.agg #[b, c, d]) 1) w = .ok c w := by kernel_rfl

end Go.Proofs.Ytpdloenmplafiaa
