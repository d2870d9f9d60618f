import Derived.Test.YtnmcgbfhgmmcpaaW46
import Derived.Test.YtnmcgbfhgmmcpaaW55
/-
  spec.l4Shape.
-/
namespace Go.Proofs.Ytnmcgbfhgmmcpaa
open Go.RowKit

/-- what an order of a pattern's variables is -/
structure Ord (k : Nat) (es : List (List Int)) (o : List Int) : Prop where
  k6 : k ≤ 6
  len : o.length = k
  low : ∀ e ∈ es, ∀ x ∈ e, 0 ≤ x ∧ x < (k : Int)
  at' : ∀ j, j < k → o.getD j 0 = (oN o j : Int) ∧ oN o j < k
  nd : ∀ a b, a < b → b < k → oN o a ≠ oN o b
  sur : ∀ v, v < k → ∃ q, q < k ∧ oN o q = v
  self : ∀ v, v < k → adjB es v v = true

set_option maxHeartbeats 8000000 in
set_option maxRecDepth 1000000 in
theorem l4Shape_calls (w : World) (ve vo : Value) (es : List (List Int)) (o : List Int) (k : Nat) (he : ISS w ve es) (hS : Short es) (ho : IS w vo o) (hO : Ord k es o) (hes : es.length ≤ 7) :
    Calls Try.prog 76 #[.int .i64 k, ve, vo] w fun e w' => ∃ vB vs vP vH, e = .returned (.agg #[vB, vP, vH, .slice none 0 0, .int .i64 0, .int .i64 0]) ∧
      PlS w' w.heap.size vB vs (bagsE es o k) vP (parsE es o k) vH (homesE es o es.length) ∧ Below w.heap.size w w' := by
  obtain ⟨i0, hit, hz0, hz1, hz2⟩ := info_parts Try.infoInt
  obtain ⟨iS, hj, hy0, hy1, hy2⟩ := info_parts Try.infoIS
  have hk6 := hO.k6
  have HBag : Hid (∀ W i, Below w.heap.size w W → i < k → Calls Try.prog 100 #[.int .i64 k, ve, vo, .int .i64 i] W fun e w' => ∃ v, e = .returned v ∧ w'.ownsRow W.heap.size 3 1 v (bagE es o i).length ((bagE es o i).map (Value.int .i64)) ∧ Below W.heap.size W w') := hid fun W i hW hi =>
    l4Bag_calls W ve vo es o k i (he.below hW) hS (ho.below hW) hO.k6 hO.len hi hO.low hO.at' hO.nd hO.sur (hO.self _ (hO.at' i hi).2)
  have HIo := hid ho
  have HIe := hid he
  have hlen := hO.len
  have HSl := hid hS.2
  obtain ⟨ae, ce, rfl, hce⟩ := he
  obtain ⟨ao, co, rfl, hco⟩ := ho
  have HCo : Hid (∀ W, Below w.heap.size w W → ∀ j, j < k → ∃ b of, ao = some ⟨b, of, none⟩ ∧ W.cell? ⟨b, of + j, none⟩ = some (.int .i64 (o.getD j 0))) := hid fun W hW j hj => by
    rcases hco with h0 | ⟨b, of, rfl, h⟩
    · omega
    · exact ⟨b, of, rfl, (hW.cell (World.block_lt_of_cell? w _ (h j (by omega)))).trans (h j (by omega))⟩
  have HFh : Hid (∀ s t, t < k → o.getD t 0 ∈ s → firstP s o t = (t : Int)) := hid fun s t ht h => firstP_hit (by omega) h
  have HFm : Hid (∀ s t, t < k → ¬ o.getD t 0 ∈ s → firstP s o t = firstP s o (t + 1)) := hid fun s t ht h => firstP_miss (by omega) h
  have HF0 : Hid (∀ s, firstP s o k = -1) := hid fun s => firstP_end s o (by omega)
  have HS0 := hid (Sh.start w)
  clear hce hco hO hS
  rw [hlen] at *
  clear hlen
  go_enter Try.func76, Try.ntmps76
  go_upto_region 2 with fail
  generalize (w.alloc (.cells #[.slice none 0 0, .slice none 0 0, .slice none 0 0, .slice none 0 0, .int .i64 0, .int .i64 0] 53)).alloc (.cells #[.slice none 0 0, .slice none 0 0, .slice none 0 0, .slice none 0 0, .int .i64 0, .int .i64 0] 53) = W0 at *
  go_wp2_with fail
  go_loopw [19] (fun t wr => ∃ i : Nat, i ≤ k ∧ t = .int .i64 i ∧ Hid (∃ vB vs vP, Sh w wr vB vs (bagsE es o i) vP (parsE es o i) (.slice none 0 0) [])) (fun t _ => k - (intOf t).toNat)
  case atStart => exact ⟨0, Nat.zero_le _, rfl, hid ⟨_, _, _, HS0.out⟩⟩
  case round =>
    clear HS0
    obtain ⟨i, hik, rfl, HT⟩ := hrel
    by_cases hi : i < k
    · have i1 : (i : Int) < (k : Int) := by omega
      obtain ⟨vB, vs, vP, hSh⟩ := HT.out
      have KB := hid (HBag.out wr i hSh.bel hi)
      have HSh := hid hSh
      clear HT hSh
      go_wp2_with fail
      refine KB.out.mono ?_
      rintro e w2 ⟨u, rfl, hu, hb2⟩
      have HU := hid hu
      have HSh2 := hid (HSh.out.below hb2)
      have HApP : Hid (Ap u vP) := hid (ap_new hu HSh.out.pls.ownP)
      have HApB : Hid (∀ q, q < (bagsE es o i).length → Ap (vs.getD q undef) u) := hid fun q hq => (ap_new hu (HSh.out.pls.rl.each q hq)).symm
      have HUb := hid (own_base hu HSh.out.bel.size)
      clear KB hb2 HSh
      obtain ⟨au, cu, rfl⟩ := ownSl hu
      clear hu
      have HNb := hid (bagsE_succ es o i)
      have HNp := hid (parsE_succ es o i)
      have hbl := bagsE_len es o i
      have hpl := parsE_len es o i
      have KH : Hid (∀ x : Int, Calls Try.prog 37 #[.slice au (bagE es o i).length cu, .int .i64 x] w2 fun e w' => e = .returned (.bool (decide (x ∈ bagE es o i))) ∧ w' = w2) := hid fun x => l1Has_calls w2 _ (bagE es o i) x (own_is HU.out) (by have := plc_le (fun b => Elim.gAt (adjB es) (oN o) i (oN o i) b) 6; show (plc _ 6).length ≤ _; omega)
      have HCi := hid (HCo.out w2 HSh2.out.bel)
      clear HU
      generalize bagE es o i = bag at *
      go_wp2_with fail
      go_loop [10, 11] (fun t1 t2 => ∃ (j : Int) (t : Nat), j = (t : Int) - 1 ∧ i + 1 ≤ t ∧ t ≤ k ∧ t2 = .int .i64 j ∧ t1 = .int .i64 (firstP bag o t)) (fun _ t => (intOf t + 1).toNat)
      case atStart => exact ⟨_, k, rfl, by omega, Nat.le_refl _, rfl, by rw [HF0.out]⟩
      case round =>
        obtain ⟨j, t, hjt, hit1, htk, rfl, rfl⟩ := hrel
        by_cases hgo : i + 1 < t
        · obtain ⟨t', rfl⟩ : ∃ t', t = t' + 1 := ⟨t - 1, by omega⟩
          obtain rfl : j = (t' : Int) := by omega
          clear hjt
          have i2 : (i : Int) < (t' : Int) := by omega
          have i3 : (t' : Int) < (k : Int) := by omega
          obtain ⟨b, of, ea, c1⟩ := HCi.out t' (by omega)
          subst ea
          have KH1 := hid (KH.out (o.getD t' 0))
          have hit2 := HFh.out bag t' (by omega)
          have hmi2 := HFm.out bag t' (by omega)
          by_cases hin : o.getD t' 0 ∈ bag
          · rw [decide_eq_true hin] at KH1
            have e1 := hid (hit2 hin)
            clear hit2 hmi2 hin
            generalize o.getD t' 0 = x at *
            generalize firstP bag o (t' + 1) = f0 at *
            go_wp2_with fail
            refine KH1.out.mono ?_
            rintro e w3 ⟨rfl, hw3⟩
            subst w3
            go_wp2_with fail
            go_round
            case rel => exact ⟨_, t', by go_num, by omega, by omega, rfl, by rw [e1.out]⟩
            case measure => simp [intOf] <;> omega
          · rw [decide_eq_false hin] at KH1
            have e1 := hid (hmi2 hin)
            clear hit2 hmi2 hin
            generalize o.getD t' 0 = x at *
            generalize firstP bag o (t' + 1) = f0 at *
            go_wp2_with fail
            refine KH1.out.mono ?_
            rintro e w3 ⟨rfl, hw3⟩
            subst w3
            go_wp2_with fail
            go_round
            case rel => exact ⟨_, t', by go_num, by omega, by omega, rfl, by rw [e1.out]⟩
            case measure => simp [intOf] <;> omega
        · obtain rfl : t = i + 1 := by omega
          obtain rfl : j = (i : Int) := by omega
          have i2 : ¬ ((i : Int) < (i : Int)) := by omega
          clear hjt KH HCi
          generalize firstP bag o (i + 1) = par at *
          have c0 := HSh2.out.box.c0
          have hw2 := HSh2.out.bel.size
          go_upto_region 13 with (first
            | (at_builtin; refine wpList_append_lies _ rfl _ _ 24 rfl w.heap.size 23 iS (.slice none 0 0) 1 24 Try.underlying24 hj hy0 hy1 hy2 rfl (by decide) vB _ vs rfl (HSh2.out.pls.rl.own.alloc _) ⟨w2.heap.size, 0, none⟩ 1 1 [.slice au bag.length cu] rfl rfl (new1_cell _ _ _) (fun u hu => by simp at hu; subst hu; rfl) (by decide) (by rw [hbl]; unfold maxLen; omega) (by rw [hbl]; omega) (by simp; omega) (w2.heap.size + 1) (by simp) ?_; intro g3 cp3 w3 hown3 hgrow3 hat3 hlt3; have c0' := (HSh2.out.step0 HSh2.out.pls.rl.own (by decide) hgrow3).2.2.c0; have f0' := (HSh2.out.step0 HSh2.out.pls.rl.own (by decide) hgrow3).2.2.free 0)
            | fail)
          have HSh3 := hid (HSh2.out.pushB HUb.out HApP.out Ap.none_right HApB.out hown3 hgrow3)
          rw [hbl, ← HNb.out] at HSh3
          clear c0 c0' f0' hown3 hgrow3 hat3 hlt3 HSh2 HUb HApP HApB
          generalize w3.setCell ⟨w.heap.size + 1, 0, none⟩ (.slice (some ⟨g3, 0, none⟩) (i + 1) cp3) = W3 at *
          have c1 := HSh3.out.box.c1
          have hw3 := HSh3.out.bel.size
          go_wp2_with (first
            | (at_builtin; refine wpList_append_lies _ rfl _ _ 23 rfl w.heap.size 3 i0 (.int .i64 0) 1 8 Try.underlying23 hit hz0 hz1 hz2 rfl (by decide) vP _ ((parsE es o i).map (Value.int .i64)) rfl (HSh3.out.pls.ownP.alloc _) ⟨W3.heap.size, 0, none⟩ 1 1 [.int .i64 par] rfl rfl (new1_cell _ _ _) (fun u hu => by simp at hu; subst hu; rfl) (by decide) (by rw [hpl]; unfold maxLen; omega) (by rw [hpl]; omega) (by simp; omega) (W3.heap.size + 1) (by simp) ?_; intro g4 cp4 w4 hown4 hgrow4 hat4 hlt4; have c1' := (HSh3.out.step0 HSh3.out.pls.ownP (by decide) hgrow4).2.2.c1; have f1' := (HSh3.out.step0 HSh3.out.pls.ownP (by decide) hgrow4).2.2.free 1)
            | fail)
          have HSh4 := hid (HSh3.out.pushP hown4 hgrow4 (fun g hg => by
            simp only [Value.ownBlock, Option.some.injEq] at hg
            subst hg
            rcases hat4 with h | h
            · exact Or.inl h
            · exact Or.inr (by omega)))
          rw [hpl, ← HNp.out] at HSh4
          clear c1 c1' f1' hown4 hgrow4 hat4 hlt4 HSh3
          go_roundw
          case rel => exact ⟨i + 1, by omega, by go_num, hid ⟨_, _, _, HSh4.out⟩⟩
          case measure => simp [intOf]; omega
    · obtain rfl : i = k := by omega
      have i1 : ¬ ((i : Int) < (i : Int)) := by omega
      obtain ⟨vB, vs, vP, hSh⟩ := HT.out
      have HSh := hid hSh
      have HCe : Hid (∀ W, Below w.heap.size w W → ∀ j, j < es.length → ∃ b of u, ae = some ⟨b, of, none⟩ ∧ W.cell? ⟨b, of + j, none⟩ = some u ∧ IS W u (es.getD j [])) := hid fun W hb j hj => by
        obtain ⟨a', c', e, h⟩ := HIe.out.below hb
        simp only [Value.slice.injEq] at e
        obtain ⟨rfl, -, -⟩ := e
        rcases h with h0 | ⟨b, of, rfl, h⟩
        · omega
        · obtain ⟨u, h1, h2⟩ := h j hj
          exact ⟨b, of, u, rfl, h1, h2⟩
      have HH0 : Hid (homesE es o 0 = []) := hid rfl
      have HHs : Hid (∀ j, homesE es o (j + 1) = homesE es o j ++ [firstP (es.getD j []) o 0]) := hid fun j => homesE_succ es o j
      have HHl : Hid (∀ j, (homesE es o j).length = j) := hid fun j => homesE_len es o j
      clear HT hSh HBag HIe
      obtain ⟨n, hn⟩ : ∃ n, n = es.length := ⟨_, rfl⟩
      have HNn := hid hn
      rw [← hn] at HCe hes ⊢
      clear hn
      generalize wr = W5 at *
      go_wp2_with fail
      go_loopw [57] (fun t wr => ∃ j : Nat, j ≤ n ∧ t = .int .i64 j ∧ Hid (∃ vH, Sh w wr vB vs (bagsE es o i) vP (parsE es o i) vH (homesE es o j))) (fun t _ => n - (intOf t).toNat)
      case atStart => exact ⟨0, Nat.zero_le _, rfl, hid ⟨_, by rw [HH0.out]; exact HSh.out⟩⟩
      case round =>
        clear HSh HH0
        obtain ⟨q, hq, rfl, HT⟩ := hrel
        obtain ⟨vH, hSh⟩ := HT.out
        have HSh := hid hSh
        clear HT hSh
        by_cases hqn : q < n
        · have i2 : (q : Int) < (n : Int) := by omega
          obtain ⟨be, fe, u, ea, c1, hu⟩ := HCe.out wr HSh.out.bel q hqn
          subst ea
          have KH : Hid (∀ x : Int, Calls Try.prog 37 #[u, .int .i64 x] wr fun e w' => e = .returned (.bool (decide (x ∈ es.getD q []))) ∧ w' = wr) := hid fun x => l1Has_calls wr u (es.getD q []) x hu (HSl.out q)
          obtain ⟨au, cu, rfl, -⟩ := hu
          have HCi := hid (HCo.out wr HSh.out.bel)
          have HN := hid (HHs.out q)
          have hhl := HHl.out q
          generalize (es.getD q []).length = m at *
          generalize es.getD q [] = ed at *
          generalize wr = W6 at *
          go_wp2_with fail
          clear c1
          go_loop [14, 15] (fun t1 t2 => ∃ (j : Int) (t : Nat), j = (t : Int) - 1 ∧ t ≤ i ∧ t2 = .int .i64 j ∧ t1 = .int .i64 (firstP ed o t)) (fun _ t => (intOf t + 1).toNat)
          case atStart => exact ⟨_, i, rfl, Nat.le_refl _, rfl, by rw [HF0.out]⟩
          case round =>
            obtain ⟨j, t, hjt, htk, rfl, rfl⟩ := hrel
            by_cases hgo : 0 < t
            · obtain ⟨t', rfl⟩ : ∃ t', t = t' + 1 := ⟨t - 1, by omega⟩
              obtain rfl : j = (t' : Int) := by omega
              clear hjt
              have i3 : (0 : Int) ≤ (t' : Int) := by omega
              have i4 : (t' : Int) < (i : Int) := by omega
              obtain ⟨b, of, ea, c1⟩ := HCi.out t' (by omega)
              subst ea
              have KH1 := hid (KH.out (o.getD t' 0))
              have hit2 := HFh.out ed t' (by omega)
              have hmi2 := HFm.out ed t' (by omega)
              by_cases hin : o.getD t' 0 ∈ ed
              · rw [decide_eq_true hin] at KH1
                have e1 := hid (hit2 hin)
                clear hit2 hmi2 hin
                generalize o.getD t' 0 = x at *
                generalize firstP ed o (t' + 1) = f0 at *
                go_wp2_with fail
                refine KH1.out.mono ?_
                rintro e w3 ⟨rfl, hw3⟩
                subst w3
                go_wp2_with fail
                go_round
                case rel => exact ⟨_, t', by go_num, by omega, rfl, by rw [e1.out]⟩
                case measure => simp [intOf] <;> omega
              · rw [decide_eq_false hin] at KH1
                have e1 := hid (hmi2 hin)
                clear hit2 hmi2 hin
                generalize o.getD t' 0 = x at *
                generalize firstP ed o (t' + 1) = f0 at *
                go_wp2_with fail
                refine KH1.out.mono ?_
                rintro e w3 ⟨rfl, hw3⟩
                subst w3
                go_wp2_with fail
                go_round
                case rel => exact ⟨_, t', by go_num, by omega, rfl, by rw [e1.out]⟩
                case measure => simp [intOf] <;> omega
            · obtain rfl : t = 0 := by omega
              obtain rfl : j = (-1 : Int) := by omega
              clear hjt KH HCi
              generalize firstP ed o 0 = hom at *
              have c2 := HSh.out.box.c2
              have hw6 := HSh.out.bel.size
              go_wp2_with (first
                | (at_builtin; refine wpList_append_lies _ rfl _ _ 23 rfl w.heap.size 3 i0 (.int .i64 0) 1 8 Try.underlying23 hit hz0 hz1 hz2 rfl (by decide) vH _ ((homesE es o q).map (Value.int .i64)) rfl (HSh.out.pls.ownH.alloc _) ⟨W6.heap.size, 0, none⟩ 1 1 [.int .i64 hom] rfl rfl (new1_cell _ _ _) (fun u hu => by simp at hu; subst hu; rfl) (by decide) (by rw [hhl]; unfold maxLen; omega) (by rw [hhl]; omega) (by simp; omega) (W6.heap.size + 1) (by simp) ?_; intro g4 cp4 w4 hown4 hgrow4 hat4 hlt4; have c1' := (HSh.out.step0 HSh.out.pls.ownH (by decide) hgrow4).2.2.c2; have f1' := (HSh.out.step0 HSh.out.pls.ownH (by decide) hgrow4).2.2.free 2)
                | fail)
              have HSh4 := hid (HSh.out.pushH hown4 hgrow4 (fun g hg => by
                simp only [Value.ownBlock, Option.some.injEq] at hg
                subst hg
                rcases hat4 with h | h
                · exact Or.inl h
                · exact Or.inr (by omega)))
              rw [hhl, ← HN.out] at HSh4
              clear c2 c1' f1' hown4 hgrow4 hat4 hlt4 HSh
              go_roundw
              case rel => exact ⟨q + 1, by omega, by go_num, hid ⟨_, HSh4.out⟩⟩
              case measure => simp [intOf]; omega
        · obtain rfl : q = n := by omega
          have i2 : ¬ ((q : Int) < (q : Int)) := by omega
          have c0 := HSh.out.box.c0
          have c1 := HSh.out.box.c1
          have c2 := HSh.out.box.c2
          have c3 := HSh.out.box.c3
          have c4 := HSh.out.box.c4
          have c5 := HSh.out.box.c5
          have d0 := HSh.out.res.c0
          have d1 := HSh.out.res.c1
          have d2 := HSh.out.res.c2
          have d3 := HSh.out.res.c3
          have d4 := HSh.out.res.c4
          have d5 := HSh.out.res.c5
          have f0 := HSh.out.res.free 0
          have f1 := HSh.out.res.free 1
          have f2 := HSh.out.res.free 2
          have f3 := HSh.out.res.free 3
          have f4 := HSh.out.res.free 4
          have f5 := HSh.out.res.free 5
          obtain ⟨aB, cB, eB⟩ := HSh.out.pls.rl.sl
          obtain ⟨aP, cP, eP⟩ := ownSl HSh.out.pls.ownP
          obtain ⟨aH, cH, eH⟩ := ownSl HSh.out.pls.ownH
          subst eB eP eH
          have HTy := hid HSh.out.res.typ
          generalize (bagsE es o i).length = l1 at *
          generalize (parsE es o i).length = l2 at *
          generalize (homesE es o q).length = l3 at *
          have hne : 53 ≠ 3 ∧ 53 ≠ 23 := by decide
          go_wp2_with fail
          refine bodyPost_ret (v := .agg #[.slice aB l1 cB, .slice aP l2 cP, .slice aH l3 cH, .slice none 0 0, .int .i64 0, .int .i64 0]) (by simp [results, Try.results76, go_sem, d0, d1, d2, d3, d4, d5]) rfl ⟨_, vs, _, _, rfl, ?_, ?_⟩
          · rw [← HNn.out]
            exact (((((HSh.out.pls.store HTy.out hne _).store (typ_set HTy.out) hne _).store (typ_set (typ_set HTy.out)) hne _).store (typ_set (typ_set (typ_set HTy.out))) hne _).store (typ_set (typ_set (typ_set (typ_set HTy.out)))) hne _).store (typ_set (typ_set (typ_set (typ_set (typ_set HTy.out))))) hne _
          · exact (((((HSh.out.bel.setCell (Nat.le_refl _) _).setCell (Nat.le_refl _) _).setCell (Nat.le_refl _) _).setCell (Nat.le_refl _) _).setCell (Nat.le_refl _) _).setCell (Nat.le_refl _) _

end Go.Proofs.Ytnmcgbfhgmmcpaa

/-
  An order of a pattern's variables; its bags.
-/
namespace Go.Proofs.Ytnmcgbfhgmmcpaa
open Go.RowKit

theorem plc_pair (m : Nat → Bool) (n : Nat) : (plc m n).Pairwise (· < ·) := by
  unfold plc
  rw [List.pairwise_map]
  refine List.Pairwise.imp ?_ ((List.pairwise_lt_range (n := n)).filter _)
  intro a b h
  simp only [Int.ofNat_eq_natCast]
  omega
theorem getD_memI {l : List Int} {i : Nat} (h : i < l.length) : l.getD i 0 ∈ l := by rw [List.getD_eq_getElem?_getD, List.getElem?_eq_getElem h]; exact List.getElem_mem _
theorem setB_plc (m : Nat → Bool) : setB (plc m 6) = true := by
  refine setB_true fun i hi => ?_
  have h1 := plc_rng (getD_memI hi)
  have h2 : i = 0 ∨ (plc m 6).getD (i - 1) 0 < (plc m 6).getD i 0 := by
    by_cases e : i = 0
    · exact Or.inl e
    · right
      have := List.pairwise_iff_getElem.1 (plc_pair m 6) (i - 1) i (by omega) hi (by omega)
      rw [List.getD_eq_getElem?_getD, List.getD_eq_getElem?_getD, List.getElem?_eq_getElem hi, List.getElem?_eq_getElem (by omega : i - 1 < _)]
      exact this
  unfold okAt
  simp only [Bool.and_eq_true, Bool.or_eq_true, decide_eq_true_eq]
  exact ⟨⟨h1.1, h1.2⟩, h2⟩

theorem pat_low {k : Nat} {es : List (List Int)} (h : patB (k : Int) es = true) : ∀ e ∈ es, ∀ x ∈ e, 0 ≤ x ∧ x < (k : Int) := by
  rw [pat_alt] at h
  simp only [Bool.and_eq_true] at h
  intro e he x hx
  have h1 := List.all_eq_true.1 h.1.2 e he
  obtain ⟨j, hj, rfl⟩ := getD_mem hx
  have h2 := List.all_eq_true.1 h1 j (List.mem_range.2 hj)
  unfold okAtK at h2
  simp only [Bool.and_eq_true, decide_eq_true_eq] at h2
  exact h2.1
theorem pat_k {k : Nat} {es : List (List Int)} (h : patB (k : Int) es = true) : k ≤ 6 ∧ edgesB es = true ∧ ∀ v, v < k → inEs es (v : Int) = true := by
  unfold patB at h
  simp only [Bool.and_eq_true, decide_eq_true_eq] at h
  refine ⟨by have := h.1.1.1.2; omega, h.1.1.2, fun v hv => ?_⟩
  have := List.all_eq_true.1 h.2 v (List.mem_range.2 (by omega))
  exact this

theorem ord_of {k : Nat} {es : List (List Int)} {o : List Int} (h : patB (k : Int) es = true) (ho : ordB (k : Int) o = true) : Ord k es o := by
  have hs : ordS (k : Int) o = true := by rw [← ord_eq]; exact ho
  unfold ordB at ho
  unfold ordS at hs
  simp only [Bool.and_eq_true, decide_eq_true_eq] at ho hs
  have hlen : o.length = k := by have := ho.1; omega
  obtain ⟨h6, -, hin⟩ := pat_k h
  have hat : ∀ j, j < k → ordAt (k : Int) o j = true := fun j hj => List.all_eq_true.1 ho.2 j (List.mem_range.2 (by omega))
  have hat' : ∀ j, j < k → o.getD j 0 = (oN o j : Int) ∧ oN o j < k := fun j hj => by
    have := hat j hj
    unfold ordAt at this
    simp only [Bool.and_eq_true, decide_eq_true_eq] at this
    unfold oN
    omega
  have hnd := ord_nodup (k := (k : Int)) (o := o) fun i hi => hat i (by omega)
  refine ⟨h6, hlen, pat_low h, hat', fun a b hab hb e => ?_, fun v hv => ?_, fun v hv => ?_⟩
  · have h1 := List.pairwise_iff_getElem.1 hnd a b (by omega) (by omega) hab
    have e1 : o.getD a 0 = o.getD b 0 := by rw [(hat' a (by omega)).1, (hat' b hb).1, e]
    rw [List.getD_eq_getElem?_getD, List.getD_eq_getElem?_getD, List.getElem?_eq_getElem (by omega), List.getElem?_eq_getElem (by omega)] at e1
    exact h1 e1
  · have := List.all_eq_true.1 hs.2 v (List.mem_range.2 (by omega))
    rw [decide_eq_true_eq] at this
    obtain ⟨q, hq, e⟩ := getD_mem this
    exact ⟨q, by omega, by unfold oN; omega⟩
  · have := hin v hv
    unfold inEs at this
    unfold adjB
    rw [List.any_eq_true] at this ⊢
    obtain ⟨e, he, h1⟩ := this
    exact ⟨e, he, by simpa using h1⟩

theorem bag_mem {es : List (List Int)} {o : List Int} {i : Nat} {x : Int} (h : x ∈ bagE es o i) : ∃ b : Nat, x = (b : Int) ∧ b < 6 ∧ Elim.gAt (adjB es) (oN o) i (oN o i) b = true := by
  unfold bagE at h
  rw [List.mem_map] at h
  obtain ⟨b, hb, e⟩ := h
  rw [List.mem_filter, List.mem_range] at hb
  exact ⟨b, e.symm, hb.1, hb.2⟩
theorem adj_in {es : List (List Int)} {a b : Nat} (h : adjB es a b = true) : ∃ e ∈ es, (b : Int) ∈ e := by
  unfold adjB at h
  rw [List.any_eq_true] at h
  obtain ⟨e, he, h1⟩ := h
  rw [Bool.and_eq_true, decide_eq_true_eq, decide_eq_true_eq] at h1
  exact ⟨e, he, h1.2⟩
theorem rc_in {es : List (List Int)} {E : Nat → Prop} {a b : Nat} (h : Elim.Rc (adjB es) E a b) : ∃ e ∈ es, (b : Int) ∈ e :=
  h.ind (M := fun _ b => ∃ e ∈ es, (b : Int) ∈ e) (fun _ _ h => adj_in h) fun _ _ _ _ _ h => adj_in h

theorem bag_good {k : Nat} {es : List (List Int)} {o : List Int} (hO : Ord k es o) {i : Nat} (hi : i < k) : GoodBag es (bagE es o i) ∧ 1 ≤ (bagE es o i).length := by
  have hs := hO.self _ (hO.at' i hi).2
  have key : ∀ b, Elim.gAt (adjB es) (oN o) i (oN o i) b = true ↔ (∀ j, j < i → oN o j ≠ b) ∧ (b = oN o i ∨ Elim.Rc (adjB es) (fun x => ∃ j, j < i + 1 ∧ oN o j = x) (oN o i) b) := fun b => Elim.bag_iff (adj_symm es) (fun j q h1 h2 => hO.nd j q h1 (by omega)) hs
  refine ⟨⟨setB_plc _, ?_⟩, ?_⟩
  · unfold coverB
    rw [List.all_eq_true]
    intro x hx
    obtain ⟨b, rfl, -, hb⟩ := bag_mem hx
    have : ∃ e ∈ es, (b : Int) ∈ e := by
      rcases ((key b).1 hb).2 with rfl | h
      · exact adj_in hs
      · exact rc_in h
    rw [List.any_eq_true]
    obtain ⟨e, he, h1⟩ := this
    exact ⟨e, he, by simpa using h1⟩
  · have hm : ((oN o i : Nat) : Int) ∈ bagE es o i := by
      unfold bagE
      rw [List.mem_map]
      refine ⟨oN o i, List.mem_filter.2 ⟨List.mem_range.2 (by have := (hO.at' i hi).2; have := hO.k6; omega), ?_⟩, rfl⟩
      exact (key _).2 ⟨fun j hj => hO.nd j i hj hi, Or.inl rfl⟩
    exact List.length_pos_of_mem hm

end Go.Proofs.Ytnmcgbfhgmmcpaa

/-
  spec.Eliminate.
-/
namespace Go.Proofs.Ytnmcgbfhgmmcpaa
open Go.RowKit

theorem RL.issE {W : World} {B : Nat} {v : Value} {vs : List Value} {ls : List (List Int)} (h : RL W B v vs ls) : ISS W v ls := by
  obtain ⟨a, cap, e⟩ := h.sl
  refine ⟨a, cap, e, ?_⟩
  by_cases hn : ls.length = 0
  · exact Or.inl hn
  · right
    obtain ⟨g, cp, e2, -⟩ := h.get (i := 0) (by omega)
    rw [e] at e2
    simp only [Value.slice.injEq] at e2
    obtain ⟨rfl, -, -⟩ := e2
    refine ⟨g, 0, rfl, fun j hj => ?_⟩
    obtain ⟨g', cp', e3, h1, h2⟩ := h.get hj
    rw [e] at e3
    simp only [Value.slice.injEq, Option.some.injEq, Addr.mk.injEq] at e3
    obtain ⟨⟨rfl, -⟩, -, -⟩ := e3
    exact ⟨_, by rw [Nat.zero_add]; exact h1, h2⟩

theorem pbx_made (W : World) (vB vP vH vW : Value) (x y : Int) : PBx (W.alloc (.cells #[vB, vP, vH, vW, .int .i64 x, .int .i64 y] 53)) W.heap.size vB vP vH vW x y := by
  have hb := heap_alloc_new W (.cells #[vB, vP, vH, vW, .int .i64 x, .int .i64 y] 53)
  refine ⟨?_, ?_, ?_, ?_, ?_, ?_, fun j => by unfold World.frozen?; rw [hb]; simp, ⟨_, hb⟩⟩
  all_goals rw [cell_of_row _ _ _ _ _ _ hb]; rfl

def widE (es : List (List Int)) (o : List Int) (i : Nat) : Rat := wdR es (bagE es o i)

set_option maxHeartbeats 8000000 in
set_option maxRecDepth 1000000 in
theorem sEliminate_no (w : World) (ve vo : Value) (es : List (List Int)) (o : List Int) (k : Int) (he : ISS w ve es) (hS : Short es) (ho : IS w vo o) (hl : o.length ≤ 1099511627776) (hno : (patB k es && ordS k o) = false) :
    Calls Try.prog 28 #[.int .i64 k, ve, vo] w fun e w' => e = .returned (.agg #[.slice none 0 0, .slice none 0 0, .slice none 0 0, .slice none 0 0, .int .i64 0, .int .i64 0]) ∧ Below w.heap.size w w' := by
  obtain ⟨W1, hW1⟩ : ∃ W1, W1 = w.alloc (.cells #[.slice none 0 0, .slice none 0 0, .slice none 0 0, .slice none 0 0, .int .i64 0, .int .i64 0] 53) := ⟨_, rfl⟩
  have hB1 : Below w.heap.size w W1 := by rw [hW1]; exact (Below.refl _ _).alloc (Nat.le_refl _) _
  have hR1 : PBx W1 w.heap.size (.slice none 0 0) (.slice none 0 0) (.slice none 0 0) (.slice none 0 0) 0 0 := by rw [hW1]; exact pbx_made _ _ _ _ _ _ _
  have KP := hid (l4Pattern_calls W1 ve k es (he.below hB1) hS)
  have KO := hid (l4OrderOK_calls W1 vo o k (ho.below hB1) hl)
  have HB1 := hid hB1
  have HR1 := hid hR1
  have d0 := hR1.c0
  have d1 := hR1.c1
  have d2 := hR1.c2
  have d3 := hR1.c3
  have d4 := hR1.c4
  have d5 := hR1.c5
  have f0 := hR1.free 0
  have f1 := hR1.free 1
  have f2 := hR1.free 2
  have f3 := hR1.free 3
  have f4 := hR1.free 4
  have f5 := hR1.free 5
  obtain ⟨ae, ce, rfl, -⟩ := he
  obtain ⟨ao, co, rfl, -⟩ := ho
  clear hB1 hR1 hS
  cases hp : patB k es
  · rw [hp] at KP
    clear hp hno
    go_enter Try.func28, Try.ntmps28
    go_upto_region 1 with fail
    rw [← hW1]
    clear hW1
    go_wp2_with fail
    refine KP.out.mono ?_
    rintro e w2 ⟨rfl, hw2⟩
    subst w2
    go_wp2_with fail
    refine bodyPost_ret (v := .agg #[.slice none 0 0, .slice none 0 0, .slice none 0 0, .slice none 0 0, .int .i64 0, .int .i64 0]) (by simp [results, Try.results28, go_sem, d0, d1, d2, d3, d4, d5]) rfl ⟨rfl, ?_⟩
    exact (((((HB1.out.setCell (Nat.le_refl _) _).setCell (Nat.le_refl _) _).setCell (Nat.le_refl _) _).setCell (Nat.le_refl _) _).setCell (Nat.le_refl _) _).setCell (Nat.le_refl _) _
  · rw [hp, Bool.true_and] at hno
    rw [hp] at KP
    rw [hno] at KO
    clear hp hno
    go_enter Try.func28, Try.ntmps28
    go_upto_region 1 with fail
    rw [← hW1]
    clear hW1
    go_wp2_with fail
    refine KP.out.mono ?_
    rintro e w2 ⟨rfl, hw2⟩
    subst w2
    go_wp2_with fail
    refine KO.out.mono ?_
    rintro e w2 ⟨rfl, hw2⟩
    subst w2
    go_wp2_with fail
    refine bodyPost_ret (v := .agg #[.slice none 0 0, .slice none 0 0, .slice none 0 0, .slice none 0 0, .int .i64 0, .int .i64 0]) (by simp [results, Try.results28, go_sem, d0, d1, d2, d3, d4, d5]) rfl ⟨rfl, ?_⟩
    exact (((((HB1.out.setCell (Nat.le_refl _) _).setCell (Nat.le_refl _) _).setCell (Nat.le_refl _) _).setCell (Nat.le_refl _) _).setCell (Nat.le_refl _) _).setCell (Nat.le_refl _) _

end Go.Proofs.Ytnmcgbfhgmmcpaa

/-
  spec.Eliminate at an order of a pattern's variables.
-/
namespace Go.Proofs.Ytnmcgbfhgmmcpaa
open Go.RowKit

theorem PBx.set45 {W : World} {p : Nat} {vB vP vH vW : Value} {x y : Int} (h : PBx W p vB vP vH vW x y) (x' y' : Int) : PBx ((W.setCell ⟨p, 4, none⟩ (.int .i64 x')).setCell ⟨p, 5, none⟩ (.int .i64 y')) p vB vP vH vW x' y' :=
  ⟨(ne_set (by decide)).trans ((ne_set (by decide)).trans h.c0), (ne_set (by decide)).trans ((ne_set (by decide)).trans h.c1), (ne_set (by decide)).trans ((ne_set (by decide)).trans h.c2), (ne_set (by decide)).trans ((ne_set (by decide)).trans h.c3), (ne_set (by decide)).trans (World.cell?_setCell_same _ _ _ h.c4), World.cell?_setCell_same _ _ _ ((ne_set (by decide)).trans h.c5), fun j => by rw [World.frozen?_setCell, World.frozen?_setCell]; exact h.free j, typ_set (typ_set h.typ)⟩
theorem own_store {W : World} {B s n p off : Nat} {e e' : TypeId} {v y : Value} {xs : List Value} (h : W.ownsRow B e s v n xs) (ht : ∃ cur, W.heap[p]? = some (.cells cur e' (0, 0))) (he : e ≠ e') : (W.setCell ⟨p, off, none⟩ y).ownsRow B e s v n xs :=
  own_move h fun g hg => Below.heap_setCell _ _ _ _ (by rintro rfl; exact own_ne h ht he hg.symm)

def wdE (es : List (List Int)) (o : List Int) (k : Nat) (i : Nat) : Rat := wdR es ((bagsE es o k).getD i [])

set_option maxHeartbeats 8000000 in
set_option maxRecDepth 1000000 in
theorem sEliminate_yes (w : World) (ve vo : Value) (es : List (List Int)) (o : List Int) (k : Nat) (he : ISS w ve es) (hS : Short es) (ho : IS w vo o) (hp : patB (k : Int) es = true) (hoB : ordB (k : Int) o = true) :
    Calls Try.prog 28 #[.int .i64 k, ve, vo] w fun e w' => ∃ vB vs vP vH vW, e = .returned (.agg #[vB, vP, vH, vW, .int .i64 (mostN (wdE es o k) k).num, .int .i64 (mostN (wdE es o k) k).den]) ∧
      PlS w' w.heap.size vB vs (bagsE es o k) vP (parsE es o k) vH (homesE es o es.length) ∧ w'.ownsRow w.heap.size 28 2 vW k (rcs (prs k (wdE es o k))) ∧ Below w.heap.size w w' := by
  have hO := ord_of hp hoB
  have hk6 := hO.k6
  obtain ⟨-, hed, -⟩ := pat_k hp
  obtain ⟨W1, hW1⟩ : ∃ W1, W1 = w.alloc (.cells #[.slice none 0 0, .slice none 0 0, .slice none 0 0, .slice none 0 0, .int .i64 0, .int .i64 0] 53) := ⟨_, rfl⟩
  have hB1 : Below w.heap.size w W1 := by rw [hW1]; exact (Below.refl _ _).alloc (Nat.le_refl _) _
  have HR1 : Hid (PBx W1 w.heap.size (.slice none 0 0) (.slice none 0 0) (.slice none 0 0) (.slice none 0 0) 0 0) := hid (by rw [hW1]; exact pbx_made _ _ _ _ _ _ _)
  have KP := hid (l4Pattern_calls W1 ve k es (he.below hB1) hS)
  have KO := hid (l4OrderOK_calls W1 vo o k (ho.below hB1) (by rw [hO.len]; omega))
  rw [hp] at KP
  rw [← ord_eq, hoB] at KO
  have KS := hid (l4Shape_calls W1 ve vo es o k (he.below hB1) hS (ho.below hB1) hO (edgesB_len hed))
  have KW : Hid (∀ W v, Below w.heap.size w W → ISS W v (bagsE es o k) → Calls Try.prog 66 #[v, ve] W fun e w' => ∃ v, e = .returned (.tuple #[v, .agg #[.int .i64 (mostN (wdE es o k) k).num, .int .i64 (mostN (wdE es o k) k).den]]) ∧
      w'.ownsRow W.heap.size 28 2 v k (rcs (prs k (wdE es o k))) ∧ Below W.heap.size W w') := hid fun W v hW hv => by
    have h := l4Widths_calls W v ve (bagsE es o k) es hv (by rw [bagsE_len]; omega) (he.below hW) hS hed (fun i hi => by
      rw [bagsE_len] at hi
      have e : (bagsE es o k).getD i [] = bagE es o i := by
        unfold bagsE
        rw [List.getD_eq_getElem?_getD, List.getElem?_map, List.getElem?_range hi]; rfl
      rw [e]
      exact bag_good hO hi)
    rw [bagsE_len] at h
    exact h
  have HB1 := hid hB1
  obtain ⟨ae, ce, rfl, -⟩ := he
  obtain ⟨ao, co, rfl, -⟩ := ho
  clear hB1 hS hp hoB hO hed
  generalize (mostN (wdE es o k) k).num = X at *
  generalize ((mostN (wdE es o k) k).den : Int) = Y at *
  go_enter Try.func28, Try.ntmps28
  go_upto_region 1 with fail
  rw [← hW1]
  clear hW1
  go_wp2_with fail
  refine KP.out.mono ?_
  rintro e w2 ⟨rfl, hw2⟩
  subst w2
  go_wp2_with fail
  refine KO.out.mono ?_
  rintro e w2 ⟨rfl, hw2⟩
  subst w2
  go_wp2_with fail
  refine KS.out.mono ?_
  rintro e w2 ⟨vB, vs, vP, vH, rfl, hPl, hb2⟩
  have HP2 := hid (hPl.base HB1.out.size)
  have HR2 := hid (HR1.out.below hb2)
  have HB2 := hid (bt HB1.out hb2)
  obtain ⟨aB, cB, eB⟩ := hPl.rl.sl
  obtain ⟨aP, cP, eP⟩ := ownSl hPl.ownP
  obtain ⟨aH, cH, eH⟩ := ownSl hPl.ownH
  subst eB eP eH
  clear KP KO KS HR1 HB1 hPl hb2
  have hlB := bagsE_len es o k
  rw [hlB] at HP2 ⊢
  clear hlB
  generalize (parsE es o k).length = l2 at *
  generalize (homesE es o es.length).length = l3 at *
  go_upto_region 4 with fail
  have HAl : Hid (Below w2.heap.size w2 (w2.alloc (.cells #[.slice aB k cB, .slice aP l2 cP, .slice aH l3 cH, .slice none 0 0, .int .i64 0, .int .i64 0] 53))) := hid ((Below.refl _ _).alloc (Nat.le_refl _) _)
  have HX3 := hid (pbx_made w2 (.slice aB k cB) (.slice aP l2 cP) (.slice aH l3 cH) (.slice none 0 0) 0 0)
  have HP3 := hid (HP2.out.below HAl.out)
  have HR3 := hid (HR2.out.below HAl.out)
  have HB3 := hid (bt HB2.out HAl.out)
  have hw2 := HB2.out.size
  have hr2 := HR2.out.lt
  clear HP2 HR2 HB2 HAl
  generalize w2.alloc (.cells #[.slice aB k cB, .slice aP l2 cP, .slice aH l3 cH, .slice none 0 0, .int .i64 0, .int .i64 0] 53) = W3 at *
  have c0 := HX3.out.c0
  have KW3 := hid (KW.out W3 _ HB3.out HP3.out.rl.issE)
  go_wp2_with fail
  refine KW3.out.mono ?_
  rintro e w4 ⟨vW, rfl, hoW, hb4⟩
  have HX4 := hid (HX3.out.below hb4)
  have HP4 := hid (HP3.out.below hb4)
  have HR4 := hid (HR3.out.below hb4)
  have HB4 := hid (bt HB3.out hb4)
  have HW4 := hid (own_base hoW HB3.out.size)
  obtain ⟨aW, cW, eW⟩ := ownSl hoW
  subst eW
  clear KW KW3 HX3 HP3 HR3 HB3 hoW hb4 c0
  go_upto_region 5 with fail
  have HAl : Hid (Below w4.heap.size w4 (w4.alloc (.cells #[.int .i64 X, .int .i64 Y] 28))) := hid ((Below.refl _ _).alloc (Nat.le_refl _) _)
  have HX5 := hid (HX4.out.below HAl.out)
  have HP5 := hid (HP4.out.below HAl.out)
  have HR5 := hid (HR4.out.below HAl.out)
  have HB5 := hid (bt HB4.out HAl.out)
  have HW5 := hid (own_below HW4.out HAl.out)
  have HRt := hid (heap_alloc_new w4 (.cells #[.int .i64 X, .int .i64 Y] 28))
  have hp4 := HX4.out.lt
  clear HX4 HP4 HR4 HB4 HW4 HAl
  generalize w4.alloc (.cells #[.int .i64 X, .int .i64 Y] 28) = W5 at *
  have c3 := HX5.out.c3
  have g3 := HX5.out.free 3
  have hne : 53 ≠ 3 ∧ 53 ≠ 23 := by decide
  go_upto_region 6 with fail
  have HX6 := hid (HX5.out.set3 (.slice aW k cW))
  have HP6 := hid (HP5.out.store (off := 3) HX5.out.typ hne (.slice aW k cW))
  have HR6 := hid (HR5.out.other (q := w2.heap.size) (off := 3) (by omega) (.slice aW k cW))
  have HB6 := hid (HB5.out.setCell (p := ⟨w2.heap.size, 3, none⟩) (by show w.heap.size ≤ w2.heap.size; omega) (.slice aW k cW))
  have HW6 := hid (own_store (off := 3) (y := .slice aW k cW) HW5.out HX5.out.typ (by decide))
  have HRt6 := hid ((Below.heap_setCell W5 ⟨w2.heap.size, 3, none⟩ (.slice aW k cW) w4.heap.size (by show w4.heap.size ≠ w2.heap.size; omega)).trans HRt.out)
  clear c3 g3 HX5 HP5 HR5 HB5 HW5 HRt
  generalize W5.setCell ⟨w2.heap.size, 3, none⟩ (.slice aW k cW) = W6 at *
  have e0 : W6.cell? ⟨w4.heap.size, 0, none⟩ = some (.int .i64 X) := by rw [cell_of_row _ _ _ _ _ _ HRt6.out]; rfl
  have e1 : W6.cell? ⟨w4.heap.size, 1, none⟩ = some (.int .i64 Y) := by rw [cell_of_row _ _ _ _ _ _ HRt6.out]; rfl
  have c4 := HX6.out.c4
  have c5 := HX6.out.c5
  have g4 := HX6.out.free 4
  have g5 := HX6.out.free 5
  go_upto_region 7 with fail
  have HX7 := hid (HX6.out.set45 X Y)
  have HP7 := hid ((HP6.out.store (off := 4) HX6.out.typ hne (.int .i64 X)).store (off := 5) (typ_set HX6.out.typ) hne (.int .i64 Y))
  have HR7 := hid ((HR6.out.other (q := w2.heap.size) (off := 4) (by omega) (.int .i64 X)).other (q := w2.heap.size) (off := 5) (by omega) (.int .i64 Y))
  have HB7 := hid ((HB6.out.setCell (p := ⟨w2.heap.size, 4, none⟩) (by show w.heap.size ≤ w2.heap.size; omega) (.int .i64 X)).setCell (p := ⟨w2.heap.size, 5, none⟩) (by show w.heap.size ≤ w2.heap.size; omega) (.int .i64 Y))
  have HW7 := hid (own_store (off := 5) (y := .int .i64 Y) (own_store (off := 4) (y := .int .i64 X) HW6.out HX6.out.typ (by decide)) (typ_set HX6.out.typ) (by decide))
  clear c4 c5 g4 g5 e0 e1 HX6 HP6 HR6 HB6 HW6 HRt6
  generalize (W6.setCell ⟨w2.heap.size, 4, none⟩ (.int .i64 X)).setCell ⟨w2.heap.size, 5, none⟩ (.int .i64 Y) = W7 at *
  have c0 := HX7.out.c0
  have c1 := HX7.out.c1
  have c2 := HX7.out.c2
  have c3 := HX7.out.c3
  have c4 := HX7.out.c4
  have c5 := HX7.out.c5
  have d0 := HR7.out.c0
  have d1 := HR7.out.c1
  have d2 := HR7.out.c2
  have d3 := HR7.out.c3
  have d4 := HR7.out.c4
  have d5 := HR7.out.c5
  have f0 := HR7.out.free 0
  have f1 := HR7.out.free 1
  have f2 := HR7.out.free 2
  have f3 := HR7.out.free 3
  have f4 := HR7.out.free 4
  have f5 := HR7.out.free 5
  have HTy := hid HR7.out.typ
  go_wp2_with fail
  refine bodyPost_ret (v := .agg #[.slice aB k cB, .slice aP l2 cP, .slice aH l3 cH, .slice aW k cW, .int .i64 X, .int .i64 Y]) (by simp [results, Try.results28, go_sem, d0, d1, d2, d3, d4, d5]) rfl ⟨_, vs, _, _, _, rfl, ?_, ?_, ?_⟩
  · exact (((((HP7.out.store HTy.out hne _).store (typ_set HTy.out) hne _).store (typ_set (typ_set HTy.out)) hne _).store (typ_set (typ_set (typ_set HTy.out))) hne _).store (typ_set (typ_set (typ_set (typ_set HTy.out)))) hne _).store (typ_set (typ_set (typ_set (typ_set (typ_set HTy.out))))) hne _
  · exact own_store (own_store (own_store (own_store (own_store (own_store HW7.out HTy.out (by decide)) (typ_set HTy.out) (by decide)) (typ_set (typ_set HTy.out)) (by decide)) (typ_set (typ_set (typ_set HTy.out))) (by decide)) (typ_set (typ_set (typ_set (typ_set HTy.out)))) (by decide)) (typ_set (typ_set (typ_set (typ_set (typ_set HTy.out))))) (by decide)
  · exact (((((HB7.out.setCell (Nat.le_refl _) _).setCell (Nat.le_refl _) _).setCell (Nat.le_refl _) _).setCell (Nat.le_refl _) _).setCell (Nat.le_refl _) _).setCell (Nat.le_refl _) _

end Go.Proofs.Ytnmcgbfhgmmcpaa
