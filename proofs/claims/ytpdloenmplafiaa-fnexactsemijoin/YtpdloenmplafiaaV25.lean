import Derived.Test.YtpdloenmplafiaaV24
/-
  impl.rowsAt.
-/
namespace Go.Proofs.Ytpdloenmplafiaa
open Go.RowKit

def prjL (rows : List (List Int)) (places : List Int) : List (List Int) := rows.map fun r => atP r places
theorem prjL_len (rows : List (List Int)) (places : List Int) : (prjL rows places).length = rows.length := by simp [prjL]
theorem prjL_succ {rows : List (List Int)} {places : List Int} {j : Nat} (hj : j < rows.length) : prjL (rows.take (j + 1)) places = prjL (rows.take j) places ++ [atP (rows.getD j []) places] := by
  unfold prjL
  rw [List.take_add_one, List.getElem?_eq_getElem hj, List.getD_eq_getElem?_getD, List.getElem?_eq_getElem hj, List.map_append]
  rfl

set_option maxHeartbeats 4000000 in
set_option maxRecDepth 1000000 in
theorem rowsAt_calls (w : World) (vr vp : Value) (rows : List (List Int)) (places : List Int) (hr : ISS w vr rows) (hp : IS w vp places) (hn : rows.length ≤ 1000000) (hlp : places.length ≤ 1000) (hin : ∀ r ∈ rows, ∀ p ∈ places, 0 ≤ p ∧ p < r.length) :
    Calls Try.prog 121 #[vr, vp] w fun e w' => ∃ v uo, e = .returned v ∧ RQ w' w.heap.size v uo (srt (prjL rows places)) ∧ Below w.heap.size w w' := by
  obtain ⟨iS, hj, hy0, hy1, hy2⟩ := info_parts Try.infoIS
  obtain ⟨ar, cr, rfl, hc⟩ := hr
  have HC : Hid (∀ W, Below w.heap.size w W → ∀ j, j < rows.length → ∃ (b o : Nat) (u : Value), ar = some ⟨b, o, none⟩ ∧ W.cell? ⟨b, o + j, none⟩ = some u ∧ IS W u (rows.getD j [])) := hid fun W hW j hj => by
    rcases hc with h0 | ⟨b, o, rfl, h⟩
    · omega
    · obtain ⟨u, h1, h2⟩ := h j hj
      exact ⟨b, o, u, rfl, (hW.cell (World.block_lt_of_cell? w _ h1)).trans h1, h2.below hW⟩
  have KV : Hid (∀ W u j, Below w.heap.size w W → j < rows.length → IS W u (rows.getD j []) → Calls Try.prog 81 #[u, vp] W fun e w' => ∃ v, e = .returned v ∧ w'.ownsRow W.heap.size 3 1 v (atP (rows.getD j []) places).length ((atP (rows.getD j []) places).map (Value.int .i64)) ∧ Below W.heap.size W w') := hid fun W u j hW hj hu =>
    valuesAt_calls W u vp _ places hu (hp.below hW) hlp (hin _ (by rw [List.getD_eq_getElem?_getD, List.getElem?_eq_getElem hj]; exact List.getElem_mem _))
  have HP : Hid (∀ j, j < rows.length → prjL (rows.take (j + 1)) places = prjL (rows.take j) places ++ [atP (rows.getD j []) places]) := hid fun j hj => prjL_succ hj
  have HPl : Hid (∀ j, j ≤ rows.length → (prjL (rows.take j) places).length = j) := hid fun j hj => by rw [prjL_len, List.length_take]; omega
  have HPn : Hid (prjL (rows.take rows.length) places = prjL rows places) := hid (by rw [List.take_length])
  have HP0 : Hid (prjL (rows.take 0) places = []) := hid rfl
  have HM : Hid (∀ i, ((prjL rows places).getD i []).length ≤ 1099511627776) := hid fun i => by
    unfold prjL
    rw [List.getD_eq_getElem?_getD, List.getElem?_map]
    cases h : rows[i]? with
    | none => simp
    | some r => show (atP r places).length ≤ _; rw [atP_len]; omega
  obtain ⟨ap, cp, rfl, -⟩ := hp
  clear hc hin
  obtain ⟨n, hn'⟩ : ∃ n, n = rows.length := ⟨_, rfl⟩
  rw [← hn'] at HC KV HP HPl HPn hn ⊢
  clear hn'
  generalize places.length = np at *
  go_enter Try.func121, Try.ntmps121
  go_wp2_with (at_make; refine wpList_make_own _ rfl _ _ 23 rfl w.heap.size 22 iS (.slice none 0 0) 1 Try.underlying23 hj hy0 hy1 _ _ _ n rfl rfl rfl ?b2 ?b3 (Nat.le_refl _) ?_)
  case b2 => rw [hy2]; omega
  case b3 => unfold maxLen; omega
  intro w0 hown0 hgrow0
  have HS0 : Hid (RQ w0 w.heap.size (.slice (some ⟨w.heap.size, 0, none⟩) 0 n) [] [] ∧ Below w.heap.size w w0) := hid ⟨⟨hown0, rfl, fun i hi => by simp at hi, fun i j _ hj => by simp at hj⟩, (Below.refl _ _).grown hgrow0 (Nat.le_refl _) (fun j hj => by cases hj)⟩
  clear hgrow0 hown0
  go_wp2_with fail
  go_loopw [5, 13] (fun u t wr => ∃ (j g cap : Nat), j ≤ n ∧ t = .int .i64 j ∧ u = .slice (some ⟨g, 0, none⟩) j cap ∧ Hid (∃ uo, RQ wr w.heap.size (.slice (some ⟨g, 0, none⟩) j cap) uo (prjL (rows.take j) places) ∧ Below w.heap.size w wr)) (fun _ t _ => n - (intOf t).toNat)
  case atStart => exact ⟨0, w.heap.size, n, Nat.zero_le _, rfl, rfl, hid ⟨[], by rw [HP0.out]; exact HS0.out.1, HS0.out.2⟩⟩
  case round =>
    clear HS0 HP0
    obtain ⟨j, g, cap, hjn, rfl, rfl, HT⟩ := hrel
    obtain ⟨uo, hQ, hB⟩ := HT.out
    have HQ := hid hQ
    have HB := hid hB
    clear HT hQ hB
    by_cases hlt : j < n
    · have i1 : (j : Int) < (n : Int) := by omega
      obtain ⟨b, o, u, ea, c1, hu⟩ := HC.out wr HB.out j hlt
      subst ea
      have KV1 := hid (KV.out wr u j HB.out hlt hu)
      have HPj := hid (HP.out j hlt)
      have hlj := HPl.out j hjn
      obtain ⟨au, cu, rfl, -⟩ := hu
      generalize (rows.getD j []).length = lr at *
      generalize atP (rows.getD j []) places = pr at *
      go_wp2_with fail
      refine KV1.out.mono ?_
      rintro e w2 ⟨v2, rfl, hv2, hb2⟩
      have HQ2 := hid (HQ.out.below hb2)
      have HB2 := hid (bt HB.out hb2)
      have HV2 := hid (own_base hv2 HB.out.size)
      have HAp : Hid (∀ i, i < (prjL (rows.take j) places).length → ∀ g, (uo.getD i undef).ownBlock = some g → v2.ownBlock ≠ some g) := hid fun i hi g h1 h2 => by
        have a1 := ((HQ.out.each i hi).lt g h1).2
        have a2 := (hv2.lt g h2).1
        omega
      obtain ⟨a2, k2, e2⟩ : ∃ a c, v2 = .slice a pr.length c := by
        rcases hv2.2 with ⟨e, hn⟩ | ⟨g, cap, cur, e, _⟩
        · exact ⟨none, 0, by rw [e, hn]⟩
        · exact ⟨_, cap, e⟩
      subst e2
      have hs2 := HB2.out.size
      clear hv2 hb2 KV1 c1 HQ HB
      have ho2 : w2.ownsRow w.heap.size 22 1 (.slice (some ⟨g, 0, none⟩) j cap) j uo := by have := HQ2.out.own; rw [hlj] at this; exact this
      have HO2 := hid ho2
      clear ho2
      go_wp2_with (first | (at_builtin; refine wpList_append_lies _ rfl _ _ 23 rfl w.heap.size 22 iS (.slice none 0 0) 1 24 Try.underlying23 hj hy0 hy1 hy2 rfl (by decide) (.slice (some ⟨g, 0, none⟩) j cap) _ uo rfl (HO2.out.alloc _) ⟨_, 0, none⟩ 1 1 [.slice a2 pr.length k2] rfl rfl (new1_cell _ _ _) (fun u hu => by simp at hu; subst hu; rfl) (by decide) (by unfold maxLen; omega) (by omega) (by simp; omega) _ rfl ?_; intro g3 cp3 w3 hown3 hgrow3 hat3 hlt3) | fail)
      have HN : Hid (∃ uo', RQ w3 w.heap.size (.slice (some ⟨g3, 0, none⟩) (j + 1) cp3) uo' (prjL (rows.take (j + 1)) places) ∧ Below w.heap.size w w3) := hid ⟨_, by rw [HPj.out]; exact HQ2.out.step HV2.out HAp.out (by rw [hlj]; exact hown3) hgrow3, (HB2.out.alloc hs2 _).grown hgrow3 (by simp; omega) (fun q hq => (HO2.out.lt q hq).1)⟩
      clear hown3 hgrow3 hat3 hlt3
      go_roundw
      case rel => exact ⟨j + 1, g3, cp3, by omega, by go_num, rfl, HN⟩
      case measure => simp [intOf]; omega
    · obtain rfl : j = n := by omega
      have i1 : ¬ ((j : Int) < (j : Int)) := by omega
      have hlj := HPl.out j (Nat.le_refl _)
      rw [HPn.out] at HQ hlj
      have KS := hid (sortRows_calls wr w.heap.size g cap uo (prjL rows places) (by rw [hlj]; exact HQ.out) (fun i _ => HM.out i) (by omega))
      rw [hlj] at KS
      go_wp2_with fail
      refine KS.out.mono ?_
      rintro e w2 ⟨rfl, us', ls', hQ2, hl2, hm2, hs2, hb2⟩
      have HB2 : Hid (Below w.heap.size w w2) := hid (HB.out.trans hb2)
      have hM2 : ∀ i, (ls'.getD i []).length ≤ 1099511627776 := fun i => by
        rw [List.getD_eq_getElem?_getD]
        cases h : ls'[i]? with
        | none => simp
        | some r =>
          obtain ⟨q, hq, e⟩ := List.getElem_of_mem ((hm2 r).1 (List.mem_of_getElem? h))
          have := HM.out q
          rw [List.getD_eq_getElem?_getD, List.getElem?_eq_getElem hq, e] at this
          exact this
      have KC := hid (compactRows_calls w2 w.heap.size g cap us' ls' (by rw [hl2]; exact hQ2) hM2 (by rw [hl2]; omega))
      have hs3 : ls'.Pairwise fun a b => ¬ cmpL b a < 0 := hs2.imp fun h => by omega
      rw [hl2, cpt_srt hs3 hm2] at KC
      clear KS hQ2 hb2 hs2 hs3 hm2 hM2 hl2
      go_wp2_with fail
      refine KC.out.mono ?_
      rintro e w3 ⟨v3, uo3, rfl, hQ3, hb3⟩
      have HF : Hid (RQ w3 w.heap.size v3 uo3 (srt (prjL rows places)) ∧ Below w.heap.size w w3) := hid ⟨hQ3, HB2.out.trans hb3⟩
      clear hQ3 hb3
      go_wp2_with fail
      go_ret
      exact ⟨_, uo3, rfl, HF.out.1, HF.out.2⟩

end Go.Proofs.Ytpdloenmplafiaa
