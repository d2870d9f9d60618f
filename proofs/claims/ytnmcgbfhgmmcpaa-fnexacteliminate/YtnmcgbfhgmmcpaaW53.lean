import Derived.Deep.LoopGhost
import Derived.Test.YtnmcgbfhgmmcpaaW36
import Derived.Test.YtnmcgbfhgmmcpaaW51
import Derived.Test.YtnmcgbfhgmmcpaaW52
/-
  spec.l4Bag.
-/
namespace Go.Proofs.Ytnmcgbfhgmmcpaa
open Go.RowKit

theorem Try.underlying108' : Try.prog.underlying 108 = some (.slice 4) := by kernel_rfl

/-- bools in a block -/
structure BAt (W : World) (b k : Nat) (R : Nat → Bool) : Prop where
  cell : ∀ j, j < k → W.cell? ⟨b, j, none⟩ = some (.bool (R j))
  free : ∀ j, j < k → W.frozen? ⟨b, j, none⟩ = false
  lt : b < W.heap.size
section
variable {W W' : World} {b k x : Nat} {R : Nat → Bool}
theorem BAt.below (h : BAt W b k R) (hb : Below W.heap.size W W') : BAt W' b k R :=
  ⟨fun j hj => (hb.cell (p := ⟨b, j, none⟩) h.lt).trans (h.cell j hj), fun j hj => (hb.frozen (p := ⟨b, j, none⟩) h.lt).trans (h.free j hj), Nat.lt_of_lt_of_le h.lt hb.size⟩
theorem BAt.set (h : BAt W b k R) (hx : x < k) : BAt (W.setCell ⟨b, x, none⟩ (.bool true)) b k (Bg.upd R x) :=
  ⟨fun j hj => by
    by_cases e : j = x
    · subst e
      rw [World.cell?_setCell_same _ _ _ (h.cell j hj)]
      simp [Bg.upd]
    · rw [World.cell?_setCell_other _ _ _ _ (by intro e2; simp only [Addr.mk.injEq] at e2; omega), h.cell j hj]
      simp [Bg.upd, e], fun j hj => by rw [World.frozen?_setCell]; exact h.free j hj, by rw [World.size_setCell]; exact h.lt⟩
end

/-- what the loops keep -/
structure Bk (w wr : World) (k : Nat) (R : Nat → Bool) : Prop where
  bel : Below w.heap.size w wr
  at' : BAt wr w.heap.size k R
theorem Bk.set {w wr : World} {k x : Nat} {R : Nat → Bool} (h : Bk w wr k R) (hx : x < k) : Bk w (wr.setCell ⟨w.heap.size, x, none⟩ (.bool true)) k (Bg.upd R x) := ⟨h.bel.setCell (Nat.le_refl _) _, h.at'.set hx⟩

theorem place_E {o : List Int} {k i v q : Nat} (hnd : ∀ a b, a < b → b < k → oN o a ≠ oN o b) (hq : q < k) (e : oN o q = v) : (q ≤ i → Bg.E o i v) ∧ (i < q → ¬ Bg.E o i v) := by
  refine ⟨fun h => ⟨q, by omega, e⟩, fun h h2 => ?_⟩
  obtain ⟨j, hj, ej⟩ := h2
  exact hnd j q (by omega) hq (ej.trans e.symm)

set_option maxHeartbeats 8000000 in
set_option maxRecDepth 1000000 in
theorem l4Bag_calls (w : World) (ve vo : Value) (es : List (List Int)) (o : List Int) (k i : Nat) (he : ISS w ve es) (hS : Short es) (ho : IS w vo o) (hk : k ≤ 6) (hlen : o.length = k) (hi : i < k)
    (hlow : ∀ e ∈ es, ∀ x ∈ e, 0 ≤ x ∧ x < (k : Int)) (hord : ∀ j, j < k → o.getD j 0 = (oN o j : Int) ∧ oN o j < k) (hnd : ∀ a b, a < b → b < k → oN o a ≠ oN o b)
    (hsur : ∀ v, v < k → ∃ q, q < k ∧ oN o q = v) (hs : adjB es (oN o i) (oN o i) = true) :
    Calls Try.prog 100 #[.int .i64 k, ve, vo, .int .i64 i] w fun e w' => ∃ v, e = .returned v ∧ w'.ownsRow w.heap.size 3 1 v (bagE es o i).length ((bagE es o i).map (Value.int .i64)) ∧ Below w.heap.size w w' := by
  obtain ⟨i0, hit, hz0, hz1, hz2⟩ := info_parts Try.infoInt
  have HPl : Hid (∀ wr, Below w.heap.size w wr → ∀ v : Nat, Calls Try.prog 120 #[vo, .int .i64 v] wr fun e w' => e = .returned (.int .i64 (plI v o 0)) ∧ w' = wr) := hid fun wr hb v => l4Place_calls wr vo o v (ho.below hb) (by omega)
  have HQ : Hid (∀ v, v < k → ∃ q, q < k ∧ plI (v : Int) o 0 = (q : Int) ∧ oN o q = v) := hid fun v hv => by
    obtain ⟨q, hq, e⟩ := hsur v hv
    refine ⟨q, hq, ?_, e⟩
    rw [← e, ← (hord q hq).1]
    refine plI_at (fun a b hab hb e2 => hnd a b hab (by omega) ?_) (f := q) (by omega) (Nat.zero_le _) (by omega)
    unfold oN; rw [e2]
  have HE : Hid (∀ v q, q < k → oN o q = v → (q ≤ i → Bg.E o i v) ∧ (i < q → ¬ Bg.E o i v)) := hid fun v q hq e => place_E hnd hq e
  have HIo : Hid (IS w vo o) := hid ho
  have HIe : Hid (ISS w ve es) := hid he
  have HB : Hid (∀ R, Bg.Inv k es o i R → (∀ v, R v = true → Bg.E o i v → Bg.Cl es R v) → ∀ p : Nat → Bool, (∀ v, v < k → (p v = true ↔ R v = true ∧ ∀ j, j < i → oN o j ≠ v)) → plc p k = bagE es o i) := hid fun R h1 h2 p h3 =>
    Bg.bag_eq hk (fun j q h4 h5 => hnd j q h4 (by omega)) (by omega) hs h1 h2 p h3
  have HI0 : Hid (Bg.Inv k es o i (Bg.upd (fun _ => false) (oN o i))) := hid (Bg.inv0 (hord i hi).2)
  have HN1 : Hid (∀ v q, q < k → oN o q = v → (i ≤ q ↔ ∀ j, j < i → oN o j ≠ v)) := hid fun v q hq e => by
    constructor
    · intro h j hj e2; exact hnd j q (by omega) hq (e2.trans e.symm)
    · intro h
      by_cases h2 : i ≤ q
      · exact h2
      · exact absurd e (h q (by omega))
  have HLow : Hid (∀ j p, j < es.length → p < (es.getD j []).length → ∃ xn : Nat, (es.getD j []).getD p 0 = (xn : Int) ∧ xn < k ∧ (xn : Int) ∈ es.getD j []) := hid fun j p hj hp => by
    have hm : es.getD j [] ∈ es := by rw [List.getD_eq_getElem?_getD, List.getElem?_eq_getElem hj]; exact List.getElem_mem _
    have hm2 : (es.getD j []).getD p 0 ∈ es.getD j [] := by
      generalize es.getD j [] = e at *
      rw [List.getD_eq_getElem?_getD, List.getElem?_eq_getElem hp]; exact List.getElem_mem _
    have h3 := hlow _ hm _ hm2
    exact ⟨((es.getD j []).getD p 0).toNat, by omega, by omega, by rw [show ((((es.getD j []).getD p 0).toNat : Nat) : Int) = (es.getD j []).getD p 0 by omega]; exact hm2⟩
  have HMem : Hid (∀ j, j < es.length → es.getD j [] ∈ es) := hid fun j hj => by rw [List.getD_eq_getElem?_getD, List.getElem?_eq_getElem hj]; exact List.getElem_mem _
  have HCl : Hid (∀ (R : Nat → Bool) (v : Nat), (∀ j, j < es.length → (v : Int) ∈ es.getD j [] → ∀ x ∈ es.getD j [], R x.toNat = true) → Bg.Cl es R v) := hid fun R v h e he' hv x hx => by
    obtain ⟨j, hj, rfl⟩ := List.getElem_of_mem he'
    have e1 : es.getD j [] = es[j] := by rw [List.getD_eq_getElem?_getD, List.getElem?_eq_getElem hj]; rfl
    exact h j hj (by rw [e1]; exact hv) x (by rw [e1]; exact hx)
  have HSl := hid hS.2
  have hoi := (hord i hi).2
  obtain ⟨ae, ce, rfl, hce⟩ := he
  obtain ⟨ao, co, rfl, hco⟩ := ho
  have HCe : Hid (∀ wr, Below w.heap.size w wr → ∀ j, j < es.length → ∃ b of u, ae = some ⟨b, of, none⟩ ∧ wr.cell? ⟨b, of + j, none⟩ = some u ∧ IS wr u (es.getD j [])) := hid fun wr hb j hj => by
    obtain ⟨a', c', e, h⟩ := HIe.out.below hb
    simp only [Value.slice.injEq] at e
    obtain ⟨rfl, -, -⟩ := e
    rcases h with h0 | ⟨b, of, rfl, h⟩
    · omega
    · obtain ⟨u, h1, h2⟩ := h j hj
      exact ⟨b, of, u, rfl, h1, h2⟩
  have hoc : ∃ b of, ao = some ⟨b, of, none⟩ ∧ w.cell? ⟨b, of + i, none⟩ = some (.int .i64 (oN o i : Int)) := by
    rcases hco with h0 | ⟨b, of, rfl, h⟩
    · omega
    · exact ⟨b, of, rfl, by rw [h i (by omega), (hord i hi).1]⟩
  have hes := hS.1
  clear hce hco hlow hord hnd hsur hs HIe HIo hS
  rw [hlen] at *
  clear hlen
  obtain ⟨bo, fo, rfl, cio⟩ := hoc
  obtain ⟨oi, hoe⟩ : ∃ x, x = oN o i := ⟨_, rfl⟩
  rw [← hoe] at cio HI0 hoi
  clear hoe
  have hmk := run_make_row' (P := Try.prog) 108 4 (.bool false) 1 Try.underlying108' (by kernel_rfl) rfl .i64 .i64 k (by omega) (by omega)
  have hb0 := heap_alloc_new w (.cells (madeCells #[.bool false] k) 4)
  have hA0 : BAt (w.alloc (.cells (madeCells #[.bool false] k) 4)) w.heap.size k (fun _ => false) := ⟨fun j hj => by rw [cell_of_row _ _ _ _ _ _ hb0]; exact made_get _ _ _ hj, fun j _ => by unfold World.frozen?; rw [hb0]; simp, by simp⟩
  have c0 := hA0.cell oi hoi
  have f0 := hA0.free oi hoi
  have hb1 := heap_alloc_new w (.cells ((madeCells #[.bool false] k).setIfInBounds oi (.bool true)) 4)
  have hA1 : BAt (w.alloc (.cells ((madeCells #[.bool false] k).setIfInBounds oi (.bool true)) 4)) w.heap.size k (Bg.upd (fun _ => false) oi) := ⟨fun j hj => by
    rw [cell_of_row _ _ _ _ _ _ hb1, Array.getElem?_setIfInBounds]
    have hm : (madeCells #[.bool false] k)[j]? = some (.bool false) := made_get _ _ _ hj
    by_cases e : oi = j
    · subst e
      have hlt : oi < (madeCells #[.bool false] k).size := by
        rcases Nat.lt_or_ge oi (madeCells #[.bool false] k).size with h | h
        · exact h
        · rw [Array.getElem?_eq_none h] at hm; cases hm
      rw [if_pos rfl, if_pos hlt]
      simp [Bg.upd]
    · rw [if_neg e, hm]
      simp [Bg.upd, Ne.symm e], fun j _ => by unfold World.frozen?; rw [hb1]; simp, by simp⟩
  have HBk1 : Hid (Bk w (w.alloc (.cells ((madeCells #[.bool false] k).setIfInBounds oi (.bool true)) 4)) k (Bg.upd (fun _ => false) oi)) := hid ⟨(Below.refl _ _).alloc (Nat.le_refl _) _, hA1⟩
  clear hb1 hA1
  clear hb0 hA0
  generalize es.length = n at *
  have hcio : (w.alloc (.cells (madeCells #[.bool false] k) 4)).cell? ⟨bo, fo + i, none⟩ = some (.int .i64 oi) := by
    rw [← cio]
    exact ((Below.refl _ _).alloc (Nat.le_refl _) _).cell (p := ⟨bo, fo + i, none⟩) (World.block_lt_of_cell? w _ cio)
  clear cio
  go_enter Try.func100, Try.ntmps100
  go_upto_region 3 with fail
  generalize w.alloc (.cells ((madeCells #[.bool false] k).setIfInBounds oi (.bool true)) 4) = W1 at *
  clear c0 f0 hcio hmk
  generalize Bg.upd (fun _ => false) oi = R1 at *
  go_wp2_with fail
  go_loopg [10] (Bg.cnt k R1 + 1) (fun gk t wr => ∃ (g : Bool) (R : Nat → Bool), t = .bool g ∧ Hid (gk = Bg.cnt k R + (if g then 1 else 0)) ∧ Hid (Bk w wr k R ∧ Bg.Inv k es o i R ∧ (g = false → ∀ v, R v = true → Bg.E o i v → Bg.Cl es R v)))
  case atStart => exact ⟨true, R1, rfl, hid rfl, hid ⟨HBk1.out, HI0.out, fun e => by cases e⟩⟩
  case round =>
    clear HBk1 HI0
    obtain ⟨g, R, rfl, HG, HH⟩ := hrel
    cases g
    · have HFin := hid (HB.out R HH.out.2.1 (HH.out.2.2 rfl))
      have HK := hid HH.out.1
      clear HH HG HB HCl HMem HLow HCe HSl HE
      generalize wr = W2 at *
      obtain ⟨p, hp⟩ : ∃ p : Nat → Bool, p = fun v : Nat => R v && decide ((i : Int) ≤ plI (v : Int) o 0) := ⟨_, rfl⟩
      have HP : Hid (∀ v, p v = (R v && decide ((i : Int) ≤ plI (v : Int) o 0))) := hid fun v => by rw [hp]
      have HBg : Hid (plc p k = bagE es o i) := hid (HFin.out p fun v hv => by
        obtain ⟨q, hq, e1, e2⟩ := HQ.out v hv
        rw [HP.out, e1, Bool.and_eq_true, decide_eq_true_eq, ← HN1.out v q hq e2]
        constructor
        · rintro ⟨h1, h2⟩; exact ⟨h1, by omega⟩
        · rintro ⟨h1, h2⟩; exact ⟨h1, by omega⟩)
      have hws := HK.out.at'.lt
      clear hp HFin HN1
      go_wp2_with fail
      go_loopw [16, 17] (fun u t wr => ∃ v : Nat, v ≤ k ∧ t = .int .i64 v ∧ wr.ownsRow W2.heap.size 3 1 u (plc p v).length ((plc p v).map (Value.int .i64)) ∧ Below W2.heap.size W2 wr) (fun _ t _ => k - (intOf t).toNat)
      case atStart => exact ⟨0, Nat.zero_le _, rfl, World.ownsRow_made W2 #[] 0 (Nat.le_refl _) (by decide) rfl, (Below.refl _ _).alloc (Nat.le_refl _) _⟩
      case round =>
        obtain ⟨v, hv, rfl, hown, hnx⟩ := hrel
        have hple := plc_le p v
        have hns := hnx.size
        by_cases hvk : v < k
        · have i1 : (v : Int) < (k : Int) := by omega
          have c1 := (HK.out.at'.below hnx).cell v hvk
          have HPv := hid (HP.out v)
          cases hR : R v
          · rw [hR] at c1 HPv
            have e1 := hid (plc_miss p v HPv.out)
            clear hR HPv
            go_wp2_with fail
            go_roundw
            case rel => exact ⟨v + 1, by omega, by go_num, by rw [e1.out]; exact hown, hnx⟩
            case measure => simp [intOf]; omega
          · rw [hR] at c1 HPv
            have KP := hid (HPl.out wr (bt HK.out.bel hnx) v)
            obtain ⟨q, hq, eq1, -⟩ := HQ.out v hvk
            rw [eq1] at KP HPv
            clear eq1 hR
            by_cases hqi : i ≤ q
            · have i2 : (i : Int) ≤ (q : Int) := by omega
              have e1 := hid (plc_hit p v (by rw [HPv.out, decide_eq_true i2]; rfl))
              clear HPv
              go_wp2_with fail
              refine KP.out.mono ?_
              rintro e w3 ⟨rfl, hw3⟩
              subst w3
              go_wp2_with (first
                | (at_builtin; refine wpList_append_own _ rfl _ _ 23 rfl W2.heap.size 3 i0 (.int .i64 0) 1 8 Try.underlying23 hit hz0 hz1 hz2 rfl (by decide) _ _ _ rfl (hown.alloc _) ⟨wr.heap.size, 0, none⟩ 1 1 [.int .i64 v] rfl rfl ?c1 ?c2 ?c3 ?c4 ?c5 ?_)
                | fail)
              case c1 =>
                intro j u hj
                match j, hj with
                | 0, hj => simp at hj; subst hj; simp [Addr.add]
              case c2 => intro u hu; simp at hu; subst hu; rfl
              case c3 => unfold maxLen; omega
              case c4 => omega
              case c5 => simp; omega
              intro v' w1 hown' hgrow _
              have hb := own_grow hns hown hnx hgrow
              have hown2 : w1.ownsRow W2.heap.size 3 1 v' (plc p (v + 1)).length ((plc p (v + 1)).map (Value.int .i64)) := by
                rw [e1.out]; simpa using hown'
              clear hown' hgrow hown
              go_wp2
              go_roundw
              case rel => exact ⟨v + 1, by omega, by go_num, hown2, hb⟩
              case measure => simp [intOf]; omega
            · have i2 : ¬ ((i : Int) ≤ (q : Int)) := by omega
              have e1 := hid (plc_miss p v (by rw [HPv.out, decide_eq_false i2]; rfl))
              clear HPv
              go_wp2_with fail
              refine KP.out.mono ?_
              rintro e w3 ⟨rfl, hw3⟩
              subst w3
              go_wp2_with fail
              go_roundw
              case rel => exact ⟨v + 1, by omega, by go_num, by rw [e1.out]; exact hown, hnx⟩
              case measure => simp [intOf]; omega
        · obtain rfl : v = k := by omega
          have i1 : ¬ ((v : Int) < (v : Int)) := by omega
          rw [HBg.out] at hown
          have HO := hid (own_base hown (Nat.le_of_lt hws))
          have HBF := hid (bt HK.out.bel hnx)
          clear hown hnx
          go_wp2_with fail
          go_ret
          exact ⟨_, rfl, HO.out, HBF.out⟩
    · generalize wr = W2 at *
      go_wp2_with fail
      go_loopw [10, 11] (fun t1 t2 wr => ∃ (v : Nat) (g : Bool) (R' : Nat → Bool), v ≤ k ∧ t2 = .int .i64 v ∧ t1 = .bool g ∧ Hid (Bk w wr k R' ∧ Bg.St k es o i R R' g (∀ v', v' < v → R v' = true → Bg.E o i v' → Bg.Cl es R v'))) (fun _ t _ => k - (intOf t).toNat)
      case atStart => exact ⟨0, false, R, Nat.zero_le _, rfl, rfl, hid ⟨HH.out.1, Bg.St.start HH.out.2.1 (fun v' h => by omega)⟩⟩
      case round =>
        clear HH
        obtain ⟨v, g, R', hv, rfl, rfl, HT⟩ := hrel
        by_cases hvk : v < k
        · have i1 : (v : Int) < (k : Int) := by omega
          have c1 := HT.out.1.at'.cell v hvk
          cases hR : R' v
          · rw [hR] at c1
            have HN := hid (HT.out.2.imp (Q := ∀ v', v' < v + 1 → R v' = true → Bg.E o i v' → Bg.Cl es R v') (fun e hP v' h h1 h2 => by
              by_cases e2 : v' = v
              · subst e2; rw [← e, hR] at h1; cases h1
              · exact hP v' (by omega) h1 h2))
            have HK := hid HT.out.1
            clear HT hR
            go_wp2_with fail
            go_roundw
            case rel => exact ⟨v + 1, _, R', by omega, by go_num, rfl, hid ⟨HK.out, HN.out⟩⟩
            case measure => simp [intOf]; omega
          · rw [hR] at c1
            have KP := hid (HPl.out wr HT.out.1.bel v)
            obtain ⟨q, hq, eq1, eq2⟩ := HQ.out v hvk
            rw [eq1] at KP
            have HEv := hid (HE.out v q hq eq2)
            clear eq1 eq2
            by_cases hqi : i < q
            · have i2 : (i : Int) < (q : Int) := by omega
              have HN := hid (HT.out.2.imp (Q := ∀ v', v' < v + 1 → R v' = true → Bg.E o i v' → Bg.Cl es R v') (fun e hP v' h h1 h2 => by
                by_cases e2 : v' = v
                · subst e2; exact absurd h2 (HEv.out.2 hqi)
                · exact hP v' (by omega) h1 h2))
              have HK := hid HT.out.1
              clear HT hR HEv
              go_wp2_with fail
              refine KP.out.mono ?_
              rintro e w3 ⟨rfl, hw3⟩
              subst w3
              go_wp2_with fail
              go_roundw
              case rel => exact ⟨v + 1, _, R', by omega, by go_num, rfl, hid ⟨HK.out, HN.out⟩⟩
              case measure => simp [intOf]; omega
            · have i2 : ¬ ((i : Int) < (q : Int)) := by omega
              have hEv := HEv.out.1 (by omega)
              have HEv1 := hid hEv
              have HRv := hid hR
              clear HEv hEv hR
              generalize wr = W3 at *
              go_wp2_with fail
              refine KP.out.mono ?_
              rintro e w3 ⟨rfl, hw3⟩
              subst w3
              go_wp2_with fail
              clear c1 KP
              go_loopw [10, 46] (fun t1 t2 wr => ∃ (j : Nat) (g : Bool) (R' : Nat → Bool), j ≤ n ∧ t2 = .int .i64 j ∧ t1 = .bool g ∧ Hid (Bk w wr k R' ∧ R' v = true ∧ Bg.St k es o i R R' g ((∀ v', v' < v → R v' = true → Bg.E o i v' → Bg.Cl es R v') ∧ ∀ j', j' < j → (v : Int) ∈ es.getD j' [] → ∀ x ∈ es.getD j' [], R x.toNat = true))) (fun _ t _ => n - (intOf t).toNat)
              case atStart => exact ⟨0, g, R', Nat.zero_le _, rfl, rfl, hid ⟨HT.out.1, HRv.out, HT.out.2.imp (fun _ h => ⟨h, fun j' h => by omega⟩)⟩⟩
              case round =>
                clear HT HRv
                obtain ⟨j, g, R', hj, rfl, rfl, HT⟩ := hrel
                by_cases hjn : j < n
                · have i3 : (j : Int) < (n : Int) := by omega
                  obtain ⟨b, of, u, ea, c1, hu⟩ := HCe.out wr HT.out.1.bel j hjn
                  subst ea
                  have KH := hid (l1Has_calls wr u (es.getD j []) (v : Int) hu (HSl.out j))
                  have HU := hid hu
                  obtain ⟨au, cu, rfl, hcu⟩ := hu
                  obtain ⟨m, hm⟩ : ∃ m, m = (es.getD j []).length := ⟨_, rfl⟩
                  have HM := hid hm
                  have HCu : Hid (∀ W5, Below w.heap.size w W5 → ∀ p, p < m → ∃ b of, au = some ⟨b, of, none⟩ ∧ W5.cell? ⟨b, of + p, none⟩ = some (.int .i64 ((es.getD j []).getD p 0))) := hid (by
                    intro W5 hW5 p hp
                    obtain ⟨b5, of5, u5, e5, c5, hu5⟩ := HCe.out W5 hW5 j hjn
                    simp only [Option.some.injEq, Addr.mk.injEq, and_true] at e5
                    obtain ⟨rfl, rfl⟩ := e5
                    obtain ⟨b6, of6, u6, e6, c6, hu6⟩ := HCe.out w (Below.refl _ _) j hjn
                    simp only [Option.some.injEq, Addr.mk.injEq, and_true] at e6
                    obtain ⟨rfl, rfl⟩ := e6
                    have hlt := World.block_lt_of_cell? w _ c6
                    have e1 := (hW5.cell (p := ⟨b, of + j, none⟩) hlt).trans c6
                    have e2 := (HT.out.1.bel.cell (p := ⟨b, of + j, none⟩) hlt).trans c6
                    rw [c5] at e1
                    rw [c1] at e2
                    obtain rfl := Option.some.inj e1
                    obtain rfl := Option.some.inj e2
                    obtain ⟨a7, c7, e7, h7⟩ := hu5
                    simp only [Value.slice.injEq] at e7
                    obtain ⟨rfl, -, -⟩ := e7
                    rcases h7 with h0 | ⟨b8, of8, rfl, h8⟩
                    · omega
                    · exact ⟨b8, of8, rfl, h8 p (by omega)⟩)
                  have hm1 : m ≤ 1099511627776 := by rw [hm]; exact HSl.out j
                  rw [← hm] at c1 KH HU
                  clear hm hcu
                  by_cases hin : (v : Int) ∈ es.getD j []
                  · rw [decide_eq_true hin] at KH
                    have HIN := hid hin
                    clear hin
                    generalize wr = W4 at *
                    go_wp2_with fail
                    refine KH.out.mono ?_
                    rintro e w3 ⟨rfl, hw3⟩
                    subst w3
                    go_wp2_with fail
                    clear c1 KH
                    go_loopw [10, 56] (fun t1 t2 wr => ∃ (p : Nat) (g : Bool) (R' : Nat → Bool), p ≤ m ∧ t2 = .int .i64 p ∧ t1 = .bool g ∧ Hid (Bk w wr k R' ∧ R' v = true ∧ Bg.St k es o i R R' g (((∀ v', v' < v → R v' = true → Bg.E o i v' → Bg.Cl es R v') ∧ ∀ j', j' < j → (v : Int) ∈ es.getD j' [] → ∀ x ∈ es.getD j' [], R x.toNat = true) ∧ ∀ p', p' < p → R ((es.getD j []).getD p' 0).toNat = true))) (fun _ t _ => m - (intOf t).toNat)
                    case atStart => exact ⟨0, g, R', Nat.zero_le _, rfl, rfl, hid ⟨HT.out.1, HT.out.2.1, HT.out.2.2.imp (fun _ h => ⟨h, fun p' h => by omega⟩)⟩⟩
                    case round =>
                      clear HT
                      obtain ⟨p, g, R', hp, rfl, rfl, HT⟩ := hrel
                      by_cases hpm : p < m
                      · have i4 : (p : Int) < (m : Int) := by omega
                        obtain ⟨bu, fu, ea, c4⟩ := HCu.out wr HT.out.1.bel p hpm
                        subst ea
                        obtain ⟨xn, ex, hxk, hxe⟩ := HLow.out j p hjn (by rw [← HM.out]; exact hpm)
                        have HX := hid ex
                        rw [ex] at c4
                        have c5 := HT.out.1.at'.cell xn hxk
                        cases hR : R' xn
                        · rw [hR] at c5
                          have f5 := HT.out.1.at'.free xn hxk
                          have HN := hid (And.intro (HT.out.1.set hxk) (And.intro (show Bg.upd R' xn v = true by simp [Bg.upd, HT.out.2.1]) (HT.out.2.2.add (Q := (((∀ v', v' < v → R v' = true → Bg.E o i v' → Bg.Cl es R v') ∧ ∀ j', j' < j → (v : Int) ∈ es.getD j' [] → ∀ x ∈ es.getD j' [], R x.toNat = true) ∧ ∀ p', p' < p + 1 → R ((es.getD j []).getD p' 0).toNat = true)) HT.out.2.1 HEv1.out (HMem.out j hjn) HIN.out hxe hxk hR)))
                          clear HT hR ex hxe
                          go_wp2_with fail
                          go_roundw
                          case rel => exact ⟨p + 1, true, _, by omega, by go_num, rfl, HN⟩
                          case measure => simp [intOf]; omega
                        · rw [hR] at c5
                          have HN := hid (HT.out.2.2.imp (Q := (((∀ v', v' < v → R v' = true → Bg.E o i v' → Bg.Cl es R v') ∧ ∀ j', j' < j → (v : Int) ∈ es.getD j' [] → ∀ x ∈ es.getD j' [], R x.toNat = true) ∧ ∀ p', p' < p + 1 → R ((es.getD j []).getD p' 0).toNat = true)) (fun e h => ⟨h.1, fun p' h2 => by
                            by_cases e2 : p' = p
                            · subst e2; rw [HX.out, ← e]; simpa using hR
                            · exact h.2 p' (by omega)⟩))
                          have HK := hid (And.intro HT.out.1 HT.out.2.1)
                          clear HT hR ex hxe
                          go_wp2_with fail
                          go_roundw
                          case rel => exact ⟨p + 1, _, R', by omega, by go_num, rfl, hid ⟨HK.out.1, HK.out.2, HN.out⟩⟩
                          case measure => simp [intOf]; omega
                      · obtain rfl : p = m := by omega
                        have i4 : ¬ ((p : Int) < (p : Int)) := by omega
                        have HN := hid (HT.out.2.2.imp (Q := (∀ v', v' < v → R v' = true → Bg.E o i v' → Bg.Cl es R v') ∧ ∀ j', j' < j + 1 → (v : Int) ∈ es.getD j' [] → ∀ x ∈ es.getD j' [], R x.toNat = true) (fun _ h => ⟨h.1.1, fun j' h2 h3 x hx => by
                          by_cases e2 : j' = j
                          · subst e2
                            obtain ⟨p', hp', ep⟩ := getD_mem hx
                            rw [← ep]
                            exact h.2 p' (by rw [HM.out]; exact hp')
                          · exact h.1.2 j' (by omega) h3 x hx⟩))
                        have HK := hid (And.intro HT.out.1 HT.out.2.1)
                        clear HT
                        go_wp2_with fail
                        go_roundw
                        case rel => exact ⟨j + 1, _, R', by omega, by go_num, rfl, hid ⟨HK.out.1, HK.out.2, HN.out⟩⟩
                        case measure => simp [intOf]; omega
                  · rw [decide_eq_false hin] at KH
                    have HN := hid (HT.out.2.2.imp (Q := (∀ v', v' < v → R v' = true → Bg.E o i v' → Bg.Cl es R v') ∧ ∀ j', j' < j + 1 → (v : Int) ∈ es.getD j' [] → ∀ x ∈ es.getD j' [], R x.toNat = true) (fun _ h => ⟨h.1, fun j' h2 h3 => by
                      by_cases e2 : j' = j
                      · subst e2; exact absurd h3 hin
                      · exact h.2 j' (by omega) h3⟩))
                    have HK := hid (And.intro HT.out.1 HT.out.2.1)
                    clear HT hin HM HU
                    go_wp2_with fail
                    refine KH.out.mono ?_
                    rintro e w3 ⟨rfl, hw3⟩
                    subst w3
                    go_wp2_with fail
                    go_roundw
                    case rel => exact ⟨j + 1, _, R', by omega, by go_num, rfl, hid ⟨HK.out.1, HK.out.2, HN.out⟩⟩
                    case measure => simp [intOf]; omega
                · obtain rfl : j = n := by omega
                  have i3 : ¬ ((j : Int) < (j : Int)) := by omega
                  have HN := hid (HT.out.2.2.imp (Q := ∀ v', v' < v + 1 → R v' = true → Bg.E o i v' → Bg.Cl es R v') (fun _ h v' h1 h2 h3 => by
                    by_cases e2 : v' = v
                    · subst e2; exact HCl.out R v' h.2
                    · exact h.1 v' (by omega) h2 h3))
                  have HK := hid HT.out.1
                  clear HT
                  go_wp2_with fail
                  go_roundw
                  case rel => exact ⟨v + 1, _, R', by omega, by go_num, rfl, hid ⟨HK.out, HN.out⟩⟩
                  case measure => simp [intOf]; omega
        · obtain rfl : v = k := by omega
          have i1 : ¬ ((v : Int) < (v : Int)) := by omega
          have HN : Hid (Bg.cnt v R' + (if g then 1 else 0) < Bg.cnt v R + 1) := hid (by
            cases g
            · have := (HT.out.2.same rfl).1
              rw [this]; simp
            · have := HT.out.2.grew rfl
              simp; omega)
          have HC := hid (And.intro HT.out.1 (And.intro HT.out.2.inv (fun (e : g = false) (v' : Nat) (h1 : R' v' = true) (h2 : Bg.E o i v') => show Bg.Cl es R' v' from by
            have h3 := HT.out.2.same e
            rw [h3.1] at h1 ⊢
            exact h3.2 v' (by rw [← h3.1] at h1; exact HT.out.2.inv.low v' h1) h1 h2)))
          clear HT
          go_wp2_with fail
          go_roundg (Bg.cnt v R' + (if g then 1 else 0))
          case rel => exact ⟨g, R', rfl, hid rfl, HC⟩
          case measure => rw [HG.out]; exact HN.out

end Go.Proofs.Ytnmcgbfhgmmcpaa


/-
  impl: (graph).connect.
-/
namespace Go.Proofs.Ytnmcgbfhgmmcpaa
open Go.RowKit

/-- a graph in a block -/
structure GAt (W : World) (g : Nat) (G : Nat → Nat → Bool) : Prop where
  cell : ∀ a b, a < 6 → b < 6 → W.cell? ⟨g, a * 6 + b, none⟩ = some (.bool (G a b))
  free : ∀ a b, a < 6 → b < 6 → W.frozen? ⟨g, a * 6 + b, none⟩ = false
  lt : g < W.heap.size
  typ : ∃ cur, W.heap[g]? = some (.cells cur 136 (0, 0))

def upd2 (G : Nat → Nat → Bool) (a0 b0 : Nat) (z : Bool) : Nat → Nat → Bool := fun a b => if a = a0 ∧ b = b0 then z else G a b

section
variable {W W' : World} {g : Nat} {G : Nat → Nat → Bool}
theorem GAt.below (h : GAt W g G) (hb : Below W.heap.size W W') : GAt W' g G :=
  ⟨fun a b ha hb' => (hb.cell (p := ⟨g, a * 6 + b, none⟩) h.lt).trans (h.cell a b ha hb'), fun a b ha hb' => (hb.frozen (p := ⟨g, a * 6 + b, none⟩) h.lt).trans (h.free a b ha hb'), Nat.lt_of_lt_of_le h.lt hb.size, by obtain ⟨cur, hc⟩ := h.typ; exact ⟨cur, (hb.block g h.lt).trans hc⟩⟩
theorem GAt.set (h : GAt W g G) {a0 b0 : Nat} (ha0 : a0 < 6) (hb0 : b0 < 6) (z : Bool) : GAt (W.setCell ⟨g, a0 * 6 + b0, none⟩ (.bool z)) g (upd2 G a0 b0 z) :=
  ⟨fun a b ha hb => by
    by_cases e : a = a0 ∧ b = b0
    · obtain ⟨rfl, rfl⟩ := e
      rw [World.cell?_setCell_same _ _ _ (h.cell a b ha hb)]
      simp [upd2]
    · rw [World.cell?_setCell_other _ _ _ _ (by intro e2; simp only [Addr.mk.injEq, and_true, true_and] at e2; exact e (by omega)), h.cell a b ha hb]
      simp [upd2, e], fun a b ha hb => by rw [World.frozen?_setCell]; exact h.free a b ha hb, by rw [World.size_setCell]; exact h.lt, typ_set h.typ⟩
theorem GAt.congr {G' : Nat → Nat → Bool} (h : GAt W g G) (e : ∀ a b, a < 6 → b < 6 → G' a b = G a b) : GAt W g G' := ⟨fun a b ha hb => by rw [e a b ha hb]; exact h.cell a b ha hb, h.free, h.lt, h.typ⟩
end

def conG (G : Nat → Nat → Bool) (l : List Int) : Nat → Nat → Bool := fun a b => G a b || (decide ((a : Int) ∈ l) && decide ((b : Int) ∈ l))

/-- a part of the list is connected -/
structure Co (G : Nat → Nat → Bool) (l : List Int) (p q : Nat) (G' : Nat → Nat → Bool) : Prop where
  old : ∀ a b, G a b = true → G' a b = true
  new : ∀ a b, G' a b = true → G a b = true ∨ ((a : Int) ∈ l ∧ (b : Int) ∈ l)
  rows : ∀ p', p' < p → ∀ q', q' < l.length → G' (l.getD p' 0).toNat (l.getD q' 0).toNat = true
  row : ∀ q', q' < q → G' (l.getD p 0).toNat (l.getD q' 0).toNat = true
theorem Co.start (G : Nat → Nat → Bool) (l : List Int) : Co G l 0 0 G := ⟨fun _ _ h => h, fun _ _ h => Or.inl h, (fun p' h => by omega), fun q' h => by omega⟩
theorem Co.next {G G' : Nat → Nat → Bool} {l : List Int} {p : Nat} (h : Co G l p l.length G') : Co G l (p + 1) 0 G' := ⟨h.old, h.new, fun p' hp q' hq => by
  by_cases e : p' = p
  · subst e; exact h.row q' hq
  · exact h.rows p' (by omega) q' hq, fun q' h => by omega⟩
theorem Co.add {G G' : Nat → Nat → Bool} {l : List Int} {p q a0 b0 : Nat} (h : Co G l p q G') (ha : l.getD p 0 = (a0 : Int)) (hb : l.getD q 0 = (b0 : Int)) (hp : p < l.length) (hq : q < l.length) : Co G l p (q + 1) (upd2 G' a0 b0 true) := by
  have up : ∀ a b, G' a b = true → upd2 G' a0 b0 true a b = true := fun a b h => by unfold upd2; split; rfl; exact h
  refine ⟨fun a b h1 => up _ _ (h.old a b h1), fun a b h1 => ?_, fun p' hp' q' hq' => up _ _ (h.rows p' hp' q' hq'), fun q' hq' => ?_⟩
  · unfold upd2 at h1
    split at h1
    · rename_i e
      obtain ⟨rfl, rfl⟩ := e
      right
      rw [← ha, ← hb]
      refine ⟨?_, ?_⟩
      · rw [List.getD_eq_getElem?_getD, List.getElem?_eq_getElem hp]; exact List.getElem_mem _
      · rw [List.getD_eq_getElem?_getD, List.getElem?_eq_getElem hq]; exact List.getElem_mem _
    · exact h.new a b h1
  · by_cases e : q' = q
    · subst e
      rw [ha, hb]
      simp [upd2]
    · exact up _ _ (h.row q' (by omega))
theorem Co.fin {G G' : Nat → Nat → Bool} {l : List Int} (h : Co G l l.length 0 G') (a b : Nat) : conG G l a b = G' a b := by
  rw [Bool.eq_iff_iff]
  unfold conG
  rw [Bool.or_eq_true, Bool.and_eq_true, decide_eq_true_eq, decide_eq_true_eq]
  constructor
  · rintro (h1 | ⟨h1, h2⟩)
    · exact h.old a b h1
    · obtain ⟨p, hp, e1⟩ := getD_mem h1
      obtain ⟨q, hq, e2⟩ := getD_mem h2
      have := h.rows p hp q hq
      rw [e1, e2] at this
      simpa using this
  · exact h.new a b

theorem Kb.cell {k : Nat} {w w' : World} (h : Kb k w w') {p : Addr} (hp : p.block < w.heap.size) (hk : p.block ≠ k) : w'.cell? p = w.cell? p := World.cell?_of_block (w := w) (h.block p.block hp hk)

set_option maxHeartbeats 4000000 in
set_option maxRecDepth 1000000 in
theorem connect_calls (w : World) (g : Nat) (G : Nat → Nat → Bool) (v : Value) (l : List Int) (hG : GAt w g G) (hl : IS w v l) (hll : l.length ≤ 1099511627776) (hr : ∀ x ∈ l, 0 ≤ x ∧ x < 6) (hne : 0 < l.length → ∀ a n c, v = .slice (some a) n c → a.block ≠ g) :
    Calls Try.prog 122 #[.pointer (some ⟨g, 0, none⟩), v] w fun e w' => e = .returned (.tuple #[]) ∧ Kb g w w' ∧ GAt w' g (conG G l) := by
  obtain ⟨a, cap, rfl, hc⟩ := hl
  have HX : Hid (∀ p, p < l.length → ∃ xn : Nat, l.getD p 0 = (xn : Int) ∧ xn < 6) := hid fun p hp => by
    have hm : l.getD p 0 ∈ l := by rw [List.getD_eq_getElem?_getD, List.getElem?_eq_getElem hp]; exact List.getElem_mem _
    have := hr _ hm
    exact ⟨(l.getD p 0).toNat, by omega, by omega⟩
  have HC : Hid (∀ W, Kb g w W → ∀ p, p < l.length → ∃ b of, a = some ⟨b, of, none⟩ ∧ W.cell? ⟨b, of + p, none⟩ = some (.int .i64 (l.getD p 0))) := hid fun W hK p hp => by
    rcases hc with h0 | ⟨b, of, rfl, h⟩
    · omega
    · exact ⟨b, of, rfl, (hK.cell (World.block_lt_of_cell? w _ (h p hp)) (hne (by omega) ⟨b, of, none⟩ _ _ rfl)).trans (h p hp)⟩
  have HFin : Hid (∀ W G', GAt W g G' → Co G l l.length 0 G' → GAt W g (conG G l)) := hid fun W G' h1 h2 => h1.congr fun a b _ _ => h2.fin a b
  have HAdd : Hid (∀ G' p q a0 b0, Co G l p q G' → l.getD p 0 = ((a0 : Nat) : Int) → l.getD q 0 = ((b0 : Nat) : Int) → p < l.length → q < l.length → Co G l p (q + 1) (upd2 G' a0 b0 true)) := hid fun G' p q a0 b0 h h1 h2 h3 h4 => h.add h1 h2 h3 h4
  have HNx : Hid (∀ G' p, Co G l p l.length G' → Co G l (p + 1) 0 G') := hid fun G' p h => h.next
  have HG := hid hG
  clear hc hr hne hG
  obtain ⟨n, hn⟩ : ∃ n, n = l.length := ⟨_, rfl⟩
  rw [← hn] at HX HC HFin HAdd HNx hll ⊢
  clear hn
  go_enter Try.func122, Try.ntmps122
  go_wp2_with fail
  go_loopw [10] (fun t wr => ∃ (p : Nat), p ≤ n ∧ t = .int .i64 p ∧ Hid (∃ G', Kb g w wr ∧ GAt wr g G' ∧ Co G l p 0 G')) (fun t _ => n - (intOf t).toNat)
  case atStart => exact ⟨0, Nat.zero_le _, rfl, hid ⟨G, Kb.refl _ _, HG.out, Co.start G l⟩⟩
  case round =>
    clear HG
    obtain ⟨p, hp, rfl, HT⟩ := hrel
    by_cases hpn : p < n
    · have i1 : (p : Int) < (n : Int) := by omega
      obtain ⟨G1, hK, hG1, hCo⟩ := HT.out
      obtain ⟨b, of, ea, c1⟩ := HC.out wr hK p hpn
      subst ea
      obtain ⟨xa, ex, hxa⟩ := HX.out p hpn
      rw [ex] at c1
      have EX := hid ex
      clear ex hK hG1 hCo
      generalize wr = W2 at *
      go_wp2_with fail
      clear c1
      go_loopw [16] (fun t wr => ∃ (q : Nat), q ≤ n ∧ t = .int .i64 q ∧ Hid (∃ G', Kb g w wr ∧ GAt wr g G' ∧ Co G l p q G')) (fun t _ => n - (intOf t).toNat)
      case atStart => exact ⟨0, Nat.zero_le _, rfl, HT⟩
      case round =>
        clear HT
        obtain ⟨q, hq, rfl, HT⟩ := hrel
        by_cases hqn : q < n
        · have i2 : (q : Int) < (n : Int) := by omega
          obtain ⟨G1, hK, hG1, hCo⟩ := HT.out
          obtain ⟨b1, of1, ea, c2⟩ := HC.out wr hK q hqn
          simp only [Option.some.injEq, Addr.mk.injEq, and_true] at ea
          obtain ⟨rfl, rfl⟩ := ea
          obtain ⟨xb, ex, hxb⟩ := HX.out q hqn
          rw [ex] at c2
          have c3 := hG1.cell xa xb hxa hxb
          have f3 := hG1.free xa xb hxa hxb
          have HN : Hid (∃ G', Kb g w (wr.setCell ⟨g, xa * 6 + xb, none⟩ (.bool true)) ∧ GAt (wr.setCell ⟨g, xa * 6 + xb, none⟩ (.bool true)) g G' ∧ Co G l p (q + 1) G') := hid ⟨_, hK.set _ _, hG1.set hxa hxb true, HAdd.out _ _ _ _ _ hCo EX.out ex hpn hqn⟩
          have i3 : (xa : Int) < 6 := by omega
          have i4 : (xb : Int) < 6 := by omega
          clear ex hK hG1 hCo HT
          go_wp2_with fail
          go_roundw
          case rel => exact ⟨q + 1, by omega, by go_num, HN⟩
          case measure => simp [intOf]; omega
        · obtain rfl : q = n := by omega
          have i2 : ¬ ((q : Int) < (q : Int)) := by omega
          have HN : Hid (∃ G', Kb g w wr ∧ GAt wr g G' ∧ Co G l (p + 1) 0 G') := hid (by
            obtain ⟨G1, hK, hG1, hCo⟩ := HT.out
            exact ⟨G1, hK, hG1, HNx.out _ _ hCo⟩)
          clear HT
          go_wp2_with fail
          go_roundw
          case rel => exact ⟨p + 1, by omega, by go_num, HN⟩
          case measure => simp [intOf]; omega
    · obtain rfl : p = n := by omega
      have i1 : ¬ ((p : Int) < (p : Int)) := by omega
      go_wp2_with fail
      go_end0
      obtain ⟨G1, hK, hG1, hCo⟩ := HT.out
      exact ⟨rfl, hK, HFin.out _ _ hG1 hCo⟩

end Go.Proofs.Ytnmcgbfhgmmcpaa
