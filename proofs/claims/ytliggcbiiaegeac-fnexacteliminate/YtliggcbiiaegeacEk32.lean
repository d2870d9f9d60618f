import Derived.Test.YtliggcbiiaegeacEk30
import Derived.Test.YtliggcbiiaegeacEk31
/-
  spec.Eliminate.
-/
namespace Go.Proofs.Ytliggcbiiaegeac
open Go.RowKit

theorem RL.issE {W : World} {B : Nat} {v : Value} {vs : List Value} {ls : List (List Int)} (h : RL W B v vs ls) : ISS W v ls := by
  obtain ⟨a, cap, e⟩ := h.sl
  refine ⟨a, cap, e, ?_⟩
  by_cases hn : ls.length = 0
  · exact Or.inl hn
  · right
    obtain ⟨g, cp, e2, -⟩ := h.get (i := 0) (by omega)
    rw [e] at e2
    simp only [Value.slice.injEq] at e2
    obtain ⟨rfl, -, -⟩ := e2
    refine ⟨g, 0, rfl, fun j hj => ?_⟩
    obtain ⟨g', cp', e3, h1, h2⟩ := h.get hj
    rw [e] at e3
    simp only [Value.slice.injEq, Option.some.injEq, Addr.mk.injEq] at e3
    obtain ⟨⟨rfl, -⟩, -, -⟩ := e3
    exact ⟨_, by rw [Nat.zero_add]; exact h1, h2⟩

theorem pbx_made (W : World) (vB vP vH vW : Value) (x y : Int) : PBx (W.alloc (.cells #[vB, vP, vH, vW, .int .i64 x, .int .i64 y] 51)) W.heap.size vB vP vH vW x y := by
  have hb := heap_alloc_new W (.cells #[vB, vP, vH, vW, .int .i64 x, .int .i64 y] 51)
  refine ⟨?_, ?_, ?_, ?_, ?_, ?_, fun j => by unfold World.frozen?; rw [hb]; simp, ⟨_, hb⟩⟩
  all_goals rw [cell_of_row _ _ _ _ _ _ hb]; rfl

noncomputable def widE (es : List (List Int)) (o : List Int) (i : Nat) : Rat := wdR es (bagE es o i)

set_option maxHeartbeats 8000000 in
set_option maxRecDepth 1000000 in
theorem sEliminate_no (w : World) (ve vo : Value) (es : List (List Int)) (o : List Int) (k : Int) (he : ISS w ve es) (hS : Short es) (ho : IS w vo o) (hl : o.length ≤ 1099511627776) (hno : (patB k es && ordS k o) = false) :
    Calls Try.prog 25 #[.int .i64 k, ve, vo] w fun e w' => e = .returned (.agg #[.slice none 0 0, .slice none 0 0, .slice none 0 0, .slice none 0 0, .int .i64 0, .int .i64 0]) ∧ Below w.heap.size w w' := by
  obtain ⟨W1, hW1⟩ : ∃ W1, W1 = w.alloc (.cells #[.slice none 0 0, .slice none 0 0, .slice none 0 0, .slice none 0 0, .int .i64 0, .int .i64 0] 51) := ⟨_, rfl⟩
  have hB1 : Below w.heap.size w W1 := by rw [hW1]; exact (Below.refl _ _).alloc (Nat.le_refl _) _
  have hR1 : PBx W1 w.heap.size (.slice none 0 0) (.slice none 0 0) (.slice none 0 0) (.slice none 0 0) 0 0 := by rw [hW1]; exact pbx_made _ _ _ _ _ _ _
  have KP := hid (l4Pattern_calls W1 ve k es (he.below hB1) hS)
  have KO := hid (l4OrderOK_calls W1 vo o k (ho.below hB1) hl)
  have HB1 := hid hB1
  have HR1 := hid hR1
  have d0 := hR1.c0
  have d1 := hR1.c1
  have d2 := hR1.c2
  have d3 := hR1.c3
  have d4 := hR1.c4
  have d5 := hR1.c5
  have f0 := hR1.free 0
  have f1 := hR1.free 1
  have f2 := hR1.free 2
  have f3 := hR1.free 3
  have f4 := hR1.free 4
  have f5 := hR1.free 5
  obtain ⟨ae, ce, rfl, -⟩ := he
  obtain ⟨ao, co, rfl, -⟩ := ho
  clear hB1 hR1 hS
  cases hp : patB k es
  · rw [hp] at KP
    clear hp hno
    go_enter Try.func25, Try.ntmps25
    go_upto_region 1 with fail
    rw [← hW1]
    clear hW1
    go_wp2_with fail
    refine KP.out.mono ?_
    rintro e w2 ⟨rfl, hw2⟩
    subst w2
    go_wp2_with fail
    refine bodyPost_ret (v := .agg #[.slice none 0 0, .slice none 0 0, .slice none 0 0, .slice none 0 0, .int .i64 0, .int .i64 0]) (by simp [results, Try.results25, go_sem, d0, d1, d2, d3, d4, d5]) rfl ⟨rfl, ?_⟩
    exact (((((HB1.out.setCell (Nat.le_refl _) _).setCell (Nat.le_refl _) _).setCell (Nat.le_refl _) _).setCell (Nat.le_refl _) _).setCell (Nat.le_refl _) _).setCell (Nat.le_refl _) _
  · rw [hp, Bool.true_and] at hno
    rw [hp] at KP
    rw [hno] at KO
    clear hp hno
    go_enter Try.func25, Try.ntmps25
    go_upto_region 1 with fail
    rw [← hW1]
    clear hW1
    go_wp2_with fail
    refine KP.out.mono ?_
    rintro e w2 ⟨rfl, hw2⟩
    subst w2
    go_wp2_with fail
    refine KO.out.mono ?_
    rintro e w2 ⟨rfl, hw2⟩
    subst w2
    go_wp2_with fail
    refine bodyPost_ret (v := .agg #[.slice none 0 0, .slice none 0 0, .slice none 0 0, .slice none 0 0, .int .i64 0, .int .i64 0]) (by simp [results, Try.results25, go_sem, d0, d1, d2, d3, d4, d5]) rfl ⟨rfl, ?_⟩
    exact (((((HB1.out.setCell (Nat.le_refl _) _).setCell (Nat.le_refl _) _).setCell (Nat.le_refl _) _).setCell (Nat.le_refl _) _).setCell (Nat.le_refl _) _).setCell (Nat.le_refl _) _

end Go.Proofs.Ytliggcbiiaegeac

/-
  spec.Eliminate at an order of a pattern's variables.
-/
namespace Go.Proofs.Ytliggcbiiaegeac
open Go.RowKit

theorem PBx.set45 {W : World} {p : Nat} {vB vP vH vW : Value} {x y : Int} (h : PBx W p vB vP vH vW x y) (x' y' : Int) : PBx ((W.setCell ⟨p, 4, none⟩ (.int .i64 x')).setCell ⟨p, 5, none⟩ (.int .i64 y')) p vB vP vH vW x' y' :=
  ⟨(ne_set (by decide)).trans ((ne_set (by decide)).trans h.c0), (ne_set (by decide)).trans ((ne_set (by decide)).trans h.c1), (ne_set (by decide)).trans ((ne_set (by decide)).trans h.c2), (ne_set (by decide)).trans ((ne_set (by decide)).trans h.c3), (ne_set (by decide)).trans (World.cell?_setCell_same _ _ _ h.c4), World.cell?_setCell_same _ _ _ ((ne_set (by decide)).trans h.c5), fun j => by rw [World.frozen?_setCell, World.frozen?_setCell]; exact h.free j, typ_set (typ_set h.typ)⟩
theorem own_store {W : World} {B s n p off : Nat} {e e' : TypeId} {v y : Value} {xs : List Value} (h : W.ownsRow B e s v n xs) (ht : ∃ cur, W.heap[p]? = some (.cells cur e' (0, 0))) (he : e ≠ e') : (W.setCell ⟨p, off, none⟩ y).ownsRow B e s v n xs :=
  own_move h fun g hg => Below.heap_setCell _ _ _ _ (by rintro rfl; exact own_ne h ht he hg.symm)

noncomputable def wdE (es : List (List Int)) (o : List Int) (k : Nat) (i : Nat) : Rat := wdR es ((bagsE es o k).getD i [])

set_option maxHeartbeats 8000000 in
set_option maxRecDepth 1000000 in
theorem sEliminate_yes (w : World) (ve vo : Value) (es : List (List Int)) (o : List Int) (k : Nat) (he : ISS w ve es) (hS : Short es) (ho : IS w vo o) (hp : patB (k : Int) es = true) (hoB : ordB (k : Int) o = true) :
    Calls Try.prog 25 #[.int .i64 k, ve, vo] w fun e w' => ∃ vB vs vP vH vW, e = .returned (.agg #[vB, vP, vH, vW, .int .i64 (mostN (wdE es o k) k).num, .int .i64 (mostN (wdE es o k) k).den]) ∧
      PlS w' w.heap.size vB vs (bagsE es o k) vP (parsE es o k) vH (homesE es o es.length) ∧ w'.ownsRow w.heap.size 49 2 vW k (rcs (prs k (wdE es o k))) ∧ Below w.heap.size w w' := by
  have hO := ord_of hp hoB
  have hk6 := hO.k6
  obtain ⟨-, hed, -⟩ := pat_k hp
  obtain ⟨W1, hW1⟩ : ∃ W1, W1 = w.alloc (.cells #[.slice none 0 0, .slice none 0 0, .slice none 0 0, .slice none 0 0, .int .i64 0, .int .i64 0] 51) := ⟨_, rfl⟩
  have hB1 : Below w.heap.size w W1 := by rw [hW1]; exact (Below.refl _ _).alloc (Nat.le_refl _) _
  have HR1 : Hid (PBx W1 w.heap.size (.slice none 0 0) (.slice none 0 0) (.slice none 0 0) (.slice none 0 0) 0 0) := hid (by rw [hW1]; exact pbx_made _ _ _ _ _ _ _)
  have KP := hid (l4Pattern_calls W1 ve k es (he.below hB1) hS)
  have KO := hid (l4OrderOK_calls W1 vo o k (ho.below hB1) (by rw [hO.len]; omega))
  rw [hp] at KP
  rw [← ord_eq, hoB] at KO
  have KS := hid (l4Shape_calls W1 ve vo es o k (he.below hB1) hS (ho.below hB1) hO (edgesB_len hed))
  have KW : Hid (∀ W v, Below w.heap.size w W → ISS W v (bagsE es o k) → Calls Try.prog 62 #[v, ve] W fun e w' => ∃ v, e = .returned (.tuple #[v, .agg #[.int .i64 (mostN (wdE es o k) k).num, .int .i64 (mostN (wdE es o k) k).den]]) ∧
      w'.ownsRow W.heap.size 49 2 v k (rcs (prs k (wdE es o k))) ∧ Below W.heap.size W w') := hid fun W v hW hv => by
    have h := l4Widths_calls W v ve (bagsE es o k) es hv (by rw [bagsE_len]; omega) (he.below hW) hS hed (fun i hi => by
      rw [bagsE_len] at hi
      have e : (bagsE es o k).getD i [] = bagE es o i := by
        unfold bagsE
        rw [List.getD_eq_getElem?_getD, List.getElem?_map, List.getElem?_range hi]; rfl
      rw [e]
      exact bag_good hO hi)
    rw [bagsE_len] at h
    exact h
  have HB1 := hid hB1
  obtain ⟨ae, ce, rfl, -⟩ := he
  obtain ⟨ao, co, rfl, -⟩ := ho
  clear hB1 hS hp hoB hO hed
  generalize (mostN (wdE es o k) k).num = X at *
  generalize ((mostN (wdE es o k) k).den : Int) = Y at *
  go_enter Try.func25, Try.ntmps25
  go_upto_region 1 with fail
  rw [← hW1]
  clear hW1
  go_wp2_with fail
  refine KP.out.mono ?_
  rintro e w2 ⟨rfl, hw2⟩
  subst w2
  go_wp2_with fail
  refine KO.out.mono ?_
  rintro e w2 ⟨rfl, hw2⟩
  subst w2
  go_wp2_with fail
  refine KS.out.mono ?_
  rintro e w2 ⟨vB, vs, vP, vH, rfl, hPl, hb2⟩
  have HP2 := hid (hPl.base HB1.out.size)
  have HR2 := hid (HR1.out.below hb2)
  have HB2 := hid (bt HB1.out hb2)
  obtain ⟨aB, cB, eB⟩ := hPl.rl.sl
  obtain ⟨aP, cP, eP⟩ := ownSl hPl.ownP
  obtain ⟨aH, cH, eH⟩ := ownSl hPl.ownH
  subst eB eP eH
  clear KP KO KS HR1 HB1 hPl hb2
  have hlB := bagsE_len es o k
  rw [hlB] at HP2 ⊢
  clear hlB
  generalize (parsE es o k).length = l2 at *
  generalize (homesE es o es.length).length = l3 at *
  go_upto_region 4 with fail
  have HAl : Hid (Below w2.heap.size w2 (w2.alloc (.cells #[.slice aB k cB, .slice aP l2 cP, .slice aH l3 cH, .slice none 0 0, .int .i64 0, .int .i64 0] 51))) := hid ((Below.refl _ _).alloc (Nat.le_refl _) _)
  have HX3 := hid (pbx_made w2 (.slice aB k cB) (.slice aP l2 cP) (.slice aH l3 cH) (.slice none 0 0) 0 0)
  have HP3 := hid (HP2.out.below HAl.out)
  have HR3 := hid (HR2.out.below HAl.out)
  have HB3 := hid (bt HB2.out HAl.out)
  have hw2 := HB2.out.size
  have hr2 := HR2.out.lt
  clear HP2 HR2 HB2 HAl
  generalize w2.alloc (.cells #[.slice aB k cB, .slice aP l2 cP, .slice aH l3 cH, .slice none 0 0, .int .i64 0, .int .i64 0] 51) = W3 at *
  have c0 := HX3.out.c0
  have KW3 := hid (KW.out W3 _ HB3.out HP3.out.rl.issE)
  go_wp2_with fail
  refine KW3.out.mono ?_
  rintro e w4 ⟨vW, rfl, hoW, hb4⟩
  have HX4 := hid (HX3.out.below hb4)
  have HP4 := hid (HP3.out.below hb4)
  have HR4 := hid (HR3.out.below hb4)
  have HB4 := hid (bt HB3.out hb4)
  have HW4 := hid (own_base hoW HB3.out.size)
  obtain ⟨aW, cW, eW⟩ := ownSl hoW
  subst eW
  clear KW KW3 HX3 HP3 HR3 HB3 hoW hb4 c0
  go_upto_region 5 with fail
  have HAl : Hid (Below w4.heap.size w4 (w4.alloc (.cells #[.int .i64 X, .int .i64 Y] 49))) := hid ((Below.refl _ _).alloc (Nat.le_refl _) _)
  have HX5 := hid (HX4.out.below HAl.out)
  have HP5 := hid (HP4.out.below HAl.out)
  have HR5 := hid (HR4.out.below HAl.out)
  have HB5 := hid (bt HB4.out HAl.out)
  have HW5 := hid (own_below HW4.out HAl.out)
  have HRt := hid (heap_alloc_new w4 (.cells #[.int .i64 X, .int .i64 Y] 49))
  have hp4 := HX4.out.lt
  clear HX4 HP4 HR4 HB4 HW4 HAl
  generalize w4.alloc (.cells #[.int .i64 X, .int .i64 Y] 49) = W5 at *
  have c3 := HX5.out.c3
  have g3 := HX5.out.free 3
  have hne : 51 ≠ 3 ∧ 51 ≠ 38 := by decide
  go_upto_region 6 with fail
  have HX6 := hid (HX5.out.set3 (.slice aW k cW))
  have HP6 := hid (HP5.out.store (off := 3) HX5.out.typ hne (.slice aW k cW))
  have HR6 := hid (HR5.out.other (q := w2.heap.size) (off := 3) (by omega) (.slice aW k cW))
  have HB6 := hid (HB5.out.setCell (p := ⟨w2.heap.size, 3, none⟩) (by show w.heap.size ≤ w2.heap.size; omega) (.slice aW k cW))
  have HW6 := hid (own_store (off := 3) (y := .slice aW k cW) HW5.out HX5.out.typ (by decide))
  have HRt6 := hid ((Below.heap_setCell W5 ⟨w2.heap.size, 3, none⟩ (.slice aW k cW) w4.heap.size (by show w4.heap.size ≠ w2.heap.size; omega)).trans HRt.out)
  clear c3 g3 HX5 HP5 HR5 HB5 HW5 HRt
  generalize W5.setCell ⟨w2.heap.size, 3, none⟩ (.slice aW k cW) = W6 at *
  have e0 : W6.cell? ⟨w4.heap.size, 0, none⟩ = some (.int .i64 X) := by rw [cell_of_row _ _ _ _ _ _ HRt6.out]; rfl
  have e1 : W6.cell? ⟨w4.heap.size, 1, none⟩ = some (.int .i64 Y) := by rw [cell_of_row _ _ _ _ _ _ HRt6.out]; rfl
  have c4 := HX6.out.c4
  have c5 := HX6.out.c5
  have g4 := HX6.out.free 4
  have g5 := HX6.out.free 5
  go_upto_region 7 with fail
  have HX7 := hid (HX6.out.set45 X Y)
  have HP7 := hid ((HP6.out.store (off := 4) HX6.out.typ hne (.int .i64 X)).store (off := 5) (typ_set HX6.out.typ) hne (.int .i64 Y))
  have HR7 := hid ((HR6.out.other (q := w2.heap.size) (off := 4) (by omega) (.int .i64 X)).other (q := w2.heap.size) (off := 5) (by omega) (.int .i64 Y))
  have HB7 := hid ((HB6.out.setCell (p := ⟨w2.heap.size, 4, none⟩) (by show w.heap.size ≤ w2.heap.size; omega) (.int .i64 X)).setCell (p := ⟨w2.heap.size, 5, none⟩) (by show w.heap.size ≤ w2.heap.size; omega) (.int .i64 Y))
  have HW7 := hid (own_store (off := 5) (y := .int .i64 Y) (own_store (off := 4) (y := .int .i64 X) HW6.out HX6.out.typ (by decide)) (typ_set HX6.out.typ) (by decide))
  clear c4 c5 g4 g5 e0 e1 HX6 HP6 HR6 HB6 HW6 HRt6
  generalize (W6.setCell ⟨w2.heap.size, 4, none⟩ (.int .i64 X)).setCell ⟨w2.heap.size, 5, none⟩ (.int .i64 Y) = W7 at *
  have c0 := HX7.out.c0
  have c1 := HX7.out.c1
  have c2 := HX7.out.c2
  have c3 := HX7.out.c3
  have c4 := HX7.out.c4
  have c5 := HX7.out.c5
  have d0 := HR7.out.c0
  have d1 := HR7.out.c1
  have d2 := HR7.out.c2
  have d3 := HR7.out.c3
  have d4 := HR7.out.c4
  have d5 := HR7.out.c5
  have f0 := HR7.out.free 0
  have f1 := HR7.out.free 1
  have f2 := HR7.out.free 2
  have f3 := HR7.out.free 3
  have f4 := HR7.out.free 4
  have f5 := HR7.out.free 5
  have HTy := hid HR7.out.typ
  go_wp2_with fail
  refine bodyPost_ret (v := .agg #[.slice aB k cB, .slice aP l2 cP, .slice aH l3 cH, .slice aW k cW, .int .i64 X, .int .i64 Y]) (by simp [results, Try.results25, go_sem, d0, d1, d2, d3, d4, d5]) rfl ⟨_, vs, _, _, _, rfl, ?_, ?_, ?_⟩
  · exact (((((HP7.out.store HTy.out hne _).store (typ_set HTy.out) hne _).store (typ_set (typ_set HTy.out)) hne _).store (typ_set (typ_set (typ_set HTy.out))) hne _).store (typ_set (typ_set (typ_set (typ_set HTy.out)))) hne _).store (typ_set (typ_set (typ_set (typ_set (typ_set HTy.out))))) hne _
  · exact own_store (own_store (own_store (own_store (own_store (own_store HW7.out HTy.out (by decide)) (typ_set HTy.out) (by decide)) (typ_set (typ_set HTy.out)) (by decide)) (typ_set (typ_set (typ_set HTy.out))) (by decide)) (typ_set (typ_set (typ_set (typ_set HTy.out)))) (by decide)) (typ_set (typ_set (typ_set (typ_set (typ_set HTy.out))))) (by decide)
  · exact (((((HB7.out.setCell (Nat.le_refl _) _).setCell (Nat.le_refl _) _).setCell (Nat.le_refl _) _).setCell (Nat.le_refl _) _).setCell (Nat.le_refl _) _).setCell (Nat.le_refl _) _

end Go.Proofs.Ytliggcbiiaegeac

/-
  impl.Eliminate where there is no pattern or no order.
-/
namespace Go.Proofs.Ytliggcbiiaegeac
open Go.RowKit

set_option maxHeartbeats 8000000 in
set_option maxRecDepth 1000000 in
theorem iEliminate_no (w : World) (ve vo : Value) (es : List (List Int)) (o : List Int) (k : Int) (he : ISS w ve es) (hS : Short es) (ho : IS w vo o) (hl : o.length ≤ 1099511627776) (hno : (patB k es && ordB k o) = false) (hcap : ∀ a n cap, vo = .slice a n cap → n ≤ cap) :
    Calls Try.prog 27 #[.int .i64 k, ve, vo] w fun e w' => e = .returned (.agg #[.slice none 0 0, .slice none 0 0, .slice none 0 0, .slice none 0 0, .int .i64 0, .int .i64 0]) ∧ Below w.heap.size w w' := by
  obtain ⟨W1, hW1⟩ : ∃ W1, W1 = w.alloc (.cells #[.slice none 0 0, .slice none 0 0, .slice none 0 0, .slice none 0 0, .int .i64 0, .int .i64 0] 51) := ⟨_, rfl⟩
  have hB1 : Below w.heap.size w W1 := by rw [hW1]; exact (Below.refl _ _).alloc (Nat.le_refl _) _
  have HR1 : Hid (PBx W1 w.heap.size (.slice none 0 0) (.slice none 0 0) (.slice none 0 0) (.slice none 0 0) 0 0) := hid (by rw [hW1]; exact pbx_made _ _ _ _ _ _ _)
  have KP := hid (isPattern_calls W1 ve k es (he.below hB1) hS)
  have KO : Hid (∀ W, Below w.heap.size w W → Calls Try.prog 75 #[.int .i64 k, vo] W fun e w' => e = .returned (.bool (ordB k o)) ∧ w' = W) := hid fun W hW => isOrder_calls W vo o k (ho.below hW) hl hcap
  have HB1 := hid hB1
  obtain ⟨ae, ce, rfl, -⟩ := he
  obtain ⟨ao, co, rfl, -⟩ := ho
  clear hB1 hS hcap
  cases hp : patB k es
  · rw [hp] at KP
    clear hp hno
    go_enter Try.func27, Try.ntmps27
    go_upto_region 1 with fail
    rw [← hW1]
    clear hW1
    go_wp2_with fail
    refine KP.out.mono ?_
    rintro e w2 ⟨rfl, hb2⟩
    have HR2 := hid (HR1.out.below hb2)
    have HB2 := hid (bt HB1.out hb2)
    clear hb2 HR1 HB1 KP
    have d0 := HR2.out.c0
    have d1 := HR2.out.c1
    have d2 := HR2.out.c2
    have d3 := HR2.out.c3
    have d4 := HR2.out.c4
    have d5 := HR2.out.c5
    have f0 := HR2.out.free 0
    have f1 := HR2.out.free 1
    have f2 := HR2.out.free 2
    have f3 := HR2.out.free 3
    have f4 := HR2.out.free 4
    have f5 := HR2.out.free 5
    go_wp2_with fail
    refine bodyPost_ret (v := .agg #[.slice none 0 0, .slice none 0 0, .slice none 0 0, .slice none 0 0, .int .i64 0, .int .i64 0]) (by simp [results, Try.results27, go_sem, d0, d1, d2, d3, d4, d5]) rfl ⟨rfl, ?_⟩
    exact (((((HB2.out.setCell (Nat.le_refl _) _).setCell (Nat.le_refl _) _).setCell (Nat.le_refl _) _).setCell (Nat.le_refl _) _).setCell (Nat.le_refl _) _).setCell (Nat.le_refl _) _
  · rw [hp, Bool.true_and] at hno
    rw [hp] at KP
    rw [hno] at KO
    clear hp hno
    go_enter Try.func27, Try.ntmps27
    go_upto_region 1 with fail
    rw [← hW1]
    clear hW1
    go_wp2_with fail
    refine KP.out.mono ?_
    rintro e w2 ⟨rfl, hb2⟩
    have HR2 := hid (HR1.out.below hb2)
    have HB2 := hid (bt HB1.out hb2)
    clear hb2 HR1 HB1 KP
    have d0 := HR2.out.c0
    have d1 := HR2.out.c1
    have d2 := HR2.out.c2
    have d3 := HR2.out.c3
    have d4 := HR2.out.c4
    have d5 := HR2.out.c5
    have f0 := HR2.out.free 0
    have f1 := HR2.out.free 1
    have f2 := HR2.out.free 2
    have f3 := HR2.out.free 3
    have f4 := HR2.out.free 4
    have f5 := HR2.out.free 5
    go_wp2_with fail
    refine (KO.out w2 HB2.out).mono ?_
    rintro e w3 ⟨rfl, hw3⟩
    subst w3
    go_wp2_with fail
    refine bodyPost_ret (v := .agg #[.slice none 0 0, .slice none 0 0, .slice none 0 0, .slice none 0 0, .int .i64 0, .int .i64 0]) (by simp [results, Try.results27, go_sem, d0, d1, d2, d3, d4, d5]) rfl ⟨rfl, ?_⟩
    exact (((((HB2.out.setCell (Nat.le_refl _) _).setCell (Nat.le_refl _) _).setCell (Nat.le_refl _) _).setCell (Nat.le_refl _) _).setCell (Nat.le_refl _) _).setCell (Nat.le_refl _) _

end Go.Proofs.Ytliggcbiiaegeac

/-
  The bags of one order differ; their widths.
-/
namespace Go.Proofs.Ytliggcbiiaegeac
open Go.RowKit

def maskE (es : List (List Int)) (o : List Int) (i : Nat) : Nat → Bool := Elim.gAt (adjB es) (oN o) i (oN o i)
theorem mask_bag (es : List (List Int)) (o : List Int) (i : Nat) : plc (maskE es o i) 6 = bagE es o i := rfl

theorem memV_inj {a b : Nat → Bool} (h : memV a = memV b) {j : Nat} (hj : j < 6) : a j = b j := by
  unfold memV at h
  simp only [Value.agg.injEq, Array.mk.injEq, List.cons.injEq, Value.bool.injEq, and_true] at h
  obtain ⟨h0, h1, h2, h3, h4, h5⟩ := h
  obtain rfl | rfl | rfl | rfl | rfl | rfl : j = 0 ∨ j = 1 ∨ j = 2 ∨ j = 3 ∨ j = 4 ∨ j = 5 := by omega
  all_goals assumption

theorem mask_self {k : Nat} {es : List (List Int)} {o : List Int} (hO : Ord k es o) {i : Nat} (hi : i < k) : maskE es o i (oN o i) = true :=
  (Elim.bag_iff (adj_symm es) (fun j q h1 h2 => hO.nd j q h1 (by omega)) (hO.self _ (hO.at' i hi).2)).2 ⟨fun j hj => hO.nd j i hj hi, Or.inl rfl⟩

theorem mask_ne {k : Nat} {es : List (List Int)} {o : List Int} (hO : Ord k es o) {i i' : Nat} (h : i < i') (h' : i' < k) : memV (maskE es o i) ≠ memV (maskE es o i') := fun e => by
  have h1 := memV_inj e (j := oN o i) (by have := (hO.at' i (by omega)).2; have := hO.k6; omega)
  rw [mask_self hO (by omega)] at h1
  have h2 : maskE es o i' (oN o i) = false := Elim.gAt_col ⟨i, h, rfl⟩
  rw [h2] at h1
  cases h1

/-- the bags so far, the last one first -/
def masksE (es : List (List Int)) (o : List Int) : Nat → List (Nat → Bool)
  | 0 => []
  | i + 1 => maskE es o i :: masksE es o i
theorem masksE_len (es : List (List Int)) (o : List Int) : ∀ i, (masksE es o i).length = i
  | 0 => rfl
  | i + 1 => by show (masksE es o i).length + 1 = _; rw [masksE_len es o i]
theorem masksE_mem {es : List (List Int)} {o : List Int} {x : Nat → Bool} : ∀ {i : Nat}, x ∈ masksE es o i → ∃ j, j < i ∧ x = maskE es o j
  | 0, h => by cases h
  | i + 1, h => by
    rcases List.mem_cons.1 h with rfl | h
    · exact ⟨i, by omega, rfl⟩
    · obtain ⟨j, hj, e⟩ := masksE_mem h
      exact ⟨j, by omega, e⟩
/-- a bag is not known yet -/
theorem masks_miss {k : Nat} {es : List (List Int)} {o : List Int} (hO : Ord k es o) {i : Nat} (hi : i < k) : ∀ x ∈ masksE es o i, memV x ≠ memV (maskE es o i) := fun x hx => by
  obtain ⟨j, hj, rfl⟩ := masksE_mem hx
  exact mask_ne hO hj hi

theorem wdE_at {k : Nat} {es : List (List Int)} {o : List Int} {i : Nat} (hi : i < k) : wdE es o k i = wdR es (bagE es o i) := by
  unfold wdE
  congr 1
  unfold bagsE
  rw [List.getD_eq_getElem?_getD, List.getElem?_map, List.getElem?_range hi]; rfl

end Go.Proofs.Ytliggcbiiaegeac

/-
  The state of impl.planOf: result, plan, lists, widths, graph, covers.
-/
namespace Go.Proofs.Ytliggcbiiaegeac
open Go.RowKit

structure Si (w W : World) (b g : Nat) (vB : Value) (vs : List Value) (bs : List (List Int)) (vP : Value) (ps : List Int) (vH : Value) (hs : List Int) (vW : Value) (ws : List (Int × Int)) (ks : List (Nat → Bool)) (G : Nat → Nat → Bool) : Prop where
  kb : Kb b w W
  bl : b < w.heap.size
  gl : w.heap.size + 1 < g
  res : PBx W w.heap.size (.slice none 0 0) (.slice none 0 0) (.slice none 0 0) (.slice none 0 0) 0 0
  box : PBx W (w.heap.size + 1) vB vP vH vW 0 0
  pls : PlS W w.heap.size vB vs bs vP ps vH hs
  rat : W.ownsRow w.heap.size 49 2 vW ws.length (rcs ws)
  gra : GAt W g G
  cvs : Cvs W b ks

theorem Cvs.move {W W' : World} {b : Nat} {ks : List (Nat → Bool)} (h : Cvs W b ks) (hb : W'.heap[b]? = W.heap[b]?) : Cvs W' b ks := by
  obtain ⟨D, h0, h1⟩ := h
  obtain ⟨es, clock, hb', F, hs, hD⟩ := h0
  exact ⟨D, ⟨es, clock, hb.trans hb', F, hs, hD⟩, h1⟩
theorem Cvs.ne_own {W : World} {b B n s : Nat} {ks : List (Nat → Bool)} {e : TypeId} {v : Value} {xs : List Value} (h : Cvs W b ks) (hv : W.ownsRow B e s v n xs) : some b ≠ v.ownBlock := fun e1 => by
  obtain ⟨cur, hc⟩ := own_typ hv e1.symm
  obtain ⟨D, ⟨es, clock, hb', -⟩, -⟩ := h
  rw [hb'] at hc
  cases hc
theorem GAt.move {W W' : World} {g : Nat} {G : Nat → Nat → Bool} (h : GAt W g G) (hb : W'.heap[g]? = W.heap[g]?) : GAt W' g G :=
  ⟨fun a b ha hb' => (World.cell?_of_block (w := W) (a := ⟨g, a * 6 + b, none⟩) hb).trans (h.cell a b ha hb'), fun a b ha hb' => (World.frozen?_of_block (w := W) (a := ⟨g, a * 6 + b, none⟩) hb).trans (h.free a b ha hb'), by
    have h1 := h.cell 0 0 (by decide) (by decide)
    rw [← World.cell?_of_block (w := W) (w' := W') (a := ⟨g, 0 * 6 + 0, none⟩) hb] at h1
    exact World.block_lt_of_cell? W' _ h1, by obtain ⟨cur, hc⟩ := h.typ; exact ⟨cur, hb.trans hc⟩⟩

section
variable {w W W' w3 : World} {b g : Nat} {vB vP vH vW v' u : Value} {vs : List Value} {bs : List (List Int)} {ps hs l : List Int} {ws : List (Int × Int)} {ks : List (Nat → Bool)} {G : Nat → Nat → Bool} {o : Obj} {x : Int}

theorem Si.below (h : Si w W b g vB vs bs vP ps vH hs vW ws ks G) (hb : Below W.heap.size W W') : Si w W' b g vB vs bs vP ps vH hs vW ws ks G :=
  ⟨h.kb.trans (Kb.of_below hb), h.bl, h.gl, h.res.below hb, h.box.below hb, h.pls.below hb, own_below h.rat hb, h.gra.below hb, h.cvs.bel hb⟩

/-- behind an append: all that is not the grown row -/
structure Aft (w w3 : World) (b g : Nat) (vB vP vH vW : Value) (ks : List (Nat → Bool)) (G : Nat → Nat → Bool) : Prop where
  kb : Kb b w w3
  res : PBx w3 w.heap.size (.slice none 0 0) (.slice none 0 0) (.slice none 0 0) (.slice none 0 0) 0 0
  box : PBx w3 (w.heap.size + 1) vB vP vH vW 0 0
  gra : GAt w3 g G
  cvs : Cvs w3 b ks
theorem Si.aft (h : Si w W b g vB vs bs vP ps vH hs vW ws ks G) {e : TypeId} {s n : Nat} {xs : List Value} (hr : W.ownsRow w.heap.size e s u n xs) (he : e ≠ 51 ∧ e ≠ 150) (hg : (W.alloc o).grownBy w3 u.ownBlock) : Aft w w3 b g vB vP vH vW ks G := by
  obtain ⟨cur, hc⟩ := h.gra.typ
  have hgk : w3.heap[g]? = W.heap[g]? := grown_keep hg (lt_of_heap hc) (own_ne hr ⟨_, hc⟩ he.2)
  have hbk : w3.heap[b]? = W.heap[b]? := grown_keep hg h.cvs.lt (h.cvs.ne_own hr)
  refine ⟨⟨hg.os.trans h.kb.os, hg.tape.trans h.kb.tape, hg.output.trans h.kb.output, Nat.le_trans h.kb.size (by have := hg.size; simp at this; omega), fun y hy hne => ?_⟩, h.res.grown hr he.1 hg, h.box.grown hr he.1 hg, h.gra.move hgk, h.cvs.move hbk⟩
  refine (grown_keep hg (Nat.lt_of_lt_of_le hy h.kb.size) fun e1 => ?_).trans (h.kb.block y hy hne)
  have := (hr.lt y e1.symm).1
  omega
theorem Aft.store (h : Aft w w3 b g vB vP vH vW ks G) (hbl : b < w.heap.size) (hgl : w.heap.size + 1 < g) (j : Nat) (z : Value) :
    Kb b w (w3.setCell ⟨w.heap.size + 1, j, none⟩ z) ∧ PBx (w3.setCell ⟨w.heap.size + 1, j, none⟩ z) w.heap.size (.slice none 0 0) (.slice none 0 0) (.slice none 0 0) (.slice none 0 0) 0 0 ∧ GAt (w3.setCell ⟨w.heap.size + 1, j, none⟩ z) g G ∧ Cvs (w3.setCell ⟨w.heap.size + 1, j, none⟩ z) b ks := by
  exact ⟨h.kb.setNew (Nat.le_succ _) _, h.res.other (by omega) _, h.gra.other (by show w.heap.size + 1 ≠ g; omega) _, h.cvs.set (by show b ≠ w.heap.size + 1; omega) _⟩

theorem Si.pushB (h : Si w W b g vB vs bs vP ps vH hs vW ws ks G) (hu : W.ownsRow w.heap.size 3 1 u l.length (l.map (Value.int .i64))) (aP : Ap u vP) (aH : Ap u vH) (aB : ∀ i, i < bs.length → Ap (vs.getD i undef) u)
    (hown : w3.ownsRow w.heap.size 38 1 v' (bs.length + 1) (vs ++ [u])) (hg : (W.alloc o).grownBy w3 vB.ownBlock) : Si w (w3.setCell ⟨w.heap.size + 1, 0, none⟩ v') b g v' (vs ++ [u]) (bs ++ [l]) vP ps vH hs vW ws ks G := by
  have ha := h.aft h.pls.rl.own ⟨by decide, by decide⟩ hg
  obtain ⟨s1, s2, s3, s5⟩ := ha.store h.bl h.gl 0 v'
  have hr : w3.ownsRow w.heap.size 49 2 vW ws.length (rcs ws) := own_move h.rat fun q hq => grown_keep hg (h.rat.lt q hq).2 (own_ne h.pls.rl.own (own_typ h.rat hq) (by decide))
  exact ⟨s1, h.bl, h.gl, s2, ha.box.set0 _, (h.pls.growB hu aP aH aB hown hg).store ha.box.typ ⟨by decide, by decide⟩ _, own_store hr ha.box.typ (by decide), s3, s5⟩
theorem Si.pushP (h : Si w W b g vB vs bs vP ps vH hs vW ws ks G) (hown : w3.ownsRow w.heap.size 3 1 v' (ps.length + 1) (ps.map (Value.int .i64) ++ [.int .i64 x])) (hg : (W.alloc o).grownBy w3 vP.ownBlock) (hat : ∀ g, v'.ownBlock = some g → vP.ownBlock = some g ∨ W.heap.size ≤ g) : Si w (w3.setCell ⟨w.heap.size + 1, 1, none⟩ v') b g vB vs bs v' (ps ++ [x]) vH hs vW ws ks G := by
  have ha := h.aft h.pls.ownP ⟨by decide, by decide⟩ hg
  obtain ⟨s1, s2, s3, s5⟩ := ha.store h.bl h.gl 1 v'
  have hr : w3.ownsRow w.heap.size 49 2 vW ws.length (rcs ws) := own_move h.rat fun q hq => grown_keep hg (h.rat.lt q hq).2 (own_ne h.pls.ownP (own_typ h.rat hq) (by decide))
  exact ⟨s1, h.bl, h.gl, s2, ha.box.set1 _, (h.pls.growP hown hg hat).store ha.box.typ ⟨by decide, by decide⟩ _, own_store hr ha.box.typ (by decide), s3, s5⟩
theorem Si.pushH (h : Si w W b g vB vs bs vP ps vH hs vW ws ks G) (hown : w3.ownsRow w.heap.size 3 1 v' (hs.length + 1) (hs.map (Value.int .i64) ++ [.int .i64 x])) (hg : (W.alloc o).grownBy w3 vH.ownBlock) (hat : ∀ g, v'.ownBlock = some g → vH.ownBlock = some g ∨ W.heap.size ≤ g) : Si w (w3.setCell ⟨w.heap.size + 1, 2, none⟩ v') b g vB vs bs vP ps v' (hs ++ [x]) vW ws ks G := by
  have ha := h.aft h.pls.ownH ⟨by decide, by decide⟩ hg
  obtain ⟨s1, s2, s3, s5⟩ := ha.store h.bl h.gl 2 v'
  have hr : w3.ownsRow w.heap.size 49 2 vW ws.length (rcs ws) := own_move h.rat fun q hq => grown_keep hg (h.rat.lt q hq).2 (own_ne h.pls.ownH (own_typ h.rat hq) (by decide))
  exact ⟨s1, h.bl, h.gl, s2, ha.box.set2 _, (h.pls.growH hown hg hat).store ha.box.typ ⟨by decide, by decide⟩ _, own_store hr ha.box.typ (by decide), s3, s5⟩
theorem Si.pushW {q : Int × Int} (h : Si w W b g vB vs bs vP ps vH hs vW ws ks G) (hown : w3.ownsRow w.heap.size 49 2 v' (ws ++ [q]).length (rcs (ws ++ [q]))) (hg : (W.alloc o).grownBy w3 vW.ownBlock) : Si w (w3.setCell ⟨w.heap.size + 1, 3, none⟩ v') b g vB vs bs vP ps vH hs v' (ws ++ [q]) ks G := by
  have ha := h.aft h.rat ⟨by decide, by decide⟩ hg
  obtain ⟨s1, s2, s3, s5⟩ := ha.store h.bl h.gl 3 v'
  exact ⟨s1, h.bl, h.gl, s2, ha.box.set3 _, (h.pls.far h.rat ⟨by decide, by decide⟩ hg).store ha.box.typ ⟨by decide, by decide⟩ _, own_store hown ha.box.typ (by decide), s3, s5⟩

theorem Si.cov {ks' : List (Nat → Bool)} (h : Si w W b g vB vs bs vP ps vH hs vW ws ks G) (hK : Kb b W W') (hC : Cvs W' b ks') : Si w W' b g vB vs bs vP ps vH hs vW ws ks' G := by
  have far : ∀ {q : Nat} {cur : Array Value} {e : TypeId}, W.heap[q]? = some (.cells cur e (0, 0)) → W'.heap[q]? = W.heap[q]? := fun {q cur e} hq => hK.block q (lt_of_heap hq) (by
    rintro rfl
    obtain ⟨D, ⟨es, clock, hb', -⟩, -⟩ := h.cvs
    rw [hb'] at hq
    cases hq)
  obtain ⟨c1, t1⟩ := h.res.typ
  obtain ⟨c2, t2⟩ := h.box.typ
  obtain ⟨c3, t3⟩ := h.gra.typ
  exact ⟨h.kb.trans hK, h.bl, h.gl, h.res.move (far t1), h.box.move (far t2), h.pls.moved fun q cur e hq _ => far hq, own_move h.rat fun q hq => by obtain ⟨cur, hc⟩ := own_typ h.rat hq; exact far hc, h.gra.move (far t3), hC⟩
theorem Si.elim {G' : Nat → Nat → Bool} (h : Si w W b g vB vs bs vP ps vH hs vW ws ks G) (hK : Kb g W W') (hG : GAt W' g G') : Si w W' b g vB vs bs vP ps vH hs vW ws ks G' := by
  obtain ⟨c3, t3⟩ := h.gra.typ
  have far : ∀ {q : Nat} {cur : Array Value} {e : TypeId}, W.heap[q]? = some (.cells cur e (0, 0)) → e ≠ 150 → W'.heap[q]? = W.heap[q]? := fun {q cur e} hq he => hK.block q (lt_of_heap hq) (by
    rintro rfl
    rw [t3] at hq
    simp only [Option.some.injEq, Obj.cells.injEq] at hq
    exact he hq.2.1.symm)
  obtain ⟨c1, t1⟩ := h.res.typ
  obtain ⟨c2, t2⟩ := h.box.typ
  have hbg : b ≠ g := by have := h.bl; have := h.gl; omega
  have hk : Kb b w W' := ⟨hK.os.trans h.kb.os, hK.tape.trans h.kb.tape, hK.output.trans h.kb.output, Nat.le_trans h.kb.size hK.size, fun q hq hne => (hK.block q (Nat.lt_of_lt_of_le hq h.kb.size) (by have := h.gl; omega)).trans (h.kb.block q hq hne)⟩
  exact ⟨hk, h.bl, h.gl, h.res.move (far t1 (by decide)), h.box.move (far t2 (by decide)), h.pls.moved fun q cur e hq he => far hq (by rcases he with rfl | rfl <;> decide), own_move h.rat fun q hq => by obtain ⟨cur, hc⟩ := own_typ h.rat hq; exact far hc (by decide), hG, h.cvs.move (hK.block b h.cvs.lt hbg)⟩
end

end Go.Proofs.Ytliggcbiiaegeac
