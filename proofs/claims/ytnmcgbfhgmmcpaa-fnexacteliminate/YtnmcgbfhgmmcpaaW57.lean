import Derived.Test.YtnmcgbfhgmmcpaaW56
/-
  impl.Eliminate where there is no pattern or no order.
-/
namespace Go.Proofs.Ytnmcgbfhgmmcpaa
open Go.RowKit

set_option maxHeartbeats 8000000 in
set_option maxRecDepth 1000000 in
theorem iEliminate_no (w : World) (ve vo : Value) (es : List (List Int)) (o : List Int) (k : Int) (he : ISS w ve es) (hS : Short es) (ho : IS w vo o) (hl : o.length ≤ 1099511627776) (hno : (patB k es && ordB k o) = false) (hcap : ∀ a n cap, vo = .slice a n cap → n ≤ cap) :
    Calls Try.prog 29 #[.int .i64 k, ve, vo] w fun e w' => e = .returned (.agg #[.slice none 0 0, .slice none 0 0, .slice none 0 0, .slice none 0 0, .int .i64 0, .int .i64 0]) ∧ Below w.heap.size w w' := by
  obtain ⟨W1, hW1⟩ : ∃ W1, W1 = w.alloc (.cells #[.slice none 0 0, .slice none 0 0, .slice none 0 0, .slice none 0 0, .int .i64 0, .int .i64 0] 53) := ⟨_, rfl⟩
  have hB1 : Below w.heap.size w W1 := by rw [hW1]; exact (Below.refl _ _).alloc (Nat.le_refl _) _
  have HR1 : Hid (PBx W1 w.heap.size (.slice none 0 0) (.slice none 0 0) (.slice none 0 0) (.slice none 0 0) 0 0) := hid (by rw [hW1]; exact pbx_made _ _ _ _ _ _ _)
  have KP := hid (isPattern_calls W1 ve k es (he.below hB1) hS)
  have KO : Hid (∀ W, Below w.heap.size w W → Calls Try.prog 77 #[.int .i64 k, vo] W fun e w' => e = .returned (.bool (ordB k o)) ∧ w' = W) := hid fun W hW => isOrder_calls W vo o k (ho.below hW) hl hcap
  have HB1 := hid hB1
  obtain ⟨ae, ce, rfl, -⟩ := he
  obtain ⟨ao, co, rfl, -⟩ := ho
  clear hB1 hS hcap
  cases hp : patB k es
  · rw [hp] at KP
    clear hp hno
    go_enter Try.func29, Try.ntmps29
    go_upto_region 1 with fail
    rw [← hW1]
    clear hW1
    go_wp2_with fail
    refine KP.out.mono ?_
    rintro e w2 ⟨rfl, hb2⟩
    have HR2 := hid (HR1.out.below hb2)
    have HB2 := hid (bt HB1.out hb2)
    clear hb2 HR1 HB1 KP
    have d0 := HR2.out.c0
    have d1 := HR2.out.c1
    have d2 := HR2.out.c2
    have d3 := HR2.out.c3
    have d4 := HR2.out.c4
    have d5 := HR2.out.c5
    have f0 := HR2.out.free 0
    have f1 := HR2.out.free 1
    have f2 := HR2.out.free 2
    have f3 := HR2.out.free 3
    have f4 := HR2.out.free 4
    have f5 := HR2.out.free 5
    go_wp2_with fail
    refine bodyPost_ret (v := .agg #[.slice none 0 0, .slice none 0 0, .slice none 0 0, .slice none 0 0, .int .i64 0, .int .i64 0]) (by simp [results, Try.results29, go_sem, d0, d1, d2, d3, d4, d5]) rfl ⟨rfl, ?_⟩
    exact (((((HB2.out.setCell (Nat.le_refl _) _).setCell (Nat.le_refl _) _).setCell (Nat.le_refl _) _).setCell (Nat.le_refl _) _).setCell (Nat.le_refl _) _).setCell (Nat.le_refl _) _
  · rw [hp, Bool.true_and] at hno
    rw [hp] at KP
    rw [hno] at KO
    clear hp hno
    go_enter Try.func29, Try.ntmps29
    go_upto_region 1 with fail
    rw [← hW1]
    clear hW1
    go_wp2_with fail
    refine KP.out.mono ?_
    rintro e w2 ⟨rfl, hb2⟩
    have HR2 := hid (HR1.out.below hb2)
    have HB2 := hid (bt HB1.out hb2)
    clear hb2 HR1 HB1 KP
    have d0 := HR2.out.c0
    have d1 := HR2.out.c1
    have d2 := HR2.out.c2
    have d3 := HR2.out.c3
    have d4 := HR2.out.c4
    have d5 := HR2.out.c5
    have f0 := HR2.out.free 0
    have f1 := HR2.out.free 1
    have f2 := HR2.out.free 2
    have f3 := HR2.out.free 3
    have f4 := HR2.out.free 4
    have f5 := HR2.out.free 5
    go_wp2_with fail
    refine (KO.out w2 HB2.out).mono ?_
    rintro e w3 ⟨rfl, hw3⟩
    subst w3
    go_wp2_with fail
    refine bodyPost_ret (v := .agg #[.slice none 0 0, .slice none 0 0, .slice none 0 0, .slice none 0 0, .int .i64 0, .int .i64 0]) (by simp [results, Try.results29, go_sem, d0, d1, d2, d3, d4, d5]) rfl ⟨rfl, ?_⟩
    exact (((((HB2.out.setCell (Nat.le_refl _) _).setCell (Nat.le_refl _) _).setCell (Nat.le_refl _) _).setCell (Nat.le_refl _) _).setCell (Nat.le_refl _) _).setCell (Nat.le_refl _) _

end Go.Proofs.Ytnmcgbfhgmmcpaa

/-
  The bags of one order differ; their widths.
-/
namespace Go.Proofs.Ytnmcgbfhgmmcpaa
open Go.RowKit

def maskE (es : List (List Int)) (o : List Int) (i : Nat) : Nat → Bool := Elim.gAt (adjB es) (oN o) i (oN o i)
theorem mask_bag (es : List (List Int)) (o : List Int) (i : Nat) : plc (maskE es o i) 6 = bagE es o i := rfl

theorem memV_inj {a b : Nat → Bool} (h : memV a = memV b) {j : Nat} (hj : j < 6) : a j = b j := by
  unfold memV at h
  simp only [Value.agg.injEq, Array.mk.injEq, List.cons.injEq, Value.bool.injEq, and_true] at h
  obtain ⟨h0, h1, h2, h3, h4, h5⟩ := h
  obtain rfl | rfl | rfl | rfl | rfl | rfl : j = 0 ∨ j = 1 ∨ j = 2 ∨ j = 3 ∨ j = 4 ∨ j = 5 := by omega
  all_goals assumption

theorem mask_self {k : Nat} {es : List (List Int)} {o : List Int} (hO : Ord k es o) {i : Nat} (hi : i < k) : maskE es o i (oN o i) = true :=
  (Elim.bag_iff (adj_symm es) (fun j q h1 h2 => hO.nd j q h1 (by omega)) (hO.self _ (hO.at' i hi).2)).2 ⟨fun j hj => hO.nd j i hj hi, Or.inl rfl⟩

theorem mask_ne {k : Nat} {es : List (List Int)} {o : List Int} (hO : Ord k es o) {i i' : Nat} (h : i < i') (h' : i' < k) : memV (maskE es o i) ≠ memV (maskE es o i') := fun e => by
  have h1 := memV_inj e (j := oN o i) (by have := (hO.at' i (by omega)).2; have := hO.k6; omega)
  rw [mask_self hO (by omega)] at h1
  have h2 : maskE es o i' (oN o i) = false := Elim.gAt_col ⟨i, h, rfl⟩
  rw [h2] at h1
  cases h1

/-- the bags so far, the last one first -/
def masksE (es : List (List Int)) (o : List Int) : Nat → List (Nat → Bool)
  | 0 => []
  | i + 1 => maskE es o i :: masksE es o i
theorem masksE_len (es : List (List Int)) (o : List Int) : ∀ i, (masksE es o i).length = i
  | 0 => rfl
  | i + 1 => by show (masksE es o i).length + 1 = _; rw [masksE_len es o i]
theorem masksE_mem {es : List (List Int)} {o : List Int} {x : Nat → Bool} : ∀ {i : Nat}, x ∈ masksE es o i → ∃ j, j < i ∧ x = maskE es o j
  | 0, h => by cases h
  | i + 1, h => by
    rcases List.mem_cons.1 h with rfl | h
    · exact ⟨i, by omega, rfl⟩
    · obtain ⟨j, hj, e⟩ := masksE_mem h
      exact ⟨j, by omega, e⟩
/-- a bag is not known yet -/
theorem masks_miss {k : Nat} {es : List (List Int)} {o : List Int} (hO : Ord k es o) {i : Nat} (hi : i < k) : ∀ x ∈ masksE es o i, memV x ≠ memV (maskE es o i) := fun x hx => by
  obtain ⟨j, hj, rfl⟩ := masksE_mem hx
  exact mask_ne hO hj hi

theorem wdE_at {k : Nat} {es : List (List Int)} {o : List Int} {i : Nat} (hi : i < k) : wdE es o k i = wdR es (bagE es o i) := by
  unfold wdE
  congr 1
  unfold bagsE
  rw [List.getD_eq_getElem?_getD, List.getElem?_map, List.getElem?_range hi]; rfl

end Go.Proofs.Ytnmcgbfhgmmcpaa

/-
  The state of impl.planOf: result, plan, lists, widths, graph, covers.
-/
namespace Go.Proofs.Ytnmcgbfhgmmcpaa
open Go.RowKit

structure Si (w W : World) (b g : Nat) (vB : Value) (vs : List Value) (bs : List (List Int)) (vP : Value) (ps : List Int) (vH : Value) (hs : List Int) (vW : Value) (ws : List (Int × Int)) (ks : List (Nat → Bool)) (G : Nat → Nat → Bool) : Prop where
  kb : Kb b w W
  bl : b < w.heap.size
  gl : w.heap.size + 1 < g
  res : PBx W w.heap.size (.slice none 0 0) (.slice none 0 0) (.slice none 0 0) (.slice none 0 0) 0 0
  box : PBx W (w.heap.size + 1) vB vP vH vW 0 0
  pls : PlS W w.heap.size vB vs bs vP ps vH hs
  rat : W.ownsRow w.heap.size 28 2 vW ws.length (rcs ws)
  gra : GAt W g G
  cvs : Cvs W b ks

theorem Cvs.move {W W' : World} {b : Nat} {ks : List (Nat → Bool)} (h : Cvs W b ks) (hb : W'.heap[b]? = W.heap[b]?) : Cvs W' b ks := by
  obtain ⟨D, h0, h1⟩ := h
  obtain ⟨es, clock, hb', F, hs, hD⟩ := h0
  exact ⟨D, ⟨es, clock, hb.trans hb', F, hs, hD⟩, h1⟩
theorem Cvs.ne_own {W : World} {b B n s : Nat} {ks : List (Nat → Bool)} {e : TypeId} {v : Value} {xs : List Value} (h : Cvs W b ks) (hv : W.ownsRow B e s v n xs) : some b ≠ v.ownBlock := fun e1 => by
  obtain ⟨cur, hc⟩ := own_typ hv e1.symm
  obtain ⟨D, ⟨es, clock, hb', -⟩, -⟩ := h
  rw [hb'] at hc
  cases hc
theorem GAt.move {W W' : World} {g : Nat} {G : Nat → Nat → Bool} (h : GAt W g G) (hb : W'.heap[g]? = W.heap[g]?) : GAt W' g G :=
  ⟨fun a b ha hb' => (World.cell?_of_block (w := W) (a := ⟨g, a * 6 + b, none⟩) hb).trans (h.cell a b ha hb'), fun a b ha hb' => (World.frozen?_of_block (w := W) (a := ⟨g, a * 6 + b, none⟩) hb).trans (h.free a b ha hb'), by
    have h1 := h.cell 0 0 (by decide) (by decide)
    rw [← World.cell?_of_block (w := W) (w' := W') (a := ⟨g, 0 * 6 + 0, none⟩) hb] at h1
    exact World.block_lt_of_cell? W' _ h1, by obtain ⟨cur, hc⟩ := h.typ; exact ⟨cur, hb.trans hc⟩⟩

section
variable {w W W' w3 : World} {b g : Nat} {vB vP vH vW v' u : Value} {vs : List Value} {bs : List (List Int)} {ps hs l : List Int} {ws : List (Int × Int)} {ks : List (Nat → Bool)} {G : Nat → Nat → Bool} {o : Obj} {x : Int}

theorem Si.below (h : Si w W b g vB vs bs vP ps vH hs vW ws ks G) (hb : Below W.heap.size W W') : Si w W' b g vB vs bs vP ps vH hs vW ws ks G :=
  ⟨h.kb.trans (Kb.of_below hb), h.bl, h.gl, h.res.below hb, h.box.below hb, h.pls.below hb, own_below h.rat hb, h.gra.below hb, h.cvs.bel hb⟩

/-- behind an append: all that is not the grown row -/
structure Aft (w w3 : World) (b g : Nat) (vB vP vH vW : Value) (ks : List (Nat → Bool)) (G : Nat → Nat → Bool) : Prop where
  kb : Kb b w w3
  res : PBx w3 w.heap.size (.slice none 0 0) (.slice none 0 0) (.slice none 0 0) (.slice none 0 0) 0 0
  box : PBx w3 (w.heap.size + 1) vB vP vH vW 0 0
  gra : GAt w3 g G
  cvs : Cvs w3 b ks
theorem Si.aft (h : Si w W b g vB vs bs vP ps vH hs vW ws ks G) {e : TypeId} {s n : Nat} {xs : List Value} (hr : W.ownsRow w.heap.size e s u n xs) (he : e ≠ 53 ∧ e ≠ 136) (hg : (W.alloc o).grownBy w3 u.ownBlock) : Aft w w3 b g vB vP vH vW ks G := by
  obtain ⟨cur, hc⟩ := h.gra.typ
  have hgk : w3.heap[g]? = W.heap[g]? := grown_keep hg (lt_of_heap hc) (own_ne hr ⟨_, hc⟩ he.2)
  have hbk : w3.heap[b]? = W.heap[b]? := grown_keep hg h.cvs.lt (h.cvs.ne_own hr)
  refine ⟨⟨hg.os.trans h.kb.os, hg.tape.trans h.kb.tape, hg.output.trans h.kb.output, Nat.le_trans h.kb.size (by have := hg.size; simp at this; omega), fun y hy hne => ?_⟩, h.res.grown hr he.1 hg, h.box.grown hr he.1 hg, h.gra.move hgk, h.cvs.move hbk⟩
  refine (grown_keep hg (Nat.lt_of_lt_of_le hy h.kb.size) fun e1 => ?_).trans (h.kb.block y hy hne)
  have := (hr.lt y e1.symm).1
  omega
theorem Aft.store (h : Aft w w3 b g vB vP vH vW ks G) (hbl : b < w.heap.size) (hgl : w.heap.size + 1 < g) (j : Nat) (z : Value) :
    Kb b w (w3.setCell ⟨w.heap.size + 1, j, none⟩ z) ∧ PBx (w3.setCell ⟨w.heap.size + 1, j, none⟩ z) w.heap.size (.slice none 0 0) (.slice none 0 0) (.slice none 0 0) (.slice none 0 0) 0 0 ∧ GAt (w3.setCell ⟨w.heap.size + 1, j, none⟩ z) g G ∧ Cvs (w3.setCell ⟨w.heap.size + 1, j, none⟩ z) b ks := by
  exact ⟨h.kb.setNew (Nat.le_succ _) _, h.res.other (by omega) _, h.gra.other (by show w.heap.size + 1 ≠ g; omega) _, h.cvs.set (by show b ≠ w.heap.size + 1; omega) _⟩

theorem Si.pushB (h : Si w W b g vB vs bs vP ps vH hs vW ws ks G) (hu : W.ownsRow w.heap.size 3 1 u l.length (l.map (Value.int .i64))) (aP : Ap u vP) (aH : Ap u vH) (aB : ∀ i, i < bs.length → Ap (vs.getD i undef) u)
    (hown : w3.ownsRow w.heap.size 23 1 v' (bs.length + 1) (vs ++ [u])) (hg : (W.alloc o).grownBy w3 vB.ownBlock) : Si w (w3.setCell ⟨w.heap.size + 1, 0, none⟩ v') b g v' (vs ++ [u]) (bs ++ [l]) vP ps vH hs vW ws ks G := by
  have ha := h.aft h.pls.rl.own ⟨by decide, by decide⟩ hg
  obtain ⟨s1, s2, s3, s5⟩ := ha.store h.bl h.gl 0 v'
  have hr : w3.ownsRow w.heap.size 28 2 vW ws.length (rcs ws) := own_move h.rat fun q hq => grown_keep hg (h.rat.lt q hq).2 (own_ne h.pls.rl.own (own_typ h.rat hq) (by decide))
  exact ⟨s1, h.bl, h.gl, s2, ha.box.set0 _, (h.pls.growB hu aP aH aB hown hg).store ha.box.typ ⟨by decide, by decide⟩ _, own_store hr ha.box.typ (by decide), s3, s5⟩
theorem Si.pushP (h : Si w W b g vB vs bs vP ps vH hs vW ws ks G) (hown : w3.ownsRow w.heap.size 3 1 v' (ps.length + 1) (ps.map (Value.int .i64) ++ [.int .i64 x])) (hg : (W.alloc o).grownBy w3 vP.ownBlock) (hat : ∀ g, v'.ownBlock = some g → vP.ownBlock = some g ∨ W.heap.size ≤ g) : Si w (w3.setCell ⟨w.heap.size + 1, 1, none⟩ v') b g vB vs bs v' (ps ++ [x]) vH hs vW ws ks G := by
  have ha := h.aft h.pls.ownP ⟨by decide, by decide⟩ hg
  obtain ⟨s1, s2, s3, s5⟩ := ha.store h.bl h.gl 1 v'
  have hr : w3.ownsRow w.heap.size 28 2 vW ws.length (rcs ws) := own_move h.rat fun q hq => grown_keep hg (h.rat.lt q hq).2 (own_ne h.pls.ownP (own_typ h.rat hq) (by decide))
  exact ⟨s1, h.bl, h.gl, s2, ha.box.set1 _, (h.pls.growP hown hg hat).store ha.box.typ ⟨by decide, by decide⟩ _, own_store hr ha.box.typ (by decide), s3, s5⟩
theorem Si.pushH (h : Si w W b g vB vs bs vP ps vH hs vW ws ks G) (hown : w3.ownsRow w.heap.size 3 1 v' (hs.length + 1) (hs.map (Value.int .i64) ++ [.int .i64 x])) (hg : (W.alloc o).grownBy w3 vH.ownBlock) (hat : ∀ g, v'.ownBlock = some g → vH.ownBlock = some g ∨ W.heap.size ≤ g) : Si w (w3.setCell ⟨w.heap.size + 1, 2, none⟩ v') b g vB vs bs vP ps v' (hs ++ [x]) vW ws ks G := by
  have ha := h.aft h.pls.ownH ⟨by decide, by decide⟩ hg
  obtain ⟨s1, s2, s3, s5⟩ := ha.store h.bl h.gl 2 v'
  have hr : w3.ownsRow w.heap.size 28 2 vW ws.length (rcs ws) := own_move h.rat fun q hq => grown_keep hg (h.rat.lt q hq).2 (own_ne h.pls.ownH (own_typ h.rat hq) (by decide))
  exact ⟨s1, h.bl, h.gl, s2, ha.box.set2 _, (h.pls.growH hown hg hat).store ha.box.typ ⟨by decide, by decide⟩ _, own_store hr ha.box.typ (by decide), s3, s5⟩
theorem Si.pushW {q : Int × Int} (h : Si w W b g vB vs bs vP ps vH hs vW ws ks G) (hown : w3.ownsRow w.heap.size 28 2 v' (ws ++ [q]).length (rcs (ws ++ [q]))) (hg : (W.alloc o).grownBy w3 vW.ownBlock) : Si w (w3.setCell ⟨w.heap.size + 1, 3, none⟩ v') b g vB vs bs vP ps vH hs v' (ws ++ [q]) ks G := by
  have ha := h.aft h.rat ⟨by decide, by decide⟩ hg
  obtain ⟨s1, s2, s3, s5⟩ := ha.store h.bl h.gl 3 v'
  exact ⟨s1, h.bl, h.gl, s2, ha.box.set3 _, (h.pls.far h.rat ⟨by decide, by decide⟩ hg).store ha.box.typ ⟨by decide, by decide⟩ _, own_store hown ha.box.typ (by decide), s3, s5⟩

theorem Si.cov {ks' : List (Nat → Bool)} (h : Si w W b g vB vs bs vP ps vH hs vW ws ks G) (hK : Kb b W W') (hC : Cvs W' b ks') : Si w W' b g vB vs bs vP ps vH hs vW ws ks' G := by
  have far : ∀ {q : Nat} {cur : Array Value} {e : TypeId}, W.heap[q]? = some (.cells cur e (0, 0)) → W'.heap[q]? = W.heap[q]? := fun {q cur e} hq => hK.block q (lt_of_heap hq) (by
    rintro rfl
    obtain ⟨D, ⟨es, clock, hb', -⟩, -⟩ := h.cvs
    rw [hb'] at hq
    cases hq)
  obtain ⟨c1, t1⟩ := h.res.typ
  obtain ⟨c2, t2⟩ := h.box.typ
  obtain ⟨c3, t3⟩ := h.gra.typ
  exact ⟨h.kb.trans hK, h.bl, h.gl, h.res.move (far t1), h.box.move (far t2), h.pls.moved fun q cur e hq _ => far hq, own_move h.rat fun q hq => by obtain ⟨cur, hc⟩ := own_typ h.rat hq; exact far hc, h.gra.move (far t3), hC⟩
theorem Si.elim {G' : Nat → Nat → Bool} (h : Si w W b g vB vs bs vP ps vH hs vW ws ks G) (hK : Kb g W W') (hG : GAt W' g G') : Si w W' b g vB vs bs vP ps vH hs vW ws ks G' := by
  obtain ⟨c3, t3⟩ := h.gra.typ
  have far : ∀ {q : Nat} {cur : Array Value} {e : TypeId}, W.heap[q]? = some (.cells cur e (0, 0)) → e ≠ 136 → W'.heap[q]? = W.heap[q]? := fun {q cur e} hq he => hK.block q (lt_of_heap hq) (by
    rintro rfl
    rw [t3] at hq
    simp only [Option.some.injEq, Obj.cells.injEq] at hq
    exact he hq.2.1.symm)
  obtain ⟨c1, t1⟩ := h.res.typ
  obtain ⟨c2, t2⟩ := h.box.typ
  have hbg : b ≠ g := by have := h.bl; have := h.gl; omega
  have hk : Kb b w W' := ⟨hK.os.trans h.kb.os, hK.tape.trans h.kb.tape, hK.output.trans h.kb.output, Nat.le_trans h.kb.size hK.size, fun q hq hne => (hK.block q (Nat.lt_of_lt_of_le hq h.kb.size) (by have := h.gl; omega)).trans (h.kb.block q hq hne)⟩
  exact ⟨hk, h.bl, h.gl, h.res.move (far t1 (by decide)), h.box.move (far t2 (by decide)), h.pls.moved fun q cur e hq he => far hq (by rcases he with rfl | rfl <;> decide), own_move h.rat fun q hq => by obtain ⟨cur, hc⟩ := own_typ h.rat hq; exact far hc (by decide), hG, h.cvs.move (hK.block b h.cvs.lt hbg)⟩
end

end Go.Proofs.Ytnmcgbfhgmmcpaa
