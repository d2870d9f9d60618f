import Derived.Test.YtnmcgbfhgmmcpaaW45
import Derived.Test.YtnmcgbfhgmmcpaaW53
/-
  impl: (graph).eliminate.
-/
namespace Go.Proofs.Ytnmcgbfhgmmcpaa
open Go.RowKit

theorem Kb.setNew {k : Nat} {w w' : World} (h : Kb k w w') {p : Addr} (hp : w.heap.size ≤ p.block) (v : Value) : Kb k w (w'.setCell p v) :=
  ⟨h.os, h.tape, h.output, by simpa [World.setCell] using h.size, fun b hb hne => (Below.heap_setCell _ _ _ _ (by omega)).trans (h.block b hb hne)⟩
theorem GAt.other {W : World} {g : Nat} {G : Nat → Nat → Bool} (h : GAt W g G) {p : Addr} (hp : p.block ≠ g) (v : Value) : GAt (W.setCell p v) g G :=
  ⟨fun a b ha hb => (World.cell?_setCell_other _ _ _ _ (by intro e; subst e; exact hp rfl)).trans (h.cell a b ha hb), fun a b ha hb => by rw [World.frozen?_setCell]; exact h.free a b ha hb, by rw [World.size_setCell]; exact h.lt, by obtain ⟨cur, hc⟩ := h.typ; exact ⟨cur, (Below.heap_setCell _ _ _ _ (Ne.symm hp)).trans hc⟩⟩
theorem BAt.kb {W W' : World} {b k g : Nat} {R : Nat → Bool} (h : BAt W b k R) (hK : Kb g W W') (hg : b ≠ g) : BAt W' b k R :=
  ⟨fun j hj => (hK.cell (p := ⟨b, j, none⟩) h.lt hg).trans (h.cell j hj), fun j hj => (World.frozen?_of_block (w := W) (a := ⟨b, j, none⟩) (hK.block b h.lt hg)).trans (h.free j hj), Nat.lt_of_lt_of_le h.lt hK.size⟩
theorem BAt.other {W : World} {b k : Nat} {R : Nat → Bool} (h : BAt W b k R) {p : Addr} (hp : p.block ≠ b) (v : Value) : BAt (W.setCell p v) b k R :=
  ⟨fun j hj => (World.cell?_setCell_other _ _ _ _ (by intro e; subst e; exact hp rfl)).trans (h.cell j hj), fun j hj => by rw [World.frozen?_setCell]; exact h.free j hj, by rw [World.size_setCell]; exact h.lt⟩
theorem BAt.made (W : World) (m : Nat → Bool) (t : TypeId) : BAt (W.alloc (.cells #[.bool (m 0), .bool (m 1), .bool (m 2), .bool (m 3), .bool (m 4), .bool (m 5)] t)) W.heap.size 6 m := by
  have hb0 := heap_alloc_new W (.cells #[.bool (m 0), .bool (m 1), .bool (m 2), .bool (m 3), .bool (m 4), .bool (m 5)] t)
  exact ⟨fun j hj => by rw [cell_of_row _ _ _ _ _ _ hb0]; exact memA_get m hj, fun j _ => by unfold World.frozen?; rw [hb0]; simp, by simp⟩

/-- a column is cleared -/
def clr (G : Nat → Nat → Bool) (x a0 : Nat) : Nat → Nat → Bool := fun a b => if a < a0 ∧ b = x then false else G a b
theorem clr_step (G : Nat → Nat → Bool) (x a0 a b : Nat) : clr G x (a0 + 1) a b = upd2 (clr G x a0) a0 x false a b := by
  unfold clr upd2
  by_cases e : a = a0 ∧ b = x
  · obtain ⟨rfl, rfl⟩ := e; simp
  · rw [if_neg e]
    show _ = if a < a0 ∧ b = x then false else G a b
    by_cases e2 : a < a0 ∧ b = x
    · rw [if_pos e2, if_pos ⟨by omega, e2.2⟩]
    · rw [if_neg e2, if_neg (by intro h; by_cases e3 : a = a0; exact e ⟨e3, h.2⟩; exact e2 ⟨by omega, h.2⟩)]
theorem mem_plc6 {m : Nat → Bool} {a : Nat} (h : a < 6) : decide ((a : Int) ∈ plc m 6) = m a := by
  rw [Bool.eq_iff_iff, decide_eq_true_eq]
  unfold plc
  rw [List.mem_map]
  constructor
  · rintro ⟨j, hj, e⟩
    rw [List.mem_filter] at hj
    simp only [Int.ofNat_eq_natCast] at e
    obtain rfl : j = a := by omega
    exact hj.2
  · intro h2
    exact ⟨a, List.mem_filter.2 ⟨List.mem_range.2 h, h2⟩, rfl⟩
theorem plc_rng {m : Nat → Bool} {x : Int} (h : x ∈ plc m 6) : 0 ≤ x ∧ x < 6 := by
  unfold plc at h
  rw [List.mem_map] at h
  obtain ⟨j, hj, e⟩ := h
  rw [List.mem_filter, List.mem_range] at hj
  simp only [Int.ofNat_eq_natCast] at e
  omega
theorem elim_clr (G : Nat → Nat → Bool) {x a b : Nat} (ha : a < 6) (hb : b < 6) : Elim.elimG x G a b = clr (conG G (plc (G x) 6)) x 6 a b := by
  unfold clr Elim.elimG conG
  rw [mem_plc6 ha, mem_plc6 hb]
  by_cases e : b = x
  · rw [if_pos ⟨ha, e⟩, e]; simp
  · rw [if_neg (fun h => e h.2)]
    rw [show (b != x) = true by simpa using e, Bool.true_and]

set_option maxHeartbeats 4000000 in
set_option maxRecDepth 1000000 in
theorem eliminate_calls (w : World) (g : Nat) (G : Nat → Nat → Bool) (x : Nat) (hG : GAt w g G) (hx : x < 6) :
    Calls Try.prog 103 #[.pointer (some ⟨g, 0, none⟩), .int .i64 x] w fun e w' => e = .returned (memV (G x)) ∧ Kb g w w' ∧ GAt w' g (Elim.elimG x G) := by
  obtain ⟨W1, hW1⟩ : ∃ W1, W1 = w.alloc (.cells #[.bool false, .bool false, .bool false, .bool false, .bool false, .bool false] 134) := ⟨_, rfl⟩
  have hB1 : Below w.heap.size w W1 := by rw [hW1]; exact (Below.refl _ _).alloc (Nat.le_refl _) _
  have HR1 : Hid (BAt W1 w.heap.size 6 (fun _ => false)) := hid (by rw [hW1]; exact BAt.made w (fun _ => false) _)
  have hs1 : W1.heap.size = w.heap.size + 1 := by rw [hW1]; simp
  have hG1 := hG.below hB1
  have hgl := hG.lt
  have c0 : W1.cell? ⟨g, x * 6, none⟩ = some (.bool (G x 0)) := hG1.cell x 0 hx (by decide)
  have c1 : W1.cell? ⟨g, x * 6 + 1, none⟩ = some (.bool (G x 1)) := hG1.cell x 1 hx (by decide)
  have c2 : W1.cell? ⟨g, x * 6 + 2, none⟩ = some (.bool (G x 2)) := hG1.cell x 2 hx (by decide)
  have c3 : W1.cell? ⟨g, x * 6 + 3, none⟩ = some (.bool (G x 3)) := hG1.cell x 3 hx (by decide)
  have c4 : W1.cell? ⟨g, x * 6 + 4, none⟩ = some (.bool (G x 4)) := hG1.cell x 4 hx (by decide)
  have c5 : W1.cell? ⟨g, x * 6 + 5, none⟩ = some (.bool (G x 5)) := hG1.cell x 5 hx (by decide)
  have hx6 : (x : Int) < 6 := by omega
  have HG1 := hid hG1
  have HB1 := hid hB1
  clear hG1 hB1 hG
  go_enter Try.func103, Try.ntmps103
  go_upto_region 1 with fail
  rw [← hW1]
  clear hW1
  go_upto_region 2 with fail
  have HM2 := hid (BAt.made W1 (G x) 134)
  have HR2 := hid (HR1.out.below ((Below.refl W1.heap.size W1).alloc (Nat.le_refl _) (.cells #[.bool (G x 0), .bool (G x 1), .bool (G x 2), .bool (G x 3), .bool (G x 4), .bool (G x 5)] 134)))
  have HG2 := hid (HG1.out.below ((Below.refl W1.heap.size W1).alloc (Nat.le_refl _) (.cells #[.bool (G x 0), .bool (G x 1), .bool (G x 2), .bool (G x 3), .bool (G x 4), .bool (G x 5)] 134)))
  have HB2 := hid (bt HB1.out ((Below.refl W1.heap.size W1).alloc (Nat.le_refl _) (.cells #[.bool (G x 0), .bool (G x 1), .bool (G x 2), .bool (G x 3), .bool (G x 4), .bool (G x 5)] 134)))
  rw [hs1] at HM2
  clear c0 c1 c2 c3 c4 c5 HR1 HG1 HB1 hs1
  generalize W1.alloc (.cells #[.bool (G x 0), .bool (G x 1), .bool (G x 2), .bool (G x 3), .bool (G x 4), .bool (G x 5)] 134) = W2 at *
  have b0 := HM2.out.cell 0 (by decide)
  have b1 := HM2.out.cell 1 (by decide)
  have b2 := HM2.out.cell 2 (by decide)
  have b3 := HM2.out.cell 3 (by decide)
  have b4 := HM2.out.cell 4 (by decide)
  have b5 := HM2.out.cell 5 (by decide)
  have KL := hid (list_calls W2 (G x))
  unfold memV at KL
  go_wp2_with fail
  refine KL.out.mono ?_
  rintro e w3 ⟨v, rfl, hv, hb3⟩
  have HG3 := hid (HG2.out.below hb3)
  have HM3 := hid (HM2.out.below hb3)
  have HR3 := hid (HR2.out.below hb3)
  have HB3 := hid (bt HB2.out hb3)
  have KC := hid (connect_calls w3 g G v (plc (G x) 6) HG3.out (own_is hv) (by have := plc_le (G x) 6; omega) (fun y hy => plc_rng hy) (fun _ a n c e => by
    rcases hv.2 with ⟨rfl, -⟩ | ⟨g', cp, cur, rfl, hg', -⟩
    · cases e
    · simp only [Value.slice.injEq, Option.some.injEq] at e
      obtain ⟨rfl, -, -⟩ := e
      have := HG2.out.lt
      show g' ≠ g
      omega))
  obtain ⟨av, cv, rfl⟩ := ownSl hv
  clear b0 b1 b2 b3 b4 b5 KL hv hb3 HG2 HM2 HR2 HB2 HG3
  go_wp2_with fail
  refine KC.out.mono ?_
  rintro e w4 ⟨rfl, hK4, hG4⟩
  have HM4 := hid (HM3.out.kb hK4 (by omega))
  have HR4 := hid (HR3.out.kb hK4 (by omega))
  have HK4 := hid (Kb.trans (k := g) ⟨HB3.out.os, HB3.out.tape, HB3.out.output, HB3.out.size, fun b hb _ => HB3.out.block b hb⟩ hK4)
  have HG4 := hid hG4
  clear hK4 hG4 KC HM3 HR3 HB3
  go_wp2_with fail
  go_loopw [16] (fun t wr => ∃ a : Nat, a ≤ 6 ∧ t = .int .i64 a ∧ Hid (Kb g w wr ∧ GAt wr g (clr (conG G (plc (G x) 6)) x a) ∧ BAt wr (w.heap.size + 1) 6 (G x) ∧ BAt wr w.heap.size 6 (fun _ => false))) (fun t _ => 6 - (intOf t).toNat)
  case atStart => exact ⟨0, Nat.zero_le _, rfl, hid ⟨HK4.out, HG4.out.congr (fun a b _ _ => by unfold clr; rw [if_neg (by omega)]), HM4.out, HR4.out⟩⟩
  case round =>
    clear HK4 HG4 HM4 HR4
    obtain ⟨a, ha, rfl, HT⟩ := hrel
    by_cases ha6 : a < 6
    · have i1 : (a : Int) < 6 := by omega
      have c1 := HT.out.2.1.cell a x ha6 hx
      have f1 := HT.out.2.1.free a x ha6 hx
      have HN : Hid (Kb g w (wr.setCell ⟨g, a * 6 + x, none⟩ (.bool false)) ∧ GAt (wr.setCell ⟨g, a * 6 + x, none⟩ (.bool false)) g (clr (conG G (plc (G x) 6)) x (a + 1)) ∧ BAt (wr.setCell ⟨g, a * 6 + x, none⟩ (.bool false)) (w.heap.size + 1) 6 (G x) ∧ BAt (wr.setCell ⟨g, a * 6 + x, none⟩ (.bool false)) w.heap.size 6 (fun _ => false)) :=
        hid ⟨HT.out.1.set _ _, (HT.out.2.1.set ha6 hx false).congr (fun a' b' _ _ => clr_step _ _ _ _ _), HT.out.2.2.1.other (by show g ≠ w.heap.size + 1; omega) _, HT.out.2.2.2.other (by show g ≠ w.heap.size; omega) _⟩
      clear HT
      go_wp2_with fail
      go_roundw
      case rel => exact ⟨a + 1, by omega, by go_num, HN⟩
      case measure => simp [intOf]; omega
    · obtain rfl : a = 6 := by omega
      have b0 := HT.out.2.2.1.cell 0 (by decide)
      have b1 := HT.out.2.2.1.cell 1 (by decide)
      have b2 := HT.out.2.2.1.cell 2 (by decide)
      have b3 := HT.out.2.2.1.cell 3 (by decide)
      have b4 := HT.out.2.2.1.cell 4 (by decide)
      have b5 := HT.out.2.2.1.cell 5 (by decide)
      have z0 := HT.out.2.2.2.cell 0 (by decide)
      have z1 := HT.out.2.2.2.cell 1 (by decide)
      have z2 := HT.out.2.2.2.cell 2 (by decide)
      have z3 := HT.out.2.2.2.cell 3 (by decide)
      have z4 := HT.out.2.2.2.cell 4 (by decide)
      have z5 := HT.out.2.2.2.cell 5 (by decide)
      have y0 := HT.out.2.2.2.free 0 (by decide)
      have y1 := HT.out.2.2.2.free 1 (by decide)
      have y2 := HT.out.2.2.2.free 2 (by decide)
      have y3 := HT.out.2.2.2.free 3 (by decide)
      have y4 := HT.out.2.2.2.free 4 (by decide)
      have y5 := HT.out.2.2.2.free 5 (by decide)
      have HK := hid HT.out.1
      have HGf : Hid (GAt wr g (Elim.elimG x G)) := hid (HT.out.2.1.congr (fun a b h1 h2 => elim_clr G h1 h2))
      clear HT
      go_wp2_with fail
      refine bodyPost_ret (v := memV (G x)) (by simp [results, Try.results103, go_sem, z0, z1, z2, z3, z4, z5, memV]) rfl ⟨rfl, ?_, ?_⟩
      · exact (((((HK.out.setNew (Nat.le_refl _) _).setNew (Nat.le_refl _) _).setNew (Nat.le_refl _) _).setNew (Nat.le_refl _) _).setNew (Nat.le_refl _) _).setNew (Nat.le_refl _) _
      · have ne : w.heap.size ≠ g := by omega
        exact (((((HGf.out.other ne _).other ne _).other ne _).other ne _).other ne _).other ne _

end Go.Proofs.Ytnmcgbfhgmmcpaa

/-
  impl: graphOf.
-/
namespace Go.Proofs.Ytnmcgbfhgmmcpaa
open Go.RowKit

def grF (G : Nat → Nat → Bool) (q : Nat) : Value := .bool (G (q / 6) (q % 6))
def graV (G : Nat → Nat → Bool) : List Value := arrV 36 (grF G)

theorem GAt.arr {W : World} {g : Nat} {G : Nat → Nat → Bool} (h : GAt W g G) : ArrAt W g 36 (grF G) :=
  ⟨fun j hj => by
    have := h.cell (j / 6) (j % 6) (by omega) (by omega)
    rw [show j / 6 * 6 + j % 6 = j by omega] at this
    exact this, fun j hj => by
    have := h.free (j / 6) (j % 6) (by omega) (by omega)
    rw [show j / 6 * 6 + j % 6 = j by omega] at this
    exact this⟩
theorem ArrAt.gat {W : World} {g : Nat} {G : Nat → Nat → Bool} (h : ArrAt W g 36 (grF G)) (ht : ∃ cur, W.heap[g]? = some (.cells cur 136 (0, 0))) : GAt W g G :=
  ⟨fun a b ha hb => by
    rw [h.cell (a * 6 + b) (by omega)]
    unfold grF
    rw [show (a * 6 + b) / 6 = a by omega, show (a * 6 + b) % 6 = b by omega], fun a b ha hb => h.free _ (by omega), h.lt (by decide), ht⟩

theorem infoG : (Try.prog.info? 136).map (·.size) = some 36 := by kernel_rfl
theorem run_alloc_g (w : World) : (Instr.alloc 136 true (.tuple #[])).run Try.prog w = .ok (.pointer (some ⟨w.heap.size, 0, none⟩)) (w.alloc (.cells (arrV 36 (fun _ => .bool false)).toArray 136)) := by kernel_rfl
theorem wp_alloc_g {op : Oper} {a : Act} {w : World} {K : Act → World → Prop} {Q : Exit → Act → World → Prop} (ho : op.op = .alloc 136)
    (h : K (a.put op.dst (.pointer (some ⟨w.heap.size, 0, none⟩))) (w.alloc (.cells (arrV 36 (fun _ => .bool false)).toArray 136))) : op.wp Try.prog a w K Q := by
  unfold Oper.wp execOp
  simp only [ho, Sem.run_bind, Sem.run_pure, Result.andThen_ok, run_alloc_g]
  exact h
theorem wpList_alloc_g {ops : Array Oper} {rest : List Oper} {op : Oper} {a : Act} {w : World} {Q : Exit → Act → World → Prop} (hgd : op.guard = none) (ho : op.op = .alloc 136)
    (h : wpList Try.prog ops Q rest (a.put op.dst (.pointer (some ⟨w.heap.size, 0, none⟩))) (w.alloc (.cells (arrV 36 (fun _ => .bool false)).toArray 136))) : wpList Try.prog ops Q (op :: rest) a w :=
  wpList_plain hgd fun _ hK => wp_alloc_g ho (hK _ _ h)

theorem adj_take {es : List (List Int)} {j : Nat} (hj : j < es.length) (a b : Nat) : adjB (es.take (j + 1)) a b = conG (adjB (es.take j)) (es.getD j []) a b := by
  unfold adjB conG
  rw [List.take_add_one, List.getElem?_eq_getElem hj, List.any_append, List.getD_eq_getElem?_getD, List.getElem?_eq_getElem hj]
  simp

set_option maxRecDepth 100000 in
set_option maxHeartbeats 4000000 in
theorem graphOf_calls (w : World) (ve : Value) (es : List (List Int)) (he : ISS w ve es) (hS : Short es) (hlow : ∀ e ∈ es, ∀ x ∈ e, 0 ≤ x ∧ x < 6) :
    Calls Try.prog 102 #[ve] w fun e w' => e = .returned (.agg (graV (adjB es)).toArray) ∧ Below w.heap.size w w' := by
  have HIe := hid he
  obtain ⟨ae, ce, rfl, hce⟩ := he
  have HCe : Hid (∀ wr, Below w.heap.size w wr → ∀ j, j < es.length → ∃ b of u, ae = some ⟨b, of, none⟩ ∧ b < w.heap.size ∧ wr.cell? ⟨b, of + j, none⟩ = some u ∧ IS w u (es.getD j []) ∧ IS wr u (es.getD j [])) := hid fun wr hb j hj => by
    rcases hce with h0 | ⟨b, of, rfl, h⟩
    · omega
    · obtain ⟨u, h1, h2⟩ := h j hj
      exact ⟨b, of, u, rfl, World.block_lt_of_cell? w _ h1, (hb.cell (World.block_lt_of_cell? w _ h1)).trans h1, h2, h2.below hb⟩
  have HAll : Hid (∀ W g, GAt W g (adjB (es.take es.length)) → GAt W g (adjB es)) := hid fun W g h => by rw [List.take_length] at h; exact h
  have HNx : Hid (∀ W g j, j < es.length → GAt W g (conG (adjB (es.take j)) (es.getD j [])) → GAt W g (adjB (es.take (j + 1)))) := hid fun W g j hj h => h.congr fun a b _ _ => adj_take hj a b
  have HR : Hid (∀ j, j < es.length → ∀ x ∈ es.getD j [], 0 ≤ x ∧ x < 6) := hid fun j hj x hx => hlow _ (by rw [List.getD_eq_getElem?_getD, List.getElem?_eq_getElem hj]; exact List.getElem_mem _) x hx
  have HSl := hid hS.2
  have hn0 := hS.1
  clear hce hlow hS HIe
  obtain ⟨n, hn⟩ : ∃ n, n = es.length := ⟨_, rfl⟩
  rw [← hn] at HCe HAll HNx HR hn0 ⊢
  clear hn
  go_enter Try.func102, Try.ntmps102
  go_wp2_with (first | (refine wpList_alloc_g rfl rfl ?_))
  have h0 := arrAt_alloc w 36 (fun _ => .bool false) 136
  have h1 := arrAt_alloc (w.alloc (.cells (arrV 36 (fun _ => .bool false)).toArray 136)) 36 (fun _ => .bool false) 136
  have h0' : ArrAt ((w.alloc (.cells (arrV 36 (fun _ => .bool false)).toArray 136)).alloc (.cells (arrV 36 (fun _ => .bool false)).toArray 136)) w.heap.size 36 (fun _ => .bool false) := h0.move (Below.heap_alloc _ _ _ (by simp))
  have h1t := heap_alloc_new (w.alloc (.cells (arrV 36 (fun _ => .bool false)).toArray 136)) (.cells (arrV 36 (fun _ => .bool false)).toArray 136)
  rw [show (w.alloc (.cells (arrV 36 (fun _ => .bool false)).toArray 136)).heap.size = w.heap.size + 1 by simp] at h1 h1t
  have hB0 : Below w.heap.size w ((w.alloc (.cells (arrV 36 (fun _ => .bool false)).toArray 136)).alloc (.cells (arrV 36 (fun _ => .bool false)).toArray 136)) := ((Below.refl _ _).alloc (Nat.le_refl _) _).alloc (by simp) _
  generalize (w.alloc (.cells (arrV 36 (fun _ => .bool false)).toArray 136)).alloc (.cells (arrV 36 (fun _ => .bool false)).toArray 136) = W at *
  have HG0 : Hid (GAt W (w.heap.size + 1) (adjB (es.take 0))) := hid (ArrAt.gat ⟨fun j hj => (h1.cell j hj).trans (by simp [grF, adjB]), h1.free⟩ ⟨_, h1t⟩)
  have HZ0 := hid h0'
  have HB0 := hid hB0
  clear h0 h0' h1 h1t hB0
  go_loopw [8] (fun t wr => ∃ j : Nat, j ≤ n ∧ t = .int .i64 j ∧ Hid (Below w.heap.size w wr ∧ ArrAt wr w.heap.size 36 (fun _ => .bool false) ∧ GAt wr (w.heap.size + 1) (adjB (es.take j)))) (fun t _ => n - (intOf t).toNat)
  case atStart => exact ⟨0, Nat.zero_le _, rfl, hid ⟨HB0.out, HZ0.out, HG0.out⟩⟩
  case round =>
    obtain ⟨j, hj, rfl, HT⟩ := hrel
    clear HB0 HZ0 HG0
    by_cases hjn : j < n
    · have i1 : (j : Int) < (n : Int) := by omega
      obtain ⟨b, of, u, ea, hbl, c1, hu, hu'⟩ := HCe.out wr HT.out.1 j hjn
      subst ea
      have KC := hid (connect_calls wr (w.heap.size + 1) _ u (es.getD j []) HT.out.2.2 hu' (HSl.out j) (HR.out j hjn) (fun h0 a n' c e => by
        obtain ⟨a', c', e', hc⟩ := hu
        rw [e] at e'
        simp only [Value.slice.injEq] at e'
        obtain ⟨rfl, rfl, rfl⟩ := e'
        rcases hc with hc | ⟨b', of', e3, hc⟩
        · omega
        · obtain rfl := Option.some.inj e3
          have := World.block_lt_of_cell? w _ (hc 0 h0)
          show b' ≠ _
          have h2 : b' < w.heap.size := this
          omega))
      obtain ⟨au, cu, rfl, -⟩ := hu'
      clear hu
      go_wp2_with fail
      refine KC.out.mono ?_
      rintro e w4 ⟨rfl, hK4, hG4⟩
      have HN : Hid (Below w.heap.size w w4 ∧ ArrAt w4 w.heap.size 36 (fun _ => .bool false) ∧ GAt w4 (w.heap.size + 1) (adjB (es.take (j + 1)))) := hid ⟨HT.out.1.trans (hK4.below HT.out.1.size (by omega)), HT.out.2.1.move (hK4.block _ (HT.out.2.1.lt (by decide)) (by omega)), HNx.out _ _ j hjn hG4⟩
      clear hK4 hG4 KC HT
      go_wp2_with fail
      go_roundw
      case rel => exact ⟨j + 1, by omega, by go_num, HN⟩
      case measure => simp [intOf]; omega
    · obtain rfl : j = n := by omega
      have i1 : ¬ ((j : Int) < (j : Int)) := by omega
      have HRg : Hid (wr.rangeAt (w.heap.size + 1) 0 (graV (adjB es))) := hid (HAll.out _ _ HT.out.2.2).arr.range
      have hlen : (graV (adjB es)).length = 36 := arrV_length _ _
      have HTh : Hid (wr.there w.heap.size 0 (graV (adjB es)).toArray.size) := by
        rw [show (graV (adjB es)).toArray.size = 36 by simpa using hlen]; exact HT.out.2.1.there
      have HI : Hid ((Try.prog.info? 136).map (·.size) = some (graV (adjB es)).length) := by
        show _ = _
        rw [hlen]; exact infoG
      have HJ : Hid ((Try.prog.info? 136).map (·.size) = some (graV (adjB es)).toArray.size) := by
        show _ = _
        rw [show (graV (adjB es)).toArray.size = 36 by simpa using hlen]; exact infoG
      have HO : Hid ((graV (adjB es)).toArray.all (·.oneCell') = true) := all_oneCell_toArray (fun u hu => by
        obtain ⟨i, _, rfl⟩ := List.mem_map.1 hu
        rfl)
      have hBr := HT.out.1
      clear HT HAll HNx
      generalize hcz : graV (adjB es) = cz at *
      go_wp2_with (first | (refine wpList_load_mid rfl 136 _ rfl (w.heap.size + 1) 0 (by rfl) cz _ (by exact HRg.out) Try.underlying136 (by rfl) (by exact HI.out) ?_) | (refine wpList_store_mid rfl 136 _ _ rfl w.heap.size 0 cz.toArray (by rfl) (by rfl) (by exact HTh.out) (by exact HJ.out) (by exact HO.out) ?_))
      have hr6 : (wr.setCells w.heap.size 0 cz.toArray.toList).rangeAt w.heap.size 0 cz := by
        have := World.rangeAt_setCells_same wr w.heap.size 0 cz.toArray.toList (by have := HTh.out; simpa using this)
        simpa using this
      refine bodyPost_ret (v := .agg cz.toArray) (results_cell_mid' Try.results102 _ _ w.heap.size cz _ (by rfl) hr6 Try.underlying136 (by rfl) HI.out) rfl ⟨rfl, below_setCells' (Nat.le_refl _) _ _ _ hBr⟩

end Go.Proofs.Ytnmcgbfhgmmcpaa
