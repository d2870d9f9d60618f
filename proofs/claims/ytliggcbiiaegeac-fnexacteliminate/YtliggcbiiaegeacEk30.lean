import Derived.Test.YtliggcbiiaegeacEk29
/-
  impl: graphOf.
-/
namespace Go.Proofs.Ytliggcbiiaegeac
open Go.RowKit

def grF (G : Nat → Nat → Bool) (q : Nat) : Value := .bool (G (q / 6) (q % 6))
def graV (G : Nat → Nat → Bool) : List Value := arrV 36 (grF G)

theorem GAt.arr {W : World} {g : Nat} {G : Nat → Nat → Bool} (h : GAt W g G) : ArrAt W g 36 (grF G) :=
  ⟨fun j hj => by
    have := h.cell (j / 6) (j % 6) (by omega) (by omega)
    rw [show j / 6 * 6 + j % 6 = j by omega] at this
    exact this, fun j hj => by
    have := h.free (j / 6) (j % 6) (by omega) (by omega)
    rw [show j / 6 * 6 + j % 6 = j by omega] at this
    exact this⟩
theorem ArrAt.gat {W : World} {g : Nat} {G : Nat → Nat → Bool} (h : ArrAt W g 36 (grF G)) (ht : ∃ cur, W.heap[g]? = some (.cells cur 150 (0, 0))) : GAt W g G :=
  ⟨fun a b ha hb => by
    rw [h.cell (a * 6 + b) (by omega)]
    unfold grF
    rw [show (a * 6 + b) / 6 = a by omega, show (a * 6 + b) % 6 = b by omega], fun a b ha hb => h.free _ (by omega), h.lt (by decide), ht⟩

theorem infoG : (Try.prog.info? 150).map (·.size) = some 36 := by kernel_rfl
theorem run_alloc_g (w : World) : (Instr.alloc 150 true (.tuple #[])).run Try.prog w = .ok (.pointer (some ⟨w.heap.size, 0, none⟩)) (w.alloc (.cells (arrV 36 (fun _ => .bool false)).toArray 150)) := by kernel_rfl
theorem wp_alloc_g {op : Oper} {a : Act} {w : World} {K : Act → World → Prop} {Q : Exit → Act → World → Prop} (ho : op.op = .alloc 150)
    (h : K (a.put op.dst (.pointer (some ⟨w.heap.size, 0, none⟩))) (w.alloc (.cells (arrV 36 (fun _ => .bool false)).toArray 150))) : op.wp Try.prog a w K Q := by
  unfold Oper.wp execOp
  simp only [ho, Sem.run_bind, Sem.run_pure, Result.andThen_ok, run_alloc_g]
  exact h
theorem wpList_alloc_g {ops : Array Oper} {rest : List Oper} {op : Oper} {a : Act} {w : World} {Q : Exit → Act → World → Prop} (hgd : op.guard = none) (ho : op.op = .alloc 150)
    (h : wpList Try.prog ops Q rest (a.put op.dst (.pointer (some ⟨w.heap.size, 0, none⟩))) (w.alloc (.cells (arrV 36 (fun _ => .bool false)).toArray 150))) : wpList Try.prog ops Q (op :: rest) a w :=
  wpList_plain hgd fun _ hK => wp_alloc_g ho (hK _ _ h)

theorem adj_take {es : List (List Int)} {j : Nat} (hj : j < es.length) (a b : Nat) : adjB (es.take (j + 1)) a b = conG (adjB (es.take j)) (es.getD j []) a b := by
  unfold adjB conG
  rw [List.take_add_one, List.getElem?_eq_getElem hj, List.any_append, List.getD_eq_getElem?_getD, List.getElem?_eq_getElem hj]
  simp

set_option maxRecDepth 100000 in
set_option maxHeartbeats 4000000 in
theorem graphOf_calls (w : World) (ve : Value) (es : List (List Int)) (he : ISS w ve es) (hS : Short es) (hlow : ∀ e ∈ es, ∀ x ∈ e, 0 ≤ x ∧ x < 6) :
    Calls Try.prog 113 #[ve] w fun e w' => e = .returned (.agg (graV (adjB es)).toArray) ∧ Below w.heap.size w w' := by
  have HIe := hid he
  obtain ⟨ae, ce, rfl, hce⟩ := he
  have HCe : Hid (∀ wr, Below w.heap.size w wr → ∀ j, j < es.length → ∃ b of u, ae = some ⟨b, of, none⟩ ∧ b < w.heap.size ∧ wr.cell? ⟨b, of + j, none⟩ = some u ∧ IS w u (es.getD j []) ∧ IS wr u (es.getD j [])) := hid fun wr hb j hj => by
    rcases hce with h0 | ⟨b, of, rfl, h⟩
    · omega
    · obtain ⟨u, h1, h2⟩ := h j hj
      exact ⟨b, of, u, rfl, World.block_lt_of_cell? w _ h1, (hb.cell (World.block_lt_of_cell? w _ h1)).trans h1, h2, h2.below hb⟩
  have HAll : Hid (∀ W g, GAt W g (adjB (es.take es.length)) → GAt W g (adjB es)) := hid fun W g h => by rw [List.take_length] at h; exact h
  have HNx : Hid (∀ W g j, j < es.length → GAt W g (conG (adjB (es.take j)) (es.getD j [])) → GAt W g (adjB (es.take (j + 1)))) := hid fun W g j hj h => h.congr fun a b _ _ => adj_take hj a b
  have HR : Hid (∀ j, j < es.length → ∀ x ∈ es.getD j [], 0 ≤ x ∧ x < 6) := hid fun j hj x hx => hlow _ (by rw [List.getD_eq_getElem?_getD, List.getElem?_eq_getElem hj]; exact List.getElem_mem _) x hx
  have HSl := hid hS.2
  have hn0 := hS.1
  clear hce hlow hS HIe
  obtain ⟨n, hn⟩ : ∃ n, n = es.length := ⟨_, rfl⟩
  rw [← hn] at HCe HAll HNx HR hn0 ⊢
  clear hn
  go_enter Try.func113, Try.ntmps113
  go_wp2_with (first | (refine wpList_alloc_g rfl rfl ?_))
  have h0 := arrAt_alloc w 36 (fun _ => .bool false) 150
  have h1 := arrAt_alloc (w.alloc (.cells (arrV 36 (fun _ => .bool false)).toArray 150)) 36 (fun _ => .bool false) 150
  have h0' : ArrAt ((w.alloc (.cells (arrV 36 (fun _ => .bool false)).toArray 150)).alloc (.cells (arrV 36 (fun _ => .bool false)).toArray 150)) w.heap.size 36 (fun _ => .bool false) := h0.move (Below.heap_alloc _ _ _ (by simp))
  have h1t := heap_alloc_new (w.alloc (.cells (arrV 36 (fun _ => .bool false)).toArray 150)) (.cells (arrV 36 (fun _ => .bool false)).toArray 150)
  rw [show (w.alloc (.cells (arrV 36 (fun _ => .bool false)).toArray 150)).heap.size = w.heap.size + 1 by simp] at h1 h1t
  have hB0 : Below w.heap.size w ((w.alloc (.cells (arrV 36 (fun _ => .bool false)).toArray 150)).alloc (.cells (arrV 36 (fun _ => .bool false)).toArray 150)) := ((Below.refl _ _).alloc (Nat.le_refl _) _).alloc (by simp) _
  generalize (w.alloc (.cells (arrV 36 (fun _ => .bool false)).toArray 150)).alloc (.cells (arrV 36 (fun _ => .bool false)).toArray 150) = W at *
  have HG0 : Hid (GAt W (w.heap.size + 1) (adjB (es.take 0))) := hid (ArrAt.gat ⟨fun j hj => (h1.cell j hj).trans (by simp [grF, adjB]), h1.free⟩ ⟨_, h1t⟩)
  have HZ0 := hid h0'
  have HB0 := hid hB0
  clear h0 h0' h1 h1t hB0
  go_loopw [8] (fun t wr => ∃ j : Nat, j ≤ n ∧ t = .int .i64 j ∧ Hid (Below w.heap.size w wr ∧ ArrAt wr w.heap.size 36 (fun _ => .bool false) ∧ GAt wr (w.heap.size + 1) (adjB (es.take j)))) (fun t _ => n - (intOf t).toNat)
  case atStart => exact ⟨0, Nat.zero_le _, rfl, hid ⟨HB0.out, HZ0.out, HG0.out⟩⟩
  case round =>
    obtain ⟨j, hj, rfl, HT⟩ := hrel
    clear HB0 HZ0 HG0
    by_cases hjn : j < n
    · have i1 : (j : Int) < (n : Int) := by omega
      obtain ⟨b, of, u, ea, hbl, c1, hu, hu'⟩ := HCe.out wr HT.out.1 j hjn
      subst ea
      have KC := hid (connect_calls wr (w.heap.size + 1) _ u (es.getD j []) HT.out.2.2 hu' (HSl.out j) (HR.out j hjn) (fun h0 a n' c e => by
        obtain ⟨a', c', e', hc⟩ := hu
        rw [e] at e'
        simp only [Value.slice.injEq] at e'
        obtain ⟨rfl, rfl, rfl⟩ := e'
        rcases hc with hc | ⟨b', of', e3, hc⟩
        · omega
        · obtain rfl := Option.some.inj e3
          have := World.block_lt_of_cell? w _ (hc 0 h0)
          show b' ≠ _
          have h2 : b' < w.heap.size := this
          omega))
      obtain ⟨au, cu, rfl, -⟩ := hu'
      clear hu
      go_wp2_with fail
      refine KC.out.mono ?_
      rintro e w4 ⟨rfl, hK4, hG4⟩
      have HN : Hid (Below w.heap.size w w4 ∧ ArrAt w4 w.heap.size 36 (fun _ => .bool false) ∧ GAt w4 (w.heap.size + 1) (adjB (es.take (j + 1)))) := hid ⟨HT.out.1.trans (hK4.below HT.out.1.size (by omega)), HT.out.2.1.move (hK4.block _ (HT.out.2.1.lt (by decide)) (by omega)), HNx.out _ _ j hjn hG4⟩
      clear hK4 hG4 KC HT
      go_wp2_with fail
      go_roundw
      case rel => exact ⟨j + 1, by omega, by go_num, HN⟩
      case measure => simp [intOf]; omega
    · obtain rfl : j = n := by omega
      have i1 : ¬ ((j : Int) < (j : Int)) := by omega
      have HRg : Hid (wr.rangeAt (w.heap.size + 1) 0 (graV (adjB es))) := hid (HAll.out _ _ HT.out.2.2).arr.range
      have hlen : (graV (adjB es)).length = 36 := arrV_length _ _
      have HTh : Hid (wr.there w.heap.size 0 (graV (adjB es)).toArray.size) := by
        rw [show (graV (adjB es)).toArray.size = 36 by simpa using hlen]; exact HT.out.2.1.there
      have HI : Hid ((Try.prog.info? 150).map (·.size) = some (graV (adjB es)).length) := by
        show _ = _
        rw [hlen]; exact infoG
      have HJ : Hid ((Try.prog.info? 150).map (·.size) = some (graV (adjB es)).toArray.size) := by
        show _ = _
        rw [show (graV (adjB es)).toArray.size = 36 by simpa using hlen]; exact infoG
      have HO : Hid ((graV (adjB es)).toArray.all (·.oneCell') = true) := all_oneCell_toArray (fun u hu => by
        obtain ⟨i, _, rfl⟩ := List.mem_map.1 hu
        rfl)
      have hBr := HT.out.1
      clear HT HAll HNx
      generalize hcz : graV (adjB es) = cz at *
      go_wp2_with (first | (refine wpList_load_mid rfl 150 _ rfl (w.heap.size + 1) 0 (by rfl) cz _ (by exact HRg.out) Try.underlying150 (by rfl) (by exact HI.out) ?_) | (refine wpList_store_mid rfl 150 _ _ rfl w.heap.size 0 cz.toArray (by rfl) (by rfl) (by exact HTh.out) (by exact HJ.out) (by exact HO.out) ?_))
      have hr6 : (wr.setCells w.heap.size 0 cz.toArray.toList).rangeAt w.heap.size 0 cz := by
        have := World.rangeAt_setCells_same wr w.heap.size 0 cz.toArray.toList (by have := HTh.out; simpa using this)
        simpa using this
      refine bodyPost_ret (v := .agg cz.toArray) (results_cell_mid' Try.results113 _ _ w.heap.size cz _ (by rfl) hr6 Try.underlying150 (by rfl) HI.out) rfl ⟨rfl, below_setCells' (Nat.le_refl _) _ _ _ hBr⟩

end Go.Proofs.Ytliggcbiiaegeac

/-
  spec.l4Width.
-/
namespace Go.Proofs.Ytliggcbiiaegeac
open Go.RowKit

theorem newUnit (W : World) (k : Int) (x y : Value) : ∀ j u, [.slice (some ⟨W.heap.size, 0, none⟩) 1 1, x, y][j]? = some u → ((W.alloc (.cells #[.int .i64 k] 3)).alloc (.cells #[.slice (some ⟨W.heap.size, 0, none⟩) 1 1, x, y] 174)).cell? ((⟨W.heap.size + 1, 0, none⟩ : Addr).add j) = some u := by
  have := new3_cell (W.alloc (.cells #[.int .i64 k] 3)) (.slice (some ⟨W.heap.size, 0, none⟩) 1 1) x y 174
  rw [show (W.alloc (.cells #[.int .i64 k] 3)).heap.size = W.heap.size + 1 by simp] at this
  exact this

set_option maxHeartbeats 40000000 in
set_option maxRecDepth 1000000 in
theorem l4Width_calls (w : World) (vb ve : Value) (bag : List Int) (es : List (List Int)) (hb : IS w vb bag) (h : ISS w ve es) (hl : Short es) (he : edgesB es = true) (hg : GoodBag es bag) (hne : 1 ≤ bag.length) :
    Calls Try.prog 101 #[vb, ve] w fun e w' => e = .returned (.agg #[.int .i64 (wdR es bag).num, .int .i64 (wdR es bag).den]) ∧ Below w.heap.size w w' := by
  obtain ⟨i0, hi, hz0, hz1, hz2⟩ := info_parts Try.infoInt
  obtain ⟨iD, hj, hy0, hy1, hy2⟩ := info_parts Try.infoDem
  obtain ⟨iS, hk, hx0, hx1, hx2⟩ := info_parts Try.infoIS
  have hb6 := setB_len hg.set
  have he7 := edgesB_len he
  have hnd := edges_nodup he
  have hcov := parts_cover hnd (cover_has hg.cov)
  obtain ⟨y, hy, hpy⟩ := coverBest_exists (bag := bag) (es := partsL bag es) (by omega) hcov
  obtain ⟨x, hx, -⟩ := hg.best
  have HSUM : Hid (Cov.sm (partsL bag es).length y = wdR es bag) := hid (by rw [← width_parts hnd hx hy]; exact wdR_eq hx)
  have HY := hid hy
  have HPY := hid hpy
  have hP1 : 1 ≤ (partsL bag es).length := by
    obtain ⟨e, h1, -⟩ := hcov 0 (by omega)
    omega
  have hP7 : (partsL bag es).length ≤ 7 := by
    have := keptI_le bag es
    rw [partsL_length]; omega
  have HIS := hid hb
  have HES := hid h
  obtain ⟨aB, cB, rfl, hcB⟩ := hb
  obtain ⟨aE, cE, rfl, -⟩ := h
  have HLE := hid hl.2
  have HCB : Hid (∀ j, j < bag.length → ∃ b o, aB = some ⟨b, o, none⟩ ∧ w.cell? ⟨b, o + j, none⟩ = some (.int .i64 (bag.getD j 0))) := hid (fun j hj => by
    rcases hcB with h0 | ⟨b, o, e, hc⟩
    · omega
    · exact ⟨b, o, e, hc j (by omega)⟩)
  have HCE : Hid (∀ j, j < es.length → ∃ b o u, aE = some ⟨b, o, none⟩ ∧ w.cell? ⟨b, o + j, none⟩ = some u ∧ IS w u (es.getD j [])) := hid (fun j hj => HES.out.get rfl (by omega))
  have KSH : Hid (∀ W u j, Below w.heap.size w W → j < es.length → IS W u (es.getD j []) → Calls Try.prog 118 #[u, .slice aB bag.length cB] W fun e w' => ∃ u, e = .returned u ∧ w'.ownsRow W.heap.size 3 1 u (partL bag (es.getD j [])).length ((partL bag (es.getD j [])).map (Value.int .i64)) ∧ Below W.heap.size W w') :=
    hid fun W u j hW hj hu => l2Shared_calls W u _ (es.getD j []) bag hu (HLE.out j) (HIS.out.below hW) (by omega)
  have HPS := hid (partsU_all bag es)
  have HHIT : Hid (∀ k, needB bag es k = true → partsU bag es (k + 1) = partsU bag es k ++ [partL bag (es.getD k [])]) := hid fun k => partsU_hit
  have HMISS : Hid (∀ k, needB bag es k = false → partsU bag es (k + 1) = partsU bag es k) := hid fun k => partsU_miss
  have HULE := hid (partsU_le bag es)
  have HNU0 : Hid (∀ i, needU bag es i 0 = decide (0 < (partL bag (es.getD i [])).length)) := hid fun i => by simp [needU]
  have HNUS : Hid (∀ i j, needU bag es i (j + 1) = (needU bag es i j && !overB bag es i j)) := hid needU_succ
  have HNUN : Hid (∀ i, needU bag es i es.length = needB bag es i) := hid fun i => rfl
  have HOV : Hid (∀ i j, overB bag es i j = (decide (j ≠ i) && subB (partL bag (es.getD i [])) (partL bag (es.getD j [])) && (decide ((partL bag (es.getD i [])).length < (partL bag (es.getD j [])).length) || decide (j < i)))) := hid fun i j => rfl
  have HPL : Hid (∀ i, (partL bag (es.getD i [])).length ≤ 1099511627776) := hid fun i => Nat.le_trans (part_len _ _) (HLE.out i)
  have HPU0 : Hid (partsU bag es 0 = []) := hid rfl
  obtain ⟨nb, hnb⟩ : ∃ nb, nb = bag.length := ⟨_, rfl⟩
  obtain ⟨m, hm⟩ : ∃ m, m = es.length := ⟨_, rfl⟩
  have HNB := hid hnb
  have HM := hid hm
  have HGS := hid hg
  rw [← hnb] at hb6 hne HCB KSH ⊢
  rw [← hm] at he7 HCE KSH HPS HNUN ⊢
  have hA : Below w.heap.size w (w.alloc (.cells #[.int .i64 0, .int .i64 0] 49)) := (Below.refl _ _).alloc (Nat.le_refl _) _
  have hzr : ZR (w.alloc (.cells #[.int .i64 0, .int .i64 0] 49)) w.heap.size := ⟨heap_alloc_new _ _⟩
  clear hcB hl hnb hm he hnd hcov hy hpy hx hg
  go_enter Try.func101, Try.ntmps101
  go_upto_region 1 with fail
  generalize w.alloc (.cells #[.int .i64 0, .int .i64 0] 49) = W0 at *
  have HA := hid hA
  have HZ := hid hzr
  clear hA hzr
  have hB1 : Below w.heap.size w (W0.alloc eD) := HA.out.alloc HA.out.size _
  have HX0 : Hid (Below w.heap.size w ((W0.alloc eD).alloc (.cells #[] 38)) ∧ ZR ((W0.alloc eD).alloc (.cells #[] 38)) w.heap.size ∧ DL ((W0.alloc eD).alloc (.cells #[] 38)) w.heap.size (.slice (some ⟨W0.heap.size, 0, none⟩) 0 0) [] ∧ RL ((W0.alloc eD).alloc (.cells #[] 38)) w.heap.size (.slice (some ⟨W0.heap.size + 1, 0, none⟩) 0 0) [] []) :=
    hid ⟨hB1.alloc hB1.size _, (HZ.out.alloc _).alloc _, ((DL.nil W0).base HA.out.size).below ((Below.refl _ _).alloc (Nat.le_refl _) _), by
      have := (RL.nil (W0.alloc eD)).base hB1.size
      rw [show (W0.alloc eD).heap.size = W0.heap.size + 1 by simp] at this
      exact this⟩
  clear hB1
  go_wp2
  go_loopw [6, 24] (fun v t wr => ∃ (k : Nat) (vp : Value) (vs : List Value), k ≤ m ∧ t = .int .i64 k ∧ vp = v ∧ Hid (Below w.heap.size w wr ∧ ZR wr w.heap.size ∧ DL wr w.heap.size (.slice (some ⟨W0.heap.size, 0, none⟩) 0 0) [] ∧ RL wr w.heap.size vp vs (partsU bag es k))) (fun _ t _ => m - (intOf t).toNat)
  case atStart => exact ⟨0, _, [], Nat.zero_le _, rfl, rfl, by rw [HPU0.out]; exact HX0⟩
  case round =>
    clear HX0
    obtain ⟨k, vp, vs, hkm, rfl, rfl, hH⟩ := hrel
    generalize wr = W1 at *
    have HB1 := hid hH.out.1
    have HZ1 := hid hH.out.2.1
    have HD1 := hid hH.out.2.2.1
    have HR1 := hid hH.out.2.2.2
    clear hH
    by_cases hk1 : k < m
    · have i1 : (k : Int) < (m : Int) := by omega
      obtain ⟨b, o, u, rfl, e1, hu⟩ := HCE.out k hk1
      have c1 := bclp HB1.out e1
      have KS1 := hid (KSH.out W1 u k HB1.out hk1 (hu.below HB1.out))
      have hple := HPL.out k
      obtain ⟨a1, cap1, rfl, -⟩ := hu
      clear e1
      generalize (es.getD k []).length = lk at *
      go_wp2_with fail
      refine KS1.out.mono ?_
      rintro e W2 ⟨u9, rfl, hown9, hb2⟩
      have HB2 := hid hb2
      have HO9 := hid hown9
      have HB12 := hid (bt HB1.out hb2)
      obtain ⟨a9, c9, e9, -⟩ := own_is hown9
      subst e9
      clear hown9 hb2 KS1 c1
      have hn0 := HNU0.out k
      have HNSk := hid (HNUS.out k)
      have hnn := HNUN.out k
      have HOVk := hid (HOV.out k)
      obtain ⟨pk, hpk⟩ : ∃ p, p = partL bag (es.getD k []) := ⟨_, rfl⟩
      have HPK := hid hpk
      rw [← hpk] at hple HO9 HOVk hn0 ⊢
      clear hpk
      have HN0 := hid hn0
      have HNN := hid hnn
      clear hn0 hnn
      obtain ⟨lp, hlp⟩ : ∃ n, n = pk.length := ⟨_, rfl⟩
      rw [← hlp] at hple HO9 HN0 ⊢
      have HLP := hid hlp
      clear hlp
      go_wp2_with fail
      go_loopw [10, 37] (fun s t wr => ∃ j : Nat, j ≤ m ∧ t = .int .i64 j ∧ s = .bool (needU bag es k j) ∧ Hid (Below W2.heap.size W2 wr)) (fun _ t _ => m - (intOf t).toNat)
      case atStart =>
        refine ⟨0, Nat.zero_le _, rfl, ?_, hid (Below.refl _ _)⟩
        rw [HN0.out]
      case round =>
        obtain ⟨j, hjm, rfl, rfl, hH⟩ := hrel
        generalize wr = W3 at *
        have HB3 := hid hH.out
        have HB03 := hid (bt HB12.out hH.out)
        clear hH
        by_cases hj1 : j < m
        · have i2 : (j : Int) < (m : Int) := by omega
          obtain ⟨b', o', u, e', e1, hu⟩ := HCE.out j hj1
          simp only [Option.some.injEq, Addr.mk.injEq, and_true] at e'
          obtain ⟨rfl, rfl⟩ := e'
          have c1 := bclp HB03.out e1
          have KS1 := hid (KSH.out W3 u j HB03.out hj1 (hu.below HB03.out))
          have hplj := HPL.out j
          obtain ⟨a1, cap1, rfl, -⟩ := hu
          have hns := HNSk.out j
          have hov := HOVk.out j
          clear e1
          generalize (es.getD j []).length = lj at *
          generalize needU bag es k j = s at *
          generalize overB bag es k j = ov at *
          generalize partL bag (es.getD j []) = pj at *
          go_wp2_with fail
          refine KS1.out.mono ?_
          rintro e W4 ⟨u13, rfl, hown13, hb4⟩
          have HB4 := hid (bt HB3.out hb4)
          have h13 := own_is hown13
          have h9 := (own_is (l := pk) (by rw [← HLP.out]; exact HO9.out)).below (bt HB3.out hb4)
          have KSB := hid (l2Subset_calls W4 _ u13 pk pj h9 (by rw [← HLP.out]; exact hple) h13 hplj)
          obtain ⟨a13, c13, e13, -⟩ := h13
          subst e13
          clear hown13 hb4 h9 KS1 c1
          rw [← HLP.out] at hov
          generalize pj.length = lpj at *
          generalize subB pk pj = sb at *
          by_cases hjk : j = k
          · subst hjk
            rw [decide_eq_false (by simp), Bool.false_and, Bool.false_and] at hov
            subst hov
            go_wp2_with fail
            go_roundw
            case rel => exact ⟨j + 1, by omega, by go_num, by rw [hns]; simp, HB4⟩
            case measure => simp [intOf]; omega
          rw [decide_eq_true hjk, Bool.true_and] at hov
          have x1 : ((j : Int) != (k : Int)) = true := by simp; omega
          cases sb
          · rw [Bool.false_and] at hov
            subst hov
            go_wp2_with fail
            refine KSB.out.mono ?_
            rintro e w' ⟨rfl, hw'⟩
            subst w'
            go_wp2_with fail
            go_roundw
            case rel => exact ⟨j + 1, by omega, by go_num, by rw [hns]; simp, HB4⟩
            case measure => simp [intOf]; omega
          rw [Bool.true_and] at hov
          by_cases hll : lp < lpj
          · rw [decide_eq_true hll, Bool.true_or] at hov
            subst hov
            have x2 : (lp : Int) < (lpj : Int) := by omega
            go_wp2_with fail
            refine KSB.out.mono ?_
            rintro e w' ⟨rfl, hw'⟩
            subst w'
            go_wp2_with fail
            go_roundw
            case rel => exact ⟨j + 1, by omega, by go_num, by rw [hns]; simp, HB4⟩
            case measure => simp [intOf]; omega
          rw [decide_eq_false hll, Bool.false_or] at hov
          have x2 : ¬ ((lp : Int) < (lpj : Int)) := by omega
          by_cases hjl : j < k
          · rw [decide_eq_true hjl] at hov
            subst hov
            have x3 : (j : Int) < (k : Int) := by omega
            go_wp2_with fail
            refine KSB.out.mono ?_
            rintro e w' ⟨rfl, hw'⟩
            subst w'
            go_wp2_with fail
            go_roundw
            case rel => exact ⟨j + 1, by omega, by go_num, by rw [hns]; simp, HB4⟩
            case measure => simp [intOf]; omega
          · rw [decide_eq_false hjl] at hov
            subst hov
            have x3 : ¬ ((j : Int) < (k : Int)) := by omega
            go_wp2_with fail
            refine KSB.out.mono ?_
            rintro e w' ⟨rfl, hw'⟩
            subst w'
            go_wp2_with fail
            go_roundw
            case rel => exact ⟨j + 1, by omega, by go_num, by rw [hns]; simp, HB4⟩
            case measure => simp [intOf]; omega
        · obtain rfl : j = m := by omega
          have i2 : ¬ ((j : Int) < (j : Int)) := by omega
          have hhit := HHIT.out k
          have hmiss := HMISS.out k
          rw [← HNN.out] at hhit hmiss
          generalize needU bag es k j = s at *
          cases s
          · have HE := hid (hmiss rfl)
            clear hhit hmiss
            have HF : Hid (Below w.heap.size w W3 ∧ ZR W3 w.heap.size ∧ DL W3 w.heap.size (.slice (some ⟨W0.heap.size, 0, none⟩) 0 0) [] ∧ RL W3 w.heap.size vp vs (partsU bag es (k + 1))) := hid (by
              have hb := bt HB2.out HB3.out
              rw [HE.out]
              exact ⟨HB03.out, HZ1.out.below hb, HD1.out.below hb, HR1.out.below hb⟩)
            go_wp2_with fail
            go_roundw
            case rel => exact ⟨k + 1, vp, vs, by omega, by go_num, rfl, HF⟩
            case measure => simp [intOf]; omega
          · have HE := hid (hhit rfl)
            clear hhit hmiss
            have hb := bt HB2.out HB3.out
            have HR3 := hid (HR1.out.below hb)
            have HZ3 := hid (HZ1.out.below hb)
            have HD3 := hid (HD1.out.below hb)
            have hown := HR3.out.own
            have hule := HULE.out k
            have hrs := HB03.out.size
            have HO93 := hid (own_base (own_below HO9.out HB3.out) HB1.out.size)
            clear hb
            go_wp2_with (first
              | (at_builtin; refine wpList_append_own _ rfl _ _ 37 rfl w.heap.size 38 iS (.slice none 0 0) 1 24 Try.underlying37 hk hx0 hx1 hx2 rfl (by decide) _ _ _ rfl (hown.alloc _) ⟨W3.heap.size, 0, none⟩ 1 1 [.slice a9 lp c9] rfl rfl ?ka1 ?ka2 ?ka3 ?ka4 ?ka5 ?_) | fail)
            try (case ka1 => exact new1_cell _ _ _)
            case ka2 => first | rfl | (intro u hu; simp at hu; subst hu; rfl)
            case ka3 => unfold maxLen; omega
            case ka4 => omega
            case ka5 => exact Nat.le_trans hrs (by simp)
            intro v' w5 hown' hgrow _
            have HF : Hid (Below w.heap.size w w5 ∧ ZR w5 w.heap.size ∧ DL w5 w.heap.size (.slice (some ⟨W0.heap.size, 0, none⟩) 0 0) [] ∧ RL w5 w.heap.size v' (vs ++ [.slice a9 lp c9]) (partsU bag es (k + 1))) := hid (by
              rw [HE.out]
              refine ⟨own_grow2 hrs hown HB03.out hgrow, HZ3.out.grow2 hown hgrow, HD3.out.far hown hgrow, HR3.out.step (u := .slice a9 lp c9) ?_ hown' hgrow⟩
              rw [← HPK.out, ← HLP.out]
              exact HO93.out)
            clear hown' hgrow hown
            go_wp2
            go_roundw
            case rel => exact ⟨k + 1, v', _, by omega, by go_num, rfl, HF⟩
            case measure => simp [intOf]; omega
    · obtain rfl : m = k := by omega
      have i1 : ¬ ((m : Int) < (m : Int)) := by omega
      rw [HPS.out] at HR1
      clear HHIT HMISS HULE HNU0 HNUS HNUN HOV HPL HPU0 KSH HPS
      have HPLE : Hid (∀ j, j < (partsL bag es).length → ((partsL bag es).getD j []).length ≤ 1099511627776) := hid fun j hj => by
        rw [partsL_get (by rw [← partsL_length]; exact hj)]
        exact Nat.le_trans (part_len _ _) (HLE.out _)
      obtain ⟨PS, hPS⟩ : ∃ PS, PS = partsL bag es := ⟨_, rfl⟩
      rw [← hPS] at HR1 HSUM HY HPY hP1 hP7 HPLE
      clear hPS
      obtain ⟨gP, cP, rfl, -, -⟩ := HR1.out.get (i := 0) (by omega)
      have HRC : Hid (∀ W, RL W w.heap.size (.slice (some ⟨gP, 0, none⟩) PS.length cP) vs PS → ∀ j, j < PS.length → W.cell? ⟨gP, j, none⟩ = some (vs.getD j undef) ∧ IS W (vs.getD j undef) (PS.getD j [])) := hid fun W hR j hj => by
        obtain ⟨g, c, e, h1, h2⟩ := hR.get hj
        simp only [Value.slice.injEq, Option.some.injEq, Addr.mk.injEq, and_true, true_and] at e
        obtain ⟨rfl, rfl⟩ := e
        exact ⟨h1, h2⟩
      have HRS : Hid (∀ k, k < nb → rowsD ((coverL bag PS).take (k + 1)) = rowsD ((coverL bag PS).take k) ++ [⟨plN (fun i => decide (bag.getD k 0 ∈ PS.getD i [])) PS.length, false, 1⟩]) := hid fun k hk => rowsD_succ (by rw [← HNB.out]; exact hk)
      have HRN : Hid (rowsD ((coverL bag PS).take nb) = rowsD (coverL bag PS)) := hid (by rw [HNB.out, ← coverL_len bag PS, List.take_length])
      have HCD : Hid (rowsD (coverL bag PS) ++ unitsD PS.length = coverD bag PS) := hid rfl
      have HOKD : Hid (∀ D ∈ coverD bag PS, DemOk PS.length D) := hid (coverD_ok hP7)
      have HSTAR : Hid (Star PS.length false (coverD bag PS) y) := hid (star_cover HY.out)
      have HRDL : Hid (∀ k, k ≤ nb → (rowsD ((coverL bag PS).take k)).length = k) := hid fun k hk => by
        simp only [rowsD, List.length_map, List.length_take, coverL_len]
        rw [← HNB.out]; omega
      obtain ⟨nP, hnP⟩ : ∃ n, n = PS.length := ⟨_, rfl⟩
      have HNP := hid hnP
      rw [← hnP] at HRC hP1 hP7 HPLE HRS HCD HOKD HSTAR HSUM HPY HR1 ⊢
      clear hnP HY
      have HX3 : Hid (Below w.heap.size w W1 ∧ ZR W1 w.heap.size ∧ DL W1 w.heap.size (.slice (some ⟨W0.heap.size, 0, none⟩) 0 0) [] ∧ RL W1 w.heap.size (.slice (some ⟨gP, 0, none⟩) nP cP) vs PS ∧ ([] : List (Value × Dem)).map Prod.snd = rowsD ((coverL bag PS).take 0) ∧ ([] : List (Value × Dem)).length = 0) := hid ⟨HB1.out, HZ1.out, HD1.out, HR1.out, rfl, rfl⟩
      clear HB1 HZ1 HD1 HR1
      go_wp2_with fail
      go_loopw [5, 74] (fun v t wr => ∃ (k : Nat) (vc : Value) (ps : List (Value × Dem)), k ≤ nb ∧ t = .int .i64 k ∧ vc = v ∧ Hid (Below w.heap.size w wr ∧ ZR wr w.heap.size ∧ DL wr w.heap.size vc ps ∧ RL wr w.heap.size (.slice (some ⟨gP, 0, none⟩) nP cP) vs PS ∧ ps.map Prod.snd = rowsD ((coverL bag PS).take k) ∧ ps.length = k)) (fun _ t _ => nb - (intOf t).toNat)
      case atStart => exact ⟨0, _, [], Nat.zero_le _, rfl, rfl, HX3⟩
      case round =>
        clear HX3
        obtain ⟨k, vc, ps, hk3, rfl, rfl, hH⟩ := hrel
        generalize wr = W2 at *
        have HB2 := hid hH.out.1
        have HZ2 := hid hH.out.2.1
        have HD2 := hid hH.out.2.2.1
        have HR2 := hid hH.out.2.2.2.1
        have HP2 := hid hH.out.2.2.2.2.1
        have HPL := hid hH.out.2.2.2.2.2
        clear hH
        by_cases hkb : k < nb
        · have i2 : (k : Int) < (nb : Int) := by omega
          obtain ⟨b, o, rfl, e1⟩ := HCB.out k hkb
          have c1 := bclp HB2.out e1
          have HRSk := hid (HRS.out k hkb)
          obtain ⟨p, hp⟩ : ∃ p : Nat → Bool, p = fun i => decide (bag.getD k 0 ∈ PS.getD i []) := ⟨_, rfl⟩
          rw [← hp] at HRSk
          have HPP := hid hp
          obtain ⟨z, hz⟩ : ∃ z, z = bag.getD k 0 := ⟨_, rfl⟩
          rw [← hz] at c1 HPP
          clear hp e1 hz
          go_upto_region 22 with fail
          have hAT := AT.new W2 (.slice none 0 0) false
          have hB3 : Below W2.heap.size W2 (W2.alloc (.cells #[.slice none 0 0, .bool false, .int .i64 1] 174)) := (Below.refl _ _).alloc (Nat.le_refl _) _
          have HX : Hid (Below W2.heap.size W2 (W2.alloc (.cells #[.slice none 0 0, .bool false, .int .i64 1] 174)) ∧ ∃ vat, AT (W2.alloc (.cells #[.slice none 0 0, .bool false, .int .i64 1] 174)) W2.heap.size vat false ∧ (W2.alloc (.cells #[.slice none 0 0, .bool false, .int .i64 1] 174)).ownsRow W2.heap.size 3 1 vat (plc p 0).length ((plc p 0).map (Value.int .i64))) := hid ⟨hB3, _, hAT, World.ownsRow_nil _ _ _ _⟩
          clear hAT hB3 c1
          generalize W2.alloc (.cells #[.slice none 0 0, .bool false, .int .i64 1] 174) = W3 at *
          go_wp2
          go_loopw [81] (fun t wr => ∃ j : Nat, j ≤ nP ∧ t = .int .i64 j ∧ Hid (Below W2.heap.size W2 wr ∧ ∃ vat, AT wr W2.heap.size vat false ∧ wr.ownsRow W2.heap.size 3 1 vat (plc p j).length ((plc p j).map (Value.int .i64)))) (fun t _ => nP - (intOf t).toNat)
          case atStart => exact ⟨0, Nat.zero_le _, rfl, HX⟩
          case round =>
            obtain ⟨j, hjm, rfl, hH⟩ := hrel
            clear HX
            obtain ⟨hB4, vat, hAT, hown⟩ := hH.out
            have HB4 := hid hB4
            have HAT := hid hAT
            have HOWN := hid hown
            have hple := plc_le p j
            have hns := hB4.size
            have t0 := hAT.arr.cell 0 (by omega)
            have t1 := hAT.arr.cell 1 (by omega)
            have t2 := hAT.arr.cell 2 (by omega)
            have f0 := hAT.arr.free 0 (by omega)
            simp only [f3] at t0 t1 t2
            clear hH hB4 hAT hown
            by_cases hjn : j < nP
            · have i3 : (j : Int) < (nP : Int) := by omega
              obtain ⟨c2, hu⟩ := HRC.out wr (HR2.out.below HB4.out) j hjn
              have KH : Hid (Calls Try.prog 100 #[vs.getD j undef, .int .i64 z] wr fun e w' => e = .returned (.bool (decide (z ∈ PS.getD j []))) ∧ w' = wr) := hid (l1Has_calls wr _ _ z hu (HPLE.out j hjn))
              have hpj : p j = decide (z ∈ PS.getD j []) := by rw [HPP.out]
              rw [← hpj] at KH
              obtain ⟨a7, c7, e7, -⟩ := hu
              rw [e7] at c2 KH
              clear hpj e7
              generalize (PS.getD j []).length = lj at *
              by_cases hpt : p j = true
              · have e1 := hid (plc_hit p j hpt)
                rw [hpt] at KH
                have hown := HOWN.out
                go_wp2_with (first
                  | (go_at_call 100; refine KH.out.mono ?_; rintro e w' ⟨rfl, hw'⟩; subst w')
                  | (at_builtin; refine wpList_append_own _ rfl _ _ 38 rfl W2.heap.size 3 i0 (.int .i64 0) 1 8 Try.underlying38 hi hz0 hz1 hz2 rfl (by decide) _ _ _ rfl (hown.alloc _) ⟨wr.heap.size, 0, none⟩ 1 1 [.int .i64 j] rfl rfl ?kb1 ?kb2 ?kb3 ?kb4 ?kb5 ?_))
                case kb1 => exact new1_cell _ _ _
                case kb2 => intro u hu; simp at hu; subst hu; rfl
                case kb3 => unfold maxLen; omega
                case kb4 => omega
                case kb5 => exact Nat.le_trans hns (by simp)
                intro v' w1 hown' hgrow _
                obtain ⟨a6, c6, e6⟩ := ownSl hown'
                obtain ⟨⟨q0, q1⟩, hAT', hown2⟩ := HAT.out.grow hown hown' hgrow
                have hbl := own_grow2 hns hown HB4.out hgrow
                have HF : Hid (Below W2.heap.size W2 (w1.setCell ⟨W2.heap.size, 0, none⟩ v') ∧ ∃ vat, AT (w1.setCell ⟨W2.heap.size, 0, none⟩ v') W2.heap.size vat false ∧ (w1.setCell ⟨W2.heap.size, 0, none⟩ v').ownsRow W2.heap.size 3 1 vat (plc p (j + 1)).length ((plc p (j + 1)).map (Value.int .i64))) := hid ⟨hbl.setCell (Nat.le_refl _) _, v', hAT', by rw [e1.out]; simpa using hown2⟩
                clear hown' hgrow hown hAT' hown2 hbl t0 t1 t2 f0
                subst e6
                go_wp2
                go_roundw
                case rel => exact ⟨j + 1, by omega, by go_num, HF⟩
                case measure => simp [intOf]; omega
              · have hpf : p j = false := by simpa using hpt
                have e1 := hid (plc_miss p j hpf)
                rw [hpf] at KH
                go_wp2_with (first | (go_at_call 100; refine KH.out.mono ?_; rintro e w' ⟨rfl, hw'⟩; subst w'))
                go_roundw
                case rel => exact ⟨j + 1, by omega, by go_num, hid ⟨HB4.out, vat, HAT.out, by rw [e1.out]; exact HOWN.out⟩⟩
                case measure => simp [intOf]; omega
            · obtain rfl : nP = j := by omega
              have i3 : ¬ ((nP : Int) < (nP : Int)) := by omega
              obtain ⟨a5, c5, e5, -⟩ := own_is HOWN.out
              subst e5
              have HLP := hid (plc_len p nP)
              have HWr := hid (bt HB2.out HB4.out)
              generalize hlp : (plc p nP).length = lp at *
              have hDL := HD2.out.below HB4.out
              have hlen := HPL.out
              have hown := hDL.own
              rw [hlen] at hown
              have hrs := HWr.out.size
              go_wp2_with (first
                | (at_builtin; refine wpList_append_own _ rfl _ _ 172 rfl w.heap.size 174 iD (.agg #[.slice none 0 0, .bool false, .int .i64 0]) 3 40 Try.underlying172 hj hy0 hy1 hy2 rfl (by decide) _ _ _ rfl (hown.alloc _) ⟨wr.heap.size, 0, none⟩ 1 1 [.slice a5 lp c5, .bool false, .int .i64 1] rfl rfl ?kc1 ?kc2 ?kc3 ?kc4 ?kc5 ?_) | fail)
              case kc2 => first | rfl | exact ⟨rfl, rfl, rfl⟩ | (intro u hu; simp at hu; rcases hu with rfl | rfl | rfl <;> rfl)
              case kc3 => unfold maxLen; omega
              case kc4 => omega
              case kc5 => exact Nat.le_trans hrs (by simp)
              intro v' w3 hown' hgrow _
              have hst := hDL.step (p := (.slice a5 lp c5, ⟨plN p nP, false, 1⟩)) (by
                have := own_base HOWN.out HB2.out.size
                show wr.ownsRow w.heap.size 3 1 (.slice a5 lp c5) (plN p nP).length (ivals (plN p nP))
                rw [← HLP.out, ← plc_ivals]
                exact this) (by rw [hlen]; exact hown') hgrow
              have hbl := own_grow2 hrs hown HWr.out hgrow
              have HF : Hid (Below w.heap.size w w3 ∧ ZR w3 w.heap.size ∧ DL w3 w.heap.size v' (ps ++ [(.slice a5 lp c5, ⟨plN p nP, false, 1⟩)]) ∧ RL w3 w.heap.size (.slice (some ⟨gP, 0, none⟩) nP cP) vs PS ∧ (ps ++ [((.slice a5 lp c5 : Value), (⟨plN p nP, false, 1⟩ : Dem))]).map Prod.snd = rowsD ((coverL bag PS).take (k + 1)) ∧ (ps ++ [((.slice a5 lp c5 : Value), (⟨plN p nP, false, 1⟩ : Dem))]).length = k + 1) :=
                hid ⟨hbl, (HZ2.out.below HB4.out).grow hown hgrow, hst, (HR2.out.below HB4.out).other hown hgrow, by rw [List.map_append, HP2.out, HRSk.out]; rfl, by rw [List.length_append, hlen]; rfl⟩
              clear hst hbl hown' hgrow hown hDL t0 t1 t2 f0
              go_wp2
              go_roundw
              case rel => exact ⟨k + 1, v', _, by omega, by go_num, rfl, HF⟩
              case measure => simp [intOf]; omega
        · obtain rfl : nb = k := by omega
          have i2 : ¬ ((nb : Int) < (nb : Int)) := by omega
          have HX5 : Hid (Below w.heap.size w W2 ∧ ZR W2 w.heap.size ∧ DL W2 w.heap.size vc ps ∧ ps.map Prod.snd = rowsD (coverL bag PS) ++ unitsD 0) := hid ⟨HB2.out, HZ2.out, HD2.out, by rw [HP2.out, HRN.out]; simp [unitsD]⟩
          clear HB2 HZ2 HD2 HR2 HP2 HPL HRS HRC
          go_wp2_with fail
          go_loopw [5, 103] (fun v t wr => ∃ (k : Nat) (vc : Value) (ps : List (Value × Dem)), k ≤ nP ∧ t = .int .i64 k ∧ vc = v ∧ Hid (Below w.heap.size w wr ∧ ZR wr w.heap.size ∧ DL wr w.heap.size vc ps ∧ ps.map Prod.snd = rowsD (coverL bag PS) ++ unitsD k)) (fun _ t _ => nP - (intOf t).toNat)
          case atStart => exact ⟨0, _, ps, Nat.zero_le _, rfl, rfl, HX5⟩
          case round =>
            clear HX5
            obtain ⟨k, vc, ps, hk5, rfl, rfl, hH⟩ := hrel
            generalize wr = W4 at *
            have HB4 := hid hH.out.1
            have HZ4 := hid hH.out.2.1
            have HD4 := hid hH.out.2.2.1
            have HP4 := hid hH.out.2.2.2
            have HLP : Hid (ps.length = nb + k) := hid (by
              have := congrArg List.length hH.out.2.2.2
              rw [List.length_map, List.length_append, ← HRN.out, HRDL.out nb (Nat.le_refl _)] at this
              rw [this]
              simp [unitsD])
            clear hH
            by_cases hkm : k < nP
            · have i3 : (k : Int) < (nP : Int) := by omega
              have hown := HD4.out.own
              have hlen := HLP.out
              rw [hlen] at hown
              have hrs := HB4.out.size
              go_wp2_with (first
                | (at_builtin; refine wpList_append_own _ rfl _ _ 172 rfl w.heap.size 174 iD (.agg #[.slice none 0 0, .bool false, .int .i64 0]) 3 40 Try.underlying172 hj hy0 hy1 hy2 rfl (by decide) _ _ _ rfl ((hown.alloc _).alloc _) ⟨W4.heap.size + 1, 0, none⟩ 1 1 [.slice (some ⟨W4.heap.size, 0, none⟩) 1 1, .bool false, .int .i64 0] rfl rfl ?kd1 ?kd2 ?kd3 ?kd4 ?kd5 ?_) | fail)
              case kd1 => exact newUnit _ _ _ _
              case kd2 => first | rfl | exact ⟨rfl, rfl, rfl⟩ | (intro u hu; simp at hu; rcases hu with rfl | rfl | rfl <;> rfl)
              case kd3 => unfold maxLen; omega
              case kd4 => omega
              case kd5 => exact Nat.le_trans hrs (by simp; omega)
              intro v' w1 hown1 hgrow1 _
              have hBa : Below W4.heap.size W4 (W4.alloc (.cells #[.int .i64 k] 3)) := (Below.refl _ _).alloc (Nat.le_refl _) _
              have hUn : (W4.alloc (.cells #[.int .i64 k] 3)).ownsRow w.heap.size 3 1 (.slice (some ⟨W4.heap.size, 0, none⟩) 1 1) 1 (ivals [k]) := World.ownsRow_lit W4 #[.int .i64 k] 1 hrs (by decide) rfl
              have HF : Hid (Below w.heap.size w w1 ∧ ZR w1 w.heap.size ∧ DL w1 w.heap.size v' (ps ++ [(.slice (some ⟨W4.heap.size, 0, none⟩) 1 1, ⟨[k], false, 0⟩)]) ∧ (ps ++ [((.slice (some ⟨W4.heap.size, 0, none⟩) 1 1 : Value), (⟨[k], false, 0⟩ : Dem))]).map Prod.snd = rowsD (coverL bag PS) ++ unitsD (k + 1)) :=
                hid ⟨own_grow2 (Nat.le_trans hrs hBa.size) (own_below HD4.out.own hBa) (bt HB4.out hBa) hgrow1, (HZ4.out.below hBa).grow (own_below HD4.out.own hBa) hgrow1, (HD4.out.below hBa).step (p := (.slice (some ⟨W4.heap.size, 0, none⟩) 1 1, ⟨[k], false, 0⟩)) hUn (by rw [hlen]; exact hown1) hgrow1, by rw [List.map_append, HP4.out, unitsD_succ, List.append_assoc]; rfl⟩
              clear hown1 hgrow1 hBa hUn hown
              go_wp2
              go_roundw
              case rel => exact ⟨k + 1, v', _, by omega, by go_num, rfl, HF⟩
              case measure => simp [intOf]; omega
            · obtain rfl : nP = k := by omega
              have i3 : ¬ ((nP : Int) < (nP : Int)) := by omega
              rw [HCD.out] at HP4
              have KC := hid (corner_best nP false ps y hP1 hP7 (by rw [HLP.out]; omega) (by rw [HP4.out]; exact HOKD.out) (by rw [HP4.out]; exact HSTAR.out) vc W4 HD4.out.dp)
              go_wp2_with fail
              refine KC.out.mono ?_
              rintro e w5 ⟨v5, rfl, hir, hb5⟩
              have KS := hid (ssum_best w5 v5 nP y hP7 hir HPY.out)
              rw [HSUM.out] at KS
              obtain ⟨a5, c5, e5, -⟩ := hir
              subst e5
              have HB5 := hid hb5
              clear hb5 KC
              go_wp2_with fail
              refine KS.out.mono ?_
              rintro e w6 ⟨rfl, hb6'⟩
              have hb46 := bt HB5.out hb6'
              have hT := (HZ4.out.below hb46).two
              have e1 := hT.1
              have e2 := hT.2.1
              have e3 := hT.2.2.1
              have e4 := hT.2.2.2
              generalize hq1 : (wdR es bag).num = qn at *
              generalize hq2 : ((wdR es bag).den : Int) = qd at *
              have HQ1 := hid hq1
              have HQ2 := hid hq2
              clear hq1 hq2
              have HQ := hid (And.intro (bt HB4.out hb46) (hT.set qn qd))
              clear hb6' hb46 hT
              go_wp2
              have r1 := HQ.out.2.1
              have r2 := HQ.out.2.2.1
              refine bodyPost_ret (v := .agg #[.int .i64 qn, .int .i64 qd]) (by simp [results, Try.results101, go_sem, r1, r2]) rfl ⟨by rw [HQ1.out, HQ2.out], (HQ.out.1.setCell (Nat.le_refl _) _).setCell (Nat.le_refl _) _⟩

end Go.Proofs.Ytliggcbiiaegeac

/-
  spec.l4Widths.
-/
namespace Go.Proofs.Ytliggcbiiaegeac
open Go.RowKit

/-- a Rat that may be written, in a block of its own -/
structure TR (W : World) (g : Nat) (x y : Int) : Prop where
  typ : ∃ cur, W.heap[g]? = some (.cells cur 49 (0, 0))
  two : Two W g x y

section
variable {W W' w3 : World} {g B : Nat} {x y : Int} {v : Value} {o : Obj}
theorem TR.lt (h : TR W g x y) : g < W.heap.size := lt_of_typ h.typ
theorem TR.below (h : TR W g x y) (hb : Below W.heap.size W W') : TR W' g x y := ⟨by rw [hb.block g h.lt]; exact h.typ, h.two.below h.lt hb⟩
theorem TR.move (h : TR W g x y) (e : W'.heap[g]? = W.heap[g]?) : TR W' g x y :=
  ⟨by rw [e]; exact h.typ, (World.cell?_of_block (w := W) (a := ⟨g, 0, none⟩) e).trans h.two.1, (World.cell?_of_block (w := W) (a := ⟨g, 1, none⟩) e).trans h.two.2.1, (World.frozen?_of_block (w := W) (a := ⟨g, 0, none⟩) e).trans h.two.2.2.1, (World.frozen?_of_block (w := W) (a := ⟨g, 1, none⟩) e).trans h.two.2.2.2⟩
theorem TR.new (W : World) (x y : Int) : TR (W.alloc (.cells #[.int .i64 x, .int .i64 y] 49)) W.heap.size x y :=
  ⟨⟨_, heap_alloc_new _ _⟩, by rw [World.cell?_alloc_at _ _ _ _ rfl]; rfl, by rw [World.cell?_alloc_at _ _ _ _ rfl]; rfl, World.frozen?_alloc_at _ _ _ _ rfl, World.frozen?_alloc_at _ _ _ _ rfl⟩
theorem TR.set (h : TR W g x y) (x' y' : Int) : TR ((W.setCell ⟨g, 0, none⟩ (.int .i64 x')).setCell ⟨g, 1, none⟩ (.int .i64 y')) g x' y' := ⟨typ_set (typ_set h.typ), h.two.set x' y'⟩
theorem TR.other {g' : Nat} (h : TR W g x y) (hne : g ≠ g') (a b : Value) : TR ((W.setCell ⟨g', 0, none⟩ a).setCell ⟨g', 1, none⟩ b) g x y :=
  h.move (by rw [Below.heap_setCell _ _ _ _ (by exact hne), Below.heap_setCell _ _ _ _ (by exact hne)])
theorem TR.grow {n : Nat} {xs : List Value} (h : TR W g x y) (hne : some g ≠ v.ownBlock) (hg : (W.alloc o).grownBy w3 v.ownBlock) (_hown : W.ownsRow B 49 2 v n xs) : TR w3 g x y := h.move (grown_keep hg h.lt hne)
end

theorem new2_cell' (w : World) (x y : Value) (t : TypeId) : ∀ j u, [x, y][j]? = some u → (w.alloc (.cells #[x, y] t)).cell? ((⟨w.heap.size, 0, none⟩ : Addr).add j) = some u := by
  intro j u hj
  match j, hj with
  | 0, hj => simp at hj; subst hj; simp [Addr.add]
  | 1, hj => simp at hj; subst hj; simp [Addr.add]

set_option maxHeartbeats 20000000 in
set_option maxRecDepth 1000000 in
theorem l4Widths_calls (w : World) (vb ve : Value) (bs es : List (List Int)) (hb : ISS w vb bs) (hlb : bs.length ≤ 1000) (h : ISS w ve es) (hl : Short es) (he : edgesB es = true) (hg : ∀ i, i < bs.length → GoodBag es (bs.getD i []) ∧ 1 ≤ (bs.getD i []).length) :
    Calls Try.prog 62 #[vb, ve] w fun e w' => ∃ v, e = .returned (.tuple #[v, .agg #[.int .i64 (mostN (fun i => wdR es (bs.getD i [])) bs.length).num, .int .i64 (mostN (fun i => wdR es (bs.getD i [])) bs.length).den]]) ∧
      w'.ownsRow w.heap.size 49 2 v bs.length (rcs (prs bs.length (fun i => wdR es (bs.getD i [])))) ∧ Below w.heap.size w w' := by
  obtain ⟨iR, hi, hz0, hz1, hz2⟩ := info_parts Try.infoRatS
  have HES := hid h
  have HL := hid hl
  obtain ⟨aE, cE, rfl, -⟩ := h
  have KW : Hid (∀ W u i, Below w.heap.size w W → i < bs.length → IS W u (bs.getD i []) → Calls Try.prog 101 #[u, .slice aE es.length cE] W fun e w' => e = .returned (.agg #[.int .i64 (wdR es (bs.getD i [])).num, .int .i64 (wdR es (bs.getD i [])).den]) ∧ Below W.heap.size W w') :=
    hid fun W u i hW hi hu => l4Width_calls W u _ (bs.getD i []) es hu (HES.out.below hW) HL.out he (hg i hi).1 (hg i hi).2
  have HSM : Hid (∀ i, i < bs.length → Sm 36000 (wdR es (bs.getD i []))) := hid fun i hi => (hg i hi).1.sm he
  have HMS : Hid (∀ k, k ≤ bs.length → Sm 36000 (mostN (fun i => wdR es (bs.getD i [])) k)) := hid fun k hk => mostN_sm (by omega) (fun i hi => HSM.out i (by omega))
  obtain ⟨a, cap, rfl, hc⟩ := hb
  have HC := hid hc
  obtain ⟨f, hf⟩ : ∃ f : Nat → Rat, f = fun i => wdR es (bs.getD i []) := ⟨_, rfl⟩
  have HFI : Hid (∀ i, wdR es (bs.getD i []) = f i) := hid fun i => by rw [hf]
  rw [← hf] at HMS ⊢
  have HS1 : Hid (∀ k, mostN f k < f k → mostN f (k + 1) = f k) := hid fun k hk => by show (if _ then _ else _) = _; rw [if_pos hk]
  have HS2 : Hid (∀ k, ¬ mostN f k < f k → mostN f (k + 1) = mostN f k) := hid fun k hk => by show (if _ then _ else _) = _; rw [if_neg hk]
  have H0 : Hid (mostN f 0 = 0) := hid rfl
  have HRC := hid (fun k => rcs_prs_succ k f)
  have HR0 : Hid (rcs (prs 0 f) = []) := hid rfl
  obtain ⟨n, hn⟩ : ∃ n, n = bs.length := ⟨_, rfl⟩
  rw [← hn] at hlb KW HSM HMS HC ⊢
  clear hc hf hn hg hl he
  generalize mostN f = MN at *
  have hb1 : Below w.heap.size w (w.alloc (.cells #[.int .i64 0, .int .i64 0] 49)) := (Below.refl _ _).alloc (Nat.le_refl _) _
  have hb2 := hb1.alloc hb1.size (.cells #[] 49)
  have hb3 := hb2.alloc hb2.size (.cells #[.int .i64 0, .int .i64 1] 49)
  have hA : ∀ W : World, ∀ o, Below W.heap.size W (W.alloc o) := fun W o => (Below.refl _ _).alloc (Nat.le_refl _) _
  have t1 := ((TR.new w 0 0).below (hA _ (.cells #[] 49))).below (hA _ (.cells #[.int .i64 0, .int .i64 1] 49))
  have t2 := TR.new ((w.alloc (.cells #[.int .i64 0, .int .i64 0] 49)).alloc (.cells #[] 49)) 0 1
  have ow : ((w.alloc (.cells #[.int .i64 0, .int .i64 0] 49)).alloc (.cells #[] 49)).ownsRow w.heap.size 49 2 (.slice (some ⟨(w.alloc (.cells #[.int .i64 0, .int .i64 0] 49)).heap.size, 0, none⟩) 0 0) 0 [] := World.ownsRow_made (w.alloc (.cells #[.int .i64 0, .int .i64 0] 49)) #[] 0 hb1.size (by decide) rfl
  have ow2 := own_below ow (hA _ (.cells #[.int .i64 0, .int .i64 1] 49))
  have s1 : (w.alloc (.cells #[.int .i64 0, .int .i64 0] 49)).heap.size = w.heap.size + 1 := by simp
  have s2 : ((w.alloc (.cells #[.int .i64 0, .int .i64 0] 49)).alloc (.cells #[] 49)).heap.size = w.heap.size + 1 + 1 := by simp
  rw [s1] at ow2
  rw [s2] at t2
  have HX : Hid (Below w.heap.size w (((w.alloc (.cells #[.int .i64 0, .int .i64 0] 49)).alloc (.cells #[] 49)).alloc (.cells #[.int .i64 0, .int .i64 1] 49)) ∧ TR (((w.alloc (.cells #[.int .i64 0, .int .i64 0] 49)).alloc (.cells #[] 49)).alloc (.cells #[.int .i64 0, .int .i64 1] 49)) w.heap.size 0 0 ∧ TR (((w.alloc (.cells #[.int .i64 0, .int .i64 0] 49)).alloc (.cells #[] 49)).alloc (.cells #[.int .i64 0, .int .i64 1] 49)) (w.heap.size + 1 + 1) 0 1 ∧
    (((w.alloc (.cells #[.int .i64 0, .int .i64 0] 49)).alloc (.cells #[] 49)).alloc (.cells #[.int .i64 0, .int .i64 1] 49)).ownsRow w.heap.size 49 2 (.slice (some ⟨w.heap.size + 1, 0, none⟩) 0 0) 0 []) := hid ⟨hb3, t1, t2, ow2⟩
  clear hb1 hb2 hb3 hA t1 t2 ow ow2 s1 s2
  go_enter Try.func62, Try.ntmps62
  go_wp2
  go_loopw [6, 15] (fun v t wr => ∃ (k : Nat) (vc : Value), k ≤ n ∧ t = .int .i64 k ∧ vc = v ∧ w.heap.size + 1 + 1 < wr.heap.size ∧ Hid (Below w.heap.size w wr ∧ TR wr w.heap.size 0 0 ∧ TR wr (w.heap.size + 1 + 1) (MN k).num (MN k).den ∧ wr.ownsRow w.heap.size 49 2 vc k (rcs (prs k f)) ∧ ∀ g, vc.ownBlock = some g → g ≠ w.heap.size ∧ g ≠ w.heap.size + 1 + 1)) (fun _ t _ => n - (intOf t).toNat)
  case atStart =>
    refine ⟨0, _, Nat.zero_le _, rfl, rfl, by simp, hid ⟨HX.out.1, HX.out.2.1, by rw [H0.out]; exact HX.out.2.2.1, by rw [HR0.out]; exact HX.out.2.2.2, fun g hg => ?_⟩⟩
    have := ownB hg
    omega
  case round =>
    clear HX
    obtain ⟨k, vc, hkn, rfl, rfl, hsz, hH⟩ := hrel
    generalize wr = W1 at *
    have HB1 := hid hH.out.1
    have HT1 := hid hH.out.2.1
    have HM1 := hid hH.out.2.2.1
    have HO1 := hid hH.out.2.2.2.1
    have HN1 := hid hH.out.2.2.2.2
    clear hH
    by_cases hk1 : k < n
    · have i1 : (k : Int) < (n : Int) := by omega
      rcases HC.out with h0 | ⟨b, o, rfl, hcell⟩
      · omega
      obtain ⟨u, e1, hu⟩ := hcell k hk1
      have c1 := bclp HB1.out e1
      have KW1 := hid (KW.out W1 u k HB1.out hk1 (hu.below HB1.out))
      have hs1 := HSM.out k hk1
      have hs2 := HMS.out k hkn
      rw [HFI.out k] at KW1 hs1
      have KL : Hid (∀ W, Calls Try.prog 102 #[.agg #[.int .i64 (MN k).num, .int .i64 (MN k).den], .agg #[.int .i64 (f k).num, .int .i64 (f k).den]] W fun e w' => e = .returned (.bool (decide (MN k < f k))) ∧ Below W.heap.size W w') := hid fun W => slessV (MN k) (f k) W hs2 hs1 (by decide)
      have hc1 := HS1.out k
      have hc2 := HS2.out k
      have HRk := hid (HRC.out k)
      obtain ⟨a1, cap1, rfl, -⟩ := hu
      clear hcell e1 hs1 hs2
      generalize (bs.getD k []).length = lk at *
      generalize hx : (f k).num = x at *
      generalize hy : ((f k).den : Int) = y at *
      generalize hx0 : (MN k).num = x0 at *
      generalize hy0 : ((MN k).den : Int) = y0 at *
      have HX := hid hx
      have HY := hid hy
      have HX0 := hid hx0
      have HY0 := hid hy0
      clear hx hy hx0 hy0
      go_wp2_with fail
      refine KW1.out.mono ?_
      rintro e W2 ⟨rfl, hb2⟩
      have HB2 := hid hb2
      have hA : Below W2.heap.size W2 (W2.alloc (.cells #[.int .i64 x, .int .i64 y] 49)) := (Below.refl _ _).alloc (Nat.le_refl _) _
      have HT3 := hid (TR.new W2 x y)
      have HB13 := hid (bt hb2 hA)
      have HO3 := hid (own_below HO1.out (bt hb2 hA))
      have HM3 := hid (HM1.out.below (bt hb2 hA))
      have HZ3 := hid (HT1.out.below (bt hb2 hA))
      have d1 := HT3.out.two.1
      have d2 := HT3.out.two.2.1
      have hsz2 := hb2.size
      clear hb2 hA KW1 c1 HT1 HM1
      go_upto_region 7 with fail
      obtain ⟨G, hG⟩ : ∃ G, G = W2.heap.size := ⟨_, rfl⟩
      rw [← hG] at HT3 d1 d2 hsz2 ⊢
      clear hG
      generalize W2.alloc (.cells #[.int .i64 x, .int .i64 y] 49) = W3 at *
      have hown := HO3.out
      have hrs := (bt HB1.out HB13.out).size
      have hlt3 := HT3.out.lt
      go_wp2_with (first
        | (at_builtin; refine wpList_append_lies _ rfl _ _ 48 rfl w.heap.size 49 iR (.agg #[.int .i64 0, .int .i64 0]) 2 16 Try.underlying48 hi hz0 hz1 hz2 rfl (by decide) _ _ _ rfl (hown.alloc _) ⟨W3.heap.size, 0, none⟩ 1 1 [.int .i64 x, .int .i64 y] rfl rfl ?ka1 ?ka2 (by decide) ?ka3 ?ka4 ?ka5 _ rfl ?_) | fail)
      case ka1 => exact new2_cell' _ _ _ _
      case ka2 => intro u hu; simp at hu; rcases hu with rfl | rfl <;> rfl
      case ka3 => unfold maxLen; omega
      case ka4 => omega
      case ka5 => exact Nat.le_trans hrs (by simp)
      intro g cp w4 hown4 hgrow hat hlt
      have hGn : some G ≠ vc.ownBlock := fun e => by
        have := (HO1.out.lt G e.symm).2
        omega
      have hz4 := HZ3.out.grow (fun e => (HN1.out _ e.symm).1 rfl) hgrow hown
      have hm4 := HM3.out.grow (fun e => (HN1.out _ e.symm).2 rfl) hgrow hown
      have hg4 := HT3.out.grow hGn hgrow hown
      have hb4 := own_grow2 hrs hown (bt HB1.out HB13.out) hgrow
      have hs4 : W3.heap.size < w4.heap.size := by
        have := hgrow.size
        simp at this
        omega
      have HN4 : Hid (∀ g', (Value.slice (some ⟨g, 0, none⟩) (k + 1) cp).ownBlock = some g' → g' ≠ w.heap.size ∧ g' ≠ w.heap.size + 1 + 1) := hid fun g' e => by
        have e2 := ownB e
        subst e2
        rcases hat with h1 | h1
        · exact HN1.out _ h1
        · omega
      have HO4 : Hid (w4.ownsRow w.heap.size 49 2 (.slice (some ⟨g, 0, none⟩) (k + 1) cp) (k + 1) (rcs (prs (k + 1) f))) := hid (by rw [HRk.out]; exact hown4)
      have HZ4 := hid hz4
      have HM4 := hid hm4
      have HG4 := hid hg4
      have HB4 := hid hb4
      have y1 := hm4.two.1
      have y2 := hm4.two.2.1
      have y3 := hg4.two.1
      have y4 := hg4.two.2.1
      clear hz4 hm4 hg4 hb4 hown4 hgrow hat hown hGn d1 d2
      by_cases hlt2 : MN k < f k
      · have HE := hid (hc1 hlt2)
        have KL2 := hid (KL.out w4)
        rw [decide_eq_true hlt2] at KL2
        clear hc1 hc2 KL hlt2
        go_wp2_with fail
        refine KL2.out.mono ?_
        rintro e w5 ⟨rfl, hb5⟩
        have q1 := HM4.out.below hb5
        have q2 := HG4.out.below hb5
        have q3 := HZ4.out.below hb5
        have e1 := q1.two.1
        have e2 := q1.two.2.1
        have e3 := q1.two.2.2.1
        have e4 := q1.two.2.2.2
        have e5 := q2.two.1
        have e6 := q2.two.2.1
        have hs5 := hb5.size
        have HF : Hid (Below w.heap.size w ((w5.setCell ⟨w.heap.size + 1 + 1, 0, none⟩ (.int .i64 x)).setCell ⟨w.heap.size + 1 + 1, 1, none⟩ (.int .i64 y)) ∧ TR ((w5.setCell ⟨w.heap.size + 1 + 1, 0, none⟩ (.int .i64 x)).setCell ⟨w.heap.size + 1 + 1, 1, none⟩ (.int .i64 y)) w.heap.size 0 0 ∧ TR ((w5.setCell ⟨w.heap.size + 1 + 1, 0, none⟩ (.int .i64 x)).setCell ⟨w.heap.size + 1 + 1, 1, none⟩ (.int .i64 y)) (w.heap.size + 1 + 1) (MN (k + 1)).num (MN (k + 1)).den ∧
            ((w5.setCell ⟨w.heap.size + 1 + 1, 0, none⟩ (.int .i64 x)).setCell ⟨w.heap.size + 1 + 1, 1, none⟩ (.int .i64 y)).ownsRow w.heap.size 49 2 (.slice (some ⟨g, 0, none⟩) (k + 1) cp) (k + 1) (rcs (prs (k + 1) f)) ∧ ∀ g', (Value.slice (some ⟨g, 0, none⟩) (k + 1) cp).ownBlock = some g' → g' ≠ w.heap.size ∧ g' ≠ w.heap.size + 1 + 1) := hid (by
          refine ⟨((bt HB4.out hb5).setCell (by show w.heap.size ≤ w.heap.size + 1 + 1; omega) _).setCell (by show w.heap.size ≤ w.heap.size + 1 + 1; omega) _, q3.other (by omega) _ _, by rw [HE.out, HX.out, HY.out]; exact q1.set _ _, ?_, HN4.out⟩
          exact own_move (own_below HO4.out hb5) (fun g' hg' => by
            have hne := (HN4.out g' hg').2
            rw [Below.heap_setCell _ _ _ _ (by exact hne), Below.heap_setCell _ _ _ _ (by exact hne)]))
        clear hb5 q1 q2 q3
        go_wp2_with fail
        go_roundw
        case rel => exact ⟨k + 1, _, by omega, by go_num, rfl, by simp [World.setCell]; omega, HF⟩
        case measure => simp [intOf]; omega
      · have HE := hid (hc2 hlt2)
        have KL2 := hid (KL.out w4)
        rw [decide_eq_false hlt2] at KL2
        clear hc1 hc2 KL hlt2
        go_wp2_with fail
        refine KL2.out.mono ?_
        rintro e w5 ⟨rfl, hb5⟩
        have hs5 := hb5.size
        have HF : Hid (Below w.heap.size w w5 ∧ TR w5 w.heap.size 0 0 ∧ TR w5 (w.heap.size + 1 + 1) (MN (k + 1)).num (MN (k + 1)).den ∧
            w5.ownsRow w.heap.size 49 2 (.slice (some ⟨g, 0, none⟩) (k + 1) cp) (k + 1) (rcs (prs (k + 1) f)) ∧ ∀ g', (Value.slice (some ⟨g, 0, none⟩) (k + 1) cp).ownBlock = some g' → g' ≠ w.heap.size ∧ g' ≠ w.heap.size + 1 + 1) := hid
          ⟨bt HB4.out hb5, HZ4.out.below hb5, by rw [HE.out, HX0.out, HY0.out]; exact HM4.out.below hb5, own_below HO4.out hb5, HN4.out⟩
        clear hb5
        go_wp2_with fail
        go_roundw
        case rel => exact ⟨k + 1, _, by omega, by go_num, rfl, by omega, HF⟩
        case measure => simp [intOf]; omega
    · obtain rfl : k = n := by omega
      have i1 : ¬ ((k : Int) < (k : Int)) := by omega
      have c1 := HT1.out.two.1
      have c2 := HT1.out.two.2.1
      have c3 := HT1.out.two.2.2.1
      have c4 := HT1.out.two.2.2.2
      have e1 := HM1.out.two.1
      have e2 := HM1.out.two.2.1
      generalize hx : (MN k).num = x at *
      generalize hy : ((MN k).den : Int) = y at *
      have HX := hid hx
      have HY := hid hy
      clear hx hy
      have HF : Hid (∀ W', W' = ((W1.setCell ⟨w.heap.size, 0, none⟩ (.int .i64 x)).setCell ⟨w.heap.size, 1, none⟩ (.int .i64 y)).drew → W'.cell? ⟨w.heap.size, 0, none⟩ = some (.int .i64 x) ∧ W'.cell? ⟨w.heap.size, 1, none⟩ = some (.int .i64 y) ∧ W'.ownsRow w.heap.size 49 2 vc k (rcs (prs k f)) ∧ Below w.heap.size w W') := hid fun W' e => by
        have q := HT1.out.set x y
        have hb0 : Below w.heap.size w ((W1.setCell ⟨w.heap.size, 0, none⟩ (.int .i64 x)).setCell ⟨w.heap.size, 1, none⟩ (.int .i64 y)) := (HB1.out.setCell (Nat.le_refl _) _).setCell (Nat.le_refl _) _
        have hb := hb0.drew
        have hh : ∀ b : Nat, W'.heap[b]? = ((W1.setCell ⟨w.heap.size, 0, none⟩ (.int .i64 x)).setCell ⟨w.heap.size, 1, none⟩ (.int .i64 y)).heap[b]? := fun b => by rw [e]; rfl
        refine ⟨(World.cell?_of_block (w := (W1.setCell ⟨w.heap.size, 0, none⟩ (.int .i64 x)).setCell ⟨w.heap.size, 1, none⟩ (.int .i64 y)) (a := ⟨w.heap.size, 0, none⟩) (hh w.heap.size)).trans q.two.1, (World.cell?_of_block (w := (W1.setCell ⟨w.heap.size, 0, none⟩ (.int .i64 x)).setCell ⟨w.heap.size, 1, none⟩ (.int .i64 y)) (a := ⟨w.heap.size, 1, none⟩) (hh w.heap.size)).trans q.two.2.1, own_move HO1.out (fun g' hg' => ?_), by rw [e]; exact hb⟩
        have hne := (HN1.out g' hg').1
        rw [hh, Below.heap_setCell _ _ _ _ (by exact hne), Below.heap_setCell _ _ _ _ (by exact hne)]
      go_wp2_with fail
      go_region
      obtain ⟨r1, r2, r3, r4⟩ := HF.out _ rfl
      go_wp2
      refine bodyPost_ret (v := .tuple #[vc, .agg #[.int .i64 x, .int .i64 y]]) (by simp [results, Try.results62, go_sem, r1, r2]) rfl ⟨_, by rw [HX.out, HY.out], r3, r4⟩

end Go.Proofs.Ytliggcbiiaegeac
