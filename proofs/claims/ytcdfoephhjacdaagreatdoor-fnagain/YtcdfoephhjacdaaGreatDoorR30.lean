import Derived.Shelf.SlSortCmp.NoneTotal
import Derived.Test.YtcdfoephhjacdaaGreatDoorR10
import Derived.Test.YtcdfoephhjacdaaGreatDoorR29
/-
  slices.SortedFunc(maps.Keys(m), compareTuples).
-/
namespace Go.Proofs.YtcdfoephhjacdaaGreatDoor
open Go.RowKit Go.Maps Go.Shelf Go.Lib Go.Sort

set_option maxHeartbeats 2000000 in
set_option maxRecDepth 1000000 in
theorem sortedT_calls (w : World) (Bm b : Nat) (rs : List (T3 × Int)) (D : DataW Unit) (hm : w.cell? ⟨Bm, 0, none⟩ = some (.map (some b))) (h : Tps w b rs D) (hn : rs.length ≤ 1000000) :
    Calls Tryz.prog 67 #[.func (.func 97) #[] #[.pointer (some ⟨Bm, 0, none⟩)], .func (.func 69) #[] #[]] w fun e w' => ∃ (v : Value) (ss : List T3), e = .returned v ∧ ss.Perm (rs.map Prod.fst) ∧ (ss.Pairwise fun a b => ¬ cmpL (tl b) (tl a) < 0) ∧ w'.ownsRow w.heap.size 139 3 v ss.length (ss.flatMap tc) ∧ Below w.heap.size w w' := by
  have eg : ∀ args w, (callFunc 97 args).run Tryz.prog w = .ok (.enter 97 args) w := enters_of Tryz.func97 (by kernel_rfl) rfl
  have hst := keysT_stops Fence.wide 8 trivial rfl (by decide) Bm b rs.length D w (World.block_lt_of_cell? w _ hm) hm h.own h.all
  have KC := callsIn_wide.1 (collectT_in Fence.wide 10 trivial trivial rfl (by decide) 97 #[.pointer (some ⟨Bm, 0, none⟩)] trivial eg _ (Maps.size D) (by rw [h.size]; exact hn) w hst)
  have hsz := h.size
  have hperm : ∀ ss : List T3, (ss.Nodup ∧ ∀ x, x ∈ ss ↔ Maps.has D (kl x) = true) → ss.Perm (rs.map Prod.fst) := fun ss hs => by
    refine (List.perm_ext_iff_of_nodup hs.1 h.nd).2 fun x => ?_
    rw [hs.2 x, h.has x, decide_eq_true_eq]
  have HK := hid KC
  have HP := hid hperm
  clear KC hst hperm h
  go_enter Tryz.func67, Tryz.ntmps67
  go_upto_region 2 with (first | (go_at_call 95; refine HK.out.mono ?_; rintro e w1 ⟨v, ss, rfl, hS, hlN, hrow, hnil, hb⟩) | fail)
  have hl2 : ss.length ≤ 1000000 := by omega
  have hpe := HP.out ss hS
  rcases hrow.2 with ⟨rfl, hz⟩ | ⟨gb, cap, cur, rfl, hbase, hgb, r1, r2, r3, r4⟩
  · have hss : ss = [] := List.eq_nil_of_length_eq_zero hz
    subst hss
    have cN := AnyF.slices_SortFunc_none Tryz.sortT none 0 (.func (.func 69) #[] #[]) w1
    change Calls Tryz.prog 96 _ _ _ at cN
    have HN := hid cN
    clear cN HK HP
    go_wp2_with (first | (go_at_call 96; refine HN.out.mono ?_; rintro e w' ⟨rfl, rfl⟩) | fail)
    go_ret
    exact ⟨.slice none 0 0, rfl, [], hpe, List.Pairwise.nil, hrow, hb⟩
  · have HN := hid (sortT_calls w1 w.heap.size gb cap ss hrow hl2)
    clear HK HP
    go_wp2_with (first | (go_at_call 96; refine HN.out.mono ?_; rintro e w' ⟨rfl, ss', hp', hpw, hown', hb'⟩) | fail)
    go_ret
    exact ⟨_, rfl, ss', hp'.trans hpe, hpw, by rw [hp'.length_eq]; exact hown', hb.trans hb'⟩

end Go.Proofs.YtcdfoephhjacdaaGreatDoor

/-
  impl: (*readRelation).relation.
-/
namespace Go.Proofs.YtcdfoephhjacdaaGreatDoor
open Go.RowKit Go.Maps

/-- a row's weight -/
def valT (rs : List (T3 × Int)) (x : T3) : Int := ((rs.find? fun p => decide (p.1 = x)).map Prod.snd).getD 0
theorem Tps.look {W : World} {b : Nat} {rs : List (T3 × Int)} {D : DataW Unit} (h : Tps W b rs D) {x : T3} (hx : x ∈ rs.map Prod.fst) : ∀ zd, D.atKey (kl x) zd = .lit (.int .i64 (valT rs x)) := by
  intro zd
  obtain ⟨p, hp, rfl⟩ := List.mem_map.1 hx
  unfold valT
  cases hf : rs.find? (fun y => decide (y.1 = p.1)) with
  | none =>
    rw [List.find?_eq_none] at hf
    exact absurd (hf p hp) (by simp)
  | some y =>
    have h1 := List.find?_some hf
    have h2 := List.mem_of_find?_eq_some hf
    simp only [decide_eq_true_eq] at h1
    rw [← h1]
    exact h.val y h2 zd

/-- the rows of tuples -/
def rowsT (ar : Nat) (ss : List T3) : List (List Int) := ss.map fun x => (tl x).take ar
def wtsT (rs : List (T3 × Int)) (ss : List T3) : List Int := ss.map (valT rs)
theorem rowsT_take (ar : Nat) (ss : List T3) {i : Nat} (h : i < ss.length) : rowsT ar (ss.take (i + 1)) = rowsT ar (ss.take i) ++ [(tl ss[i]).take ar] := by
  unfold rowsT; rw [List.take_add_one, List.getElem?_eq_getElem h, List.map_append]; rfl
theorem wtsT_take (rs : List (T3 × Int)) (ss : List T3) {i : Nat} (h : i < ss.length) : wtsT rs (ss.take (i + 1)) = wtsT rs (ss.take i) ++ [valT rs ss[i]] := by
  unfold wtsT; rw [List.take_add_one, List.getElem?_eq_getElem h, List.map_append]; rfl

theorem lookT {W : World} {b : Nat} {rs : List (T3 × Int)} {D : DataW Unit} (h : Tps W b rs D) {x : T3} (hx : x ∈ rs.map Prod.fst) : (Instr.lookup 135 (.map (some b)) (.agg #[.int .i64 x.a, .int .i64 x.b, .int .i64 x.c]) false).run Tryz.prog W = .ok (.int .i64 (valT rs x)) W := by
  obtain ⟨c, hrun, hat, -⟩ := h.own.lookup_int Tryz.lawTu Tryz.underMt Tryz.underlying3 (Tryz.zeroI2 _) (key_t x)
  rw [h.look hx] at hat
  simp only [DataW.lit.injEq, Lit.int.injEq, true_and] at hat
  rw [hat]
  exact hrun
/-- a tuple in its box -/
def BxT (W : World) (k : Nat) (x : T3) : Prop := W.heap[k]? = some (.cells #[.int .i64 x.a, .int .i64 x.b, .int .i64 x.c] 139 (0, 0))
theorem BxT.lt {W : World} {k : Nat} {x : T3} (h : BxT W k x) : k < W.heap.size := (Array.getElem?_eq_some_iff.1 h).1
theorem BxT.below {W W' : World} {k : Nat} {x : T3} (h : BxT W k x) (hb : Below W.heap.size W W') : BxT W' k x := (hb.block k h.lt).trans h
theorem BxT.is {W : World} {k : Nat} {x : T3} (h : BxT W k x) (n : Nat) (hn : n ≤ 3) (c : Nat) : IS W (.slice (some ⟨k, 0, none⟩) n c) ((tl x).take n) := by
  have hl : ((tl x).take n).length = n := by simp [tl]; omega
  refine ⟨_, c, by rw [hl], Or.inr ⟨k, 0, rfl, fun j hj => ?_⟩⟩
  rw [hl] at hj
  rw [Nat.zero_add, cell_of_row _ _ _ _ _ _ h, List.getD_eq_getElem?_getD, List.getElem?_take_of_lt hj]
  obtain rfl | rfl | rfl : j = 0 ∨ j = 1 ∨ j = 2 := by omega
  all_goals rfl
theorem BxT.c0 {W : World} {k : Nat} {x : T3} (h : BxT W k x) : W.cell? ⟨k, 0, none⟩ = some (.int .i64 x.a) := by rw [cell_of_row _ _ _ _ _ _ h]; rfl
theorem BxT.c1 {W : World} {k : Nat} {x : T3} (h : BxT W k x) : W.cell? ⟨k, 1, none⟩ = some (.int .i64 x.b) := by rw [cell_of_row _ _ _ _ _ _ h]; rfl
theorem BxT.c2 {W : World} {k : Nat} {x : T3} (h : BxT W k x) : W.cell? ⟨k, 2, none⟩ = some (.int .i64 x.c) := by rw [cell_of_row _ _ _ _ _ _ h]; rfl
theorem BxT.grown {W w3 : World} {k B n s : Nat} {x : T3} {e : TypeId} {v : Value} {xs : List Value} {o : Obj} (h : BxT W k x) (ho : W.ownsRow B e s v n xs) (he : e ≠ 139) (hg : (W.alloc o).grownBy w3 v.ownBlock) : BxT w3 k x :=
  (kept_of hg h.lt (own_ne ho ⟨_, h⟩ he)).trans h
theorem BxT.set {W : World} {k p j : Nat} {x : T3} {y : Value} (h : BxT W k x) (hp : ∃ cur, W.heap[p]? = some (.cells cur 45 (0, 0))) : BxT (W.setCell ⟨p, j, none⟩ y) k x := by
  refine (Below.heap_setCell _ _ _ _ ?_).trans h
  rintro rfl
  obtain ⟨cur, hc⟩ := hp
  have h' : W.heap[k]? = _ := h
  rw [hc] at h'
  simp only [Option.some.injEq, Obj.cells.injEq] at h'
  exact absurd h'.2.1 (by decide)

set_option maxHeartbeats 8000000 in
set_option maxRecDepth 1000000 in
theorem relation_calls (w : World) (r b : Nat) (nm : ByteArray) (ar : Nat) (rs : List (T3 × Int)) (D : DataW Unit)
    (h0 : w.cell? ⟨r, 0, none⟩ = some (.string nm)) (h1 : w.cell? ⟨r, 1, none⟩ = some (.int .i64 ar)) (h2 : w.cell? ⟨r, 2, none⟩ = some (.map (some b))) (hT : Tps w b rs D) (hn : rs.length ≤ 2000) (har : 1 ≤ ar ∧ ar ≤ 3) :
    Calls Tryz.prog 41 #[.pointer (some ⟨r, 0, none⟩)] w fun e w' => ∃ (v2 v3 : Value) (us : List Value) (ss : List T3), e = .returned (.agg #[.string nm, .int .i64 ar, v2, v3]) ∧ ss.Perm (rs.map Prod.fst) ∧ (ss.Pairwise fun a b => ¬ cmpL (tl b) (tl a) < 0) ∧ RQ w' w.heap.size v2 us (rowsT ar ss) ∧ w'.ownsRow w.heap.size 3 1 v3 (wtsT rs ss).length ((wtsT rs ss).map (Value.int .i64)) ∧ (∀ i, i < ss.length → ApR (us.getD i undef) v3) ∧ Below w.heap.size w w' := by
  obtain ⟨i0, hi, hz0, hz1, hz2⟩ := info_parts Tryz.infoInt
  obtain ⟨iS, hj, hy0, hy1, hy2⟩ := info_parts Tryz.infoIS
  obtain ⟨W1, hW1⟩ : ∃ W1, W1 = (w.alloc (.cells #[.string ⟨#[]⟩, .int .i64 0, .slice none 0 0, .slice none 0 0] 45)) := ⟨_, rfl⟩
  have hB1 : Below w.heap.size w W1 := by rw [hW1]; exact (Below.refl _ _).alloc (Nat.le_refl _) _
  have HR1 : Hid (RX W1 w.heap.size (.string ⟨#[]⟩) (.int .i64 0) (.slice none 0 0) (.slice none 0 0)) := hid (by rw [hW1]; exact RX.made _ _ _ _ _)
  have hs1 : W1.heap.size = w.heap.size + 1 := by rw [hW1]; simp
  have HS1 := hid hs1
  clear hs1
  have c0 := bclR hB1 h0
  have c1 := bclR hB1 h1
  have c2 := bclR hB1 h2
  have HT := hid hT
  have HB1 := hid hB1
  have KK : Hid (∀ W, Calls Tryz.prog 68 #[.map (some b)] W fun e w' => e = .returned (.func (.func 97) #[] #[.pointer (some ⟨W.heap.size, 0, none⟩)]) ∧ w' = W.alloc (.cells #[.map (some b)] 135)) := hid fun W => callsIn_wide.1 (keysT_in Fence.wide 3 trivial rfl (some b) W)
  have KS : Hid (∀ W, Below w.heap.size w W → Calls Tryz.prog 67 #[.func (.func 97) #[] #[.pointer (some ⟨W.heap.size, 0, none⟩)], .func (.func 69) #[] #[]] (W.alloc (.cells #[.map (some b)] 135)) fun e w' => ∃ (v : Value) (ss : List T3), e = .returned v ∧ ss.Perm (rs.map Prod.fst) ∧ (ss.Pairwise fun a b => ¬ cmpL (tl b) (tl a) < 0) ∧ w'.ownsRow W.heap.size 139 3 v ss.length (ss.flatMap tc) ∧ Below W.heap.size W w') := hid fun W hW => by
    have hA : Below W.heap.size W (W.alloc (.cells #[.map (some b)] 135)) := (Below.refl _ _).alloc (Nat.le_refl _) _
    refine (sortedT_calls _ W.heap.size b rs D ?_ (hT.bel (bt hW hA)) (by omega)).mono ?_
    · rw [World.cell?_alloc_at _ _ _ _ rfl]; rfl
    · rintro e w' ⟨v, ss, rfl, hp, hs, ho, hb⟩
      exact ⟨v, ss, rfl, hp, hs, own_base ho (by simp), bt hA hb⟩
  have HR0 := hid (And.intro h1 h2)
  clear hT hB1 h0 h1 h2
  go_enter Tryz.func41, Tryz.ntmps41
  go_upto_region 1 with fail
  rw [← hW1]
  clear hW1
  go_cut [3] from 6 to 14 (fun v wx => v = .pointer (some ⟨W1.heap.size, 0, none⟩) ∧ Hid (Below W1.heap.size W1 wx ∧ RX wx W1.heap.size (.string nm) (.int .i64 ar) (.slice none 0 0) (.slice none 0 0)))
  case first =>
    have ca0 : ∀ o, (W1.alloc o).cell? ⟨r, 0, none⟩ = some (.string nm) := fun o => bclR ((Below.refl _ _).alloc (Nat.le_refl _) o) c0
    have ca1 : ∀ o, (W1.alloc o).cell? ⟨r, 1, none⟩ = some (.int .i64 ar) := fun o => bclR ((Below.refl _ _).alloc (Nat.le_refl _) o) c1
    go_region_law (first | fail)
    all_goals
      go_wp2_with fail
      go_meet
      exact ⟨rfl, hid ⟨((Below.refl _ _).alloc (Nat.le_refl _) _).drew, (RX.made W1 _ _ _ _).below (Below.refl _ _).drew⟩⟩
  case rest =>
    obtain ⟨rfl, HC⟩ := hcut
    have c2' := bclR HC.out.1 c2
    have HRq := hid (HR1.out.below HC.out.1)
    have HRp := hid HC.out.2
    have HBc := hid (bt HB1.out HC.out.1)
    have KSc := hid (KS.out wc HBc.out)
    clear HC c0 c1 c2 HR1 KS
    obtain ⟨P, hP⟩ : ∃ P, P = W1.heap.size := ⟨_, rfl⟩
    rw [← hP] at HRp HS1 ⊢
    clear hP HB1
    go_wp2_with (first | (go_at_call 68; refine (KK.out wc).mono ?_; rintro e w2 ⟨rfl, rfl⟩) | (go_at_call 67; refine KSc.out.mono ?_; rintro e w3 ⟨vS, ss, rfl, hp, hs, ho, hb⟩; obtain ⟨aS, cS, eS⟩ := own_shapeR ho; subst eS; have HP := hid (And.intro hp hs); have hle : ss.length ≤ 2000 := (by have := hp.length_eq; rw [List.length_map] at this; omega); clear hp hs) | fail)
    have HB3 := hid (bt HBc.out hb)
    have HK3 : Hid (KR w3 w.heap.size w.heap.size P nm ar (.slice none 0 0) (.slice none 0 0) (.slice aS ss.length cS) [] (rowsT ar (ss.take 0)) (wtsT rs (ss.take 0)) ss.length (ss.flatMap tc)) := hid ⟨HRp.out.below hb, HRq.out.below hb, ⟨World.ownsRow_nil _ _ _ _, rfl, fun i hi => by simp [rowsT] at hi, fun i j _ hj => by simp [rowsT] at hj⟩, World.ownsRow_nil _ _ _ _, own_base ho HBc.out.size, fun i hi => by simp [rowsT] at hi, by rw [HS1.out]; omega, by rw [HS1.out]; omega⟩
    clear ho hb HRp HRq HBc KSc KK c2' HS1
    obtain ⟨n, hnn⟩ : ∃ n, n = ss.length := ⟨_, rfl⟩
    have HN := hid hnn
    rw [← hnn] at HK3 hle ⊢
    clear hnn
    go_loopw [22] (fun t wr => ∃ i : Nat, i ≤ n ∧ t = .int .i64 i ∧ Hid (∃ v2 v3 us, Below w.heap.size w wr ∧ KR wr w.heap.size w.heap.size P nm ar v2 v3 (.slice aS n cS) us (rowsT ar (ss.take i)) (wtsT rs (ss.take i)) n (ss.flatMap tc))) (fun t _ => n - (intOf t).toNat)
    case atStart => exact ⟨0, Nat.zero_le _, rfl, hid ⟨_, _, _, HB3.out, HK3.out⟩⟩
    case round =>
      clear HB3 HK3
      obtain ⟨i, hin, rfl, HH⟩ := hrel
      obtain ⟨v2, v3, us, hB, hK⟩ := HH.out
      have HB := hid hB
      have HK := hid hK
      clear HH hB hK
      by_cases hlt : i < n
      · have i1 : (i : Int) < (n : Int) := by omega
        have hls : i < ss.length := by rw [← HN.out]; exact hlt
        obtain ⟨x, hx⟩ : ∃ x, x = ss[i] := ⟨_, rfl⟩
        have hg3 : ∀ j, j < 3 → (ss.flatMap tc)[i * 3 + j]? = (tc x)[j]? := fun j hj => by
          rw [get_tc, show (i * 3 + j) / 3 = i by omega, show (i * 3 + j) % 3 = j by omega, List.getElem?_eq_getElem hls, hx]; rfl
        obtain ⟨gS, cS', eS, -⟩ := HK.out.st.form (by omega)
        simp only [Value.slice.injEq, true_and] at eS
        obtain ⟨rfl, rfl⟩ := eS
        have t0 : wr.cell? ⟨gS, i * 3, none⟩ = some (.int .i64 x.a) := by rw [HK.out.st.cellAt _ (by omega)]; exact hg3 0 (by decide)
        have t1 : wr.cell? ⟨gS, i * 3 + 1, none⟩ = some (.int .i64 x.b) := by rw [HK.out.st.cellAt _ (by omega)]; exact hg3 1 (by decide)
        have t2 : wr.cell? ⟨gS, i * 3 + 2, none⟩ = some (.int .i64 x.c) := by rw [HK.out.st.cellAt _ (by omega)]; exact hg3 2 (by decide)
        have hmem : x ∈ rs.map Prod.fst := HP.out.1.mem_iff.1 (by rw [hx]; exact List.getElem_mem _)
        have HNR : Hid (rowsT ar (ss.take (i + 1)) = rowsT ar (ss.take i) ++ [(tl x).take ar] ∧ wtsT rs (ss.take (i + 1)) = wtsT rs (ss.take i) ++ [valT rs x]) := hid ⟨by rw [hx]; exact rowsT_take ar ss hls, by rw [hx]; exact wtsT_take rs ss hls⟩
        have hlR : (rowsT ar (ss.take i)).length = i := by simp [rowsT]; omega
        have hlW : (wtsT rs (ss.take i)).length = i := by simp [wtsT]; omega
        have hll : ((tl x).take ar).length = ar := by simp [tl]; omega
        have HM := hid hmem
        clear hg3 hx hmem hls
        go_upto_region 5 with fail
        have HB4 : Hid (Below w.heap.size w (wr.alloc (.cells #[.int .i64 x.a, .int .i64 x.b, .int .i64 x.c] 139))) := hid (HB.out.alloc HB.out.size _)
        have HK4 : Hid (KR (wr.alloc (.cells #[.int .i64 x.a, .int .i64 x.b, .int .i64 x.c] 139)) w.heap.size w.heap.size P nm ar v2 v3 (.slice (some ⟨gS, 0, none⟩) n cS) us (rowsT ar (ss.take i)) (wtsT rs (ss.take i)) n (ss.flatMap tc)) := hid (HK.out.below ((Below.refl _ _).alloc (Nat.le_refl _) _))
        have HX4 : Hid (BxT (wr.alloc (.cells #[.int .i64 x.a, .int .i64 x.b, .int .i64 x.c] 139)) wr.heap.size x) := hid (World.alloc_heap_new _ _)
        clear HB HK t0 t1 t2
        obtain ⟨kx, hkx⟩ : ∃ kx, kx = wr.heap.size := ⟨_, rfl⟩
        rw [← hkx] at HX4 ⊢
        generalize wr.alloc (.cells #[.int .i64 x.a, .int .i64 x.b, .int .i64 x.c] 139) = W4 at HB4 HK4 HX4 ⊢
        clear hkx
        have KCr : Hid (∀ W, IS W (.slice (some ⟨kx, 0, none⟩) ar 3) ((tl x).take ar) → Calls Tryz.prog 70 #[.slice (some ⟨kx, 0, none⟩) ar 3] W fun e w' => ∃ v, e = .returned v ∧ w'.ownsRow W.heap.size 3 1 v ((tl x).take ar).length (((tl x).take ar).map (Value.int .i64)) ∧ Below W.heap.size W w') := hid fun W hu => cloneP_calls W _ _ hu (by omega)
        have ha1 : (0 : Int) ≤ (ar : Int) := by omega
        have ha2 : (ar : Int) ≤ 3 := by omega
        have r1 := bclR HB4.out HR0.out.1
        have r2 := bclR HB4.out HR0.out.2
        have HLr := hid hll
        rw [hll] at KCr
        generalize hrow : (tl x).take ar = row at *
        go_cut [22] from 22 to 48 (fun t wx => t = .int .i64 i ∧ Hid (∃ v2' us', Below w.heap.size w wx ∧ BxT wx kx x ∧ KR wx w.heap.size w.heap.size P nm ar v2' v3 (.slice (some ⟨gS, 0, none⟩) n cS) us' (rowsT ar (ss.take (i + 1))) (wtsT rs (ss.take i)) n (ss.flatMap tc)))
        case first =>
          have c1 := HK4.out.rx.c2
          have HIS : Hid (IS W4 (.slice (some ⟨kx, 0, none⟩) ar 3) row) := hid (by rw [← hrow]; exact HX4.out.is ar har.2 3)
          go_region_law (first
            | (refine step_append_lies _ (by rfl) _ _ 42 (by rfl) w.heap.size 43 iS (.slice none 0 0) 1 24 Tryz.underlying42 hj hy0 hy1 hy2 rfl (by decide) v2 _ us (by rfl) (HK12.out.rq.own.alloc _) ⟨w12.heap.size, 0, none⟩ 1 1 [.slice a12 ar c12] (by rfl) rfl (new1_cell _ _ _) (fun u hu => by simp at hu; subst hu; rfl) (by decide) (by unfold maxLen; omega) (by omega) (by have := HB12.out.size; simp; omega) _ rfl ?_; intro g13 cp13 w13 hown13 hgrow13 hat13 hlt13; have c1' := (HK12.out.rx.grown HK12.out.rq.own (by decide) hgrow13).c2; have f1' := (HK12.out.rx.grown HK12.out.rq.own (by decide) hgrow13).free 2)
            | (go_simp; go_at_call 70; (with_reducible refine (KCr.out _ (HIS.out.below (Below.refl _ _).drew)).mono ?_); rintro e w12 ⟨u12, rfl, ho12, hb'⟩; have hb12 := drew_below2R hb'; have HB12 := hid (bt HB4.out hb12); have HK12 := hid (HK4.out.below hb12); have HX12 := hid (HX4.out.below hb12); have HO12 : Hid (w12.ownsRow W4.heap.size 3 1 u12 ar (row.map (Value.int .i64))) := hid ho12; have c1b := HK12.out.rx.c2; have c1c : ∀ ob, (w12.alloc ob).cell? ⟨P, 2, none⟩ = some v2 := fun ob => (HK12.out.below ((Below.refl _ _).alloc (Nat.le_refl _) ob)).rx.c2; obtain ⟨a12, c12, e12⟩ := own_shapeR ho12; subst e12; clear ho12 hb')
            | fail)
          all_goals
            go_wp2_with fail
            go_meet
            have hN := HK12.out.pushR (u := .slice a12 ar c12) (l := row) (own_base (by rw [HLr.out]; exact HO12.out) HB4.out.size) (fun q hq g h1 h2 => by
              have e1 := ((HK4.out.rq.each q hq).lt g h1).2
              have e2 := (HO12.out.lt g h2).1
              omega) (fun g h1 h2 => by
              have e1 := (HO12.out.lt g h1).1
              have e2 := (HK4.out.o3.lt g h2).2
              omega) hown13 hgrow13
            rw [← HNR.out.1] at hN
            simp only [hlR] at hN
            exact ⟨rfl, hid ⟨_, _, ((HB12.out.alloc HB12.out.size _).grown hgrow13 (by have := HB12.out.size; simp; omega) (fun g hg => (HK12.out.rq.own.lt g hg).1)).setCell HK12.out.lo _, (HX12.out.grown HK12.out.rq.own (by decide) hgrow13).set (HK12.out.rx.grown HK12.out.rq.own (by decide) hgrow13).typ, hN⟩⟩
        case rest =>
          obtain ⟨rfl, HTc⟩ := hcut
          obtain ⟨v2', us', hB14, hX14, hK14⟩ := HTc.out
          have HB14 := hid hB14
          have HX14 := hid hX14
          have HK14 := hid hK14
          clear HTc hB14 hX14 hK14 HB4 HK4 HX4 r1 r2 KCr
          generalize wc = w14 at *
          have r2 := bclR HB14.out HR0.out.2
          have hL1 := lookT (HT.out.bel HB14.out) HM.out
          have hL2 : (Instr.lookup 135 (.map (some b)) (.agg #[.int .i64 x.a, .int .i64 x.b, .int .i64 x.c]) false).run Tryz.prog w14.drew = .ok (.int .i64 (valT rs x)) w14.drew := lookT (HT.out.bel HB14.out.drew) HM.out
          have x0 := HX14.out.c0
          have x1 := HX14.out.c1
          have x2 := HX14.out.c2
          generalize valT rs x = xv at *
          go_upto_region 6 with fail
          have c2 := HK14.out.rx.c3
          have c2c : ∀ ob, (w14.alloc ob).cell? ⟨P, 3, none⟩ = some v3 := fun ob => (HK14.out.below ((Below.refl _ _).alloc (Nat.le_refl _) ob)).rx.c3
          have HKd := hid (HK14.out.below (Below.refl w14.heap.size w14).drew)
          go_region_law (first
            | (refine step_append_lies _ (by rfl) _ _ 43 (by rfl) w.heap.size 3 i0 (.int .i64 0) 1 8 Tryz.underlying43 hi hz0 hz1 hz2 rfl (by decide) v3 _ ((wtsT rs (ss.take i)).map (Value.int .i64)) (by rfl) (HKd.out.o3.alloc _) ⟨_, 0, none⟩ 1 1 [.int .i64 xv] (by rfl) rfl (new1_cell _ _ _) (fun u hu => by simp at hu; subst hu; rfl) (by decide) (by unfold maxLen; omega) (by omega) (by have := HB14.out.size; simp; omega) _ rfl ?_; intro g15 cp15 w15 hown15 hgrow15 hat15 hlt15; have c2' := (HKd.out.rx.grown HKd.out.o3 (by decide) hgrow15).c3; have f2' := (HKd.out.rx.grown HKd.out.o3 (by decide) hgrow15).free 3)
            | fail)
          all_goals
            go_wp2_with fail
            go_roundw
            case rel =>
              have hN := HKd.out.pushW hown15 hgrow15 (fun g hg => by
                simp only [Value.ownBlock, Option.some.injEq] at hg
                subst hg
                rcases hat15 with h | h
                · exact Or.inl h
                · exact Or.inr (by rw [h]; simp))
              rw [← HNR.out.2] at hN
              simp only [hlW] at hN
              exact ⟨i + 1, by omega, by go_num, hid ⟨_, _, _, (((HB14.out.drew).alloc (by have := HB14.out.size; simp; omega) _).grown hgrow15 (by have := HB14.out.size; simp; omega) (fun g hg => (HKd.out.o3.lt g hg).1)).setCell HK14.out.lo _, hN⟩⟩
            case measure => simp [intOf]; omega
      · obtain rfl : i = n := by omega
        have i1 : ¬ ((i : Int) < (i : Int)) := by omega
        have HRb := hid HK.out.rb
        have HRx := hid HK.out.rx
        obtain ⟨aR, kR, eR⟩ := own_shapeR HK.out.rq.own
        obtain ⟨aW, kW, eW⟩ := own_shapeR HK.out.o3
        subst eR eW
        have hts : ss.take i = ss := by rw [HN.out]; exact List.take_length
        rw [hts] at HK
        have HF : Hid (RQ wr w.heap.size (.slice aR (rowsT ar (ss.take i)).length kR) us (rowsT ar ss) ∧ wr.ownsRow w.heap.size 3 1 (.slice aW (wtsT rs (ss.take i)).length kW) (wtsT rs ss).length ((wtsT rs ss).map (Value.int .i64)) ∧ (∀ j, j < ss.length → ApR (us.getD j undef) (.slice aW (wtsT rs (ss.take i)).length kW)) ∧ Below w.heap.size w wr) := hid ⟨by rw [hts]; exact HK.out.rq, by rw [hts]; exact HK.out.o3, fun j hj => by rw [hts]; exact HK.out.a3 j (by simp [rowsT]; exact hj), HB.out⟩
        have d0 := HRx.out.c0
        have d1 := HRx.out.c1
        have d2 := HRx.out.c2
        have d3 := HRx.out.c3
        have f0 := HRb.out.free 0
        have f1 := HRb.out.free 1
        have f2 := HRb.out.free 2
        have f3 := HRb.out.free 3
        have b0 := HRb.out.c0
        have b1 := HRb.out.c1
        have b2 := HRb.out.c2
        have b3 := HRb.out.c3
        have HTy := hid HRb.out.typ
        clear HK HB HRx HRb hts
        generalize (rowsT ar (ss.take i)).length = lR at *
        generalize (wtsT rs (ss.take i)).length = lW at *
        go_wp2_with fail
        refine bodyPost_ret (v := .agg #[.string nm, .int .i64 ar, .slice aR lR kR, .slice aW lW kW]) (by simp [results, Tryz.results41, go_sem, b0, b1, b2, b3]) rfl ⟨_, _, rfl, us, ss, HP.out.1, HP.out.2, ?_, ?_, fun j hj => ?_, (((HF.out.2.2.2.setCell (Nat.le_refl _) _).setCell (Nat.le_refl _) _).setCell (Nat.le_refl _) _).setCell (Nat.le_refl _) _⟩
        · exact (((HF.out.1.setR HTy.out).setR (typ_set HTy.out)).setR (typ_set (typ_set HTy.out))).setR (typ_set (typ_set (typ_set HTy.out)))
        · exact own_keepR (own_keepR (own_keepR (own_keepR HF.out.2.1 HTy.out (by decide)) (typ_set HTy.out) (by decide)) (typ_set (typ_set HTy.out)) (by decide)) (typ_set (typ_set (typ_set HTy.out))) (by decide)
        · rw [← List.getD_eq_getElem?_getD]; exact HF.out.2.2.1 j hj

end Go.Proofs.YtcdfoephhjacdaaGreatDoor
