import Derived.Test.YtoodbpijgnbfjaaGreatFq02
import Derived.Test.YtoodbpijgnbfjaaGreatFq23
import Derived.Test.YtoodbpijgnbfjaaGreatFq39
import Derived.Test.YtoodbpijgnbfjaaGreatFq41
namespace Go.Proofs.YtoodbpijgnbfjaaGreat
open Go.RowKit Meet

theorem own_apartJ {W : World} {B : Nat} {e1 e2 : TypeId} {v1 v2 : Value} {n1 n2 : Nat} {xs ys : List Value} (h1 : W.ownsRow B e1 1 v1 n1 xs) (h2 : W.ownsRow B e2 1 v2 n2 ys) (hne : e1 ≠ e2) : v1.ownBlock = none ∨ v1.ownBlock ≠ v2.ownBlock := by
  rcases h1.2 with ⟨rfl, -⟩ | ⟨g, cap, cur, rfl, -, hg, -⟩
  · exact Or.inl rfl
  · refine Or.inr fun e => ?_
    rcases h2.2 with ⟨rfl, -⟩ | ⟨g', cap', cur', rfl, -, hg', -⟩
    · cases e
    · simp only [Value.ownBlock, Option.some.injEq] at e
      subst e
      rw [hg] at hg'
      simp only [Option.some.injEq, Obj.cells.injEq] at hg'
      exact hne hg'.2.1
theorem RtS.step {w wo W w3 : World} {g c : Nat} {vp vb : Value} {rl : List (List (List Int))} {cs : List (Option Addr)} {rows : List (List Int)} {ca : Option Addr} {o : Obj} {xs : List Value} {np : Nat} (hB : Below w.heap.size w wo) (hX4 : BrX wo w.heap.size (.slice none 0 0) (.slice none 0 0)) (hX5 : BrX wo (w.heap.size + 2) vp vb) (hOp : wo.ownsRow w.heap.size 3 1 vp np xs) (hRt : RtS wo w.heap.size (w.heap.size + 2) vb rl cs)
    (hq : Below wo.heap.size wo W) (hT : TrO wo.heap.size W rows ca) (hg : (W.alloc o).grownBy w3 vb.ownBlock) (hown : w3.ownsRow w.heap.size 96 1 (.slice (some ⟨g, 0, none⟩) (rl.length + 1) c) (rl.length + 1) (cs.map Value.pointer ++ [.pointer ca])) (hat : vb.ownBlock = some g ∨ g = (W.alloc o).heap.size) :
    Below w.heap.size w (w3.setCell ⟨w.heap.size + 2, 1, none⟩ (.slice (some ⟨g, 0, none⟩) (rl.length + 1) c)) ∧ BrX (w3.setCell ⟨w.heap.size + 2, 1, none⟩ (.slice (some ⟨g, 0, none⟩) (rl.length + 1) c)) w.heap.size (.slice none 0 0) (.slice none 0 0) ∧ BrX (w3.setCell ⟨w.heap.size + 2, 1, none⟩ (.slice (some ⟨g, 0, none⟩) (rl.length + 1) c)) (w.heap.size + 2) vp (.slice (some ⟨g, 0, none⟩) (rl.length + 1) c) ∧ (w3.setCell ⟨w.heap.size + 2, 1, none⟩ (.slice (some ⟨g, 0, none⟩) (rl.length + 1) c)).ownsRow w.heap.size 3 1 vp np xs ∧ RtS (w3.setCell ⟨w.heap.size + 2, 1, none⟩ (.slice (some ⟨g, 0, none⟩) (rl.length + 1) c)) w.heap.size (w.heap.size + 2) (.slice (some ⟨g, 0, none⟩) (rl.length + 1) c) (rl ++ [rows]) (cs ++ [ca]) := by
  have hoW := own_below hRt.own hq
  have x4 := (hX4.below hq).grown hoW (by decide) hg
  have x5 := (hX5.below hq).grown hoW (by decide) hg
  have hgb : g ≠ w.heap.size + 2 := fun e => (own_ne hown ⟨_, x5⟩ (by decide)) (by rw [e]; rfl)
  refine ⟨?_, ?_, ?_, ?_, RtS.push hRt hB.size hX5.lt hq hT hg hown hat hgb⟩
  · exact ((bl_alloc (bt hB hq) o).grown hg (bl_alloc (bt hB hq) o).size fun k hk => (hRt.own.lt k hk).1).setCell (by show w.heap.size ≤ w.heap.size + 2; omega) _
  · exact (Below.heap_setCell _ _ _ _ (by show w.heap.size ≠ w.heap.size + 2; omega)).trans x4
  · unfold BrX
    rw [heap_setCell_same _ _ _ _ _ _ x5]
    rfl
  · have h1 := (own_below hOp hq).alloc o
    have h2 : w3.ownsRow w.heap.size 3 1 vp np xs := own_move h1 fun k hk => hg.block k (h1.lt k hk).2 (fun e => by
      rcases own_apartJ h1 (hoW.alloc o) (by decide) with h3 | h3
      · rw [h3] at hk; exact absurd hk (by simp)
      · exact h3 (hk.trans e))
    refine own_move h2 fun k hk => Below.heap_setCell _ _ _ _ fun e2 => ?_
    exact own_ne h2 ⟨_, x5⟩ (by decide) (by rw [hk]; exact congrArg some (by exact e2.symm))
theorem TR.keepB {W W' : World} {B k : Nat} {x y : Value} {D : List Int → Prop} {N0 N1 : List Int → List Int} {f : List Int → Nat} {g0 g1 : List Int → Value} (h : TR W B D N0 N1 f g0 g1) (hx : BrX W k x y) (hk : ∀ j, j ≠ k → W'.heap[j]? = W.heap[j]?) : TR W' B D N0 N1 f g0 g1 :=
  ⟨fun p hp => (hk _ fun e => by
    have := (h.blk p hp).symm.trans (e ▸ hx)
    simp at this).trans (h.blk p hp), h.low, fun p hp => own_move (h.o0 p hp) fun g hg => hk g fun e => own_ne (h.o0 p hp) ⟨_, hx⟩ (by decide) (by rw [hg, e]), fun p hp => own_move (h.o1 p hp) fun g hg => hk g fun e => own_ne (h.o1 p hp) ⟨_, hx⟩ (by decide) (by rw [hg, e]), h.inj, h.a0, h.a1⟩
theorem TrO.keepB {W W' : World} {B k : Nat} {x y : Value} {rows : List (List Int)} {c : Option Addr} (h : TrO B W rows c) (hx : BrX W k x y) (hk : ∀ j, j ≠ k → W'.heap[j]? = W.heap[j]?) : TrO B W' rows c := by
  rcases h with h | ⟨h1, D, N, f, g0, g1, h2, h3, h4, h5⟩
  · exact Or.inl h
  · exact Or.inr ⟨h1, D, N, f, g0, g1, h2, h3, h4.keepB hx hk, h5⟩

set_option maxHeartbeats 2000000 in
set_option maxRecDepth 1000000 in
theorem rootOf_calls (w : World) (vt vo : Value) (tl : List TbV) (o : List Int) (h : ITs w vt tl) (ho : IS w vo o) (hl : tl.length ≤ 1000) (hol : o.length ≤ 1000) (hok : ∀ t ∈ tl, tabJ t = true) :
    Calls Tryz.prog 37 #[vt, vo] w fun e w' => ∃ (g c : Nat) (vb : Value) (cs : List (Option Addr)), e = .returned (.agg #[.slice (some ⟨g, 0, none⟩) 0 c, vb]) ∧ w'.ownsRow w.heap.size 3 1 (.slice (some ⟨g, 0, none⟩) 0 c) 0 [] ∧ w'.ownsRow w.heap.size 96 1 vb tl.length (cs.map Value.pointer) ∧ cs.length = tl.length ∧ (∀ t, t < tl.length → TrO w.heap.size w' ((tl.map fun t => (sdT o t).rows).getD t []) (cs.getD t none)) ∧ Below w.heap.size w w' := by
  obtain ⟨i0, hi, hz0, hz1, hz2⟩ := info_parts Tryz.infoInt
  obtain ⟨iP, hj, hy0, hy1, hy2⟩ := info_parts Tryz.infoTriP
  obtain ⟨at', ct, rfl, hc⟩ := h
  have HOf : Hid (∀ j, j < tl.length → setB (tl.getD j noTv).vs = true ∧ TvJ (tl.getD j noTv)) := hid fun j hj => by
    have h1 := hok (tl.getD j noTv) (by rw [List.getD_eq_getElem?_getD, List.getElem?_eq_getElem hj]; exact List.getElem_mem _)
    exact ⟨(tableB_rows h1).1, tabJ_ok h1⟩
  have HC : Hid (∀ W, Below w.heap.size w W → ∀ j, j < tl.length → ∃ b oo, at' = some ⟨b, oo, none⟩ ∧ TabAt W b (oo + j * 3) (tl.getD j noTv)) := hid fun W hW j hj => by
    rcases hc with h0 | ⟨b, oo, rfl, h⟩
    · omega
    · exact ⟨b, oo, rfl, (h j hj).below hW⟩
  obtain ⟨ao, co, rfl, hco⟩ := ho
  have HCO : Hid (∀ W, Below w.heap.size w W → ∀ j, j < o.length → ∃ b oo, ao = some ⟨b, oo, none⟩ ∧ W.cell? ⟨b, oo + j, none⟩ = some (.int .i64 (o.getD j 0))) := hid fun W hW j hj => by
    rcases hco with h0 | ⟨b, oo, rfl, h⟩
    · omega
    · exact ⟨b, oo, rfl, bclT hW (h j hj)⟩
  obtain ⟨RL, hRL⟩ : ∃ RL : Nat → List (List (List Int)), RL = fun j => (tl.take j).map fun t => (sdT o t).rows := ⟨_, rfl⟩
  have HR0 : Hid (RL 0 = []) := hid (by rw [hRL]; rfl)
  have HRS : Hid (∀ j, j < tl.length → RL (j + 1) = RL j ++ [(sdT o (tl.getD j noTv)).rows]) := hid fun j hj => by
    rw [hRL]
    show (tl.take (j + 1)).map _ = (tl.take j).map _ ++ _
    rw [List.take_add_one, List.getElem?_eq_getElem hj, List.map_append, List.getD_eq_getElem?_getD, List.getElem?_eq_getElem hj]
    rfl
  have HRl : Hid (∀ j, j ≤ tl.length → (RL j).length = j) := hid fun j hj => by rw [hRL]; show ((tl.take j).map _).length = j; rw [List.length_map, List.length_take]; omega
  have HRn : Hid (RL tl.length = tl.map fun t => (sdT o t).rows) := hid (by rw [hRL]; show (tl.take tl.length).map _ = _; rw [List.take_length])
  have HPL : Hid (∀ vs i, i < o.length → plO vs (o.take (i + 1)) = plO vs (o.take i) ++ (if o.getD i 0 ∈ vs then [(bsQ vs (o.getD i 0) : Int)] else [])) := hid fun vs i hi => by rw [take_snoc hi, plO_snoc]
  have HPn : Hid (∀ vs, plO vs (o.take o.length) = plO vs o) := hid fun vs => by rw [List.take_length]
  have HPl : Hid (∀ vs i, (plO vs (o.take i)).length ≤ i) := hid fun vs i => by
    unfold plO
    rw [List.length_map]
    exact Nat.le_trans (List.length_filter_le _ _) (by rw [List.length_take]; omega)
  have HRw : Hid (∀ (t : TbV), t.vs.Pairwise (· < ·) → srt (prjL t.rows (plO t.vs o)) = (sdT o t).rows) := hid fun t ht => by rw [plO_rows ht]; rfl
  obtain ⟨n, hn⟩ : ∃ n, n = tl.length := ⟨_, rfl⟩
  rw [← hn] at hl HC HOf HRS HRl HRn ⊢
  clear hn hc hok hRL hco
  have HOL := hid hol
  obtain ⟨no, hno⟩ : ∃ no, no = o.length := ⟨_, rfl⟩
  rw [← hno] at hol HCO HPL HPn ⊢
  clear hno
  obtain ⟨W1, hW1⟩ : ∃ W1, W1 = ((w.alloc (.cells #[.slice none 0 0, .slice none 0 0] 93)).alloc (.cells #[] 3)).alloc (.cells #[.slice (some ⟨w.heap.size + 1, 0, none⟩) 0 0, .slice none 0 0] 93) := ⟨_, rfl⟩
  have HS1 : Hid (Below w.heap.size w W1 ∧ BrX W1 w.heap.size (.slice none 0 0) (.slice none 0 0) ∧ BrX W1 (w.heap.size + 2) (.slice (some ⟨w.heap.size + 1, 0, none⟩) 0 0) (.slice none 0 0) ∧ W1.ownsRow w.heap.size 3 1 (.slice (some ⟨w.heap.size + 1, 0, none⟩) 0 0) 0 [] ∧ RtS W1 w.heap.size (w.heap.size + 2) (.slice none 0 0) [] []) := hid (by
    rw [hW1]
    have b1 : Below w.heap.size w (w.alloc (.cells #[.slice none 0 0, .slice none 0 0] 93)) := bl_alloc (Below.refl _ _) _
    have b2 : Below (w.alloc (.cells #[.slice none 0 0, .slice none 0 0] 93)).heap.size (w.alloc (.cells #[.slice none 0 0, .slice none 0 0] 93)) ((w.alloc (.cells #[.slice none 0 0, .slice none 0 0] 93)).alloc (.cells #[] 3)) := bl_alloc (Below.refl _ _) _
    have b3 : ∀ o, Below ((w.alloc (.cells #[.slice none 0 0, .slice none 0 0] 93)).alloc (.cells #[] 3)).heap.size ((w.alloc (.cells #[.slice none 0 0, .slice none 0 0] 93)).alloc (.cells #[] 3)) (((w.alloc (.cells #[.slice none 0 0, .slice none 0 0] 93)).alloc (.cells #[] 3)).alloc o) := fun o => bl_alloc (Below.refl _ _) _
    refine ⟨bt b1 (bt b2 (b3 _)), ((BrX.new w _ _).below b2).below (b3 _), ?_, ?_, ⟨World.ownsRow_nil _ _ _ _, rfl, fun t ht => by simp at ht⟩⟩
    · have := BrX.new ((w.alloc (.cells #[.slice none 0 0, .slice none 0 0] 93)).alloc (.cells #[] 3)) (.slice (some ⟨w.heap.size + 1, 0, none⟩) 0 0) (.slice none 0 0)
      rw [World.size_alloc, World.size_alloc] at this
      exact this
    · have := World.ownsRow_made (w.alloc (.cells #[.slice none 0 0, .slice none 0 0] 93)) (e := 3) (size := 1) (base := w.heap.size) #[] 0 (by simp) (by decide) rfl
      rw [World.size_alloc] at this
      exact own_below this (b3 _))
  go_enter Tryz.func37, Tryz.ntmps37
  go_upto_region 2 with fail
  rw [← hW1]
  clear hW1
  go_wp2_with fail
  go_loopw [17] (fun t wr => ∃ (j : Nat), j ≤ n ∧ t = .int .i64 j ∧ Hid (∃ vb cs, Below w.heap.size w wr ∧ BrX wr w.heap.size (.slice none 0 0) (.slice none 0 0) ∧ BrX wr (w.heap.size + 2) (.slice (some ⟨w.heap.size + 1, 0, none⟩) 0 0) vb ∧ wr.ownsRow w.heap.size 3 1 (.slice (some ⟨w.heap.size + 1, 0, none⟩) 0 0) 0 [] ∧ RtS wr w.heap.size (w.heap.size + 2) vb (RL j) cs)) (fun t _ => n - (intOf t).toNat)
  case atStart => exact ⟨0, Nat.zero_le _, rfl, hid ⟨_, [], HS1.out.1, HS1.out.2.1, HS1.out.2.2.1, HS1.out.2.2.2.1, by rw [HR0.out]; exact HS1.out.2.2.2.2⟩⟩
  case round =>
    clear HS1 HR0
    obtain ⟨j, hjn, rfl, HT⟩ := hrel
    obtain ⟨vb, cs, hB, hX4, hX5, hOp, hRt⟩ := HT.out
    have HB := hid hB
    have HX4 := hid hX4
    have HX5 := hid hX5
    have HOp := hid hOp
    have HRt := hid hRt
    clear HT hB hX4 hX5 hOp hRt
    by_cases hlt : j < n
    · have i1 : (j : Int) < (n : Int) := by omega
      obtain ⟨b, oo, ea, v0, v1, v2, c0, c1, c2, hI⟩ := HC.out wr HB.out j hlt
      subst ea
      obtain ⟨hset, htv⟩ := HOf.out j hlt
      have HRj := hid (HRS.out j hlt)
      have hlj := HRl.out j hjn
      generalize tl.getD j noTv = tb at *
      have HPW := hid (setB_pw hset)
      have HTV := hid htv
      obtain ⟨W3, hW3⟩ : ∃ W3, W3 = wr.alloc (.cells #[v0, v1, v2] 71) := ⟨_, rfl⟩
      have hB3 : Below wr.heap.size wr W3 := by rw [hW3]; exact (Below.refl _ _).alloc (Nat.le_refl _) _
      have HX3 : Hid (TX W3 wr.heap.size v0 v1 v2) := hid (by rw [hW3]; exact TX.made _ _ _ _)
      have HI3 := hid (hI.below hB3)
      have HB3 := hid hB3
      obtain ⟨a0, k0, e0, -⟩ := hI.vs
      obtain ⟨a1, k1, e1, -⟩ := hI.rows
      obtain ⟨a2, k2, e2, -⟩ := hI.ws
      subst e0 e1 e2
      clear hI hset htv hB3 HC HOf
      have KB : Hid (∀ W v, Below W3.heap.size W3 W → Calls Tryz.prog 61 #[.slice a0 tb.vs.length k0, .int .i64 v] W fun e w' => e = .returned (.tuple #[.int .i64 (bsQ tb.vs v), .bool (decide (v ∈ tb.vs))]) ∧ ∃ d, w' = W.drewN d) := hid fun W v hW => by
        have := bsearch_calls W (.slice a0 tb.vs.length k0) tb.vs v (HI3.out.below hW).vs (by have := HTV.out.vs; omega) (up_of_asc (asc_of HPW.out))
        rw [bsF_mem HPW.out] at this
        exact this
      have KRw : Hid (∀ W v, Below W3.heap.size W3 W → IS W v (plO tb.vs o) → Calls Tryz.prog 63 #[.slice a1 tb.rows.length k1, v] W fun e w' => ∃ v' uo, e = .returned v' ∧ RQ w' W.heap.size v' uo (sdT o tb).rows ∧ Below W.heap.size W w') := hid fun W v hW hv => by
        have := rowsAt_calls W (.slice a1 tb.rows.length k1) v tb.rows (plO tb.vs o) (HI3.out.below hW).rows hv (by have := HTV.out.n; omega) (by have h1 := HPl.out tb.vs no; rw [HPn.out] at h1; omega) (fun r hr q hq => by rw [HTV.out.len r hr]; exact plO_in HPW.out q hq)
        rw [HRw.out tb HPW.out] at this
        exact this
      have KT : Hid (∀ W v uo, RQ W W3.heap.size v uo (sdT o tb).rows → Below W3.heap.size W3 W → Calls Tryz.prog 62 #[v] W fun e w' => ∃ c, e = .returned (.pointer c) ∧ TrO W3.heap.size w' (sdT o tb).rows c ∧ Below W.heap.size W w') := hid fun W v uo hQ hW => by
        refine (trieOf_calls W v (sdT o tb).rows (hQ.rs.iss (Below.refl _ _)) (sdT_ok o tb).sl (Nat.le_trans (sdT_rows o tb) (by have := HTV.out.n; omega)) (fun r hr => by rw [(sdT_ok o tb).len r hr]; exact Nat.le_trans (shr_len _ _) HOL.out)).mono ?_
        rintro e w' ⟨c, rfl, h1, h2⟩
        refine ⟨c, rfl, ?_, h2⟩
        rcases h1 with ⟨h3, h4⟩ | ⟨h3, root, h4, D, N, f, g0, g1, h5, h6, h7, h8, h9⟩
        · exact Or.inl ⟨h3, h4⟩
        · exact Or.inr ⟨h3, D, N, f, g0, g1, by rw [h7]; exact h4, h5, h6.base hW.size, h8⟩
      have HPLt : Hid (∀ i, i < no → plO tb.vs (o.take (i + 1)) = plO tb.vs (o.take i) ++ (if o.getD i 0 ∈ tb.vs then [(bsQ tb.vs (o.getD i 0) : Int)] else [])) := hid fun i hi => HPL.out tb.vs i hi
      have HPLn := hid (HPn.out tb.vs)
      have HPLl : Hid (∀ i, (plO tb.vs (o.take i)).length ≤ i) := hid fun i => HPl.out tb.vs i
      have hWn : W3.heap.size ≤ W3.heap.size := Nat.le_refl _
      generalize tb.ws.length = l2 at *
      obtain ⟨nr, hnr⟩ : ∃ nr, nr = tb.rows.length := ⟨_, rfl⟩
      rw [← hnr] at KRw HX3 hW3 c1
      clear hnr
      obtain ⟨n0, hn0⟩ : ∃ n0, n0 = tb.vs.length := ⟨_, rfl⟩
      rw [← hn0] at KB HX3 hW3 c0
      clear hn0
      obtain ⟨SR, hSR⟩ : ∃ SR, SR = (sdT o tb).rows := ⟨_, rfl⟩
      rw [← hSR] at KRw KT HRj
      clear hSR HRS HPL HPn HPl HRw HTV HPW HI3 HRl hWn
      go_upto_region 5 with fail
      rw [← hW3]
      clear hW3 c0 c1 c2
      generalize wr = wo at *
      go_wp2_with fail
      go_loopw [8, 23] (fun v8 t wr => ∃ (i : Nat) (vq : Value), i ≤ no ∧ t = .int .i64 i ∧ vq = v8 ∧ Hid (Below W3.heap.size W3 wr ∧ wr.ownsRow W3.heap.size 3 1 vq (plO tb.vs (o.take i)).length ((plO tb.vs (o.take i)).map (Value.int .i64)))) (fun _ t _ => no - (intOf t).toNat)
      case atStart => exact ⟨0, _, Nat.zero_le _, rfl, rfl, hid ⟨Below.refl _ _, World.ownsRow_nil _ _ _ _⟩⟩
      case round =>
        obtain ⟨i, vq, hin, rfl, rfl, HT⟩ := hrel
        by_cases hlt2 : i < no
        · have i2 : (i : Int) < (no : Int) := by omega
          obtain ⟨bo, qo, ea, e1⟩ := HCO.out wr (bt (bt HB.out HB3.out) HT.out.1) i hlt2
          subst ea
          have KB1 := hid (KB.out wr (o.getD i 0) HT.out.1)
          have d0 := (HX3.out.below HT.out.1).c0
          have HPi := hid (HPLt.out i hlt2)
          have hpl := HPLl.out i
          generalize o.getD i 0 = ov at *
          by_cases hmem : ov ∈ tb.vs
          · rw [decide_eq_true hmem] at KB1
            rw [if_pos hmem] at HPi
            generalize bsQ tb.vs ov = bq at *
            clear hmem
            obtain ⟨pl, hpll⟩ : ∃ pl, pl = (plO tb.vs (o.take i)).length := ⟨_, rfl⟩
            have HPLe := hid hpll
            rw [← hpll] at hpl
            clear hpll
            go_wp2_with (first
              | (go_at_call 61; refine KB1.out.mono ?_; rintro e w5 ⟨rfl, d5, rfl⟩; have hO5 : (wr.drewN d5).ownsRow W3.heap.size 3 1 vq pl ((plO tb.vs (o.take i)).map (Value.int .i64)) := (by rw [HPLe.out]; exact HT.out.2); have hb5 := below_drewN HT.out.1 d5; have hs5 := hb5.size)
              | (at_builtin; refine wpList_append_lies _ rfl _ _ 33 rfl W3.heap.size 3 i0 (.int .i64 0) 1 8 Tryz.underlying33 hi hz0 hz1 hz2 rfl (by decide) vq _ _ rfl (hO5.alloc _) ⟨_, 0, none⟩ 1 1 [.int .i64 bq] rfl rfl (new1_cell _ _ _) (fun u hu => by simp at hu; subst hu; rfl) (by decide) (by unfold maxLen; omega) (by omega) (Nat.le_trans hs5 (by simp)) _ rfl ?_; intro g6 cp6 w6 hown6 hgrow6 hat6 hlt6)
              | fail)
            have HN : Hid (Below W3.heap.size W3 w6 ∧ w6.ownsRow W3.heap.size 3 1 (.slice (some ⟨g6, 0, none⟩) (pl + 1) cp6) (plO tb.vs (o.take (i + 1))).length ((plO tb.vs (o.take (i + 1))).map (Value.int .i64))) := hid ⟨grB (bl_alloc hb5 _) (hO5.alloc _) hgrow6, by rw [HPi.out, List.length_append, List.length_singleton, List.map_append, ← HPLe.out]; exact hown6⟩
            clear hown6 hgrow6 hat6 hlt6 hO5 hb5 hs5
            go_roundw
            case rel => exact ⟨i + 1, _, by omega, by go_num, rfl, HN⟩
            case measure => simp [intOf]; omega
          · rw [decide_eq_false hmem] at KB1
            rw [if_neg hmem, List.append_nil] at HPi
            clear hmem
            go_wp2_with (first | (go_at_call 61; refine KB1.out.mono ?_; rintro e w5 ⟨rfl, d5, rfl⟩) | fail)
            go_roundw
            case rel => exact ⟨i + 1, _, by omega, by go_num, rfl, hid ⟨below_drewN HT.out.1 _, by rw [HPi.out]; exact HT.out.2⟩⟩
            case measure => simp [intOf]; omega
        · obtain rfl : i = no := by omega
          have i2 : ¬ ((i : Int) < (i : Int)) := by omega
          rw [HPLn.out] at HT
          have hX5r := (HX5.out.below HB3.out).below HT.out.1
          have hX3r := HX3.out.below HT.out.1
          have r0 : wr.drew.cell? ⟨w.heap.size + 1 + 1, 1, none⟩ = some vb := hX5r.c1
          have r1 : wr.drew.cell? ⟨wo.heap.size, 1, none⟩ = some (.slice a1 nr k1) := hX3r.c1
          have HXr := hid hX5r
          have hbd : Below wr.heap.size wr wr.drew := (Below.refl _ _).drew
          have KRw1 := hid (KRw.out wr.drew vq HT.out.1.drew (own_is HT.out.2))
          have HW3 : Hid (Below wo.heap.size wo wr) := hid (bt HB3.out HT.out.1)
          have hw3r : W3.heap.size ≤ wr.heap.size := HT.out.1.size
          have hwo : w.heap.size ≤ wo.heap.size := HB.out.size
          have hwo3 : wo.heap.size ≤ W3.heap.size := HB3.out.size
          have HRt2 : Hid (∀ W, Below wo.heap.size wo W → W.ownsRow w.heap.size 96 1 vb j (cs.map Value.pointer)) := hid fun W hW => by have := (HRt.out.below hW).own; rw [hlj] at this; exact this
          have HKT : Hid (∀ W v uo, RQ W wr.heap.size v uo SR → Below wr.heap.size wr W → Calls Tryz.prog 62 #[v] W fun e w' => ∃ c, e = .returned (.pointer c) ∧ TrO wo.heap.size w' SR c ∧ Below W.heap.size W w') := hid fun W v uo h1 h2 => (KT.out W v uo (h1.base hw3r) (bt HT.out.1 h2)).mono fun e w' ⟨c, h3, h4, h5⟩ => ⟨c, h3, by
            rcases h4 with h4 | ⟨h4, D, N, f, g0, g1, h6, h7, h8, h9⟩
            · exact Or.inl h4
            · exact Or.inr ⟨h4, D, N, f, g0, g1, h6, h7, h8.base hwo3, h9⟩, h5⟩
          have HBW : Hid (∀ W, Below wr.heap.size wr W → W.cell? ⟨w.heap.size + 1 + 1, 1, none⟩ = some vb) := hid fun W hW => (HXr.out.below hW).c1
          clear hX5r hX3r KRw KT KB HCO HPLt HPLn HPLl
          go_upto_region 13 with fail
          go_region_law (first
            | (refine step_append_lies _ (by rfl) _ _ _ (by rfl) w.heap.size 96 iP (.pointer none) 1 8 Tryz.underlying91 hj hy0 hy1 hy2 rfl (by decide) vb j _ (by rfl) ((HRt2.out _ (bt HW3.out hq46)).alloc _) ⟨w46.heap.size, 0, none⟩ 1 1 [.pointer c46] (by rfl) (by rfl) (new1_cell _ _ _) (fun u hu => by simp at hu; subst hu; rfl) (by decide) (by unfold maxLen; omega) (by omega) (by have := hq46.size; simp; omega) _ rfl ?_; intro g48 cp48 w48 hown48 hgrow48 hat48 hlt48; have hx48 := (HXr.out.below hq46).grown (HRt2.out _ (bt HW3.out hq46)) (by decide) hgrow48; have k48 : w48.cell? ⟨w.heap.size + 1 + 1, 1, none⟩ = some vb := hx48.c1; have f48 : w48.frozen? ⟨w.heap.size + 1 + 1, 1, none⟩ = false := hx48.free 1)
            | (go_simp; go_at_call 63; refine KRw1.out.mono ?_; rintro e w45 ⟨v45, u45, rfl, hQ45, hb45'⟩; have hq45 : Below wr.heap.size wr w45 := bt hbd hb45'; have k45 := HBW.out w45 hq45)
            | (go_simp; go_at_call 62; refine (HKT.out w45 v45 u45 hQ45 hq45).mono ?_; rintro e w46 ⟨c46, rfl, hT46, hb46⟩; have hq46 : Below wr.heap.size wr w46 := bt hq45 hb46; have k46 := HBW.out w46 hq46; have k46a : ∀ ob, (w46.alloc ob).cell? ⟨w.heap.size + 1 + 1, 1, none⟩ = some vb := fun ob => HBW.out _ (bl_alloc hq46 ob))
            | fail)
          all_goals (
            have HN : Hid (Below w.heap.size w (w48.setCell ⟨w.heap.size + 2, 1, none⟩ (.slice (some ⟨g48, 0, none⟩) (j + 1) cp48)) ∧ BrX (w48.setCell ⟨w.heap.size + 2, 1, none⟩ (.slice (some ⟨g48, 0, none⟩) (j + 1) cp48)) w.heap.size (.slice none 0 0) (.slice none 0 0) ∧ BrX (w48.setCell ⟨w.heap.size + 2, 1, none⟩ (.slice (some ⟨g48, 0, none⟩) (j + 1) cp48)) (w.heap.size + 2) (.slice (some ⟨w.heap.size + 1, 0, none⟩) 0 0) (.slice (some ⟨g48, 0, none⟩) (j + 1) cp48) ∧ (w48.setCell ⟨w.heap.size + 2, 1, none⟩ (.slice (some ⟨g48, 0, none⟩) (j + 1) cp48)).ownsRow w.heap.size 3 1 (.slice (some ⟨w.heap.size + 1, 0, none⟩) 0 0) 0 [] ∧ RtS (w48.setCell ⟨w.heap.size + 2, 1, none⟩ (.slice (some ⟨g48, 0, none⟩) (j + 1) cp48)) w.heap.size (w.heap.size + 2) (.slice (some ⟨g48, 0, none⟩) (j + 1) cp48) (RL (j + 1)) (cs ++ [c46])) := hid (by
              rw [HRj.out]
              have := RtS.step (rl := RL j) HB.out HX4.out HX5.out HOp.out HRt.out (bt HW3.out hq46) hT46 hgrow48 (by rw [hlj]; exact hown48) hat48
              rw [hlj] at this
              exact this))
          all_goals clear HB HX4 HX5 HOp HRt HT HW3 HRt2 HKT HBW HXr hown48 hgrow48 hat48 hlt48 hx48 k48 f48
          all_goals try simp only [Exit.inBlock, Exit.then]
          all_goals go_wp2_with fail
          all_goals go_roundw
          all_goals first
            | exact ⟨j + 1, by omega, by go_num, hid ⟨_, _, HN.out⟩⟩
            | (simp [intOf]; omega)
    · obtain rfl : j = n := by omega
      have i1 : ¬ ((j : Int) < (j : Int)) := by omega
      obtain ⟨ab, cb, eb⟩ := own_shapeJ HRt.out.own
      rw [HRl.out j hjn] at eb
      subst eb
      have hW : ∀ u1 u2, ∀ q, q ≠ w.heap.size → ((wr.setCell ⟨w.heap.size, 0, none⟩ u1).setCell ⟨w.heap.size, 1, none⟩ u2).heap[q]? = wr.heap[q]? := fun u1 u2 q hq => by rw [Below.heap_setCell _ _ _ _ (by exact hq), Below.heap_setCell _ _ _ _ (by exact hq)]
      have HF : Hid (∀ u1 u2, ((wr.setCell ⟨w.heap.size, 0, none⟩ u1).setCell ⟨w.heap.size, 1, none⟩ u2).ownsRow w.heap.size 3 1 (.slice (some ⟨w.heap.size + 1, 0, none⟩) 0 0) 0 [] ∧ ((wr.setCell ⟨w.heap.size, 0, none⟩ u1).setCell ⟨w.heap.size, 1, none⟩ u2).ownsRow w.heap.size 96 1 (.slice ab j cb) j (cs.map Value.pointer) ∧ cs.length = j ∧ (∀ t, t < j → TrO w.heap.size ((wr.setCell ⟨w.heap.size, 0, none⟩ u1).setCell ⟨w.heap.size, 1, none⟩ u2) ((tl.map fun t => (sdT o t).rows).getD t []) (cs.getD t none)) ∧ Below w.heap.size w ((wr.setCell ⟨w.heap.size, 0, none⟩ u1).setCell ⟨w.heap.size, 1, none⟩ u2)) := hid fun u1 u2 => by
        have h0 := HRt.out.own
        have h1 := HRt.out.len
        have h2 := HRt.out.el
        rw [HRl.out j hjn] at h0 h1 h2
        rw [HRn.out] at h2
        exact ⟨own_keepB HOp.out HX4.out (by decide), own_keepB h0 HX4.out (by decide), h1, fun t ht => (h2 t ht wr fun _ _ _ _ => rfl).keepB HX4.out (hW u1 u2), (HB.out.setCell (by show _ ≤ w.heap.size; omega) _).setCell (by show _ ≤ w.heap.size; omega) _⟩
      have r0 : wr.cell? ⟨w.heap.size + 1 + 1, 0, none⟩ = some (.slice (some ⟨w.heap.size + 1, 0, none⟩) 0 0) := HX5.out.c0
      have r1 : wr.cell? ⟨w.heap.size + 1 + 1, 1, none⟩ = some (.slice ab j cb) := HX5.out.c1
      have r2 : wr.cell? ⟨w.heap.size, 0, none⟩ = some (.slice none 0 0) := HX4.out.c0
      have r3 : wr.cell? ⟨w.heap.size, 1, none⟩ = some (.slice none 0 0) := HX4.out.c1
      have r4 : wr.frozen? ⟨w.heap.size, 0, none⟩ = false := HX4.out.free 0
      have r5 : wr.frozen? ⟨w.heap.size, 1, none⟩ = false := HX4.out.free 1
      clear hW HRt HRn HRl HRS HOf HC HB HX4 HX5 HOp HPl HRw HPn HPL HCO
      go_wp2_with fail
      refine bodyPost_ret (v := .agg #[.slice (some ⟨w.heap.size + 1, 0, none⟩) 0 0, .slice ab j cb]) (by simp [results, Tryz.results37, go_sem, r2, r3]) rfl ?_
      obtain ⟨h1, h2, h3, h4, h5⟩ := HF.out (.slice (some ⟨w.heap.size + 1, 0, none⟩) 0 0) (.slice ab j cb)
      exact ⟨_, _, _, rfl, h1, cs, h2, h3, fun t ht => (by have := h4 t ht; rw [List.getD_eq_getElem?_getD, List.getElem?_map, List.getD_eq_getElem?_getD] at this; exact this), h5⟩

end Go.Proofs.YtoodbpijgnbfjaaGreat

namespace Go.Proofs.YtoodbpijgnbfjaaGreat
open Go.RowKit Meet

set_option maxHeartbeats 2000000 in
set_option maxRecDepth 1000000 in
theorem areTables_calls (w : World) (vt : Value) (tl : List TbV) (h : ITs w vt tl) (hl : tl.length ≤ 1099511627776) (hs : ∀ t ∈ tl, TvS t) :
    Calls Tryz.prog 18 #[vt] w fun e w' => e = .returned (.bool (tl.all tabJ)) ∧ Below w.heap.size w w' := by
  obtain ⟨at', ct, rfl, hc⟩ := h
  have HC : Hid (∀ W, Below w.heap.size w W → ∀ j, j < tl.length → ∃ b oo, at' = some ⟨b, oo, none⟩ ∧ TabAt W b (oo + j * 3) (tl.getD j noTv)) := hid fun W hW j hj => by
    rcases hc with h0 | ⟨b, oo, rfl, h⟩
    · omega
    · exact ⟨b, oo, rfl, (h j hj).below hW⟩
  have HR : Hid (∀ j, j < tl.length → TvS (tl.getD j noTv)) := hid fun j hj => hs _ (by rw [List.getD_eq_getElem?_getD, List.getElem?_eq_getElem hj]; exact List.getElem_mem _)
  obtain ⟨res, hres⟩ : ∃ r, r = tl.all tabJ := ⟨_, rfl⟩
  have HA : Hid (∀ j, j < tl.length → tabJ (tl.getD j noTv) = false → res = false) := hid fun j hj e => by
    rw [hres, List.all_eq_false]
    exact ⟨_, by rw [List.getD_eq_getElem?_getD, List.getElem?_eq_getElem hj] at e; exact List.getElem_mem hj, by rw [List.getD_eq_getElem?_getD, List.getElem?_eq_getElem hj] at e; simp only [Option.getD_some] at e; rw [e]; simp⟩
  have HAll : Hid ((∀ i, i < tl.length → tabJ (tl.getD i noTv) = true) → res = true) := hid fun h => by
    rw [hres, List.all_eq_true]
    intro t ht
    obtain ⟨i, hi, rfl⟩ := List.getElem_of_mem ht
    have := h i hi
    rw [List.getD_eq_getElem?_getD, List.getElem?_eq_getElem hi] at this
    exact this
  rw [← hres]
  clear hres hs
  obtain ⟨n, hn⟩ : ∃ n, n = tl.length := ⟨_, rfl⟩
  rw [← hn] at hl HC HR HA HAll ⊢
  clear hn hc
  go_enter Tryz.func18, Tryz.ntmps18
  go_wp2_with fail
  go_loopw [7] (fun t wr => ∃ (j : Nat), j ≤ n ∧ t = .int .i64 j ∧ Hid ((∀ i, i < j → tabJ (tl.getD i noTv) = true) ∧ Below w.heap.size w wr)) (fun t _ => n - (intOf t).toNat)
  case atStart => exact ⟨0, Nat.zero_le _, rfl, hid ⟨fun i hi => by omega, Below.refl _ _⟩⟩
  case round =>
    obtain ⟨j, hjn, rfl, HT⟩ := hrel
    by_cases hlt : j < n
    · have i1 : (j : Int) < (n : Int) := by omega
      obtain ⟨b, oo, ea, v0, v1, v2, c0, c1, c2, hI⟩ := HC.out wr HT.out.2 j hlt
      subst ea
      have HTs := hid (HR.out j hlt)
      have HAj := hid (HA.out j hlt)
      obtain ⟨W3, hW3⟩ : ∃ W3, W3 = wr.alloc (.cells #[v0, v1, v2] 71) := ⟨_, rfl⟩
      have hB3 : Below wr.heap.size wr W3 := by rw [hW3]; exact (Below.refl _ _).alloc (Nat.le_refl _) _
      have HX3 : Hid (TX W3 wr.heap.size v0 v1 v2) := hid (by rw [hW3]; exact TX.made _ _ _ _)
      have KT := hid (tableOK_calls W3 v0 v1 v2 _ _ _ (hI.below hB3) HTs.out.vs HTs.out.rows)
      have HB3 := hid (bt HT.out.2 hB3)
      have HP := hid HT.out.1
      obtain ⟨a0, k0, e0, -⟩ := hI.vs
      obtain ⟨a1, k1, e1, -⟩ := hI.rows
      obtain ⟨a2, k2, e2, -⟩ := hI.ws
      subst e0 e1 e2
      have ey : tableB (tl.getD j noTv).vs (tl.getD j noTv).rows (tl.getD j noTv).ws = tabJ (tl.getD j noTv) := rfl
      rw [ey] at KT
      have HPj : Hid (tabJ (tl.getD j noTv) = true → ∀ i, i < j + 1 → tabJ (tl.getD i noTv) = true) := hid fun hy i hi => by
        by_cases e : i = j
        · rw [e]; exact hy
        · exact HP.out i (by omega)
      generalize tabJ (tl.getD j noTv) = y at KT HAj HPj
      generalize (tl.getD j noTv).rows.length = nr at *
      generalize (tl.getD j noTv).vs.length = n0 at *
      generalize (tl.getD j noTv).ws.length = n2 at *
      clear hB3 hI HT ey HTs
      have d0 := HX3.out.c0
      have d1 := HX3.out.c1
      have d2 := HX3.out.c2
      go_upto_region 4 with fail
      rw [← hW3]
      clear hW3 c0 c1 c2
      cases y
      · have HNo := hid (HAj.out rfl)
        go_wp2_with (first | (go_at_call 31; refine KT.out.mono ?_; rintro e w4 ⟨rfl, hb4⟩) | fail)
        go_ret
        exact ⟨by rw [HNo.out]; rfl, bt HB3.out hb4⟩
      · go_wp2_with (first | (go_at_call 31; refine KT.out.mono ?_; rintro e w4 ⟨rfl, hb4⟩) | fail)
        have HN : Hid ((∀ i, i < j + 1 → tabJ (tl.getD i noTv) = true) ∧ Below w.heap.size w w4) := hid ⟨HPj.out (by trivial), bt HB3.out hb4⟩
        clear hb4 KT
        go_roundw
        case rel => exact ⟨j + 1, by omega, by go_num, HN⟩
        case measure => simp [intOf]; omega
    · obtain rfl : j = n := by omega
      have i1 : ¬ ((j : Int) < (j : Int)) := by omega
      have HY := hid (HAll.out HT.out.1)
      go_wp2_with fail
      go_ret
      exact ⟨by rw [HY.out]; rfl, HT.out.2⟩

end Go.Proofs.YtoodbpijgnbfjaaGreat
