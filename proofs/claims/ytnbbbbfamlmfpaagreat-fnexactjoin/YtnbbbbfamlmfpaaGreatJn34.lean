import Derived.Test.YtnbbbbfamlmfpaaGreatJn11
import Derived.Test.YtnbbbbfamlmfpaaGreatJn18
import Derived.Test.YtnbbbbfamlmfpaaGreatJn23
import Derived.Test.YtnbbbbfamlmfpaaGreatJn31
import Derived.Test.YtnbbbbfamlmfpaaGreatJn32
import Derived.Test.YtnbbbbfamlmfpaaGreatJn33
/-
  spec.l5Sides.
-/
namespace Go.Proofs.YtnbbbbfamlmfpaaGreat
open Go.RowKit

/-- a table's side -/
def sdT (o : List Int) (t : TbV) : SdM := ⟨shr o t.vs, srt (t.rows.map (prjR t.vs (shr o t.vs)))⟩
theorem sdT_ok (o : List Int) (t : TbV) : (sdT o t).Ok := by
  refine ⟨(srt_ok _ _ (Nat.le_refl _)).1, fun r hr => ?_⟩
  obtain ⟨q, -, rfl⟩ := List.mem_map.1 (((srt_ok _ (t.rows.map (prjR t.vs (shr o t.vs))) (Nat.le_refl _)).2 r).1 hr)
  exact prjR_len _ _ _
/-- what TableOK says of a table, as far as it is wanted here -/
structure TvJ (t : TbV) : Prop where
  vs : t.vs.length ≤ 6
  n : t.rows.length ≤ 10000
  len : ∀ r ∈ t.rows, r.length = t.vs.length
structure SdR where
  v0 : Value
  v1 : Value
  s : SdM
def scs (r : SdR) : List Value := [r.v0, r.v1]
/-- a side that stands whatever becomes of the list's own block -/
def El (v : Value) (W : World) (r : SdR) : Prop := ∀ W', (∀ k, k < W.heap.size → v.ownBlock ≠ some k → W'.heap[k]? = W.heap[k]?) → IS W' r.v0 r.s.vars ∧ ISSc W' r.v1 r.s.rows
def ElS (B : Nat) (W : World) (r : SdR) : Prop := ∀ W', (∀ k, B ≤ k → k < W.heap.size → W'.heap[k]? = W.heap[k]?) → IS W' r.v0 r.s.vars ∧ ISSc W' r.v1 r.s.rows
structure SDs (W : World) (B : Nat) (v : Value) (sl : List SdR) : Prop where
  own : W.ownsRow B 79 2 v sl.length (sl.flatMap scs)
  el : ∀ r ∈ sl, El v W r
theorem SDs.push {wr W w3 : World} {B g c : Nat} {v : Value} {sl : List SdR} {r : SdR} {o : Obj} (h : SDs wr B v sl) (hb : Below wr.heap.size wr W) (he : ElS wr.heap.size W r) (hg : (W.alloc o).grownBy w3 v.ownBlock) (hown : w3.ownsRow B 79 2 (.slice (some ⟨g, 0, none⟩) (sl.length + 1) c) (sl.length + 1) (sl.flatMap scs ++ [r.v0, r.v1])) (hat : v.ownBlock = some g ∨ g = (W.alloc o).heap.size) :
    SDs w3 B (.slice (some ⟨g, 0, none⟩) (sl.length + 1) c) (sl ++ [r]) := by
  have hs := hb.size
  have hs3 := hg.size
  rw [World.size_alloc] at hs3 hat
  refine ⟨by rw [List.length_append, List.length_singleton, List.flatMap_append]; simpa [scs] using hown, fun q hq W' hW' => ?_⟩
  have key : ∀ k, k < W.heap.size → v.ownBlock ≠ some k → g ≠ k → W'.heap[k]? = W.heap[k]? := fun k hk h1 h2 => by
    rw [hW' k (by omega) (fun e => h2 (by simpa [Value.ownBlock] using e)), hg.block k (by rw [World.size_alloc]; omega) (fun e => h1 e.symm)]
    exact Below.heap_alloc _ _ _ hk
  have hvl : ∀ k, v.ownBlock = some k → k < wr.heap.size := fun k hk => (h.own.lt k hk).2
  rcases List.mem_append.1 hq with hq | hq
  · refine h.el q hq W' fun k hk h1 => ?_
    rw [key k (by omega) h1 (fun e => ?_)]
    · exact hb.block k hk
    · subst e
      rcases hat with h2 | h2
      · exact h1 h2
      · omega
  · rw [List.mem_singleton] at hq
    subst hq
    refine he W' fun k h1 h2 => key k h2 (fun e => ?_) (fun e => ?_)
    · have := hvl k e; omega
    · subst e
      rcases hat with h3 | h3
      · have := hvl _ h3; omega
      · omega
theorem SDs.below {W W' : World} {B : Nat} {v : Value} {sl : List SdR} (h : SDs W B v sl) (hb : Below W.heap.size W W') : SDs W' B v sl := by
  refine ⟨own_below h.own hb, fun r hr X hX => h.el r hr X fun k hk hn => ?_⟩
  rw [hX k (Nat.lt_of_lt_of_le hk hb.size) hn]
  exact hb.block k hk
theorem get2 {α : Type} (c : α → List Value) (hc : ∀ x, (c x).length = 2) (ss : List α) : ∀ t, (ss.flatMap c)[t]? = (ss[t / 2]?).bind fun x => (c x)[t % 2]? := by
  induction ss with
  | nil => intro t; simp
  | cons x r ih =>
    intro t
    rw [List.flatMap_cons]
    by_cases h : t < 2
    · rw [List.getElem?_append_left (by rw [hc]; omega), Nat.div_eq_of_lt h, Nat.mod_eq_of_lt h]
      rfl
    · obtain ⟨s, rfl⟩ : ∃ s, t = s + 2 := ⟨t - 2, by omega⟩
      rw [List.getElem?_append_right (by rw [hc]; omega)]
      have e : s + 2 - (c x).length = s := by rw [hc]; omega
      rw [e, ih s, Nat.add_mod_right, Nat.add_div_right _ (by decide)]
      rfl
theorem SDs.isds {W : World} {B : Nat} {v : Value} {sl : List SdR} (h : SDs W B v sl) : ISds W v (sl.map SdR.s) := by
  have hel : ∀ r ∈ sl, IS W r.v0 r.s.vars ∧ ISSc W r.v1 r.s.rows := fun r hr => h.el r hr W fun _ _ _ => rfl
  rcases h.own.2 with ⟨rfl, hn⟩ | ⟨g, cap, cur, rfl, hb', hh, hn, -, -, ht⟩
  · exact ⟨none, 0, by rw [List.length_map, hn], Or.inl (by rw [List.length_map]; exact hn)⟩
  · refine ⟨_, cap, by rw [List.length_map], Or.inr ⟨g, 0, rfl, fun j hj => ?_⟩⟩
    rw [List.length_map] at hj
    obtain ⟨h1, h2⟩ := hel sl[j] (List.getElem_mem hj)
    have eg : (sl.map SdR.s).getD j noSd = sl[j].s := by rw [List.getD_eq_getElem?_getD, List.getElem?_map, List.getElem?_eq_getElem hj]; rfl
    have hc : ∀ q, q < 2 → W.cell? ⟨g, j * 2 + q, none⟩ = (scs sl[j])[q]? := fun q hq => by
      rw [cell_of_row _ _ _ _ _ _ hh, ← Array.getElem?_toList, ← List.getElem?_take_of_lt (by omega : j * 2 + q < sl.length * 2), ht, get2 scs (fun _ => rfl), show (j * 2 + q) / 2 = j by omega, show (j * 2 + q) % 2 = q by omega, List.getElem?_eq_getElem hj]
      rfl
    rw [eg, Nat.zero_add]
    obtain ⟨a0, c0, e0, h1'⟩ := h1
    obtain ⟨a1, c1, e1, h2'⟩ := h2
    refine ⟨a0, c0, a1, c1, ?_, ?_, ⟨a0, c0, rfl, h1'⟩, ⟨a1, c1, rfl, h2'⟩⟩
    · rw [← e0]; exact hc 0 (by omega)
    · rw [← e1]; exact hc 1 (by omega)

end Go.Proofs.YtnbbbbfamlmfpaaGreat

/-
  spec.l5Sides, walked.
-/
namespace Go.Proofs.YtnbbbbfamlmfpaaGreat
open Go.RowKit

theorem Tryz.infoSd : (Tryz.prog.info? 79).map (fun i => (i.zero, i.size, i.bytes)) = some (some (.agg #[.slice none 0 0, .slice none 0 0]), 2, 48) := by kernel_rfl
theorem new2_cellS (w : World) (x y : Value) (t : TypeId) : ∀ j u, [x, y][j]? = some u → (w.alloc (.cells #[x, y] t)).cell? ((⟨w.heap.size, 0, none⟩ : Addr).add j) = some u := by
  intro j u hj
  match j, hj with
  | 0, hj => simp at hj; subst hj; simp [Addr.add]
  | 1, hj => simp at hj; subst hj; simp [Addr.add]
/-- rows made since B, read in a world that keeps what was laid since B -/
theorem els_of {B : Nat} {W0 W : World} {v0 v1 : Value} {us : List Value} {s : SdM} (h0 : W.ownsRow B 3 1 v0 s.vars.length (s.vars.map (Value.int .i64))) (hb : Below W0.heap.size W0 W) (h1 : RSx (fun u => ∀ k, u.ownBlock = some k → B ≤ k) W0 W v1 us s.rows) (hv : ∀ k, v1.ownBlock = some k → B ≤ k) : ElS B W ⟨v0, v1, s⟩ := fun W' hW' => by
  refine ⟨own_is (own_move h0 fun g hg => hW' g (h0.lt g hg).1 (h0.lt g hg).2), ?_⟩
  obtain ⟨⟨a, cap, rfl, hc, hq⟩, -, hel⟩ := h1
  refine ⟨a, cap, rfl, ?_⟩
  rcases hq with hq | ⟨b, o, rfl, hq⟩
  · exact Or.inl hq
  · refine Or.inr ⟨b, o, rfl, fun j hj => ?_⟩
    obtain ⟨⟨⟨a2, c2, e2, h2⟩, h3⟩, h4⟩ := hel j hj
    refine ⟨us.getD j undef, ?_, ⟨a2, c2, e2, ?_⟩, h3⟩
    · exact (World.cell?_of_block (w := W) (a := ⟨b, o + j, none⟩) (hW' b (hv b rfl) (World.block_lt_of_cell? W _ (hq j hj)))).trans (hq j hj)
    · rcases h2 with h2 | ⟨b2, o2, rfl, h2⟩
      · exact Or.inl h2
      · refine Or.inr ⟨b2, o2, rfl, fun i hi => ?_⟩
        have h5 : W.cell? ⟨b2, o2 + i, none⟩ = some (.int .i64 (s.rows.getD j [] |>.getD i 0)) := (hb.cell (p := ⟨b2, o2 + i, none⟩) (World.block_lt_of_cell? W0 _ (h2 i hi))).trans (h2 i hi)
        exact (World.cell?_of_block (w := W) (a := ⟨b2, o2 + i, none⟩) (hW' b2 (h4 b2 (by rw [e2]; rfl)) (World.block_lt_of_cell? W _ h5))).trans h5
theorem RQ.rsx {W : World} {B : Nat} {v : Value} {us : List Value} {ls : List (List Int)} (h : RQ W B v us ls) : RSx (fun u => ∀ k, u.ownBlock = some k → B ≤ k) W W v us ls :=
  ⟨h.rs.sl, h.rs.len, fun i hi => ⟨h.rs.each i hi, fun k hk => ((h.each i hi).lt k hk).1⟩⟩

set_option maxHeartbeats 4000000 in
set_option maxRecDepth 1000000 in
theorem l5Sides_calls (w : World) (vt vo : Value) (tl : List TbV) (o : List Int) (h : ITs w vt tl) (ho : IS w vo o) (hl : tl.length ≤ 1000) (hol : o.length ≤ 1000) (hok : ∀ t ∈ tl, TvJ t) :
    Calls Tryz.prog 33 #[vt, vo] w fun e w' => ∃ v, e = .returned v ∧ ISds w' v (tl.map (sdT o)) ∧ Below w.heap.size w w' := by
  obtain ⟨iS, hj, hy0, hy1, hy2⟩ := info_parts Tryz.infoIS
  obtain ⟨iD, hd, hd0, hd1, hd2⟩ := info_parts Tryz.infoSd
  obtain ⟨at', ct, rfl, hc⟩ := h
  have HO := hid ho
  obtain ⟨ao, co, rfl, -⟩ := ho
  have HOK : Hid (∀ j, j < tl.length → TvJ (tl.getD j noTv)) := hid fun j hj => hok _ (by rw [List.getD_eq_getElem?_getD, List.getElem?_eq_getElem hj]; exact List.getElem_mem _)
  have HT1 : Hid (∀ j, j < tl.length → tl.take (j + 1) = tl.take j ++ [tl.getD j noTv]) := hid fun j hj => by
    rw [List.take_add_one, List.getElem?_eq_getElem hj, List.getD_eq_getElem?_getD, List.getElem?_eq_getElem hj]; rfl
  have HTn : Hid (tl.take tl.length = tl) := hid (List.take_length ..)
  have HTl : Hid (∀ j, j ≤ tl.length → (tl.take j).length = j) := hid fun j hj => by rw [List.length_take]; omega
  have HC : Hid (∀ W, Below w.heap.size w W → ∀ j, j < tl.length → ∃ b oo, at' = some ⟨b, oo, none⟩ ∧ TabAt W b (oo + j * 3) (tl.getD j noTv)) := hid fun W hW j hj => by
    rcases hc with h0 | ⟨b, oo, rfl, h⟩
    · omega
    · exact ⟨b, oo, rfl, (h j hj).below hW⟩
  obtain ⟨n, hn⟩ : ∃ n, n = tl.length := ⟨_, rfl⟩
  rw [← hn] at hl HOK HT1 HTn HTl HC ⊢
  clear hn hc hok
  obtain ⟨no, hno⟩ : ∃ no, no = o.length := ⟨_, rfl⟩
  have HNO := hid hno
  rw [← hno] at hol ⊢
  rw [← hno] at HO
  clear hno
  obtain ⟨W1, hW1⟩ : ∃ W1, W1 = w.alloc (.cells #[] 79) := ⟨_, rfl⟩
  have HS1 : Hid (Below w.heap.size w W1 ∧ SDs W1 w.heap.size (.slice (some ⟨w.heap.size, 0, none⟩) 0 0) []) := hid (by
    rw [hW1]
    exact ⟨(Below.refl _ _).alloc (Nat.le_refl _) _, World.ownsRow_made w #[] 0 (Nat.le_refl _) (by decide) rfl, fun r hr => by cases hr⟩)
  go_enter Tryz.func33, Tryz.ntmps33
  go_upto_region 2 with fail
  rw [← hW1]
  clear hW1
  go_wp2_with fail
  go_loopw [5, 15] (fun u t wr => ∃ (j : Nat) (vs : Value), j ≤ n ∧ t = .int .i64 j ∧ vs = u ∧ Hid (∃ sl : List SdR, sl.map SdR.s = (tl.take j).map (sdT o) ∧ Below w.heap.size w wr ∧ SDs wr w.heap.size vs sl)) (fun _ t _ => n - (intOf t).toNat)
  case atStart => exact ⟨0, _, Nat.zero_le _, rfl, rfl, hid ⟨[], rfl, HS1.out.1, HS1.out.2⟩⟩
  case round =>
    clear HS1
    obtain ⟨j, vs, hjn, rfl, rfl, HT⟩ := hrel
    obtain ⟨sl, hsl, hB, hS⟩ := HT.out
    have HSL := hid hsl
    have HB := hid hB
    have HS := hid hS
    clear HT hsl hB hS
    by_cases hlt : j < n
    · have i1 : (j : Int) < (n : Int) := by omega
      obtain ⟨b, oo, ea, v0, v1, v2, c0, c1, c2, hI⟩ := HC.out wr HB.out j hlt
      subst ea
      have hsll : sl.length = j := by have := congrArg List.length HSL.out; rw [List.length_map, List.length_map, HTl.out j hjn] at this; exact this
      have HTj := hid (HT1.out j hlt)
      have HJ := hid (HOK.out j hlt)
      generalize tl.getD j noTv = tb at *
      obtain ⟨W2, hW2⟩ : ∃ W2, W2 = wr.alloc (.cells #[v0, v1, v2] 41) := ⟨_, rfl⟩
      have hB2 : Below wr.heap.size wr W2 := by rw [hW2]; exact (Below.refl _ _).alloc (Nat.le_refl _) _
      have HX2 : Hid (TX W2 wr.heap.size v0 v1 v2) := hid (by rw [hW2]; exact TX.made _ _ _ _)
      have HI2 := hid (hI.below hB2)
      have HB2 := hid hB2
      obtain ⟨a0, k0, e0, -⟩ := hI.vs
      obtain ⟨a1, k1, e1, -⟩ := hI.rows
      obtain ⟨a2, k2, e2, -⟩ := hI.ws
      subst e0 e1 e2
      have KSh := hid (shared_calls W2 (.slice ao no co) _ o tb.vs (HO.out.below (bt HB.out hB2)) (by have := HNO.out; omega) HI2.out.vs (by have := HJ.out.vs; omega))
      have d0 := HX2.out.c0
      have hnr := HJ.out.n
      have hvl := HJ.out.vs
      have HSH : Hid ((shr o tb.vs).length ≤ no) := hid (by rw [HNO.out]; exact shr_len _ _)
      obtain ⟨sv, hsv⟩ : ∃ sv, sv = shr o tb.vs := ⟨_, rfl⟩
      have HSV := hid hsv
      rw [← hsv] at KSh HSH
      have hsl0 := HSH.out
      clear hsv hB2 hI HC HOK HT1
      go_upto_region 5 with fail
      rw [← hW2]
      clear hW2 c0 c1 c2
      go_wp2_with fail
      refine KSh.out.mono ?_
      rintro e w3 ⟨g3, c3, rfl, ho3, hb3⟩
      have HB3 := hid (bt HB2.out hb3)
      have HX3 := hid (HX2.out.below hb3)
      have HI3 := hid (HI2.out.below hb3)
      have HO3 := hid (own_base ho3 HB2.out.size)
      clear ho3 hb3 KSh d0 HX2 HI2 HB2
      -- the rows, one after another
      obtain ⟨W4, hW4⟩ : ∃ W4, W4 = w3.alloc (.cells #[] 23) := ⟨_, rfl⟩
      have HS4 : Hid (Below w3.heap.size w3 W4 ∧ RQ W4 w3.heap.size (.slice (some ⟨w3.heap.size, 0, none⟩) 0 0) [] []) := hid (by
        rw [hW4]
        exact ⟨(Below.refl _ _).alloc (Nat.le_refl _) _, World.ownsRow_made w3 #[] 0 (Nat.le_refl _) (by decide) rfl, rfl, fun i hi => by simp at hi, fun i j _ hj => by simp at hj⟩)
      have KV : Hid (∀ W u i, Below w3.heap.size w3 W → i < tb.rows.length → IS W u (tb.rows.getD i []) → Calls Tryz.prog 49 #[.agg #[.slice a0 tb.vs.length k0, .slice a1 tb.rows.length k1, .slice a2 tb.ws.length k2], u, .slice (some ⟨g3, 0, none⟩) sv.length c3] W fun e w' => ∃ v, e = .returned v ∧ w'.ownsRow W.heap.size 3 1 v (prjR tb.vs sv (tb.rows.getD i [])).length ((prjR tb.vs sv (tb.rows.getD i [])).map (Value.int .i64)) ∧ Below W.heap.size W w') := hid fun W u i hW hi hu =>
        l2Values_calls W _ _ _ u _ tb.vs (tb.rows.getD i []) sv tb.rows.length tb.ws.length ⟨_, _, rfl⟩ ⟨_, _, rfl⟩ (HI3.out.below hW).vs hu (own_is (own_below HO3.out hW)) (by omega) (HJ.out.len _ (by rw [List.getD_eq_getElem?_getD, List.getElem?_eq_getElem hi]; exact List.getElem_mem _)) (by omega)
      have HP : Hid (∀ i, i < tb.rows.length → (tb.rows.take (i + 1)).map (prjR tb.vs sv) = (tb.rows.take i).map (prjR tb.vs sv) ++ [prjR tb.vs sv (tb.rows.getD i [])]) := hid fun i hi => by
        rw [List.take_add_one, List.getElem?_eq_getElem hi, List.getD_eq_getElem?_getD, List.getElem?_eq_getElem hi, List.map_append]
        rfl
      have HPl : Hid (∀ i, i ≤ tb.rows.length → ((tb.rows.take i).map (prjR tb.vs sv)).length = i) := hid fun i hi => by rw [List.length_map, List.length_take]; omega
      have HPn : Hid ((tb.rows.take tb.rows.length).map (prjR tb.vs sv) = tb.rows.map (prjR tb.vs sv)) := hid (by rw [List.take_length])
      have HCr : Hid (∀ W, Below w3.heap.size w3 W → ∀ i, i < tb.rows.length → ∃ (b o : Nat) (u : Value), a1 = some ⟨b, o, none⟩ ∧ W.cell? ⟨b, o + i, none⟩ = some u ∧ IS W u (tb.rows.getD i [])) := hid fun W hW i hi => by
        obtain ⟨a', c', e, hh⟩ := (HI3.out.below hW).rows
        simp only [Value.slice.injEq] at e
        obtain ⟨rfl, -, -⟩ := e
        rcases hh with h0 | ⟨b, o, rfl, hq⟩
        · omega
        · obtain ⟨u, h1, h2⟩ := hq i hi
          exact ⟨b, o, u, rfl, h1, h2⟩
      have HM : Hid (∀ r ∈ tb.rows.map (prjR tb.vs sv), r.length ≤ 1099511627776) := hid fun r hr => by
        obtain ⟨q, -, rfl⟩ := List.mem_map.1 hr
        rw [prjR_len]; omega
      obtain ⟨nr, hnr'⟩ : ∃ nr, nr = tb.rows.length := ⟨_, rfl⟩
      rw [← hnr'] at KV HP HPl HPn HCr hnr HX3 ⊢
      clear hnr' HI3
      generalize tb.vs.length = l0 at *
      generalize tb.ws.length = l2 at *
      have d1 := HX3.out.c1
      go_upto_region 7 with fail
      rw [← hW4]
      clear hW4
      have d1 := (HX3.out.below HS4.out.1).c1
      generalize wr = wo at *
      go_wp2_with fail
      clear d1
      go_loopw [9, 27] (fun u t wr => ∃ (i : Nat) (vr : Value), i ≤ nr ∧ t = .int .i64 i ∧ vr = u ∧ Hid (∃ uo, Below w3.heap.size w3 wr ∧ RQ wr w3.heap.size vr uo ((tb.rows.take i).map (prjR tb.vs sv)))) (fun _ t _ => nr - (intOf t).toNat)
      case atStart => exact ⟨0, _, Nat.zero_le _, rfl, rfl, hid ⟨[], HS4.out.1, HS4.out.2⟩⟩
      case round =>
        clear HS4
        obtain ⟨i, vr, hin, rfl, rfl, HT⟩ := hrel
        obtain ⟨uo, hB, hQ⟩ := HT.out
        have HBr := hid hB
        have HQ := hid hQ
        clear HT hB hQ
        by_cases hlt2 : i < nr
        · have i2 : (i : Int) < (nr : Int) := by omega
          obtain ⟨b5, o5, u5, ea, e5, hu5⟩ := HCr.out wr HBr.out i hlt2
          subst ea
          have KV1 := hid (KV.out wr u5 i HBr.out hlt2 hu5)
          have HPj := hid (HP.out i hlt2)
          have hlj := HPl.out i hin
          have HXr := hid (HX3.out.below HBr.out)
          have d0 := HXr.out.c0
          have d1 := HXr.out.c1
          have d2 := HXr.out.c2
          obtain ⟨au, cu, rfl, -⟩ := hu5
          generalize (tb.rows.getD i []).length = lr at *
          generalize prjR tb.vs sv (tb.rows.getD i []) = pr at *
          go_wp2_with fail
          refine KV1.out.mono ?_
          rintro e w5 ⟨v5, rfl, hv5, hb5⟩
          have HQ5 := hid (HQ.out.below hb5)
          have HB5 := hid (bt HBr.out hb5)
          have hszo : w3.heap.size ≤ wr.heap.size := HBr.out.size
          have HV5 := hid (own_base hv5 hszo)
          have HAp : Hid (∀ q, q < ((tb.rows.take i).map (prjR tb.vs sv)).length → ∀ g, (uo.getD q undef).ownBlock = some g → v5.ownBlock ≠ some g) := hid fun q hq g h1 h2 => by
            have a1 := ((HQ.out.each q hq).lt g h1).2
            have a2 := (hv5.lt g h2).1
            omega
          have hs5 : w3.heap.size ≤ w5.heap.size := Nat.le_trans hszo hb5.size
          obtain ⟨a5, k5, e5'⟩ := own_shape hv5
          subst e5'
          clear hv5 hb5 KV1 e5 HBr d0 d1 d2 HXr hszo
          have ho5 : w5.ownsRow w3.heap.size 23 1 vr i uo := by have := HQ5.out.own; rw [hlj] at this; exact this
          have HO5 := hid ho5
          clear ho5
          go_wp2_with (first | (at_builtin; refine wpList_append_lies _ rfl _ _ 25 rfl w3.heap.size 23 iS (.slice none 0 0) 1 24 Tryz.underlying25 hj hy0 hy1 hy2 rfl (by decide) vr _ uo rfl (HO5.out.alloc _) ⟨_, 0, none⟩ 1 1 [.slice a5 pr.length k5] rfl rfl (new1_cell _ _ _) (fun u hu => by simp at hu; subst hu; rfl) (by decide) (by unfold maxLen; omega) (by omega) (by simp; omega) _ rfl ?_; intro g6 cp6 w6 hown6 hgrow6 hat6 hlt6) | fail)
          have HN : Hid (∃ uo', Below w3.heap.size w3 w6 ∧ RQ w6 w3.heap.size (.slice (some ⟨g6, 0, none⟩) (i + 1) cp6) uo' ((tb.rows.take (i + 1)).map (prjR tb.vs sv))) := hid ⟨_, (HB5.out.alloc hs5 _).grown hgrow6 (by simp; omega) (fun q hq => (HO5.out.lt q hq).1), by rw [HPj.out]; exact HQ5.out.step HV5.out HAp.out (by rw [hlj]; exact hown6) hgrow6⟩
          clear hown6 hgrow6 hat6 hlt6
          go_roundw
          case rel => exact ⟨i + 1, _, by omega, by go_num, rfl, HN⟩
          case measure => simp [intOf]; omega
        · obtain rfl : i = nr := by omega
          have i2 : ¬ ((i : Int) < (i : Int)) := by omega
          have hlj := HPl.out i (Nat.le_refl _)
          rw [HPn.out] at HQ hlj
          clear HCr KV HP HPl HPn HX3
          have KS := hid (l2SortX_calls (fun u => ∀ k, u.ownBlock = some k → w3.heap.size ≤ k) wr _ wr vr uo (tb.rows.map (prjR tb.vs sv)) (Nat.le_refl _) (Below.refl _ _) HQ.out.rsx (by omega) HM.out)
          have HLS : Hid ((srt (tb.rows.map (prjR tb.vs sv))).length ≤ 10000) := hid (by have := srt_len _ (tb.rows.map (prjR tb.vs sv)) (Nat.le_refl _); omega)
          have HE : Hid (∀ w7 v7 us7, RSx (fun u => ∀ k, u.ownBlock = some k → w3.heap.size ≤ k) wr w7 v7 us7 (srt (tb.rows.map (prjR tb.vs sv))) → NewOr wr vr v7 → Below wr.heap.size wr w7 → ElS wo.heap.size w7 ⟨.slice (some ⟨g3, 0, none⟩) sv.length c3, v7, sdT o tb⟩ ∧ Below wo.heap.size wo w7) := hid fun w7 v7 us7 h1 h2 h3 => by
            have hsd : sdT o tb = ⟨sv, srt (tb.rows.map (prjR tb.vs sv))⟩ := by unfold sdT; rw [← HSV.out]
            rw [hsd]
            have hle := HB3.out.size
            refine ⟨els_of (own_below (own_below HO3.out HBr.out) h3) h3 (us := us7) ⟨h1.sl, h1.len, fun i hi => ⟨(h1.each i hi).1, fun k hk => Nat.le_trans hle ((h1.each i hi).2 k hk)⟩⟩ (fun k hk => ?_), bt HB3.out (bt HBr.out h3)⟩
            rcases h2 with h2 | h2
            · rw [h2] at hk
              exact Nat.le_trans hle (HQ.out.own.lt k hk).1
            · exact Nat.le_trans hle (Nat.le_trans HBr.out.size (h2 k hk))
          generalize hR : srt (tb.rows.map (prjR tb.vs sv)) = R at *
          clear hR HM HQ HBr HO3
          go_wp2_with fail
          refine KS.out.mono ?_
          rintro e w7 ⟨v7, us7, rfl, hRS7, hNw, hb7⟩
          have HE7 := hid (HE.out w7 v7 us7 hRS7 hNw hb7)
          obtain ⟨⟨a7, k7, e7, -, -⟩, -, -⟩ := hRS7
          subst e7
          have hs7 : w.heap.size ≤ w7.heap.size := Nat.le_trans HB.out.size HE7.out.2.size
          have ho7 : w7.ownsRow w.heap.size 79 2 vs j (sl.flatMap scs) := by have := (HS.out.below HE7.out.2).own; rw [hsll] at this; exact this
          have HO7 := hid ho7
          clear hb7 KS HE hNw ho7
          generalize R.length = lR at *
          generalize sv.length = lsv at *
          go_wp2_with (first | (at_builtin; refine wpList_append_lies _ rfl _ _ 55 rfl w.heap.size 79 iD (.agg #[.slice none 0 0, .slice none 0 0]) 2 48 Tryz.underlying55 hd hd0 hd1 hd2 rfl (by decide) vs _ _ rfl (HO7.out.alloc _) ⟨_, 0, none⟩ 1 1 [.slice (some ⟨g3, 0, none⟩) lsv c3, .slice a7 lR k7] rfl rfl (new2_cellS _ _ _ _) (fun u hu => by simp at hu; rcases hu with rfl | rfl <;> rfl) (by decide) (by unfold maxLen; omega) (by omega) (by simp; omega) _ rfl ?_; intro g8 cp8 w8 hown8 hgrow8 hat8 hlt8) | fail)
          have HN : Hid (∃ sl' : List SdR, sl'.map SdR.s = (tl.take (j + 1)).map (sdT o) ∧ Below w.heap.size w w8 ∧ SDs w8 w.heap.size (.slice (some ⟨g8, 0, none⟩) (j + 1) cp8) sl') := hid ⟨sl ++ [⟨.slice (some ⟨g3, 0, none⟩) lsv c3, .slice a7 lR k7, sdT o tb⟩], by rw [HTj.out, List.map_append, List.map_append, HSL.out]; rfl, ((bt HB.out HE7.out.2).alloc hs7 _).grown hgrow8 (by simp; omega) (fun q hq => (HO7.out.lt q hq).1), by
            have := HS.out.push HE7.out.2 HE7.out.1 hgrow8 (by rw [hsll]; exact hown8) hat8
            rw [hsll] at this
            exact this⟩
          clear hown8 hgrow8 hat8 hlt8 HE7 HO7
          go_roundw
          case rel => exact ⟨j + 1, _, by omega, by go_num, rfl, HN⟩
          case measure => simp [intOf]; omega
    · obtain rfl : j = n := by omega
      have i1 : ¬ ((j : Int) < (j : Int)) := by omega
      have HF : Hid (ISds wr vs (tl.map (sdT o)) ∧ Below w.heap.size w wr) := hid ⟨by have := HS.out.isds; rw [HSL.out, HTn.out] at this; exact this, HB.out⟩
      clear HS HB HSL HC HOK HT1 HTn HTl
      go_wp2_with fail
      go_ret
      exact ⟨_, rfl, HF.out.1, HF.out.2⟩

end Go.Proofs.YtnbbbbfamlmfpaaGreat
