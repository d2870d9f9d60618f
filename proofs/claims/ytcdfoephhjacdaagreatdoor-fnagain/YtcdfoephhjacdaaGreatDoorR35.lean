import Derived.Test.YtcdfoephhjacdaaGreatDoorR34
/-
  impl: (*reading).data.
-/
namespace Go.Proofs.YtcdfoephhjacdaaGreatDoor
open Go.RowKit Go.Maps

theorem Tryz.infoRe : (Tryz.prog.info? 45).map (fun i => (i.zero, i.size, i.bytes)) = some (some (.agg #[.string ⟨#[]⟩, .int .i64 0, .slice none 0 0, .slice none 0 0]), 4, 72) := by kernel_rfl

/-- the relations that have been read, in their order -/
def DsOf (st : List RdV) (ds : List RelV) : Prop := ds.length = st.length ∧ ∀ i, i < st.length → RelOf (st.getD i noRd) (ds.getD i noRel)
/-- the first k of them -/
def DsTo (st : List RdV) (k : Nat) (ds : List RelV) : Prop := ds.length = k ∧ ∀ i, i < k → RelOf (st.getD i noRd) (ds.getD i noRel)
theorem DsTo.push {st : List RdV} {k : Nat} {ds : List RelV} {d : RelV} (h : DsTo st k ds) (hd : RelOf (st.getD k noRd) d) : DsTo st (k + 1) (ds ++ [d]) := by
  refine ⟨by rw [List.length_append, h.1]; rfl, fun i hi => ?_⟩
  by_cases e : i < k
  · have e1 : (ds ++ [d]).getD i noRel = ds.getD i noRel := by rw [List.getD_eq_getElem?_getD, List.getElem?_append_left (by rw [h.1]; exact e), ← List.getD_eq_getElem?_getD]
    rw [e1]; exact h.2 i e
  · obtain rfl : i = k := by omega
    have : (ds ++ [d]).getD i noRel = d := by rw [← h.1]; simp [List.getD_eq_getElem?_getD]
    rw [this]; exact hd
theorem bx_set {W : World} {p q : Nat} {t : TypeId} {v y : Value} (h : Boxed W p t v) (hne : p ≠ q) : Boxed (W.setCell ⟨q, 0, none⟩ y) p t v := (Below.heap_setCell _ _ _ _ hne).trans h
theorem bx_below {W W' : World} {p : Nat} {t : TypeId} {v : Value} (h : Boxed W p t v) (hb : Below W.heap.size W W') : Boxed W' p t v := (hb.block p h.lt).trans h
theorem bx_grown {W w3 : World} {p B n s : Nat} {t e : TypeId} {v u : Value} {xs : List Value} {o : Obj} (h : Boxed W p t v) (hu : W.ownsRow B e s u n xs) (hne : e ≠ t) (hg : (W.alloc o).grownBy w3 u.ownBlock) : Boxed w3 p t v := (kept_of hg h.lt (own_ne hu ⟨_, h⟩ hne)).trans h

/-- the loop's state -/
def DSt (w : World) (st : List RdV) (q p : Nat) (k : Nat) (W : World) : Prop := ∃ v ds vr vw us lo hi, Below w.heap.size w W ∧ Boxed W q 25 (.slice none 0 0) ∧ Boxed W p 25 v ∧ DsTo st k ds ∧ DQ W w.heap.size v ds vr vw us lo hi

/-- how data ends -/
def DatE (w : World) (st : List RdV) (e : Ending) (w' : World) : Prop := ∃ v ds vr vw us lo hi, e = .returned (.agg #[v]) ∧ DsOf st ds ∧ DQ w' w.heap.size v ds vr vw us lo hi ∧ Below w.heap.size w w'

set_option maxHeartbeats 8000000 in
set_option maxRecDepth 1000000 in
theorem data_calls (w : World) (B R : Nat) (st : List RdV) (vR : Value) (bP : Nat) (rb mb : Nat → Nat) (DD : Nat → DataW Unit) (h : RdI w B R st vR bP rb mb DD) (hok : StOk st) :
    Calls Tryz.prog 21 #[.pointer (some ⟨R, 0, none⟩)] w (DatE w st) := by
  obtain ⟨i0, hi, hz0, hz1, hz2⟩ := info_parts Tryz.infoRe
  obtain ⟨W1, hW1⟩ : ∃ W1, W1 = (w.alloc (.cells #[.slice none 0 0] 25)).alloc (.cells #[.slice none 0 0] 25) := ⟨_, rfl⟩
  have hB1 : Below w.heap.size w W1 := by rw [hW1]; exact ((Below.refl _ _).alloc (Nat.le_refl _) _).alloc (by simp) _
  have HS1 : Hid (DSt w st w.heap.size (w.heap.size + 1) 0 W1) := hid ⟨_, [], fun _ => undef, fun _ => undef, fun _ => [], fun _ => 0, fun _ => 0, hB1, by rw [hW1]; exact (Boxed.new w _ _).alloc _, by rw [hW1]; have := Boxed.new (w.alloc (.cells #[.slice none 0 0] 25)) 25 (.slice none 0 0); rw [World.size_alloc] at this; exact this, ⟨rfl, fun i hi => absurd hi (Nat.not_lt_zero _)⟩, DQ.nil _ _⟩
  obtain ⟨aR, cR, rfl⟩ := own_shapeR h.own
  have c0 : W1.cell? ⟨R, 0, none⟩ = some (.slice aR st.length cR) := bclR hB1 (by rw [cell_of_row _ _ _ _ _ _ h.blk]; rfl)
  have H := hid h
  have HOK := hid hok
  clear hB1 h hok
  obtain ⟨n, hn⟩ : ∃ n, n = st.length := ⟨_, rfl⟩
  have HN := hid hn
  rw [← hn] at c0
  have hn50 : n ≤ 50 := by rw [hn]; exact HOK.out.1
  clear hn
  go_enter Tryz.func21, Tryz.ntmps21
  go_upto_region 2 with fail
  rw [← hW1]
  clear hW1
  go_wp2_with fail
  clear c0
  go_loopw [11] (fun t wr => ∃ i : Nat, i ≤ n ∧ t = .int .i64 i ∧ Hid (DSt w st w.heap.size (w.heap.size + 1) i wr)) (fun t _ => n - (intOf t).toNat)
  case atStart => exact ⟨0, Nat.zero_le _, rfl, HS1⟩
  case round =>
    clear HS1
    obtain ⟨i, hin, rfl, HH⟩ := hrel
    obtain ⟨v, ds, vr, vw, us, lo, hi', hB, hq, hp, hds, hD⟩ := HH.out
    have HB := hid hB
    have HQb := hid hq
    have HPb := hid hp
    have HDS := hid hds
    have HD := hid hD
    clear HH hB hq hp hds hD
    by_cases hlt : i < n
    · have i1 : (i : Int) < (n : Int) := by omega
      have hls : i < st.length := by rw [← HN.out]; exact hlt
      obtain ⟨gR, cR', eR, -⟩ := H.out.own.form (by omega)
      simp only [Value.slice.injEq, true_and] at eR
      obtain ⟨rfl, rfl⟩ := eR
      have c2 : wr.cell? ⟨gR, i, none⟩ = some (.pointer (some ⟨rb i, 0, none⟩)) := bclR HB.out (by rw [H.out.own.cellAt i (by omega), List.getElem?_map, List.getElem?_range hls]; rfl)
      have KR : Hid (∀ W, Below w.heap.size w W → Calls Tryz.prog 41 #[.pointer (some ⟨rb i, 0, none⟩)] W fun e w' => ∃ (v2 v3 : Value) (us5 : List Value) (d : RelV), e = .returned (.agg #[.string d.name, .int .i64 d.ar, v2, v3]) ∧ RelOf (st.getD i noRd) d ∧ RQ w' W.heap.size v2 us5 d.rows ∧ w'.ownsRow W.heap.size 3 1 v3 d.ws.length (d.ws.map (Value.int .i64)) ∧ (∀ j, j < d.rows.length → ApR (us5.getD j undef) v3) ∧ Below W.heap.size W w') := hid fun W hW => by
        have hI := H.out.below hW
        have hc := hI.rel i hls
        have hk := HOK.out.2 i hls
        refine (relation_calls W (rb i) (mb i) (st.getD i noRd).nm (st.getD i noRd).ar (st.getD i noRd).rs (DD i) (by rw [cell_of_row _ _ _ _ _ _ hc]; rfl) (by rw [cell_of_row _ _ _ _ _ _ hc]; rfl) (by rw [cell_of_row _ _ _ _ _ _ hc]; rfl) (hI.tps i hls) hk.1 hk.2).mono ?_
        rintro e w' ⟨v2, v3, us5, ss, rfl, h1, h2, h3, h4, h5, h6⟩
        exact ⟨v2, v3, us5, ⟨(st.getD i noRd).nm, ((st.getD i noRd).ar : Int), rowsT (st.getD i noRd).ar ss, wtsT (st.getD i noRd).rs ss⟩, rfl, ⟨rfl, rfl, ss, h1, h2, rfl, rfl⟩, h3, h4, fun j hj => h5 j (by simpa [rowsT] using hj), h6⟩
      have hlds : ds.length = i := HDS.out.1
      go_upto_region 5 with fail
      have c1 := HPb.out.cell
      go_region_law (first
        | (refine step_append_lies _ (by rfl) _ _ 23 (by rfl) w.heap.size 45 i0 (.agg #[.string ⟨#[]⟩, .int .i64 0, .slice none 0 0, .slice none 0 0]) 4 72 Tryz.underlying23 hi hz0 hz1 hz2 rfl (by decide) v _ _ (by rfl) (HD5.out.own.alloc _) ⟨w5.heap.size, 0, none⟩ 1 1 (relC d5 (.slice a25 d5.rows.length k25) (.slice a35 d5.ws.length k35)) (by rfl) rfl HNW.out HONE.out (by decide) (by unfold maxLen; omega) (by omega) (by have := HB5.out.size; simp; omega) _ rfl ?_; intro g6 cp6 w6 hown6 hgrow6 hat6 hlt6; have b6 := bx_grown HP5.out HD5.out.own (by decide) hgrow6; have c6 := b6.cell; have f6 := b6.frozen)
        | (go_simp; go_at_call 41; (with_reducible refine (KR.out _ HB.out.drew).mono ?_); rintro e w5 ⟨v25, v35, us5, d5, rfl, hro5, hrq5, how5, hap5, hb5'⟩; have hb5 := drew_below2R hb5'; have HB5 := hid (bt HB.out hb5); have HP5 := hid (bx_below HPb.out hb5); have HQ5 := hid (bx_below HQb.out hb5); have HD5 := hid (HD.out.below hb5); have HX5 := hid (And.intro hro5 (And.intro hrq5 (And.intro how5 (And.intro hap5 hb5)))); have c5 := HP5.out.cell; have c5c : ∀ ob, (w5.alloc ob).cell? ⟨w.heap.size + 1, 0, none⟩ = some v := fun ob => (HP5.out.alloc ob).cell; obtain ⟨a25, k25, e25⟩ := own_shapeR hrq5.own; obtain ⟨a35, k35, e35⟩ := own_shapeR how5; subst e25 e35; have HONE : Hid (∀ u ∈ relC d5 (.slice a25 d5.rows.length k25) (.slice a35 d5.ws.length k35), u.oneCell' = true) := hid (fun u hu => by simp [relC] at hu; rcases hu with rfl | rfl | rfl | rfl <;> rfl); have HNW : Hid (∀ j u, (relC d5 (.slice a25 d5.rows.length k25) (.slice a35 d5.ws.length k35))[j]? = some u → (w5.alloc (.cells #[.string d5.name, .int .i64 d5.ar, .slice a25 d5.rows.length k25, .slice a35 d5.ws.length k35] 45)).cell? ((⟨w5.heap.size, 0, none⟩ : Addr).add j) = some u) := hid (World.news_of_block (World.alloc_heap_new w5 _)); clear hro5 hrq5 how5 hap5 hb5')
        | fail)
      all_goals
        go_wp2_with fail
        go_roundw
        case rel =>
          obtain ⟨hro, hrq, how, hap, hb5⟩ := HX5.out
          have hN := HD5.out.push (hi' := w5.heap.size) rfl hrq how hap HB.out.size (fun j hj => (HD.out.low j hj).2) hown6 hgrow6 ⟨_, b6⟩
          simp only [hlds] at hN
          refine ⟨i + 1, by omega, by go_num, hid ⟨_, _, _, _, _, _, _, ((HB5.out.alloc HB5.out.size _).grown hgrow6 (by have := HB5.out.size; simp; omega) (fun g hg => (HD5.out.own.lt g hg).1)).setCell (by simp) _, bx_set (bx_grown HQ5.out HD5.out.own (by decide) hgrow6) (by omega), Boxed.set _ b6, HDS.out.push hro, hN⟩⟩
        case measure => simp [intOf]; omega
    · obtain rfl : i = n := by omega
      have i1 : ¬ ((i : Int) < (i : Int)) := by omega
      have HF : Hid (DsOf st ds) := hid ⟨by rw [← HN.out]; exact HDS.out.1, fun j hj => HDS.out.2 j (by rw [HN.out]; exact hj)⟩
      obtain ⟨aV, cV, rfl⟩ := own_shapeR HD.out.own
      have b1 := HQb.out.cell
      have f1 := HQb.out.frozen
      have d1 := HPb.out.cell
      have HTy : Hid (∃ cur, wr.heap[w.heap.size]? = some (.cells cur 25 (0, 0))) := hid ⟨_, HQb.out⟩
      generalize ds.length = ld at *
      go_wp2_with fail
      refine bodyPost_ret (v := .agg #[.slice aV ld cV]) (by simp [results, Tryz.results21, go_sem, b1]) rfl ?_
      exact ⟨_, ds, vr, vw, us, lo, hi', rfl, HF.out, HD.out.set HTy.out, HB.out.setCell (Nat.le_refl _) _⟩

end Go.Proofs.YtcdfoephhjacdaaGreatDoor

/-
  The lines of a text, one after another.
-/
namespace Go.Proofs.YtcdfoephhjacdaaGreatDoor
open Go.RowKit

/-- the state behind k lines -/
def prT (ls : List (List UInt8)) : Nat → Option (List RdV)
  | 0 => some []
  | k + 1 => (prT ls k).bind fun st => takA st (ls.getD k [])

theorem stOk_nil : StOk [] := ⟨Nat.zero_le _, fun _ hi => absurd hi (Nat.not_lt_zero _)⟩
theorem takA_ok {st st' : List RdV} {l : List UInt8} (hs : StOk st) (h : takA st l = some st') : StOk st' := by
  unfold takA at h
  split at h
  · cases h; exact hs
  · dsimp only at h
    split at h
    · split at h
      · rename_i hd
        cases h
        unfold decA at hd
        simp only [Bool.and_eq_true, decide_eq_true_eq, Bool.not_eq_true', decide_eq_false_iff_not] at hd
        obtain ⟨⟨⟨⟨⟨-, h50⟩, -⟩, -⟩, har⟩, -⟩ := hd
        unfold arityB at har
        simp only [Bool.and_eq_true, decide_eq_true_eq] at har
        refine ⟨by rw [List.length_append, List.length_singleton]; have := hs.1; omega, fun i hi => ?_⟩
        rw [List.length_append, List.length_singleton] at hi
        by_cases e : i < st.length
        · rw [List.getD_eq_getElem?_getD, List.getElem?_append_left e, ← List.getD_eq_getElem?_getD]
          exact hs.2 i e
        · obtain rfl : i = st.length := by omega
          rw [List.getD_eq_getElem?_getD, List.getElem?_append_right (Nat.le_refl _), Nat.sub_self]
          exact ⟨Nat.zero_le _, by show 1 ≤ numN _ 3; omega, by show numN _ 3 ≤ 3; omega⟩
      · cases h
    · split at h
      · rename_i hd
        cases h
        simp only [Bool.and_eq_true] at hd
        obtain ⟨hk, hsto⟩ := hd
        have hpl := (plcP_of hk).1
        rw [List.length_map] at hpl
        unfold stoA at hsto
        simp only [Bool.and_eq_true, Bool.or_eq_true, decide_eq_true_eq, Bool.not_eq_true', decide_eq_false_iff_not] at hsto
        obtain ⟨-, hfull⟩ := hsto
        refine ⟨by rw [List.length_set]; exact hs.1, fun i hi => ?_⟩
        rw [List.length_set] at hi
        generalize plcP (st.map RdV.nm) ⟨((spl 32 l).getD 0 []).toArray⟩ = p at *
        by_cases e : i = p
        · subst e
          rw [getD_set_same hpl]
          have h3 := hs.2 i hpl
          refine ⟨?_, h3.2⟩
          show (updT _ _ _).length ≤ 2000
          rw [updT_len]
          split
          · exact h3.1
          · rename_i hno
            rcases hfull with hf | hf
            · exact absurd hf hno
            · have := h3.1; omega
        · rw [getD_set_other e]
          exact hs.2 i hi
      · cases h
theorem prT_ok {ls : List (List UInt8)} : ∀ {k : Nat} {st : List RdV}, prT ls k = some st → StOk st
  | 0, st, h => by cases h; exact stOk_nil
  | k + 1, st, h => by
    rw [prT, Option.bind_eq_some_iff] at h
    obtain ⟨st0, h0, h1⟩ := h
    exact takA_ok (prT_ok h0) h1

/-- how impl.ParseData ends -/
def ParE (w : World) (l : List UInt8) (e : Ending) (w' : World) : Prop := Below w.heap.size w w' ∧
  ((60000 < l.length ∧ e = .returned (.tuple #[.agg #[.slice none 0 0], .int .i64 (-1)])) ∨
   (l.length ≤ 60000 ∧ ∃ k, k < (spl 10 l).length ∧ (∃ st, prT (spl 10 l) k = some st) ∧ prT (spl 10 l) (k + 1) = none ∧ e = .returned (.tuple #[.agg #[.slice none 0 0], .int .i64 ((k : Int) + 1)])) ∨
   (l.length ≤ 60000 ∧ ∃ st, prT (spl 10 l) (spl 10 l).length = some st ∧ ∃ v ds vr vw us lo hi, e = .returned (.tuple #[.agg #[v], .int .i64 0]) ∧ DsOf st ds ∧ DQ w' w.heap.size v ds vr vw us lo hi))

end Go.Proofs.YtcdfoephhjacdaaGreatDoor

/-
  impl.ParseData.
-/
namespace Go.Proofs.YtcdfoephhjacdaaGreatDoor
open Go.RowKit Go.Maps

theorem RdI.start (W : World) (B : Nat) (hB : B ≤ W.heap.size) (f g : Nat → Nat) (h : Nat → DataW Unit) : RdI ((W.alloc (.map #[] 0)).alloc (.cells #[.slice none 0 0, .map (some W.heap.size)] 62)) B (W.heap.size + 1) [] (.slice none 0 0) W.heap.size f g h := by
  have e := World.alloc_heap_new (W.alloc (.map #[] 0)) (.cells #[.slice none 0 0, .map (some W.heap.size)] 62)
  rw [World.size_alloc] at e
  exact ⟨e, World.ownsRow_nil _ _ _ _, (PlcM.start W).bel ((Below.refl _ _).alloc (Nat.le_refl _) _), fun _ hi => absurd hi (Nat.not_lt_zero _), fun _ hi => absurd hi (Nat.not_lt_zero _), ⟨by omega, hB, fun _ hi => absurd hi (Nat.not_lt_zero _)⟩, fun _ hi => absurd hi (Nat.not_lt_zero _)⟩

/-- the loop's state -/
def PSt (W1 : World) (B R bP G : Nat) (ls : List (List UInt8)) (i : Nat) (W : World) : Prop := ∃ st vR rb mb DD, prT ls i = some st ∧ RdI W B R st vR bP rb mb DD ∧ Below B W1 W ∧ W.heap[G]? = some (.cells (ls.map tx).toArray 9 (0, 0))

set_option maxHeartbeats 8000000 in
set_option maxRecDepth 1000000 in
theorem iParse_calls (w : World) (s : ByteArray) (m : Int) (hm : w.cell? ⟨3, 0, none⟩ = some (.int .i64 m)) (hs : s.size ≤ 1099511627776) :
    Calls Tryz.prog 6 #[.string s] w (ParE w s.data.toList) := by
  have hmm := @run_makeMap Tryz.prog
  have hlen : s.data.toList.length = s.size := by simp
  obtain ⟨W1, hW1⟩ : ∃ W1, W1 = w.alloc (.cells #[.slice none 0 0] 25) := ⟨_, rfl⟩
  have HB1 : Hid (Below w.heap.size w W1) := hid (by rw [hW1]; exact (Below.refl _ _).alloc (Nat.le_refl _) _)
  have HX1 : Hid (Boxed W1 w.heap.size 25 (.slice none 0 0)) := hid (by rw [hW1]; exact Boxed.new _ _ _)
  have hs1 : W1.heap.size = w.heap.size + 1 := by rw [hW1]; simp
  have HS1 := hid hs1
  have b1 := HX1.out.cell
  have f1 := HX1.out.frozen
  by_cases hbig : 60000 < s.size
  · have q1 : (60000 : Int) < (s.size : Int) := by omega
    have HF : Hid (∀ w', Below w.heap.size w w' → ParE w s.data.toList (.returned (.tuple #[.agg #[.slice none 0 0], .int .i64 (-1)])) w') := hid fun w' hb => ⟨hb, Or.inl ⟨by omega, rfl⟩⟩
    clear hlen hbig hs1 hmm
    go_enter Tryz.func6, Tryz.ntmps6
    go_upto_region 1 with fail
    rw [← hW1]
    clear hW1
    go_wp2_with fail
    refine bodyPost_ret (v := .tuple #[.agg #[.slice none 0 0], .int .i64 (-1)]) (by simp [results, Tryz.results6, go_sem, b1]) rfl ?_
    exact HF.out _ (HB1.out.setCell (Nat.le_refl _) _)
  · have q1 : ¬ ((60000 : Int) < (s.size : Int)) := by omega
    have hsm : s.size ≤ 60000 := by omega
    obtain ⟨ls, hls⟩ : ∃ ls, ls = spl 10 s.data.toList := ⟨_, rfl⟩
    obtain ⟨W2, hW2⟩ : ∃ W2, W2 = (W1.alloc (.map #[] 0)).alloc (.cells #[.slice none 0 0, .map (some W1.heap.size)] 62) := ⟨_, rfl⟩
    have hB2 : Below W1.heap.size W1 W2 := by rw [hW2]; exact ((Below.refl _ _).alloc (Nat.le_refl _) _).alloc (by simp) _
    have HR2 : Hid (RdI W2 W1.heap.size (W1.heap.size + 1) [] (.slice none 0 0) W1.heap.size (fun _ => 0) (fun _ => 0) (fun _ => .map [])) := hid (by rw [hW2]; exact RdI.start W1 _ (Nat.le_refl _) _ _ _)
    have HB2 := hid hB2
    have KS := hid (Tryz.c_Split s 10 m W2 (by omega) (bclR (bt HB1.out hB2) hm))
    rw [← hls] at KS
    have HP0 : Hid (PSt W1 W1.heap.size (W1.heap.size + 1) W1.heap.size W2.heap.size ls 0 (W2.alloc (.cells (ls.map tx).toArray 9))) := hid ⟨[], _, _, _, _, rfl, HR2.out.below ((Below.refl _ _).alloc (Nat.le_refl _) _), bt hB2 ((Below.refl _ _).alloc (Nat.le_refl _) _), World.alloc_heap_new _ _⟩
    have hlz : ls.length ≤ 60001 := by rw [hls]; have := spl_le 10 s.data.toList; omega
    have HLl : Hid (∀ j, (ls.getD j []).length ≤ 60000) := hid fun j => by rw [hls]; have := spl_len 10 s.data.toList j; omega
    have HM := hid hm
    have HFn : Hid (∀ k w', k < ls.length → (∃ st, prT ls k = some st) → prT ls (k + 1) = none → Below w.heap.size w w' → ParE w s.data.toList (.returned (.tuple #[.agg #[.slice none 0 0], .int .i64 ((k : Int) + 1)])) w') := hid fun k w' hk h1 h2 hb => ⟨hb, Or.inr (Or.inl ⟨by omega, k, by rw [← hls]; exact hk, by rw [← hls]; exact h1, by rw [← hls]; exact h2, rfl⟩)⟩
    have HFy : Hid (∀ v w' st ds vr vw us lo hi, prT ls ls.length = some st → DsOf st ds → DQ w' w.heap.size v ds vr vw us lo hi → Below w.heap.size w w' → ParE w s.data.toList (.returned (.tuple #[.agg #[v], .int .i64 0])) w') := hid fun v w' st ds vr vw us lo hi h1 h2 h3 hb => ⟨hb, Or.inr (Or.inr ⟨by omega, st, by rw [← hls]; exact h1, v, ds, vr, vw, us, lo, hi, rfl, h2, h3⟩)⟩
    clear hlen hbig hs1 hB2 HR2 hm hls hsm
    go_enter Tryz.func6, Tryz.ntmps6
    go_upto_region 1 with fail
    rw [← hW1]
    clear hW1
    go_upto_region 4 with fail
    rw [← hW2]
    clear hW2
    obtain ⟨n, hn⟩ : ∃ n, n = ls.length := ⟨_, rfl⟩
    have HN := hid hn
    rw [← hn] at KS hlz
    clear hn
    obtain ⟨P, hP⟩ : ∃ P, P = W1.heap.size := ⟨_, rfl⟩
    have HPe := hid hP
    rw [← hP] at HP0 ⊢
    clear hP
    go_wp2_with (first | (go_at_call 19; refine KS.out.mono ?_; rintro e w3 ⟨rfl, rfl⟩) | fail)
    clear KS
    obtain ⟨G, hG⟩ : ∃ G, G = W2.heap.size := ⟨_, rfl⟩
    rw [← hG] at HP0 ⊢
    clear hG
    go_loopw [16] (fun t wr => ∃ i : Nat, i ≤ n ∧ t = .int .i64 i ∧ Hid (PSt W1 P (P + 1) P G ls i wr)) (fun t _ => n - (intOf t).toNat)
    case atStart => exact ⟨0, Nat.zero_le _, rfl, HP0⟩
    case round =>
      clear HP0
      obtain ⟨i, hin, rfl, HH⟩ := hrel
      obtain ⟨st, vR, rb, mb, DD, hst, hI, hB, hL⟩ := HH.out
      have HST := hid hst
      have HI := hid hI
      have HB := hid hB
      have HL := hid hL
      clear HH hst hI hB hL
      have HBw : Hid (Below w.heap.size w wr) := hid (by
        have := HB.out
        rw [HPe.out] at this
        exact bt HB1.out this)
      have b2 : wr.cell? ⟨w.heap.size, 0, none⟩ = some (.slice none 0 0) := (HB.out.cell (p := ⟨w.heap.size, 0, none⟩) (by have := HPe.out; have := HS1.out; show w.heap.size < P; omega)).trans b1
      have HBx : Hid (wr.heap[w.heap.size]? = W1.heap[w.heap.size]?) := hid (HB.out.block _ (by have := HPe.out; have := HS1.out; omega))
      have f2 : wr.frozen? ⟨w.heap.size, 0, none⟩ = false := by rw [World.frozen?_of_block HBx.out]; exact f1
      by_cases hlt : i < n
      · have i1 : (i : Int) < (n : Int) := by omega
        have hil : i < ls.length := by rw [← HN.out]; exact hlt
        have cl : wr.cell? ⟨G, i, none⟩ = some (.string ⟨(ls.getD i []).toArray⟩) := by
          rw [cell_of_row _ _ _ _ _ _ HL.out]
          simp only [List.getElem?_toArray, List.getElem?_map, List.getElem?_eq_getElem hil, Option.map_some, List.getD_eq_getElem?_getD, Option.getD_some]
          rfl
        have KT := hid (take_calls wr P (P + 1) st vR P rb mb DD HI.out (prT_ok HST.out) ⟨(ls.getD i []).toArray⟩ (by show (ls.getD i []).toArray.size ≤ _; rw [List.size_toArray]; have := HLl.out i; omega) m (bclR HBw.out HM.out))
        have HNx : Hid (prT ls (i + 1) = takA st (ls.getD i [])) := hid (by rw [prT, HST.out]; rfl)
        rw [show (⟨(ls.getD i []).toArray⟩ : ByteArray).data.toList = ls.getD i [] from by simp] at KT
        unfold TakE at KT
        cases hta : takA st (ls.getD i []) with
        | none =>
          rw [hta] at KT HNx
          clear hta
          generalize ls.getD i [] = li at *
          go_wp2_with (first | (go_at_call 20; refine KT.out.mono ?_; rintro e w5 ⟨rfl, hb5, hks5, -⟩; have b5 : w5.cell? ⟨w.heap.size, 0, none⟩ = some (.slice none 0 0) := ((hb5.cell (p := ⟨w.heap.size, 0, none⟩) (by have := HPe.out; have := HS1.out; show w.heap.size < P; omega)).trans b2); have f5 : w5.frozen? ⟨w.heap.size, 0, none⟩ = false := (by rw [World.frozen?_of_block (hb5.block _ (by have := HPe.out; have := HS1.out; omega : w.heap.size < P))]; exact f2)) | fail)
          refine bodyPost_ret (v := .tuple #[.agg #[.slice none 0 0], .int .i64 ((i : Int) + 1)]) (by simp [results, Tryz.results6, go_sem, b5]) rfl ?_
          exact HFn.out i _ hil ⟨st, HST.out⟩ HNx.out ((HBw.out.trans (hb5.mono (by have := HPe.out; have := HS1.out; omega))).setCell (Nat.le_refl _) _)
        | some st' =>
          rw [hta] at KT HNx
          clear hta
          generalize ls.getD i [] = li at *
          go_wp2_with (first | (go_at_call 20; refine KT.out.mono ?_; rintro e w5 ⟨rfl, hb5, hks5, hr5⟩) | fail)
          go_roundw
          case rel =>
            obtain ⟨vR', rb', mb', DD', hr⟩ := hr5 st' rfl
            exact ⟨i + 1, by omega, by go_num, hid ⟨st', vR', rb', mb', DD', HNx.out, hr, HB.out.trans hb5, (hks5 G _ HL.out).trans HL.out⟩⟩
          case measure => simp [intOf]; omega
      · obtain rfl : i = n := by omega
        have i1 : ¬ ((i : Int) < (i : Int)) := by omega
        have KD := hid (data_calls wr P (P + 1) st vR P rb mb DD HI.out (prT_ok HST.out))
        go_wp2_with (first | (go_at_call 21; refine KD.out.mono ?_; rintro e w5 ⟨v5, ds5, vr5, vw5, us5, lo5, hi5, rfl, hds5, hdq5, hb5⟩; have HX5 := hid (And.intro hds5 (And.intro hdq5 hb5)); have b5 := bclR hb5 b2; have f5 : w5.frozen? ⟨w.heap.size, 0, none⟩ = false := (by rw [World.frozen?_of_block (hb5.block _ (World.block_lt_of_cell? wr _ b2))]; exact f2); obtain ⟨a5, c5, e5⟩ := own_shapeR hdq5.own; subst e5; clear hds5 hdq5 hb5) | fail)
        refine bodyPost_ret (v := .tuple #[.agg #[.slice a5 ds5.length c5], .int .i64 0]) (by simp [results, Tryz.results6, go_sem, b5]) rfl ?_
        have hty : ∃ cur, w5.heap[w.heap.size]? = some (.cells cur 25 (0, 0)) := ⟨_, ((HX5.out.2.2.block _ (World.block_lt_of_cell? wr _ b2)).trans HBx.out).trans HX1.out⟩
        refine HFy.out _ _ st ds5 vr5 vw5 us5 lo5 hi5 (by rw [← HN.out]; exact HST.out) HX5.out.1 ?_ ((bt HBw.out HX5.out.2.2).setCell (Nat.le_refl _) _)
        exact (HX5.out.2.1.base (Nat.le_trans (Nat.le_refl _) HBw.out.size)).set hty

end Go.Proofs.YtcdfoephhjacdaaGreatDoor
