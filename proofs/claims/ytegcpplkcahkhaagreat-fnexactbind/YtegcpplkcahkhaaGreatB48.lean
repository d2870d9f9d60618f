import Derived.Test.YtegcpplkcahkhaaGreatB43
/-
  impl.Bind.
-/
namespace Go.Proofs.YtegcpplkcahkhaaGreat
open Go.RowKit Go.Maps

theorem checkE_nil {c p : Int} {x : Value} (h : CheckE c p x) : (c = 0 ∧ x = .nilIface) ∨ (c ≠ 0 ∧ ∃ t y, x = .iface t y) := by
  rcases h with ⟨h, -, e⟩ | ⟨h, e | ⟨t, e⟩⟩
  · exact Or.inl ⟨h, e⟩
  · exact Or.inr ⟨h, _, _, e⟩
  · exact Or.inr ⟨h, _, _, e⟩

set_option maxHeartbeats 16000000 in
set_option maxRecDepth 1000000 in
theorem iBind_calls (w : World) (v vh va : Value) (ds : List RelV) (q : QV) (h : IRelS w v ds) (hr : OkRels ds) (hi : IQ w vh va q) (hq : OkQ q) (hcap : ∀ a n cap, vh = .slice a n cap → n ≤ cap) :
    Calls Tryz.prog 9 #[.agg #[v], .agg #[.string q.name, vh, .int .i64 q.ring, va]] w (BndE w ds q) := by
  obtain ⟨iT, hj, hz0, hz1, hz2⟩ := info_parts Tryz.infoTb
  obtain ⟨W0, hW0⟩ : ∃ W, W = (w.alloc (.cells #[v] 35)).alloc (.cells #[.string q.name, vh, .int .i64 q.ring, va] 39) := ⟨_, rfl⟩
  have HB0 : Hid (Below w.heap.size w W0) := hid (by rw [hW0]; exact ((Below.refl _ _).alloc (Nat.le_refl _) _).alloc (by simp) _)
  have HD0 : Hid (W0.cell? ⟨w.heap.size, 0, none⟩ = some v) := hid (by
    rw [hW0]
    refine bcl' ((Below.refl _ _).alloc (Nat.le_refl _) _) ?_
    rw [World.cell?_alloc_at _ _ _ _ rfl]; rfl)
  have HQc : Hid (W0.cell? ⟨w.heap.size + 1, 0, none⟩ = some (.string q.name) ∧ W0.cell? ⟨w.heap.size + 1, 1, none⟩ = some vh ∧ W0.cell? ⟨w.heap.size + 1, 2, none⟩ = some (.int .i64 q.ring) ∧ W0.cell? ⟨w.heap.size + 1, 3, none⟩ = some va) := hid (by
    rw [hW0]
    refine ⟨?_, ?_, ?_, ?_⟩ <;> (rw [World.cell?_alloc_at _ _ _ _ (by simp)]; rfl))
  have KC := hid (check_calls W0 v vh va ds q (h.below HB0.out) hr (hi.below HB0.out) hq hcap)
  have KN : Hid (∀ W, Below W0.heap.size W0 W → Calls Tryz.prog 30 #[.agg #[.string q.name, vh, .int .i64 q.ring, va]] W fun e w' => ∃ b, e = .returned (.map (some b)) ∧ Numb w' b (VL q.atoms q.atoms.length) ∧ W.heap.size < b ∧ b < w'.heap.size ∧ Below W.heap.size W w') := hid fun W hW => variableNumbers_calls W vh va q (hi.below (bt HB0.out hW)) hq
  have KRp : Hid (∀ W s, Below W0.heap.size W0 W → Calls Tryz.prog 31 #[.agg #[v], .string s] W fun e w' => ∃ z : Int, e = .returned (.int .i64 z) ∧ RelIx ds s z ∧ Below W.heap.size W w') := hid fun W s hW => relationPlace_calls W v ds s (h.below (bt HB0.out hW)) (by have := hr.1; omega)
  have HBt : Hid ((checkP ds q).1 = 0 → ∀ j k : Nat, j < q.atoms.length → RelIx ds (q.atoms.getD j noAt).1 (k : Int) → k < ds.length ∧ BtH (VL q.atoms q.atoms.length) (q.atoms.getD j noAt).2 (ds.getD k noRel)) := hid fun hc j k hj hk => btH_of hc hq hj hk
  have HNo : Hid ((checkP ds q).1 = 0 → ∀ j z, j < q.atoms.length → RelIx ds (q.atoms.getD j noAt).1 z → ∃ k : Nat, z = k) := hid fun hc j z hj hk => by
    have h0 := (checkP_zero hc).2.2.2.1 j hj
    rcases hk with ⟨rfl, hn⟩ | ⟨k, e, -⟩
    · rw [RelIx.code_no (Or.inl ⟨rfl, hn⟩)] at h0; cases h0
    · exact ⟨k, e⟩
  have h7 : (checkP ds q).1 = 0 → q.atoms.length ≤ 7 := fun hc => (checkP_zero hc).2.2.1
  have HI := hid h
  have HIa := hid hi.atoms
  obtain ⟨a0, k0, e0, -⟩ := h
  obtain ⟨a1, k1, e1, -⟩ := hi.head
  obtain ⟨a2, k2, e2, -⟩ := hi.atoms
  subst e0 e1 e2
  clear hcap hr hq hi
  have HC2 : Hid (∀ W, Below W0.heap.size W0 W → ∀ j, j < q.atoms.length → ∃ b o va', a2 = some ⟨b, o, none⟩ ∧ W.cell? ⟨b, o + j * 2, none⟩ = some (.string (q.atoms.getD j noAt).1) ∧ W.cell? ⟨b, o + j * 2 + 1, none⟩ = some va' ∧ ITm W va' (q.atoms.getD j noAt).2) := hid fun W hW j hj => by
    obtain ⟨a', c', e', h'⟩ := HIa.out.below (bt HB0.out hW)
    simp only [Value.slice.injEq] at e'
    obtain ⟨rfl, -, -⟩ := e'
    rcases h' with h0 | ⟨b, o, rfl, h⟩
    · omega
    · obtain ⟨u, d0, d1, d2⟩ := h j hj
      exact ⟨b, o, u, rfl, d0, d1, d2⟩
  have HC0 : Hid (∀ W, Below W0.heap.size W0 W → ∀ k, k < ds.length → ∃ b o vr vw, a0 = some ⟨b, o, none⟩ ∧ W.cell? ⟨b, o + k * 4, none⟩ = some (.string (ds.getD k noRel).name) ∧ W.cell? ⟨b, o + k * 4 + 1, none⟩ = some (.int .i64 (ds.getD k noRel).ar) ∧ W.cell? ⟨b, o + k * 4 + 2, none⟩ = some vr ∧ W.cell? ⟨b, o + k * 4 + 3, none⟩ = some vw ∧ IRel W vr vw (ds.getD k noRel)) := hid fun W hW k hk => by
    obtain ⟨a', c', e', h'⟩ := HI.out.below (bt HB0.out hW)
    simp only [Value.slice.injEq] at e'
    obtain ⟨rfl, -, -⟩ := e'
    rcases h' with h0 | ⟨b, o, rfl, h⟩
    · omega
    · obtain ⟨vr, vw, d⟩ := h k hk
      exact ⟨b, o, vr, vw, rfl, d⟩
  clear HI HIa
  unfold BndE
  generalize hV : VL q.atoms q.atoms.length = V at *
  generalize hcc : (checkP ds q).1 = cc at *
  generalize (checkP ds q).2 = pp at *
  obtain ⟨qc0, qc1, qc2, qc3⟩ := HQc.out
  have d0 := HD0.out
  generalize q.name = nm at *
  generalize q.ring = rg at *
  generalize q.head.length = lh at *
  generalize q.atoms = ats at *
  generalize ats.length = n at *
  generalize ds.length = nd at *
  go_enter Tryz.func9, Tryz.ntmps9
  go_upto_region 1 with fail
  rw [← hW0]
  clear hW0
  go_wp2_with fail
  refine KC.out.mono ?_
  rintro e w1 ⟨x, rfl, hx, hb1⟩
  have HB1 := hid hb1
  clear KC d0 qc0 qc1 qc2 qc3
  rcases checkE_nil hx with ⟨hc0, rfl⟩ | ⟨hc0, tx, yx, rfl⟩
  · subst hc0
    have q0 := bcl' hb1 HQc.out.1
    have q1 := bcl' hb1 HQc.out.2.1
    have q2 := bcl' hb1 HQc.out.2.2.1
    have q3 := bcl' hb1 HQc.out.2.2.2
    have KN1 := hid (KN.out w1 hb1)
    clear hb1 hx
    go_upto_region 4 with (first | (go_at_call 30; refine KN1.out.mono ?_; rintro e W2 ⟨nb, rfl, hnb, -, -, hb2⟩) | fail)
    have HNb := hid hnb
    have HB2 := hid (bt HB1.out hb2)
    have c3 := bcl' hb2 q3
    have hn7 := h7 (by simp)
    clear hnb hb2 q0 q1 q2 q3 KN1 KN
    have m1 : ∀ W : World, Sem.run Tryz.prog (Instr.makeSlice 31 (.int .i64 0) (.int .i64 (n : Int))) W = .ok (.slice (some ⟨W.heap.size, 0, none⟩) 0 n) (W.alloc (.cells (madeCells (Value.agg #[.slice none 0 0, .slice none 0 0, .slice none 0 0]).cells (n * 3)) 60)) := fun W => by
      have := run_makeSlice (P := Tryz.prog) W 31 60 iT _ Tryz.underlying31 hj hz0 .i64 .i64 0 (n : Int) (by omega) (by omega) (by rw [hz1]; omega) (by rw [hz2]; omega) (by omega)
      rw [hz1] at this
      simpa using this
    have s1 : (madeCells (Value.agg #[.slice none 0 0, .slice none 0 0, .slice none 0 0]).cells (n * 3)).size = n * 3 := size_madeCells _ _
    generalize madeCells (Value.agg #[.slice none 0 0, .slice none 0 0, .slice none 0 0]).cells (n * 3) = M1 at *
    have HS0 : Hid (Below W2.heap.size W2 (W2.alloc (.cells M1 60)) ∧ TBs (W2.alloc (.cells M1 60)) W2.heap.size (.slice (some ⟨W2.heap.size, 0, none⟩) 0 n) []) := hid ⟨(Below.refl _ _).alloc (Nat.le_refl _) _, ⟨World.ownsRow_made W2 M1 n (Nat.le_refl _) (by unfold maxLen; omega) s1, fun t ht => by simp at ht, List.Pairwise.nil⟩⟩
    have c3' : (W2.alloc (.cells M1 60)).cell? ⟨w.heap.size + 1, 3, none⟩ = some (.slice a2 n k2) := bcl' HS0.out.1 c3
    go_wp2_with fail
    clear m1 c3 c3' s1
    go_loopw [6, 24] (fun x t wr => ∃ (j : Nat) (vT : Value) (tl : List TbR), j ≤ n ∧ t = .int .i64 j ∧ vT = x ∧ tl.length = j ∧ Hid (Below W2.heap.size W2 wr ∧ TBs wr W2.heap.size vT tl ∧ ∀ i, i < tl.length → TabOf ds V (ats.getD i noAt) (tl.getD i noTb))) (fun _ t _ => n - (intOf t).toNat)
    case atStart => exact ⟨0, _, [], Nat.zero_le _, rfl, rfl, rfl, hid ⟨HS0.out.1, HS0.out.2, fun i hi => by simp at hi⟩⟩
    case round =>
      clear HS0
      obtain ⟨j, vT, tl, hjn, rfl, rfl, hlen, HG⟩ := hrel
      by_cases hlt : j < n
      · have i1 : (j : Int) < (n : Int) := by omega
        have HBr := hid (bt HB2.out HG.out.1)
        obtain ⟨b, o, va', ea, g0, g1, hit⟩ := HC2.out wr HBr.out j hlt
        subst ea
        have HIt := hid hit
        obtain ⟨at', ct', et, -⟩ := hit
        subst et
        have HBtj := hid (HBt.out (by simp) j)
        have HNoj := hid (HNo.out (by simp) j)
        generalize hat : ats.getD j noAt = aa at *
        obtain ⟨rel, ts⟩ := aa
        dsimp only at *
        generalize ts.length = nt at *
        go_upto_region 8 with fail
        obtain ⟨W5, hW5⟩ : ∃ W5, W5 = wr.alloc (.cells #[.string rel, .slice at' nt ct'] 56) := ⟨_, rfl⟩
        have t0 : W5.cell? ⟨wr.heap.size, 0, none⟩ = some (.string rel) := by rw [hW5, World.cell?_alloc_at _ _ _ _ rfl]; rfl
        have t1 : W5.cell? ⟨wr.heap.size, 1, none⟩ = some (.slice at' nt ct') := by rw [hW5, World.cell?_alloc_at _ _ _ _ rfl]; rfl
        have HA5 : Hid (Below wr.heap.size wr W5) := hid (by rw [hW5]; exact (Below.refl _ _).alloc (Nat.le_refl _) _)
        rw [← hW5]
        clear hW5 g0 g1
        have HB5 := hid (bt HBr.out HA5.out)
        have d5 := bcl' HB5.out HD0.out
        have t0a : ∀ o', (W5.alloc o').cell? ⟨wr.heap.size, 0, none⟩ = some (.string rel) := fun o' => bcl' ((Below.refl _ _).alloc (Nat.le_refl _) o') t0
        have d5a : ∀ o', (W5.alloc o').cell? ⟨w.heap.size, 0, none⟩ = some (.slice a0 nd k0) := fun o' => bcl' ((Below.refl _ _).alloc (Nat.le_refl _) o') d5
        have HD5 : Hid (∀ w7, Below W5.heap.size W5 w7 → w7.cell? ⟨w.heap.size, 0, none⟩ = some (.slice a0 nd k0) ∧ ∀ o', (w7.alloc o').cell? ⟨w.heap.size, 0, none⟩ = some (.slice a0 nd k0)) := hid fun w7 h => ⟨bcl' h d5, fun o' => bcl' ((Below.refl _ _).alloc (Nat.le_refl _) o') (bcl' h d5)⟩
        have HC5 : Hid (∀ k, k < nd → ∃ b o ar kr lr aw kw lw, a0 = some ⟨b, o, none⟩ ∧ (∀ W, Below W5.heap.size W5 W → W.cell? ⟨b, o + k * 4, none⟩ = some (.string (ds.getD k noRel).name) ∧ W.cell? ⟨b, o + k * 4 + 1, none⟩ = some (.int .i64 (ds.getD k noRel).ar) ∧ W.cell? ⟨b, o + k * 4 + 2, none⟩ = some (.slice ar lr kr) ∧ W.cell? ⟨b, o + k * 4 + 3, none⟩ = some (.slice aw lw kw) ∧ IRel W (.slice ar lr kr) (.slice aw lw kw) (ds.getD k noRel))) := hid fun k hk => by
          obtain ⟨b, o, vr, vw, ea, y0, y1, y2, y3, y4⟩ := HC0.out W5 HB5.out k hk
          have y4' := y4
          obtain ⟨ar, kr, er, -⟩ := y4'.rows
          obtain ⟨aw, kw, ew, -⟩ := y4'.ws
          subst er ew
          exact ⟨b, o, ar, kr, _, aw, kw, _, ea, fun W hW => ⟨bcl' hW y0, bcl' hW y1, bcl' hW y2, bcl' hW y3, y4.below hW⟩⟩
        have KR1 : Hid (Calls Tryz.prog 31 #[.agg #[.slice a0 nd k0], .string rel] W5.drew fun e w' => ∃ z : Int, e = .returned (.int .i64 z) ∧ RelIx ds rel z ∧ Below W5.heap.size W5 w') := hid ((KRp.out W5.drew rel HB5.out.drew).mono fun e w' ⟨z, h1, h2, h3⟩ => ⟨z, h1, h2, ⟨h3.os, h3.tape, h3.output, h3.size, h3.block⟩⟩)
        have KR2 : Hid (Calls Tryz.prog 31 #[.agg #[.slice a0 nd k0], .string rel] (W5.alloc (.cells #[.string ⟨#[]⟩, .int .i64 0, .slice none 0 0, .slice none 0 0] 65)).drew fun e w' => ∃ z : Int, e = .returned (.int .i64 z) ∧ RelIx ds rel z ∧ Below W5.heap.size W5 w' ∧ RX w' W5.heap.size (.string ⟨#[]⟩) (.int .i64 0) (.slice none 0 0) (.slice none 0 0)) := hid ((KRp.out _ rel (bt HB5.out ((Below.refl _ _).alloc (Nat.le_refl _) _)).drew).mono fun e w' ⟨z, h1, h2, h3⟩ => by
          have h3' : Below (W5.alloc (.cells #[.string ⟨#[]⟩, .int .i64 0, .slice none 0 0, .slice none 0 0] 65)).heap.size (W5.alloc (.cells #[.string ⟨#[]⟩, .int .i64 0, .slice none 0 0, .slice none 0 0] 65)) w' := ⟨h3.os, h3.tape, h3.output, h3.size, h3.block⟩
          exact ⟨z, h1, h2, bt ((Below.refl _ _).alloc (Nat.le_refl _) _) h3', (RX.made W5 _ _ _ _).below h3'⟩)
        have HG5 := hid (HG.out.2.1.below HA5.out)
        have HBW5 := hid (bt HG.out.1 HA5.out)
        have HIt5 := hid (HIt.out.below HA5.out)
        have HTab := hid HG.out.2.2
        clear HA5 HG HIt HBr
        generalize wr.heap.size = pa at *
        go_cut [9] from 28 to 36 (fun x wx => ∃ P, x = .pointer (some ⟨P, 0, none⟩) ∧ Hid (Below W5.heap.size W5 wx ∧ ∃ (k : Nat) (ar : Option Addr) (lr kr : Nat) (aw : Option Addr) (lw kw : Nat), RelIx ds rel (k : Int) ∧ RX wx P (.string (ds.getD k noRel).name) (.int .i64 (ds.getD k noRel).ar) (.slice ar lr kr) (.slice aw lw kw) ∧ IRel wx (.slice ar lr kr) (.slice aw lw kw) (ds.getD k noRel)))
        case first =>
          go_region_law (first
            | (go_simp; go_at_call 31; (with_reducible refine KR1.out.mono ?_); rintro e w7 ⟨z, rfl, hz, hb7⟩; obtain ⟨k, rfl⟩ := HNoj.out z hlt hz; have HK := hid hz; have HB7 := hid hb7; obtain ⟨hkd, -⟩ := HBtj.out k hlt hz; obtain ⟨b0, o0, ar', kr', lr', aw', kw', lw', ea0, hall⟩ := HC5.out k hkd; have HAll := hid hall; obtain ⟨y0, y1, y2, y3, -⟩ := hall w7 hb7; have z0 : ∀ o', (w7.alloc o').cell? ⟨b0, o0 + k * 4, none⟩ = some (.string (ds.getD k noRel).name) := (fun o' => (hall _ (hb7.alloc hb7.size o')).1); have z1 : ∀ o', (w7.alloc o').cell? ⟨b0, o0 + k * 4 + 1, none⟩ = some (.int .i64 (ds.getD k noRel).ar) := (fun o' => (hall _ (hb7.alloc hb7.size o')).2.1); have z2 : ∀ o', (w7.alloc o').cell? ⟨b0, o0 + k * 4 + 2, none⟩ = some (.slice ar' lr' kr') := (fun o' => (hall _ (hb7.alloc hb7.size o')).2.2.1); have z3 : ∀ o', (w7.alloc o').cell? ⟨b0, o0 + k * 4 + 3, none⟩ = some (.slice aw' lw' kw') := (fun o' => (hall _ (hb7.alloc hb7.size o')).2.2.2.1); obtain ⟨d7, d7a⟩ := HD5.out w7 hb7; have hk1 : (k : Int) < (nd : Int) := (by omega); clear hb7 hz hall KR1 KR2; subst ea0)
            | (go_simp; go_at_call 31; (with_reducible refine KR2.out.mono ?_); rintro e w7 ⟨z, rfl, hz, hb7, hx7⟩; obtain ⟨k, rfl⟩ := HNoj.out z hlt hz; have HK := hid hz; have HB7 := hid hb7; obtain ⟨hkd, -⟩ := HBtj.out k hlt hz; obtain ⟨b0, o0, ar', kr', lr', aw', kw', lw', ea0, hall⟩ := HC5.out k hkd; have HAll := hid hall; obtain ⟨y0, y1, y2, y3, -⟩ := hall w7 hb7; obtain ⟨d7, d7a⟩ := HD5.out w7 hb7; have hk1 : (k : Int) < (nd : Int) := (by omega); have HX7 := hid hx7; have x0 := hx7.c0; have x1 := hx7.c1; have x2 := hx7.c2; have x3 := hx7.c3; have f0 := hx7.free 0; have f1 := hx7.free 1; have f2 := hx7.free 2; have f3 := hx7.free 3; clear hb7 hz hall hx7 KR1 KR2; subst ea0)
            | fail)
          all_goals (go_wp2_with fail; go_meet)
          all_goals first
            | exact ⟨_, rfl, hid ⟨bt HB7.out ((Below.refl _ _).alloc (Nat.le_refl _) _), k, _, _, _, _, _, _, HK.out, RX.made w7 _ _ _ _, (HAll.out _ (bt HB7.out ((Below.refl _ _).alloc (Nat.le_refl _) _))).2.2.2.2⟩⟩
            | exact ⟨_, rfl, hid ⟨(((HB7.out.setCell (Nat.le_refl _) _).setCell (Nat.le_refl _) _).setCell (Nat.le_refl _) _).setCell (Nat.le_refl _) _, k, _, _, _, _, _, _, HK.out, (((HX7.out.set0 _).set1 _).set2 _).set3 _, (HAll.out _ ((((HB7.out.setCell (Nat.le_refl _) _).setCell (Nat.le_refl _) _).setCell (Nat.le_refl _) _).setCell (Nat.le_refl _) _)).2.2.2.2⟩⟩
        case rest =>
          obtain ⟨P, rfl, HCut⟩ := hcut
          obtain ⟨hb6, k, ar, lr, kr, aw, lw, kw, hix, hrx, hir⟩ := HCut.out
          clear HCut KR1 KR2 HC5 HD5 t0a d5a d5 t0
          generalize wc = W6 at *
          obtain ⟨hkd, hbt⟩ := HBtj.out k hlt hix
          have HG6 := hid (HG5.out.below hb6)
          have HB6 := hid (bt HBW5.out hb6)
          have s1 := bcl' hb6 t1
          have r0 := hrx.c0
          have r1 := hrx.c1
          have r2 := hrx.c2
          have r3 := hrx.c3
          have KB := hid (boundTable_calls W6 (ds.getD k noRel).name (ds.getD k noRel).ar _ _ _ (ds.getD k noRel) ts nb V hir (HIt5.out.below hb6) (HNb.out.bel HB6.out) hbt)
          have hs6 := HB6.out.size
          have HSt := hid (HG6.out.row hs6)
          have HOw := hid HG6.out.own
          have HFin : Hid (∀ v0 v1 v2 us rows ws, rows.length = ws.length → (rows.zip ws).Perm (fndL V ts (ds.getD k noRel).rows (ds.getD k noRel).ws (ds.getD k noRel).rows.length) → (rows.Pairwise fun a b => ¬ cmpL b a < 0) → ∀ i, i < (tl ++ [(⟨v0, v1, v2, us, vrsI V ts, rows, ws⟩ : TbR)]).length → TabOf ds V (ats.getD i noAt) ((tl ++ [(⟨v0, v1, v2, us, vrsI V ts, rows, ws⟩ : TbR)]).getD i noTb)) := hid fun v0 v1 v2 us rows ws h1 h2 h3 i hi => tl_last hi (fun i t => TabOf ds V (ats.getD i noAt) t) HTab.out (by rw [hlen, hat]; exact ⟨k, hix, rfl, h1, h2, h3⟩)
          clear HG6 HG5 HBW5 HIt5 hb6 hrx hir t1 hix hbt HBtj HNoj HB5
          generalize (ds.getD k noRel).name = rnm at *
          generalize (ds.getD k noRel).ar = rar at *
          go_wp2_with fail
          refine KB.out.mono ?_
          rintro e w8 ⟨v0, v1, v2, us, rows, ws, rfl, hTW, hl2, hperm, hsort, hb8⟩
          have HTW := hid hTW
          obtain ⟨x0, y0, e0⟩ := own_shapeW hTW.o0
          obtain ⟨x1, y1, e1⟩ := own_shapeW hTW.rq.own
          obtain ⟨x2, y2, e2⟩ := own_shapeW hTW.o2
          subst e0 e1 e2
          have HB8 := hid hb8
          have HTl := hid (HFin.out (.slice x0 (vrsI V ts).length y0) (.slice x1 rows.length y1) (.slice x2 ws.length y2) us rows ws hl2 hperm (by first | exact hsort | exact hsort.imp fun h => Int.not_lt.1 h))
          have hs8 := hb8.size
          clear hTW hl2 hperm hsort hb8 HFin HTab
          go_wp2_with (first | (at_builtin; refine wpList_append_lies _ rfl _ _ 31 rfl W2.heap.size 60 iT (.agg #[.slice none 0 0, .slice none 0 0, .slice none 0 0]) 3 72 Tryz.underlying31 hj hz0 hz1 hz2 rfl (by decide) vT tl.length (tl.flatMap tcs) rfl ((own_below HOw.out HB8.out).alloc _) ⟨_, 0, none⟩ 1 1 [.slice x0 (vrsI V ts).length y0, .slice x1 rows.length y1, .slice x2 ws.length y2] rfl rfl (new3_cellT _ _ _ _ _) (fun u hu => by simp at hu; rcases hu with rfl | rfl | rfl <;> rfl) (by decide) (by unfold maxLen; omega) (by omega) (by simp; omega) _ rfl ?_; intro g9 cp9 w9 hown9 hgrow9 hat9 hlt9) | fail)
          have HZ : Hid (Below W2.heap.size W2 w9 ∧ TBs w9 W2.heap.size (.slice (some ⟨g9, 0, none⟩) (tl.length + 1) cp9) (tl ++ [(⟨.slice x0 (vrsI V ts).length y0, .slice x1 rows.length y1, .slice x2 ws.length y2, us, vrsI V ts, rows, ws⟩ : TbR)]) ∧ ∀ i, i < (tl ++ [(⟨.slice x0 (vrsI V ts).length y0, .slice x1 rows.length y1, .slice x2 ws.length y2, us, vrsI V ts, rows, ws⟩ : TbR)]).length → TabOf ds V (ats.getD i noAt) ((tl ++ [(⟨.slice x0 (vrsI V ts).length y0, .slice x1 rows.length y1, .slice x2 ws.length y2, us, vrsI V ts, rows, ws⟩ : TbR)]).getD i noTb)) := hid ⟨((bt HB6.out HB8.out).alloc (Nat.le_trans hs6 hs8) _).grown hgrow9 (by simp; omega) (fun g hg => (HOw.out.lt g hg).1), HSt.out w8 _ _ w9 _ HB8.out HTW.out hgrow9 hown9, HTl.out⟩
          obtain ⟨tl', htl', HZ'⟩ : ∃ tl' : List TbR, tl'.length = j + 1 ∧ Hid (Below W2.heap.size W2 w9 ∧ TBs w9 W2.heap.size (.slice (some ⟨g9, 0, none⟩) (j + 1) cp9) tl' ∧ ∀ i, i < tl'.length → TabOf ds V (ats.getD i noAt) (tl'.getD i noTb)) := ⟨_, by rw [List.length_append, hlen, List.length_singleton], hid ⟨HZ.out.1, by rw [← hlen]; exact HZ.out.2.1, HZ.out.2.2⟩⟩
          clear hown9 hgrow9 hat9 hlt9 HTl HSt HOw HTW KB r0 r1 r2 r3 s1 HZ
          go_wp2_with fail
          go_roundw
          case rel => exact ⟨j + 1, _, tl', by omega, by go_num, rfl, htl', HZ'⟩
          case measure => simp [intOf]; omega
      · obtain rfl : j = n := by omega
        have i1 : ¬ ((j : Int) < (j : Int)) := by omega
        have HF : Hid (∃ v' tl', vT = v' ∧ TBs wr w.heap.size v' tl' ∧ tl'.length = j ∧ (∀ i, i < tl'.length → TabOf ds V (ats.getD i noAt) (tl'.getD i noTb)) ∧ Below w.heap.size w wr) := hid ⟨vT, tl, rfl, HG.out.2.1.base (Nat.le_trans HB0.out.size HB2.out.size), hlen, HG.out.2.2, bt (bt HB0.out HB2.out) HG.out.1⟩
        clear HG
        go_wp2_with fail
        go_ret
        obtain ⟨v', tl', rfl, h1, h2, h3, h4⟩ := HF.out
        exact ⟨_, rfl, tl', h1, (by first | exact h2 | (rw [if_pos rfl]; exact h2) | simpa using h2), h3, h4⟩
  · clear hb1 hx
    go_wp2_with fail
    go_ret
    exact ⟨_, rfl, [], ⟨World.ownsRow_made w1 #[] 0 (Nat.le_trans HB0.out.size HB1.out.size) (by unfold maxLen; omega) rfl, (fun t ht => by simp at ht), List.Pairwise.nil⟩, (by first | rfl | (rw [if_neg hc0]; rfl) | simp [hc0]), (fun j hj => by simp at hj), (bt HB0.out HB1.out).alloc (Nat.le_trans HB0.out.size HB1.out.size) _⟩

end Go.Proofs.YtegcpplkcahkhaaGreat
