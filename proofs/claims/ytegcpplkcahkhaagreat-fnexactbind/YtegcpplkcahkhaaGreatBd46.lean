import Derived.Deep.RegionHeld3
import Derived.Test.YtegcpplkcahkhaaGreatBd07
import Derived.Test.YtegcpplkcahkhaaGreatBd42
import Derived.Test.YtegcpplkcahkhaaGreatBd44
/-
  impl.Bind.
-/
namespace Go.Proofs.YtegcpplkcahkhaaGreat
open Go.RowKit Go.Maps

theorem checkE_nil {c p : Int} {x : Value} (h : CheckE c p x) : (c = 0 ∧ x = .nilIface) ∨ (c ≠ 0 ∧ ∃ t y, x = .iface t y) := by
  cases h with
  | ok => exact Or.inl ⟨rfl, rfl⟩
  | bare c p h => exact Or.inr ⟨h, _, _, rfl⟩
  | part c p h t => exact Or.inr ⟨h, _, _, rfl⟩

set_option maxHeartbeats 16000000 in
set_option maxRecDepth 1000000 in
theorem iBind_calls (w : World) (v vh va : Value) (ds : List RelV) (q : QV) (h : IRelS w v ds) (hr : OkRels ds) (hi : IQ w vh va q) (hq : OkQ q) (hcap : ∀ a n cap, vh = .slice a n cap → n ≤ cap) :
    Calls Tryz.prog 9 #[.agg #[v], .agg #[.string q.name, vh, .int .i64 q.ring, va]] w (BndE w ds q) := by
  obtain ⟨iT, hj, hz0, hz1, hz2⟩ := info_parts Tryz.infoTb
  obtain ⟨W0, hW0⟩ : ∃ W, W = (w.alloc (.cells #[v] 35)).alloc (.cells #[.string q.name, vh, .int .i64 q.ring, va] 39) := ⟨_, rfl⟩
  have HB0 : Hid (Below w.heap.size w W0) := hid (by rw [hW0]; exact ((Below.refl _ _).alloc (Nat.le_refl _) _).alloc (by simp) _)
  have HD0 : Hid (W0.cell? ⟨w.heap.size, 0, none⟩ = some v) := hid (by
    rw [hW0]
    refine bcl' ((Below.refl _ _).alloc (Nat.le_refl _) _) ?_
    rw [World.cell?_alloc_at _ _ _ _ rfl]; rfl)
  have HQc : Hid (W0.cell? ⟨w.heap.size + 1, 0, none⟩ = some (.string q.name) ∧ W0.cell? ⟨w.heap.size + 1, 1, none⟩ = some vh ∧ W0.cell? ⟨w.heap.size + 1, 2, none⟩ = some (.int .i64 q.ring) ∧ W0.cell? ⟨w.heap.size + 1, 3, none⟩ = some va) := hid (by
    rw [hW0]
    refine ⟨?_, ?_, ?_, ?_⟩ <;> (rw [World.cell?_alloc_at _ _ _ _ (by simp)]; rfl))
  have KC := hid (check_calls W0 v vh va ds q (h.below HB0.out) hr (hi.below HB0.out) hq hcap)
  have KN : Hid (∀ W, Below W0.heap.size W0 W → Calls Tryz.prog 30 #[.agg #[.string q.name, vh, .int .i64 q.ring, va]] W fun e w' => ∃ b, e = .returned (.map (some b)) ∧ Numb w' b (VL q.atoms q.atoms.length) ∧ W.heap.size < b ∧ b < w'.heap.size ∧ Below W.heap.size W w') := hid fun W hW => variableNumbers_calls W vh va q (hi.below (bt HB0.out hW)) hq
  have KRp : Hid (∀ W s, Below W0.heap.size W0 W → Calls Tryz.prog 31 #[.agg #[v], .string s] W fun e w' => ∃ z : Int, e = .returned (.int .i64 z) ∧ RelIx ds s z ∧ Below W.heap.size W w') := hid fun W s hW => relationPlace_calls W v ds s (h.below (bt HB0.out hW)) (by have := hr.1; omega)
  have HBt : Hid ((checkP ds q).1 = 0 → ∀ j k : Nat, j < q.atoms.length → RelIx ds (q.atoms.getD j noAt).1 (k : Int) → k < ds.length ∧ BtH (VL q.atoms q.atoms.length) (q.atoms.getD j noAt).2 (ds.getD k noRel)) := hid fun hc j k hj hk => btH_of hc hq hj hk
  have HNo : Hid ((checkP ds q).1 = 0 → ∀ j z, j < q.atoms.length → RelIx ds (q.atoms.getD j noAt).1 z → ∃ k : Nat, z = k) := hid fun hc j z hj hk => by
    have h0 := (checkP_zero hc).2.2.2.1 j hj
    rcases hk with ⟨rfl, hn⟩ | ⟨k, e, -⟩
    · rw [RelIx.code_no (Or.inl ⟨rfl, hn⟩)] at h0; cases h0
    · exact ⟨k, e⟩
  have h7 : (checkP ds q).1 = 0 → q.atoms.length ≤ 7 := fun hc => (checkP_zero hc).2.2.1
  have HI := hid h
  have HIa := hid hi.atoms
  obtain ⟨a0, k0, e0, -⟩ := h
  obtain ⟨a1, k1, e1, -⟩ := hi.head
  obtain ⟨a2, k2, e2, -⟩ := hi.atoms
  subst e0 e1 e2
  clear hcap hr hq hi
  have HC2 : Hid (∀ W, Below W0.heap.size W0 W → ∀ j, j < q.atoms.length → ∃ b o va', a2 = some ⟨b, o, none⟩ ∧ W.cell? ⟨b, o + j * 2, none⟩ = some (.string (q.atoms.getD j noAt).1) ∧ W.cell? ⟨b, o + j * 2 + 1, none⟩ = some va' ∧ ITm W va' (q.atoms.getD j noAt).2) := hid fun W hW j hj => by
    obtain ⟨a', c', e', h'⟩ := HIa.out.below (bt HB0.out hW)
    simp only [Value.slice.injEq] at e'
    obtain ⟨rfl, -, -⟩ := e'
    rcases h' with h0 | ⟨b, o, rfl, h⟩
    · omega
    · obtain ⟨u, d0, d1, d2⟩ := h j hj
      exact ⟨b, o, u, rfl, d0, d1, d2⟩
  have HC0 : Hid (∀ W, Below W0.heap.size W0 W → ∀ k, k < ds.length → ∃ b o vr vw, a0 = some ⟨b, o, none⟩ ∧ W.cell? ⟨b, o + k * 4, none⟩ = some (.string (ds.getD k noRel).name) ∧ W.cell? ⟨b, o + k * 4 + 1, none⟩ = some (.int .i64 (ds.getD k noRel).ar) ∧ W.cell? ⟨b, o + k * 4 + 2, none⟩ = some vr ∧ W.cell? ⟨b, o + k * 4 + 3, none⟩ = some vw ∧ IRel W vr vw (ds.getD k noRel)) := hid fun W hW k hk => by
    obtain ⟨a', c', e', h'⟩ := HI.out.below (bt HB0.out hW)
    simp only [Value.slice.injEq] at e'
    obtain ⟨rfl, -, -⟩ := e'
    rcases h' with h0 | ⟨b, o, rfl, h⟩
    · omega
    · obtain ⟨vr, vw, d⟩ := h k hk
      exact ⟨b, o, vr, vw, rfl, d⟩
  clear HI HIa
  unfold BndE
  generalize hV : VL q.atoms q.atoms.length = V at *
  generalize hcc : (checkP ds q).1 = cc at *
  generalize (checkP ds q).2 = pp at *
  obtain ⟨qc0, qc1, qc2, qc3⟩ := HQc.out
  have d0 := HD0.out
  generalize q.name = nm at *
  generalize q.ring = rg at *
  generalize q.head.length = lh at *
  generalize q.atoms = ats at *
  generalize ats.length = n at *
  generalize ds.length = nd at *
  go_enter Tryz.func9, Tryz.ntmps9
  go_upto_region 1 with fail
  rw [← hW0]
  clear hW0
  go_wp2_with fail
  refine KC.out.mono ?_
  rintro e w1 ⟨x, rfl, hx, hb1⟩
  have HB1 := hid hb1
  clear KC d0 qc0 qc1 qc2 qc3
  rcases checkE_nil hx with ⟨hc0, rfl⟩ | ⟨hc0, tx, yx, rfl⟩
  · subst hc0
    have q0 := bcl' hb1 HQc.out.1
    have q1 := bcl' hb1 HQc.out.2.1
    have q2 := bcl' hb1 HQc.out.2.2.1
    have q3 := bcl' hb1 HQc.out.2.2.2
    have KN1 := hid (KN.out w1 hb1)
    clear hb1 hx
    go_upto_region 4 with (first | (go_at_call 30; refine KN1.out.mono ?_; rintro e W2 ⟨nb, rfl, hnb, -, -, hb2⟩) | fail)
    have HNb := hid hnb
    have HB2 := hid (bt HB1.out hb2)
    have c3 := bcl' hb2 q3
    have hn7 := h7 (by simp)
    clear hnb hb2 q0 q1 q2 q3 KN1 KN
    have m1 : ∀ W : World, Sem.run Tryz.prog (Instr.makeSlice 31 (.int .i64 0) (.int .i64 (n : Int))) W = .ok (.slice (some ⟨W.heap.size, 0, none⟩) 0 n) (W.alloc (.cells (madeCells (Value.agg #[.slice none 0 0, .slice none 0 0, .slice none 0 0]).cells (n * 3)) 60)) := fun W => by
      have := run_makeSlice (P := Tryz.prog) W 31 60 iT _ Tryz.underlying31 hj hz0 .i64 .i64 0 (n : Int) (by omega) (by omega) (by rw [hz1]; omega) (by rw [hz2]; omega) (by omega)
      rw [hz1] at this
      simpa using this
    have s1 : (madeCells (Value.agg #[.slice none 0 0, .slice none 0 0, .slice none 0 0]).cells (n * 3)).size = n * 3 := size_madeCells _ _
    generalize madeCells (Value.agg #[.slice none 0 0, .slice none 0 0, .slice none 0 0]).cells (n * 3) = M1 at *
    have HS0 : Hid (Below W2.heap.size W2 (W2.alloc (.cells M1 60)) ∧ TBs (W2.alloc (.cells M1 60)) W2.heap.size (.slice (some ⟨W2.heap.size, 0, none⟩) 0 n) []) := hid ⟨(Below.refl _ _).alloc (Nat.le_refl _) _, ⟨World.ownsRow_made W2 M1 n (Nat.le_refl _) (by unfold maxLen; omega) s1, fun t ht => by simp at ht, List.Pairwise.nil⟩⟩
    have c3' : (W2.alloc (.cells M1 60)).cell? ⟨w.heap.size + 1, 3, none⟩ = some (.slice a2 n k2) := bcl' HS0.out.1 c3
    go_wp2_with fail
    clear m1 c3 c3' s1
    go_loopw [6, 24] (fun x t wr => ∃ (j : Nat) (vT : Value) (tl : List TbR), j ≤ n ∧ t = .int .i64 j ∧ vT = x ∧ tl.length = j ∧ Hid (Below W2.heap.size W2 wr ∧ TBs wr W2.heap.size vT tl ∧ ∀ i, i < tl.length → TabOf ds V (ats.getD i noAt) (tl.getD i noTb))) (fun _ t _ => n - (intOf t).toNat)
    case atStart => exact ⟨0, _, [], Nat.zero_le _, rfl, rfl, rfl, hid ⟨HS0.out.1, HS0.out.2, fun i hi => by simp at hi⟩⟩
    case round =>
      clear HS0
      obtain ⟨j, vT, tl, hjn, rfl, rfl, hlen, HG⟩ := hrel
      by_cases hlt : j < n
      · have i1 : (j : Int) < (n : Int) := by omega
        have HBr := hid (bt HB2.out HG.out.1)
        obtain ⟨b, o, va', ea, g0, g1, hit⟩ := HC2.out wr HBr.out j hlt
        subst ea
        have HIt := hid hit
        obtain ⟨at', ct', et, -⟩ := hit
        subst et
        have HBtj := hid (HBt.out (by simp) j)
        have HNoj := hid (HNo.out (by simp) j)
        generalize hat : ats.getD j noAt = aa at *
        obtain ⟨rel, ts⟩ := aa
        dsimp only at *
        generalize ts.length = nt at *
        go_upto_region 8 with fail
        obtain ⟨W5, hW5⟩ : ∃ W5, W5 = wr.alloc (.cells #[.string rel, .slice at' nt ct'] 56) := ⟨_, rfl⟩
        have t0 : W5.cell? ⟨wr.heap.size, 0, none⟩ = some (.string rel) := by rw [hW5, World.cell?_alloc_at _ _ _ _ rfl]; rfl
        have t1 : W5.cell? ⟨wr.heap.size, 1, none⟩ = some (.slice at' nt ct') := by rw [hW5, World.cell?_alloc_at _ _ _ _ rfl]; rfl
        have HA5 : Hid (Below wr.heap.size wr W5) := hid (by rw [hW5]; exact (Below.refl _ _).alloc (Nat.le_refl _) _)
        rw [← hW5]
        clear hW5 g0 g1
        have HB5 := hid (bt HBr.out HA5.out)
        have d5 := bcl' HB5.out HD0.out
        have t0a : ∀ o', (W5.alloc o').cell? ⟨wr.heap.size, 0, none⟩ = some (.string rel) := fun o' => bcl' ((Below.refl _ _).alloc (Nat.le_refl _) o') t0
        have d5a : ∀ o', (W5.alloc o').cell? ⟨w.heap.size, 0, none⟩ = some (.slice a0 nd k0) := fun o' => bcl' ((Below.refl _ _).alloc (Nat.le_refl _) o') d5
        have HD5 : Hid (∀ w7, Below W5.heap.size W5 w7 → w7.cell? ⟨w.heap.size, 0, none⟩ = some (.slice a0 nd k0) ∧ ∀ o', (w7.alloc o').cell? ⟨w.heap.size, 0, none⟩ = some (.slice a0 nd k0)) := hid fun w7 h => ⟨bcl' h d5, fun o' => bcl' ((Below.refl _ _).alloc (Nat.le_refl _) o') (bcl' h d5)⟩
        have HC5 : Hid (∀ k, k < nd → ∃ b o ar kr lr aw kw lw, a0 = some ⟨b, o, none⟩ ∧ (∀ W, Below W5.heap.size W5 W → W.cell? ⟨b, o + k * 4, none⟩ = some (.string (ds.getD k noRel).name) ∧ W.cell? ⟨b, o + k * 4 + 1, none⟩ = some (.int .i64 (ds.getD k noRel).ar) ∧ W.cell? ⟨b, o + k * 4 + 2, none⟩ = some (.slice ar lr kr) ∧ W.cell? ⟨b, o + k * 4 + 3, none⟩ = some (.slice aw lw kw) ∧ IRel W (.slice ar lr kr) (.slice aw lw kw) (ds.getD k noRel))) := hid fun k hk => by
          obtain ⟨b, o, vr, vw, ea, y0, y1, y2, y3, y4⟩ := HC0.out W5 HB5.out k hk
          have y4' := y4
          obtain ⟨ar, kr, er, -⟩ := y4'.rows
          obtain ⟨aw, kw, ew, -⟩ := y4'.ws
          subst er ew
          exact ⟨b, o, ar, kr, _, aw, kw, _, ea, fun W hW => ⟨bcl' hW y0, bcl' hW y1, bcl' hW y2, bcl' hW y3, y4.below hW⟩⟩
        have KR1 : Hid (Calls Tryz.prog 31 #[.agg #[.slice a0 nd k0], .string rel] W5.drew fun e w' => ∃ z : Int, e = .returned (.int .i64 z) ∧ RelIx ds rel z ∧ Below W5.heap.size W5 w') := hid ((KRp.out W5.drew rel HB5.out.drew).mono fun e w' ⟨z, h1, h2, h3⟩ => ⟨z, h1, h2, ⟨h3.os, h3.tape, h3.output, h3.size, h3.block⟩⟩)
        have KR2 : Hid (Calls Tryz.prog 31 #[.agg #[.slice a0 nd k0], .string rel] (W5.alloc (.cells #[.string ⟨#[]⟩, .int .i64 0, .slice none 0 0, .slice none 0 0] 65)).drew fun e w' => ∃ z : Int, e = .returned (.int .i64 z) ∧ RelIx ds rel z ∧ Below W5.heap.size W5 w' ∧ RX w' W5.heap.size (.string ⟨#[]⟩) (.int .i64 0) (.slice none 0 0) (.slice none 0 0)) := hid ((KRp.out _ rel (bt HB5.out ((Below.refl _ _).alloc (Nat.le_refl _) _)).drew).mono fun e w' ⟨z, h1, h2, h3⟩ => by
          have h3' : Below (W5.alloc (.cells #[.string ⟨#[]⟩, .int .i64 0, .slice none 0 0, .slice none 0 0] 65)).heap.size (W5.alloc (.cells #[.string ⟨#[]⟩, .int .i64 0, .slice none 0 0, .slice none 0 0] 65)) w' := ⟨h3.os, h3.tape, h3.output, h3.size, h3.block⟩
          exact ⟨z, h1, h2, bt ((Below.refl _ _).alloc (Nat.le_refl _) _) h3', (RX.made W5 _ _ _ _).below h3'⟩)
        have HG5 := hid (HG.out.2.1.below HA5.out)
        have HBW5 := hid (bt HG.out.1 HA5.out)
        have HIt5 := hid (HIt.out.below HA5.out)
        have HTab := hid HG.out.2.2
        clear HA5 HG HIt HBr
        generalize wr.heap.size = pa at *
        go_cut [9] from 28 to 36 (fun x wx => ∃ P, x = .pointer (some ⟨P, 0, none⟩) ∧ Hid (Below W5.heap.size W5 wx ∧ ∃ (k : Nat) (ar : Option Addr) (lr kr : Nat) (aw : Option Addr) (lw kw : Nat), RelIx ds rel (k : Int) ∧ RX wx P (.string (ds.getD k noRel).name) (.int .i64 (ds.getD k noRel).ar) (.slice ar lr kr) (.slice aw lw kw) ∧ IRel wx (.slice ar lr kr) (.slice aw lw kw) (ds.getD k noRel)))
        case first =>
          go_region_law (first
            | (go_simp; go_at_call 31; (with_reducible refine KR1.out.mono ?_); rintro e w7 ⟨z, rfl, hz, hb7⟩; obtain ⟨k, rfl⟩ := HNoj.out z hlt hz; have HK := hid hz; have HB7 := hid hb7; obtain ⟨hkd, -⟩ := HBtj.out k hlt hz; obtain ⟨b0, o0, ar', kr', lr', aw', kw', lw', ea0, hall⟩ := HC5.out k hkd; have HAll := hid hall; obtain ⟨y0, y1, y2, y3, -⟩ := hall w7 hb7; have z0 : ∀ o', (w7.alloc o').cell? ⟨b0, o0 + k * 4, none⟩ = some (.string (ds.getD k noRel).name) := (fun o' => (hall _ (hb7.alloc hb7.size o')).1); have z1 : ∀ o', (w7.alloc o').cell? ⟨b0, o0 + k * 4 + 1, none⟩ = some (.int .i64 (ds.getD k noRel).ar) := (fun o' => (hall _ (hb7.alloc hb7.size o')).2.1); have z2 : ∀ o', (w7.alloc o').cell? ⟨b0, o0 + k * 4 + 2, none⟩ = some (.slice ar' lr' kr') := (fun o' => (hall _ (hb7.alloc hb7.size o')).2.2.1); have z3 : ∀ o', (w7.alloc o').cell? ⟨b0, o0 + k * 4 + 3, none⟩ = some (.slice aw' lw' kw') := (fun o' => (hall _ (hb7.alloc hb7.size o')).2.2.2.1); obtain ⟨d7, d7a⟩ := HD5.out w7 hb7; have hk1 : (k : Int) < (nd : Int) := (by omega); clear hb7 hz hall KR1 KR2; subst ea0)
            | (go_simp; go_at_call 31; (with_reducible refine KR2.out.mono ?_); rintro e w7 ⟨z, rfl, hz, hb7, hx7⟩; obtain ⟨k, rfl⟩ := HNoj.out z hlt hz; have HK := hid hz; have HB7 := hid hb7; obtain ⟨hkd, -⟩ := HBtj.out k hlt hz; obtain ⟨b0, o0, ar', kr', lr', aw', kw', lw', ea0, hall⟩ := HC5.out k hkd; have HAll := hid hall; obtain ⟨y0, y1, y2, y3, -⟩ := hall w7 hb7; obtain ⟨d7, d7a⟩ := HD5.out w7 hb7; have hk1 : (k : Int) < (nd : Int) := (by omega); have HX7 := hid hx7; have x0 := hx7.c0; have x1 := hx7.c1; have x2 := hx7.c2; have x3 := hx7.c3; have f0 := hx7.free 0; have f1 := hx7.free 1; have f2 := hx7.free 2; have f3 := hx7.free 3; clear hb7 hz hall hx7 KR1 KR2; subst ea0)
            | fail)
          all_goals (go_wp2_with fail; go_meet)
          all_goals first
            | exact ⟨_, rfl, hid ⟨bt HB7.out ((Below.refl _ _).alloc (Nat.le_refl _) _), k, _, _, _, _, _, _, HK.out, RX.made w7 _ _ _ _, (HAll.out _ (bt HB7.out ((Below.refl _ _).alloc (Nat.le_refl _) _))).2.2.2.2⟩⟩
            | exact ⟨_, rfl, hid ⟨(((HB7.out.setCell (Nat.le_refl _) _).setCell (Nat.le_refl _) _).setCell (Nat.le_refl _) _).setCell (Nat.le_refl _) _, k, _, _, _, _, _, _, HK.out, (((HX7.out.set0 _).set1 _).set2 _).set3 _, (HAll.out _ ((((HB7.out.setCell (Nat.le_refl _) _).setCell (Nat.le_refl _) _).setCell (Nat.le_refl _) _).setCell (Nat.le_refl _) _)).2.2.2.2⟩⟩
        case rest =>
          obtain ⟨P, rfl, HCut⟩ := hcut
          obtain ⟨hb6, k, ar, lr, kr, aw, lw, kw, hix, hrx, hir⟩ := HCut.out
          clear HCut KR1 KR2 HC5 HD5 t0a d5a d5 t0
          generalize wc = W6 at *
          obtain ⟨hkd, hbt⟩ := HBtj.out k hlt hix
          have HG6 := hid (HG5.out.below hb6)
          have HB6 := hid (bt HBW5.out hb6)
          have s1 := bcl' hb6 t1
          have r0 := hrx.c0
          have r1 := hrx.c1
          have r2 := hrx.c2
          have r3 := hrx.c3
          have KB := hid (boundTable_calls W6 (ds.getD k noRel).name (ds.getD k noRel).ar _ _ _ (ds.getD k noRel) ts nb V hir (HIt5.out.below hb6) (HNb.out.bel HB6.out) hbt)
          have hs6 := HB6.out.size
          have HSt := hid (HG6.out.row hs6)
          have HOw := hid HG6.out.own
          have HFin : Hid (∀ v0 v1 v2 us rows ws, rows.length = ws.length → (rows.zip ws).Perm (fndL V ts (ds.getD k noRel).rows (ds.getD k noRel).ws (ds.getD k noRel).rows.length) → (rows.Pairwise fun a b => ¬ cmpL b a < 0) → ∀ i, i < (tl ++ [(⟨v0, v1, v2, us, vrsI V ts, rows, ws⟩ : TbR)]).length → TabOf ds V (ats.getD i noAt) ((tl ++ [(⟨v0, v1, v2, us, vrsI V ts, rows, ws⟩ : TbR)]).getD i noTb)) := hid fun v0 v1 v2 us rows ws h1 h2 h3 i hi => tl_last hi (fun i t => TabOf ds V (ats.getD i noAt) t) HTab.out (by rw [hlen, hat]; exact ⟨k, hix, rfl, h1, h2, h3⟩)
          clear HG6 HG5 HBW5 HIt5 hb6 hrx hir t1 hix hbt HBtj HNoj HB5
          generalize (ds.getD k noRel).name = rnm at *
          generalize (ds.getD k noRel).ar = rar at *
          go_wp2_with fail
          refine KB.out.mono ?_
          rintro e w8 ⟨v0, v1, v2, us, rows, ws, rfl, hTW, hl2, hperm, hsort, hb8⟩
          have HTW := hid hTW
          obtain ⟨x0, y0, e0⟩ := own_shapeW hTW.o0
          obtain ⟨x1, y1, e1⟩ := own_shapeW hTW.rq.own
          obtain ⟨x2, y2, e2⟩ := own_shapeW hTW.o2
          subst e0 e1 e2
          have HB8 := hid hb8
          have HTl := hid (HFin.out (.slice x0 (vrsI V ts).length y0) (.slice x1 rows.length y1) (.slice x2 ws.length y2) us rows ws hl2 hperm (by first | exact hsort | exact hsort.imp fun h => Int.not_lt.1 h))
          have hs8 := hb8.size
          clear hTW hl2 hperm hsort hb8 HFin HTab
          go_wp2_with (first | (at_builtin; refine wpList_append_lies _ rfl _ _ 31 rfl W2.heap.size 60 iT (.agg #[.slice none 0 0, .slice none 0 0, .slice none 0 0]) 3 72 Tryz.underlying31 hj hz0 hz1 hz2 rfl (by decide) vT tl.length (tl.flatMap tcs) rfl ((own_below HOw.out HB8.out).alloc _) ⟨_, 0, none⟩ 1 1 [.slice x0 (vrsI V ts).length y0, .slice x1 rows.length y1, .slice x2 ws.length y2] rfl rfl (new3_cell _ _ _ _ _) (fun u hu => by simp at hu; rcases hu with rfl | rfl | rfl <;> rfl) (by decide) (by unfold maxLen; omega) (by omega) (by simp; omega) _ rfl ?_; intro g9 cp9 w9 hown9 hgrow9 hat9 hlt9) | fail)
          have HZ : Hid (Below W2.heap.size W2 w9 ∧ TBs w9 W2.heap.size (.slice (some ⟨g9, 0, none⟩) (tl.length + 1) cp9) (tl ++ [(⟨.slice x0 (vrsI V ts).length y0, .slice x1 rows.length y1, .slice x2 ws.length y2, us, vrsI V ts, rows, ws⟩ : TbR)]) ∧ ∀ i, i < (tl ++ [(⟨.slice x0 (vrsI V ts).length y0, .slice x1 rows.length y1, .slice x2 ws.length y2, us, vrsI V ts, rows, ws⟩ : TbR)]).length → TabOf ds V (ats.getD i noAt) ((tl ++ [(⟨.slice x0 (vrsI V ts).length y0, .slice x1 rows.length y1, .slice x2 ws.length y2, us, vrsI V ts, rows, ws⟩ : TbR)]).getD i noTb)) := hid ⟨((bt HB6.out HB8.out).alloc (Nat.le_trans hs6 hs8) _).grown hgrow9 (by simp; omega) (fun g hg => (HOw.out.lt g hg).1), HSt.out w8 _ _ w9 _ HB8.out HTW.out hgrow9 hown9, HTl.out⟩
          obtain ⟨tl', htl', HZ'⟩ : ∃ tl' : List TbR, tl'.length = j + 1 ∧ Hid (Below W2.heap.size W2 w9 ∧ TBs w9 W2.heap.size (.slice (some ⟨g9, 0, none⟩) (j + 1) cp9) tl' ∧ ∀ i, i < tl'.length → TabOf ds V (ats.getD i noAt) (tl'.getD i noTb)) := ⟨_, by rw [List.length_append, hlen, List.length_singleton], hid ⟨HZ.out.1, by rw [← hlen]; exact HZ.out.2.1, HZ.out.2.2⟩⟩
          clear hown9 hgrow9 hat9 hlt9 HTl HSt HOw HTW KB r0 r1 r2 r3 s1 HZ
          go_wp2_with fail
          go_roundw
          case rel => exact ⟨j + 1, _, tl', by omega, by go_num, rfl, htl', HZ'⟩
          case measure => simp [intOf]; omega
      · obtain rfl : j = n := by omega
        have i1 : ¬ ((j : Int) < (j : Int)) := by omega
        have HF : Hid (∃ v' tl', vT = v' ∧ TBs wr w.heap.size v' tl' ∧ tl'.length = j ∧ (∀ i, i < tl'.length → TabOf ds V (ats.getD i noAt) (tl'.getD i noTb)) ∧ Below w.heap.size w wr) := hid ⟨vT, tl, rfl, HG.out.2.1.base (Nat.le_trans HB0.out.size HB2.out.size), hlen, HG.out.2.2, bt (bt HB0.out HB2.out) HG.out.1⟩
        clear HG
        go_wp2_with fail
        go_ret
        obtain ⟨v', tl', rfl, h1, h2, h3, h4⟩ := HF.out
        exact ⟨_, rfl, tl', h1, (by first | exact h2 | (rw [if_pos rfl]; exact h2) | simpa using h2), h3, h4⟩
  · clear hb1 hx
    go_wp2_with fail
    go_ret
    exact ⟨_, rfl, [], ⟨World.ownsRow_made w1 #[] 0 (Nat.le_trans HB0.out.size HB1.out.size) (by unfold maxLen; omega) rfl, (fun t ht => by simp at ht), List.Pairwise.nil⟩, (by first | rfl | (rw [if_neg hc0]; rfl) | simp [hc0]), (fun j hj => by simp at hj), (bt HB0.out HB1.out).alloc (Nat.le_trans HB0.out.size HB1.out.size) _⟩

end Go.Proofs.YtegcpplkcahkhaaGreat

/-
  Both sides' tables as plain values; laws.eqTableS.
-/
namespace Go.Proofs.YtegcpplkcahkhaaGreat
open Go.RowKit

structure TbV where
  vs : List Int
  rows : List (List Int)
  ws : List Int
def noTv : TbV := ⟨[], [], []⟩
structure TvOk (t : TbV) : Prop where
  vs : t.vs.length ≤ 6
  n : t.rows.length ≤ 2000
  ws : t.ws.length ≤ 2000
  len : ∀ r ∈ t.rows, r.length ≤ 6
def tvB (t : TbR) : TbV := ⟨t.vs, t.rows, t.ws⟩
def tvM (t : MbR) : TbV := ⟨t.vs, t.ps.map Prod.snd, t.ws⟩

theorem vrs_le6 {V : List ByteArray} {ts : List TermV} (h : V.length ≤ 6) : (vrsI V ts).length ≤ 6 := by
  have := vrsN_len V ts V.length
  rw [vrsN_all] at this
  omega

theorem tabOf_ok {ds : List RelV} {q : QV} {t : TbR} {j : Nat} (hc : (checkP ds q).1 = 0) (hq : OkQ q) (hj : j < q.atoms.length) (h : TabOf ds (VL q.atoms q.atoms.length) (q.atoms.getD j noAt) t) : TvOk (tvB t) := by
  obtain ⟨k, hk, h1, h2, h3, -⟩ := h
  obtain ⟨hkl, hB⟩ := btH_of hc hq hj hk
  have hl : t.rows.length ≤ 2000 := by
    have e1 := h3.length_eq
    have e2 := fndL_len (VL q.atoms q.atoms.length) (q.atoms.getD j noAt).2 (ds.getD k noRel).rows (ds.getD k noRel).ws (ds.getD k noRel).rows.length
    have e3 := hB.n
    rw [List.length_zip] at e1
    omega
  refine ⟨by show t.vs.length ≤ 6; rw [h1]; exact vrs_le6 hB.vl, hl, by show t.ws.length ≤ 2000; omega, fun r hr => ?_⟩
  have hr' : r ∈ t.rows := hr
  obtain ⟨i, hi, rfl⟩ := List.getElem_of_mem hr'
  have hm : (t.rows[i], t.ws[i]) ∈ t.rows.zip t.ws := by
    have : (t.rows.zip t.ws)[i]'(by rw [List.length_zip]; omega) = (t.rows[i], t.ws[i]) := List.getElem_zip
    rw [← this]; exact List.getElem_mem _
  have hm2 := h3.mem_iff.1 hm
  obtain ⟨p, -, e⟩ := List.mem_map.1 hm2
  have e1 : t.rows[i] = atP ((ds.getD k noRel).rows.getD p []) (colP (VL q.atoms q.atoms.length) (q.atoms.getD j noAt).2) := (congrArg Prod.fst e).symm
  rw [e1, atP_len, colP_len]
  have := vrs_le6 (V := VL q.atoms q.atoms.length) (ts := (q.atoms.getD j noAt).2) hB.vl
  simpa [vrsI] using this

theorem tabs_same {ds : List RelV} {q : QV} {tl : List TbR} {tm : List MbR} (hq : OkQ q) (l1 : tl.length = if (checkP ds q).1 = 0 then q.atoms.length else 0) (l2 : tm.length = if (checkP ds q).1 = 0 then q.atoms.length else 0)
    (h1 : ∀ j, j < tl.length → TabOf ds (VL q.atoms q.atoms.length) (q.atoms.getD j noAt) (tl.getD j noTb)) (h2 : ∀ j, j < tm.length → STab ds (VL q.atoms q.atoms.length) (q.atoms.getD j noAt) (tm.getD j noMb)) :
    tl.map tvB = tm.map tvM ∧ tl.length ≤ 7 ∧ ∀ t ∈ tl, TvOk (tvB t) := by
  by_cases hc : (checkP ds q).1 = 0
  · rw [if_pos hc] at l1 l2
    have h7 := (checkP_zero hc).2.2.1
    refine ⟨List.ext_getElem (by simp; omega) fun j hj hj' => ?_, by omega, fun t ht => ?_⟩
    · simp only [List.length_map] at hj hj'
      have a1 := h1 j hj
      have a2 := h2 j hj'
      rw [List.getElem_map, List.getElem_map]
      rw [show tl.getD j noTb = tl[j] by rw [List.getD_eq_getElem?_getD, List.getElem?_eq_getElem hj, Option.getD_some]] at a1
      rw [show tm.getD j noMb = tm[j] by rw [List.getD_eq_getElem?_getD, List.getElem?_eq_getElem hj', Option.getD_some]] at a2
      generalize tl[j] = t at *
      generalize tm[j] = m at *
      obtain ⟨k, r1, v1, e1, p1, s1⟩ := a1
      obtain ⟨k', r2, v2, sp⟩ := a2
      have ek := RelIx.one r1 r2
      obtain rfl : k = k' := by omega
      obtain ⟨hkl, hB⟩ := btH_of hc hq (by omega) r1
      obtain ⟨er, ew⟩ := SpT.same sp hB (rel_rows (checkP_zero hc).1 hkl).2.2.2 e1 p1 s1
      unfold tvB tvM
      rw [v1, v2, er, ew]
    · obtain ⟨j, hj, rfl⟩ := List.getElem_of_mem ht
      have a1 := h1 j hj
      rw [show tl.getD j noTb = tl[j] by rw [List.getD_eq_getElem?_getD, List.getElem?_eq_getElem hj, Option.getD_some]] at a1
      exact tabOf_ok hc hq (by omega) a1
  · rw [if_neg hc] at l1 l2
    have e1 := List.length_eq_zero_iff.1 l1
    have e2 := List.length_eq_zero_iff.1 l2
    subst e1 e2
    exact ⟨rfl, by simp, fun t ht => by simp at ht⟩

/-- a table's cells -/
def TabAt (W : World) (b o : Nat) (t : TbV) : Prop := ∃ v0 v1 v2, W.cell? ⟨b, o, none⟩ = some v0 ∧ W.cell? ⟨b, o + 1, none⟩ = some v1 ∧ W.cell? ⟨b, o + 2, none⟩ = some v2 ∧ IT W v0 v1 v2 t.vs t.rows t.ws
theorem TabAt.below {W W' : World} {b o : Nat} {t : TbV} (h : TabAt W b o t) (hb : Below W.heap.size W W') : TabAt W' b o t := by
  obtain ⟨v0, v1, v2, c0, c1, c2, hi⟩ := h
  exact ⟨v0, v1, v2, bcl' hb c0, bcl' hb c1, bcl' hb c2, hi.below hb⟩
def ITs (W : World) (v : Value) (tl : List TbV) : Prop := ∃ a cap, v = .slice a tl.length cap ∧ (tl.length = 0 ∨ ∃ b o, a = some ⟨b, o, none⟩ ∧ ∀ j, j < tl.length → TabAt W b (o + j * 3) (tl.getD j noTv))
theorem ITs.below {W W' : World} {v : Value} {tl : List TbV} (h : ITs W v tl) (hb : Below W.heap.size W W') : ITs W' v tl := by
  obtain ⟨a, cap, e, h⟩ := h
  refine ⟨a, cap, e, ?_⟩
  rcases h with h | ⟨b, o, ea, h⟩
  · exact Or.inl h
  · exact Or.inr ⟨b, o, ea, fun j hj => (h j hj).below hb⟩

theorem get3 {α : Type} (c : α → List Value) (hc : ∀ x, (c x).length = 3) (ss : List α) : ∀ t, (ss.flatMap c)[t]? = (ss[t / 3]?).bind fun x => (c x)[t % 3]? := by
  induction ss with
  | nil => intro t; simp
  | cons x r ih =>
    intro t
    rw [List.flatMap_cons]
    by_cases h : t < 3
    · rw [List.getElem?_append_left (by rw [hc]; omega), Nat.div_eq_of_lt h, Nat.mod_eq_of_lt h]
      rfl
    · obtain ⟨s, rfl⟩ : ∃ s, t = s + 3 := ⟨t - 3, by omega⟩
      rw [List.getElem?_append_right (by rw [hc]; omega)]
      have e : s + 3 - (c x).length = s := by rw [hc]; omega
      rw [e, ih s, Nat.add_mod_right, Nat.add_div_right _ (by decide)]
      rfl
theorem own3 {α : Type} (c : α → List Value) (hc : ∀ x, (c x).length = 3) (d : α) {W : World} {B : Nat} {ty : TypeId} {v : Value} {tl : List α} (h : W.ownsRow B ty 3 v tl.length (tl.flatMap c)) :
    ∃ a cap, v = .slice a tl.length cap ∧ (tl.length = 0 ∨ ∃ g, a = some ⟨g, 0, none⟩ ∧ (∃ cur, W.heap[g]? = some (.cells cur ty (0, 0))) ∧ ∀ j q, j < tl.length → q < 3 → W.cell? ⟨g, j * 3 + q, none⟩ = (c (tl.getD j d))[q]?) := by
  rcases h.2 with ⟨rfl, hn⟩ | ⟨g, cap, cur, rfl, hb', hh, hn, -, -, ht⟩
  · exact ⟨none, 0, by rw [hn], Or.inl hn⟩
  · refine ⟨_, cap, rfl, Or.inr ⟨g, rfl, ⟨cur, hh⟩, fun j q hj hq => ?_⟩⟩
    rw [cell_of_row _ _ _ _ _ _ hh, ← Array.getElem?_toList, ← List.getElem?_take_of_lt (by omega : j * 3 + q < tl.length * 3), ht, get3 c hc, show (j * 3 + q) / 3 = j by omega, show (j * 3 + q) % 3 = q by omega, List.getD_eq_getElem?_getD, List.getElem?_eq_getElem hj]
    rfl

theorem TBs.its {W : World} {B : Nat} {v : Value} {tl : List TbR} (h : TBs W B v tl) : ITs W v (tl.map tvB) := by
  obtain ⟨a, cap, e, hc⟩ := own3 tcs (fun _ => rfl) noTb h.own
  refine ⟨a, cap, by rw [List.length_map]; exact e, ?_⟩
  rcases hc with h0 | ⟨g, ea, -, hc⟩
  · exact Or.inl (by rw [List.length_map]; exact h0)
  · refine Or.inr ⟨g, 0, ea, fun j hj => ?_⟩
    rw [List.length_map] at hj
    have ht : TWr W B (tl.getD j noTb) := h.each _ (by rw [List.getD_eq_getElem?_getD, List.getElem?_eq_getElem hj]; exact List.getElem_mem _)
    have eg : (tl.map tvB).getD j noTv = tvB (tl.getD j noTb) := by
      rw [List.getD_eq_getElem?_getD, List.getD_eq_getElem?_getD, List.getElem?_map, List.getElem?_eq_getElem hj]; rfl
    rw [eg, Nat.zero_add]
    exact ⟨_, _, _, hc j 0 hj (by omega), hc j 1 hj (by omega), hc j 2 hj (by omega), own_is ht.o0, ht.rq.rs.iss (Below.refl _ _), own_is ht.o2⟩
theorem MTs.its {W : World} {B : Nat} {v : Value} {tl : List MbR} (h : MTs W B v tl) : ITs W v (tl.map tvM) := by
  obtain ⟨a, cap, e, hc⟩ := own3 mcs (fun _ => rfl) noMb h.own
  refine ⟨a, cap, by rw [List.length_map]; exact e, ?_⟩
  rcases hc with h0 | ⟨g, ea, -, hc⟩
  · exact Or.inl (by rw [List.length_map]; exact h0)
  · refine Or.inr ⟨g, 0, ea, fun j hj => ?_⟩
    rw [List.length_map] at hj
    have ht : MWr W B (tl.getD j noMb) := h.each _ (by rw [List.getD_eq_getElem?_getD, List.getElem?_eq_getElem hj]; exact List.getElem_mem _)
    have eg : (tl.map tvM).getD j noTv = tvM (tl.getD j noMb) := by
      rw [List.getD_eq_getElem?_getD, List.getD_eq_getElem?_getD, List.getElem?_map, List.getElem?_eq_getElem hj]; rfl
    rw [eg, Nat.zero_add]
    refine ⟨_, _, _, hc j 0 hj (by omega), hc j 1 hj (by omega), hc j 2 hj (by omega), own_is ht.o0, ?_, own_is ht.o2⟩
    generalize tl.getD j noMb = m at *
    show ISS W m.v1 (m.ps.map Prod.snd)
    rcases ht.o1.2 with ⟨e0, hn⟩ | ⟨g', cap', cur, e0, hb', hh, hn, -, -, hx⟩
    · exact ⟨none, 0, by rw [e0, List.length_map, hn], Or.inl (by rw [List.length_map]; exact hn)⟩
    · refine ⟨_, cap', by rw [e0, List.length_map], Or.inr ⟨g', 0, rfl, fun i hi => ?_⟩⟩
      rw [List.length_map] at hi
      refine ⟨m.ps[i].1, ?_, ?_⟩
      · rw [Nat.zero_add, cell_of_row _ _ _ _ _ _ hh, ← Array.getElem?_toList, ← List.getElem?_take_of_lt (by omega : i < m.ps.length * 1), hx, List.getElem?_map, List.getElem?_eq_getElem hi]; rfl
      · have : (m.ps.map Prod.snd).getD i [] = m.ps[i].2 := by rw [List.getD_eq_getElem?_getD, List.getElem?_map, List.getElem?_eq_getElem hi]; rfl
        rw [this]
        exact own_is (ht.each _ (List.getElem_mem _))

theorem six_of {w5 W : World} {b o b' o' : Nat} {v0 v1 v2 u0 u1 u2 : Value}
    (h0 : w5.cell? ⟨b, o, none⟩ = some v0) (h1 : w5.cell? ⟨b, o + 1, none⟩ = some v1) (h2 : w5.cell? ⟨b, o + 2, none⟩ = some v2)
    (k0 : w5.cell? ⟨b', o', none⟩ = some u0) (k1 : w5.cell? ⟨b', o' + 1, none⟩ = some u1) (k2 : w5.cell? ⟨b', o' + 2, none⟩ = some u2) (hb : Below w5.heap.size w5 W) :
    W.cell? ⟨b, o, none⟩ = some v0 ∧ W.cell? ⟨b, o + 1, none⟩ = some v1 ∧ W.cell? ⟨b, o + 2, none⟩ = some v2 ∧ W.cell? ⟨b', o', none⟩ = some u0 ∧ W.cell? ⟨b', o' + 1, none⟩ = some u1 ∧ W.cell? ⟨b', o' + 2, none⟩ = some u2 ∧ Below w5.heap.size w5 W :=
  ⟨bcl' hb h0, bcl' hb h1, bcl' hb h2, bcl' hb k0, bcl' hb k1, bcl' hb k2, hb⟩

set_option maxHeartbeats 4000000 in
set_option maxRecDepth 1000000 in
theorem eqTableS_same (w : World) (v u : Value) (ds : List TbV) (h : ITs w v ds) (h' : ITs w u ds) (hl1 : ds.length ≤ 1048576) (hr : ∀ j, j < ds.length → TvOk (ds.getD j noTv)) :
    Calls Tryz.prog 10 #[v, u] w fun e w' => e = .returned (.bool true) ∧ Below w.heap.size w w' := by
  obtain ⟨a, cap, rfl, hc⟩ := h
  obtain ⟨a', cap', rfl, hc'⟩ := h'
  have HR := hid hr
  obtain ⟨n, hn⟩ : ∃ n, n = ds.length := ⟨_, rfl⟩
  rw [← hn] at hc hc' hl1 HR ⊢
  have HC := hid hc
  have HC' := hid hc'
  clear hc hc' hn hr
  have hne : ((n : Int) != (n : Int)) = false := by simp
  go_enter Tryz.func10, Tryz.ntmps10
  go_wp2
  go_loopw [5] (fun t wr => ∃ j : Nat, j ≤ n ∧ t = .int .i64 j ∧ Hid (Below w.heap.size w wr)) (fun t _ => n - (intOf t).toNat)
  case atStart => exact ⟨0, Nat.zero_le _, rfl, hid (Below.refl _ _)⟩
  case round =>
    obtain ⟨j, hj, rfl, hB⟩ := hrel
    by_cases hjn : j < n
    · have i1 : (j : Int) < (n : Int) := by omega
      rcases HC.out with h0 | ⟨b, o, rfl, hrel⟩
      · omega
      · rcases HC'.out with h0 | ⟨b', o', rfl, hrel'⟩
        · omega
        · obtain ⟨v0, v1, v2, c0, c1, c2, hir⟩ := (hrel j hjn).below hB.out
          obtain ⟨u0, u1, u2, d0, d1, d2, hir'⟩ := (hrel' j hjn).below hB.out
          have hok := HR.out j hjn
          have HW : Hid (∀ W, (W.cell? ⟨b, o + j * 3, none⟩ = some v0 ∧ W.cell? ⟨b, o + j * 3 + 1, none⟩ = some v1 ∧ W.cell? ⟨b, o + j * 3 + 2, none⟩ = some v2 ∧ W.cell? ⟨b', o' + j * 3, none⟩ = some u0 ∧ W.cell? ⟨b', o' + j * 3 + 1, none⟩ = some u1 ∧ W.cell? ⟨b', o' + j * 3 + 2, none⟩ = some u2 ∧ Below wr.heap.size wr W) →
            Calls Tryz.prog 33 #[.agg #[v0, v1, v2], .agg #[u0, u1, u2]] W fun e w' => e = .returned (.bool true) ∧ Below W.heap.size W w') := hid (fun W hW =>
              eqTable_same W v0 v1 v2 u0 u1 u2 _ _ _ (hir.below hW.2.2.2.2.2.2) (hir'.below hW.2.2.2.2.2.2) (by have := hok.vs; omega) ⟨by have := hok.n; omega, fun i => by
                rw [List.getD_eq_getElem?_getD]
                cases e : (ds.getD j noTv).rows[i]? with
                | none => exact Nat.zero_le _
                | some r => have := hok.len r (List.mem_of_getElem? e); show r.length ≤ _; omega⟩ (by have := hok.ws; omega))
          have HBW : Hid (∀ W, (W.cell? ⟨b, o + j * 3, none⟩ = some v0 ∧ W.cell? ⟨b, o + j * 3 + 1, none⟩ = some v1 ∧ W.cell? ⟨b, o + j * 3 + 2, none⟩ = some v2 ∧ W.cell? ⟨b', o' + j * 3, none⟩ = some u0 ∧ W.cell? ⟨b', o' + j * 3 + 1, none⟩ = some u1 ∧ W.cell? ⟨b', o' + j * 3 + 2, none⟩ = some u2 ∧ Below wr.heap.size wr W) → Below wr.heap.size wr W) := hid (fun W hW => hW.2.2.2.2.2.2)
          obtain ⟨a0, k0, rfl, -⟩ := hir.vs
          obtain ⟨a1, k1, rfl, -⟩ := hir.rows
          obtain ⟨a2, k2, rfl, -⟩ := hir.ws
          obtain ⟨a3, k3, rfl, -⟩ := hir'.vs
          obtain ⟨a4, k4, rfl, -⟩ := hir'.rows
          obtain ⟨a5, k5, rfl, -⟩ := hir'.ws
          clear hir hir' hok hrel hrel'
          generalize (ds.getD j noTv).vs.length = n0 at *
          generalize (ds.getD j noTv).rows.length = n1 at *
          generalize (ds.getD j noTv).ws.length = n2 at *
          go_wp2_with fail
          go_region_held3 (fun W => W.cell? ⟨b, o + j * 3, none⟩ = some (.slice a0 n0 k0) ∧ W.cell? ⟨b, o + j * 3 + 1, none⟩ = some (.slice a1 n1 k1) ∧ W.cell? ⟨b, o + j * 3 + 2, none⟩ = some (.slice a2 n2 k2) ∧ W.cell? ⟨b', o' + j * 3, none⟩ = some (.slice a3 n0 k3) ∧ W.cell? ⟨b', o' + j * 3 + 1, none⟩ = some (.slice a4 n1 k4) ∧ W.cell? ⟨b', o' + j * 3 + 2, none⟩ = some (.slice a5 n2 k5) ∧ Below wr.heap.size wr W)
            (first | exact six_of c0 c1 c2 d0 d1 d2 (Below.refl _ _).drew | exact six_of c0 c1 c2 d0 d1 d2 (bt (Below.refl _ _).drew hb) | (refine six_of c0 c1 c2 d0 d1 d2 (bt (HBW.out _ ?_) hb); assumption))
            (first | (go_at_call 33; refine (HW.out _ ?_).mono ?_; assumption; rintro e w' ⟨rfl, hb⟩))
          go_wp2
          go_roundw
          case rel => exact ⟨j + 1, by omega, by go_num, hid (bt hB.out (HBW.out _ (by assumption)))⟩
          case measure => simp [intOf]; omega
    · obtain rfl : j = n := by omega
      have i1 : ¬ ((j : Int) < (j : Int)) := by omega
      go_wp2
      go_ret
      exact ⟨rfl, hB.out⟩

end Go.Proofs.YtegcpplkcahkhaaGreat
