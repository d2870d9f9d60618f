import Derived.Test.YtegcpplkcahkhaaGreatB46
/-
  spec.Bind.
-/
namespace Go.Proofs.YtegcpplkcahkhaaGreat
open Go.RowKit

set_option maxHeartbeats 20000000 in
set_option maxRecDepth 1000000 in
theorem sBind_calls (w : World) (v vh va : Value) (ds : List RelV) (q : QV) (h : IRelS w v ds) (hr : OkRels ds) (hcap : ∀ a n cap, v = .slice a n cap → n ≤ cap) (hi : IQ w vh va q) (hq : OkQ q) :
    Calls Tryz.prog 6 #[.agg #[v], .agg #[.string q.name, vh, .int .i64 q.ring, va]] w (SBndE w ds q) := by
  obtain ⟨iT, hj, hz0, hz1, hz2⟩ := info_parts Tryz.infoTb
  obtain ⟨iI, hi0, hy0, hy1, hy2⟩ := info_parts Tryz.infoSI
  obtain ⟨W0, hW0⟩ : ∃ W, W = (w.alloc (.cells #[v] 35)).alloc (.cells #[.string q.name, vh, .int .i64 q.ring, va] 39) := ⟨_, rfl⟩
  have HB0 : Hid (Below w.heap.size w W0) := hid (by rw [hW0]; exact ((Below.refl _ _).alloc (Nat.le_refl _) _).alloc (by simp) _)
  have HD0 : Hid (W0.cell? ⟨w.heap.size, 0, none⟩ = some v) := hid (by
    rw [hW0]
    refine bcl' ((Below.refl _ _).alloc (Nat.le_refl _) _) ?_
    rw [World.cell?_alloc_at _ _ _ _ rfl]; rfl)
  have HQc : Hid (W0.cell? ⟨w.heap.size + 1, 0, none⟩ = some (.string q.name) ∧ W0.cell? ⟨w.heap.size + 1, 1, none⟩ = some vh ∧ W0.cell? ⟨w.heap.size + 1, 2, none⟩ = some (.int .i64 q.ring) ∧ W0.cell? ⟨w.heap.size + 1, 3, none⟩ = some va) := hid (by
    rw [hW0]
    refine ⟨?_, ?_, ?_, ?_⟩ <;> (rw [World.cell?_alloc_at _ _ _ _ (by simp)]; rfl))
  have KC : Hid (∀ W, Below W0.heap.size W0 W → Calls Tryz.prog 20 #[.agg #[v], .agg #[.string q.name, vh, .int .i64 q.ring, va]] W fun e w' => e = .returned (.tuple #[.int .i64 (checkP ds q).1, .int .i64 (checkP ds q).2]) ∧ Below W.heap.size W w') := hid fun W hW => sCheckQuery_calls W v vh va ds q (h.below (bt HB0.out hW)) hr hcap (hi.below (bt HB0.out hW)) hq
  have KN : Hid (∀ W, Below W0.heap.size W0 W → Calls Tryz.prog 21 #[.agg #[.string q.name, vh, .int .i64 q.ring, va]] W fun e w' => ∃ v, e = .returned v ∧ w'.ownsRow W.heap.size 9 1 v (VL q.atoms q.atoms.length).length ((VL q.atoms q.atoms.length).map Value.string) ∧ Below W.heap.size W w') := hid fun W hW => l3Vars_calls W vh va q (hi.below (bt HB0.out hW)) hq
  have KRp : Hid (∀ W s, Below W0.heap.size W0 W → Calls Tryz.prog 23 #[.agg #[v], .string s] W fun e w' => ∃ z : Int, e = .returned (.int .i64 z) ∧ RelIx ds s z ∧ Below W.heap.size W w') := hid fun W s hW => l2Rel_calls W v ds s (h.below (bt HB0.out hW)) (by have := hr.1; omega)
  have HBt : Hid ((checkP ds q).1 = 0 → ∀ j k : Nat, j < q.atoms.length → RelIx ds (q.atoms.getD j noAt).1 (k : Int) → k < ds.length ∧ BtH (VL q.atoms q.atoms.length) (q.atoms.getD j noAt).2 (ds.getD k noRel) ∧ ∃ qq, rowsB (ds.getD k noRel).rows qq = true) := hid fun hc j k hj hk => by
    obtain ⟨h1, h2⟩ := btH_of hc hq hj hk
    exact ⟨h1, h2, _, (rel_rows (checkP_zero hc).1 h1).2.2.2⟩
  have HNo : Hid ((checkP ds q).1 = 0 → ∀ j z, j < q.atoms.length → RelIx ds (q.atoms.getD j noAt).1 z → ∃ k : Nat, z = k) := hid fun hc j z hj hk => by
    have h0 := (checkP_zero hc).2.2.2.1 j hj
    rcases hk with ⟨rfl, hn⟩ | ⟨k, e, -⟩
    · rw [RelIx.code_no (Or.inl ⟨rfl, hn⟩)] at h0; cases h0
    · exact ⟨k, e⟩
  have h7 : (checkP ds q).1 = 0 → q.atoms.length ≤ 7 := fun hc => (checkP_zero hc).2.2.1
  have h6 : (checkP ds q).1 = 0 → (VL q.atoms q.atoms.length).length ≤ 6 := fun hc => (checkP_zero hc).2.2.2.2
  have htx : ∀ j, j < q.atoms.length → (q.atoms.getD j noAt).2.length ≤ 1048576 := fun j hj => (hq.atoms j hj).len
  have HLt := hid htx
  have HI := hid h
  have HIa := hid hi.atoms
  obtain ⟨a0, k0, e0, -⟩ := h
  obtain ⟨a1, k1, e1, -⟩ := hi.head
  obtain ⟨a2, k2, e2, -⟩ := hi.atoms
  subst e0 e1 e2
  clear hcap hr hq hi htx
  have HC2 : Hid (∀ W, Below W0.heap.size W0 W → ∀ j, j < q.atoms.length → ∃ b o va', a2 = some ⟨b, o, none⟩ ∧ W.cell? ⟨b, o + j * 2, none⟩ = some (.string (q.atoms.getD j noAt).1) ∧ W.cell? ⟨b, o + j * 2 + 1, none⟩ = some va' ∧ ITm W va' (q.atoms.getD j noAt).2) := hid fun W hW j hj => by
    obtain ⟨a', c', e', h'⟩ := HIa.out.below (bt HB0.out hW)
    simp only [Value.slice.injEq] at e'
    obtain ⟨rfl, -, -⟩ := e'
    rcases h' with h0 | ⟨b, o, rfl, h⟩
    · omega
    · obtain ⟨u, d0, d1, d2⟩ := h j hj
      exact ⟨b, o, u, rfl, d0, d1, d2⟩
  have HC0 : Hid (∀ W, Below W0.heap.size W0 W → ∀ k, k < ds.length → ∃ b o vr vw, a0 = some ⟨b, o, none⟩ ∧ W.cell? ⟨b, o + k * 4, none⟩ = some (.string (ds.getD k noRel).name) ∧ W.cell? ⟨b, o + k * 4 + 1, none⟩ = some (.int .i64 (ds.getD k noRel).ar) ∧ W.cell? ⟨b, o + k * 4 + 2, none⟩ = some vr ∧ W.cell? ⟨b, o + k * 4 + 3, none⟩ = some vw ∧ IRel W vr vw (ds.getD k noRel)) := hid fun W hW k hk => by
    obtain ⟨a', c', e', h'⟩ := HI.out.below (bt HB0.out hW)
    simp only [Value.slice.injEq] at e'
    obtain ⟨rfl, -, -⟩ := e'
    rcases h' with h0 | ⟨b, o, rfl, h⟩
    · omega
    · obtain ⟨vr, vw, d⟩ := h k hk
      exact ⟨b, o, vr, vw, rfl, d⟩
  clear HI HIa
  unfold SBndE
  generalize hV : VL q.atoms q.atoms.length = V at *
  generalize hcc : (checkP ds q).1 = cc at *
  generalize (checkP ds q).2 = pp at *
  generalize q.name = nm at *
  generalize q.ring = rg at *
  generalize q.head.length = lh at *
  generalize q.atoms = ats at *
  generalize ats.length = n at *
  generalize ds.length = nd at *
  go_enter Tryz.func6, Tryz.ntmps6
  go_upto_region 2 with fail
  rw [← hW0]
  have e0 : W0.heap.size = w.heap.size + 1 + 1 := by rw [hW0]; simp
  clear hW0
  have HS0 : Hid (Below W0.heap.size W0 (W0.alloc (.cells #[] 60)) ∧ MTs (W0.alloc (.cells #[] 60)) W0.heap.size (.slice (some ⟨w.heap.size + 1 + 1, 0, none⟩) 0 0) []) := hid ⟨(Below.refl _ _).alloc (Nat.le_refl _) _, ⟨by rw [← e0]; exact World.ownsRow_made W0 #[] 0 (Nat.le_refl _) (by unfold maxLen; omega) rfl, fun t ht => by simp at ht⟩⟩
  clear e0
  generalize W0.alloc (.cells #[] 60) = W1 at *
  generalize (Value.slice (some ⟨w.heap.size + 1 + 1, 0, none⟩) 0 0) = vT0 at *
  have KC1 := hid (KC.out W1 HS0.out.1)
  have d0 := bcl' HS0.out.1 HD0.out
  have q0 := bcl' HS0.out.1 HQc.out.1
  have q1 := bcl' HS0.out.1 HQc.out.2.1
  have q2 := bcl' HS0.out.1 HQc.out.2.2.1
  have q3 := bcl' HS0.out.1 HQc.out.2.2.2
  go_wp2_with fail
  refine KC1.out.mono ?_
  rintro e W2 ⟨rfl, hb2⟩
  have HS2 : Hid (Below W0.heap.size W0 W2 ∧ MTs W2 W0.heap.size vT0 []) := hid ⟨bt HS0.out.1 hb2, HS0.out.2.below hb2⟩
  clear HS0 KC KC1 d0 q0 q1 q2 q3 hb2
  by_cases hc0 : cc = 0
  · subst hc0
    have hn7 := h7 (by simp)
    have hv6 := h6 (by simp)
    have q0 := bcl' HS2.out.1 HQc.out.1
    have q1 := bcl' HS2.out.1 HQc.out.2.1
    have q2 := bcl' HS2.out.1 HQc.out.2.2.1
    have q3 := bcl' HS2.out.1 HQc.out.2.2.2
    have KN1 := hid (KN.out W2 HS2.out.1)
    go_wp2_with fail
    refine KN1.out.mono ?_
    rintro e W3 ⟨vN, rfl, hoN, hb3⟩
    have HS3 : Hid (Below W0.heap.size W0 W3 ∧ MTs W3 W0.heap.size vT0 []) := hid ⟨bt HS2.out.1 hb3, HS2.out.2.below hb3⟩
    have c3 := bcl' hb3 q3
    obtain ⟨aN, cN, eN⟩ := own_shapeW hoN
    subst eN
    have HON := hid (own_base hoN HS2.out.1.size)
    clear q0 q1 q2 q3 KN KN1 hoN hb3 HS2
    generalize hnV : V.length = nV at *
    go_wp2_with fail
    clear c3
    go_loopw [5, 39] (fun x t wr => ∃ (j : Nat) (vT : Value) (tl : List MbR), j ≤ n ∧ t = .int .i64 j ∧ vT = x ∧ tl.length = j ∧ Hid (Below W0.heap.size W0 wr ∧ MTs wr W0.heap.size vT tl ∧ (∀ i, i < tl.length → STab ds V (ats.getD i noAt) (tl.getD i noMb)) ∧ wr.ownsRow W0.heap.size 9 1 (.slice aN nV cN) nV (V.map Value.string))) (fun _ t _ => n - (intOf t).toNat)
    case atStart => exact ⟨0, _, [], Nat.zero_le _, rfl, rfl, rfl, hid ⟨HS3.out.1, HS3.out.2, (fun i hi => by simp at hi), HON.out⟩⟩
    case round =>
      obtain ⟨j, vT, tl, hjn, rfl, rfl, hlen, HG⟩ := hrel
      by_cases hlt : j < n
      · have i1 : (j : Int) < (n : Int) := by omega
        have HBr := hid HG.out.1
        obtain ⟨b, o, va', ea, g0, g1, hit⟩ := HC2.out wr HBr.out j hlt
        subst ea
        have HIt := hid hit
        obtain ⟨at', ct', et, -⟩ := hit
        subst et
        have HBtj := hid (HBt.out (by simp) j)
        have HNoj := hid (HNo.out (by simp) j)
        have htl := HLt.out j hlt
        generalize hat : ats.getD j noAt = aa at *
        obtain ⟨rel, ts⟩ := aa
        dsimp only at *
        generalize hnt : ts.length = nt at *
        go_upto_region 10 with fail
        obtain ⟨W4, hW4⟩ : ∃ W, W = wr.alloc (.cells #[.string rel, .slice at' nt ct'] 56) := ⟨_, rfl⟩
        have HA4 : Hid (Below wr.heap.size wr W4) := hid (by rw [hW4]; exact (Below.refl _ _).alloc (Nat.le_refl _) _)
        have HAt : Hid (∀ W, Below W4.heap.size W4 W → W.cell? ⟨wr.heap.size, 0, none⟩ = some (.string rel) ∧ W.cell? ⟨wr.heap.size, 1, none⟩ = some (.slice at' nt ct')) := hid fun W hW => ⟨bcl' hW (by rw [hW4, World.cell?_alloc_at _ _ _ _ rfl]; rfl), bcl' hW (by rw [hW4, World.cell?_alloc_at _ _ _ _ rfl]; rfl)⟩
        have hsP : wr.heap.size + 1 = W4.heap.size := by rw [hW4]; simp
        rw [← hW4, hsP]
        clear hW4 hsP g0 g1
        have HM0 := hid (MX.made W4)
        have HB4 := hid (bt HBr.out HA4.out)
        have HG4 := hid (HG.out.2.1.below HA4.out)
        have HTab := hid HG.out.2.2.1
        have HON4 := hid (own_below HG.out.2.2.2 HA4.out)
        have HIt4 : Hid (∀ W, Below W4.heap.size W4 W → ITm W (.slice at' nt ct') ts) := hid fun W hW => HIt.out.below (bt HA4.out hW)
        have HTm : Hid (∀ W, Below W4.heap.size W4 W → ∀ i, i < nt → ∃ b o, at' = some ⟨b, o, none⟩ ∧ W.cell? ⟨b, o + i * 2, none⟩ = some (.string (ts.getD i noTm).1)) := hid fun W hW i hi => by
          obtain ⟨a', c', e', h'⟩ := HIt4.out W hW
          simp only [Value.slice.injEq] at e'
          obtain ⟨rfl, -, -⟩ := e'
          rcases h' with h0 | ⟨b, o, rfl, h⟩
          · omega
          · exact ⟨b, o, rfl, (h i (by omega)).1⟩
        have HNm4 : Hid (∀ W, Below W4.heap.size W4 W → ∀ i, i < nV → ∃ b o, aN = some ⟨b, o, none⟩ ∧ W.cell? ⟨b, o + i, none⟩ = some (.string (V.getD i noTx))) := hid fun W hW i hi => by
          obtain ⟨a', c', e', h'⟩ := own_st (L := V) (by rw [hnV]; exact own_below HON4.out hW)
          simp only [Value.slice.injEq] at e'
          obtain ⟨rfl, -, -⟩ := e'
          rcases h' with h0 | ⟨b, o, rfl, h⟩
          · omega
          · exact ⟨b, o, rfl, h i (by omega)⟩
        clear HG HA4 HBr HIt
        obtain ⟨pa, hpa⟩ : ∃ p, p = wr.heap.size := ⟨_, rfl⟩
        rw [← hpa] at HAt ⊢
        clear hpa
        generalize W4.alloc (.cells #[.slice none 0 0, .slice none 0 0, .slice none 0 0] 60) = W5 at *
        obtain ⟨P, hP⟩ : ∃ p, p = W4.heap.size := ⟨_, rfl⟩
        have HM1 : Hid (∃ v0, MX W4 W5 P v0 (.slice none 0 0) (.slice none 0 0) (vrsN V ts 0) [] []) := hid ⟨_, by rw [hP]; exact HM0.out⟩
        rw [← hP]
        clear HM0 hP
        go_wp2_with fail
        go_loopw [46] (fun t wr => ∃ m : Nat, m ≤ nV ∧ t = .int .i64 m ∧ Hid (∃ v0, MX W4 wr P v0 (.slice none 0 0) (.slice none 0 0) (vrsN V ts m) [] [])) (fun t _ => nV - (intOf t).toNat)
        case atStart => exact ⟨0, Nat.zero_le _, rfl, HM1⟩
        case round =>
          clear HM1
          obtain ⟨m, hm, rfl, HM⟩ := hrel
          by_cases hml : m < nV
          · have i2 : (m : Int) < (nV : Int) := by omega
            obtain ⟨v0, hmx⟩ := HM.out
            obtain ⟨bN, oN, eaN, n1⟩ := HNm4.out wr hmx.bel m hml
            subst eaN
            have t1 := (HAt.out wr hmx.bel).2
            have HM2 : Hid (∃ v0, MX W4 wr P v0 (.slice none 0 0) (.slice none 0 0) (vrsN V ts m ++ addO (lastO ts 0 (V.getD m noTx)).isSome m) [] []) := hid ⟨v0, by rw [show addO (lastO ts 0 (V.getD m noTx)).isSome m = [] from rfl, List.append_nil]; exact hmx⟩
            have HSc : Hid (vrsN V ts (m + 1) = vrsN V ts m ++ addO (lastO ts nt (V.getD m noTx)).isSome m) := hid (by rw [← hnt]; exact vrsN_succ V ts m)
            have hvl := vrsN_len V ts m
            clear HM hmx
            generalize V.getD m noTx = x at *
            go_wp2_with fail
            clear n1 t1
            go_loopw [54] (fun t wr => ∃ i : Nat, i ≤ nt ∧ t = .int .i64 i ∧ Hid (∃ v0, MX W4 wr P v0 (.slice none 0 0) (.slice none 0 0) (vrsN V ts m ++ addO (lastO ts i x).isSome m) [] [])) (fun t _ => nt - (intOf t).toNat)
            case atStart => exact ⟨0, Nat.zero_le _, rfl, HM2⟩
            case round =>
              clear HM2
              obtain ⟨i, hin, rfl, HM⟩ := hrel
              by_cases hil : i < nt
              · have i3 : (i : Int) < (nt : Int) := by omega
                obtain ⟨v0, hmx⟩ := HM.out
                obtain ⟨bt', ot, eat, y1⟩ := HTm.out wr hmx.bel i hil
                subst eat
                have t1 := (HAt.out wr hmx.bel).2
                have hst := lastO_step ts x i
                have HMx := hid hmx
                have x0 := hmx.box.c0
                have f0 := hmx.box.free 0
                have KH := hid (l1Has_calls wr v0 _ (m : Int) (own_is hmx.o0) (by simp [addO]; split <;> simp <;> omega))
                rw [vrsN_mem] at KH
                obtain ⟨av, cv, ev⟩ := own_shapeW hmx.o0
                have hlv : (vrsN V ts m ++ addO (lastO ts i x).isSome m).length ≤ 7 := by simp [addO]; split <;> simp <;> omega
                have hsz := hmx.bel.size
                clear hmx HM
                generalize (ts.getD i noTm).1 = y at *
                generalize hbb : (lastO ts i x).isSome = bb at *
                cases hc1 : (y.toList == x.toList)
                · rw [hc1, Bool.false_or] at hst
                  have HMn : Hid (∃ v0, MX W4 wr P v0 (.slice none 0 0) (.slice none 0 0) (vrsN V ts m ++ addO (lastO ts (i + 1) x).isSome m) [] []) := hid ⟨v0, by rw [hst]; exact HMx.out⟩
                  clear KH
                  go_wp2_with fail
                  go_roundw
                  case rel => exact ⟨i + 1, by omega, by go_num, HMn⟩
                  case measure => simp [intOf]; omega
                · rw [hc1, Bool.true_or] at hst
                  cases bb
                  · have HVar : Hid (∀ (o : Obj) (w3 : World) (v0' : Value), w3.ownsRow W4.heap.size 3 1 v0' ((vrsN V ts m ++ addO false m).length + 1) ((vrsN V ts m ++ addO false m).map (Value.int .i64) ++ [.int .i64 (m : Int)]) → (wr.alloc o).grownBy w3 v0.ownBlock → ∃ v0, MX W4 (w3.setCell ⟨P, 0, none⟩ v0') P v0 (.slice none 0 0) (.slice none 0 0) (vrsN V ts m ++ addO (lastO ts (i + 1) x).isSome m) [] []) := hid fun o w3 v0' h1 h2 => ⟨v0', by
                      have e : vrsN V ts m ++ addO true m = (vrsN V ts m ++ addO false m) ++ [(m : Int)] := by simp [addO]
                      rw [hst, e]
                      exact HMx.out.var h1 h2⟩
                    have HBx : Hid (∀ (o : Obj) (w3 : World), (wr.alloc o).grownBy w3 v0.ownBlock → TbX w3 P v0 (.slice none 0 0) (.slice none 0 0)) := hid fun o w3 h2 => ⟨(kept_of h2 HMx.out.box.lt (own_ne HMx.out.o0 HMx.out.box.typ (by decide))).trans HMx.out.box.blk⟩
                    have HO0 := hid HMx.out.o0
                    subst ev
                    clear HMx hst
                    generalize hlv2 : (vrsN V ts m ++ addO false m).length = lv at *
                    generalize (vrsN V ts m ++ addO false m).map (Value.int .i64) = xs at *
                    go_wp2_with fail
                    refine KH.out.mono ?_
                    rintro e w7 ⟨rfl, hw7⟩
                    subst hw7
                    go_wp2_with (first | (at_builtin; refine wpList_append_lies _ rfl _ _ 57 rfl W4.heap.size 3 iI (.int .i64 0) 1 8 Tryz.underlying57 hi0 hy0 hy1 hy2 rfl (by decide) (.slice av lv cv) lv xs rfl (HO0.out.alloc _) ⟨_, 0, none⟩ 1 1 [.int .i64 (m : Int)] rfl rfl (new1_cell _ _ _) (fun u hu => by simp at hu; subst hu; rfl) (by decide) (by unfold maxLen; omega) (by omega) (by simp; omega) _ rfl ?_; intro g8 cp8 w8 hown8 hgrow8 hat8 hlt8; have x0b := (HBx.out _ w8 hgrow8).c0; have f0b := (HBx.out _ w8 hgrow8).free 0; have HMn := hid (HVar.out _ w8 _ hown8 hgrow8); clear hown8 hgrow8 hat8 hlt8) | fail)
                    go_roundw
                    case rel => exact ⟨i + 1, by omega, by go_num, HMn⟩
                    case measure => simp [intOf]; omega
                  · have HMn : Hid (∃ v0, MX W4 wr P v0 (.slice none 0 0) (.slice none 0 0) (vrsN V ts m ++ addO (lastO ts (i + 1) x).isSome m) [] []) := hid ⟨v0, by rw [hst]; exact HMx.out⟩
                    subst ev
                    clear HMx
                    generalize (vrsN V ts m ++ addO true m).length = lv at *
                    go_wp2_with fail
                    refine KH.out.mono ?_
                    rintro e w7 ⟨rfl, hw7⟩
                    subst hw7
                    go_wp2_with fail
                    go_roundw
                    case rel => exact ⟨i + 1, by omega, by go_num, HMn⟩
                    case measure => simp [intOf]; omega
              · obtain rfl : i = nt := by omega
                have i3 : ¬ ((i : Int) < (i : Int)) := by omega
                have HMn : Hid (∃ v0, MX W4 wr P v0 (.slice none 0 0) (.slice none 0 0) (vrsN V ts (m + 1)) [] []) := hid (by rw [HSc.out]; exact HM.out)
                go_wp2_with fail
                go_roundw
                case rel => exact ⟨m + 1, by omega, by go_num, HMn⟩
                case measure => simp [intOf]; omega
          · obtain rfl : m = nV := by omega
            have i2 : ¬ ((m : Int) < (m : Int)) := by omega
            obtain ⟨v0, hmx⟩ := HM.out
            rw [← hnV, vrsN_all] at hmx
            have HMx := hid hmx
            have HB6 := hid (bt HB4.out hmx.bel)
            have d5 := bcl' HB6.out HD0.out
            have t0 := (HAt.out wr hmx.bel).1
            have hP6 := hmx.box.lt
            clear HM hmx
            generalize wr = W5 at *
            have t0a : ∀ o', (W5.alloc o').cell? ⟨pa, 0, none⟩ = some (.string rel) := fun o' => bcl' ((Below.refl _ _).alloc (Nat.le_refl _) o') t0
            have d5a : ∀ o', (W5.alloc o').cell? ⟨w.heap.size, 0, none⟩ = some (.slice a0 nd k0) := fun o' => bcl' ((Below.refl _ _).alloc (Nat.le_refl _) o') d5
            have HD5 : Hid (∀ w7, Below W5.heap.size W5 w7 → w7.cell? ⟨w.heap.size, 0, none⟩ = some (.slice a0 nd k0) ∧ ∀ o', (w7.alloc o').cell? ⟨w.heap.size, 0, none⟩ = some (.slice a0 nd k0)) := hid fun w7 h => ⟨bcl' h d5, fun o' => bcl' ((Below.refl _ _).alloc (Nat.le_refl _) o') (bcl' h d5)⟩
            have HC5 : Hid (∀ k, k < nd → ∃ b o ar kr lr aw kw lw, a0 = some ⟨b, o, none⟩ ∧ (∀ W, Below W4.heap.size W4 W → W.cell? ⟨b, o + k * 4, none⟩ = some (.string (ds.getD k noRel).name) ∧ W.cell? ⟨b, o + k * 4 + 1, none⟩ = some (.int .i64 (ds.getD k noRel).ar) ∧ W.cell? ⟨b, o + k * 4 + 2, none⟩ = some (.slice ar lr kr) ∧ W.cell? ⟨b, o + k * 4 + 3, none⟩ = some (.slice aw lw kw) ∧ IRel W (.slice ar lr kr) (.slice aw lw kw) (ds.getD k noRel))) := hid fun k hk => by
              obtain ⟨b, o, vr, vw, ea, y0, y1, y2, y3, y4⟩ := HC0.out W4 HB4.out k hk
              have y4' := y4
              obtain ⟨ar, kr, er, -⟩ := y4'.rows
              obtain ⟨aw, kw, ew, -⟩ := y4'.ws
              subst er ew
              exact ⟨b, o, ar, kr, _, aw, kw, _, ea, fun W hW => ⟨bcl' hW y0, bcl' hW y1, bcl' hW y2, bcl' hW y3, y4.below hW⟩⟩
            have KR1 : Hid (Calls Tryz.prog 23 #[.agg #[.slice a0 nd k0], .string rel] W5.drew fun e w' => ∃ z : Int, e = .returned (.int .i64 z) ∧ RelIx ds rel z ∧ Below W5.heap.size W5 w') := hid ((KRp.out W5.drew rel HB6.out.drew).mono fun e w' ⟨z, h1, h2, h3⟩ => ⟨z, h1, h2, ⟨h3.os, h3.tape, h3.output, h3.size, h3.block⟩⟩)
            have KR2 : Hid (Calls Tryz.prog 23 #[.agg #[.slice a0 nd k0], .string rel] (W5.alloc (.cells #[.string ⟨#[]⟩, .int .i64 0, .slice none 0 0, .slice none 0 0] 65)).drew fun e w' => ∃ z : Int, e = .returned (.int .i64 z) ∧ RelIx ds rel z ∧ Below W5.heap.size W5 w' ∧ RX w' W5.heap.size (.string ⟨#[]⟩) (.int .i64 0) (.slice none 0 0) (.slice none 0 0)) := hid ((KRp.out _ rel (bt HB6.out ((Below.refl _ _).alloc (Nat.le_refl _) _)).drew).mono fun e w' ⟨z, h1, h2, h3⟩ => by
              have h3' : Below (W5.alloc (.cells #[.string ⟨#[]⟩, .int .i64 0, .slice none 0 0, .slice none 0 0] 65)).heap.size (W5.alloc (.cells #[.string ⟨#[]⟩, .int .i64 0, .slice none 0 0, .slice none 0 0] 65)) w' := ⟨h3.os, h3.tape, h3.output, h3.size, h3.block⟩
              exact ⟨z, h1, h2, bt ((Below.refl _ _).alloc (Nat.le_refl _) _) h3', (RX.made W5 _ _ _ _).below h3'⟩)
            go_upto_region 20 with fail
            go_cut [15] from 80 to 88 (fun x wx => ∃ R, x = .pointer (some ⟨R, 0, none⟩) ∧ Hid (W5.heap.size ≤ R ∧ Below W5.heap.size W5 wx ∧ ∃ (k : Nat) (ar : Option Addr) (lr kr : Nat) (aw : Option Addr) (lw kw : Nat), RelIx ds rel (k : Int) ∧ RX wx R (.string (ds.getD k noRel).name) (.int .i64 (ds.getD k noRel).ar) (.slice ar lr kr) (.slice aw lw kw) ∧ ∀ W, Below W4.heap.size W4 W → IRel W (.slice ar lr kr) (.slice aw lw kw) (ds.getD k noRel)))
            case first =>
              go_region_law (first
                | (go_simp; go_at_call 23; (with_reducible refine KR1.out.mono ?_); rintro e w7 ⟨z, rfl, hz, hb7⟩; obtain ⟨k, rfl⟩ := HNoj.out z hlt hz; have HK := hid hz; have HB7 := hid hb7; have hb47 := bt HMx.out.bel hb7; obtain ⟨hkd, -⟩ := HBtj.out k hlt hz; obtain ⟨b0, o0, ar', kr', lr', aw', kw', lw', ea0, hall⟩ := HC5.out k hkd; have HAll := hid (fun W hW => (hall W hW).2.2.2.2); obtain ⟨y0, y1, y2, y3, -⟩ := hall w7 hb47; have z0 : ∀ o', (w7.alloc o').cell? ⟨b0, o0 + k * 4, none⟩ = some (.string (ds.getD k noRel).name) := (fun o' => (hall _ (hb47.alloc hb47.size o')).1); have z1 : ∀ o', (w7.alloc o').cell? ⟨b0, o0 + k * 4 + 1, none⟩ = some (.int .i64 (ds.getD k noRel).ar) := (fun o' => (hall _ (hb47.alloc hb47.size o')).2.1); have z2 : ∀ o', (w7.alloc o').cell? ⟨b0, o0 + k * 4 + 2, none⟩ = some (.slice ar' lr' kr') := (fun o' => (hall _ (hb47.alloc hb47.size o')).2.2.1); have z3 : ∀ o', (w7.alloc o').cell? ⟨b0, o0 + k * 4 + 3, none⟩ = some (.slice aw' lw' kw') := (fun o' => (hall _ (hb47.alloc hb47.size o')).2.2.2.1); obtain ⟨d7, d7a⟩ := HD5.out w7 hb7; have hk1 : (k : Int) < (nd : Int) := (by omega); clear hb7 hb47 hz hall KR1 KR2; subst ea0)
                | (go_simp; go_at_call 23; (with_reducible refine KR2.out.mono ?_); rintro e w7 ⟨z, rfl, hz, hb7, hx7⟩; obtain ⟨k, rfl⟩ := HNoj.out z hlt hz; have HK := hid hz; have HB7 := hid hb7; have hb47 := bt HMx.out.bel hb7; obtain ⟨hkd, -⟩ := HBtj.out k hlt hz; obtain ⟨b0, o0, ar', kr', lr', aw', kw', lw', ea0, hall⟩ := HC5.out k hkd; have HAll := hid (fun W hW => (hall W hW).2.2.2.2); obtain ⟨y0, y1, y2, y3, -⟩ := hall w7 hb47; obtain ⟨d7, d7a⟩ := HD5.out w7 hb7; have hk1 : (k : Int) < (nd : Int) := (by omega); have HX7 := hid hx7; have x0 := hx7.c0; have x1 := hx7.c1; have x2 := hx7.c2; have x3 := hx7.c3; have f0 := hx7.free 0; have f1 := hx7.free 1; have f2 := hx7.free 2; have f3 := hx7.free 3; clear hb7 hb47 hz hall hx7 KR1 KR2; subst ea0)
                | fail)
              all_goals (go_wp2_with fail; go_meet)
              all_goals first
                | exact ⟨_, rfl, hid ⟨HB7.out.size, bt HB7.out ((Below.refl _ _).alloc (Nat.le_refl _) _), k, _, _, _, _, _, _, HK.out, RX.made w7 _ _ _ _, HAll.out⟩⟩
                | exact ⟨_, rfl, hid ⟨Nat.le_refl _, (((HB7.out.setCell (Nat.le_refl _) _).setCell (Nat.le_refl _) _).setCell (Nat.le_refl _) _).setCell (Nat.le_refl _) _, k, _, _, _, _, _, _, HK.out, (((HX7.out.set0 _).set1 _).set2 _).set3 _, HAll.out⟩⟩
            case rest =>
              obtain ⟨R, rfl, HCut⟩ := hcut
              obtain ⟨hR, hb6, k, ar, lr, kr, aw, lw, kw, hix, hrx, hir⟩ := HCut.out
              clear HCut KR1 KR2 HC5 HD5 t0a d5a d5 t0
              generalize wc = W6 at *
              obtain ⟨hkd, hbt, qq, hqq⟩ := HBtj.out k hlt hix
              have HM6 := hid (HMx.out.below hb6)
              obtain ⟨al, kl, el, hrc⟩ := (hir W4 (Below.refl _ _)).rows
              obtain ⟨aw', kw', ew, hwc⟩ := (hir W4 (Below.refl _ _)).ws
              simp only [Value.slice.injEq] at el ew
              obtain ⟨rfl, hlr, rfl⟩ := el
              obtain ⟨rfl, hlw, rfl⟩ := ew
              have hwl := hbt.wl
              have hn2 := hbt.n
              have htl3 := hbt.tl
              have HRw : Hid (∀ W, Below W4.heap.size W4 W → ∀ i, i < lr → ∃ b o u, ar = some ⟨b, o, none⟩ ∧ W.cell? ⟨b, o + i, none⟩ = some u ∧ IS W u ((ds.getD k noRel).rows.getD i [])) := hid fun W hW i hi => by
                rcases hrc with h0 | ⟨b, o, rfl, h⟩
                · omega
                · obtain ⟨u, h1, h2⟩ := h i (by omega)
                  exact ⟨b, o, u, rfl, bcl' hW h1, h2.below hW⟩
              have HWw : Hid (∀ W, Below W4.heap.size W4 W → ∀ i, i < lr → ∃ b o, aw = some ⟨b, o, none⟩ ∧ W.cell? ⟨b, o + i, none⟩ = some (.int .i64 ((ds.getD k noRel).ws.getD i 0))) := hid fun W hW i hi => by
                rcases hwc with h0 | ⟨b, o, rfl, h⟩
                · omega
                · exact ⟨b, o, rfl, bcl' hW (h i (by omega))⟩
              have HLn : Hid (∀ i, i < lr → ((ds.getD k noRel).rows.getD i []).length = nt) := hid fun i hi => by rw [← hnt]; exact hbt.len i (by omega)
              have HIx := hid hix
              have HBh := hid (And.intro hbt hqq)
              have HRx := hid hrx
              have hPR : R ≠ P := by omega
              clear hix hbt hqq hrx hir hrc hwc HBtj HNoj hb6 HMx HB6
              generalize hrr : ds.getD k noRel = rr at *
              have r2 := HRx.out.c2
              go_wp2_with fail
              clear r2
              go_loopw [91] (fun t wr => ∃ i : Nat, i ≤ lr ∧ t = .int .i64 i ∧ Hid (RX wr R (.string rr.name) (.int .i64 rr.ar) (.slice ar lr kr) (.slice aw lw kw) ∧ ∃ v1 v2 ps ws, MX W4 wr P v0 v1 v2 (vrsI V ts) ps ws ∧ SpT V ts rr i (ps.map Prod.snd) ws ∧ ∀ p ∈ ps, p.2.length ≤ 6)) (fun t _ => lr - (intOf t).toNat)
              case atStart => exact ⟨0, Nat.zero_le _, rfl, hid ⟨HRx.out, _, _, [], [], HM6.out, SpT.start _ _ _, fun p hp => by simp at hp⟩⟩
              case round =>
                clear HM6 HRx
                obtain ⟨i, hil, rfl, HS⟩ := hrel
                obtain ⟨hrx, v1, v2, ps, ws, hmx, hsp, hpl⟩ := HS.out
                have HRx := hid hrx
                have HMx := hid hmx
                have HSp := hid hsp
                have HPl := hid hpl
                clear HS hrx hmx hsp hpl
                by_cases hi2 : i < lr
                · have i3 : (i : Int) < (lr : Int) := by omega
                  obtain ⟨br, orr, u, ea, y1, hu⟩ := HRw.out wr HMx.out.bel i hi2
                  subst ea
                  have hln := HLn.out i hi2
                  have HU := hid hu
                  obtain ⟨au, cu, eu, -⟩ := hu
                  rw [hln] at eu
                  subst eu
                  have HAtr := HAt.out wr HMx.out.bel
                  have z0 := HAtr.1
                  have z1 := HAtr.2
                  have KFt := hid (l3Fits_calls wr _ _ rel (rr.rows.getD i []) ts HU.out (HIt4.out wr HMx.out.bel) (by rw [hln]; omega) (by rw [hln]; omega))
                  clear HAtr
                  cases hfit : fitB ts (rr.rows.getD i [])
                  · rw [hfit] at KFt
                    have HSn := hid (HSp.out.no hfit)
                    go_wp2_with fail
                    refine KFt.out.mono ?_
                    rintro e w5 ⟨rfl, hb5⟩
                    have HN : Hid (RX w5 R (.string rr.name) (.int .i64 rr.ar) (.slice (some ⟨br, orr, none⟩) lr kr) (.slice aw lw kw) ∧ ∃ v1 v2 ps ws, MX W4 w5 P v0 v1 v2 (vrsI V ts) ps ws ∧ SpT V ts rr (i + 1) (ps.map Prod.snd) ws ∧ ∀ p ∈ ps, p.2.length ≤ 6) := hid ⟨HRx.out.below hb5, v1, v2, ps, ws, HMx.out.below hb5, HSn.out, HPl.out⟩
                    clear hb5 KFt HRx HMx HSp HSn HPl y1 z0 z1
                    go_wp2_with fail
                    go_roundw
                    case rel => exact ⟨i + 1, by omega, by go_num, HN⟩
                    case measure => simp [intOf]; omega
                  · rw [hfit] at KFt
                    have HKy : Hid (∀ (k' : Nat) (there : Bool), FndA (ps.map Prod.snd) (atP (rr.rows.getD i []) (colP V ts)) k' there → SpT V ts rr (i + 1) (putL (ps.map Prod.snd) k' there (atP (rr.rows.getD i []) (colP V ts))) (putL ws k' there (rr.ws.getD i 0))) := hid fun k' there hF => HSp.out.yes HBh.out.1 HBh.out.2 (by omega) hfit hF
                    go_upto_region 25 with (first | (go_at_call 24; refine KFt.out.mono ?_; rintro e w5 ⟨rfl, hb5⟩) | fail)
                    have HM5 := hid (HMx.out.below hb5)
                    have HR5 := hid (HRx.out.below hb5)
                    have HU5 := hid (HU.out.below hb5)
                    clear hb5 KFt HRx HMx HU y1 z0 z1
                    obtain ⟨av, cv, ev⟩ := own_shapeW HM5.out.o0
                    subst ev
                    obtain ⟨nv, hnv⟩ : ∃ x, x = (vrsI V ts).length := ⟨_, rfl⟩
                    have HNv := hid hnv
                    have hnv6 : nv ≤ 6 := by
                      have h1 : (vrsI V ts).length ≤ V.length := by unfold vrsI vrs; rw [List.length_map]; exact Nat.le_trans (List.length_filter_le _ _) (by simp)
                      omega
                    have HV0 : Hid (∀ W, Below w5.heap.size w5 W → ∀ p, p < nv → ∃ b o, av = some ⟨b, o, none⟩ ∧ W.cell? ⟨b, o + p, none⟩ = some (.int .i64 ((vrsI V ts).getD p 0))) := hid fun W hW p hp => by
                      obtain ⟨a', c', e', h'⟩ := own_is (own_below HM5.out.o0 hW)
                      simp only [Value.slice.injEq] at e'
                      obtain ⟨rfl, -, -⟩ := e'
                      rcases h' with h0 | ⟨b, o, rfl, h⟩
                      · omega
                      · exact ⟨b, o, rfl, h p (by omega)⟩
                    have HGt : Hid (∀ p, p < nv → ∃ v' q' : Nat, (vrsI V ts).getD p 0 = (v' : Int) ∧ v' < m ∧ lastO ts nt (V.getD v' noTx) = some q' ∧ ((atP (rr.rows.getD i []) (colP V ts)).take (p + 1)).map (Value.int .i64) = ((atP (rr.rows.getD i []) (colP V ts)).take p).map (Value.int .i64) ++ [.int .i64 ((rr.rows.getD i []).getD q' 0)]) := hid fun p hp => by
                      obtain ⟨v', q', g1, g2, g3, -⟩ := vrsI_get (V := V) (ts := ts) (p := p) (by omega)
                      exact ⟨v', q', g1, by omega, by rw [← hnt]; exact g3, atP_succ (by omega) g1 g3⟩
                    have HRo : Hid (∀ W, Below w5.heap.size w5 W → ∀ q', q' < nt → ∃ b o, au = some ⟨b, o, none⟩ ∧ W.cell? ⟨b, o + q', none⟩ = some (.int .i64 ((rr.rows.getD i []).getD q' 0))) := hid fun W hW q' hq' => by
                      obtain ⟨a', c', e', h'⟩ := HU5.out.below hW
                      simp only [Value.slice.injEq] at e'
                      obtain ⟨rfl, -, -⟩ := e'
                      rcases h' with h0 | ⟨b, o, rfl, h⟩
                      · omega
                      · exact ⟨b, o, rfl, h q' (by omega)⟩
                    rw [← hnv] at HM5
                    clear hnv
                    have HS8 : Hid (Below w5.heap.size w5 (w5.alloc (.cells #[] 3)) ∧ (w5.alloc (.cells #[] 3)).ownsRow w5.heap.size 3 1 (.slice (some ⟨w5.heap.size, 0, none⟩) 0 0) 0 (((atP (rr.rows.getD i []) (colP V ts)).take 0).map (Value.int .i64))) := hid ⟨(Below.refl _ _).alloc (Nat.le_refl _) _, World.ownsRow_made w5 #[] 0 (Nat.le_refl _) (by unfold maxLen; omega) rfl⟩
                    have x0 := (HM5.out.box.below HS8.out.1).c0
                    go_wp2_with fail
                    clear x0
                    go_loopw [18, 104] (fun x t wr => ∃ (p : Nat) (vL : Value), p ≤ nv ∧ t = .int .i64 p ∧ vL = x ∧ Hid (Below w5.heap.size w5 wr ∧ wr.ownsRow w5.heap.size 3 1 vL p (((atP (rr.rows.getD i []) (colP V ts)).take p).map (Value.int .i64)))) (fun _ t _ => nv - (intOf t).toNat)
                    case atStart => exact ⟨0, _, Nat.zero_le _, rfl, rfl, HS8⟩
                    case round =>
                      clear HS8
                      obtain ⟨p, vL, hpn, rfl, rfl, HL⟩ := hrel
                      by_cases hpl : p < nv
                      · have i4 : (p : Int) < (nv : Int) := by omega
                        obtain ⟨b6, o6, ea6, y6⟩ := HV0.out wr HL.out.1 p hpl
                        subst ea6
                        obtain ⟨v', q', hv', hvm, hlast, hsuc⟩ := HGt.out p hpl
                        rw [hv'] at y6
                        have HSu := hid hsuc
                        have hqn : q' < nt := lastO_lt hlast
                        have z1 := (HAt.out wr (bt HM5.out.bel HL.out.1)).2
                        have HNx : Hid (∀ W, Below w5.heap.size w5 W → ∃ b o, aN = some ⟨b, o, none⟩ ∧ W.cell? ⟨b, o + v', none⟩ = some (.string (V.getD v' noTx))) := hid fun W hW => HNm4.out W (bt HM5.out.bel hW) v' hvm
                        clear hsuc hv'
                        generalize V.getD v' noTx = x at *
                        go_wp2_with fail
                        clear y6 z1
                        have hstart : Hid (((nt : Int) - 1) = ((nt - 1 : Nat) : Int)) := hid (by omega)
                        go_loopw [18, 21] (fun x18 t wr => ∃ j' : Nat, j' < nt ∧ t = .int .i64 (j' : Int) ∧ vL = x18 ∧ q' ≤ j' ∧ lastO ts (j' + 1) x = some q' ∧ Hid (Below w5.heap.size w5 wr ∧ wr.ownsRow w5.heap.size 3 1 vL p (((atP (rr.rows.getD i []) (colP V ts)).take p).map (Value.int .i64)))) (fun _ t _ => (intOf t).toNat)
                        case atStart => exact ⟨nt - 1, by omega, by rw [hstart.out], rfl, by omega, by rw [show nt - 1 + 1 = nt by omega]; exact hlast, HL⟩
                        case round =>
                          clear HL hlast
                          obtain ⟨j', hj', rfl, rfl, hqj, hlast, HL⟩ := hrel
                          have HBL := hid (bt HM5.out.bel HL.out.1)
                          obtain ⟨b7, o7, e7, n1⟩ := HNx.out wr HL.out.1
                          obtain ⟨b8, o8, e8, y2⟩ := HTm.out wr HBL.out j' hj'
                          have z1 := (HAt.out wr HBL.out).2
                          subst e7 e8
                          have i5 : ¬ ((j' : Int) < 0) := by omega
                          have i6 : (j' : Int) < (nt : Int) := by omega
                          have i7 : (v' : Int) < (m : Int) := by omega
                          have hstp : lastO ts (j' + 1) x = if (ts.getD j' noTm).1.toList == x.toList then some j' else lastO ts j' x := rfl
                          rw [hlast] at hstp
                          generalize (ts.getD j' noTm).1 = y at *
                          cases hc : (y.toList == x.toList)
                          · rw [hc, if_neg (by decide)] at hstp
                            have hq2 := lastO_lt hstp.symm
                            have hdn : Hid (((j' : Int) - 1) = ((j' - 1 : Nat) : Int)) := hid (by omega)
                            have HSt := hid hstp.symm
                            clear hstp
                            clear hlast
                            go_wp2_with fail
                            go_quiet (fail)
                            have HL2 : Hid (Below w5.heap.size w5 (wr.drewN nq) ∧ (wr.drewN nq).ownsRow w5.heap.size 3 1 vL p (((atP (rr.rows.getD i []) (colP V ts)).take p).map (Value.int .i64))) := hid ⟨below_drewN HL.out.1 nq, own_below HL.out.2 (below_drewN (Below.refl _ _) nq)⟩
                            clear HL HBL n1 y2 z1
                            generalize wr.drewN nq = wq at *
                            go_wp2_with fail
                            go_roundw
                            case rel => exact ⟨j' - 1, by omega, by rw [← hdn.out], rfl, by omega, by rw [show j' - 1 + 1 = j' by omega]; exact HSt.out, HL2⟩
                            case measure => simp [intOf]; omega
                          · rw [hc, if_pos rfl] at hstp
                            obtain rfl : q' = j' := by simpa using hstp
                            obtain ⟨b9, o9, e9, -⟩ := HRo.out wr HL.out.1 q' hj'
                            subst e9
                            clear hlast hstp
                            go_wp2_with fail
                            go_quiet (fail)
                            have HL2 : Hid (Below w5.heap.size w5 (wr.drewN nq) ∧ (wr.drewN nq).ownsRow w5.heap.size 3 1 vL p (((atP (rr.rows.getD i []) (colP V ts)).take p).map (Value.int .i64))) := hid ⟨below_drewN HL.out.1 nq, own_below HL.out.2 (below_drewN (Below.refl _ _) nq)⟩
                            clear HL HBL n1 y2 z1
                            generalize wr.drewN nq = wq at *
                            obtain ⟨b10, o10, e10, y3⟩ := HRo.out wq HL2.out.1 q' hj'
                            simp only [Option.some.injEq, Addr.mk.injEq, and_true] at e10
                            obtain ⟨rfl, rfl⟩ := e10
                            have hs9 := HL2.out.1.size
                            generalize (rr.rows.getD i []).getD q' 0 = xv at *
                            go_wp2_with (first | (at_builtin; refine wpList_append_lies _ rfl _ _ 57 rfl w5.heap.size 3 iI (.int .i64 0) 1 8 Tryz.underlying57 hi0 hy0 hy1 hy2 rfl (by decide) vL _ _ rfl (HL2.out.2.alloc _) ⟨_, 0, none⟩ 1 1 [.int .i64 xv] rfl rfl (new1_cell _ _ _) (fun u hu => by simp at hu; subst hu; rfl) (by decide) (by unfold maxLen; omega) (by omega) (by simp; omega) _ rfl ?_; intro g8 cp8 w8 hown8 hgrow8 hat8 hlt8) | fail)
                            have HN2 : Hid (Below w5.heap.size w5 w8 ∧ w8.ownsRow w5.heap.size 3 1 (.slice (some ⟨g8, 0, none⟩) (p + 1) cp8) (p + 1) (((atP (rr.rows.getD i []) (colP V ts)).take (p + 1)).map (Value.int .i64))) := hid ⟨(HL2.out.1.alloc hs9 _).grown hgrow8 (by simp; omega) (fun j hj => (HL2.out.2.lt j hj).1), by rw [HSu.out]; exact hown8⟩
                            clear hown8 hgrow8 hat8 hlt8 y3 HL2
                            go_wp2_with fail
                            go_roundw
                            case rel => exact ⟨p + 1, _, by omega, by go_num, rfl, HN2⟩
                            case measure => simp [intOf]; omega
                      · obtain rfl : p = nv := by omega
                        have i4 : ¬ ((p : Int) < (p : Int)) := by omega
                        have hal : (atP (rr.rows.getD i []) (colP V ts)).length = (vrsI V ts).length := by rw [atP_len, colP_len]; simp [vrsI]
                        have HLv : Hid (wr.ownsRow W4.heap.size 3 1 vL (atP (rr.rows.getD i []) (colP V ts)).length ((atP (rr.rows.getD i []) (colP V ts)).map (Value.int .i64))) := hid (by
                          have h1 := HL.out.2
                          rw [HNv.out, atP_all] at h1
                          rw [hal]
                          exact own_base h1 HM5.out.bel.size)
                        have HMv := hid (HM5.out.below HL.out.1)
                        have HRv := hid (HR5.out.below HL.out.1)
                        have hal6 : (atP (rr.rows.getD i []) (colP V ts)).length ≤ 6 := by rw [hal, ← HNv.out]; exact hnv6
                        clear HL HM5 HR5 HU5 HV0 HGt HRo hal
                        have hps : ps.length ≤ 2000 := by
                          have h1 := HSp.out.le
                          rw [List.length_map] at h1
                          omega
                        generalize hva : atP (rr.rows.getD i []) (colP V ts) = vals at *
                        generalize hwt : rr.ws.getD i 0 = wt at *
                        have HPut : Hid (∀ (w9 : World) (k' : Nat) (there : Bool) (v1' v2' : Value), FndA (ps.map Prod.snd) vals k' there → Pt wr w9 v1' v2' (putL ps k' there (vL, vals)).length (putL ps k' there (vL, vals)).length ((putL ps k' there (vL, vals)).map Prod.fst) ((putL ws k' there wt).map (Value.int .i64)) → RX ((w9.setCell ⟨P, 1, none⟩ v1').setCell ⟨P, 2, none⟩ v2') R (.string rr.name) (.int .i64 rr.ar) (.slice (some ⟨br, orr, none⟩) lr kr) (.slice aw lw kw) ∧ ∃ v1 v2 ps ws, MX W4 ((w9.setCell ⟨P, 1, none⟩ v1').setCell ⟨P, 2, none⟩ v2') P (.slice av p cv) v1 v2 (vrsI V ts) ps ws ∧ SpT V ts rr (i + 1) (ps.map Prod.snd) ws ∧ ∀ p ∈ ps, p.2.length ≤ 6) := hid fun w9 k' there v1' v2' hF hP => by
                          have hsp := HKy.out k' there hF
                          have hsp' : SpT V ts rr (i + 1) ((putL ps k' there (vL, vals)).map Prod.snd) (putL ws k' there wt) := by rw [map_putB]; exact hsp
                          have hl : (putL ps k' there (vL, vals)).length = (putL ws k' there wt).length := by have := hsp'.2.1; rw [List.length_map] at this; exact this
                          refine ⟨((HRv.out.below hP.bel).other hPR _).other hPR _, _, _, putL ps k' there (vL, vals), _, HMv.out.put HLv.out hl hP, hsp', fun q hq => ?_⟩
                          rcases mem_putL hq with hq | rfl
                          · exact HPl.out q hq
                          · exact hal6
                        have KP : Hid (Calls Tryz.prog 25 #[v1, v2, vL, .int .i64 wt] wr.drew fun e w' => ∃ k' there v1' v2', e = .returned (.tuple #[v1', v2']) ∧ FndA (ps.map Prod.snd) vals k' there ∧ Pt wr w' v1' v2' (putL ps k' there (vL, vals)).length (putL ps k' there (vL, vals)).length ((putL ps k' there (vL, vals)).map Prod.fst) ((putL ws k' there wt).map (Value.int .i64))) := hid ((put_calls (HMv.out.below (Below.refl _ _).drew) (own_below HLv.out (Below.refl _ _).drew) (by omega) (fun q hq => by have := HPl.out q hq; omega) hps).mono fun e w' ⟨k', th, v1', v2', he, hF, hP⟩ => ⟨k', th, v1', v2', he, hF, ⟨⟨hP.bel.os, hP.bel.tape, hP.bel.output, hP.bel.size, hP.bel.block⟩, hP.own1, hP.own2⟩⟩)
                        obtain ⟨aL, cL, eL⟩ := own_shapeW HLv.out
                        obtain ⟨a1', c1', e1'⟩ := own_shapeW HMv.out.o1
                        obtain ⟨a2', c2', e2'⟩ := own_shapeW HMv.out.o2
                        subst eL e1' e2'
                        have x1 := HMv.out.box.c1
                        have x2 := HMv.out.box.c2
                        have r3 := HRv.out.c3
                        obtain ⟨bw, ow, ew, y4⟩ := HWw.out wr HMv.out.bel i hi2
                        subst ew
                        rw [hwt] at y4
                        have iw : (i : Int) < (lw : Int) := by omega
                        go_upto_region 35 with fail
                        go_region_law (first
                          | (go_simp; go_at_call 25; (with_reducible refine KP.out.mono ?_); rintro e w9 ⟨k', there, v1', v2', rfl, hF, hPt⟩; have HZ := hid (HPut.out w9 k' there v1' v2' hF hPt); have hbx := HMv.out.box.below hPt.bel; have c91 := hbx.c1; have c92 := hbx.c2; have f91 := hbx.free 1; have f92 := hbx.free 2; obtain ⟨a9, c9, e9⟩ := own_shapeW hPt.own1; obtain ⟨a10, c10, e10⟩ := own_shapeW hPt.own2; subst e9 e10; clear hF hPt hbx)
                          | fail)
                        all_goals
                          go_wp2_with fail
                          go_roundw
                          case rel => exact ⟨i + 1, by omega, by go_num, (by rw [← HNv.out]; exact HZ)⟩
                          case measure => simp [intOf]; omega
                · obtain rfl : i = lr := by omega
                  have i3 : ¬ ((i : Int) < (i : Int)) := by omega
                  have HG4' := hid (HG4.out.row (show W0.heap.size ≤ W4.heap.size from HB4.out.size))
                  have HOw := hid (own_below HG4.out.own HMx.out.bel)
                  have HMw := hid HMx.out.mwr
                  have HBm := hid HMx.out.bel
                  have HONm := hid (own_below HON4.out HMx.out.bel)
                  have HBZ := hid (bt HB4.out HMx.out.bel)
                  have hsw : W0.heap.size ≤ wr.heap.size := Nat.le_trans HB4.out.size HMx.out.bel.size
                  obtain ⟨s0, c0', f0⟩ := own_shapeW HMx.out.o0
                  obtain ⟨s1, c1', f1⟩ := own_shapeW HMx.out.o1
                  obtain ⟨s2, c2', f2⟩ := own_shapeW HMx.out.o2
                  subst f0 f1 f2
                  have x0 := HMx.out.box.c0
                  have x1 := HMx.out.box.c1
                  have x2 := HMx.out.box.c2
                  have HFin : Hid (∀ i', i' < (tl ++ [(⟨.slice s0 (vrsI V ts).length c0', .slice s1 ps.length c1', .slice s2 ws.length c2', vrsI V ts, ps, ws⟩ : MbR)]).length → STab ds V (ats.getD i' noAt) ((tl ++ [(⟨.slice s0 (vrsI V ts).length c0', .slice s1 ps.length c1', .slice s2 ws.length c2', vrsI V ts, ps, ws⟩ : MbR)]).getD i' noMb)) := hid fun i' hi' => ml_last hi' (fun i t => STab ds V (ats.getD i noAt) t) HTab.out (by rw [hlen, hat]; exact ⟨k, HIx.out, rfl, by rw [hrr, ← hlr]; exact HSp.out⟩)
                  clear HMx HRx HSp HPl
                  go_wp2_with (first | (at_builtin; refine wpList_append_lies _ rfl _ _ 31 rfl W0.heap.size 60 iT (.agg #[.slice none 0 0, .slice none 0 0, .slice none 0 0]) 3 72 Tryz.underlying31 hj hz0 hz1 hz2 rfl (by decide) vT tl.length (tl.flatMap mcs) rfl (HOw.out.alloc _) ⟨_, 0, none⟩ 1 1 [.slice s0 (vrsI V ts).length c0', .slice s1 ps.length c1', .slice s2 ws.length c2'] rfl rfl (new3_cellT _ _ _ _ _) (fun u hu => by simp at hu; rcases hu with rfl | rfl | rfl <;> rfl) (by decide) (by unfold maxLen; omega) (by omega) (by simp; omega) _ rfl ?_; intro g9 cp9 w9 hown9 hgrow9 hat9 hlt9) | fail)
                  obtain ⟨tl', htl', HZ'⟩ : ∃ tl' : List MbR, tl'.length = j + 1 ∧ Hid (Below W0.heap.size W0 w9 ∧ MTs w9 W0.heap.size (.slice (some ⟨g9, 0, none⟩) (j + 1) cp9) tl' ∧ (∀ i, i < tl'.length → STab ds V (ats.getD i noAt) (tl'.getD i noMb)) ∧ w9.ownsRow W0.heap.size 9 1 (.slice aN m cN) m (V.map Value.string)) := ⟨_, by rw [List.length_append, hlen, List.length_singleton], hid ⟨(HBZ.out.alloc hsw _).grown hgrow9 (by simp; omega) (fun g hg => (HOw.out.lt g hg).1), by rw [← hlen]; exact HG4'.out wr _ _ w9 _ HBm.out HMw.out hgrow9 hown9, HFin.out, own_move HONm.out fun g hg => kept_of hgrow9 (HONm.out.lt g hg).2 (own_ne HOw.out (own_typ HONm.out hg) (by decide))⟩⟩
                  clear hown9 hgrow9 hat9 hlt9 HFin HOw HMw HG4' x0 x1 x2
                  go_wp2_with fail
                  go_roundw
                  case rel => exact ⟨j + 1, _, tl', by omega, by go_num, rfl, htl', HZ'⟩
                  case measure => simp [intOf]; omega
      · obtain rfl : j = n := by omega
        have i1 : ¬ ((j : Int) < (j : Int)) := by omega
        have HF : Hid (∃ v' tl', vT = v' ∧ MTs wr w.heap.size v' tl' ∧ tl'.length = j ∧ (∀ i, i < tl'.length → STab ds V (ats.getD i noAt) (tl'.getD i noMb)) ∧ Below w.heap.size w wr) := hid ⟨vT, tl, rfl, HG.out.2.1.base HB0.out.size, hlen, HG.out.2.2.1, bt HB0.out HG.out.1⟩
        clear HG
        go_wp2_with fail
        go_ret
        obtain ⟨v', tl', rfl, h1, h2, h3, h4⟩ := HF.out
        exact ⟨_, rfl, tl', h1, (by first | exact h2 | (rw [if_pos rfl]; exact h2) | simpa using h2), h3, h4⟩
  · have HF := hid (And.intro (HS2.out.2.base HB0.out.size) (bt HB0.out HS2.out.1))
    clear HS2
    go_wp2_with fail
    go_ret
    exact ⟨_, rfl, [], HF.out.1, (by first | rfl | (rw [if_neg hc0]; rfl) | simp [hc0]), (fun j hj => by simp at hj), HF.out.2⟩

end Go.Proofs.YtegcpplkcahkhaaGreat
