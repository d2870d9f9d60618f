import Derived.Test.YtnbbbbfamlmfpaaGreatJn05
import Derived.Test.YtnbbbbfamlmfpaaGreatJn33
import Derived.Test.YtnbbbbfamlmfpaaGreatJn44
import Derived.Test.YtnbbbbfamlmfpaaGreatJn46
import Derived.Test.YtnbbbbfamlmfpaaGreatJn50
/-
  laws.FnExactJoin, walked.
-/
namespace Go.Proofs.YtnbbbbfamlmfpaaGreat
open Go.RowKit Meet

theorem eqIntSS_sameJ (w : World) (v v' : Value) (ls : List (List Int)) (h : ISS w v ls) (h' : ISS w v' ls) (hl : Short ls) :
    Calls Tryz.prog 9 #[v, v'] w fun e w' => e = .returned (.bool true) ∧ Below w.heap.size w w' :=
  (eqIntSS_quiet w v v' ls h h' hl).mono (by
    rintro e w' ⟨rfl, m, rfl⟩
    exact ⟨rfl, below_drewN (Below.refl _ _) m⟩)
theorem le_sumJ : ∀ {l : List Nat} {x : Nat}, x ∈ l → x ≤ l.sum
  | y :: l, x, h => by
    rw [List.sum_cons]
    rcases List.mem_cons.1 h with rfl | h1
    · omega
    · have := le_sumJ h1; omega
theorem Fr.belJ {lo hi : Nat} {a b : World} (h : Fr lo hi a b) (hs : lo ≤ a.heap.size) : Below lo a b := ⟨h.os, h.tape, h.output, h.size, fun x hx => h.block x (by omega) (Or.inl hx)⟩
theorem RQ.frJ {lo hi B : Nat} {a b : World} {v : Value} {us : List Value} {ls : List (List Int)} (h : RQ a B v us ls) (hf : Fr lo hi a b) (hB : hi ≤ B) : RQ b B v us ls :=
  ⟨own_move h.own fun g hg => hf.block g (h.own.lt g hg).2 (Or.inr (Nat.le_trans hB (h.own.lt g hg).1)), h.len, fun i hi => own_move (h.each i hi) fun g hg => hf.block g ((h.each i hi).lt g hg).2 (Or.inr (Nat.le_trans hB ((h.each i hi).lt g hg).1)), h.ap⟩
/-- what the sizes say -/
theorem tvS_of {tl : List TbV} (h : tl.length + sumB tl ≤ 1048576) : ∀ t ∈ tl, TvS t := fun t ht => by
  have h1 : szB t ≤ sumB tl := le_sumJ (List.mem_map.2 ⟨t, ht, rfl⟩)
  unfold szB at h1
  have h2 : t.rows.length ≤ tot t.rows t.rows.length := by unfold tot; omega
  exact ⟨by omega, ⟨by omega, fun j => by have := getD_le_tot t.rows j; omega⟩, by omega⟩
theorem rowJ_short {tl : List TbV} {o : List Int} : (rowJ tl o).length ≤ 10000 ∧ ∀ r ∈ rowJ tl o, r.length ≤ 6 := by
  unfold rowJ
  by_cases h : okJ tl o && smJ tl o o.length
  · rw [if_pos h]
    rw [Bool.and_eq_true] at h
    have h3 := h.1
    unfold okJ at h3
    rw [Bool.and_eq_true] at h3
    have h1 := (ordJ_perm.1 h3.2).length_eq
    have h2 := vrJ_len tl
    exact ⟨smJ_lv h.2, fun r hr => by rw [lvJ_len r hr]; omega⟩
  · rw [if_neg h]
    exact ⟨by simp, fun r hr => by cases hr⟩

set_option maxHeartbeats 2000000 in
set_option maxRecDepth 1000000 in
theorem law_calls (w : World) (vt vo : Value) (tl : List TbV) (o : List Int) (h : ITs w vt tl) (ho : IS w vo o) (hl : tl.length ≤ 9223372036854775807) (hol : o.length ≤ 9223372036854775807) (hs : ∀ t ∈ tl, TvF t) :
    Calls Tryz.prog 3 #[vt, vo] w fun e w' => e = .returned (.bool true) ∧ Below w.heap.size w w' := by
  have KZ := hid (szTableS_calls w vt tl 1048576 h hl hs (Nat.le_refl _))
  have HT := hid h
  have HO := hid ho
  obtain ⟨at', ct, evt, -⟩ := h
  obtain ⟨ao, co, evo, -⟩ := ho
  subst evt evo
  by_cases hbig : 1048576 < o.length
  · have i1 : (1048576 : Int) < (o.length : Int) := by omega
    clear hs
    go_enter Tryz.func3, Tryz.ntmps3
    go_wp2_with fail
    go_ret
    exact ⟨rfl, Below.refl _ _⟩
  · have i1 : ¬ ((1048576 : Int) < (o.length : Int)) := by omega
    clear hs
    have HSv := hid (tvS_of (tl := tl))
    have K1 : Hid (tl.length + sumB tl ≤ 1048576 → ∀ W, Below w.heap.size w W → Calls Tryz.prog 6 #[.slice at' tl.length ct] W fun e w' => e = .returned (.slice (some ⟨W.heap.size, 0, none⟩) tl.length tl.length) ∧ HalfT w' W.heap.size tl.length tl.length tl ∧ W.heap.size < w'.heap.size ∧ Below W.heap.size W w') := hid fun hb W hW => toTableS_calls W _ tl (HT.out.below hW) (by omega) (HSv.out hb)
    have K2 : Hid (∀ W, Below w.heap.size w W → Calls Tryz.prog 7 #[.slice ao o.length co] W fun e w' => e = .returned (.slice (some ⟨W.heap.size, 0, none⟩) o.length o.length) ∧ OwnI w' W.heap.size o ∧ Below W.heap.size W w') := hid fun W hW => toIntS_calls W _ o (HO.out.below hW) (by omega)
    have K3 : Hid (tl.length + sumB tl ≤ 1048576 → ∀ W g1 g2, HalfT W g1 tl.length tl.length tl → OwnI W g2 o → Calls Tryz.prog 5 #[.slice (some ⟨g1, 0, none⟩) tl.length tl.length, .slice (some ⟨g2, 0, none⟩) o.length o.length] W fun e w' => ∃ v, e = .returned (.tuple #[v, .int .i64 (visJ tl o)]) ∧ ISS w' v (rowJ tl o) ∧ Below W.heap.size W w') := hid fun hb W g1 g2 h1 h2 => sJoin_calls W _ _ tl o h1.its h2.is (by omega) (by omega) (fun j hj => HSv.out hb _ (getD_in hj))
    have K4 : Hid (tl.length + sumB tl ≤ 1048576 → ∀ W g1 g2, HalfT W g1 tl.length tl.length tl → OwnI W g2 o → Calls Tryz.prog 8 #[.slice (some ⟨g1, 0, none⟩) tl.length tl.length, .slice (some ⟨g2, 0, none⟩) o.length o.length] W fun e w' => ∃ v us, e = .returned (.tuple #[v, .int .i64 (visJ tl o)]) ∧ RQ w' W.heap.size v us (rowJ tl o) ∧ Below W.heap.size W w') := hid fun hb W g1 g2 h1 h2 => join_calls W _ _ tl o h1.its h2.is (by omega) (by omega) (HSv.out hb)
    have HRs := hid (rowJ_short (tl := tl) (o := o))
    have HSh : Hid (Short (rowJ tl o)) := hid ⟨by have := HRs.out.1; omega, fun j => by
      by_cases hj : j < (rowJ tl o).length
      · have h1 := HRs.out.2 ((rowJ tl o).getD j []) (by rw [List.getD_eq_getElem?_getD, List.getElem?_eq_getElem hj]; exact List.getElem_mem _)
        omega
      · rw [List.getD_eq_getElem?_getD, List.getElem?_eq_none (by omega)]
        exact Nat.zero_le _⟩
    have HLQ : Hid (lenQ (rowJ tl o) (rowJ tl o).length ≤ 60000) := hid (by
      have h1 : ∀ j, j ≤ (rowJ tl o).length → lenQ (rowJ tl o) j ≤ j * 6 := fun j => by
        induction j with
        | zero => intro _; exact Nat.le_refl _
        | succ j ih =>
          intro hj
          have h2 := ih (by omega)
          have h3 := HRs.out.2 ((rowJ tl o).getD j []) (by rw [List.getD_eq_getElem?_getD, List.getElem?_eq_getElem (by omega)]; exact List.getElem_mem _)
          show lenQ (rowJ tl o) j + _ ≤ _
          omega
      have h4 := h1 _ (Nat.le_refl _)
      have h5 := HRs.out.1
      omega)
    have K5 : Hid (∀ W v v', ISS W v (rowJ tl o) → ISS W v' (rowJ tl o) → Calls Tryz.prog 9 #[v, v'] W fun e w' => e = .returned (.bool true) ∧ Below W.heap.size W w') := hid fun W v v' h1 h2 => eqIntSS_sameJ W v v' _ h1 h2 HSh.out
    have K6 : Hid (tl.length + sumB tl ≤ 1048576 → ∀ W g1 g2, HalfT W g1 tl.length tl.length tl → HalfT W g2 tl.length tl.length tl → Calls Tryz.prog 10 #[.slice (some ⟨g1, 0, none⟩) tl.length tl.length, .slice (some ⟨g2, 0, none⟩) tl.length tl.length] W fun e w' => e = .returned (.bool true) ∧ Below W.heap.size W w') := hid fun hb W g1 g2 h1 h2 => eqTableS_same W _ _ tl h1.its h2.its (by omega) (fun j hj => HSv.out hb _ (getD_in hj))
    have K7 : Hid (∀ W g1 g2, OwnI W g1 o → OwnI W g2 o → Calls Tryz.prog 11 #[.slice (some ⟨g1, 0, none⟩) o.length o.length, .slice (some ⟨g2, 0, none⟩) o.length o.length] W fun e w' => e = .returned (.bool true) ∧ Below W.heap.size W w') := hid fun W g1 g2 h1 h2 => eqIntS_same W _ _ o h1.is h2.is (by omega)
    have hoL : o.length ≤ 1048576 := by omega
    clear HT HO HSv hbig hol hl
    generalize rowJ tl o = R at *
    generalize visJ tl o = V at *
    go_enter Tryz.func3, Tryz.ntmps3
    go_wp2_with fail
    refine KZ.out.mono ?_
    rintro e w1 ⟨z, rfl, hz, hb1⟩
    by_cases hzn : z < 0
    · go_wp2_with fail
      go_ret
      exact ⟨rfl, hb1⟩
    have hB := hz (by omega)
    have HB := hid hB
    have hzn2 : ¬ (z < 0) := hzn
    clear hz KZ
    go_wp2_with fail
    refine (K1.out HB.out _ hb1).mono ?_
    rintro e w2 ⟨rfl, h2, hl2, hb2⟩
    go_wp2_with fail
    have hb2w := bt hb1 hb2
    refine (K2.out _ hb2w).mono ?_
    rintro e w3 ⟨rfl, h3, hb3⟩
    go_wp2_with fail
    refine (K3.out HB.out _ _ _ (h2.below hl2 hb3) h3).mono ?_
    rintro e w4 ⟨v4, rfl, h4, hb4⟩
    have hb4w := bt (bt hb2w hb3) hb4
    obtain ⟨a4, k4, ev4, -⟩ := id h4
    subst ev4
    clear h2 hl2 hb2 h3 hb3 hb4 hb2w
    go_wp2_with fail
    refine (K1.out HB.out _ hb4w).mono ?_
    rintro e w5 ⟨rfl, h5, hl5, hb5⟩
    go_wp2_with fail
    refine (K2.out _ (bt hb4w hb5)).mono ?_
    rintro e w6 ⟨rfl, h6, hb6⟩
    go_wp2_with fail
    refine (K4.out HB.out _ _ _ (h5.below hl5 hb6) h6).mono ?_
    rintro e w7 ⟨v7, us, rfl, q7, hb7⟩
    obtain ⟨a7, k7, ev7⟩ := q7.sl
    subst ev7
    have b57 := bt hb6 hb7
    have b47 := bt hb5 b57
    go_wp2_with fail
    refine (K5.out w7 _ _ (q7.rs.iss (Below.refl _ _)) (h4.below b47)).mono ?_
    rintro e w8 ⟨rfl, hb8⟩
    go_wp2_with fail
    refine (K1.out HB.out _ (bt (bt hb4w b47) hb8)).mono ?_
    rintro e w9 ⟨rfl, h9, hl9, hb9⟩
    go_wp2_with fail
    have b59 := bt b57 (bt hb8 hb9)
    refine (K6.out HB.out _ _ _ (h5.below hl5 b59) h9).mono ?_
    rintro e w10 ⟨rfl, hb10⟩
    go_wp2_with fail
    have b5a := bt b59 hb10
    refine (K2.out _ (bt (bt hb4w hb5) b5a)).mono ?_
    rintro e w11 ⟨rfl, h11, hb11⟩
    go_wp2_with fail
    have b6b : Below w6.heap.size w6 w11 := bt hb7 (bt (bt hb8 hb9) (bt hb10 hb11))
    refine (K7.out _ _ _ (h6.below b6b) h11).mono ?_
    rintro e w12 ⟨rfl, hb12⟩
    go_wp2_with fail
    have b5c := bt b5a (bt hb11 hb12)
    have b6c := bt b6b hb12
    have b7c : Below w7.heap.size w7 w12 := bt (bt hb8 hb9) (bt hb10 (bt hb11 hb12))
    have s6 : w5.heap.size ≤ w6.heap.size := hb6.size
    have s5 : w4.heap.size ≤ w5.heap.size := hb5.size
    have s12 : w6.heap.size ≤ w12.heap.size := b6c.size
    have K8 := markTableS_mk w12 w4.heap.size w5.heap.size w4.heap.size tl.length tl (fun i hi => ((h5.sh i hi).kp (Mk.of_below b5c))) HB.out
    refine K8.mono ?_
    rintro e w13 ⟨z13, rfl, hz13, m13⟩
    go_wp2_with fail
    have s13 := m13.fr.size
    have o13 : OwnI w13 w5.heap.size o := (h6.below b6c).move (m13.fr.block _ (by have := (h6.below b6c).lt; omega) (Or.inr (Nat.le_refl _))) s13
    have K9 := markIntS_mk w13 w5.heap.size w6.heap.size w5.heap.size o.length o.length z13 (o13.sh (Nat.le_refl _) h6.lt) (by omega) (by omega)
    refine K9.mono ?_
    rintro e w14 ⟨rfl, m14⟩
    have q14 : RQ w14 w6.heap.size (.slice a7 R.length k7) us R := ((q7.below b7c).frJ m13.fr s6).frJ m14.fr (Nat.le_refl _)
    have b4e : Below w4.heap.size w4 w14 := (bt hb5 b5c).trans ((m13.fr.belJ (by omega)).trans ((m14.fr.belJ (by omega)).mono s5))
    have i14 : ¬ (((z13 + o.length : Nat) : Int) < 0) := by omega
    go_wp2_with fail
    refine (K5.out w14 _ _ (q14.rs.iss (Below.refl _ _)) (h4.below b4e)).mono ?_
    rintro e w15 ⟨rfl, hb15⟩
    have q15 := q14.below hb15
    have hlq : lenQ R R.length ≤ 60000 := HLQ.out
    have hlr : R.length ≤ 10000 := HRs.out.1
    go_wp2_with fail
    have K10 := marksQ w15 w6.heap.size (.slice a7 R.length k7) us R 1 q15 (fun i j hij hj g h1 => q15.ap i j hij hj g h1) (by omega) (by omega) (by omega) (by omega)
    refine K10.mono ?_
    rintro e w16 ⟨rfl, m16⟩
    have K11 := heldsQ w16 (.slice a7 R.length k7) us R 1 ⟨_, _, rfl⟩ (fun i hi => by
      obtain ⟨g, cap, e, -, hc⟩ := q15.get hi
      refine ⟨g, cap, e, ?_⟩
      have ht := own_typ q15.own (g := g) (by rw [e]; rfl)
      exact (World.cell?_of_block (w := w15) (a := ⟨g, i, none⟩) (m16.far g fun i hi => own_ne (q15.each i hi) ht (by decide))).trans hc) (fun i hi => by
      obtain ⟨a, c, e⟩ := own_shapeJ (q15.each i hi)
      exact ⟨a, _, c, e⟩) (fun i hi => m16.held i hi w16 (fun q _ => rfl) (Nat.le_refl _)) (by omega) (by omega) (by omega) (by omega)
    obtain ⟨LQ, hLQ⟩ : ∃ LQ, LQ = lenQ R R.length := ⟨_, rfl⟩
    rw [← hLQ] at K11 hlq ⊢
    clear hLQ HLQ K10
    have HK11 := hid K11
    clear K11
    go_wp2_with fail
    refine HK11.out.mono ?_
    rintro e w17 ⟨rfl, hw17⟩
    obtain rfl : w16 = w17 := hw17.symm
    have i17 : ¬ ((1 : Int) + (LQ : Int) < 0) := by omega
    have s15 : w6.heap.size ≤ w15.heap.size := by have h1 := m14.fr.size; have h2 := hb15.size; omega
    have b4g : Below w4.heap.size w4 w16 := (bt b4e hb15).trans (m16.bel.mono (by omega))
    have bwg : Below w.heap.size w w16 := hb4w.trans (b4g.mono hb4w.size)
    clear m16 q15 q14 q7 o13 m13 m14 K8 K9 h5 h6 h9 h11
    go_wp2_with fail
    refine (K1.out HB.out _ bwg).mono ?_
    rintro e w18 ⟨rfl, h18, hl18, hb18⟩
    go_wp2_with fail
    refine (K2.out _ (bt bwg hb18)).mono ?_
    rintro e w19 ⟨rfl, h19, hb19⟩
    go_wp2_with fail
    refine (K4.out HB.out _ _ _ (h18.below hl18 hb19) h19).mono ?_
    rintro e w20 ⟨v20, us20, rfl, q20, hb20⟩
    obtain ⟨a20, k20, ev20⟩ := q20.sl
    subst ev20
    go_wp2_with fail
    refine (K5.out w20 _ _ (q20.rs.iss (Below.refl _ _)) (h4.below (bt b4g (bt hb18 (bt hb19 hb20))))).mono ?_
    rintro e w21 ⟨rfl, hb21⟩
    have bwz := bt bwg (bt hb18 (bt hb19 (bt hb20 hb21)))
    go_wp2_with fail
    go_ret
    exact ⟨rfl, bwz⟩

end Go.Proofs.YtnbbbbfamlmfpaaGreat
