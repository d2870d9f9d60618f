import Derived.Test.YtoodbpijgnbfjaaGreatFq39
import Derived.Test.YtoodbpijgnbfjaaGreatFq42
import Derived.Test.YtoodbpijgnbfjaaGreatFq44
namespace Go.Proofs.YtoodbpijgnbfjaaGreat
open Go.RowKit Meet

theorem updB_bel (x : JX) (p : List Int) (ts : List Int) (yv : Int) (hts : ts = plc (fun t => x.H t p.length) x.nT) : ∀ k, k ≤ x.nh p → (updB (x.bel p) ts (fun j => x.f (x.tk p j) (prt (x.H (x.tk p j)) p ++ [yv])) k).length = x.nT ∧ ∀ t, t < x.nT → ((∃ j, j < k ∧ x.tk p j = t) → (updB (x.bel p) ts (fun j => x.f (x.tk p j) (prt (x.H (x.tk p j)) p ++ [yv])) k)[t]? = some (.pointer (some ⟨x.f t (prt (x.H t) p ++ [yv]), 0, none⟩))) ∧ ((¬ ∃ j, j < k ∧ x.tk p j = t) → (updB (x.bel p) ts (fun j => x.f (x.tk p j) (prt (x.H (x.tk p j)) p ++ [yv])) k)[t]? = some (.pointer (some ⟨x.f t (prt (x.H t) p), 0, none⟩)))
  | 0, _ => ⟨x.bel_len p, fun t ht => ⟨fun ⟨j, hj, _⟩ => by omega, fun _ => bel_at x p ht⟩⟩
  | k + 1, hk => by
    obtain ⟨h1, h2⟩ := updB_bel x p ts yv hts k (by omega)
    have hk' : k < x.nh p := by omega
    have htk : (ts.getD k 0).toNat = x.tk p k := by rw [hts]; rfl
    have hkt := (x.tk_ok p hk').1
    refine ⟨by show (List.set _ _ _).length = _; rw [List.length_set, h1], fun t ht => ?_⟩
    show (_ → ((updB (x.bel p) ts _ k).set (ts.getD k 0).toNat _)[t]? = _) ∧ (_ → ((updB (x.bel p) ts _ k).set (ts.getD k 0).toNat _)[t]? = _)
    rw [htk]
    by_cases e : x.tk p k = t
    · subst e
      rw [List.getElem?_set_self (by rw [h1]; exact hkt)]
      exact ⟨fun _ => rfl, fun hn => absurd ⟨k, by omega, rfl⟩ hn⟩
    · rw [List.getElem?_set_ne e]
      refine ⟨fun ⟨j, hj, ej⟩ => (h2 t ht).1 ⟨j, ?_, ej⟩, fun hn => (h2 t ht).2 fun ⟨j, hj, ej⟩ => hn ⟨j, by omega, ej⟩⟩
      have : j ≠ k := fun e2 => e (by rw [← e2]; exact ej)
      omega
theorem updB_all (x : JX) (p : List Int) (ts : List Int) (yv : Int) (hts : ts = plc (fun t => x.H t p.length) x.nT) : updB (x.bel p) ts (fun j => x.f (x.tk p j) (prt (x.H (x.tk p j)) p ++ [yv])) (x.nh p) = x.bel (p ++ [yv]) := by
  obtain ⟨h1, h2⟩ := updB_bel x p ts yv hts (x.nh p) (Nat.le_refl _)
  refine List.ext_getElem? fun t => ?_
  by_cases ht : t < x.nT
  · rw [bel_at x (p ++ [yv]) ht, prt_snoc]
    cases hH : x.H t p.length
    · rw [(h2 t ht).2 fun ⟨j, hj, ej⟩ => by have := (x.tk_ok p hj).2.1; rw [ej, hH] at this; cases this]
      simp
    · obtain ⟨j, hj, ej⟩ := x.tk_all p ht hH
      rw [(h2 t ht).1 ⟨j, hj, ej⟩]
      simp
  · rw [List.getElem?_eq_none (by rw [h1]; omega), List.getElem?_eq_none (by rw [x.bel_len]; omega)]
theorem bel_one (x : JX) (p : List Int) : ∀ u ∈ x.bel p, u.oneCell' = true := fun u hu => by
  unfold JX.bel at hu
  obtain ⟨t, -, rfl⟩ := List.mem_map.1 hu
  rfl

set_option maxHeartbeats 600000 in
set_option maxRecDepth 1000000 in
theorem longer1_gives (x : JX) (hx : x.Ok) (nxt : List Int → List Int) (no : Nat) (hm : JMx x nxt no) (l0 : Nat) (w : World) (bB bH : Nat) (vp vb : Value) (p : List Int) (hp : p.length < no) (hd : x.Hd p) (hdat : Dat x w) (hbrn : Brn x x.n0 w vp vb p) (hbx : BrX w bB vp vb) (hbB : x.n0 ≤ bB)
    (hbh : w.heap[bH]? = some (.cells #[x.uh.getD p.length undef] 33 (0, 0))) (hbH : x.n0 ≤ bH) (hnr : ¬ RBk x w bH) :
    Gives Tryz.prog 86 #[.pointer (some ⟨bB, 0, none⟩), .pointer (some ⟨bH, 0, none⟩)] encB (KpB x l0) (fun _ _ _ => True) (PreB x nxt p) (nxt p) w := by
  intro l J Jx W hBw hlW hwl hJ hJx hY h0
  show Calls _ _ #[.func (.yield l) #[] #[], .pointer (some ⟨bB, 0, none⟩), .pointer (some ⟨bH, 0, none⟩)] W _
  obtain ⟨tS, htS, hHS⟩ := hm.some p.length hp
  have hT0 : 0 < x.nT := by omega
  have hnw : x.n0 ≤ w.heap.size := by have := hbx.lt; omega
  have hkw : KT x.n0 w W := KT.of_below hBw hnw
  have hdW := hdat.kt hkw hx
  have hbrW := hbrn.below hBw
  have hbxW := hbx.below hBw
  have hbhW := (hBw.block _ (lt_some hbh)).trans hbh
  have hnrW : ¬ RBk x W bH := fun h1 => hnr ((RBk.eq (hBw.block _ (by have := hx.r; omega)) _).1 h1)
  have hnhe : (x.hav.getD p.length []).length = x.nh p := by rw [hm.hav _ hp]; rfl
  have hts : IS W (x.uh.getD p.length undef) (x.hav.getD p.length []) := own_is (hdW.hq.each p.length (by rw [hm.hl]; exact hp))
  have hnh : x.nh p ≤ 1000 := Nat.le_trans (plc_le _ _) hm.lT
  have hnh0 : 0 < x.nh p := by obtain ⟨j, hj, -⟩ := x.tk_all p htS hHS; omega
  obtain ⟨bb, cb, ebb, -⟩ := own_at hbrW.bel (show 0 < x.nT from hT0)
  obtain ⟨ap, cp, eap⟩ := own_shapeJ hbrW.pre
  obtain ⟨vt, hvt⟩ : ∃ vt, vt = x.uh.getD p.length undef := ⟨_, rfl⟩
  rw [← hvt] at hbhW hts
  have hcb : ∀ t, t < x.nT → W.cell? ⟨bb, t, none⟩ = some (.pointer (some ⟨x.f t (prt (x.H t) p), 0, none⟩)) := fun t ht => by
    have := hbrW.bel
    rw [ebb] at this
    rw [this.cellAt t (by omega)]
    exact bel_at x p ht
  have KC := hid (cursors_calls W vp vt bb x.nT cb (x.hav.getD p.length []) (x.nd p) ⟨_, _, _, eap⟩ hts (by rw [hnhe]; exact hnh)
    (fun j hj => by rw [hm.hav _ hp, (x.tk_ok p (by rw [← hnhe]; exact hj)).2.2]; have := (x.tk_ok p (j := j) (by rw [← hnhe]; exact hj)).1; omega)
    (fun j hj => by rw [hm.hav _ hp, (x.tk_ok p (by rw [← hnhe]; exact hj)).2.2]; have := (x.tk_ok p (j := j) (by rw [← hnhe]; exact hj)).1; rw [show ((x.tk p j : Int)).toNat = x.tk p j by omega]; exact hcb _ this))
  rw [hnhe] at KC
  have HLG0 : Hid (∀ w1 v1, w1.ownsRow W.heap.size 153 2 v1 (x.nh p) (curC (x.nd p) (fun _ => 0) (x.nh p)) → Below W.heap.size W w1 → ∃ cu cc, v1 = .slice (some ⟨cu, 0, none⟩) (x.nh p) cc ∧ LG x W.heap.size w1 bB bH cu cc vp vb vt p (fun _ => 0)) := hid fun w1 v1 ho hb => by
    have hkb : KT x.n0 W w1 := KT.of_below hb (by have := hBw.size; omega)
    rcases ho.2 with ⟨-, h2⟩ | ⟨g, cap, cur, rfl, h3, h4, h5, h6, h7, h8⟩
    · omega
    · exact ⟨g, cap, rfl, hdW.kt hkb hx, hbrW.below hb, hbxW.below hb, hbB, (hb.block _ (lt_some hbhW)).trans hbhW, hbH, fun h1 => hnrW ((RBk.eq (hkb.bel.block _ hx.r) _).1 h1), by have := hBw.size; omega, ho⟩
  have c0 := hbxW.c0
  have c1 := hbxW.c1
  have c2 : W.cell? ⟨bH, 0, none⟩ = some vt := by rw [cell_of_row _ _ _ _ _ _ hbhW]; rfl
  subst eap
  rw [ebb] at c1
  have hshv : ∃ a n c, vt = .slice a n c := by obtain ⟨a, c, e, -⟩ := hts; exact ⟨a, _, c, e⟩
  obtain ⟨av, nv, cv, rfl⟩ := hshv
  have KF : Hid (∀ cu cc w1, LG x W.heap.size w1 bB bH cu cc (.slice ap p.length cp) vb (.slice av nv cv) p (fun _ => 0) → Calls Tryz.prog 88 #[.slice (some ⟨cu, 0, none⟩) (x.nh p) cc] w1 fun e w' => ∃ i ga ca, i < x.nh p ∧ e = .returned (.slice (some ⟨ga, 0, none⟩) (x.vl p i).length ca) ∧ x.g0 (x.tk p i) (prt (x.H (x.tk p i)) p) = .slice (some ⟨ga, 0, none⟩) (x.vl p i).length ca ∧ Below w1.heap.size w1 w') := hid fun cu cc w1 hL => by
    have hg : ∀ j, j < x.nh p → ∃ ga ca, x.g0 (x.tk p j) (prt (x.H (x.tk p j)) p) = .slice (some ⟨ga, 0, none⟩) (x.vl p j).length ca := fun j hj => by
      obtain ⟨h1, h2, -⟩ := x.tk_ok p hj
      obtain ⟨ga, ca, ea, -⟩ := own_at ((hL.dat.tr _ h1).o0 _ (hd _ h1)) (hm.more p hp hd _ h1 h2)
      exact ⟨ga, ca, ea⟩
    refine (fewest_calls w1 cu cc (x.nh p) (x.nd p) (fun _ => 0) (fun j => slA (x.g0 (x.tk p j) (prt (x.H (x.tk p j)) p))) (fun j => slN (x.g0 (x.tk p j) (prt (x.H (x.tk p j)) p))) (fun j => slC (x.g0 (x.tk p j) (prt (x.H (x.tk p j)) p))) hnh0 hnh (fun j hj => ?_) (fun j hj => ?_)).mono ?_
    · obtain ⟨g1, g2⟩ := curC_get (x.nd p) (fun _ => 0) (x.nh p) j hj
      rw [hL.cur.cellAt (j * 2) (by omega), hL.cur.cellAt (j * 2 + 1) (by omega)]
      exact ⟨g1, g2⟩
    · obtain ⟨h1, h2, -⟩ := x.tk_ok p hj
      obtain ⟨ga, ca, ea⟩ := hg j hj
      rw [ea]
      have := (hL.dat.tr _ h1).c0 (hd _ h1)
      rw [ea] at this
      exact this
    · rintro e w' ⟨i, hi, rfl, hb⟩
      obtain ⟨ga, ca, ea⟩ := hg i hi
      exact ⟨i, ga, ca, hi, by rw [ea]; rfl, ea, hb⟩
  have HJ := hid hJ
  have HJx := hid hJx
  have HYy := hid hY
  have H0 := hid h0
  have HM := hid hm
  have HD := hid hd
  have HX := hid hx
  have hWn : x.n0 ≤ W.heap.size := by have := hBw.size; omega
  have HWn := hid hWn
  have HEBB := hid ebb
  have HVT := hid hvt
  clear hvt hnhe hts hbrW hbxW hbhW hnrW hdW hkw hnw hbx hbh hbrn hdat hnr hbB hbH hcb hBw hlW hwl hJ hJx hY h0 tS htS hHS hT0 ebb
  clear hm hd hx hWn
  obtain ⟨nh, hnhq⟩ : ∃ nh, nh = x.nh p := ⟨_, rfl⟩
  have HNH := hid hnhq
  rw [← hnhq] at KC HLG0 KF hnh hnh0
  clear hnhq
  obtain ⟨nT, hnTq⟩ : ∃ nT, nT = x.nT := ⟨_, rfl⟩
  have HNT := hid hnTq
  rw [← hnTq] at KC c1
  clear hnTq
  obtain ⟨np, hnpq⟩ : ∃ np, np = p.length := ⟨_, rfl⟩
  have HNP := hid hnpq
  rw [← hnpq] at KC c0 HLG0 KF hp
  clear hnpq
  go_enter Tryz.func86, Tryz.ntmps86
  go_upto_region 1 with (first | (go_at_call 87; refine KC.out.mono ?_; rintro e w1 ⟨v1, rfl, ho1, hb1⟩) | fail)
  obtain ⟨cu, cc, e1, hLG⟩ := HLG0.out w1 v1 ho1 hb1
  subst e1
  have HB1 := hid hb1
  have HL1 := hid hLG
  have KF1 := hid (KF.out cu cc w1 hLG)
  clear ho1 hb1 hLG KC HLG0 KF c0 c1 c2
  go_upto_block 0 with (first | (go_at_call 88; refine KF1.out.mono ?_; rintro e w2 ⟨gi, ga, ca, hgi, rfl, hga, hb2⟩) | fail)
  have HB2 := hid (bt HB1.out hb2)
  have HL2 := hid (HL1.out.below HX.out hb2)
  have HGA := hid hga
  obtain ⟨L, hL⟩ : ∃ L, L = x.vl p gi := ⟨_, rfl⟩
  have HGI := hid (And.intro hgi hL)
  have HNX : Hid (nxt p = L.filter fun y => x.all p y) := hid (by
    obtain ⟨h1, h2, -⟩ := x.tk_ok p (j := gi) (by rw [← HNH.out]; exact hgi)
    rw [HM.out.nx p (by rw [← HNP.out]; exact hp) HD.out _ h1 h2, hL]
    refine List.filter_congr fun y _ => ?_
    exact x.all_eq p y)
  have HASC : Hid (L.Pairwise (· < ·)) := hid (by
    obtain ⟨h1, h2, -⟩ := x.tk_ok p (j := gi) (by rw [← HNH.out]; exact hgi)
    rw [hL]
    exact HM.out.asc _ h1 _ (HD.out _ h1))
  have hLb : L.length ≤ 1000000 := by
    obtain ⟨h1, h2, -⟩ := x.tk_ok p (j := gi) (by rw [← HNH.out]; exact hgi)
    rw [hL]
    exact HM.out.len _ h1 _ (HD.out _ h1)
  have HCV : Hid (∀ w3 q, LG x W.heap.size w3 bB bH cu cc (.slice ap np cp) vb (.slice av nv cv) p q → ∀ k, k < L.length → w3.cell? ⟨ga, k, none⟩ = some (.int .i64 (L.getD k 0))) := hid fun w3 q h3 k hk => by
    obtain ⟨h1, h2, -⟩ := x.tk_ok p (j := gi) (by rw [← HNH.out]; exact hgi)
    have ho := (h3.dat.tr _ h1).o0 _ (HD.out _ h1)
    rw [HGA.out] at ho
    have hk' : k < (x.vl p gi).length := by rw [← hL]; exact hk
    rw [ho.cellAt k (by show k < (x.vl p gi).length * 1; omega)]
    show ((x.vl p gi).map (Value.int .i64))[k]? = _
    rw [← hL, List.getElem?_map, List.getElem?_eq_getElem hk, List.getD_eq_getElem?_getD, List.getElem?_eq_getElem hk]
    rfl
  rw [← hL]
  clear hb2 hga hL KF1 HB1 HL1
  obtain ⟨nL, hnL⟩ : ∃ nL, nL = L.length := ⟨_, rfl⟩
  have HNL := hid hnL
  rw [← hnL] at HCV hLb ⊢
  clear hnL
  have HKW : Hid (W.heap.size ≤ w2.heap.size) := hid HB2.out.size
  go_wp2_with fail
  go_loopw [16] (fun t wr => ∃ (k : Nat), k ≤ nL ∧ t = .int .i64 k ∧ Hid (∃ q X, J ((L.take k).filter fun y => x.all p y) X ∧ KT W.heap.size X wr ∧ LG x W.heap.size wr bB bH cu cc (.slice ap np cp) vb (.slice av nv cv) p q ∧ ∀ j, j < nh → q j < (x.vl p j).length ∧ (k < nL → ∀ m, m < q j → (x.vl p j).getD m 0 < L.getD k 0))) (fun t _ => nL - (intOf t).toNat)
  case atStart => exact ⟨0, Nat.zero_le _, rfl, hid ⟨_, W, H0.out, KT.of_below HB2.out (Nat.le_refl _), HL2.out, fun j hj => ⟨by
      obtain ⟨h1, h2, -⟩ := x.tk_ok p (j := j) (by rw [← HNH.out]; exact hj)
      exact HM.out.more p (by rw [← HNP.out]; exact hp) HD.out _ h1 h2, fun _ m hm => by omega⟩⟩⟩
  case round =>
    clear HL2 HB2 H0 HKW
    obtain ⟨k, hk, rfl, HT⟩ := hrel
    by_cases hlt : k < nL
    · have i1 : (k : Int) < (nL : Int) := by omega
      obtain ⟨q0, X0, hJ0, hKT0, hLG0, hP0⟩ := HT.out
      have cv1 := HCV.out wr q0 hLG0 k hlt
      have HJ0 : Hid (∃ q X, J ((L.take k).filter fun y => x.all p y) X ∧ KT W.heap.size X wr ∧ LG x W.heap.size wr bB bH cu cc (.slice ap np cp) vb (.slice av nv cv) p q ∧ (∀ j, j < nh → q j < (x.vl p j).length ∧ ∀ m, m < q j → (x.vl p j).getD m 0 < L.getD k 0) ∧ ∀ j, j < 0 → (x.vl p j).getD (q j) 0 = L.getD k 0) := hid ⟨q0, X0, hJ0, hKT0, hLG0, fun j hj => ⟨(hP0 j hj).1, (hP0 j hj).2 hlt⟩, fun j hj => by omega⟩
      have HYL : Hid (L.getD k 0 ∈ L) := hid (mem_getD (by rw [← HNL.out]; exact hlt))
      have HNXT : Hid (∀ k', k < k' → k' < nL → L.getD k 0 < L.getD k' 0) := hid fun k' h1 h2 => asc_of HASC.out k k' h1 (by rw [← HNL.out]; exact h2)
      have HTK : Hid (L.take (k + 1) = L.take k ++ [L.getD k 0]) := hid (take_snoc (by rw [← HNL.out]; exact hlt))
      clear hJ0 hKT0 hLG0 hP0 HT
      obtain ⟨yv, hyv⟩ : ∃ yv, yv = L.getD k 0 := ⟨_, rfl⟩
      have HYV := hid hyv
      rw [← hyv] at cv1 HJ0 HYL HNXT HTK
      clear hyv
      generalize wr = wo at *
      go_upto_region 5 with (first | go_step3 | fail)
      clear cv1
      go_wp2_with fail
      go_loopw [7, 22] (fun v7 t wr => ∃ (i : Nat), i ≤ nh ∧ v7 = .int .i64 i ∧ t = .int .i64 i ∧ Hid (∃ q X, J ((L.take k).filter fun y => x.all p y) X ∧ KT W.heap.size X wr ∧ LG x W.heap.size wr bB bH cu cc (.slice ap np cp) vb (.slice av nv cv) p q ∧ (∀ j, j < nh → q j < (x.vl p j).length ∧ ∀ m, m < q j → (x.vl p j).getD m 0 < yv) ∧ ∀ j, j < i → (x.vl p j).getD (q j) 0 = yv)) (fun _ t _ => nh - (intOf t).toNat)
      case atStart => exact ⟨0, Nat.zero_le _, rfl, rfl, HJ0⟩
      case round =>
        clear HJ0
        obtain ⟨i, hin, rfl, rfl, HT⟩ := hrel
        obtain ⟨q, X, hJq, hKT, hLGq, hPq, hSq⟩ := HT.out
        have HJq := hid hJq
        have HKT := hid hKT
        have HLGq := hid hLGq
        have HPq := hid hPq
        have HSq := hid hSq
        clear HT hJq hKT hLGq hPq hSq
        by_cases hlt2 : i < nh
        · have i2 : (i : Int) < (nh : Int) := by omega
          have hinh : i < x.nh p := by rw [← HNH.out]; exact hlt2
          have KSk := hid (HLGq.out.seek_calls HX.out HM.out (by rw [← HNP.out]; exact hp) HD.out hinh yv (HPq.out i hlt2).1 (HPq.out i hlt2).2)
          go_upto_region 10 with (first | (go_at_call 89; refine KSk.out.mono ?_; rintro e w5 ⟨⟨v5, rfl⟩, vq, hSk⟩) | fail)
          have HSk := hid hSk
          clear hSk KSk
          have HKT5 := hid (HKT.out.trans HSk.out.kt)
          have KE := hid (HSk.out.lg.ended_calls HM.out (by rw [← HNP.out]; exact hp) HD.out hinh)
          have evq : (if i = i then vq else q i) = vq := if_pos rfl
          rw [evq] at KE
          by_cases hend : vq = (x.vl p i).length
          · rw [decide_eq_true hend] at KE
            have HF : Hid (∀ d, J (nxt p) (w5.drewN d)) := hid fun d => by
              have hrest : nxt p = (L.take k).filter fun y => x.all p y := by
                rw [HNX.out]
                conv => lhs; rw [← List.take_append_drop k L]
                rw [List.filter_append]
                have : (L.drop k).filter (fun y => x.all p y) = [] := List.filter_eq_nil_iff.2 fun z hz hall => by
                  obtain ⟨m, hm1, hm2⟩ := List.getElem_of_mem hz
                  rw [List.length_drop] at hm1
                  rw [List.getElem_drop] at hm2
                  have hge : yv ≤ z := by
                    by_cases e : m = 0
                    · subst e
                      rw [HYV.out, List.getD_eq_getElem?_getD, List.getElem?_eq_getElem (by rw [← HNL.out]; exact hlt), ← hm2]
                      exact Int.le_refl _
                    · have := HNXT.out (k + m) (by omega) (by rw [HNL.out]; omega)
                      rw [List.getD_eq_getElem?_getD, List.getElem?_eq_getElem (by omega)] at this
                      have h9 : (some L[k + m]).getD 0 = z := hm2
                      rw [h9] at this
                      omega
                  unfold JX.all at hall
                  rw [List.all_eq_true] at hall
                  have hzi := of_decide_eq_true (hall i (List.mem_range.2 hinh))
                  obtain ⟨m', hm', e'⟩ := getD_mem hzi
                  have := HSk.out.lo m' (by omega)
                  omega
                rw [this, List.append_nil]
              rw [hrest]
              exact HJ.out _ _ _ HJq.out (HKT5.out.trans (KT.of_below (below_drewN (Below.refl _ _) d) (by have := HKT5.out.bel.size; have := HWn.out; have h8 := HSk.out.lg.cur.lt cu rfl; omega)))
            go_wp2_with (first | (go_at_call 90; refine KE.out.mono ?_; rintro e w6 ⟨rfl, d6, rfl⟩) | fail)
            simp only [Exit.noGoto, Exit.inBlock, Exit.then]
            refine bodyPost_ret (P := Tryz.prog) (fn := Tryz.f86) (R := fun e W' => (∃ v, e = .returned v) ∧ (J (nxt p) W' ∨ Jx W')) (results_none rfl _ _ _) rfl ?_
            exact ⟨⟨_, rfl⟩, Or.inl (HF.out d6)⟩
          · rw [decide_eq_false hend] at KE
            have hvq : vq < (x.vl p i).length := by have := HSk.out.le; omega
            have KV : Hid (∀ d, Calls Tryz.prog 91 #[.pointer (some ⟨cu, i * 2, none⟩)] (w5.drewN d) fun e w' => e = .returned (.int .i64 ((x.vl p i).getD vq 0)) ∧ ∃ d', w' = (w5.drewN d).drewN d') := hid fun d => by
              have := (HSk.out.lg.below HX.out (below_drewN (Below.refl _ _) d)).value_calls HM.out (by rw [← HNP.out]; exact hp) HD.out hinh (by rw [if_pos rfl]; exact hvq)
              rw [if_pos rfl] at this
              exact this
            have HKd : Hid (∀ d, KT W.heap.size X (w5.drewN d) ∧ LG x W.heap.size (w5.drewN d) bB bH cu cc (.slice ap np cp) vb (.slice av nv cv) p (fun j => if j = i then vq else q j)) := hid fun d => ⟨HKT5.out.trans (KT.of_below (below_drewN (Below.refl _ _) d) (by have h8 := HSk.out.lg.cur.lt cu rfl; omega)), HSk.out.lg.below HX.out (below_drewN (Below.refl _ _) d)⟩
            have HPn : Hid (∀ j, j < nh → (if j = i then vq else q j) < (x.vl p j).length ∧ ∀ m, m < (if j = i then vq else q j) → (x.vl p j).getD m 0 < yv) := hid fun j hj => by
              by_cases e : j = i
              · subst e
                rw [if_pos rfl]
                exact ⟨hvq, HSk.out.lo⟩
              · rw [if_neg e]
                exact HPq.out j hj
            obtain ⟨z, hz⟩ : ∃ z, z = (x.vl p i).getD vq 0 := ⟨_, rfl⟩
            rw [← hz] at KV
            by_cases hzy : z = yv
            · have HSn : Hid (∀ j, j < i + 1 → (x.vl p j).getD (if j = i then vq else q j) 0 = yv) := hid fun j hj => by
                by_cases e : j = i
                · subst e
                  rw [if_pos rfl, ← hz]
                  exact hzy
                · rw [if_neg e]
                  exact HSq.out j (by omega)
              have q1 : (z != yv) = false := by simp [hzy]
              clear hz hzy
              go_wp2_with (first | (go_at_call 90; refine KE.out.mono ?_; rintro e w6 ⟨rfl, d6, rfl⟩) | (go_at_call 91; refine (KV.out d6).mono ?_; rintro e w7 ⟨rfl, d7, rfl⟩) | fail)
              have HN : Hid (∃ q X, J ((L.take k).filter fun y => x.all p y) X ∧ KT W.heap.size X (w5.drewN (d6 + d7)) ∧ LG x W.heap.size (w5.drewN (d6 + d7)) bB bH cu cc (.slice ap np cp) vb (.slice av nv cv) p q ∧ (∀ j, j < nh → q j < (x.vl p j).length ∧ ∀ m, m < q j → (x.vl p j).getD m 0 < yv) ∧ ∀ j, j < i + 1 → (x.vl p j).getD (q j) 0 = yv) := hid ⟨_, X, HJq.out, (HKd.out (d6 + d7)).1, (HKd.out (d6 + d7)).2, HPn.out, HSn.out⟩
              go_roundw
              case rel => exact ⟨i + 1, by omega, by go_num, by go_num, HN⟩
              case measure => simp [intOf]; omega
            · have q1 : (z != yv) = true := by simp [hzy]
              have HFl : Hid ((L.take (k + 1)).filter (fun y => x.all p y) = (L.take k).filter fun y => x.all p y) := hid (by
                rw [HTK.out, List.filter_append]
                have : [yv].filter (fun y => x.all p y) = [] := List.filter_eq_nil_iff.2 fun y hy hall => by
                  rw [List.mem_singleton] at hy
                  subst hy
                  unfold JX.all at hall
                  rw [List.all_eq_true] at hall
                  have hzi := of_decide_eq_true (hall i (List.mem_range.2 hinh))
                  obtain ⟨m', hm', e'⟩ := getD_mem hzi
                  obtain ⟨h1, h2, -⟩ := x.tk_ok p (j := i) hinh
                  have hasc := asc_of (HM.out.asc _ h1 _ (HD.out _ h1))
                  rcases Nat.lt_trichotomy m' vq with h | h | h
                  · have := HSk.out.lo m' h; omega
                  · rw [h] at e'; exact hzy (hz.trans e')
                  · have h3 := HSk.out.hi vq (Nat.le_refl _) hvq
                    have h4 := hasc vq m' h hm'
                    have h5 : (x.N (x.tk p i) (prt (x.H (x.tk p i)) p)).getD m' 0 = y := e'
                    have h6 : y ≤ (x.N (x.tk p i) (prt (x.H (x.tk p i)) p)).getD vq 0 := h3
                    omega
                rw [this, List.append_nil])
              have qs : ((i : Int) == (nh : Int)) = false := by simp; omega
              clear hz hzy
              go_upto_region 14 with (first | (go_at_call 90; refine KE.out.mono ?_; rintro e w6 ⟨rfl, d6, rfl⟩) | (go_at_call 91; refine (KV.out d6).mono ?_; rintro e w7 ⟨rfl, d7, rfl⟩) | fail)
              have HN : Hid (∃ q X, J ((L.take (k + 1)).filter fun y => x.all p y) X ∧ KT W.heap.size X (w5.drewN (d6 + d7)) ∧ LG x W.heap.size (w5.drewN (d6 + d7)) bB bH cu cc (.slice ap np cp) vb (.slice av nv cv) p q ∧ ∀ j, j < nh → q j < (x.vl p j).length ∧ (k + 1 < nL → ∀ m, m < q j → (x.vl p j).getD m 0 < L.getD (k + 1) 0)) := hid ⟨_, X, by rw [HFl.out]; exact HJq.out, (HKd.out (d6 + d7)).1, (HKd.out (d6 + d7)).2, fun j hj => ⟨(HPn.out j hj).1, fun hk1 m hm => by
                have h1 := (HPn.out j hj).2 m hm
                have h2 := HNXT.out (k + 1) (by omega) hk1
                omega⟩⟩
              go_wp2_with fail
              simp only [Exit.noGoto, Exit.inBlock, Exit.then]
              go_wp2_with fail
              go_roundw
              case rel => exact ⟨k + 1, by omega, by go_num, HN⟩
              case measure => simp [intOf]; omega
        · obtain rfl : i = nh := by omega
          have i2 : ¬ ((i : Int) < (i : Int)) := by omega
          have qs : ((i : Int) == (i : Int)) = true := by simp
          have HFl : Hid ((L.take (k + 1)).filter (fun y => x.all p y) = ((L.take k).filter fun y => x.all p y) ++ [yv]) := hid (by
            rw [HTK.out, List.filter_append]
            have : x.all p yv = true := by
              unfold JX.all
              rw [List.all_eq_true]
              intro j hj
              have hj' : j < i := by rw [HNH.out]; exact List.mem_range.1 hj
              refine decide_eq_true ?_
              rw [← HSq.out j hj']
              exact mem_getD (HPq.out j hj').1
            rw [List.filter_cons, if_pos this]
            rfl)
          have HYN : Hid (((L.take k).filter fun y => x.all p y) ++ [yv] <+: nxt p) := hid (by rw [HNX.out, ← HFl.out]; exact (List.take_prefix _ _).filter _)
          go_upto_region 14 with fail
          refine (wpIn_wide (n := 0)).1 ?_
          have b0 := HLGq.out.bx.c0
          have b1 := HLGq.out.bx.c1
          have b2 : wr.cell? ⟨bH, 0, none⟩ = some (.slice av nv cv) := by rw [cell_of_row _ _ _ _ _ _ HLGq.out.bh]; rfl
          have KWi : Hid (Calls Tryz.prog 92 #[.agg #[.slice ap np cp, vb], .int .i64 yv, .slice av nv cv, .slice (some ⟨cu, 0, none⟩) i cc] wr fun e w' => ∃ g c g' c', e = .returned (.agg #[.slice (some ⟨g, 0, none⟩) (np + 1) c, .slice (some ⟨g', 0, none⟩) nT c']) ∧ Below wr.heap.size wr w' ∧ Brn x X.heap.size w' (.slice (some ⟨g, 0, none⟩) (np + 1) c) (.slice (some ⟨g', 0, none⟩) nT c') (p ++ [yv])) := hid (by
            have hL := HLGq.out
            have hpno : p.length < no := by rw [← HNP.out]; exact hp
            have hhl := HM.out.hl
            have hhv := HM.out.hav p.length hpno
            have hnhe : (x.hav.getD p.length []).length = i := by rw [hhv, HNH.out]; rfl
            have eb : vb = .slice (some ⟨bb, 0, none⟩) nT cb := by rw [HNT.out]; exact HEBB.out
            have hb := hL.brn.bel
            rw [eb, ← HNT.out] at hb
            have hts : IS wr (.slice av nv cv) (x.hav.getD p.length []) := by rw [HVT.out]; exact own_is (hL.dat.hq.each p.length (by rw [hhl]; exact hpno))
            have hXs : X.heap.size ≤ wr.heap.size := HKT.out.bel.size
            have hpre : wr.ownsRow x.n0 3 1 (.slice ap np cp) p.length (p.map (Value.int .i64)) := hL.brn.pre
            have hi0 : 0 < i := hnh0
            have hT0 : 0 < nT := by rw [HNT.out]; have := (x.tk_ok p (j := 0) (by rw [← HNH.out]; exact hi0)).1; omega
            have := with_calls wr x.n0 x.n0 bb nT cb cu cc (.slice ap np cp) (.slice av nv cv) p (x.hav.getD p.length []) (x.bel p) yv (fun j => x.f (x.tk p j) (prt (x.H (x.tk p j)) p ++ [yv])) hpre (by have := HM.out.lo; omega) hb (bel_one x p) hT0 (by rw [HNT.out]; exact HM.out.lT) hts (by rw [hnhe]; exact hnh)
              (fun j hj => by
                rw [hnhe, HNH.out] at hj
                obtain ⟨h1, -, h3⟩ := x.tk_ok p hj
                rw [hhv, h3, HNT.out]
                omega)
              (fun W' hW' j hj => by
                rw [hnhe] at hj
                exact (hL.below HX.out hW').below_calls HM.out hpno HD.out (by rw [← HNH.out]; exact hj) (HPq.out j hj).1 (HSq.out j hj))
            rw [hnhe, ← eb] at this
            refine this.mono ?_
            rintro e w' ⟨g, c, g', c', rfl, ho1, ho2, hb'⟩
            rw [HNH.out, updB_all x p _ yv hhv, HNT.out] at ho2
            rw [← HNP.out] at ho1
            refine ⟨g, c, g', c', by rw [← HNP.out], hb', ⟨?_, ?_⟩⟩
            · rw [List.length_append, List.length_singleton, ← HNP.out]
              exact own_base ho1 hXs
            · rw [HNT.out]
              exact own_base ho2 hXs)
          have HKB : Hid (∀ w8, Below wr.heap.size wr w8 → KT W.heap.size X w8 ∧ LG x W.heap.size w8 bB bH cu cc (.slice ap np cp) vb (.slice av nv cv) p q) := hid fun w8 hb8 => ⟨HKT.out.trans (KT.of_below hb8 (by have h8 := HLGq.out.cur.lt cu rfl; omega)), HLGq.out.below HX.out hb8⟩
          have HNPT : Hid (np = p.length ∧ nT = x.nT) := hid ⟨HNP.out, HNT.out⟩
          gi_wp2_with (first | (refine ⟨trivial, rfl, ?_⟩; gi_at_call 92; refine (callsIn_wide.2 KWi.out).mono ?_; rintro e w8 ⟨g8, c8, g8', c8', rfl, hb8, hbr8⟩; obtain ⟨fn, tmps, assign, body, hy, hR⟩ := HYy.out _ yv (.slice (some ⟨g8, 0, none⟩) (np + 1) c8, .slice (some ⟨g8', 0, none⟩) nT c8') X w8 HJq.out (HKB.out w8 hb8).1 ⟨hbr8, HYN.out, ⟨g8, c8, by rw [← HNPT.out.1]⟩, ⟨g8', c8', by rw [← HNPT.out.2]⟩⟩; dsimp only [encB] at hy) | fail)
          have HL8 := hid (HKB.out w8 hb8).2
          refine ⟨rfl, ?_⟩
          refine hR.mono ?_
          rintro e w9 (⟨rfl, hJ9, hK9⟩ | ⟨rfl, hJx9, -⟩)
          · have HN : Hid (∃ q X, J ((L.take (k + 1)).filter fun y => x.all p y) X ∧ KT W.heap.size X w9 ∧ LG x W.heap.size w9 bB bH cu cc (.slice ap np cp) vb (.slice av nv cv) p q ∧ ∀ j, j < i → q j < (x.vl p j).length ∧ (k + 1 < nL → ∀ m, m < q j → (x.vl p j).getD m 0 < L.getD (k + 1) 0)) := hid ⟨q, w9, by rw [HFl.out]; exact hJ9, KT.refl _ _, HL8.out.kp HX.out hK9, fun j hj => ⟨(HPq.out j hj).1, fun hk1 m hm => by
              have h1 := (HPq.out j hj).2 m hm
              have h2 := HNXT.out (k + 1) (by omega) hk1
              omega⟩⟩
            clear hJ9 hK9 hR hy
            gi_wp2
            go_wp2_with fail
            simp only [Exit.noGoto, Exit.inBlock, Exit.then]
            go_wp2_with fail
            go_roundw
            case rel => exact ⟨k + 1, by omega, by go_num, HN⟩
            case measure => simp [intOf]; omega
          · clear hR hy
            gi_wp2
            go_wp2_with fail
            simp only [Exit.noGoto, Exit.inBlock, Exit.then]
            refine bodyPost_ret (P := Tryz.prog) (fn := Tryz.f86) (R := fun e W' => (∃ v, e = .returned v) ∧ (J (nxt p) W' ∨ Jx W')) (results_none rfl _ _ _) rfl ?_
            exact ⟨⟨_, rfl⟩, Or.inr hJx9⟩
    · obtain rfl : k = nL := by omega
      have i1 : ¬ ((k : Int) < (k : Int)) := by omega
      obtain ⟨q, X, hJ1, hKT1, hLG1, -⟩ := HT.out
      have HF : Hid (J (nxt p) wr) := hid (by
        have := HJ.out _ _ _ hJ1 hKT1
        rw [HNL.out, List.take_length, ← HNX.out] at this
        exact this)
      clear hJ1 hKT1 hLG1 HT
      go_wp2_with fail
      go_end0
      exact ⟨⟨_, rfl⟩, Or.inl HF.out⟩

end Go.Proofs.YtoodbpijgnbfjaaGreat

namespace Go.Proofs.YtoodbpijgnbfjaaGreat
open Go.RowKit Meet

set_option maxHeartbeats 400000 in
theorem prefixes_calls (w : World) (a0 a1 : Option Addr) (n0 c0 n1 c1 : Nat) :
    Calls Tryz.prog 20 #[.slice a0 n0 c0, .slice a1 n1 c1] w fun e w' => e = .returned (.func (.func 36) #[] #[.pointer (some ⟨w.heap.size, 0, none⟩), .pointer (some ⟨w.heap.size + 1, 0, none⟩)]) ∧ w' = (w.alloc (.cells #[.slice a0 n0 c0] 39)).alloc (.cells #[.slice a1 n1 c1] 33) := by
  go_enter Tryz.func20, Tryz.ntmps20
  go_wp2
  go_ret
  exact ⟨rfl, rfl⟩

def jx0 (h r v : Nat) : JX := mkX h r v 0 [] [] (fun _ _ => 0) (fun _ _ => undef) (fun _ _ => undef) undef []
section
variable {h r v n0 : Nat} {tl : List TbV} {o : List Int} {f : Nat → List Int → Nat} {g0 g1 : Nat → List Int → Value} {hv : Value} {uh : List Value} {S : Nat → Prop} {X Y : World}
theorem kp0 (k : KpS (jx0 h r v) S X Y) : KpS (mkX h r v n0 tl o f g0 g1 hv uh) S X Y := ⟨k.os, k.tape, k.output, k.size, k.same, k.fresh, k.typ⟩
end
def PreP (no : Nat) (tot pre : List (List Int)) (p : List Int) (vp : Value) (X Y : World) : Prop := Y.ownsRow X.heap.size 3 1 vp p.length (p.map (Value.int .i64)) ∧ p.length ≤ no ∧ (∃ g c, vp = .slice (some ⟨g, 0, none⟩) p.length c) ∧ pre ++ [p] <+: tot
def preJ (tl : List TbV) (o : List Int) : List (List Int) := if empJ tl then [] else dfsF (nxJ tl o) o.length []

theorem nil_emp {tl : List TbV} {o : List Int} {B : Nat} {W : World} {cs : List (Option Addr)} (hl : cs.length = tl.length) (hT : ∀ t, t < tl.length → TrO B W ((tl.map fun t => (sdT o t).rows).getD t []) (cs.getD t none)) : nilIn cs = empJ tl := by
  have hT' : ∀ t, t < tl.length → TrO B W (sdT o (tl.getD t noTv)).rows (cs.getD t none) := fun t ht => by
    have := hT t ht
    rw [List.getD_eq_getElem?_getD, List.getElem?_map, List.getElem?_eq_getElem ht] at this
    have e3 : tl.getD t noTv = tl[t] := by rw [List.getD_eq_getElem?_getD, List.getElem?_eq_getElem ht]; rfl
    rw [e3]
    exact this
  have hE : ∀ t : TbV, (sdT o t).rows = [] ↔ t.rows.length = 0 := fun t => by
    constructor
    · intro h
      by_cases e : t.rows = []
      · rw [e]; rfl
      · exact absurd h (srt_ne (by simpa using e))
    · intro h
      have : t.rows = [] := List.eq_nil_of_length_eq_zero h
      show srt (t.rows.map _) = []
      rw [this]
      exact srt_short (by simp)
  unfold nilIn empJ
  rw [Bool.eq_iff_iff, decide_eq_true_eq, List.any_eq_true]
  constructor
  · intro h
    obtain ⟨i, hi, e⟩ := List.getElem_of_mem h
    have hi' : i < tl.length := by omega
    refine ⟨tl.getD i noTv, getD_in hi', decide_eq_true ?_⟩
    have h1 := hT' i hi'
    have e2 : cs.getD i none = none := by rw [List.getD_eq_getElem?_getD, List.getElem?_eq_getElem hi]; exact e
    rw [e2] at h1
    rcases h1 with ⟨h2, -⟩ | ⟨-, D, N, f, g0, g1, h2, -⟩
    · exact (hE _).1 h2
    · cases h2
  · rintro ⟨t, ht, h1⟩
    obtain ⟨i, hi, rfl⟩ := List.getElem_of_mem ht
    have h2 := hT' i hi
    have e3 : tl.getD i noTv = tl[i] := by rw [List.getD_eq_getElem?_getD, List.getElem?_eq_getElem hi]; rfl
    rw [e3] at h2
    have h3 := (hE _).2 (of_decide_eq_true h1)
    rcases h2 with ⟨-, h4⟩ | ⟨h4, -⟩
    · rw [List.getD_eq_getElem?_getD, List.getElem?_eq_getElem (by omega)] at h4
      have : cs[i]'(by omega) ∈ cs := List.getElem_mem _
      have h5 : cs[i]'(by omega) = none := h4
      rw [h5] at this
      exact this
    · exact absurd h3 h4
theorem roots_of {tl : List TbV} {o : List Int} {B : Nat} {W : World} {cs : List (Option Addr)} (hl : cs.length = tl.length) (hT : ∀ t, t < tl.length → TrO B W ((tl.map fun t => (sdT o t).rows).getD t []) (cs.getD t none)) (hne : empJ tl = false) :
    ∃ (f : Nat → List Int → Nat) (g0 g1 : Nat → List Int → Value), cs = (List.range tl.length).map (fun t => some ⟨f t [], 0, none⟩) ∧ ∀ t, t < tl.length → TR W B (fun p => p = [] ∨ ∃ r ∈ (sdT o (tl.getD t noTv)).rows, p <+: r) (nN (sdT o (tl.getD t noTv)).vars.length (sdT o (tl.getD t noTv)).rows) (nN (sdT o (tl.getD t noTv)).vars.length (sdT o (tl.getD t noTv)).rows) (f t) (g0 t) (g1 t) := by
  have hne' := hne
  rw [← nil_emp hl hT] at hne'
  have hn : none ∉ cs := of_decide_eq_false hne'
  have hT' : ∀ t, t < tl.length → ∃ f g0 g1, cs.getD t none = some ⟨f [], 0, none⟩ ∧ TR W B (fun p => p = [] ∨ ∃ r ∈ (sdT o (tl.getD t noTv)).rows, p <+: r) (nN (sdT o (tl.getD t noTv)).vars.length (sdT o (tl.getD t noTv)).rows) (nN (sdT o (tl.getD t noTv)).vars.length (sdT o (tl.getD t noTv)).rows) f g0 g1 := fun t ht => by
    have h1 := hT t ht
    rw [List.getD_eq_getElem?_getD, List.getElem?_map, List.getElem?_eq_getElem ht] at h1
    have e3 : tl.getD t noTv = tl[t] := by rw [List.getD_eq_getElem?_getD, List.getElem?_eq_getElem ht]; rfl
    rw [e3]
    rcases TrO.tr (h1 : TrO B W (sdT o tl[t]).rows _) with ⟨-, h2⟩ | ⟨-, h2⟩
    · exfalso
      rw [List.getD_eq_getElem?_getD, List.getElem?_eq_getElem (by omega)] at h2
      have h3 : cs[t]'(by omega) = none := h2
      have h4 : cs[t]'(by omega) ∈ cs := List.getElem_mem _
      rw [h3] at h4
      exact hn h4
    · exact h2
  have hC : ∀ t, ∃ fg : (List Int → Nat) × (List Int → Value) × (List Int → Value), t < tl.length → cs.getD t none = some ⟨fg.1 [], 0, none⟩ ∧ TR W B (fun p => p = [] ∨ ∃ r ∈ (sdT o (tl.getD t noTv)).rows, p <+: r) (nN (sdT o (tl.getD t noTv)).vars.length (sdT o (tl.getD t noTv)).rows) (nN (sdT o (tl.getD t noTv)).vars.length (sdT o (tl.getD t noTv)).rows) fg.1 fg.2.1 fg.2.2 := fun t => by
    by_cases ht : t < tl.length
    · obtain ⟨f, g0, g1, h⟩ := hT' t ht
      exact ⟨(f, g0, g1), fun _ => h⟩
    · exact ⟨(fun _ => 0, fun _ => undef, fun _ => undef), fun h => absurd h ht⟩
  obtain ⟨F, hF⟩ := Classical.axiomOfChoice hC
  refine ⟨fun t => (F t).1, fun t => (F t).2.1, fun t => (F t).2.2, ?_, fun t ht => (hF t ht).2⟩
  refine List.ext_getElem? fun i => ?_
  by_cases hi : i < tl.length
  · rw [List.getElem?_map, List.getElem?_range hi]
    have := (hF i hi).1
    rw [List.getD_eq_getElem?_getD, List.getElem?_eq_getElem (by omega)] at this
    rw [List.getElem?_eq_getElem (by omega)]
    exact congrArg some this
  · rw [List.getElem?_eq_none (by omega), List.getElem?_eq_none (by simp; omega)]

end Go.Proofs.YtoodbpijgnbfjaaGreat
