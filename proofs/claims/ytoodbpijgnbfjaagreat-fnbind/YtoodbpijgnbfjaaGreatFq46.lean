import Derived.Test.YtoodbpijgnbfjaaGreatFq45
namespace Go.Proofs.YtoodbpijgnbfjaaGreat
open Go.RowKit Meet

theorem TyR.below {x : JX} {X Y : World} (h : TyR x X) (hb : Below X.heap.size X Y) (hr : x.r < X.heap.size) : TyR x Y := fun k hk => by
  obtain ⟨cur, z, hc⟩ := h k ((RBk.eq (hb.block _ hr) k).1 hk)
  exact ⟨cur, z, (hb.block k (lt_some hc)).trans hc⟩
theorem TyR.old {x : JX} {X Y : World} (h : TyR x X) (hb : Below X.heap.size X Y) (hr : x.r < X.heap.size) {k : Nat} (hk : RBk x Y k) : k < X.heap.size := by
  obtain ⟨cur, z, hc⟩ := h k ((RBk.eq (hb.block _ hr) k).1 hk)
  exact lt_some hc

theorem start_of {h r v : Nat} {tl : List TbV} {o : List Int} {W w2 w3 w4 : World} {vp vb hvv : Value} {us : List Value} {cs : List (Option Addr)} {l : Nat} (hh : h < W.heap.size) (hr : r < W.heap.size) (hv : v < W.heap.size) (hl : l < W.heap.size) (hty : TyR (jx0 h r v) W)
    (hok : ∀ t ∈ tl, tabJ t = true) (hc : CovJ tl o) (hl1 : tl.length ≤ 1000) (hol : o.length ≤ 1000) (hne : empJ tl = false)
    (hcl : cs.length = tl.length) (hT : ∀ t, t < tl.length → TrO W.heap.size w2 ((tl.map fun t => (sdT o t).rows).getD t []) (cs.getD t none)) (hp : w2.ownsRow W.heap.size 3 1 vp 0 []) (hb : w2.ownsRow W.heap.size 96 1 vb tl.length (cs.map Value.pointer)) (hvp : ∃ g c, vp = .slice (some ⟨g, 0, none⟩) 0 c)
    (hB2 : Below W.heap.size W w2) (hB3 : Below w2.heap.size w2 w3) (hB4 : Below w3.heap.size w3 w4) (hQ : RQ w4 w3.heap.size hvv us (havJ tl o)) (hg : ∃ g, hvv.ownBlock = some g)
    (J : List (List Int) → World → Prop) (Jx : World → Prop) (hJ : ∀ s X Y, J s X → KT W.heap.size X Y → J s Y) (hJx : ∀ X Y, Jx X → KT W.heap.size X Y → Jx Y)
    (hY : ∀ pre x b X Y, J pre X → KT W.heap.size X Y → PreP o.length (preJ tl o) pre x b X Y → YieldAt Fence.wide 0 Tryz.prog l #[b] Y fun e Z => (e = .returned (.bool true) ∧ J (pre ++ [x]) Z ∧ KpS (jx0 h r v) (fun k => k = l) Y Z) ∨ (e = .returned (.bool false) ∧ Jx Z ∧ KpS (jx0 h r v) (fun k => k = l) Y Z))
    (h0 : J [] W) : Calls Tryz.prog 39 #[.agg #[vp, vb], hvv, .func (.yield l) #[] #[]] w4 fun e Z => (∃ b, e = .returned (.bool b)) ∧ (J (preJ tl o) Z ∨ Jx Z) := by
  obtain ⟨f, g0, g1, ecs, hTR⟩ := roots_of hcl hT hne
  have h24 := bt hB3 hB4
  have hW4 : Below W.heap.size W w4 := bt hB2 h24
  have hs2 := hB2.size
  have hs3 := hB3.size
  obtain ⟨x, ex⟩ : ∃ x, x = mkX h r v W.heap.size tl o f g0 g1 hvv us := ⟨_, rfl⟩
  have hx : x.Ok := by rw [ex]; exact ⟨hh, hr, hv⟩
  have hm : JMx x (nxJ tl o) o.length := by
    rw [ex]
    exact mkX_math (fun t ht => tabJ_ok (hok t ht)) (fun t ht e => by
      unfold empJ at hne
      rw [List.any_eq_false] at hne
      exact hne t ht (decide_eq_true (by rw [e]; rfl))) hc hl1 hol
  have hty' : TyR x W := by rw [ex]; exact hty
  have hrx : x.r < W.heap.size := by rw [ex]; exact hr
  have hdat : Dat x w4 := by
    refine ⟨hty'.below hW4 hrx, fun t ht => ?_, ?_, fun k hk hR => ?_⟩
    · rw [ex] at ht ⊢
      exact (hTR t ht).below h24
    · rw [ex]
      exact hQ.base (by show W.heap.size ≤ w3.heap.size; omega)
    · have h1 := hty'.old hW4 hrx hR
      have h2 : hvv.ownBlock = some k := by rw [ex] at hk; exact hk
      have := (hQ.own.lt k h2).1
      omega
  have hbrn : Brn x W.heap.size w4 vp vb [] := by
    refine ⟨own_below hp h24, ?_⟩
    have e1 : x.bel [] = cs.map Value.pointer := by
      rw [ecs, ex]
      unfold JX.bel
      rw [List.map_map]
      rfl
    rw [e1, ex]
    exact own_below hb h24
  have hhv : HVs x o.length 0 hvv := by
    obtain ⟨g, hg⟩ := hg
    have hlen : (havJ tl o).length = o.length := by unfold havJ; rw [List.length_map]
    rcases hQ.own.2 with ⟨e, -⟩ | ⟨g', cap, cur, e, -, -, hn, -⟩
    · rw [e] at hg; cases hg
    · rw [hlen] at e hn
      refine ⟨g', 0, cap, by rw [ex]; show hvv.ownBlock = _; rw [e]; rfl, e, fun _ => rfl, ?_⟩
      have : o.length ≤ cap := by omega
      omega
  have hln : l < x.n0 := by rw [ex]; exact hl
  have hnx : x.n0 = W.heap.size := by rw [ex]; rfl
  have hG : LgG x (nxJ tl o) o.length l := fun w bB bH vp vb p h1 h2 h3 h4 h5 h6 h7 h8 h9 => longer1_gives x hx (nxJ tl o) o.length hm l w bB bH vp vb p h1 h2 h3 h4 h5 h6 h7 h8 h9
  have hw := walk_calls x hx (nxJ tl o) o.length hm (fun p _ h2 y hy => by rw [ex] at h2 ⊢; exact mkX_snoc p h2 y hy) l hln hG (preJ tl o) J Jx (by rw [hnx]; exact hJ) (by rw [hnx]; exact hJx) (fun ps p vp X Y h1 h2 h3 h4 h5 h5' => by
    rw [hnx] at h2
    obtain ⟨fn, tmps, assign, body, hy, hR⟩ := hY ps p vp X Y h1 h2 ⟨h3, h4, h5, h5'⟩
    refine ⟨fn, tmps, assign, body, hy, hR.mono fun e Z h => ?_⟩
    rw [ex]
    rcases h with ⟨h6, h7, h8⟩ | ⟨h6, h7, h8⟩
    · exact Or.inl ⟨h6, h7, kp0 h8⟩
    · exact Or.inr ⟨h6, h7, kp0 h8⟩) o.length [] [] W w4 vp vb hvv (by simp) (by unfold preJ; rw [hne]; exact List.prefix_rfl) (by rw [ex]; exact (mkX_hd []).2 (hldJ_nil tl o)) (by rw [hnx]; exact Nat.le_refl _) h0 (by rw [hnx]; exact KT.of_below hW4 (Nat.le_refl _)) hdat hbrn hvp hhv
  refine hw.mono fun e Z h => ?_
  have ep : preJ tl o = [] ++ dfsF (nxJ tl o) o.length [] := by unfold preJ; rw [hne]; rfl
  rw [ep]
  rcases h with ⟨h1, h2, -⟩ | ⟨h1, h2, -⟩
  · exact ⟨⟨_, h1⟩, Or.inl h2⟩
  · exact ⟨⟨_, h1⟩, Or.inr h2⟩

set_option maxHeartbeats 2000000 in
set_option maxRecDepth 1000000 in
theorem prefixes1_gives (h r v : Nat) (w : World) (bT bO : Nat) (vt vo : Value) (tl : List TbV) (o : List Int) (hbT : w.heap[bT]? = some (.cells #[vt] 39 (0, 0))) (hbO : w.heap[bO]? = some (.cells #[vo] 33 (0, 0))) (hT : ITs w vt tl) (hO : IS w vo o) (hok : ∀ t ∈ tl, tabJ t = true) (hc : CovJ tl o) (hl : tl.length ≤ 1000) (hol : o.length ≤ 1000) (hh : h < w.heap.size) (hr : r < w.heap.size) (hv : v < w.heap.size) (hty : TyR (jx0 h r v) w) :
    Gives Tryz.prog 36 #[.pointer (some ⟨bT, 0, none⟩), .pointer (some ⟨bO, 0, none⟩)] (fun vp => #[vp]) (fun l => KpS (jx0 h r v) fun k => k = l) (fun l => KpS (jx0 h r v) fun k => k = l) (PreP o.length (preJ tl o)) (preJ tl o) w := by
  intro l J Jx W hBw hlW hwl hJ hJx hY h0
  show Calls _ _ #[.func (.yield l) #[] #[], .pointer (some ⟨bT, 0, none⟩), .pointer (some ⟨bO, 0, none⟩)] W _
  have hs := hBw.size
  have HC : Hid (∀ W', Below W.heap.size W W' → W'.cell? ⟨bT, 0, none⟩ = some vt ∧ W'.cell? ⟨bO, 0, none⟩ = some vo ∧ Below W.heap.size W W') := hid fun W' hW' => by
    have hb := (hBw).trans (hW'.mono hs)
    exact ⟨by rw [cell_of_row _ _ _ _ _ _ ((hb.block _ (lt_some hbT)).trans hbT)]; rfl, by rw [cell_of_row _ _ _ _ _ _ ((hb.block _ (lt_some hbO)).trans hbO)]; rfl, hW'⟩
  have KRw : Hid (∀ W', Below W.heap.size W W' → Calls Tryz.prog 37 #[vt, vo] W' fun e w' => ∃ (g c : Nat) (vb : Value) (cs : List (Option Addr)), e = .returned (.agg #[.slice (some ⟨g, 0, none⟩) 0 c, vb]) ∧ w'.ownsRow W.heap.size 3 1 (.slice (some ⟨g, 0, none⟩) 0 c) 0 [] ∧ w'.ownsRow W.heap.size 96 1 vb tl.length (cs.map Value.pointer) ∧ cs.length = tl.length ∧ (∀ t, t < tl.length → TrO W.heap.size w' ((tl.map fun t => (sdT o t).rows).getD t []) (cs.getD t none)) ∧ Below W.heap.size W w') := hid fun W' hW' => by
    have hb := (hBw).trans (hW'.mono hs)
    refine (rootOf_calls W' vt vo tl o (hT.below hb) (hO.below hb) hl hol hok).mono ?_
    rintro e w' ⟨g, c, vb, cs, rfl, h1, h2, h3, h4, h5⟩
    refine ⟨g, c, vb, cs, rfl, own_base h1 hW'.size, own_base h2 hW'.size, h3, fun t ht => ?_, bt hW' h5⟩
    rcases h4 t ht with h6 | ⟨h6, D, N, f, g0, g1, h7, h8, h9, h10⟩
    · exact Or.inl h6
    · exact Or.inr ⟨h6, D, N, f, g0, g1, h7, h8, h9.base hW'.size, h10⟩
  have KW : Hid (∀ W', Below W.heap.size W W' → Calls Tryz.prog 40 #[vo, vt] W' fun e w' => ∃ v us, e = .returned v ∧ RQ w' W'.heap.size v us (havJ tl o) ∧ (∃ g, v.ownBlock = some g) ∧ Below W'.heap.size W' w') := hid fun W' hW' => by
    have hb := (hBw).trans (hW'.mono hs)
    exact tablesWith_calls W' vt vo tl o (hT.below hb) (hO.below hb) hl hol (fun t ht => by have := (tabJ_ok (hok t ht)).vs; omega)
  have HE : Hid (∀ e Z, ((∃ b, e = Ending.returned (.bool b)) ∧ (J (preJ tl o) Z ∨ Jx Z)) → J (preJ tl o) Z ∨ Jx Z) := hid fun e Z h => h.2
  have HN : Hid (∀ Z, Below W.heap.size W Z → empJ tl = true → J (preJ tl o) Z) := hid fun Z hZ he => by
    have : preJ tl o = [] := by unfold preJ; rw [he]; rfl
    rw [this]
    exact hJ _ _ _ h0 (KT.of_below hZ (Nat.le_refl _))
  have hty' : TyR (jx0 h r v) W := hty.below hBw hr
  have HK := hid (fun (w2 w3 w4 : World) (vp vb hvv : Value) (us : List Value) (cs : List (Option Addr)) a1 a2 a3 a4 a5 a6 a7 a8 a9 a10 a11 => start_of (W := W) (w2 := w2) (w3 := w3) (w4 := w4) (vp := vp) (vb := vb) (hvv := hvv) (us := us) (cs := cs) (l := l) (by omega) (by omega) (by omega) hlW hty' hok hc hl hol a1 a2 a3 a4 a5 a6 a7 a8 a9 a10 a11 J Jx hJ hJx hY h0)
  obtain ⟨at', ct, evt, -⟩ := hT
  obtain ⟨ao, co, evo, -⟩ := hO
  subst evt evo
  clear hbT hbO hok hc hJ hJx hY h0 hty hty' hBw hol hh hr hv hlW hwl
  obtain ⟨n, hn⟩ : ∃ n, n = tl.length := ⟨_, rfl⟩
  rw [← hn] at HC KRw KW hl HK
  have HNL := hid hn
  clear hn
  obtain ⟨no, hno⟩ : ∃ no, no = o.length := ⟨_, rfl⟩
  rw [← hno] at HC KRw KW
  clear hno
  go_enter Tryz.func36, Tryz.ntmps36
  obtain ⟨cT, cO, -⟩ := HC.out W (Below.refl _ _)
  go_upto_region 1 with (first | (go_at_call 37; refine (KRw.out _ (by first | exact Below.refl _ _ | exact (Below.refl _ _).drew | exact bl_alloc (Below.refl _ _) _)).mono ?_; rintro e w2 ⟨g2, c2, vb, cs, rfl, ho2, hb2, hl2, hT2, hB2⟩; obtain ⟨ab, cb, eb⟩ := own_shapeJ hb2; subst eb) | fail)
  obtain ⟨W3, hW3⟩ : ∃ W3, W3 = w2.alloc (.cells #[.slice (some ⟨g2, 0, none⟩) 0 c2, .slice ab n cb] 93) := ⟨_, rfl⟩
  have hb3 : Below w2.heap.size w2 W3 := by rw [hW3]; exact bl_alloc (Below.refl _ _) _
  have hx3 : BrX W3 w2.heap.size (.slice (some ⟨g2, 0, none⟩) 0 c2) (.slice ab n cb) := by rw [hW3]; exact BrX.new w2 _ _
  rw [← hW3]
  clear hW3
  have k1 := hx3.c1
  have KC := hid (nilContains_calls W3 W.heap.size n (.slice ab n cb) cs (own_below hb2 hb3) hl2 (by omega))
  have HEM : Hid (nilIn cs = empJ tl) := hid (nil_emp (by rw [hl2]; exact HNL.out) (by rw [← HNL.out]; exact hT2))
  rw [HEM.out] at KC
  have hB3 : Below W.heap.size W W3 := bt hB2 hb3
  have HX3 := hid hx3
  have HSS : Hid (∀ W', Below W3.heap.size W3 W' → W'.cell? ⟨w2.heap.size, 0, none⟩ = some (.slice (some ⟨g2, 0, none⟩) 0 c2) ∧ W'.cell? ⟨w2.heap.size, 1, none⟩ = some (.slice ab n cb) ∧ W'.cell? ⟨bT, 0, none⟩ = some (.slice at' n ct) ∧ W'.cell? ⟨bO, 0, none⟩ = some (.slice ao no co) ∧ Below W3.heap.size W3 W') := hid fun W' hW' => ⟨(HX3.out.below hW').c0, (HX3.out.below hW').c1, (HC.out W' (bt hB3 hW')).1, (HC.out W' (bt hB3 hW')).2.1, hW'⟩
  clear hx3 cT cO
  cases hem : empJ tl with
  | true =>
    rw [hem] at KC
    have HFin : Hid (J (preJ tl o) W3 ∨ Jx W3) := hid (Or.inl (HN.out _ hB3 hem))
    clear hem HN HK KW KRw HC HE HEM
    go_wp2_with (first | (go_at_call 38; refine KC.out.mono ?_; rintro e w' ⟨rfl, hw⟩; obtain rfl : W3 = w' := hw.symm) | fail)
    go_end0
    exact ⟨⟨_, rfl⟩, HFin.out⟩
  | false =>
    rw [hem] at KC
    have HWk : Hid (∀ w3 w4 hvv us, Below W3.heap.size W3 w3 → Below w3.heap.size w3 w4 → RQ w4 w3.heap.size hvv us (havJ tl o) → (∃ g, hvv.ownBlock = some g) → Calls Tryz.prog 39 #[.agg #[.slice (some ⟨g2, 0, none⟩) 0 c2, .slice ab n cb], hvv, .func (.yield l) #[] #[]] w4 fun e Z => (∃ b, e = .returned (.bool b)) ∧ (J (preJ tl o) Z ∨ Jx Z)) := hid fun w3 w4 hvv us h1 h2 h3 h4 => HK.out w2 w3 w4 _ _ hvv us cs hem hl2 hT2 ho2 hb2 ⟨_, _, rfl⟩ hB2 (bt hb3 h1) h2 h3 h4
    have KW1 : Hid (∀ W', Below W3.heap.size W3 W' → Calls Tryz.prog 40 #[.slice ao no co, .slice at' n ct] W' fun e w' => ∃ v us, e = .returned v ∧ RQ w' W'.heap.size v us (havJ tl o) ∧ (∃ g, v.ownBlock = some g) ∧ Below W'.heap.size W' w') := hid fun W' hW' => KW.out W' (bt hB3 hW')
    clear hem HN HK KW KRw HC HE HEM hT2 ho2 hb2 hB2 hb3 HX3
    go_upto_region 2 with (first | (go_at_call 38; refine KC.out.mono ?_; rintro e w' ⟨rfl, hw⟩; obtain rfl : W3 = w' := hw.symm) | fail)
    have s0 := HSS.out W3.drew (Below.refl _ _).drew
    obtain ⟨s1, s2, s3, s4, -⟩ := s0
    go_region_law (first
            | (go_simp; go_at_call 40; refine (KW1.out _ (Below.refl _ _).drew).mono ?_; rintro e w4 ⟨v4, us4, rfl, hQ4, hg4, hb4⟩; obtain ⟨r1, r2, r3, r4, -⟩ := HSS.out w4 (bt (Below.refl _ _).drew hb4); obtain ⟨a4, c4, e4⟩ := own_shapeJ hQ4.own; subst e4)
            | (go_simp; go_at_call 39; refine (HWk.out _ w4 _ us4 (Below.refl _ _).drew hb4 hQ4 hg4).mono ?_; rintro e w5 ⟨⟨b5, rfl⟩, h5⟩)
            | fail)
    all_goals go_end0
    all_goals exact ⟨⟨_, rfl⟩, h5⟩

end Go.Proofs.YtoodbpijgnbfjaaGreat
