import Derived.Test.YtoodbpijgnbfjaaGreatFq43
import Derived.Test.YtoodbpijgnbfjaaGreatFq46
import Derived.Test.YtoodbpijgnbfjaaGreatFq47
import Derived.Test.YtoodbpijgnbfjaaGreatFq48
namespace Go.Proofs.YtoodbpijgnbfjaaGreat
open Go.RowKit Meet Go.Shelf
attribute [local go_sem] Oper.semAt_some

set_option maxHeartbeats 2000000 in
set_option maxRecDepth 1000000 in
theorem join_calls (w : World) (vt vo : Value) (tl : List TbV) (o : List Int) (h : ITs w vt tl) (ho : IS w vo o) (hl : tl.length ≤ 1048576) (hol : o.length ≤ 1048576) (hs : ∀ t ∈ tl, TvS t) :
    Calls Tryz.prog 7 #[vt, vo] w fun e w' => ∃ v us, e = .returned (.tuple #[v, .int .i64 (visJ tl o)]) ∧ RQ w' w.heap.size v us (rowJ tl o) ∧ Below w.heap.size w w' := by
  have HT := hid h
  have HO := hid ho
  have KA : Hid (∀ W, Below w.heap.size w W → Calls Tryz.prog 18 #[vt] W fun e w' => e = .returned (.bool (tl.all tabJ)) ∧ Below W.heap.size W w') := hid fun W hW => areTables_calls W vt tl (h.below hW) (by omega) hs
  have KO : Hid (∀ W, Below w.heap.size w W → tl.length ≤ 8 → tl.all tabJ = true → Calls Tryz.prog 19 #[vt, vo] W fun e w' => e = .returned (.bool (ordJ tl o)) ∧ Below W.heap.size W w') := hid fun W hW h8 ha => isOrderOf_calls W vt vo tl o (h.below hW) (ho.below hW) (by omega) hol (fun t ht => List.all_eq_true.1 ha t ht)
  have HOK : Hid (okJ tl o = (decide (tl.length ≤ 8) && tl.all tabJ && ordJ tl o)) := hid rfl
  obtain ⟨at', ct, evt, -⟩ := h
  obtain ⟨ao, co, evo, -⟩ := ho
  subst evt evo
  have HRN : Hid (okJ tl o = false → rowJ tl o = [] ∧ visJ tl o = -1) := hid rowJ_no
  obtain ⟨RJ, hRJ⟩ : ∃ RJ, RJ = rowJ tl o := ⟨_, rfl⟩
  obtain ⟨VJ, hVJ⟩ : ∃ VJ, VJ = visJ tl o := ⟨_, rfl⟩
  have HRJ := hid hRJ
  have HVJ := hid hVJ
  rw [← hRJ, ← hVJ] at HRN ⊢
  clear hRJ hVJ hs
  obtain ⟨n, hn⟩ : ∃ n, n = tl.length := ⟨_, rfl⟩
  rw [← hn] at hl KA KO HOK ⊢
  have HNT := hid hn
  clear hn
  obtain ⟨no, hno⟩ : ∃ no, no = o.length := ⟨_, rfl⟩
  rw [← hno] at hol KO ⊢
  have HNO := hid hno
  clear hno
  rw [← HNT.out] at HT
  obtain ⟨W1, hW1⟩ : ∃ W1, W1 = (((w.alloc (.cells #[.slice ao no co] 33)).alloc (.cells #[] 33)).alloc (.cells #[.slice (some ⟨w.heap.size + 1, 0, none⟩) 0 0] 32)).alloc (.cells #[.int .i64 0] 3) := ⟨_, rfl⟩
  have hB1 : Below w.heap.size w W1 := by rw [hW1]; exact bl_alloc (bl_alloc (bl_alloc (bl_alloc (Below.refl _ _) _) _) _) _
  have hS1 : Hid (W1.heap.size = w.heap.size + 4) := hid (by rw [hW1]; simp)
  have a1 : ∀ (W : World) (o : Obj) (k : Nat), k = W.heap.size → (W.alloc o).heap[k]? = some o := fun W o k hk => by rw [hk]; exact World.alloc_heap_new W o
  have a2 : ∀ (W : World) (o o' : Obj) (k : Nat), W.heap[k]? = some o → (W.alloc o').heap[k]? = some o := fun W o o' k hk => (Below.heap_alloc _ _ _ (lt_some hk)).trans hk
  have HBo : Hid (Boxed W1 w.heap.size 33 (.slice ao no co)) := hid (by rw [hW1]; exact a2 _ _ _ _ (a2 _ _ _ _ (a2 _ _ _ _ (a1 _ _ _ rfl))))
  have HBr : Hid (Boxed W1 (w.heap.size + 2) 32 (.slice (some ⟨w.heap.size + 1, 0, none⟩) 0 0)) := hid (by rw [hW1]; exact a2 _ _ _ _ (a1 _ _ _ (by simp)))
  have HBv : Hid (Boxed W1 (w.heap.size + 3) 3 (.int .i64 0)) := hid (by rw [hW1]; exact a1 _ _ _ (by simp))
  have HRQ : Hid (RQ W1 w.heap.size (.slice (some ⟨w.heap.size + 1, 0, none⟩) 0 0) [] []) := hid (by
    refine ⟨?_, rfl, fun i hi => by simp at hi, fun i j _ hj => by simp at hj⟩
    have h1 := World.ownsRow_made (w.alloc (.cells #[.slice ao no co] 33)) (e := 33) (size := 1) (base := w.heap.size) #[] 0 (by simp) (by decide) rfl
    rw [World.size_alloc] at h1
    rw [hW1]
    exact own_below h1 (bl_alloc (bl_alloc (Below.refl _ _) _) _))
  clear a1 a2
  refine (callsIn_wide (n := 0)).1 (callsIn_of_wp_marks Tryz.func7 rfl trivial ?_ rfl)
  simp only [Tryz.ntmps7, List.size_toArray, List.length_cons, List.length_nil, Nat.reduceAdd, Nat.reduceSub, Array.replicate_succ, Array.replicate_zero, List.push_toArray, List.append_toArray, List.nil_append, List.cons_append]
  refine wpIn_mono (Q := npQ (bodyPostM Fence.wide 0 Tryz.prog Tryz.f7 (fun e w' => ∃ v us, e = .returned (.tuple #[v, .int .i64 VJ]) ∧ RQ w' w.heap.size v us RJ ∧ Below w.heap.size w w'))) ?_ npQ.imp
  refine (wpIn_wide (n := 0)).2 ?_
  go_upto_region 2 with fail
  rw [← hW1]
  clear hW1
  have HSS : Hid (∀ W, Below W1.heap.size W1 W → W.cell? ⟨w.heap.size, 0, none⟩ = some (.slice ao no co) ∧ W.cell? ⟨w.heap.size + 1 + 1, 0, none⟩ = some (.slice (some ⟨w.heap.size + 1, 0, none⟩) 0 0)) := hid fun W hW => ⟨Boxed.cell (t := 33) ((hW.block _ HBo.out.lt).trans HBo.out), Boxed.cell (t := 32) ((hW.block _ HBr.out.lt).trans HBr.out)⟩
  have HEN : Hid (∀ W, Below W1.heap.size W1 W → okJ tl o = false → ∃ v us, Ending.returned (.tuple #[.slice (some ⟨w.heap.size + 1, 0, none⟩) 0 0, .int .i64 (-1)]) = .returned (.tuple #[v, .int .i64 VJ]) ∧ RQ W w.heap.size v us RJ ∧ Below w.heap.size w W) := hid fun W hW hy => by
    obtain ⟨e1, e2⟩ := HRN.out hy
    rw [e1, e2]
    exact ⟨_, [], rfl, HRQ.out.below hW, bt hB1 hW⟩
  have KA1 := hid (KA.out W1 hB1)
  by_cases h8 : n ≤ 8
  · have q8 : ¬ ((8 : Int) < (n : Int)) := by omega
    rw [decide_eq_true h8, Bool.true_and] at HOK
    have KO1 : Hid (tl.all tabJ = true → ∀ W, Below W1.heap.size W1 W → Calls Tryz.prog 19 #[.slice at' n ct, .slice ao no co] W fun e w' => e = .returned (.bool (ordJ tl o)) ∧ Below W.heap.size W w') := hid fun h1 W hW => KO.out W (bt hB1 hW) h8 h1
    cases hA : tl.all tabJ with
    | false =>
      rw [hA] at KA1 HOK
      have HK0 : Hid (okJ tl o = false) := hid HOK.out
      clear HOK KO KO1 KA hA
      go_wp2_with (first | (go_at_call 18; refine KA1.out.mono ?_; rintro e w2 ⟨rfl, hb2⟩; obtain ⟨k1, k2⟩ := HSS.out w2 hb2) | fail)
      exact ⟨_, by simp [results, Tryz.results7, go_sem], HEN.out _ hb2 HK0.out⟩
    | true =>
      rw [hA] at KA1 HOK
      rw [Bool.true_and] at HOK
      have KO2 := hid (KO1.out hA)
      have HAll := hid hA
      cases hO : ordJ tl o with
      | false =>
        rw [hO] at KO2 HOK
        clear KO KO1 KA hA hO HAll
        go_wp2_with (first | (go_at_call 18; refine KA1.out.mono ?_; rintro e w2 ⟨rfl, hb2⟩; obtain ⟨k1, k2⟩ := HSS.out w2 hb2) | (go_at_call 19; refine (KO2.out w2 hb2).mono ?_; rintro e w3 ⟨rfl, hb3'⟩; have hb3 := bt hb2 hb3'; obtain ⟨r1, r2⟩ := HSS.out w3 hb3) | fail)
        exact ⟨_, by simp [results, Tryz.results7, go_sem], HEN.out _ hb3 HOK.out⟩
      | true =>
        rw [hO] at KO2 HOK
        clear KO KO1 KA hA HRN HEN
        go_upto_region 4 with (first | (go_at_call 18; refine KA1.out.mono ?_; rintro e w2 ⟨rfl, hb2⟩; obtain ⟨k1, k2⟩ := HSS.out w2 hb2) | (go_at_call 19; refine (KO2.out w2 hb2).mono ?_; rintro e w3 ⟨rfl, hb3'⟩; have hb3 := bt hb2 hb3'; obtain ⟨r1, r2⟩ := HSS.out w3 hb3) | fail)
        obtain ⟨W4, hW4⟩ : ∃ W4, W4 = w3.alloc (.cells #[.int .i64 0, .int .i64 0, .int .i64 0, .int .i64 0, .int .i64 0, .int .i64 0, .int .i64 0] 61) := ⟨_, rfl⟩
        have hB4 : Below w3.heap.size w3 W4 := by rw [hW4]; exact bl_alloc (Below.refl _ _) _
        have hH4 : W4.heap[w3.heap.size]? = some (.cells #[.int .i64 0, .int .i64 0, .int .i64 0, .int .i64 0, .int .i64 0, .int .i64 0, .int .i64 0] 61 (0, 0)) := by rw [hW4]; exact World.alloc_heap_new w3 _
        have hb4 := bt hb3 hB4
        obtain ⟨q1, q2⟩ := HSS.out W4 hb4
        obtain ⟨Wp, hWp⟩ : ∃ Wp, Wp = (W4.alloc (.cells #[.slice at' n ct] 39)).alloc (.cells #[.slice ao no co] 33) := ⟨_, rfl⟩
        go_upto_region 5 with fail
        rw [← hW4]
        clear hW4
        go_wp2_with (first | (go_at_call 20; refine (prefixes_calls _ _ _ _ _ _ _).mono ?_; rintro e w5 ⟨rfl, rfl⟩) | fail)
        rw [← hWp]
        have hn3 : W1.heap.size ≤ w3.heap.size := hb3.size
        have hW1s := hS1.out
        have hBp : Below W4.heap.size W4 Wp := by rw [hWp]; exact bl_alloc (bl_alloc (Below.refl _ _) _) _
        have hbp := bt hb4 hBp
        have hT5 : Wp.heap[W4.heap.size]? = some (.cells #[.slice at' n ct] 39 (0, 0)) := by rw [hWp]; exact (Below.heap_alloc _ _ _ (by simp)).trans (World.alloc_heap_new W4 _)
        have hO5 : Wp.heap[W4.heap.size + 1]? = some (.cells #[.slice ao no co] 33 (0, 0)) := by
          rw [hWp]
          have := World.alloc_heap_new (W4.alloc (.cells #[.slice at' n ct] 39)) (.cells #[.slice ao no co] 33)
          rw [World.size_alloc] at this
          exact this
        have hJ0 : JS w.heap.size w.heap.size (w.heap.size + 1 + 1) (w.heap.size + 1 + 1 + 1) w3.heap.size (.slice ao no co) (cntL []) ((visN [] : Nat) : Int) (endN no []) (.slice (some ⟨w.heap.size + 1, 0, none⟩) 0 0) [] w Wp := by
          refine ⟨(hBp.block _ (lt_some hH4)).trans hH4, (hbp.block _ HBr.out.lt).trans HBr.out, ?_, (hbp.block _ HBv.out.lt).trans HBv.out, (hbp.block _ HBo.out.lt).trans HBo.out, bt hB1 hbp, ⟨_, _, rfl⟩, fun i hi => by simp [endN] at hi, by omega⟩
          have h1 := HRQ.out.below hbp
          refine ⟨?_, rfl, fun i hi => by simp [endN] at hi, fun i j _ hj => by simp [endN] at hj⟩
          exact ⟨h1.own.1, h1.own.2.imp id fun ⟨g, cap, cur, e1, e2, e3⟩ => ⟨g, cap, cur, e1, by cases e1; omega, e3⟩⟩
        have hspl : w.heap.size + 4 ≤ Wp.heap.size := by have := hbp.size; omega
        have hh3 : w3.heap.size < Wp.heap.size := by have h1 := lt_some hH4; have h2 := hBp.size; omega
        have hcov : CovJ tl o := ordJ_cov hO
        have ho6 : no ≤ 6 := by have h1 := (ordJ_perm.1 hO).length_eq; have h2 := vrJ_len tl; have h3 := HNO.out; omega
        have hgv : Gives Tryz.prog 36 #[.pointer (some ⟨W4.heap.size, 0, none⟩), .pointer (some ⟨W4.heap.size + 1, 0, none⟩)] (fun vp => #[vp]) (fun l => KpS (jx0 w3.heap.size (w.heap.size + 1 + 1) (w.heap.size + 1 + 1 + 1)) fun k => k = l) (fun l => KpS (jx0 w3.heap.size (w.heap.size + 1 + 1) (w.heap.size + 1 + 1 + 1)) fun k => k = l) (PreP no (preJ tl o)) (preJ tl o) Wp := by
          rw [HNO.out]
          refine prefixes1_gives _ _ _ Wp _ _ (.slice at' n ct) (.slice ao o.length co) tl o hT5 (by rw [← HNO.out]; exact hO5) (HT.out.below (bt hB1 hbp)) (HO.out.below (bt hB1 hbp)) (fun t ht => List.all_eq_true.1 HAll.out t ht) hcov (by rw [← HNT.out]; omega) (by rw [← HNO.out]; omega) hh3 (by omega) (by omega) hJ0.ty
        have HFy : Hid ((∀ i, cntL (preJ tl o) i ≤ 10000) → RJ = endN no (preJ tl o) ∧ VJ = (visN (preJ tl o) : Int)) := hid fun h1 => by rw [HRJ.out, HVJ.out, HNO.out]; exact joinJ_ok HOK.out h1
        have HFn : Hid (∀ i, i ≤ no → 10000 < cntL (preJ tl o) i → RJ = [] ∧ VJ = -1) := hid fun i h1 h2 => by rw [HRJ.out, HVJ.out]; exact joinJ_no HOK.out (by rw [← HNO.out]; exact h1) h2
        have HTL : Hid (∀ q ∈ preJ tl o, q.length ≤ no) := hid fun q hq => by rw [HNO.out]; exact preJ_len q hq
        generalize preJ tl o = tot at *
        clear hT5 hO5 hcov hWp hH4 HT HO HRJ HVJ HOK HAll KA1 KO2 HSS HRQ hb2 hb3 hb3' hB4 q1 q2 r1 r2 k1 k2 hO HBo HBr HBv hbp hBp
        obtain ⟨II, hII⟩ : ∃ II : List (List Int) → World → Prop, II = fun ps W => ∃ vr us, JS w.heap.size w.heap.size (w.heap.size + 1 + 1) (w.heap.size + 1 + 1 + 1) w3.heap.size (.slice ao no co) (cntL ps) ((visN ps : Nat) : Int) (endN no ps) vr us w W ∧ ∀ i, cntL ps i ≤ 10000 := ⟨_, rfl⟩
        obtain ⟨IX, hIX⟩ : ∃ IX : Code → World → Prop, IX = fun c W => c = .exit 0 ∧ (∃ i, i ≤ no ∧ 10000 < cntL tot i) ∧ ∃ vr cc, JS w.heap.size w.heap.size (w.heap.size + 1 + 1) (w.heap.size + 1 + 1 + 1) w3.heap.size (.slice ao no co) cc (-1) [] vr [] w W := ⟨_, rfl⟩
        have hBwp : w.heap.size ≤ Wp.heap.size := by omega
        refine (wpIn_wide (n := 0)).1 ?_
        refine range_law (α := List Int) (β := Value) (gf := 36) (lb := #[.pointer (some ⟨W4.heap.size, 0, none⟩), .pointer (some ⟨W4.heap.size + 1, 0, none⟩)]) rfl (enters_of Tryz.func36 (by kernel_rfl) rfl) hgv (fun _ => rfl)
          (fun h1 h2 => KpS.trans h1 h2) (fun l W o o' h1 h2 h3 => KpS.put rfl h2 h3 (by show w.heap.size + 1 + 1 ≠ l; omega)) (fun h1 h2 h3 => (KpS.trans h1 h2).trans h3)
          II IX
          (fun s X Y hX hk => by rw [hII] at hX ⊢; obtain ⟨vr, us, h1, h2⟩ := hX; exact ⟨vr, us, h1.kt hk hBwp, h2⟩)
          (fun c X Y hX hk => by rw [hIX] at hX ⊢; obtain ⟨h0, h1, vr, cc, h2⟩ := hX; exact ⟨h0, h1, vr, cc, h2.kt hk hBwp⟩)
          (by rw [hII]; exact ⟨_, _, hJ0, fun i => by show (0 : Nat) ≤ _; omega⟩)
          (fun l pre x b a' W => ∃ X vr us, JS w.heap.size w.heap.size (w.heap.size + 1 + 1) (w.heap.size + 1 + 1 + 1) w3.heap.size (.slice ao no co) (cntL pre) ((visN pre : Nat) : Int) (endN no pre) vr us w X ∧ (∀ i, cntL pre i ≤ 10000) ∧ KT Wp.heap.size X W ∧ W.ownsRow X.heap.size 3 1 b x.length (x.map (Value.int .i64)) ∧ x.length ≤ no ∧ (∃ g c, b = .slice (some ⟨g, 0, none⟩) x.length c) ∧ pre ++ [x] <+: tot ∧ a' = { tmps := #[.slice at' n ct, .slice ao no co, undef, .pointer (some ⟨w.heap.size, 0, none⟩), .slice none 0 0, .int .i64 0, .pointer (some ⟨w.heap.size + 1 + 1, 0, none⟩), .pointer (some ⟨w.heap.size + 1 + 1 + 1, 0, none⟩), .pointer (some ⟨w3.heap.size, 0, none⟩), b, undef, .slice (some ⟨w.heap.size + 1, 0, none⟩) 0 0, .slice at' n ct, .int .i64 n, .bool false, .bool false, .slice at' n ct, .bool true, .bool false, .bool false, .bool false, .slice at' n ct, .slice ao no co, .bool true, .bool false, .bool false, undef, .slice at' n ct, .slice ao no co, .func (.func 36) #[] #[.pointer (some ⟨W4.heap.size, 0, none⟩), .pointer (some ⟨W4.heap.size + 1, 0, none⟩)], b, undef, undef, undef, undef, undef, undef, undef, undef, undef, undef, undef, undef, undef, undef, undef, undef, undef, undef, undef, undef, undef, undef, undef, undef, undef, undef], defers := [] })
          (fun l pre x b a' W o o' ⟨X, vr, us, h1, h2, h3, h4, h5⟩ hl2 h6 h7 => ⟨X, vr, us, h1, h2, h3.trans (KT.put (B := Wp.heap.size) o' hl2 h6 h7), own_move h4 fun g hg => by
            obtain ⟨cur, hc⟩ := own_typ h4 hg
            exact (KT.put (B := Wp.heap.size) o' hl2 h6 h7).cel g cur _ _ hc (by decide) (by decide), h5⟩)
          ?assign ?body ?done ?stop
        case assign =>
          rintro l pre x b X Y K hl2 hI hk ⟨ho, hxl, ⟨g, c, rfl⟩, hpre⟩ ⟨rr, hrr⟩ hK
          rw [hII] at hI
          obtain ⟨vr, us, h1, h2⟩ := hI
          gi_wp2
          exact hK _ _ (KeepsFrom.refl _ _) (KpS.refl _ _ _) ⟨X, vr, us, h1, h2, hk, ho, hxl, ⟨g, c, rfl⟩, hpre, rfl⟩
        case body =>
          rintro l pre x b a' W hl2 ⟨rr, hrr⟩ ⟨X, vr, us, jX, hcn, hk, hob, hxl, ⟨g, c, rfl⟩, hpre, rfl⟩
          have jW := jX.kt hk hBwp
          have hx7 : x.length < 7 := by omega
          have hgX : X.heap.size ≤ g := (hob.lt g rfl).1
          have hvX := jX.vb.lt
          have hgv2 : g ≠ w.heap.size + 1 + 1 + 1 := by omega
          obtain ⟨iS, hj, hy0, hy1, hy2⟩ := info_parts Tryz.infoIS
          have hoX := jX.ob.lt
          have hHeld := jW.held hx7 (cntL pre x.length + 1)
          rw [show ((cntL pre x.length + 1 : Nat) : Int) = (cntL pre x.length : Int) + 1 by omega] at hHeld
          obtain ⟨ja', ka⟩ := hHeld
          have hcx := hcn x.length
          have ja : JS w.heap.size w.heap.size (w.heap.size + 1 + 1) (w.heap.size + 1 + 1 + 1) w3.heap.size (.slice ao no co) (cntL (pre ++ [x])) ((visN pre : Nat) : Int) (endN no pre) vr us w (W.setCell ⟨w3.heap.size, x.length, none⟩ (.int .i64 ((cntL pre x.length : Int) + 1))) := ⟨ja'.hb.congr fun i _ => by
            rw [cntL_snoc]
            by_cases e : i = x.length
            · rw [if_pos e.symm, if_pos e, e]
            · rw [if_neg (fun h => e h.symm), if_neg e]; rfl, ja'.rb, ja'.rq, ja'.vb, ja'.ob, ja'.bel, ja'.sh, ja'.ap, ja'.low⟩
          have hobW : W.ownsRow (w.heap.size + 1) 3 1 (.slice (some ⟨g, 0, none⟩) x.length c) x.length (x.map (Value.int .i64)) := own_base hob (by omega)
          have hgne : g ≠ w3.heap.size := fun e => own_ne hob ⟨_, jW.hb⟩ (by decide) (by rw [e]; rfl)
          have HFin : Hid (∀ W' vr' us', cntL pre x.length + 1 ≤ 10000 → JS w.heap.size w.heap.size (w.heap.size + 1 + 1) (w.heap.size + 1 + 1 + 1) w3.heap.size (.slice ao no co) (cntL (pre ++ [x])) ((visN (pre ++ [x]) : Nat) : Int) (endN no (pre ++ [x])) vr' us' w W' → KpS (jx0 w3.heap.size (w.heap.size + 1 + 1) (w.heap.size + 1 + 1 + 1)) (fun _ => False) W W' → KeepsFrom Wp.heap.size W W' ∧ KpS (jx0 w3.heap.size (w.heap.size + 1 + 1) (w.heap.size + 1 + 1 + 1)) (fun k => k = l) W W' ∧ II (pre ++ [x]) W') := hid fun W' vr' us' h1 h2 h3 => by
            refine ⟨h3.keepsF jW.ty hh3 (by omega) (by omega), h3.sub fun _ h => h.elim, ?_⟩
            rw [hII]
            refine ⟨vr', us', h2, fun i => ?_⟩
            rw [cntL_snoc]
            by_cases e : x.length = i
            · rw [if_pos e, ← e]; exact h1
            · rw [if_neg e]; exact hcn i
          have HFinX : Hid (∀ W' vr' cc, 10000 < cntL pre x.length + 1 → JS w.heap.size w.heap.size (w.heap.size + 1 + 1) (w.heap.size + 1 + 1 + 1) w3.heap.size (.slice ao no co) cc (-1) [] vr' [] w W' → KpS (jx0 w3.heap.size (w.heap.size + 1 + 1) (w.heap.size + 1 + 1 + 1)) (fun _ => False) W W' → KeepsFrom Wp.heap.size W W' ∧ KpS (jx0 w3.heap.size (w.heap.size + 1 + 1) (w.heap.size + 1 + 1 + 1)) (fun k => k = l) W W' ∧ IX (.exit 0) W') := hid fun W' vr' cc h1 h2 h3 => by
            refine ⟨h3.keepsF jW.ty hh3 (by omega) (by omega), h3.sub fun _ h => h.elim, ?_⟩
            rw [hIX]
            refine ⟨rfl, ⟨x.length, hxl, ?_⟩, vr', cc, h2⟩
            have h4 := cntL_pre hpre x.length
            rw [cntL_snoc, if_pos rfl] at h4
            omega
          have HOW : Hid ((W.setCell ⟨w3.heap.size, x.length, none⟩ (.int .i64 ((cntL pre x.length : Int) + 1))).ownsRow (w.heap.size + 1) 3 1 (.slice (some ⟨g, 0, none⟩) x.length c) x.length (x.map (Value.int .i64))) := hid (own_move hobW fun q hq => Below.heap_setCell _ _ _ _ fun e => by
            have e2 : q = w3.heap.size := e
            have : g = q := by simpa [Value.ownBlock] using hq
            exact hgne (this.trans e2))
          have HAP : Hid (∀ i, i < (endN no pre).length → ∀ q, (us.getD i undef).ownBlock = some q → (Value.slice (some ⟨g, 0, none⟩) x.length c).ownBlock ≠ some q) := hid fun i hi q hq e => by
            have h1 := ((jX.rq.each i hi).lt q hq).2
            have : g = q := by simpa [Value.ownBlock] using e
            omega
          have hvb : visN pre ≤ 60000 := by
            have h1 := visN_le (k := no) (fun q hq => HTL.out q (hpre.subset (List.mem_append_left _ hq))) hcn
            have h2 : no * 10000 ≤ 6 * 10000 := Nat.mul_le_mul_right _ ho6
            omega
          have HVS := hid (visN_snoc pre x)
          have HES := hid (endN_snoc no pre x)
          have hel : (endN no pre).length ≤ 10000 := by rw [endN_len]; exact hcn no
          have HJA := hid ja
          have HKA := hid ka
          have c1 := jW.hb.cell hx7
          have f1 := jW.hb.free x.length
          have n1 : w.heap.size + 1 + 1 ≠ w3.heap.size := bx_ne jW.rb jW.hb (by decide)
          have n2 : w.heap.size + 1 + 1 + 1 ≠ w3.heap.size := bx_ne jW.vb jW.hb (by decide)
          have n3 : w.heap.size ≠ w3.heap.size := bx_ne jW.ob jW.hb (by decide)
          have x7 : (x.length : Int) < 7 := by omega
          clear ja ja' ka hob hobW hgX hvX hoX jX hcn hk hpre hII hIX hgv
          generalize visN pre = vn at *
          generalize cntL pre x.length = cn at *
          have hsz : (W.setCell ⟨w3.heap.size, x.length, none⟩ (.int .i64 ((cn : Int) + 1))).heap.size = W.heap.size := by simp [World.setCell]
          have r1 := HJA.out.rb.cell
          have r2 := HJA.out.rb.frozen
          have v1 := HJA.out.vb.cell
          have v2 := HJA.out.vb.frozen
          have o1 := HJA.out.ob.cell
          have hbs : w.heap.size < W.heap.size := jW.ob.lt
          have p1 := jW.rb.cell
          have p2 := jW.vb.cell
          have p3 := jW.ob.cell
          have p4 := jW.rb.frozen
          have p5 := jW.vb.frozen
          by_cases hbig : 10000 < cn + 1
          · have b1 : (10000 : Int) < (cn : Int) + 1 := by omega
            obtain ⟨jr, kr⟩ := HJA.out.reset
            rw [hsz] at jr kr
            obtain ⟨jv, kv⟩ := jr.vis (-1)
            have HX := hid (HFinX.out _ _ _ hbig jv ((HKA.out.trans kr).trans kv))
            have q1 := (HJA.out.rb.alloc (.cells #[] 33)).cell
            have q2 := (HJA.out.rb.alloc (.cells #[] 33)).frozen
            have q3 := jr.vb.cell
            have q4 := jr.vb.frozen
            clear jr kr jv kv HFin HFinX HOW HAP HVS HES HJA HKA
            gi_wp2
            exact HX.out
          · have b1 : ¬ ((10000 : Int) < (cn : Int) + 1) := by omega
            have HGV : Hid (g ≠ w.heap.size + 1 + 1 + 1) := hid hgv2
            have HGV2 : Hid ((Value.slice (some ⟨g, 0, none⟩) x.length c).ownBlock ≠ some (w.heap.size + 1 + 1 + 1)) := hid fun e => hgv2 (by simpa [Value.ownBlock] using e)
            by_cases hpos : 0 < x.length
            · have i1 : (0 : Int) < (x.length : Int) := by omega
              by_cases hend : x.length = no
              · subst hend
                obtain ⟨jv, kv⟩ := HJA.out.vis ((vn : Int) + 1)
                have hsz2 : ((W.setCell ⟨w3.heap.size, x.length, none⟩ (.int .i64 ((cn : Int) + 1))).setCell ⟨w.heap.size + 1 + 1 + 1, 0, none⟩ (.int .i64 ((vn : Int) + 1))).heap.size = W.heap.size := by simp [World.setCell]
                have HOW2 := hid (own_move HOW.out fun q hq => Below.heap_setCell (W.setCell ⟨w3.heap.size, x.length, none⟩ (.int .i64 ((cn : Int) + 1))) ⟨w.heap.size + 1 + 1 + 1, 0, none⟩ (.int .i64 ((vn : Int) + 1)) _ fun e => HGV.out (by have : g = q := (by simpa [Value.ownBlock] using hq); exact this.trans e))
                have t1 := jv.rb.cell
                have t2 := jv.rb.frozen
                have t3 := jv.ob.cell
                have hvn : ((visN (pre ++ [x]) : Nat) : Int) = (vn : Int) + 1 := by rw [HVS.out, if_pos hpos]; omega
                have hes := HES.out
                rw [if_pos rfl] at hes
                have HJC := hid jv
                have HKC := hid (HKA.out.trans kv)
                have HSZ := hid hsz2
                have HVN := hid hvn
                have HES2 := hid hes
                clear hvn hes hsz hsz2 jv kv
                gi_wp2_with (first
                  | (gi_at_builtin; refine wpListIn_append_lies _ rfl _ _ 32 rfl (w.heap.size + 1) 33 iS (.slice none 0 0) 1 24 Tryz.underlying32 hj hy0 hy1 hy2 rfl (by decide) vr _ us rfl (HJC.out.rq.own.alloc _) ⟨W.heap.size, 0, none⟩ 1 1 [.slice (some ⟨g, 0, none⟩) x.length c] rfl rfl (by rw [← HSZ.out]; exact new1_cell _ _ _) (fun u hu => by simp at hu; subst hu; rfl) (by decide) (by unfold maxLen; omega) (by omega) (by rw [World.size_alloc, HSZ.out]; omega) ?_; intro g6 cp6 w6 hown6 hgrow6 hat6; obtain ⟨r6, j6, k6⟩ := HJC.out.push HOW2.out HAP.out HGV2.out hown6 hgrow6 hat6; have u1 := r6.cell; have u2 := r6.frozen)
                  | gi_in)
                exact HFin.out _ _ _ (by omega) (by rw [HVN.out, HES2.out]; exact j6) (HKC.out.trans k6)
              · have i2 : ¬ ((x.length : Int) = (no : Int)) := by omega
                obtain ⟨jv, kv⟩ := HJA.out.vis ((vn : Int) + 1)
                have hsz2 : ((W.setCell ⟨w3.heap.size, x.length, none⟩ (.int .i64 ((cn : Int) + 1))).setCell ⟨w.heap.size + 1 + 1 + 1, 0, none⟩ (.int .i64 ((vn : Int) + 1))).heap.size = W.heap.size := by simp [World.setCell]
                have HOW2 := hid (own_move HOW.out fun q hq => Below.heap_setCell (W.setCell ⟨w3.heap.size, x.length, none⟩ (.int .i64 ((cn : Int) + 1))) ⟨w.heap.size + 1 + 1 + 1, 0, none⟩ (.int .i64 ((vn : Int) + 1)) _ fun e => HGV.out (by have : g = q := (by simpa [Value.ownBlock] using hq); exact this.trans e))
                have t1 := jv.rb.cell
                have t2 := jv.rb.frozen
                have t3 := jv.ob.cell
                have hvn : ((visN (pre ++ [x]) : Nat) : Int) = (vn : Int) + 1 := by rw [HVS.out, if_pos hpos]; omega
                have hes := HES.out
                rw [if_neg hend, List.append_nil] at hes
                have HF := hid (HFin.out _ _ _ (by omega) (by rw [hvn, hes]; exact jv) (HKA.out.trans kv))
                clear hvn hes hsz hsz2 jv kv HFin HFinX HJA HKA HOW
                gi_wp2
                exact HF.out
            · have i1 : ¬ ((0 : Int) < (x.length : Int)) := by omega
              by_cases hend : x.length = no
              · subst hend
                have t1 := HJA.out.rb.cell
                have t2 := HJA.out.rb.frozen
                have t3 := HJA.out.ob.cell
                have hvn : ((visN (pre ++ [x]) : Nat) : Int) = (vn : Int) := by rw [HVS.out, if_neg hpos]; omega
                have hes := HES.out
                rw [if_pos rfl] at hes
                have HJC := hid HJA.out
                have HKC := hid HKA.out
                have HSZ := hid hsz
                have HVN := hid hvn
                have HES2 := hid hes
                clear hvn hes hsz
                gi_wp2_with (first
                  | (gi_at_builtin; refine wpListIn_append_lies _ rfl _ _ 32 rfl (w.heap.size + 1) 33 iS (.slice none 0 0) 1 24 Tryz.underlying32 hj hy0 hy1 hy2 rfl (by decide) vr _ us rfl (HJC.out.rq.own.alloc _) ⟨W.heap.size, 0, none⟩ 1 1 [.slice (some ⟨g, 0, none⟩) x.length c] rfl rfl (by rw [← HSZ.out]; exact new1_cell _ _ _) (fun u hu => by simp at hu; subst hu; rfl) (by decide) (by unfold maxLen; omega) (by omega) (by rw [World.size_alloc, HSZ.out]; omega) ?_; intro g6 cp6 w6 hown6 hgrow6 hat6; obtain ⟨r6, j6, k6⟩ := HJC.out.push HOW.out HAP.out HGV2.out hown6 hgrow6 hat6; have u1 := r6.cell; have u2 := r6.frozen)
                  | gi_in)
                exact HFin.out _ _ _ (by omega) (by rw [HVN.out, HES2.out]; exact j6) (HKC.out.trans k6)
              · have i2 : ¬ ((x.length : Int) = (no : Int)) := by omega
                have t1 := HJA.out.rb.cell
                have t2 := HJA.out.rb.frozen
                have t3 := HJA.out.ob.cell
                have hvn : ((visN (pre ++ [x]) : Nat) : Int) = (vn : Int) := by rw [HVS.out, if_neg hpos]; omega
                have hes := HES.out
                rw [if_neg hend, List.append_nil] at hes
                have HF := hid (HFin.out _ _ _ (by omega) (by rw [hvn, hes]; exact HJA.out) HKA.out)
                clear hvn hes hsz HFin HFinX HJA HKA HOW
                gi_wp2
                exact HF.out
        case done =>
          intro D W hD hI hK
          rw [hII] at hI
          obtain ⟨vr, us, j, hc⟩ := hI
          obtain ⟨e1, e2⟩ := HFy.out hc
          have HF : Hid (∃ v us, Ending.returned (.tuple #[vr, .int .i64 ((visN tot : Nat) : Int)]) = .returned (.tuple #[v, .int .i64 VJ]) ∧ RQ (W.drew.putObj D (.deferred none)) w.heap.size v us RJ ∧ Below w.heap.size w (W.drew.putObj D (.deferred none))) := hid (by
            have hp := (KT.of_below (Below.refl _ _).drew (Nat.le_refl _) : KT W.heap.size W W.drew)
            have hk2 := KT.put (X := W.drew) (B := w.heap.size) (.deferred none) (by omega) hK rfl
            rw [e1, e2]
            have j2 := (j.kt hp (by have := j.ob.lt; omega)).kt hk2 (Nat.le_refl _)
            exact ⟨vr, us, rfl, j2.rq.base (Nat.le_succ _), j2.bel⟩)
          have c1 := j.rb.cell
          have c2 := j.vb.cell
          clear e1 e2 hc j HFy HFn hII hIX hgv
          generalize visN tot = vt at *
          simp only [Exit.inBlock, Exit.then]
          go_upto_region 15 with fail
          have hmix : Tryz.prog.follows .mixedOrders = true := by kernel_rfl
          go_region_law fail
          all_goals go_wp2_with fail
          all_goals exact ⟨by simp, Or.inl ⟨D, _, rfl, run_takeDeferred hK, _, by simp [results, Tryz.results7, go_sem], HF.out⟩⟩
        case stop =>
          intro D c W hD hI hK
          rw [hIX] at hI
          obtain ⟨rfl, ⟨i, h1, h2⟩, vr, cc, j⟩ := hI
          obtain ⟨e1, e2⟩ := HFn.out i h1 h2
          have HF : Hid (∃ v us, Ending.returned (.tuple #[vr, .int .i64 (-1)]) = .returned (.tuple #[v, .int .i64 VJ]) ∧ RQ (W.drew.putObj D (.deferred none)) w.heap.size v us RJ ∧ Below w.heap.size w (W.drew.putObj D (.deferred none))) := hid (by
            have hp := (KT.of_below (Below.refl _ _).drew (Nat.le_refl _) : KT W.heap.size W W.drew)
            have hk2 := KT.put (X := W.drew) (B := w.heap.size) (.deferred none) (by omega) hK rfl
            rw [e1, e2]
            have j2 := (j.kt hp (by have := j.ob.lt; omega)).kt hk2 (Nat.le_refl _)
            exact ⟨vr, [], rfl, j2.rq.base (Nat.le_succ _), j2.bel⟩)
          have c1 := j.rb.cell
          have c2 := j.vb.cell
          clear e1 e2 j HFy HFn hII hIX hgv
          gi_wp2
          go_upto_region 15 with fail
          have hmix : Tryz.prog.follows .mixedOrders = true := by kernel_rfl
          go_region_law fail
          all_goals go_wp2_with fail
          all_goals exact ⟨by simp, Or.inl ⟨D, _, rfl, run_takeDeferred hK, _, by simp [results, Tryz.results7, go_sem], HF.out⟩⟩
  · have q8 : (8 : Int) < (n : Int) := by omega
    have HK0 : Hid (okJ tl o = false) := hid (by rw [HOK.out, decide_eq_false h8]; rfl)
    obtain ⟨k1, k2⟩ := HSS.out W1 (Below.refl _ _)
    clear HOK KO KA
    go_wp2_with fail
    exact ⟨_, by simp [results, Tryz.results7, go_sem], HEN.out _ (Below.refl _ _) HK0.out⟩

end Go.Proofs.YtoodbpijgnbfjaaGreat
