import Derived.Test.YtcdfoephhjacdaaDoorQ62
/-
  The model's reader: query, walked.
-/
namespace Go.Proofs.YtcdfoephhjacdaaDoor
open Go.RowKit

set_option maxHeartbeats 16000000 in
set_option maxRecDepth 1000000 in
theorem rQuery_calls (w : World) (g : Nat) (v : Value) (ts : List TkV) (h : RdB w g v 0 false) (hv : ITk w v ts) (ha : Apt v g) (hok : ∀ j, j < ts.length → TkOk (ts.getD j noTk)) (hl : ts.length ≤ 100000) :
    Calls Tryd.prog 24 #[.pointer (some ⟨g, 0, none⟩)] w (QyE w g v ts (qryF ts)) := by
  obtain ⟨iS, si, sz0, sz1, sz2⟩ := info_parts Tryd.infoStrQ
  obtain ⟨iA, ai, az0, az1, az2⟩ := info_parts Tryd.infoAtQ
  obtain ⟨W1, hW1⟩ : ∃ W, W = w.alloc (.cells #[.string ⟨#[]⟩, .slice none 0 0, .int .i64 0, .slice none 0 0] 33) := ⟨_, rfl⟩
  have hB1 : Below w.heap.size w W1 := by rw [hW1]; exact (Below.refl _ _).alloc (Nat.le_refl _) _
  have hR0 : W1.heap[w.heap.size]? = some (.cells #[.string ⟨#[]⟩, .slice none 0 0, .int .i64 0, .slice none 0 0] 33 (0, 0)) := by rw [hW1]; exact heap_alloc_new _ _
  have hs1 : w.heap.size < W1.heap.size := by rw [hW1]; simp
  have hglt := h.lt
  have HV : Hid (∀ W, Ex g w W → ITk W v ts) := hid fun W hW => hv.ex ha hW
  have HX1 : Hid (Ex g w W1) := hid (Ex.bel hB1)
  have HR0 := hid hR0
  have KN : Hid (∀ W p b, Ex g w W → RdB W g v p b → p ≤ 1048576 → Calls Tryd.prog 50 #[.pointer (some ⟨g, 0, none⟩)] W fun e w' => e = .returned (.string (nmS ts p b)) ∧ RdB w' g v (nmP ts p b) (nmQ ts p b) ∧ Ex g W w') := hid fun W p b h1 h2 h3 => rName_calls W g v ts p b h2 (HV.out W h1) ha h3
  have KW : Hid (∀ c s, (c = 40 ∨ c = 41 ∨ c = 44 ∨ c = 59 ∨ c = 46 ∨ c = 58) → symT c = s → ∀ W p b, Ex g w W → RdB W g v p b → p ≤ 1048576 → Calls Tryd.prog 51 #[.pointer (some ⟨g, 0, none⟩), .string s] W fun e w' => e = .returned (.tuple #[]) ∧ RdB w' g v (wtP ts p b c) (wtQ ts p b c) ∧ Ex g W w') := hid fun c s hc e W p b h1 h2 h3 => by subst e; exact rWant_calls W g v ts p b c h2 (HV.out W h1) hok h3 hc
  have KTk : Hid (∀ c s, (c = 40 ∨ c = 41 ∨ c = 44 ∨ c = 59 ∨ c = 46 ∨ c = 58) → symT c = s → ∀ W p b, Ex g w W → RdB W g v p b → p ≤ 1048576 → Calls Tryd.prog 53 #[.pointer (some ⟨g, 0, none⟩), .string s] W fun e w' => e = .returned (.bool (tkB ts p b c)) ∧ RdB w' g v (if tkB ts p b c then p + 1 else p) b ∧ Ex g W w') := hid fun c s hc e W p b h1 h2 h3 => by subst e; exact rTake_calls W g v ts p b c h2 (HV.out W h1) hok h3 hc
  have KW40 := hid (KW.out 40 ⟨#[40]⟩ (by omega) rfl)
  have KW41 := hid (KW.out 41 ⟨#[41]⟩ (by omega) rfl)
  have KW58 := hid (KW.out 58 ⟨#[58, 45]⟩ (by omega) rfl)
  have KW46 := hid (KW.out 46 ⟨#[46]⟩ (by omega) rfl)
  have KT44 := hid (KTk.out 44 ⟨#[44]⟩ (by omega) rfl)
  have KT59 := hid (KTk.out 59 ⟨#[59]⟩ (by omega) rfl)
  clear KW KTk
  have KK : Hid (∀ W p b, Ex g w W → RdB W g v p b → Calls Tryd.prog 52 #[.pointer (some ⟨g, 0, none⟩)] W fun e w' => e = .returned (.int .u8 (kdN ts p)) ∧ ∃ n, w' = W.drewN n) := hid fun W p b h1 h2 => rKind_calls W g v ts p b h2 (HV.out W h1)
  have KA : Hid (∀ W p b, Ex g w W → RdB W g v p b → p ≤ ts.length → Calls Tryd.prog 55 #[.pointer (some ⟨g, 0, none⟩)] W (AtE W g v (atmB ts p b))) := hid fun W p b h1 h2 h3 => rAtom_calls W g v ts p b h2 (HV.out W h1) ha hok hl h3
  have HOK := hid hok
  have HLe : Hid (∀ p b c, p ≤ ts.length → wtP ts p b c ≤ ts.length) := hid fun p b c h => wtP_le h
  have HLn : Hid (∀ p b, p ≤ ts.length → nmP ts p b ≤ ts.length ∧ p ≤ nmP ts p b) := hid fun p b h => nmP_le h
  generalize hRR : qryF ts = R at *
  have HS1 : Hid (Std R (c2 ts (nmS ts 0 false)) (nmP ts 0 false) (nmQ ts 0 false)) := hid (by rw [← hRR]; exact Std.start ts)
  have KN0 := hid (KN.out W1 0 false HX1.out (h.below hB1) (by omega))
  have hle1 := (HLn.out 0 false (Nat.zero_le _)).1
  generalize hE : QyE w g v ts R = E
  have HEnd : Hid (∀ nm x hd r y us p' b' w', QyR w.heap.size w' x hd y us → Ex g w w' → RdB w' g v p' b' → p' ≤ ts.length → (R = if b' then .error p' else .ok ⟨nm, hd, r, us.map uAt⟩) → E (.returned (.agg #[.string nm, x, .int .i64 r, y])) w') := hid fun nm x hd r y us p' b' w' h1 h2 h3 h4 h5 => by rw [← hE]; exact ⟨nm, x, hd, r, y, us, p', b', rfl, h1, h2, h3, h4, h5⟩
  clear h hv hok hRR hE
  generalize nmS ts 0 false = nm at *
  generalize nmP ts 0 false = p1 at *
  generalize nmQ ts 0 false = b1 at *
  go_enter Tryd.func24, Tryd.ntmps24
  go_upto_region 1 with fail
  rw [← hW1]
  clear hW1 hB1 hR0
  go_upto_region 2 with (first | (go_at_call 50; refine KN0.out.mono ?_; rintro e w2 ⟨rfl, hr2, hx2⟩) | fail)
  obtain ⟨W3, hW3⟩ : ∃ W, W = w2.alloc (.cells #[.string nm, .slice none 0 0, .int .i64 0, .slice none 0 0] 33) := ⟨_, rfl⟩
  have HQ : Hid (QyS W1 W3 g w2.heap.size nm (.slice none 0 0) [] 0 (.slice none 0 0) []) := hid ⟨by rw [hW3]; exact heap_alloc_new _ _, ⟨rfl, Or.inl ⟨rfl, rfl⟩⟩, ⟨rfl, Or.inl ⟨rfl, rfl⟩⟩, fun u hu => by simp at hu, List.Pairwise.nil, by rw [hW3]; exact hx2.allocd _, hx2.size, by omega⟩
  have HR3 : Hid (RdB W3 g v p1 b1) := hid (by rw [hW3]; exact hr2.below ((Below.refl _ _).alloc (Nat.le_refl _) _))
  rw [← hW3]
  obtain ⟨A, hA⟩ : ∃ A, A = w2.heap.size := ⟨_, rfl⟩
  rw [← hA] at HQ ⊢
  clear hW3 hA hr2 hx2 KN0
  have K4 := hid (KW40.out W3 p1 b1 (HX1.out.trans HQ.out.ex) HR3.out (by omega))
  have HS2 : Hid (Std R (fun p => c3 ts nm (headF ts p)) (wtP ts p1 b1 40) (wtQ ts p1 b1 40)) := hid HS1.out.want
  have hle2 := HLe.out p1 b1 40 hle1
  generalize wtP ts p1 b1 40 = p2 at *
  generalize wtQ ts p1 b1 40 = b2 at *
  go_upto_region 3 with (first | (go_at_call 51; refine K4.out.mono ?_; rintro e w4 ⟨rfl, hr4, hx4⟩) | fail)
  have HQ := hid (HQ.out.next hx4)
  have HRd := hid hr4
  clear hr4 hx4 K4 HR3 HS1 KW40
  have K5 := hid (KK.out w4 p2 b2 (HX1.out.trans HQ.out.ex) HRd.out)
  obtain ⟨z, hz⟩ : ∃ z, z = kdN ts p2 := ⟨_, rfl⟩
  rw [← hz] at K5
  have HZ := hid hz
  clear hz
  go_upto_if 13 with (first | (go_at_call 52; refine K5.out.mono ?_; rintro e w5 ⟨rfl, n5, hw5⟩; have HQ5 : Hid (QyS W1 w5 g A nm (.slice none 0 0) [] 0 (.slice none 0 0) []) := (hid (by rw [hw5]; exact HQ.out.next ((Ex.refl _ _).drewN _))); have HR5 : Hid (RdB w5 g v p2 b2) := (hid (by rw [hw5]; exact HRd.out.below (below_drewN (Below.refl _ _) _))); clear hw5) | fail)
  clear K5 HQ HRd
  have HQ := HQ5
  have HRd := HR5
  clear HQ5 HR5
  obtain ⟨N, hN⟩ : ∃ N, N = ts.length := ⟨_, rfl⟩
  rw [← hN] at HLe HLn HEnd KA hl hle1 hle2
  have HNl := hid hN
  clear hN
  go_cut [14] from 6 (fun _ wx => ∃ (hd : List ByteArray) (p : Nat) (b : Bool), p ≤ N ∧ Hid (∃ x, QyS W1 wx g A nm x hd 0 (.slice none 0 0) [] ∧ RdB wx g v p b ∧ Std R (fun p => c3 ts nm (endF ts p hd)) p b))
  case first =>
    clear KW41 KW58 KW46 KT59 KA HEnd HLe HOK HR0
    by_cases hz : z = 110
    · have iz : ((z : Int) == 110) = true := by rw [hz]; rfl
      have HI0 : Hid (HdI ts R nm (nmP ts p2 b2) (nmQ ts p2 b2) ([] ++ [nmS ts p2 b2])) := hid (HS2.out.first' (by rw [← HZ.out]; exact hz))
      clear HZ HS2 hz
      as_aux_lemma =>
        obtain ⟨acc, hacc⟩ : ∃ a : List ByteArray, a = [] := ⟨_, rfl⟩
        obtain ⟨xx, hxx⟩ : ∃ x, x = Value.slice none 0 0 := ⟨_, rfl⟩
        have HI0 : Hid (HdI ts R nm (nmP ts p2 b2) (nmQ ts p2 b2) (acc ++ [nmS ts p2 b2])) := hid (by rw [hacc]; exact HI0.out)
        have HQ : Hid (QyS W1 w5 g A nm xx acc 0 (.slice none 0 0) []) := hid (by rw [hacc, hxx]; exact HQ.out)
        have hal : acc.length = 0 := by rw [hacc]; rfl
        clear hacc hxx
        go_upto_region 4 with fail
        have KT0 := KN.out w5.drew p2 b2 ((HX1.out.trans HQ.out.ex).trans (Ex.bel (Below.refl _ _).drew)) (HRd.out.below (Below.refl _ _).drew) (by omega)
        obtain ⟨st, hst⟩ : ∃ t, t = nmS ts (p2) b2 := ⟨_, rfl⟩
        obtain ⟨ax, cx, ex⟩ := own_shapeT2 HQ.out.own1
        obtain ⟨nx', hnx'⟩ : ∃ n, n = acc.length := ⟨_, rfl⟩
        rw [← hnx'] at ex
        subst ex
        rw [← hst] at KT0
        have KT : Hid (Calls Tryd.prog 50 #[.pointer (some ⟨g, 0, none⟩)] w5.drew fun e w' => e = .returned (.string st) ∧ RdB w' g v (nmP ts (p2) b2) (nmQ ts (p2) b2) ∧ Ex g w5 w') := hid (KT0.mono fun e w' ⟨h1, h2, h3⟩ => ⟨h1, h2, (Ex.bel (Below.refl _ _).drew).trans h3⟩)
        have hAg : A ≠ g := HQ.out.Ag
        have cc1 := HQ.out.c1
        have HOA : Hid (∀ W, QyS W1 W g A nm (.slice ax nx' cx) acc 0 (.slice none 0 0) [] → (W.alloc (.cells #[.string st] 9)).ownsRow W1.heap.size 9 1 (.slice ax nx' cx) nx' (acc.map Value.string)) := hid fun W hW => by have h := hW.own1.alloc (.cells #[.string st] 9); rw [← hnx'] at h; exact h
        have HPush : Hid (∀ (W w6 : World) (o : Obj) (x' : Value), QyS W1 W g A nm (.slice ax nx' cx) acc 0 (.slice none 0 0) [] → (W.alloc o).grownBy w6 (Value.slice ax nx' cx).ownBlock → w6.ownsRow W1.heap.size 9 1 x' (nx' + 1) (acc.map Value.string ++ [.string st]) → QyS W1 (w6.setCell ⟨A, 1, none⟩ x') g A nm x' (acc ++ [st]) 0 (.slice none 0 0) []) := hid fun W w6 o x' h1 h2 h3 => h1.head h2 (by rw [← hnx']; exact h3)
        have hnl : nx' ≤ 100001 := by omega
        clear hnx' KT0
        have hln := HLn.out p2 b2 hle2
        have HI1 : Hid (HdI ts R nm (nmP ts p2 b2) (nmQ ts p2 b2) (acc ++ [st])) := hid (by rw [hst]; exact HI0.out)
        clear HI0 hst
        generalize nmP ts p2 b2 = p3 at *
        generalize nmQ ts p2 b2 = b3 at *
        go_cut [19] from 11 to 20 (fun _ wx => Hid (∃ x', QyS W1 wx g A nm x' (acc ++ [st]) 0 (.slice none 0 0) [] ∧ RdB wx g v p3 b3))
        case first =>
          go_region_law (first
            | (go_simp; go_at_call 50; (with_reducible refine KT.out.mono ?_); rintro e w5 ⟨rfl, hr5, hx5⟩; have ha5 := HQ.out.next hx5; have HA5 := hid ha5; have HR5 := hid hr5; have d1 := ha5.c1; have dl := ha5.lt; have da : ∀ o', (w5.alloc o').cell? ⟨A, 1, none⟩ = some (.slice ax nx' cx) := (fun o' => (World.cell?_alloc_past _ _ _ dl).trans d1); clear ha5 hr5 hx5)
            | (refine step_append_lies _ (by rfl) _ _ _ (by rfl) W1.heap.size 9 iS (.string ⟨#[]⟩) 1 16 Tryd.underlying30 si sz0 sz1 sz2 rfl (by decide) (.slice ax nx' cx) nx' (acc.map Value.string) (by rfl) (HOA.out w5 HA5.out) ⟨w5.heap.size, 0, none⟩ 1 1 [.string st] (by rfl) (by rfl) (new1_cellT _ _ _) (fun u hu => by simp at hu; subst hu; rfl) (by decide) (by unfold maxLen; omega) (by omega) (by have := HA5.out.ex.size; simp; omega) (w5.heap.size + 1) (by simp) ?_; intro g6 cp6 w6 hown6 hgrow6 hat6 hlt6; have HN6 := hid (HPush.out w5 w6 _ (.slice (some ⟨g6, 0, none⟩) (nx' + 1) cp6) HA5.out hgrow6 hown6); have HR6 := hid ((HR5.out.belN (HA5.out.bel1 hgrow6) HA5.out.hg).set (o := 1) (u := .slice (some ⟨g6, 0, none⟩) (nx' + 1) cp6) (show A ≠ g from hAg)); have b6 := HA5.out.blk1 hgrow6; have d6 : w6.cell? ⟨A, 1, none⟩ = some (.slice ax nx' cx) := (cell_of_row _ _ _ _ _ _ b6); have f6 : w6.frozen? ⟨A, 1, none⟩ = false := (by unfold World.frozen?; rw [b6]; simp); clear hown6 hgrow6 hat6 hlt6 b6)
            | fail)
          all_goals (go_wp2_with fail; go_meet)
          all_goals exact hid ⟨_, HN6.out, HR6.out⟩
        case rest =>
        have HS0 := hcut
        clear hcut HOA HPush KT HRd HQ cc1
        generalize wc = W6 at *
        have hal0 : (acc ++ [st]).length ≤ p3 + 1 := by rw [List.length_append, List.length_singleton]; omega
        generalize acc ++ [st] = acc0 at *
        clear hnl hal
        go_wp2_with fail
        go_loopw [21] (fun _ wr => ∃ (p : Nat) (b : Bool) (acc : List ByteArray), p ≤ N ∧ acc.length ≤ p + 1 ∧ Hid (HdI ts R nm p b acc ∧ RdB wr g v p b ∧ ∃ x, QyS W1 wr g A nm x acc 0 (.slice none 0 0) [])) (fun _ wr => N + 1 - posOf wr g)
        case atStart =>
          obtain ⟨x', h1, h2⟩ := HS0.out
          exact ⟨p3, b3, acc0, by omega, hal0, hid ⟨HI1.out, h2, x', h1⟩⟩
        case round =>
          clear HS0 HI1
          obtain ⟨p4, b4, acc, hp4, hal, HS⟩ := hrel
          obtain ⟨hI, hr4, x4, ha4⟩ := HS.out
          have HQ0 := hid ha4
          have HI4 := hid hI
          have K44 := hid (KT44.out wr p4 b4 (HX1.out.trans ha4.ex) hr4 (by omega))
          have hpos := hr4.pos
          clear hI hr4 ha4 HS
          cases h44 : tkB ts p4 b4 44
          · rw [h44] at K44
            have HF := hid (HI4.out.fin h44)
            clear hpos HI4
            go_wp2_with (first | (go_at_call 53; refine K44.out.mono ?_; rintro e w7 ⟨rfl, hr7, hx7⟩; have HQ7 := hid (HQ0.out.next hx7); have HR7 := hid hr7; clear hr7 hx7) | fail)
            go_meet
            exact ⟨acc, p4, b4, hp4, hid ⟨_, HQ7.out, HR7.out, HF.out⟩⟩
          · rw [h44] at K44
            have HI5 := hid (HI4.out.next' h44)
            have hplt : p4 < N := by have := HI5.out.2; have := HNl.out; omega
            have hp5 := HLn.out (p4 + 1) b4 (by omega)
            go_upto_region 6 with (first | (go_at_call 53; refine K44.out.mono ?_; rintro e w4' ⟨rfl, hr5, hx5⟩) | fail)
            have HRd : Hid (RdB w4' g v (p4 + 1) b4) := hid hr5
            have HQ := hid (HQ0.out.next hx5)
            clear hr5 hx5 K44 HQ0 HI4
            have KT0 := KN.out w4'.drew (p4 + 1) b4 ((HX1.out.trans HQ.out.ex).trans (Ex.bel (Below.refl _ _).drew)) (HRd.out.below (Below.refl _ _).drew) (by omega)
            obtain ⟨st, hst⟩ : ∃ t, t = nmS ts ((p4 + 1)) b4 := ⟨_, rfl⟩
            obtain ⟨ax, cx, ex⟩ := own_shapeT2 HQ.out.own1
            obtain ⟨nx', hnx'⟩ : ∃ n, n = acc.length := ⟨_, rfl⟩
            rw [← hnx'] at ex
            subst ex
            rw [← hst] at KT0
            have KT : Hid (Calls Tryd.prog 50 #[.pointer (some ⟨g, 0, none⟩)] w4'.drew fun e w' => e = .returned (.string st) ∧ RdB w' g v (nmP ts ((p4 + 1)) b4) (nmQ ts ((p4 + 1)) b4) ∧ Ex g w4' w') := hid (KT0.mono fun e w' ⟨h1, h2, h3⟩ => ⟨h1, h2, (Ex.bel (Below.refl _ _).drew).trans h3⟩)
            have hAg : A ≠ g := HQ.out.Ag
            have cc1 := HQ.out.c1
            have HOA : Hid (∀ W, QyS W1 W g A nm (.slice ax nx' cx) acc 0 (.slice none 0 0) [] → (W.alloc (.cells #[.string st] 9)).ownsRow W1.heap.size 9 1 (.slice ax nx' cx) nx' (acc.map Value.string)) := hid fun W hW => by have h := hW.own1.alloc (.cells #[.string st] 9); rw [← hnx'] at h; exact h
            have HPush : Hid (∀ (W w6 : World) (o : Obj) (x' : Value), QyS W1 W g A nm (.slice ax nx' cx) acc 0 (.slice none 0 0) [] → (W.alloc o).grownBy w6 (Value.slice ax nx' cx).ownBlock → w6.ownsRow W1.heap.size 9 1 x' (nx' + 1) (acc.map Value.string ++ [.string st]) → QyS W1 (w6.setCell ⟨A, 1, none⟩ x') g A nm x' (acc ++ [st]) 0 (.slice none 0 0) []) := hid fun W w6 o x' h1 h2 h3 => h1.head h2 (by rw [← hnx']; exact h3)
            have hnl : nx' ≤ 100001 := by omega
            clear hnx' KT0
            have HI6 : Hid (HdI ts R nm (nmP ts (p4 + 1) b4) (nmQ ts (p4 + 1) b4) (acc ++ [st])) := hid (by rw [hst]; exact HI5.out.1)
            clear HI5 hst
            generalize nmP ts (p4 + 1) b4 = p5 at *
            generalize nmQ ts (p4 + 1) b4 = b5 at *
            have hal5 : (acc ++ [st]).length ≤ p5 + 1 := by rw [List.length_append, List.length_singleton]; omega
            go_region_law (first
              | (go_simp; go_at_call 50; (with_reducible refine KT.out.mono ?_); rintro e w5 ⟨rfl, hr5, hx5⟩; have ha5 := HQ.out.next hx5; have HA5 := hid ha5; have HR5 := hid hr5; have d1 := ha5.c1; have dl := ha5.lt; have da : ∀ o', (w5.alloc o').cell? ⟨A, 1, none⟩ = some (.slice ax nx' cx) := (fun o' => (World.cell?_alloc_past _ _ _ dl).trans d1); clear ha5 hr5 hx5)
              | (refine step_append_lies _ (by rfl) _ _ _ (by rfl) W1.heap.size 9 iS (.string ⟨#[]⟩) 1 16 Tryd.underlying30 si sz0 sz1 sz2 rfl (by decide) (.slice ax nx' cx) nx' (acc.map Value.string) (by rfl) (HOA.out w5 HA5.out) ⟨w5.heap.size, 0, none⟩ 1 1 [.string st] (by rfl) (by rfl) (new1_cellT _ _ _) (fun u hu => by simp at hu; subst hu; rfl) (by decide) (by unfold maxLen; omega) (by omega) (by have := HA5.out.ex.size; simp; omega) (w5.heap.size + 1) (by simp) ?_; intro g6 cp6 w6 hown6 hgrow6 hat6 hlt6; have HN6 := hid (HPush.out w5 w6 _ (.slice (some ⟨g6, 0, none⟩) (nx' + 1) cp6) HA5.out hgrow6 hown6); have HR6 := hid ((HR5.out.belN (HA5.out.bel1 hgrow6) HA5.out.hg).set (o := 1) (u := .slice (some ⟨g6, 0, none⟩) (nx' + 1) cp6) (show A ≠ g from hAg)); have b6 := HA5.out.blk1 hgrow6; have d6 : w6.cell? ⟨A, 1, none⟩ = some (.slice ax nx' cx) := (cell_of_row _ _ _ _ _ _ b6); have f6 : w6.frozen? ⟨A, 1, none⟩ = false := (by unfold World.frozen?; rw [b6]; simp); clear hown6 hgrow6 hat6 hlt6 b6)
              | fail)
            all_goals
              have hpos6 := HR6.out.pos
              go_wp2_with fail
              go_roundw
              case rel => exact ⟨p5, b5, acc ++ [st], by omega, hal5, hid ⟨HI6.out, HR6.out, _, HN6.out⟩⟩
              case measure => rw [hpos6, hpos]; omega
    · have iz : ((z : Int) == 110) = false := by simp; omega
      have HF : Hid (Std R (fun p => c3 ts nm (endF ts p [])) p2 b2) := hid (HdI.none HS2.out (by rw [← HZ.out]; exact hz))
      clear HZ HS2 hz
      as_aux_lemma =>
        go_wp2_with fail
        go_meet
        exact ⟨[], p2, b2, hle2, hid ⟨_, HQ.out, HRd.out, HF.out⟩⟩
  case rest =>
  obtain ⟨hd, p3, b3, hle3, HH⟩ := hcut
  obtain ⟨xh, hq3, hr3, hs3⟩ := HH.out
  have HQ := hid hq3
  have HRd := hid hr3
  have HS3 := hid hs3
  clear HH hq3 hr3 hs3 HS2 HZ hle2 hle1
  have K7 := hid (KT59.out wc p3 b3 (HX1.out.trans HQ.out.ex) HRd.out (by omega))
  obtain ⟨tb, htb⟩ : ∃ t, t = tkB ts p3 b3 59 := ⟨_, rfl⟩
  rw [← htb] at K7
  have HTB := hid htb
  clear htb
  go_upto_if 31 with (first | (go_at_call 53; refine K7.out.mono ?_; rintro e w7 ⟨rfl, hr7, hx7⟩) | fail)
  have HQ := hid (HQ.out.next hx7)
  have HRd := hid hr7
  clear hr7 hx7 K7
  go_cut [32] from 30 (fun _ wx => ∃ (r : Int) (p : Nat) (b : Bool), p ≤ N ∧ Hid (QyS W1 wx g A nm xh hd r (.slice none 0 0) [] ∧ RdB wx g v p b ∧ Std R (c41 ts nm hd r) p b))
  case first =>
    clear KW41 KW58 KW46 KT59 KA HEnd HLe HR0 KT44
    cases tb with
    | false =>
      have HF : Hid (Std R (c41 ts nm hd 0) p3 b3) := hid (HS3.out.noring HTB.out.symm)
      clear HS3 HTB
      as_aux_lemma =>
        go_wp2_with fail
        go_meet
        exact ⟨0, p3, b3, hle3, hid ⟨HQ.out, HRd.out, HF.out⟩⟩
    | true =>
      have HP : Hid ((rgN ts (p3 + 1) = 0 → Std R (c41 ts nm hd 0) (p3 + 1) true) ∧ (rgN ts (p3 + 1) ≠ 0 → nmP ts (p3 + 1) b3 = p3 + 1 + 1 ∧ nmQ ts (p3 + 1) b3 = b3 ∧ Std R (c41 ts nm hd (rgN ts (p3 + 1) : Nat)) (p3 + 1 + 1) b3)) := hid ⟨(HS3.out.ring HTB.out.symm).1, fun h0 => by
        obtain ⟨h1, h2⟩ := (HS3.out.ring HTB.out.symm).2 h0
        refine ⟨?_, ?_, h2⟩
        · unfold nmP; rw [h1]; rfl
        · unfold nmQ; rw [h1]; rfl⟩
      have hplt : p3 + 1 ≤ N := by have := (tkB_iff.1 HTB.out.symm).2.1; have := HNl.out; omega
      have HRd : Hid (RdB w7 g v (p3 + 1) b3) := hid HRd.out
      clear HS3 HTB
      have K8 := hid (rings_calls w7)
      have HTkc : Hid (∀ W, Ex g w W → kdN ts (p3 + 1) = 110 → ∃ bk cap t, v = .slice (some ⟨bk, 0, none⟩) ts.length cap ∧ p3 + 1 < ts.length ∧ W.cell? ⟨bk, (p3 + 1) * 4 + 1, none⟩ = some (.string t) ∧ t.size ≠ 0 ∧ rgN ts (p3 + 1) = rngN t) := hid fun W hW hk => by
        obtain ⟨a, cap, e, hc⟩ := HV.out W hW
        obtain ⟨hp, hk97⟩ := kdN_name.1 hk
        obtain ⟨bk, ea, -, h1, -⟩ := hc (p3 + 1) hp
        subst ea
        refine ⟨bk, cap, (ts.getD (p3 + 1) noTk).nm, e, hp, ?_, (HOK.out _ hp).nz hk97, ?_⟩
        · rw [h1]; unfold tS; rw [if_pos hk97]
        · unfold rgN; rw [if_pos hk]
      have HVs : Hid (∃ a n cap, v = .slice a n cap) := hid (by obtain ⟨a, cap, e, -⟩ := HV.out w (Ex.refl _ _); exact ⟨a, _, cap, e⟩)
      have hrl : rgN ts (p3 + 1) < 4 := by unfold rgN; split; exact rngN_lt _; omega
      have HN1 := hid (HLn.out (p3 + 1) b3 hplt)
      have hrz : ¬ kdN ts (p3 + 1) = 110 → rgN ts (p3 + 1) = 0 := fun h => by unfold rgN; rw [if_neg h]
      have HRZ := hid hrz
      clear hrz HV HOK
      generalize hrg : rgN ts (p3 + 1) = rg at *
      clear hrg
      obtain ⟨kd, hkd⟩ : ∃ z, z = kdN ts (p3 + 1) := ⟨_, rfl⟩
      rw [← hkd] at HTkc HRZ
      have HKd := hid hkd
      clear hkd
      generalize p3 + 1 = q at *
      have HRI0 : Hid ((0 : Int) = if 0 ≤ rg then 0 else (rg : Int)) := hid (by rw [if_pos (Nat.zero_le _)])
      obtain ⟨rI, hrI⟩ : ∃ f : Nat → Int, f = fun i => if i ≤ rg then 0 else (rg : Int) := ⟨_, rfl⟩
      have HR0' : Hid (rI 0 = 0) := hid (by rw [hrI]; exact if_pos (Nat.zero_le _))
      have HR4' : Hid (rI 4 = (rg : Int)) := hid (by rw [hrI]; exact if_neg (by omega))
      have HRn : Hid (∀ i : Nat, (rg = i ∧ 0 < i) → rI (i + 1) = (i : Int)) := hid fun i h => by rw [hrI]; show (if i + 1 ≤ rg then (0 : Int) else (rg : Int)) = _; rw [if_neg (by omega), h.1]
      have HRs : Hid (∀ i : Nat, ¬ (rg = i ∧ 0 < i) → rI (i + 1) = rI i) := hid fun i h => by
        rw [hrI]
        show (if i + 1 ≤ rg then (0 : Int) else (rg : Int)) = (if i ≤ rg then (0 : Int) else (rg : Int))
        by_cases h1 : i ≤ rg
        · rw [if_pos h1]
          by_cases h2 : i + 1 ≤ rg
          · rw [if_pos h2]
          · rw [if_neg h2]; omega
        · rw [if_neg h1, if_neg (by omega)]
      clear hrI HRI0
      go_wp2_with (first | (go_at_call 54; refine K8.out.mono ?_; rintro e w8 ⟨G, rfl, hb8, hG1, hG2, hc8⟩; have HQ8 := hid (HQ.out.next (Ex.bel hb8)); have HR8 := hid (HRd.out.below hb8); have HC8 := hid hc8; have hGA : G ≠ A := (by have := HQ.out.lt; omega); have hGg : G ≠ g := (by have := HRd.out.lt; omega); clear hb8 hc8 hG1 hG2) | fail)
      clear K8 HQ HRd
      go_loopw [34] (fun t wr => ∃ i : Nat, i ≤ 4 ∧ t = .int .i64 (i : Int) ∧ Hid (QyS W1 wr g A nm xh hd (rI i) (.slice none 0 0) [] ∧ RdB wr g v q b3 ∧ ∀ k : Nat, k < 4 → wr.cell? ⟨G, k, none⟩ = some (.string (rgT k)))) (fun t _ => 4 - (intOf t).toNat)
      case atStart => exact ⟨0, by omega, rfl, hid ⟨by rw [HR0'.out]; exact HQ8.out, HR8.out, HC8.out⟩⟩
      case round =>
        clear HQ8 HR8 HC8
        obtain ⟨i, hi, rfl, HH⟩ := hrel
        have HQ := hid HH.out.1
        have HRd := hid HH.out.2.1
        have HC := hid HH.out.2.2
        clear HH
        by_cases hi4 : i < 4
        · have i4 : (i : Int) < 4 := by omega
          clear HP HN1 HLn KN
          have cG := HC.out i hi4
          have KKi : Hid (∀ n, Calls Tryd.prog 52 #[.pointer (some ⟨g, 0, none⟩)] (wr.drewN n) fun e w' => e = .returned (.int .u8 kd) ∧ ∃ m, w' = (wr.drewN n).drewN m) := hid fun n => by
            have := KK.out (wr.drewN n) q b3 ((HX1.out.trans HQ.out.ex).drewN n) (HRd.out.below (below_drewN (Below.refl _ _) n))
            rw [← HKd.out] at this
            exact this
          have HNx : Hid (∀ m, rI (i + 1) = rI i → QyS W1 (wr.drewN m) g A nm xh hd (rI (i + 1)) (.slice none 0 0) [] ∧ RdB (wr.drewN m) g v q b3 ∧ ∀ k : Nat, k < 4 → (wr.drewN m).cell? ⟨G, k, none⟩ = some (.string (rgT k))) := hid fun m e => by
            rw [e]
            exact ⟨HQ.out.next ((Ex.refl _ _).drewN _), HRd.out.below (below_drewN (Below.refl _ _) _), HC.out⟩
          have HNs : Hid (∀ m, rI (i + 1) = (i : Int) → QyS W1 ((wr.drewN m).setCell ⟨A, 2, none⟩ (.int .i64 (i : Int))) g A nm xh hd (rI (i + 1)) (.slice none 0 0) [] ∧ RdB ((wr.drewN m).setCell ⟨A, 2, none⟩ (.int .i64 (i : Int))) g v q b3 ∧ ∀ k : Nat, k < 4 → ((wr.drewN m).setCell ⟨A, 2, none⟩ (.int .i64 (i : Int))).cell? ⟨G, k, none⟩ = some (.string (rgT k))) := hid fun m e => by
            rw [e]
            exact ⟨(HQ.out.next ((Ex.refl _ _).drewN _)).ring _, (HRd.out.below (below_drewN (Below.refl _ _) _)).set HQ.out.Ag, fun k hk => (World.cell?_setCell_other _ _ _ _ (by intro e3; simp only [Addr.mk.injEq] at e3; exact hGA (by omega))).trans (HC.out k hk)⟩
          have c0 := HRd.out.c0
          have c1 := HRd.out.c1
          have c2 := HQ.out.c2
          have f2 := HQ.out.free 2
          have hX := hid (HX1.out.trans HQ.out.ex)
          clear HC
          by_cases hk : kd = 110
          · obtain ⟨bk, cap, t, ev, hqn, ct, hts, hrg⟩ := HTkc.out wr hX.out hk
            have hcmp := rng_eq hts i hi4
            rw [← hrg] at hcmp
            have iq : (q : Int) < (ts.length : Int) := by omega
            generalize ts.length = n at *
            subst hk
            rw [ev] at c0
            clear HTkc HX1 HQ HRd hrg hts HRZ HKd HVs KK HNl
            clear ev hX
            generalize rgT i = ri at *
            by_cases hm : rg = i ∧ 0 < i
            · rw [decide_eq_true hm] at hcmp
              have HN2 : Hid (∀ m, _) := hid fun m => HNs.out m (HRn.out i hm)
              clear HNs HNx HRn HRs hm
              go_wp2_with fail
              go_quiet (first | (go_at_call 52; exact Calls.quiet_of (KKi.out _)))
              go_wp2_with fail
              go_roundw
              case rel => exact ⟨i + 1, by omega, by go_num, hid (HN2.out _)⟩
              case measure => simp [intOf]; omega
            · rw [decide_eq_false hm] at hcmp
              have HN2 : Hid (∀ m, _) := hid fun m => HNx.out m (HRs.out i hm)
              clear HNs HNx HRn HRs hm
              go_wp2_with fail
              go_quiet (first | (go_at_call 52; exact Calls.quiet_of (KKi.out _)))
              go_wp2_with fail
              go_roundw
              case rel => exact ⟨i + 1, by omega, by go_num, hid (HN2.out _)⟩
              case measure => simp [intOf]; omega
          · have hz : ((kd : Int) == 110) = false := by simp; omega
            have hrg0 := HRZ.out hk
            have HN2 : Hid (∀ m, _) := hid fun m => HNx.out m (HRs.out i (by omega))
            clear HTkc HX1 HQ HRd HRZ HKd HVs KK HNl HNs HNx HRn HRs hk hrg0 hX
            generalize rgT i = ri at *
            go_wp2_with fail
            go_quiet (first | (go_at_call 52; exact Calls.quiet_of (KKi.out _)))
            go_wp2_with fail
            go_roundw
            case rel => exact ⟨i + 1, by omega, by go_num, hid (HN2.out _)⟩
            case measure => simp [intOf]; omega
        · obtain rfl : i = 4 := by omega
          clear HC HTkc HRZ HKd HVs HRn HRs KK HR0'
          rw [HR4'.out] at HQ
          have c2 := HQ.out.c2
          clear HR4'
          by_cases h0 : rg = 0
          · have hF := HP.out.1 h0
            have HF := hid hF
            have iz : ((rg : Int) == 0) = true := by rw [h0]; rfl
            have b2' := HRd.out.c2
            have fb := HRd.out.free 2
            clear hF HP HN1 HLn KN
            have HRE : Hid (QyS W1 wr g A nm xh hd 0 (.slice none 0 0) []) := hid (by have := HQ.out; rw [h0] at this; exact this)
            clear h0 HQ
            go_wp2_with fail
            go_meet
            exact ⟨0, q, true, hplt, hid ⟨HRE.out.next (Ex.refl _ _).set, HRd.out.setB _, HF.out⟩⟩
          · obtain ⟨hp', hb', hF⟩ := HP.out.2 h0
            have HF := hid hF
            have iz : ((rg : Int) == 0) = false := by simp; omega
            have K9 := KN.out wr q b3 (HX1.out.trans HQ.out.ex) HRd.out (by omega)
            rw [hp', hb'] at K9
            have HN1' := HN1.out
            rw [hp'] at HN1'
            have HK9 := hid K9
            clear K9 HP hF HN1 HLn KN hp' hb' h0
            go_wp2_with (first | (go_at_call 50; refine HK9.out.mono ?_; rintro e w9 ⟨rfl, hr9, hx9⟩; have HQ9 := hid (HQ.out.next hx9); have HR9 := hid hr9; clear hr9 hx9) | fail)
            go_meet
            exact ⟨(rg : Int), q + 1, b3, HN1'.1, hid ⟨HQ9.out, HR9.out, HF.out⟩⟩
  case rest =>
  obtain ⟨r, p4, b4, hle4, HH⟩ := hcut
  have HQ := hid HH.out.1
  have HRd := hid HH.out.2.1
  have HS4 := hid HH.out.2.2
  clear HH hle3 HS3 HTB
  have HS5 : Hid (Std R (c4 ts nm hd r) (wtP ts p4 b4 41) (wtQ ts p4 b4 41)) := hid (Std.want HS4.out)
  have hle5 := HLe.out p4 b4 41 hle4
  have K41 := hid (KW41.out wc p4 b4 (HX1.out.trans HQ.out.ex) HRd.out (by omega))
  clear HS4
  generalize wtP ts p4 b4 41 = p5 at *
  generalize wtQ ts p4 b4 41 = b5 at *
  go_upto_region 18 with (first | (go_at_call 51; refine K41.out.mono ?_; rintro e w5' ⟨rfl, hr5, hx5⟩) | fail)
  have HQ := hid (HQ.out.next hx5)
  have HRd := hid hr5
  clear hr5 hx5 K41 KW41
  have HS6 : Hid (Std R (fun p4 => fin5 ts nm hd r (atsF ts (ts.length + 1) p4 [])) (wtP ts p5 b5 58) (wtQ ts p5 b5 58)) := hid (Std.want HS5.out)
  have hle6 := HLe.out p5 b5 58 hle5
  have K58 := hid (KW58.out w5' p5 b5 (HX1.out.trans HQ.out.ex) HRd.out (by omega))
  clear HS5
  generalize wtP ts p5 b5 58 = p6 at *
  generalize wtQ ts p5 b5 58 = b6 at *
  go_upto_region 19 with (first | (go_at_call 51; refine K58.out.mono ?_; rintro e w6' ⟨rfl, hr6, hx6⟩) | fail)
  have HQ := hid (HQ.out.next hx6)
  have HRd := hid hr6
  clear hr6 hx6 K58 KW58
  obtain ⟨us, hus⟩ : ∃ a : List UV, a = [] := ⟨_, rfl⟩
  obtain ⟨yy, hyy⟩ : ∃ x, x = Value.slice none 0 0 := ⟨_, rfl⟩
  have HQ : Hid (QyS W1 w6' g A nm xh hd r yy us) := hid (by rw [hus, hyy]; exact HQ.out)
  have HAB : Hid (AsB ts R nm hd r p6 b6 (us.map uAt)) := hid (by rw [hus]; exact AsB.start HS6.out)
  have hul : us.length = 0 := by rw [hus]; rfl
  clear hus hyy HS6
  have HAft : Hid (∀ p b, p ≤ N → (aft (atmB ts p b)).1 ≤ N ∧ p ≤ (aft (atmB ts p b)).1) := hid fun p b h => by rw [HNl.out] at h ⊢; exact ⟨aft_le h, aft_ge h⟩
  have HAs : Hid (∀ p b us rel x tm, AsB ts R nm hd r p b (us.map uAt) → (∀ a p', atmB ts p b = .ok (a, p') → a = (rel, tm)) → AsI ts R nm hd r (aft (atmB ts p b)).1 (aft (atmB ts p b)).2 ((us ++ [((rel, x, tm) : UV)]).map uAt)) := hid fun p b us rel x tm h1 h2 => by rw [List.map_append]; exact h1.atom (a := (rel, tm)) h2
  have KT0 := KA.out w6'.drew p6 b6 ((HX1.out.trans HQ.out.ex).trans (Ex.bel (Below.refl _ _).drew)) (HRd.out.below (Below.refl _ _).drew) (by omega)
  have hWs : w6'.drew.heap.size = w6'.heap.size := rfl
  obtain ⟨ay, cy, ey⟩ := own_shapeT2 HQ.out.own2
  obtain ⟨ny', hny'⟩ : ∃ n, n = us.length := ⟨_, rfl⟩
  rw [← hny'] at ey
  subst ey
  have KT : Hid (Calls Tryd.prog 55 #[.pointer (some ⟨g, 0, none⟩)] w6'.drew fun e w' => ∃ rel x tm, e = .returned (.agg #[.string rel, x]) ∧ w'.ownsRow w6'.heap.size 145 2 x tm.length (tm.flatMap tmc) ∧ Ex g w6' w' ∧ RdB w' g v (aft (atmB ts (p6) b6)).1 (aft (atmB ts (p6) b6)).2 ∧ ∀ a p', atmB ts (p6) b6 = .ok (a, p') → a = (rel, tm)) := hid (KT0.mono fun e w' ⟨rel, x, tm, h1, h2, h3, h4, h5⟩ => ⟨rel, x, tm, h1, by rw [hWs] at h2; exact h2, (Ex.bel (Below.refl _ _).drew).trans h3, h4, h5⟩)
  have hAg : A ≠ g := HQ.out.Ag
  have cc3 := HQ.out.c3
  have HOA : Hid (∀ W (rel : ByteArray) (x : Value), QyS W1 W g A nm xh hd r (.slice ay ny' cy) us → (W.alloc (.cells #[.string rel, x] 96)).ownsRow W1.heap.size 96 2 (.slice ay ny' cy) ny' (us.flatMap atc)) := hid fun W rel x hW => by have h := hW.own2.alloc (.cells #[.string rel, x] 96); rw [← hny'] at h; exact h
  have HPush : Hid (∀ (W w6 : World) (rel : ByteArray) (x : Value) (tm : List TermV) (o : Obj) (y' : Value), QyS W1 W g A nm xh hd r (.slice ay ny' cy) us → W.ownsRow w6'.heap.size 145 2 x tm.length (tm.flatMap tmc) → (W.alloc o).grownBy w6 (Value.slice ay ny' cy).ownBlock → w6.ownsRow W1.heap.size 96 2 y' (ny' + 1) (us.flatMap atc ++ [.string rel, x]) → QyS W1 (w6.setCell ⟨A, 3, none⟩ y') g A nm xh hd r y' (us ++ [(rel, x, tm)])) := hid fun W w6 rel x tm o y' h1 h2 h3 h4 => h1.atom (u := (rel, x, tm)) (own_base h2 HQ.out.ex.size) (HQ.out.apart h2) h3 (by rw [← hny']; exact h4)
  have hnl : ny' ≤ 100001 := by omega
  clear hny' KT0 hWs
  have haf := HAft.out p6 b6 hle6
  have HAs1 : Hid (∀ rel x tm, (∀ a p', atmB ts p6 b6 = .ok (a, p') → a = (rel, tm)) → AsI ts R nm hd r (aft (atmB ts p6 b6)).1 (aft (atmB ts p6 b6)).2 ((us ++ [((rel, x, tm) : UV)]).map uAt)) := hid fun rel x tm h2 => HAs.out p6 b6 us rel x tm HAB.out h2
  clear HAB
  generalize (aft (atmB ts p6 b6)).1 = p7 at *
  generalize (aft (atmB ts p6 b6)).2 = b7 at *
  go_cut [77] from 69 to 78 (fun _ wx => Hid (∃ y' us', us'.length = us.length + 1 ∧ QyS W1 wx g A nm xh hd r y' us' ∧ RdB wx g v p7 b7 ∧ AsI ts R nm hd r p7 b7 (us'.map uAt)))
  case first =>
    as_aux_lemma =>
      clear KW46 KT44 KK KN HEnd HOK HV HR0 HLe HLn HAft HAs
      go_region_law (first
        | (go_simp; go_at_call 55; (with_reducible refine KT.out.mono ?_); rintro e w5 ⟨rel5, x5, tm5, rfl, ht5, hx5, hr5, hv5⟩; obtain ⟨at5, ct5, ex5⟩ := own_shapeT2 ht5; obtain ⟨nt5, hnt5⟩ : ∃ n, n = tm5.length := ⟨_, rfl⟩; rw [← hnt5] at ex5; subst ex5; have HT5 := hid ht5; have HV5 := hid hv5; have ha5 := HQ.out.next hx5; have HA5 := hid ha5; have HR5 := hid hr5; have d1 := ha5.c3; have dl := ha5.lt; have da : ∀ o', (w5.alloc o').cell? ⟨A, 3, none⟩ = some (.slice ay ny' cy) := (fun o' => (World.cell?_alloc_past _ _ _ dl).trans d1); clear ha5 hr5 hx5 ht5 hv5 hnt5)
        | (refine step_append_lies _ (by rfl) _ _ _ (by rfl) W1.heap.size 96 iA (.agg #[.string ⟨#[]⟩, .slice none 0 0]) 2 40 Tryd.underlying31 ai az0 az1 az2 rfl (by decide) (.slice ay ny' cy) ny' (us.flatMap atc) (by rfl) (HOA.out w5 rel5 (.slice at5 nt5 ct5) HA5.out) ⟨w5.heap.size, 0, none⟩ 1 1 [.string rel5, .slice at5 nt5 ct5] (by rfl) (by rfl) (new2_cell _ _ _ _) (fun u hu => by simp at hu; rcases hu with rfl | rfl <;> rfl) (by decide) (by unfold maxLen; omega) (by omega) (by have := HA5.out.ex.size; simp; omega) (w5.heap.size + 1) (by simp) ?_; intro g6 cp6 w6 hown6 hgrow6 hat6 hlt6; have HN6 := hid (HPush.out w5 w6 rel5 (.slice at5 nt5 ct5) tm5 _ (.slice (some ⟨g6, 0, none⟩) (ny' + 1) cp6) HA5.out HT5.out hgrow6 hown6); have HR6 := hid ((HR5.out.belN (HA5.out.bel2 hgrow6) HA5.out.hg).set (o := 3) (u := .slice (some ⟨g6, 0, none⟩) (ny' + 1) cp6) (show A ≠ g from hAg)); have b6 := HA5.out.blk2 hgrow6; have d6 : w6.cell? ⟨A, 3, none⟩ = some (.slice ay ny' cy) := (cell_of_row _ _ _ _ _ _ b6); have f6 : w6.frozen? ⟨A, 3, none⟩ = false := (by unfold World.frozen?; rw [b6]; simp); clear hown6 hgrow6 hat6 hlt6 b6)
        | fail)
      all_goals (go_wp2_with fail; go_meet)
      all_goals exact hid ⟨_, _, by rw [List.length_append, List.length_singleton], HN6.out, HR6.out, HAs1.out _ _ _ HV5.out⟩
  case rest =>
  have HS0 := hcut
  clear hcut HOA HPush KT HRd HQ cc3 HAs1
  generalize wc = W6 at *
  go_wp2_with fail
  go_loopw [79] (fun _ wr => ∃ (p : Nat) (b : Bool) (us : List UV), p ≤ N ∧ us.length ≤ p + 1 ∧ Hid (AsI ts R nm hd r p b (us.map uAt) ∧ RdB wr g v p b ∧ ∃ y, QyS W1 wr g A nm xh hd r y us)) (fun _ wr => N + 1 - posOf wr g)
  case atStart =>
    obtain ⟨y', us', h0, h1, h2, h3⟩ := HS0.out
    exact ⟨p7, b7, us', by omega, by omega, hid ⟨h3, h2, y', h1⟩⟩
  case round =>
    clear HS0 hnl hul haf
    obtain ⟨p8, b8, us, hp8, hul, HS⟩ := hrel
    obtain ⟨hI, hr8, y8, ha8⟩ := HS.out
    have HQ0 := hid ha8
    have HI8 := hid hI
    have K44 := hid (KT44.out wr p8 b8 (HX1.out.trans ha8.ex) hr8 (by omega))
    have hpos := hr8.pos
    clear hI hr8 ha8 HS
    cases h44 : tkB ts p8 b8 44
    · rw [h44] at K44
      have HF : Hid (Std R (fun p => if p < ts.length then .error p else .ok ⟨nm, hd, r, us.map uAt⟩) (wtP ts p8 b8 46) (wtQ ts p8 b8 46)) := hid (HI8.out.fin h44)
      have hle9 := HLe.out p8 b8 46 hp8
      clear hpos HI8 KA KN KK HOK HAft HAs HLn
      as_aux_lemma =>
        go_upto_region 22 with (first | (go_at_call 53; refine K44.out.mono ?_; rintro e w8 ⟨rfl, hr8, hx8⟩) | fail)
        have HQ8 := hid (HQ0.out.next hx8)
        have K46 := hid (KW46.out w8 p8 b8 (HX1.out.trans HQ8.out.ex) hr8 (by omega))
        clear hr8 hx8 K44 HQ0 KT44 KW46
        generalize wtP ts p8 b8 46 = p9 at *
        generalize wtQ ts p8 b8 46 = b9 at *
        go_upto_region 23 with (first | (go_at_call 51; refine K46.out.mono ?_; rintro e w9 ⟨rfl, hr9, hx9⟩) | fail)
        have HQ9 := hid (HQ8.out.next hx9)
        have HR9 := hid hr9
        have hc0 := hr9.c0
        have hc1 := hr9.c1
        have hc2 := hr9.c2
        have hf2 := hr9.free 2
        obtain ⟨av, nv, cv, ev⟩ : ∃ a n c, v = .slice a n c ∧ n = ts.length := (by obtain ⟨a, cap, e, -⟩ := HV.out w (Ex.refl _ _); exact ⟨a, _, cap, e, rfl⟩)
        obtain ⟨ev, hnv⟩ := ev
        rw [ev] at hc0
        have hNv : nv = N := by rw [hnv, HNl.out]
        clear hnv
        subst hNv
        have HEv := hid ev
        have HF : Hid (R = if b9 then .error p9 else if p9 < nv then .error p9 else .ok ⟨nm, hd, r, us.map uAt⟩) := hid (by rw [HNl.out]; exact HF.out)
        clear hr9 hx9 K46 HQ8 HV HNl ev HLe
        have hgr : w.heap.size ≠ g := by omega
        have hAr : A ≠ w.heap.size := by have := HQ9.out.hA; omega
        have HFin : Hid (∀ b' W, (R = if b' then .error p9 else .ok ⟨nm, hd, r, us.map uAt⟩) → QyS W1 W g A nm xh hd r y8 us → RdB W g v p9 b' → E (.returned (.agg #[.string nm, xh, .int .i64 r, y8])) ((((W.setCell ⟨w.heap.size, 0, none⟩ (.string nm)).setCell ⟨w.heap.size, 1, none⟩ xh).setCell ⟨w.heap.size, 2, none⟩ (.int .i64 r)).setCell ⟨w.heap.size, 3, none⟩ y8) ∧ W.cell? ⟨A, 0, none⟩ = some (.string nm) ∧ W.cell? ⟨A, 1, none⟩ = some xh ∧ W.cell? ⟨A, 2, none⟩ = some (.int .i64 r) ∧ W.cell? ⟨A, 3, none⟩ = some y8 ∧ W.heap[w.heap.size]? = some (.cells #[.string ⟨#[]⟩, .slice none 0 0, .int .i64 0, .slice none 0 0] 33 (0, 0))) := hid fun b' W h1 h2 h3 => by
          have br := (h2.ex.block w.heap.size hs1 hgr).trans HR0.out
          have hq := (q4_set (a' := .string nm) (b' := xh) (c' := .int .i64 r) (d' := y8) br).2 (h2.rows (Nat.le_of_lt hs1))
          exact ⟨HEnd.out nm xh hd r y8 us p9 b' _ hq (((((HX1.out.trans h2.ex).new (Nat.le_refl _)).new (Nat.le_refl _)).new (Nat.le_refl _)).new (Nat.le_refl _)) ((((h3.set hgr).set hgr).set hgr).set hgr) hle9 h1, h2.c0, h2.c1, h2.c2, h2.c3, br⟩
        obtain ⟨ax, cx, ex⟩ := own_shapeT2 HQ9.out.own1
        obtain ⟨ay, cy, ey⟩ := own_shapeT2 HQ9.out.own2
        generalize hd.length = nx' at *
        generalize us.length = ny' at *
        clear HEnd HR0
        have HFace : Hid (∀ W : World, W.heap[w.heap.size]? = some (.cells #[.string ⟨#[]⟩, .slice none 0 0, .int .i64 0, .slice none 0 0] 33 (0, 0)) → W.cell? ⟨w.heap.size, 0, none⟩ = some (.string ⟨#[]⟩) ∧ W.cell? ⟨w.heap.size, 1, none⟩ = some (.slice none 0 0) ∧ W.cell? ⟨w.heap.size, 2, none⟩ = some (.int .i64 0) ∧ W.cell? ⟨w.heap.size, 3, none⟩ = some (.slice none 0 0) ∧ (∀ q, W.frozen? ⟨w.heap.size, q, none⟩ = false) ∧ (((((W.setCell ⟨w.heap.size, 0, none⟩ (.string nm)).setCell ⟨w.heap.size, 1, none⟩ xh).setCell ⟨w.heap.size, 2, none⟩ (.int .i64 r)).setCell ⟨w.heap.size, 3, none⟩ y8).cell? ⟨w.heap.size, 0, none⟩ = some (.string nm) ∧ ((((W.setCell ⟨w.heap.size, 0, none⟩ (.string nm)).setCell ⟨w.heap.size, 1, none⟩ xh).setCell ⟨w.heap.size, 2, none⟩ (.int .i64 r)).setCell ⟨w.heap.size, 3, none⟩ y8).cell? ⟨w.heap.size, 1, none⟩ = some xh ∧ ((((W.setCell ⟨w.heap.size, 0, none⟩ (.string nm)).setCell ⟨w.heap.size, 1, none⟩ xh).setCell ⟨w.heap.size, 2, none⟩ (.int .i64 r)).setCell ⟨w.heap.size, 3, none⟩ y8).cell? ⟨w.heap.size, 2, none⟩ = some (.int .i64 r) ∧ ((((W.setCell ⟨w.heap.size, 0, none⟩ (.string nm)).setCell ⟨w.heap.size, 1, none⟩ xh).setCell ⟨w.heap.size, 2, none⟩ (.int .i64 r)).setCell ⟨w.heap.size, 3, none⟩ y8).cell? ⟨w.heap.size, 3, none⟩ = some y8)) := hid fun W hW => by
          have h4 := (q4_set (a' := .string nm) (b' := xh) (c' := .int .i64 r) (d' := y8) hW).1
          exact ⟨cell_of_row _ _ _ _ _ _ hW, cell_of_row _ _ _ _ _ _ hW, cell_of_row _ _ _ _ _ _ hW, cell_of_row _ _ _ _ _ _ hW, fun q => by unfold World.frozen?; rw [hW]; simp, cell_of_row _ _ _ _ _ _ h4, cell_of_row _ _ _ _ _ _ h4, cell_of_row _ _ _ _ _ _ h4, cell_of_row _ _ _ _ _ _ h4⟩
        subst ex ey
        have HEE : Hid (∀ b' W, (R = if b' then .error p9 else .ok ⟨nm, hd, r, us.map uAt⟩) → QyS W1 W g A nm (.slice ax nx' cx) hd r (.slice ay ny' cy) us → RdB W g v p9 b' → _) := hid fun b' W h1 h2 h3 => HFin.out b' W h1 h2 h3
        clear HFin
        have HDn : Hid (∀ m, QyS W1 (w9.drewN m) g A nm (.slice ax nx' cx) hd r (.slice ay ny' cy) us ∧ RdB (w9.drewN m) g v p9 b9) := hid fun m => ⟨HQ9.out.next ((Ex.refl _ _).drewN _), HR9.out.below (below_drewN (Below.refl _ _) _)⟩
        clear HQ9 HR9 HEv
        cases b9 with
        | true =>
          go_quiet (fail)
          have hfin := HEE.out true (w9.drewN nq) HF.out (HDn.out nq).1 (HDn.out nq).2
          clear hc0 hc1 hc2 hf2 HF HEE HDn
          generalize w9.drewN nq = WW at *
          obtain ⟨hE, d0, d1, d2, d3, br⟩ := hfin
          obtain ⟨r0, r1, r2, r3, fr, q0, q1, q2, q3⟩ := HFace.out WW br
          have HQQ := hid (And.intro q0 (And.intro q1 (And.intro q2 q3)))
          clear q0 q1 q2 q3
          have f0 := fr 0
          have f1 := fr 1
          have f2' := fr 2
          have f3 := fr 3
          have HE := hid hE
          clear HFace br fr hE
          go_upto_region 25 with fail
          obtain ⟨WF, hWF⟩ : ∃ W, W = (((WW.setCell ⟨w.heap.size, 0, none⟩ (.string nm)).setCell ⟨w.heap.size, 1, none⟩ (.slice ax nx' cx)).setCell ⟨w.heap.size, 2, none⟩ (.int .i64 r)).setCell ⟨w.heap.size, 3, none⟩ (.slice ay ny' cy) := ⟨_, rfl⟩
          rw [← hWF] at HE HQQ
          have HWF := hid hWF
          clear hWF
          go_cut [110] from 4 (fun _ wx => Hid (wx = WF))
          case first =>
            go_wp2_with fail
            go_meet
            exact hid HWF.out.symm
          case rest =>
            have hw := hcut.out
            subst wc
            obtain ⟨q0, q1, q2, q3⟩ := HQQ.out
            clear d0 d1 d2 d3 r0 r1 r2 r3 f0 f1 f2' f3
            rename_i KK1 hKK1
            refine hKK1 _ _ ?_
            refine wp_ret ?_
            refine bodyPost_ret (v := .agg #[.string nm, .slice ax nx' cx, .int .i64 r, .slice ay ny' cy]) (by simp [results, Tryd.results24, go_sem, q0, q1, q2, q3]) rfl ?_
            exact HE.out
        | false =>
          by_cases hpn : p9 < nv
          · have i9 : (p9 : Int) < (nv : Int) := by omega
            have HR' : Hid (R = .error p9) := hid (by have := HF.out; rw [if_neg (by decide), if_pos hpn] at this; exact this)
            go_quiet (fail)
            have hfin := HEE.out true ((w9.drewN nq).setCell ⟨g, 2, none⟩ (.bool true)) HR'.out ((HDn.out nq).1.next (Ex.refl _ _).set) ((HDn.out nq).2.setB _)
            have HFN := hid hfin
            clear hfin HF HR' HEE HDn hpn
            go_upto_region 25 with fail
            have hfin := HFN.out
            clear hc0 hc1 hc2 hf2 HFN
            generalize (w9.drewN nq).setCell ⟨g, 2, none⟩ (.bool true) = WW at *
            obtain ⟨hE, d0, d1, d2, d3, br⟩ := hfin
            obtain ⟨r0, r1, r2, r3, fr, q0, q1, q2, q3⟩ := HFace.out WW br
            have HQQ := hid (And.intro q0 (And.intro q1 (And.intro q2 q3)))
            clear q0 q1 q2 q3
            have f0 := fr 0
            have f1 := fr 1
            have f2' := fr 2
            have f3 := fr 3
            have HE := hid hE
            clear HFace br fr hE
            obtain ⟨WF, hWF⟩ : ∃ W, W = (((WW.setCell ⟨w.heap.size, 0, none⟩ (.string nm)).setCell ⟨w.heap.size, 1, none⟩ (.slice ax nx' cx)).setCell ⟨w.heap.size, 2, none⟩ (.int .i64 r)).setCell ⟨w.heap.size, 3, none⟩ (.slice ay ny' cy) := ⟨_, rfl⟩
            rw [← hWF] at HE HQQ
            have HWF := hid hWF
            clear hWF
            go_cut [110] from 4 (fun _ wx => Hid (wx = WF))
            case first =>
              go_wp2_with fail
              go_meet
              exact hid HWF.out.symm
            case rest =>
              have hw := hcut.out
              subst wc
              obtain ⟨q0, q1, q2, q3⟩ := HQQ.out
              clear d0 d1 d2 d3 r0 r1 r2 r3 f0 f1 f2' f3
              rename_i KK1 hKK1
              refine hKK1 _ _ ?_
              refine wp_ret ?_
              refine bodyPost_ret (v := .agg #[.string nm, .slice ax nx' cx, .int .i64 r, .slice ay ny' cy]) (by simp [results, Tryd.results24, go_sem, q0, q1, q2, q3]) rfl ?_
              exact HE.out
          · have i9 : ¬ ((p9 : Int) < (nv : Int)) := by omega
            have HR' : Hid (R = .ok ⟨nm, hd, r, us.map uAt⟩) := hid (by have := HF.out; rw [if_neg (by decide), if_neg hpn] at this; exact this)
            go_quiet (fail)
            have hfin := HEE.out false (w9.drewN nq) HR'.out (HDn.out nq).1 (HDn.out nq).2
            clear hc0 hc1 hc2 hf2 HF HR' HEE HDn hpn
            generalize w9.drewN nq = WW at *
            obtain ⟨hE, d0, d1, d2, d3, br⟩ := hfin
            obtain ⟨r0, r1, r2, r3, fr, q0, q1, q2, q3⟩ := HFace.out WW br
            have HQQ := hid (And.intro q0 (And.intro q1 (And.intro q2 q3)))
            clear q0 q1 q2 q3
            have f0 := fr 0
            have f1 := fr 1
            have f2' := fr 2
            have f3 := fr 3
            have HE := hid hE
            clear HFace br fr hE
            go_upto_region 25 with fail
            obtain ⟨WF, hWF⟩ : ∃ W, W = (((WW.setCell ⟨w.heap.size, 0, none⟩ (.string nm)).setCell ⟨w.heap.size, 1, none⟩ (.slice ax nx' cx)).setCell ⟨w.heap.size, 2, none⟩ (.int .i64 r)).setCell ⟨w.heap.size, 3, none⟩ (.slice ay ny' cy) := ⟨_, rfl⟩
            rw [← hWF] at HE HQQ
            have HWF := hid hWF
            clear hWF
            go_cut [110] from 4 (fun _ wx => Hid (wx = WF))
            case first =>
              go_wp2_with fail
              go_meet
              exact hid HWF.out.symm
            case rest =>
              have hw := hcut.out
              subst wc
              obtain ⟨q0, q1, q2, q3⟩ := HQQ.out
              clear d0 d1 d2 d3 r0 r1 r2 r3 f0 f1 f2' f3
              rename_i KK1 hKK1
              refine hKK1 _ _ ?_
              refine wp_ret ?_
              refine bodyPost_ret (v := .agg #[.string nm, .slice ax nx' cx, .int .i64 r, .slice ay ny' cy]) (by simp [results, Tryd.results24, go_sem, q0, q1, q2, q3]) rfl ?_
              exact HE.out
    · rw [h44] at K44
      have HB9 := hid (HI8.out.next h44)
      have hplt : p8 < N := by have := (tkB_iff.1 h44).2.1; have := HNl.out; omega
      have haf := HAft.out (p8 + 1) b8 (by omega)
      as_aux_lemma =>
        go_upto_region 21 with (first | (go_at_call 53; refine K44.out.mono ?_; rintro e w4' ⟨rfl, hr5, hx5⟩) | fail)
        have HRd : Hid (RdB w4' g v (p8 + 1) b8) := hid hr5
        have HQ := hid (HQ0.out.next hx5)
        clear hr5 hx5 K44 HQ0 HI8
        have KT0 := KA.out w4'.drew (p8 + 1) b8 ((HX1.out.trans HQ.out.ex).trans (Ex.bel (Below.refl _ _).drew)) (HRd.out.below (Below.refl _ _).drew) (by omega)
        have hWs : w4'.drew.heap.size = w4'.heap.size := rfl
        obtain ⟨ay, cy, ey⟩ := own_shapeT2 HQ.out.own2
        obtain ⟨ny', hny'⟩ : ∃ n, n = us.length := ⟨_, rfl⟩
        rw [← hny'] at ey
        subst ey
        have KT : Hid (Calls Tryd.prog 55 #[.pointer (some ⟨g, 0, none⟩)] w4'.drew fun e w' => ∃ rel x tm, e = .returned (.agg #[.string rel, x]) ∧ w'.ownsRow w4'.heap.size 145 2 x tm.length (tm.flatMap tmc) ∧ Ex g w4' w' ∧ RdB w' g v (aft (atmB ts ((p8 + 1)) b8)).1 (aft (atmB ts ((p8 + 1)) b8)).2 ∧ ∀ a p', atmB ts ((p8 + 1)) b8 = .ok (a, p') → a = (rel, tm)) := hid (KT0.mono fun e w' ⟨rel, x, tm, h1, h2, h3, h4, h5⟩ => ⟨rel, x, tm, h1, by rw [hWs] at h2; exact h2, (Ex.bel (Below.refl _ _).drew).trans h3, h4, h5⟩)
        have hAg : A ≠ g := HQ.out.Ag
        have cc3 := HQ.out.c3
        have HOA : Hid (∀ W (rel : ByteArray) (x : Value), QyS W1 W g A nm xh hd r (.slice ay ny' cy) us → (W.alloc (.cells #[.string rel, x] 96)).ownsRow W1.heap.size 96 2 (.slice ay ny' cy) ny' (us.flatMap atc)) := hid fun W rel x hW => by have h := hW.own2.alloc (.cells #[.string rel, x] 96); rw [← hny'] at h; exact h
        have HPush : Hid (∀ (W w6 : World) (rel : ByteArray) (x : Value) (tm : List TermV) (o : Obj) (y' : Value), QyS W1 W g A nm xh hd r (.slice ay ny' cy) us → W.ownsRow w4'.heap.size 145 2 x tm.length (tm.flatMap tmc) → (W.alloc o).grownBy w6 (Value.slice ay ny' cy).ownBlock → w6.ownsRow W1.heap.size 96 2 y' (ny' + 1) (us.flatMap atc ++ [.string rel, x]) → QyS W1 (w6.setCell ⟨A, 3, none⟩ y') g A nm xh hd r y' (us ++ [(rel, x, tm)])) := hid fun W w6 rel x tm o y' h1 h2 h3 h4 => h1.atom (u := (rel, x, tm)) (own_base h2 HQ.out.ex.size) (HQ.out.apart h2) h3 (by rw [← hny']; exact h4)
        have hnl : ny' ≤ 100001 := by omega
        clear hny' KT0 hWs
        have HAs1 : Hid (∀ rel x tm, (∀ a p', atmB ts (p8 + 1) b8 = .ok (a, p') → a = (rel, tm)) → AsI ts R nm hd r (aft (atmB ts (p8 + 1) b8)).1 (aft (atmB ts (p8 + 1) b8)).2 ((us ++ [((rel, x, tm) : UV)]).map uAt)) := hid fun rel x tm h2 => HAs.out (p8 + 1) b8 us rel x tm HB9.out h2
        clear HB9 HAs HAft KA KK KN KW46 KT44 HEnd HOK HV HR0 HLe HLn
        generalize (aft (atmB ts (p8 + 1) b8)).1 = p9 at *
        generalize (aft (atmB ts (p8 + 1) b8)).2 = b9 at *
        go_region_law (first
          | (go_simp; go_at_call 55; (with_reducible refine KT.out.mono ?_); rintro e w5 ⟨rel5, x5, tm5, rfl, ht5, hx5, hr5, hv5⟩; obtain ⟨at5, ct5, ex5⟩ := own_shapeT2 ht5; obtain ⟨nt5, hnt5⟩ : ∃ n, n = tm5.length := ⟨_, rfl⟩; rw [← hnt5] at ex5; subst ex5; have HT5 := hid ht5; have HV5 := hid hv5; have ha5 := HQ.out.next hx5; have HA5 := hid ha5; have HR5 := hid hr5; have d1 := ha5.c3; have dl := ha5.lt; have da : ∀ o', (w5.alloc o').cell? ⟨A, 3, none⟩ = some (.slice ay ny' cy) := (fun o' => (World.cell?_alloc_past _ _ _ dl).trans d1); clear ha5 hr5 hx5 ht5 hv5 hnt5)
          | (refine step_append_lies _ (by rfl) _ _ _ (by rfl) W1.heap.size 96 iA (.agg #[.string ⟨#[]⟩, .slice none 0 0]) 2 40 Tryd.underlying31 ai az0 az1 az2 rfl (by decide) (.slice ay ny' cy) ny' (us.flatMap atc) (by rfl) (HOA.out w5 rel5 (.slice at5 nt5 ct5) HA5.out) ⟨w5.heap.size, 0, none⟩ 1 1 [.string rel5, .slice at5 nt5 ct5] (by rfl) (by rfl) (new2_cell _ _ _ _) (fun u hu => by simp at hu; rcases hu with rfl | rfl <;> rfl) (by decide) (by unfold maxLen; omega) (by omega) (by have := HA5.out.ex.size; simp; omega) (w5.heap.size + 1) (by simp) ?_; intro g6 cp6 w6 hown6 hgrow6 hat6 hlt6; have HN6 := hid (HPush.out w5 w6 rel5 (.slice at5 nt5 ct5) tm5 _ (.slice (some ⟨g6, 0, none⟩) (ny' + 1) cp6) HA5.out HT5.out hgrow6 hown6); have HR6 := hid ((HR5.out.belN (HA5.out.bel2 hgrow6) HA5.out.hg).set (o := 3) (u := .slice (some ⟨g6, 0, none⟩) (ny' + 1) cp6) (show A ≠ g from hAg)); have b6 := HA5.out.blk2 hgrow6; have d6 : w6.cell? ⟨A, 3, none⟩ = some (.slice ay ny' cy) := (cell_of_row _ _ _ _ _ _ b6); have f6 : w6.frozen? ⟨A, 3, none⟩ = false := (by unfold World.frozen?; rw [b6]; simp); clear hown6 hgrow6 hat6 hlt6 b6)
          | fail)
        all_goals
          have hpos6 := HR6.out.pos
          go_wp2_with fail
          go_roundw
          case rel => exact ⟨p9, b9, _, by omega, by rw [List.length_append, List.length_singleton]; omega, hid ⟨HAs1.out _ _ _ HV5.out, HR6.out, _, HN6.out⟩⟩
          case measure => rw [hpos6, hpos]; omega

end Go.Proofs.YtcdfoephhjacdaaDoor
