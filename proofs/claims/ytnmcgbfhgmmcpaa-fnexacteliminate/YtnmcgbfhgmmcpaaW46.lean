import Derived.Test.YtnmcgbfhgmmcpaaW45
/-
  spec.l4Widths.
-/
namespace Go.Proofs.Ytnmcgbfhgmmcpaa
open Go.RowKit

/-- a Rat that may be written, in a block of its own -/
structure TRp (W : World) (g : Nat) (x y : Int) : Prop where
  typ : ∃ cur, W.heap[g]? = some (.cells cur 28 (0, 0))
  two : Two W g x y

section
variable {W W' w3 : World} {g B : Nat} {x y : Int} {v : Value} {o : Obj}
theorem TRp.lt (h : TRp W g x y) : g < W.heap.size := lt_of_typ h.typ
theorem TRp.below (h : TRp W g x y) (hb : Below W.heap.size W W') : TRp W' g x y := ⟨by rw [hb.block g h.lt]; exact h.typ, h.two.below h.lt hb⟩
theorem TRp.move (h : TRp W g x y) (e : W'.heap[g]? = W.heap[g]?) : TRp W' g x y :=
  ⟨by rw [e]; exact h.typ, (World.cell?_of_block (w := W) (a := ⟨g, 0, none⟩) e).trans h.two.1, (World.cell?_of_block (w := W) (a := ⟨g, 1, none⟩) e).trans h.two.2.1, (World.frozen?_of_block (w := W) (a := ⟨g, 0, none⟩) e).trans h.two.2.2.1, (World.frozen?_of_block (w := W) (a := ⟨g, 1, none⟩) e).trans h.two.2.2.2⟩
theorem TRp.new (W : World) (x y : Int) : TRp (W.alloc (.cells #[.int .i64 x, .int .i64 y] 28)) W.heap.size x y :=
  ⟨⟨_, heap_alloc_new _ _⟩, by rw [World.cell?_alloc_at _ _ _ _ rfl]; rfl, by rw [World.cell?_alloc_at _ _ _ _ rfl]; rfl, World.frozen?_alloc_at _ _ _ _ rfl, World.frozen?_alloc_at _ _ _ _ rfl⟩
theorem TRp.set (h : TRp W g x y) (x' y' : Int) : TRp ((W.setCell ⟨g, 0, none⟩ (.int .i64 x')).setCell ⟨g, 1, none⟩ (.int .i64 y')) g x' y' := ⟨typ_set (typ_set h.typ), h.two.set x' y'⟩
theorem TRp.other {g' : Nat} (h : TRp W g x y) (hne : g ≠ g') (a b : Value) : TRp ((W.setCell ⟨g', 0, none⟩ a).setCell ⟨g', 1, none⟩ b) g x y :=
  h.move (by rw [Below.heap_setCell _ _ _ _ (by exact hne), Below.heap_setCell _ _ _ _ (by exact hne)])
theorem TRp.grow {n : Nat} {xs : List Value} (h : TRp W g x y) (hne : some g ≠ v.ownBlock) (hg : (W.alloc o).grownBy w3 v.ownBlock) (_hown : W.ownsRow B 28 2 v n xs) : TRp w3 g x y := h.move (grown_keep hg h.lt hne)
end

theorem new2_cell' (w : World) (x y : Value) (t : TypeId) : ∀ j u, [x, y][j]? = some u → (w.alloc (.cells #[x, y] t)).cell? ((⟨w.heap.size, 0, none⟩ : Addr).add j) = some u := by
  intro j u hj
  match j, hj with
  | 0, hj => simp at hj; subst hj; simp [Addr.add]
  | 1, hj => simp at hj; subst hj; simp [Addr.add]

set_option maxHeartbeats 20000000 in
set_option maxRecDepth 1000000 in
theorem l4Widths_calls (w : World) (vb ve : Value) (bs es : List (List Int)) (hb : ISS w vb bs) (hlb : bs.length ≤ 1000) (h : ISS w ve es) (hl : Short es) (he : edgesB es = true) (hg : ∀ i, i < bs.length → GoodBag es (bs.getD i []) ∧ 1 ≤ (bs.getD i []).length) :
    Calls Try.prog 66 #[vb, ve] w fun e w' => ∃ v, e = .returned (.tuple #[v, .agg #[.int .i64 (mostN (fun i => wdR es (bs.getD i [])) bs.length).num, .int .i64 (mostN (fun i => wdR es (bs.getD i [])) bs.length).den]]) ∧
      w'.ownsRow w.heap.size 28 2 v bs.length (rcs (prs bs.length (fun i => wdR es (bs.getD i [])))) ∧ Below w.heap.size w w' := by
  obtain ⟨iR, hi, hz0, hz1, hz2⟩ := info_parts Try.infoRatS
  have HES := hid h
  have HL := hid hl
  obtain ⟨aE, cE, rfl, -⟩ := h
  have KW : Hid (∀ W u i, Below w.heap.size w W → i < bs.length → IS W u (bs.getD i []) → Calls Try.prog 94 #[u, .slice aE es.length cE] W fun e w' => e = .returned (.agg #[.int .i64 (wdR es (bs.getD i [])).num, .int .i64 (wdR es (bs.getD i [])).den]) ∧ Below W.heap.size W w') :=
    hid fun W u i hW hi hu => l4Width_calls W u _ (bs.getD i []) es hu (HES.out.below hW) HL.out he (hg i hi).1 (hg i hi).2
  have HSM : Hid (∀ i, i < bs.length → Sm 36000 (wdR es (bs.getD i []))) := hid fun i hi => (hg i hi).1.sm he
  have HMS : Hid (∀ k, k ≤ bs.length → Sm 36000 (mostN (fun i => wdR es (bs.getD i [])) k)) := hid fun k hk => mostN_sm (by omega) (fun i hi => HSM.out i (by omega))
  obtain ⟨a, cap, rfl, hc⟩ := hb
  have HC := hid hc
  obtain ⟨f, hf⟩ : ∃ f : Nat → Rat, f = fun i => wdR es (bs.getD i []) := ⟨_, rfl⟩
  have HFI : Hid (∀ i, wdR es (bs.getD i []) = f i) := hid fun i => by rw [hf]
  rw [← hf] at HMS ⊢
  have HS1 : Hid (∀ k, mostN f k < f k → mostN f (k + 1) = f k) := hid fun k hk => by show (if _ then _ else _) = _; rw [if_pos hk]
  have HS2 : Hid (∀ k, ¬ mostN f k < f k → mostN f (k + 1) = mostN f k) := hid fun k hk => by show (if _ then _ else _) = _; rw [if_neg hk]
  have H0 : Hid (mostN f 0 = 0) := hid rfl
  have HRC := hid (fun k => rcs_prs_succ k f)
  have HR0 : Hid (rcs (prs 0 f) = []) := hid rfl
  obtain ⟨n, hn⟩ : ∃ n, n = bs.length := ⟨_, rfl⟩
  rw [← hn] at hlb KW HSM HMS HC ⊢
  clear hc hf hn hg hl he
  generalize mostN f = MN at *
  have hb1 : Below w.heap.size w (w.alloc (.cells #[.int .i64 0, .int .i64 0] 28)) := (Below.refl _ _).alloc (Nat.le_refl _) _
  have hb2 := hb1.alloc hb1.size (.cells #[] 28)
  have hb3 := hb2.alloc hb2.size (.cells #[.int .i64 0, .int .i64 1] 28)
  have hA : ∀ W : World, ∀ o, Below W.heap.size W (W.alloc o) := fun W o => (Below.refl _ _).alloc (Nat.le_refl _) _
  have t1 := ((TRp.new w 0 0).below (hA _ (.cells #[] 28))).below (hA _ (.cells #[.int .i64 0, .int .i64 1] 28))
  have t2 := TRp.new ((w.alloc (.cells #[.int .i64 0, .int .i64 0] 28)).alloc (.cells #[] 28)) 0 1
  have ow : ((w.alloc (.cells #[.int .i64 0, .int .i64 0] 28)).alloc (.cells #[] 28)).ownsRow w.heap.size 28 2 (.slice (some ⟨(w.alloc (.cells #[.int .i64 0, .int .i64 0] 28)).heap.size, 0, none⟩) 0 0) 0 [] := World.ownsRow_made (w.alloc (.cells #[.int .i64 0, .int .i64 0] 28)) #[] 0 hb1.size (by decide) rfl
  have ow2 := own_below ow (hA _ (.cells #[.int .i64 0, .int .i64 1] 28))
  have s1 : (w.alloc (.cells #[.int .i64 0, .int .i64 0] 28)).heap.size = w.heap.size + 1 := by simp
  have s2 : ((w.alloc (.cells #[.int .i64 0, .int .i64 0] 28)).alloc (.cells #[] 28)).heap.size = w.heap.size + 1 + 1 := by simp
  rw [s1] at ow2
  rw [s2] at t2
  have HX : Hid (Below w.heap.size w (((w.alloc (.cells #[.int .i64 0, .int .i64 0] 28)).alloc (.cells #[] 28)).alloc (.cells #[.int .i64 0, .int .i64 1] 28)) ∧ TRp (((w.alloc (.cells #[.int .i64 0, .int .i64 0] 28)).alloc (.cells #[] 28)).alloc (.cells #[.int .i64 0, .int .i64 1] 28)) w.heap.size 0 0 ∧ TRp (((w.alloc (.cells #[.int .i64 0, .int .i64 0] 28)).alloc (.cells #[] 28)).alloc (.cells #[.int .i64 0, .int .i64 1] 28)) (w.heap.size + 1 + 1) 0 1 ∧
    (((w.alloc (.cells #[.int .i64 0, .int .i64 0] 28)).alloc (.cells #[] 28)).alloc (.cells #[.int .i64 0, .int .i64 1] 28)).ownsRow w.heap.size 28 2 (.slice (some ⟨w.heap.size + 1, 0, none⟩) 0 0) 0 []) := hid ⟨hb3, t1, t2, ow2⟩
  clear hb1 hb2 hb3 hA t1 t2 ow ow2 s1 s2
  go_enter Try.func66, Try.ntmps66
  go_wp2
  go_loopw [6, 15] (fun v t wr => ∃ (k : Nat) (vc : Value), k ≤ n ∧ t = .int .i64 k ∧ vc = v ∧ w.heap.size + 1 + 1 < wr.heap.size ∧ Hid (Below w.heap.size w wr ∧ TRp wr w.heap.size 0 0 ∧ TRp wr (w.heap.size + 1 + 1) (MN k).num (MN k).den ∧ wr.ownsRow w.heap.size 28 2 vc k (rcs (prs k f)) ∧ ∀ g, vc.ownBlock = some g → g ≠ w.heap.size ∧ g ≠ w.heap.size + 1 + 1)) (fun _ t _ => n - (intOf t).toNat)
  case atStart =>
    refine ⟨0, _, Nat.zero_le _, rfl, rfl, by simp, hid ⟨HX.out.1, HX.out.2.1, by rw [H0.out]; exact HX.out.2.2.1, by rw [HR0.out]; exact HX.out.2.2.2, fun g hg => ?_⟩⟩
    have := ownB hg
    omega
  case round =>
    clear HX
    obtain ⟨k, vc, hkn, rfl, rfl, hsz, hH⟩ := hrel
    generalize wr = W1 at *
    have HB1 := hid hH.out.1
    have HT1 := hid hH.out.2.1
    have HM1 := hid hH.out.2.2.1
    have HO1 := hid hH.out.2.2.2.1
    have HN1 := hid hH.out.2.2.2.2
    clear hH
    by_cases hk1 : k < n
    · have i1 : (k : Int) < (n : Int) := by omega
      rcases HC.out with h0 | ⟨b, o, rfl, hcell⟩
      · omega
      obtain ⟨u, e1, hu⟩ := hcell k hk1
      have c1 := bclp HB1.out e1
      have KW1 := hid (KW.out W1 u k HB1.out hk1 (hu.below HB1.out))
      have hs1 := HSM.out k hk1
      have hs2 := HMS.out k hkn
      rw [HFI.out k] at KW1 hs1
      have KL : Hid (∀ W, Calls Try.prog 95 #[.agg #[.int .i64 (MN k).num, .int .i64 (MN k).den], .agg #[.int .i64 (f k).num, .int .i64 (f k).den]] W fun e w' => e = .returned (.bool (decide (MN k < f k))) ∧ Below W.heap.size W w') := hid fun W => slessV (MN k) (f k) W hs2 hs1 (by decide)
      have hc1 := HS1.out k
      have hc2 := HS2.out k
      have HRk := hid (HRC.out k)
      obtain ⟨a1, cap1, rfl, -⟩ := hu
      clear hcell e1 hs1 hs2
      generalize (bs.getD k []).length = lk at *
      generalize hx : (f k).num = x at *
      generalize hy : ((f k).den : Int) = y at *
      generalize hx0 : (MN k).num = x0 at *
      generalize hy0 : ((MN k).den : Int) = y0 at *
      have HX := hid hx
      have HY := hid hy
      have HX0 := hid hx0
      have HY0 := hid hy0
      clear hx hy hx0 hy0
      go_wp2_with fail
      refine KW1.out.mono ?_
      rintro e W2 ⟨rfl, hb2⟩
      have HB2 := hid hb2
      have hA : Below W2.heap.size W2 (W2.alloc (.cells #[.int .i64 x, .int .i64 y] 28)) := (Below.refl _ _).alloc (Nat.le_refl _) _
      have HT3 := hid (TRp.new W2 x y)
      have HB13 := hid (bt hb2 hA)
      have HO3 := hid (own_below HO1.out (bt hb2 hA))
      have HM3 := hid (HM1.out.below (bt hb2 hA))
      have HZ3 := hid (HT1.out.below (bt hb2 hA))
      have d1 := HT3.out.two.1
      have d2 := HT3.out.two.2.1
      have hsz2 := hb2.size
      clear hb2 hA KW1 c1 HT1 HM1
      go_upto_region 7 with fail
      obtain ⟨G, hG⟩ : ∃ G, G = W2.heap.size := ⟨_, rfl⟩
      rw [← hG] at HT3 d1 d2 hsz2 ⊢
      clear hG
      generalize W2.alloc (.cells #[.int .i64 x, .int .i64 y] 28) = W3 at *
      have hown := HO3.out
      have hrs := (bt HB1.out HB13.out).size
      have hlt3 := HT3.out.lt
      go_wp2_with (first
        | (at_builtin; refine wpList_append_lies _ rfl _ _ 29 rfl w.heap.size 28 iR (.agg #[.int .i64 0, .int .i64 0]) 2 16 Try.underlying29 hi hz0 hz1 hz2 rfl (by decide) _ _ _ rfl (hown.alloc _) ⟨W3.heap.size, 0, none⟩ 1 1 [.int .i64 x, .int .i64 y] rfl rfl ?ka1 ?ka2 (by decide) ?ka3 ?ka4 ?ka5 _ rfl ?_) | fail)
      case ka1 => exact new2_cell' _ _ _ _
      case ka2 => intro u hu; simp at hu; rcases hu with rfl | rfl <;> rfl
      case ka3 => unfold maxLen; omega
      case ka4 => omega
      case ka5 => exact Nat.le_trans hrs (by simp)
      intro g cp w4 hown4 hgrow hat hlt
      have hGn : some G ≠ vc.ownBlock := fun e => by
        have := (HO1.out.lt G e.symm).2
        omega
      have hz4 := HZ3.out.grow (fun e => (HN1.out _ e.symm).1 rfl) hgrow hown
      have hm4 := HM3.out.grow (fun e => (HN1.out _ e.symm).2 rfl) hgrow hown
      have hg4 := HT3.out.grow hGn hgrow hown
      have hb4 := own_grow2 hrs hown (bt HB1.out HB13.out) hgrow
      have hs4 : W3.heap.size < w4.heap.size := by
        have := hgrow.size
        simp at this
        omega
      have HN4 : Hid (∀ g', (Value.slice (some ⟨g, 0, none⟩) (k + 1) cp).ownBlock = some g' → g' ≠ w.heap.size ∧ g' ≠ w.heap.size + 1 + 1) := hid fun g' e => by
        have e2 := ownB e
        subst e2
        rcases hat with h1 | h1
        · exact HN1.out _ h1
        · omega
      have HO4 : Hid (w4.ownsRow w.heap.size 28 2 (.slice (some ⟨g, 0, none⟩) (k + 1) cp) (k + 1) (rcs (prs (k + 1) f))) := hid (by rw [HRk.out]; exact hown4)
      have HZ4 := hid hz4
      have HM4 := hid hm4
      have HG4 := hid hg4
      have HB4 := hid hb4
      have y1 := hm4.two.1
      have y2 := hm4.two.2.1
      have y3 := hg4.two.1
      have y4 := hg4.two.2.1
      clear hz4 hm4 hg4 hb4 hown4 hgrow hat hown hGn d1 d2
      by_cases hlt2 : MN k < f k
      · have HE := hid (hc1 hlt2)
        have KL2 := hid (KL.out w4)
        rw [decide_eq_true hlt2] at KL2
        clear hc1 hc2 KL hlt2
        go_wp2_with fail
        refine KL2.out.mono ?_
        rintro e w5 ⟨rfl, hb5⟩
        have q1 := HM4.out.below hb5
        have q2 := HG4.out.below hb5
        have q3 := HZ4.out.below hb5
        have e1 := q1.two.1
        have e2 := q1.two.2.1
        have e3 := q1.two.2.2.1
        have e4 := q1.two.2.2.2
        have e5 := q2.two.1
        have e6 := q2.two.2.1
        have hs5 := hb5.size
        have HF : Hid (Below w.heap.size w ((w5.setCell ⟨w.heap.size + 1 + 1, 0, none⟩ (.int .i64 x)).setCell ⟨w.heap.size + 1 + 1, 1, none⟩ (.int .i64 y)) ∧ TRp ((w5.setCell ⟨w.heap.size + 1 + 1, 0, none⟩ (.int .i64 x)).setCell ⟨w.heap.size + 1 + 1, 1, none⟩ (.int .i64 y)) w.heap.size 0 0 ∧ TRp ((w5.setCell ⟨w.heap.size + 1 + 1, 0, none⟩ (.int .i64 x)).setCell ⟨w.heap.size + 1 + 1, 1, none⟩ (.int .i64 y)) (w.heap.size + 1 + 1) (MN (k + 1)).num (MN (k + 1)).den ∧
            ((w5.setCell ⟨w.heap.size + 1 + 1, 0, none⟩ (.int .i64 x)).setCell ⟨w.heap.size + 1 + 1, 1, none⟩ (.int .i64 y)).ownsRow w.heap.size 28 2 (.slice (some ⟨g, 0, none⟩) (k + 1) cp) (k + 1) (rcs (prs (k + 1) f)) ∧ ∀ g', (Value.slice (some ⟨g, 0, none⟩) (k + 1) cp).ownBlock = some g' → g' ≠ w.heap.size ∧ g' ≠ w.heap.size + 1 + 1) := hid (by
          refine ⟨((bt HB4.out hb5).setCell (by show w.heap.size ≤ w.heap.size + 1 + 1; omega) _).setCell (by show w.heap.size ≤ w.heap.size + 1 + 1; omega) _, q3.other (by omega) _ _, by rw [HE.out, HX.out, HY.out]; exact q1.set _ _, ?_, HN4.out⟩
          exact own_move (own_below HO4.out hb5) (fun g' hg' => by
            have hne := (HN4.out g' hg').2
            rw [Below.heap_setCell _ _ _ _ (by exact hne), Below.heap_setCell _ _ _ _ (by exact hne)]))
        clear hb5 q1 q2 q3
        go_wp2_with fail
        go_roundw
        case rel => exact ⟨k + 1, _, by omega, by go_num, rfl, by simp [World.setCell]; omega, HF⟩
        case measure => simp [intOf]; omega
      · have HE := hid (hc2 hlt2)
        have KL2 := hid (KL.out w4)
        rw [decide_eq_false hlt2] at KL2
        clear hc1 hc2 KL hlt2
        go_wp2_with fail
        refine KL2.out.mono ?_
        rintro e w5 ⟨rfl, hb5⟩
        have hs5 := hb5.size
        have HF : Hid (Below w.heap.size w w5 ∧ TRp w5 w.heap.size 0 0 ∧ TRp w5 (w.heap.size + 1 + 1) (MN (k + 1)).num (MN (k + 1)).den ∧
            w5.ownsRow w.heap.size 28 2 (.slice (some ⟨g, 0, none⟩) (k + 1) cp) (k + 1) (rcs (prs (k + 1) f)) ∧ ∀ g', (Value.slice (some ⟨g, 0, none⟩) (k + 1) cp).ownBlock = some g' → g' ≠ w.heap.size ∧ g' ≠ w.heap.size + 1 + 1) := hid
          ⟨bt HB4.out hb5, HZ4.out.below hb5, by rw [HE.out, HX0.out, HY0.out]; exact HM4.out.below hb5, own_below HO4.out hb5, HN4.out⟩
        clear hb5
        go_wp2_with fail
        go_roundw
        case rel => exact ⟨k + 1, _, by omega, by go_num, rfl, by omega, HF⟩
        case measure => simp [intOf]; omega
    · obtain rfl : k = n := by omega
      have i1 : ¬ ((k : Int) < (k : Int)) := by omega
      have c1 := HT1.out.two.1
      have c2 := HT1.out.two.2.1
      have c3 := HT1.out.two.2.2.1
      have c4 := HT1.out.two.2.2.2
      have e1 := HM1.out.two.1
      have e2 := HM1.out.two.2.1
      generalize hx : (MN k).num = x at *
      generalize hy : ((MN k).den : Int) = y at *
      have HX := hid hx
      have HY := hid hy
      clear hx hy
      have HF : Hid (∀ W', W' = ((W1.setCell ⟨w.heap.size, 0, none⟩ (.int .i64 x)).setCell ⟨w.heap.size, 1, none⟩ (.int .i64 y)).drew → W'.cell? ⟨w.heap.size, 0, none⟩ = some (.int .i64 x) ∧ W'.cell? ⟨w.heap.size, 1, none⟩ = some (.int .i64 y) ∧ W'.ownsRow w.heap.size 28 2 vc k (rcs (prs k f)) ∧ Below w.heap.size w W') := hid fun W' e => by
        have q := HT1.out.set x y
        have hb0 : Below w.heap.size w ((W1.setCell ⟨w.heap.size, 0, none⟩ (.int .i64 x)).setCell ⟨w.heap.size, 1, none⟩ (.int .i64 y)) := (HB1.out.setCell (Nat.le_refl _) _).setCell (Nat.le_refl _) _
        have hb := hb0.drew
        have hh : ∀ b : Nat, W'.heap[b]? = ((W1.setCell ⟨w.heap.size, 0, none⟩ (.int .i64 x)).setCell ⟨w.heap.size, 1, none⟩ (.int .i64 y)).heap[b]? := fun b => by rw [e]; rfl
        refine ⟨(World.cell?_of_block (w := (W1.setCell ⟨w.heap.size, 0, none⟩ (.int .i64 x)).setCell ⟨w.heap.size, 1, none⟩ (.int .i64 y)) (a := ⟨w.heap.size, 0, none⟩) (hh w.heap.size)).trans q.two.1, (World.cell?_of_block (w := (W1.setCell ⟨w.heap.size, 0, none⟩ (.int .i64 x)).setCell ⟨w.heap.size, 1, none⟩ (.int .i64 y)) (a := ⟨w.heap.size, 1, none⟩) (hh w.heap.size)).trans q.two.2.1, own_move HO1.out (fun g' hg' => ?_), by rw [e]; exact hb⟩
        have hne := (HN1.out g' hg').1
        rw [hh, Below.heap_setCell _ _ _ _ (by exact hne), Below.heap_setCell _ _ _ _ (by exact hne)]
      go_wp2_with fail
      go_region
      obtain ⟨r1, r2, r3, r4⟩ := HF.out _ rfl
      go_wp2
      refine bodyPost_ret (v := .tuple #[vc, .agg #[.int .i64 x, .int .i64 y]]) (by simp [results, Try.results66, go_sem, r1, r2]) rfl ⟨_, by rw [HX.out, HY.out], r3, r4⟩

end Go.Proofs.Ytnmcgbfhgmmcpaa
