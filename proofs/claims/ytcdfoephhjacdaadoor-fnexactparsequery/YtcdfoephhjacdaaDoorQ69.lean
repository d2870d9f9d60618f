import Derived.WalkLawsBesides
import Derived.Test.YtcdfoephhjacdaaDoorQ62
import Derived.Test.YtcdfoephhjacdaaDoorQ66
import Derived.Test.YtcdfoephhjacdaaDoorQ68
/-
  spec.ParseQuery, over its parser's contract.
-/
namespace Go.Proofs.YtcdfoephhjacdaaDoor
open Go.RowKit

theorem flat_at {α : Type} (f : α → List Value) (m : Nat) (hf : ∀ x, (f x).length = m) (d : α) : ∀ (l : List α) (j i : Nat), j < l.length → i < m → (l.flatMap f)[j * m + i]? = (f (l.getD j d))[i]?
  | [], j, i, hj, _ => by simp at hj
  | x :: l, 0, i, _, hi => by
    rw [List.flatMap_cons, Nat.zero_mul, Nat.zero_add, List.getElem?_append_left (by rw [hf]; exact hi)]
    rfl
  | x :: l, j + 1, i, hj, hi => by
    rw [List.flatMap_cons, List.getElem?_append_right (by rw [hf, Nat.succ_mul]; omega), hf]
    rw [show (j + 1) * m + i - m = j * m + i by rw [Nat.succ_mul]; omega]
    exact flat_at f m hf d l j i (by simpa using hj) hi
theorem own_ITk {W : World} {B cap : Nat} {a : Option Addr} {ts : List TkV} (h : W.ownsRow B 57 4 (.slice a ts.length cap) ts.length (ts.flatMap stk)) : ITk W (.slice a ts.length cap) ts := by
  refine ⟨a, cap, rfl, fun j hj => ?_⟩
  rcases h.2 with ⟨-, h2⟩ | ⟨g, cap', cur, e, -⟩
  · omega
  · obtain ⟨rfl, rfl⟩ : a = some ⟨g, 0, none⟩ ∧ cap = cap' := by simpa using e
    have hc : ∀ i, i < 4 → W.cell? ⟨g, j * 4 + i, none⟩ = (stk (ts.getD j noTk))[i]? := fun i hi => by
      rw [h.cellAt (j * 4 + i) (by omega)]
      exact flat_at stk 4 (fun _ => rfl) noTk ts j i hj hi
    exact ⟨g, rfl, hc 0 (by omega), hc 1 (by omega), hc 2 (by omega), hc 3 (by omega)⟩
theorem own_Apt {W : World} {B cap g n s m : Nat} {e : TypeId} {a : Option Addr} {xs : List Value} (h : W.ownsRow B e s (.slice a n cap) m xs) (hg : W.heap.size ≤ g) : Apt (.slice a n cap) g := fun b o n' c' e2 hb => by
  have e3 : a = some ⟨b, o, none⟩ := by
    have := (Value.slice.inj e2).1
    exact this
  subst e3
  rcases h.2 with ⟨e4, -⟩ | ⟨g', cap', cur, e4, -⟩
  · cases e4
  · have h4 := (h.lt g' (by rw [e4]; rfl)).2
    have e5 := (Value.slice.inj e4).1
    have e6 : b = g' := by simpa using congrArg (fun x => x.map Addr.block) e5
    omega

def wrZ (o : Option Nat) : Int := match o with | none => -1 | some o => (o : Int)
/-- what stands at the end: the result's box -/
structure ResB (w W : World) : Prop where
  blk : ∃ a b c d, W.heap[w.heap.size]? = some (.cells #[a, b, c, d] 33 (0, 0))
  bel : Below w.heap.size w W

set_option maxHeartbeats 8000000 in
set_option maxRecDepth 1000000 in
theorem sParse_of (KQ : ∀ (w : World) (g : Nat) (v : Value) (ts : List TkV), RdB w g v 0 false → ITk w v ts → Apt v g → (∀ j, j < ts.length → TkOk (ts.getD j noTk)) → ts.length ≤ 100000 → Calls Tryd.prog 24 #[.pointer (some ⟨g, 0, none⟩)] w (QyE w g v ts (qryF ts)))
    (w : World) (s : ByteArray) (hs : s.size ≤ 1048576) : Calls Tryd.prog 10 #[.string s] w (PqE w s) := by
  obtain ⟨W1, hW1⟩ : ∃ W, W = w.alloc (.cells #[.string ⟨#[]⟩, .slice none 0 0, .int .i64 0, .slice none 0 0] 33) := ⟨_, rfl⟩
  have hB1 : Below w.heap.size w W1 := by rw [hW1]; exact (Below.refl _ _).alloc (Nat.le_refl _) _
  have hR0 : W1.heap[w.heap.size]? = some (.cells #[.string ⟨#[]⟩, .slice none 0 0, .int .i64 0, .slice none 0 0] 33 (0, 0)) := by rw [hW1]; exact heap_alloc_new _ _
  have hs1 : W1.heap.size = w.heap.size + 1 := by rw [hW1]; simp
  have HSet : Hid (∀ (W : World) a' b' c' d', W.heap[w.heap.size]? = some (.cells #[.string ⟨#[]⟩, .slice none 0 0, .int .i64 0, .slice none 0 0] 33 (0, 0)) → Below w.heap.size w W → ∃ WF, WF = (((W.setCell ⟨w.heap.size, 0, none⟩ a').setCell ⟨w.heap.size, 1, none⟩ b').setCell ⟨w.heap.size, 2, none⟩ c').setCell ⟨w.heap.size, 3, none⟩ d' ∧ (WF.cell? ⟨w.heap.size, 0, none⟩ = some a' ∧ WF.cell? ⟨w.heap.size, 1, none⟩ = some b' ∧ WF.cell? ⟨w.heap.size, 2, none⟩ = some c' ∧ WF.cell? ⟨w.heap.size, 3, none⟩ = some d') ∧ Below w.heap.size w WF ∧ (∀ {x y hd us}, QyR w.heap.size W x hd y us → QyR w.heap.size WF x hd y us) ∧ W.cell? ⟨w.heap.size, 0, none⟩ = some (.string ⟨#[]⟩) ∧ W.cell? ⟨w.heap.size, 1, none⟩ = some (.slice none 0 0) ∧ W.cell? ⟨w.heap.size, 2, none⟩ = some (.int .i64 0) ∧ W.cell? ⟨w.heap.size, 3, none⟩ = some (.slice none 0 0) ∧ W.frozen? ⟨w.heap.size, 0, none⟩ = false ∧ W.frozen? ⟨w.heap.size, 1, none⟩ = false ∧ W.frozen? ⟨w.heap.size, 2, none⟩ = false ∧ W.frozen? ⟨w.heap.size, 3, none⟩ = false) := hid fun W a' b' c' d' hW hb => by
    have h4 := q4_set (a' := a') (b' := b') (c' := c') (d' := d') hW
    have fr : ∀ q, W.frozen? ⟨w.heap.size, q, none⟩ = false := fun q => by unfold World.frozen?; rw [hW]; simp
    exact ⟨_, rfl, ⟨cell_of_row _ _ _ _ _ _ h4.1, cell_of_row _ _ _ _ _ _ h4.1, cell_of_row _ _ _ _ _ _ h4.1, cell_of_row _ _ _ _ _ _ h4.1⟩, (((hb.setCell (Nat.le_refl _) _).setCell (Nat.le_refl _) _).setCell (Nat.le_refl _) _).setCell (Nat.le_refl _) _, h4.2, cell_of_row _ _ _ _ _ _ hW, cell_of_row _ _ _ _ _ _ hW, cell_of_row _ _ _ _ _ _ hW, cell_of_row _ _ _ _ _ _ hW, fr 0, fr 1, fr 2, fr 3⟩
  by_cases h3 : 3000 < s.size
  · have HNo := hid (fun w' => PqE.no (w := w) (w' := w') (pq_long h3))
    have i3 : (3000 : Int) < (s.size : Int) := by omega
    generalize PqE w s = E at *
    obtain ⟨WF, hWF, hq, hbF, -, r0, r1, r2, r3, f0, f1, f2, f3⟩ := HSet.out W1 (.string ⟨#[]⟩) (.slice none 0 0) (.int .i64 0) (.slice none 0 0) hR0 hB1
    have HE := hid (HNo.out WF hbF)
    have HQ := hid hq
    have HWF := hid hWF
    clear HNo hq hWF hbF HSet hR0 hB1 h3 hs1
    go_enter Tryd.func10, Tryd.ntmps10
    go_upto_region 2 with fail
    rw [← hW1]
    clear hW1
    go_cut [3, 4] from 5 (fun x y wx => x = .int .i64 1 ∧ y = .int .i64 0 ∧ Hid (wx = WF))
    case first =>
      go_wp2_with fail
      go_meet
      exact ⟨rfl, rfl, hid HWF.out.symm⟩
    case rest =>
      obtain ⟨rfl, rfl, hw⟩ := hcut
      have hw := hw.out
      subst wc
      obtain ⟨q0, q1, q2, q3⟩ := HQ.out
      clear r0 r1 r2 r3 f0 f1 f2 f3
      rename_i KK1 hKK1
      refine hKK1 _ _ ?_
      refine wp_ret ?_
      refine bodyPost_ret (v := .tuple #[.agg #[.string ⟨#[]⟩, .slice none 0 0, .int .i64 0, .slice none 0 0], .int .i64 1, .int .i64 0]) (by simp [results, Tryd.results10, go_sem, q0, q1, q2, q3]) rfl ?_
      exact HE.out
  · have i3 : ¬ ((3000 : Int) < (s.size : Int)) := by omega
    have KL := hid (l3Lex_calls W1 s hs)
    have HOk := hid (lexA_ok s)
    have HB1 := hid hB1
    have HR0 := hid hR0
    obtain ⟨ts, hts⟩ : ∃ l, l = (lexA s).1 := ⟨_, rfl⟩
    obtain ⟨wr, hwr⟩ : ∃ l, l = (lexA s).2 := ⟨_, rfl⟩
    have KL2 : Hid (Calls Tryd.prog 23 #[.string s] W1 fun e w' => ∃ a cap z, e = .returned (.tuple #[.slice a ts.length cap, .int .i64 z]) ∧ z = wrZ wr ∧ w'.ownsRow W1.heap.size 57 4 (.slice a ts.length cap) ts.length (ts.flatMap stk) ∧ Below W1.heap.size W1 w') := hid (by rw [hts, hwr]; exact KL.out)
    have HTok : Hid ((∀ j, j < ts.length → TkOk (ts.getD j noTk)) ∧ ts.length ≤ 3000) := hid (by rw [hts]; exact ⟨HOk.out.1, by have := HOk.out.2; omega⟩)
    have HNo : Hid (∀ w' c o, pqA s = (none, c, o) → Below w.heap.size w w' → PqE w s (.returned (.tuple #[.agg #[.string ⟨#[]⟩, .slice none 0 0, .int .i64 0, .slice none 0 0], .int .i64 c, .int .i64 (o : Int)])) w') := hid fun w' c o h1 h2 => PqE.no h1 h2
    have HYes : Hid (∀ w' nm x y hd r us, qryF ts = .ok ⟨nm, hd, r, us.map uAt⟩ → wr = none → QyR w.heap.size w' x hd y us → Below w.heap.size w w' → PqE w s (.returned (.tuple #[.agg #[.string nm, x, .int .i64 r, y], .int .i64 0, .int .i64 0])) w') := hid fun w' nm x y hd r us h1 h2 h4 h5 => PqE.yes (pq_ok h3 (by rw [← hwr]; exact h2) (by rw [← hts]; exact h1)) h4 h5
    have HLexA : Hid (∀ o, wr = some o → pqA s = (none, 2, o)) := hid fun o h => pq_lex h3 (by rw [← hwr]; exact h)
    have HBadA : Hid (∀ p, wr = none → qryF ts = .error p → pqA s = (none, 3, if p < ts.length then (ts.getD p noTk).at' else s.size)) := hid fun p h1 h2 => by
      rw [pq_bad h3 (by rw [← hwr]; exact h1) (by rw [← hts]; exact h2), hts]
    clear KL HOk hts hwr h3 hB1 hR0
    generalize PqE w s = E at *
    go_enter Tryd.func10, Tryd.ntmps10
    go_upto_region 3 with fail
    rw [← hW1]
    clear hW1
    cases wr with
    | some o =>
      have hpa := HLexA.out o rfl
      have HPA := hid hpa
      clear HLexA HBadA HYes hpa
      go_upto_region 5 with (first | (go_at_call 23; refine KL2.out.mono ?_; rintro e w4 ⟨a, cap, z, rfl, hz, ho, hb⟩; have hz' : z = (o : Int) := hz; subst hz'; have iz : (0 : Int) ≤ (o : Int) := (by omega); have HB4 := hid hb; clear hb ho hz) | fail)
      have hB4 : Below w.heap.size w w4 := HB1.out.trans (HB4.out.mono (by omega))
      obtain ⟨WF, hWF, hq, hbF, -, r0, r1, r2, r3, f0, f1, f2, f3⟩ := HSet.out w4 (.string ⟨#[]⟩) (.slice none 0 0) (.int .i64 0) (.slice none 0 0) ((HB4.out.block w.heap.size (by omega)).trans HR0.out) hB4
      have HE := hid (HNo.out WF 2 o HPA.out hbF)
      have HQ := hid hq
      have HWF := hid hWF
      clear HNo hq hWF hbF HSet HR0 HB1 hs1 HPA HB4 hB4 KL2
      go_cut [3, 4] from 7 (fun x y wx => x = .int .i64 2 ∧ y = .int .i64 (o : Int) ∧ Hid (wx = WF))
      case first =>
        go_wp2_with fail
        go_meet
        exact ⟨rfl, rfl, hid HWF.out.symm⟩
      case rest =>
        obtain ⟨rfl, rfl, hw⟩ := hcut
        have hw := hw.out
        subst wc
        obtain ⟨q0, q1, q2, q3⟩ := HQ.out
        clear r0 r1 r2 r3 f0 f1 f2 f3
        rename_i KK1 hKK1
        refine hKK1 _ _ ?_
        refine wp_ret ?_
        refine bodyPost_ret (v := .tuple #[.agg #[.string ⟨#[]⟩, .slice none 0 0, .int .i64 0, .slice none 0 0], .int .i64 2, .int .i64 (o : Int)]) (by simp [results, Tryd.results10, go_sem, q0, q1, q2, q3]) rfl ?_
        exact HE.out
    | none =>
      clear HLexA
      go_upto_region 6 with (first | (go_at_call 23; refine KL2.out.mono ?_; rintro e w4 ⟨a, cap, z, rfl, hz, ho, hb⟩; have hz' : z = -1 := hz; subst hz'; have HB4 := hid hb; have HO4 := hid ho; clear hb ho hz) | fail)
      have HIT : Hid (ITk w4 (.slice a ts.length cap) ts) := hid (own_ITk HO4.out)
      have HAp : Hid (Apt (.slice a ts.length cap) w4.heap.size) := hid (own_Apt HO4.out (Nat.le_refl _))
      obtain ⟨W5, hW5⟩ : ∃ W, W = w4.alloc (.cells #[.slice a ts.length cap, .int .i64 0, .bool false] 54) := ⟨_, rfl⟩
      obtain ⟨g, hg⟩ : ∃ g, g = w4.heap.size := ⟨_, rfl⟩
      have hb45 : Below w4.heap.size w4 W5 := by rw [hW5]; exact (Below.refl _ _).alloc (Nat.le_refl _) _
      have hrd : RdB W5 g (.slice a ts.length cap) 0 false := ⟨by rw [hW5, hg]; exact heap_alloc_new _ _⟩
      rw [← hg] at HAp
      have HIT5 : Hid (ITk W5 (.slice a ts.length cap) ts) := hid (HIT.out.ex HAp.out (Ex.bel hb45))
      have KQ5 := hid (KQ W5 g (.slice a ts.length cap) ts hrd HIT5.out HAp.out HTok.out.1 (by have := HTok.out.2; omega))
      have hB4 : Below w.heap.size w w4 := HB1.out.trans (HB4.out.mono (by omega))
      have hs4 : w.heap.size < w4.heap.size := by have := HB4.out.size; omega
      have HB5 : Hid (Below w.heap.size w W5) := hid (hB4.trans (hb45.mono (by omega)))
      have HR5 : Hid (W5.heap[w.heap.size]? = some (.cells #[.string ⟨#[]⟩, .slice none 0 0, .int .i64 0, .slice none 0 0] 33 (0, 0))) := hid ((hb45.block w.heap.size hs4).trans ((HB4.out.block w.heap.size (by omega)).trans HR0.out))
      have hs5 : w.heap.size < W5.heap.size := by have := hb45.size; omega
      have hgw : w.heap.size ≠ g := by omega
      have hwg : w.heap.size ≤ g := by omega
      have hHid : Hid (W5 = w4.alloc (.cells #[.slice a ts.length cap, .int .i64 0, .bool false] 54)) := hid hW5
      clear hB4 hb45 hrd HIT HB4 HO4 HB1 HR0 KQ hs4 hs1 KL2
      go_upto_region 7 with fail
      rw [← hW5, ← hg]
      clear hW5 hg hHid
      go_upto_region 8 with (first | (go_at_call 24; refine KQ5.out.mono ?_; rintro e w6 ⟨nm, x, hd, r, y, us, p', b', rfl, hqr, hx6, hr6, hp6, hR6⟩; obtain ⟨ax, cx, ex⟩ := own_shapeT2 hqr.own1; obtain ⟨ay, cy, ey⟩ := own_shapeT2 hqr.own2; obtain ⟨nx', hnx'⟩ : ∃ n, n = hd.length := ⟨_, rfl⟩; obtain ⟨ny', hny'⟩ : ∃ n, n = us.length := ⟨_, rfl⟩; rw [← hnx'] at ex; rw [← hny'] at ey; subst ex ey; have HQR := hid hqr; have HX6 := hid hx6; have HR6 := hid hr6; have HRR := hid hR6; clear hqr hx6 hr6 hR6 hnx' hny') | fail)
      clear KQ5
      obtain ⟨W7, hW7⟩ : ∃ W, W = w6.alloc (.cells #[.string nm, .slice ax nx' cx, .int .i64 r, .slice ay ny' cy] 33) := ⟨_, rfl⟩
      have hb67 : Below w6.heap.size w6 W7 := by rw [hW7]; exact (Below.refl _ _).alloc (Nat.le_refl _) _
      have hbl : W7.heap[w6.heap.size]? = some (.cells #[.string nm, .slice ax nx' cx, .int .i64 r, .slice ay ny' cy] 33 (0, 0)) := by rw [hW7]; exact heap_alloc_new _ _
      have hrd7 := HR6.out.below hb67
      have hx7 : Ex g W5 W7 := HX6.out.trans (Ex.bel hb67)
      have HIT7 : Hid (ITk W7 (.slice a ts.length cap) ts) := hid (HIT5.out.ex HAp.out hx7)
      have HB7 : Hid (Below w.heap.size w W7) := hid (HB5.out.trans ⟨hx7.os, hx7.tape, hx7.output, hx7.size, fun b hb => hx7.block b (by omega) (by omega)⟩)
      have HR7 : Hid (W7.heap[w.heap.size]? = some (.cells #[.string ⟨#[]⟩, .slice none 0 0, .int .i64 0, .slice none 0 0] 33 (0, 0))) := hid ((hx7.block w.heap.size hs5 hgw).trans HR5.out)
      have HQ7 : Hid (QyR w.heap.size W7 (.slice ax nx' cx) hd (.slice ay ny' cy) us) := hid ⟨own_below (own_base HQR.out.own1 (Nat.le_of_lt hs5)) hb67, own_below (own_base HQR.out.own2 (Nat.le_of_lt hs5)) hb67, fun u hu => own_below (own_base (HQR.out.tms u hu) (Nat.le_of_lt hs5)) hb67, HQR.out.ap⟩
      have c0 := hrd7.c0
      have c1 := hrd7.c1
      have c2 := hrd7.c2
      have l0 : W7.cell? ⟨w6.heap.size, 0, none⟩ = some (.string nm) := cell_of_row _ _ _ _ _ _ hbl
      have l1 : W7.cell? ⟨w6.heap.size, 1, none⟩ = some (.slice ax nx' cx) := cell_of_row _ _ _ _ _ _ hbl
      have l2 : W7.cell? ⟨w6.heap.size, 2, none⟩ = some (.int .i64 r) := cell_of_row _ _ _ _ _ _ hbl
      have l3 : W7.cell? ⟨w6.heap.size, 3, none⟩ = some (.slice ay ny' cy) := cell_of_row _ _ _ _ _ _ hbl
      rw [← hW7]
      clear hW7 hb67 hbl hrd7 hx7 HQR HX6 HR6 HIT5 HAp HB5 HR5
      generalize w6.heap.size = L at *
      cases b' with
      | true =>
        have HPA := hid (HBadA.out p' (by trivial) HRR.out)
        obtain ⟨WF, hWF, hq, hbF, -, r0, r1, r2, r3, f0, f1, f2, f3⟩ := HSet.out W7 (.string ⟨#[]⟩) (.slice none 0 0) (.int .i64 0) (.slice none 0 0) HR7.out HB7.out
        clear l0 l1 l2 l3 HYes HBadA HQ7 HRR HSet
        by_cases hpl : p' < ts.length
        · obtain ⟨av, cv, ev, hcell⟩ := HIT7.out
          obtain ⟨bk, rfl, -, -, -, d3⟩ := hcell p' hpl
          have i1 : (p' : Int) < (ts.length : Int) := by omega
          have hpa := HPA.out
          rw [if_pos hpl] at hpa
          have HE := hid (HNo.out WF 3 _ hpa hbF)
          have HQ := hid hq
          have HWF := hid hWF
          have ev2 : a = some ⟨bk, 0, none⟩ := (Value.slice.inj ev).1
          subst ev2
          generalize ((ts.getD p' noTk).at' : Nat) = ot at *
          clear HNo hq hWF hbF HPA hpa ev hcell HIT7 HR7 HB7 HTok
          generalize ts.length = n at *
          go_upto_region 12 with fail
          go_cut [3, 4] from 9 (fun x y wx => x = .int .i64 3 ∧ y = .int .i64 (ot : Int) ∧ Hid (wx = WF))
          case first =>
            go_wp2_with fail
            go_meet
            exact ⟨rfl, rfl, hid HWF.out.symm⟩
          case rest =>
            obtain ⟨rfl, rfl, hw⟩ := hcut
            have hw := hw.out
            subst wc
            obtain ⟨q0, q1, q2, q3⟩ := HQ.out
            clear r0 r1 r2 r3 f0 f1 f2 f3
            rename_i KK1 hKK1
            refine hKK1 _ _ ?_
            refine wp_ret ?_
            refine bodyPost_ret (v := .tuple #[.agg #[.string ⟨#[]⟩, .slice none 0 0, .int .i64 0, .slice none 0 0], .int .i64 3, .int .i64 (ot : Int)]) (by simp [results, Tryd.results10, go_sem, q0, q1, q2, q3]) rfl ?_
            exact HE.out
        · have i1 : ¬ ((p' : Int) < (ts.length : Int)) := by omega
          have hpa := HPA.out
          rw [if_neg hpl] at hpa
          have HE := hid (HNo.out WF 3 _ hpa hbF)
          have HQ := hid hq
          have HWF := hid hWF
          clear HNo hq hWF hbF HPA hpa HIT7 HR7 HB7 HTok
          generalize ts.length = n at *
          go_upto_region 12 with fail
          go_cut [3, 4] from 9 (fun x y wx => x = .int .i64 3 ∧ y = .int .i64 (s.size : Int) ∧ Hid (wx = WF))
          case first =>
            go_wp2_with fail
            go_meet
            exact ⟨rfl, rfl, hid HWF.out.symm⟩
          case rest =>
            obtain ⟨rfl, rfl, hw⟩ := hcut
            have hw := hw.out
            subst wc
            obtain ⟨q0, q1, q2, q3⟩ := HQ.out
            clear r0 r1 r2 r3 f0 f1 f2 f3
            rename_i KK1 hKK1
            refine hKK1 _ _ ?_
            refine wp_ret ?_
            refine bodyPost_ret (v := .tuple #[.agg #[.string ⟨#[]⟩, .slice none 0 0, .int .i64 0, .slice none 0 0], .int .i64 3, .int .i64 (s.size : Int)]) (by simp [results, Tryd.results10, go_sem, q0, q1, q2, q3]) rfl ?_
            exact HE.out
      | false =>
        obtain ⟨WF, hWF, hq, hbF, hqF, r0, r1, r2, r3, f0, f1, f2, f3⟩ := HSet.out W7 (.string nm) (.slice ax nx' cx) (.int .i64 r) (.slice ay ny' cy) HR7.out HB7.out
        have HE := hid (HYes.out WF nm _ _ hd r us HRR.out (by trivial) (hqF HQ7.out) hbF)
        have HQ := hid hq
        have HWF := hid hWF
        clear HNo hq hWF hbF HBadA HIT7 HR7 HB7 HTok HYes HRR HQ7 HSet hqF
        generalize ts.length = n at *
        go_upto_region 13 with fail
        go_cut [3, 4] from 9 (fun x y wx => x = .int .i64 0 ∧ y = .int .i64 0 ∧ Hid (wx = WF))
        case first =>
          go_wp2_with fail
          go_meet
          exact ⟨rfl, rfl, hid HWF.out.symm⟩
        case rest =>
          obtain ⟨rfl, rfl, hw⟩ := hcut
          have hw := hw.out
          subst wc
          obtain ⟨q0, q1, q2, q3⟩ := HQ.out
          clear r0 r1 r2 r3 f0 f1 f2 f3
          rename_i KK1 hKK1
          refine hKK1 _ _ ?_
          refine wp_ret ?_
          refine bodyPost_ret (v := .tuple #[.agg #[.string nm, .slice ax nx' cx, .int .i64 r, .slice ay ny' cy], .int .i64 0, .int .i64 0]) (by simp [results, Tryd.results10, go_sem, q0, q1, q2, q3]) rfl ?_
          exact HE.out

end Go.Proofs.YtcdfoephhjacdaaDoor

/-
  The program's parser: take.
-/
namespace Go.Proofs.YtcdfoephhjacdaaDoor
open Go.RowKit

/-- a kind as the program writes it -/
def kdT (k : Nat) : ByteArray := ⟨#[UInt8.ofNat k]⟩
def tkv (t : TkV) : List Value := [.string (kdT t.k), .string t.nm, .int .i64 (t.v : Int), .int .i64 (t.at' : Int)]
/-- the parser's block g: the tokens l are still to be taken; they lie in block tb -/
structure PaS (W : World) (g tb : Nat) (a : Option Addr) (cap : Nat) (l : List TkV) : Prop where
  blk : W.heap[g]? = some (.cells #[.slice a l.length cap] 156 (0, 0))
  cap : l.length ≤ cap
  at' : ∀ j, j < l.length → ∃ o, a = some ⟨tb, o, none⟩ ∧ ∀ i, i < 4 → W.cell? ⟨tb, o + j * 4 + i, none⟩ = (tkv (l.getD j noTk))[i]?
  ne : tb ≠ g
section
variable {W W' : World} {g tb cap : Nat} {a : Option Addr} {l : List TkV}
theorem PaS.c0 (h : PaS W g tb a cap l) : W.cell? ⟨g, 0, none⟩ = some (.slice a l.length cap) := cell_of_row _ _ _ _ _ _ h.blk
theorem PaS.lt (h : PaS W g tb a cap l) : g < W.heap.size := World.block_lt_of_cell? W _ h.c0
theorem PaS.free (h : PaS W g tb a cap l) (q : Nat) : W.frozen? ⟨g, q, none⟩ = false := by
  unfold World.frozen?
  rw [h.blk]
  simp
theorem PaS.below (h : PaS W g tb a cap l) (hb : Below W.heap.size W W') : PaS W' g tb a cap l :=
  ⟨(hb.block g h.lt).trans h.blk, h.cap, fun j hj => by
    obtain ⟨o, e, hc⟩ := h.at' j hj
    refine ⟨o, e, fun i hi => ?_⟩
    have h1 := hc i hi
    have h2 : ∃ u, (tkv (l.getD j noTk))[i]? = some u := ⟨_, List.getElem?_eq_getElem (show i < (tkv (l.getD j noTk)).length from hi)⟩
    obtain ⟨u, hu⟩ := h2
    rw [hu] at h1 ⊢
    exact (hb.cell (p := ⟨tb, o + j * 4 + i, none⟩) (World.block_lt_of_cell? W _ h1)).trans h1, h.ne⟩
/-- the next token is taken -/
theorem PaS.step {t : TkV} {a' : Option Addr} (h : PaS W g tb a cap (t :: l)) (ha : l.length ≠ 0 → ∀ o, a = some ⟨tb, o, none⟩ → a' = some ⟨tb, o + 4, none⟩) : PaS (W.setCell ⟨g, 0, none⟩ (.slice a' l.length (cap - 1))) g tb a' (cap - 1) l := by
  refine ⟨by rw [heap_setCell_same _ _ _ _ _ _ h.blk]; rfl, by have := h.cap; rw [List.length_cons] at this; omega, fun j hj => ?_, h.ne⟩
  obtain ⟨o, e, hc⟩ := h.at' (j + 1) (by rw [List.length_cons]; omega)
  refine ⟨o + 4, ha (by omega) o e, fun i hi => ?_⟩
  rw [World.cell?_setCell_other _ _ _ _ (by intro e3; simp only [Addr.mk.injEq] at e3; exact h.ne (by omega))]
  have := hc i hi
  rw [show o + (j + 1) * 4 + i = o + 4 + j * 4 + i by omega] at this
  exact this
end

/-- what the parser panics with -/
def flt (z : Int) : List PanicEntry := [{ v := .iface 63 (.agg #[.int .i64 3, .int .i64 z]), recovered := false }]

set_option maxHeartbeats 2000000 in
set_option maxRecDepth 1000000 in
theorem unfit_any (w : World) (k nm : ByteArray) (v z : Int) : Calls Tryd.prog 114 #[.agg #[.string k, .string nm, .int .i64 v, .int .i64 z]] w fun e w' => e = .returned (.agg #[.int .i64 3, .int .i64 z]) ∧ Below w.heap.size w w' := by
  go_enter Tryd.func114, Tryd.ntmps114
  go_wp2_with fail
  refine bodyPost_ret (v := .agg #[.int .i64 3, .int .i64 z]) (by simp [results, Tryd.results114, go_sem]) rfl ?_
  refine ⟨rfl, ?_⟩
  first | exact ((Below.refl _ _).alloc (Nat.le_refl _) _).alloc (by simp) _ | trace_state

theorem unfit_calls (w : World) (t : TkV) : Calls Tryd.prog 114 #[.agg #[.string (kdT t.k), .string t.nm, .int .i64 (t.v : Int), .int .i64 (t.at' : Int)]] w fun e w' => e = .returned (.agg #[.int .i64 3, .int .i64 (t.at' : Int)]) ∧ Below w.heap.size w w' := unfit_any w _ _ _ _

theorem has_kd {ks : List Nat} {t : TkV} (ht : TkOk t) (hks : ∀ k ∈ ks, k < 256) : hasT (ks.map kdT) (kdT t.k) = decide (t.k ∈ ks) := by
  have h8 : t.k < 256 := by rcases ht.k with h | h | h | h | h | h | h | h <;> omega
  have inj : ∀ a b, a < 256 → b < 256 → (kdT a).toList = (kdT b).toList → a = b := fun a b ha hb e => by
    unfold kdT at e
    simp only [ByteArray.toList_eq] at e
    have e2 : UInt8.ofNat a = UInt8.ofNat b := by simpa using e
    have e3 := congrArg UInt8.toNat e2
    rw [UInt8.toNat_ofNat_of_lt' (by simpa using ha), UInt8.toNat_ofNat_of_lt' (by simpa using hb)] at e3
    exact e3
  unfold hasT
  by_cases hm : t.k ∈ ks
  · rw [decide_eq_true hm, List.any_eq_true]
    exact ⟨kdT t.k, List.mem_map_of_mem hm, by simp⟩
  · rw [decide_eq_false hm, List.any_eq_false]
    intro x hx he
    obtain ⟨k, hk, rfl⟩ := List.mem_map.1 hx
    have := inj k t.k (hks k hk) h8 (by simpa using he)
    rw [this] at hk
    exact hm hk

end Go.Proofs.YtcdfoephhjacdaaDoor
