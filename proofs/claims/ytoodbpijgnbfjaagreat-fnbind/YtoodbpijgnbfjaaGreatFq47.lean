import Derived.Lib.SlKeysI
import Derived.OwnWalkIn
import Derived.RangeFuncBox
import Derived.Test.YtoodbpijgnbfjaaGreatFq02
import Derived.Test.YtoodbpijgnbfjaaGreatFq07
import Derived.Test.YtoodbpijgnbfjaaGreatFq14
import Derived.Test.YtoodbpijgnbfjaaGreatFq20
import Derived.Test.YtoodbpijgnbfjaaGreatFq23
import Derived.Test.YtoodbpijgnbfjaaGreatFq37
import Derived.Test.YtoodbpijgnbfjaaGreatFq42
namespace Go.Proofs.YtoodbpijgnbfjaaGreat
end Go.Proofs.YtoodbpijgnbfjaaGreat

namespace Go.Proofs.YtoodbpijgnbfjaaGreat
open Go.RowKit Meet Go.Shelf
attribute [local go_sem] Oper.semAt_some

set_option maxHeartbeats 400000 in
theorem seqVals_calls (w : World) (a : Option Addr) (n c : Nat) :
    Calls Tryz.prog 34 #[.slice a n c] w fun e w' => e = .returned (.func (.func 60) #[] #[.pointer (some ⟨w.heap.size, 0, none⟩)]) ∧ w' = w.alloc (.cells #[.slice a n c] 33) := by
  go_enter Tryz.func34, Tryz.ntmps34
  go_wp2
  go_ret
  exact ⟨rfl, rfl⟩

set_option maxHeartbeats 2000000 in
set_option maxRecDepth 1000000 in
theorem values1_gives (w : World) (bS : Nat) (vs : Value) (ls : List Int) (hb : w.heap[bS]? = some (.cells #[vs] 33 (0, 0))) (h : IS w vs ls) (hl : ls.length ≤ 1099511627776) :
    Gives Tryz.prog 60 #[.pointer (some ⟨bS, 0, none⟩)] (fun x : Int => #[.int .i64 x]) (fun _ => Below w.heap.size) (fun _ _ _ => True) (fun pre x b _ _ => b = x ∧ pre.length < ls.length) ls w := by
  intro l J Jx W hBw hlW hwl hJ hJx hY h0
  show Calls _ _ #[.func (.yield l) #[] #[], .pointer (some ⟨bS, 0, none⟩)] W _
  have hb' : W.cell? ⟨bS, 0, none⟩ = some vs := by rw [cell_of_row _ _ _ _ _ _ ((hBw.block _ (lt_some hb)).trans hb)]; rfl
  obtain ⟨a, cap, rfl, hc⟩ := h
  have HC : Hid (∀ W', Below w.heap.size w W' → ∀ j, j < ls.length → ∃ b o, a = some ⟨b, o, none⟩ ∧ W'.cell? ⟨b, o + j, none⟩ = some (.int .i64 (ls.getD j 0))) := hid fun W' hW' j hj => by
    rcases hc with h0 | ⟨b, o, rfl, h⟩
    · omega
    · exact ⟨b, o, rfl, bclT hW' (h j hj)⟩
  have HT : Hid (∀ j, j < ls.length → ls.take (j + 1) = ls.take j ++ [ls.getD j 0]) := hid fun j hj => take_snoc hj
  have HTn : Hid (ls.take ls.length = ls) := hid (List.take_length)
  have HYy := hid hY
  have HJ := hid hJ
  have HBw := hid hBw
  have HJ0 : Hid (J (ls.take 0) W) := hid h0
  clear hb hc hY hJ h0 hBw
  obtain ⟨n, hn⟩ : ∃ n, n = ls.length := ⟨_, rfl⟩
  rw [← hn] at hl HC HT HTn hb' HYy
  have HLn : Hid (∀ j, j ≤ n → (ls.take j).length = j) := hid fun j hj => by rw [List.length_take]; omega
  clear hn
  go_enter Tryz.func60, Tryz.ntmps60
  go_wp2_with fail
  go_loopw [7] (fun t wr => ∃ (j : Nat), j ≤ n ∧ t = .int .i64 j ∧ Hid (∃ X, J (ls.take j) X ∧ KT W.heap.size X wr ∧ Below w.heap.size w wr)) (fun t _ => n - (intOf t).toNat)
  case atStart => exact ⟨0, Nat.zero_le _, rfl, hid ⟨W, HJ0.out, KT.refl _ _, HBw.out⟩⟩
  case round =>
    obtain ⟨j, hjn, rfl, HTT⟩ := hrel
    by_cases hlt : j < n
    · have i1 : (j : Int) < (n : Int) := by omega
      obtain ⟨X, h1, h2, h3⟩ := HTT.out
      obtain ⟨b, o, ea, c1⟩ := HC.out wr h3 j hlt
      subst ea
      obtain ⟨fn, tmps, assign, body, hy, hR⟩ := HYy.out (ls.take j) (ls.getD j 0) (ls.getD j 0) X wr h1 h2 ⟨rfl, by rw [HLn.out j hjn]; exact hlt⟩
      have HN : Hid (∀ Z, J (ls.take j ++ [ls.getD j 0]) Z → Below w.heap.size wr Z → ∃ X, J (ls.take (j + 1)) X ∧ KT W.heap.size X Z ∧ Below w.heap.size w Z) := hid fun Z g1 g2 => ⟨Z, by rw [HT.out j hlt]; exact g1, KT.refl _ _, h3.trans g2⟩
      have HR := hid hR
      clear hR h1 h2 h3 HTT HC HYy
      generalize ls.getD j 0 = x at *
      refine (wpIn_wide (n := 0)).1 ?_
      gi_wp2
      refine ⟨rfl, ?_⟩
      refine HR.out.mono ?_
      rintro e w9 (⟨rfl, hJ9, hK9⟩ | ⟨rfl, hJx9, -⟩)
      · have HN9 := hid (HN.out w9 hJ9 hK9)
        clear hJ9 hK9 hy HR HN
        gi_wp2
        go_wp2_with fail
        go_roundw
        case rel => exact ⟨j + 1, by omega, by go_num, HN9⟩
        case measure => simp [intOf]; omega
      · clear hy HR HN
        gi_wp2
        go_wp2_with fail
        refine bodyPost_ret (P := Tryz.prog) (fn := Tryz.f60) (R := fun e W' => (∃ v, e = .returned v) ∧ (J ls W' ∨ Jx W')) (results_none rfl _ _ _) rfl ?_
        exact ⟨⟨_, rfl⟩, Or.inr hJx9⟩
    · obtain rfl : j = n := by omega
      have i1 : ¬ ((j : Int) < (j : Int)) := by omega
      have HF : Hid (J ls wr) := hid (by
        obtain ⟨X, h1, h2, h3⟩ := HTT.out
        rw [HTn.out] at h1
        exact HJ.out _ _ _ h1 h2)
      clear HTT HC HYy
      go_wp2_with fail
      go_end0
      exact ⟨⟨_, rfl⟩, Or.inl HF.out⟩

theorem Gives.later {α β : Type} {P : Program} {gf : Nat} {lb : Array Value} {encs : β → Array Value} {Kp Kx : Nat → World → World → Prop} {Pre : List α → α → β → World → World → Prop} {xs : List α} {w w' : World} (h : Gives P gf lb encs Kp Kx Pre xs w) (hb : Below w.heap.size w w') : Gives P gf lb encs Kp Kx Pre xs w' :=
  fun l J Jx W hW h1 h2 => h l J Jx W (hb.trans (hW.mono hb.size)) h1 (Nat.le_trans hb.size h2)

set_option maxHeartbeats 2000000 in
set_option maxRecDepth 1000000 in
theorem appendSeq_calls (w : World) (gf : Nat) (lb : Array Value) (ls : List Int) (hl : ls.length ≤ 1048576) (eg : ∀ args W, (callFunc gf args).run Tryz.prog W = .ok (.enter gf args) W)
    (hseq : Gives Tryz.prog gf lb (fun x : Int => #[.int .i64 x]) (fun _ => Below w.heap.size) (fun _ _ _ => True) (fun pre x b _ _ => b = x ∧ pre.length < ls.length) ls w) :
    Calls Tryz.prog 78 #[.slice none 0 0, .func (.func gf) #[] lb] w fun e w' => ∃ v, e = .returned v ∧ w'.ownsRow w.heap.size 3 1 v ls.length (ls.map (Value.int .i64)) ∧ Below w.heap.size w w' := by
  obtain ⟨W1, hW1⟩ : ∃ W1, W1 = w.alloc (.cells #[.slice none 0 0] 33) := ⟨_, rfl⟩
  have hB1 : Below w.heap.size w W1 := by rw [hW1]; exact bl_alloc (Below.refl _ _) _
  have hx1 : W1.heap[w.heap.size]? = some (.cells #[.slice none 0 0] 33 (0, 0)) := by rw [hW1]; exact World.alloc_heap_new w _
  have hs1 : W1.heap.size = w.heap.size + 1 := by rw [hW1]; simp
  refine (callsIn_wide (n := 0)).1 (callsIn_of_wp_marks Tryz.func78 rfl trivial ?_ rfl)
  simp only [Tryz.ntmps78, List.size_toArray, List.length_cons, List.length_nil, Nat.reduceAdd, Nat.reduceSub, Array.replicate_succ, Array.replicate_zero, List.push_toArray, List.append_toArray, List.nil_append, List.cons_append]
  refine (wpIn_wide (n := 0)).2 ?_
  obtain ⟨i0, hi, hz0, hz1, hz2⟩ := info_parts Tryz.infoInt
  go_wp2_with fail
  rw [← hW1]
  clear hW1
  refine (wpIn_wide (n := 0)).1 ?_
  have HS1 := hid hs1
  have h1l : w.heap.size < W1.heap.size := by omega
  clear hs1
  obtain ⟨II, hII⟩ : ∃ II : List Int → World → Prop, II = fun pre W => (∃ v, Boxed W w.heap.size 33 v ∧ W.ownsRow w.heap.size 3 1 v pre.length (pre.map (Value.int .i64))) ∧ Below w.heap.size w W := ⟨_, rfl⟩
  have hIk : ∀ s X Y, II s X → KT W1.heap.size X Y → II s Y := fun s X Y hX hk => by
    rw [hII] at hX ⊢
    obtain ⟨⟨v, hv, ho⟩, hb⟩ := hX
    exact ⟨⟨v, (hk.cel _ _ _ _ hv (by decide) (by decide)).trans hv, own_move ho fun g hg => by
      obtain ⟨cur, hc⟩ := own_typ ho hg
      exact hk.cel g cur _ _ hc (by decide) (by decide)⟩, hb.trans (hk.bel.mono (by omega))⟩
  refine range_law (α := Int) (β := Int) (gf := gf) (lb := lb) rfl eg (hseq.later hB1) (fun _ => rfl)
    (fun h1 h2 => Below.trans h1 h2) (fun l W o o' h1 h2 h3 => (KT.put (B := w.heap.size) o' (by omega) h2 h3).bel) (fun _ _ _ => trivial)
    II (fun _ _ => False) hIk (fun _ _ _ h _ => h) (by rw [hII]; exact ⟨⟨_, hx1, World.ownsRow_nil _ _ _ _⟩, hB1⟩)
    (fun l pre x b a' W => II pre W ∧ pre.length < ls.length ∧ a' = { tmps := #[.slice none 0 0, .func (.func gf) #[] lb, .pointer (some ⟨w.heap.size, 0, none⟩), undef, .slice none 0 0, .int .i64 x, .func (.func gf) #[] lb, .int .i64 x, undef, undef, undef, undef, undef], defers := [] })
    (fun l pre x b a' W o o' h1 h2 h3 h4 => ⟨hIk _ _ _ h1.1 (KT.put (B := W1.heap.size) o' h2 h3 h4), h1.2⟩)
    ?assign ?body ?done ?stop
  case assign =>
    rintro l pre x b X Y K hl2 hI hk ⟨rfl, hpl⟩ ⟨rr, hrr⟩ hK
    have hIY := hIk _ _ _ hI hk
    gi_wp2
    exact hK _ _ (KeepsFrom.refl _ _) (Below.refl _ _) ⟨hIY, hpl, rfl⟩
  case body =>
    rintro l pre x b a' W hl2 ⟨rr, hrr⟩ ⟨hI, hpl, rfl⟩
    rw [hII] at hI ⊢
    obtain ⟨⟨v, hv, hrow⟩, hB⟩ := hI
    have hc0 := hv.cell
    gi_wp2_with (first
      | (gi_at_builtin; refine wpListIn_append_own _ rfl _ _ 33 rfl w.heap.size 3 i0 (.int .i64 0) 1 8 Tryz.underlying33 hi hz0 hz1 hz2 rfl (by decide) _ _ _ rfl (hrow.alloc _) ⟨W.heap.size, 0, none⟩ 1 1 [.int .i64 x] rfl rfl (new1_cell _ _ _) (fun u hu => by simp at hu; subst hu; rfl) (by unfold maxLen; omega) (by omega) (by have := hB.size; simp; omega) ?_; intro v' w1 hown' hgrow hnil'; obtain ⟨g', cap', rfl⟩ := ownsRow_succ hown'; obtain ⟨hv1, hv2, hr2, hk2, hb2⟩ := hv.appended (by decide) hrow hB.size (Nat.le_refl _) hown' hgrow; have hc1 := hv1.cell; have hf1 := hv1.frozen)
      | gi_in)
    exact ⟨hk2.from _, hb2, ⟨⟨_, hv2, by rw [List.map_append, List.length_append]; exact hr2⟩, hB.trans hb2⟩⟩
  case done =>
    intro D W hD hI hK
    rw [hII] at hI
    obtain ⟨⟨v, hv, hrow⟩, hB⟩ := hI
    have hc0 := hv.cell
    simp only [Exit.inBlock, Exit.then]
    go_wp2_with fail
    have hp := KT.put (B := W1.heap.size) (.deferred none) (by omega) hK rfl
    refine ⟨by simp, Or.inl ⟨D, _, rfl, run_takeDeferred hK, v, by simp [results, Tryz.results78, go_sem], v, rfl, own_move hrow fun g hg => ?_, hB.trans (hp.bel.mono (by omega))⟩⟩
    obtain ⟨cur, hc⟩ := own_typ hrow hg
    exact hp.cel g cur _ _ hc (by decide) (by decide)
  case stop =>
    rintro D c W _ h _
    exact h.elim

set_option maxHeartbeats 1000000 in
theorem collectI_calls (w : World) (gf : Nat) (lb : Array Value) (ls : List Int) (hl : ls.length ≤ 1048576) (eg : ∀ args W, (callFunc gf args).run Tryz.prog W = .ok (.enter gf args) W)
    (hseq : Gives Tryz.prog gf lb (fun x : Int => #[.int .i64 x]) (fun _ => Below w.heap.size) (fun _ _ _ => True) (fun pre x b _ _ => b = x ∧ pre.length < ls.length) ls w) :
    Calls Tryz.prog 58 #[.func (.func gf) #[] lb] w fun e w' => ∃ v, e = .returned v ∧ w'.ownsRow w.heap.size 3 1 v ls.length (ls.map (Value.int .i64)) ∧ Below w.heap.size w w' := by
  have KA := hid (appendSeq_calls w gf lb ls hl eg hseq)
  clear hseq
  go_enter Tryz.func58, Tryz.ntmps58
  go_wp2_with (first | (go_at_call 78; refine KA.out.mono ?_; rintro e w' ⟨v, rfl, ho, hb⟩) | fail)
  go_ret
  exact ⟨v, rfl, ho, hb⟩

theorem sortOwn_calls (w0 w : World) (v : Value) (ls : List Int) (ho : w.ownsRow w0.heap.size 3 1 v ls.length (ls.map (Value.int .i64))) (hb : Below w0.heap.size w0 w) (hl : ls.length ≤ 1048576) :
    Calls Tryz.prog 59 #[v] w fun e w' => e = .returned (.tuple #[]) ∧ w'.ownsRow w0.heap.size 3 1 v ls.length ((ls.mergeSort fun x y => decide (x ≤ y)).map (Value.int .i64)) ∧ Below w0.heap.size w0 w' := by
  rcases ho.2 with ⟨rfl, hz⟩ | ⟨gb, cap, cur, rfl, hbase, hgb, r1, r2, r3, r4⟩
  · have : ls = [] := List.eq_nil_of_length_eq_zero hz
    subst this
    refine (AnyM.slices_Sort_int_none Tryz.sortA none 0 w).mono ?_
    rintro e w' ⟨rfl, rfl⟩
    exact ⟨rfl, by simpa using ho, hb⟩
  · have hH : Sort.Holds (Value.int .i64) w gb 0 ls.toArray := holds_of_block_i hgb (by simpa using r4)
    refine (AnyM.slices_Sort_int Tryz.sortA gb 0 cap ls w hH (lt_some hgb) (by omega)).mono ?_
    rintro e w' ⟨rfl, nn, os, rfl⟩
    exact ⟨rfl, ownsRow_sorted_i (by simp) hbase hgb r1 r2 r3, hb.grown (grownBy_sorted_i _) hb.size (fun j hj => by cases hj; exact hbase)⟩

set_option maxHeartbeats 1000000 in
theorem sortedI_calls (w : World) (gf : Nat) (lb : Array Value) (ls : List Int) (hl : ls.length ≤ 1048576) (eg : ∀ args W, (callFunc gf args).run Tryz.prog W = .ok (.enter gf args) W)
    (hseq : Gives Tryz.prog gf lb (fun x : Int => #[.int .i64 x]) (fun _ => Below w.heap.size) (fun _ _ _ => True) (fun pre x b _ _ => b = x ∧ pre.length < ls.length) ls w) :
    Calls Tryz.prog 33 #[.func (.func gf) #[] lb] w fun e w' => ∃ v, e = .returned v ∧ w'.ownsRow w.heap.size 3 1 v ls.length ((ls.mergeSort fun x y => decide (x ≤ y)).map (Value.int .i64)) ∧ Below w.heap.size w w' := by
  have KA := hid (collectI_calls w gf lb ls hl eg hseq)
  have KS : Hid (∀ W v, W.ownsRow w.heap.size 3 1 v ls.length (ls.map (Value.int .i64)) → Below w.heap.size w W → Calls Tryz.prog 59 #[v] W fun e w' => e = .returned (.tuple #[]) ∧ w'.ownsRow w.heap.size 3 1 v ls.length ((ls.mergeSort fun x y => decide (x ≤ y)).map (Value.int .i64)) ∧ Below w.heap.size w w') := hid fun W v h1 h2 => sortOwn_calls w W v ls h1 h2 hl
  clear hseq
  go_enter Tryz.func33, Tryz.ntmps33
  go_wp2_with (first | (go_at_call 58; refine KA.out.mono ?_; rintro e w' ⟨v, rfl, ho, hb⟩) | (go_at_call 59; refine (KS.out _ _ ho hb).mono ?_; rintro e w'' ⟨rfl, ho2, hb2⟩) | fail)
  go_ret
  exact ⟨v, rfl, ho2, hb2⟩

end Go.Proofs.YtoodbpijgnbfjaaGreat

namespace Go.Proofs.YtoodbpijgnbfjaaGreat
open Go.RowKit Meet Go.Shelf

def MX (W : World) (k : Nat) (m : Nat → Bool) : Prop := W.heap[k]? = some (.cells (memA m) 84 (0, 0))
section
variable {W W' : World} {k : Nat} {m : Nat → Bool}
theorem MX.below (h : MX W k m) (hb : Below W.heap.size W W') : MX W' k m := (hb.block _ (lt_some h)).trans h
theorem MX.cell (h : MX W k m) {v : Nat} (hv : v < 6) : W.cell? ⟨k, v, none⟩ = some (.bool (m v)) := by rw [cell_of_row _ _ _ _ _ _ h]; exact memA_get m hv
theorem MX.free (h : MX W k m) (j : Nat) : W.frozen? ⟨k, j, none⟩ = false := by unfold World.frozen?; rw [show W.heap[k]? = _ from h]; simp
theorem MX.set (h : MX W k m) {v : Nat} (hv : v < 6) : MX (W.setCell ⟨k, v, none⟩ (.bool true)) k (fun i => m i || decide (i = v)) := by
  unfold MX
  rw [heap_setCell_same _ _ _ _ _ _ h]
  obtain rfl | rfl | rfl | rfl | rfl | rfl : v = 0 ∨ v = 1 ∨ v = 2 ∨ v = 3 ∨ v = 4 ∨ v = 5 := by omega
  all_goals simp [memA]
theorem MX.congr {m' : Nat → Bool} (h : MX W k m) (he : ∀ i, i < 6 → m' i = m i) : MX W k m' := by
  have : memA m' = memA m := by unfold memA; rw [he 0 (by omega), he 1 (by omega), he 2 (by omega), he 3 (by omega), he 4 (by omega), he 5 (by omega)]
  unfold MX
  rw [this]
  exact h
end
theorem leI_sort {o : List Int} {vr : List Int} (hv : vr.Pairwise (· < ·)) : decide (o.mergeSort (fun x y => decide (x ≤ y)) = vr) = true ↔ vr.Perm o := by
  rw [decide_eq_true_eq]
  constructor
  · intro h
    rw [← h]
    exact List.mergeSort_perm _ _
  · intro h
    have h1 : vr.mergeSort (fun x y => decide (x ≤ y)) = vr := List.mergeSort_of_pairwise (hv.imp fun {a b} h => decide_eq_true (by omega))
    rw [← h1]
    exact (mergeSort_of_perm_i h.symm)
theorem ordJ_sort (tl : List TbV) (o : List Int) : decide (o.mergeSort (fun x y => decide (x ≤ y)) = vrJ tl) = ordJ tl o := by
  rw [Bool.eq_iff_iff, leI_sort (show (vrJ tl).Pairwise (· < ·) from plc_pw _ _), ordJ_perm]

set_option maxHeartbeats 4000000 in
set_option maxRecDepth 1000000 in
theorem isOrderOf_calls (w : World) (vt vo : Value) (tl : List TbV) (o : List Int) (h : ITs w vt tl) (ho : IS w vo o) (hl : tl.length ≤ 1000) (hol : o.length ≤ 1048576) (hok : ∀ t ∈ tl, tabJ t = true) :
    Calls Tryz.prog 19 #[vt, vo] w fun e w' => e = .returned (.bool (ordJ tl o)) ∧ Below w.heap.size w w' := by
  obtain ⟨at', ct, rfl, hc⟩ := h
  have HOf : Hid (∀ j, j < tl.length → setB (tl.getD j noTv).vs = true) := hid fun j hj => by
    have h1 := hok (tl.getD j noTv) (by rw [List.getD_eq_getElem?_getD, List.getElem?_eq_getElem hj]; exact List.getElem_mem _)
    exact (tableB_rows h1).1
  have HC : Hid (∀ W, Below w.heap.size w W → ∀ j, j < tl.length → ∃ b oo, at' = some ⟨b, oo, none⟩ ∧ TabAt W b (oo + j * 3) (tl.getD j noTv)) := hid fun W hW j hj => by
    rcases hc with h0 | ⟨b, oo, rfl, h⟩
    · omega
    · exact ⟨b, oo, rfl, (h j hj).below hW⟩
  have HH : Hid (∀ j, j < tl.length → ∀ i, hasJ (tl.take (j + 1)) i = (hasJ (tl.take j) i || decide ((i : Int) ∈ (tl.getD j noTv).vs))) := hid fun j hj i => hasJ_take hj i
  have HHn : Hid (hasJ (tl.take tl.length) = hasJ tl) := hid (by rw [List.take_length])
  have HH0 : Hid (∀ i, hasJ (tl.take 0) i = false) := hid fun i => rfl
  have HO := hid ho
  obtain ⟨ao, co, rfl, -⟩ := ho
  have KV : Hid (∀ W, Below w.heap.size w W → Calls Tryz.prog 33 #[.func (.func 60) #[] #[.pointer (some ⟨W.heap.size, 0, none⟩)]] (W.alloc (.cells #[.slice ao o.length co] 33)) fun e w' => ∃ v, e = .returned v ∧ w'.ownsRow (W.alloc (.cells #[.slice ao o.length co] 33)).heap.size 3 1 v o.length ((o.mergeSort fun x y => decide (x ≤ y)).map (Value.int .i64)) ∧ Below (W.alloc (.cells #[.slice ao o.length co] 33)).heap.size (W.alloc (.cells #[.slice ao o.length co] 33)) w') := hid fun W hW =>
    sortedI_calls _ 60 #[.pointer (some ⟨W.heap.size, 0, none⟩)] o hol (enters_of Tryz.func60 (by kernel_rfl) rfl) (values1_gives _ W.heap.size _ o (World.alloc_heap_new W _) ((HO.out.below hW).below (bl_alloc (Below.refl _ _) _)) (by omega))
  have KL : Hid (∀ W, Calls Tryz.prog 35 #[.agg (memA (hasJ tl))] W fun e w' => ∃ v, e = .returned v ∧ w'.ownsRow W.heap.size 3 1 v (vrJ tl).length ((vrJ tl).map (Value.int .i64)) ∧ Below W.heap.size W w') := hid fun W => list_calls W (hasJ tl)
  have KQ : Hid (∀ W v1 v2, IS W v1 (o.mergeSort fun x y => decide (x ≤ y)) → IS W v2 (vrJ tl) → Calls Tryz.prog 32 #[v1, v2] W fun e w' => e = .returned (.bool (ordJ tl o)) ∧ ∃ q, w' = W.drewN q) := hid fun W v1 v2 h1 h2 => by
    have := sEqual_calls W v1 v2 _ _ h1 h2 (by rw [List.length_mergeSort]; omega) (Nat.le_trans (vrJ_len tl) (by decide))
    rw [ordJ_sort] at this
    exact this
  obtain ⟨n, hn⟩ : ∃ n, n = tl.length := ⟨_, rfl⟩
  rw [← hn] at hl HC HOf HH HHn ⊢
  clear hn hc hok HO
  obtain ⟨no, hno⟩ : ∃ no, no = o.length := ⟨_, rfl⟩
  rw [← hno] at KV hol ⊢
  have HNO := hid hno
  clear hno
  obtain ⟨RES, hRES⟩ : ∃ RES, RES = ordJ tl o := ⟨_, rfl⟩
  rw [← hRES] at KQ ⊢
  clear hRES
  obtain ⟨W1, hW1⟩ : ∃ W1, W1 = w.alloc (.cells #[.bool false, .bool false, .bool false, .bool false, .bool false, .bool false] 84) := ⟨_, rfl⟩
  have HS1 : Hid (Below w.heap.size w W1 ∧ MX W1 w.heap.size (hasJ (tl.take 0))) := hid (by rw [hW1]; exact ⟨bl_alloc (Below.refl _ _) _, World.alloc_heap_new w _⟩)
  go_enter Tryz.func19, Tryz.ntmps19
  go_wp2_with fail
  rw [← hW1]
  clear hW1
  go_loopw [12] (fun t wr => ∃ (j : Nat), j ≤ n ∧ t = .int .i64 j ∧ Hid (Below w.heap.size w wr ∧ MX wr w.heap.size (hasJ (tl.take j)))) (fun t _ => n - (intOf t).toNat)
  case atStart => exact ⟨0, Nat.zero_le _, rfl, HS1⟩
  case round =>
    clear HS1 HH0
    obtain ⟨j, hjn, rfl, HT⟩ := hrel
    by_cases hlt : j < n
    · have i1 : (j : Int) < (n : Int) := by omega
      obtain ⟨b, oo, ea, v0, v1, v2, c0', c1', c2', hI⟩ := HC.out w (Below.refl _ _) j hlt
      subst ea
      have c0 := bclT HT.out.1 c0'
      have c1 := bclT HT.out.1 c1'
      have c2 := bclT HT.out.1 c2'
      clear c0' c1' c2'
      have hset := HOf.out j hlt
      have HHj := hid (HH.out j hlt)
      obtain ⟨W3, hW3⟩ : ∃ W3, W3 = wr.alloc (.cells #[v0, v1, v2] 71) := ⟨_, rfl⟩
      have hB3 : Below wr.heap.size wr W3 := by rw [hW3]; exact (Below.refl _ _).alloc (Nat.le_refl _) _
      have HX3 : Hid (TX W3 wr.heap.size v0 v1 v2) := hid (by rw [hW3]; exact TX.made _ _ _ _)
      have HB3 := hid (bt HT.out.1 hB3)
      have HM3 := hid (HT.out.2.below hB3)
      have HLT : Hid (w.heap.size < wr.heap.size) := hid (lt_some HT.out.2)
      have hsx := setB_six hset
      have HSL : Hid (∀ i, i < (tl.getD j noTv).vs.length → ∃ v : Nat, (tl.getD j noTv).vs.getD i 0 = (v : Int) ∧ v < 6) := hid fun i hi => by
        have := setB_low hset i hi
        exact ⟨((tl.getD j noTv).vs.getD i 0).toNat, by omega, by omega⟩
      have hIv := hI.vs
      obtain ⟨a0, k0, e0, -⟩ := hI.vs
      obtain ⟨a1, k1, e1, -⟩ := hI.rows
      obtain ⟨a2, k2, e2, -⟩ := hI.ws
      subst e0 e1 e2
      have HTK : Hid (∀ i, i < (tl.getD j noTv).vs.length → (tl.getD j noTv).vs.take (i + 1) = (tl.getD j noTv).vs.take i ++ [(tl.getD j noTv).vs.getD i 0]) := hid fun i hi => take_snoc hi
      have HTF : Hid ((tl.getD j noTv).vs.take (tl.getD j noTv).vs.length = (tl.getD j noTv).vs) := hid (List.take_length)
      generalize tl.getD j noTv = tb at *
      have HVS : Hid (∀ W, Below w.heap.size w W → ∀ i, i < tb.vs.length → ∃ b o, a0 = some ⟨b, o, none⟩ ∧ W.cell? ⟨b, o + i, none⟩ = some (.int .i64 (tb.vs.getD i 0))) := hid fun W hW i hi => by
        obtain ⟨a, c, e, hc⟩ := hIv.below hW
        cases e
        rcases hc with h0 | ⟨b, o, rfl, h⟩
        · omega
        · exact ⟨b, o, rfl, h i hi⟩
      generalize tb.rows.length = nr at *
      generalize tb.ws.length = n2 at *
      clear hI hIv hset hB3 HC HOf HT
      obtain ⟨nv, hnv⟩ : ∃ nv, nv = tb.vs.length := ⟨_, rfl⟩
      rw [← hnv] at hsx HSL HTK HTF HVS hW3 HX3 c0
      clear hnv
      have d0 := HX3.out.c0
      go_upto_region 5 with fail
      rw [← hW3]
      clear hW3 c0 c1 c2
      have hk3 : w.heap.size < W3.heap.size := lt_some HM3.out
      have HSTART : Hid (MX W3 w.heap.size (fun q => hasJ (tl.take j) q || decide ((q : Int) ∈ tb.vs.take 0))) := hid (HM3.out.congr fun i _ => by simp)
      go_wp2_with fail
      go_loopw [19] (fun t wr2 => ∃ (i : Nat), i ≤ nv ∧ t = .int .i64 i ∧ Hid (Below w.heap.size w wr2 ∧ MX wr2 w.heap.size (fun q => hasJ (tl.take j) q || decide ((q : Int) ∈ tb.vs.take i)))) (fun t _ => nv - (intOf t).toNat)
      case atStart => exact ⟨0, Nat.zero_le _, rfl, hid ⟨HB3.out, HSTART.out⟩⟩
      case round =>
        obtain ⟨i, hin, rfl, HT2⟩ := hrel
        by_cases hlt2 : i < nv
        · have i2 : (i : Int) < (nv : Int) := by omega
          obtain ⟨b2, o2, ea2, e1⟩ := HVS.out _ HT2.out.1 i hlt2
          subst ea2
          obtain ⟨v, ev, hv6⟩ := HSL.out i hlt2
          have HTi := hid (HTK.out i hlt2)
          rw [ev] at HTi e1
          have m1 : ((v : Nat) : Int) < 6 := by omega
          have m0 : ¬ ((v : Nat) : Int) < 0 := by omega
          have m2 : (0 : Int) ≤ (v : Int) := by omega
          have q1 := HT2.out.2.cell hv6
          have q2 := HT2.out.2.free v
          have HN : Hid (∀ W : World, W = (wr : World) → Below w.heap.size w (W.setCell ⟨w.heap.size, v, none⟩ (.bool true)) ∧ MX (W.setCell ⟨w.heap.size, v, none⟩ (.bool true)) w.heap.size (fun q => hasJ (tl.take j) q || decide ((q : Int) ∈ tb.vs.take (i + 1)))) := hid fun W hW => by
            subst hW
            refine ⟨HT2.out.1.setCell (by show _ ≤ w.heap.size; omega) _, (HT2.out.2.set hv6).congr fun q _ => ?_⟩
            rw [HTi.out]
            simp only [List.mem_append, List.mem_singleton, Bool.decide_or, Bool.or_assoc]
            congr 2
            simp only [decide_eq_decide]
            omega
          clear HT2 HTi ev
          go_wp2_with fail
          go_roundw
          case rel => exact ⟨i + 1, by omega, by go_num, hid (HN.out wr rfl)⟩
          case measure => simp [intOf]; omega
        · obtain rfl : i = nv := by omega
          have i2 : ¬ ((i : Int) < (i : Int)) := by omega
          have HN : Hid (Below w.heap.size w wr ∧ MX wr w.heap.size (hasJ (tl.take (j + 1)))) := hid ⟨HT2.out.1, HT2.out.2.congr fun q _ => by rw [HTF.out]; exact HHj.out q⟩
          clear HT2 HSTART HB3 HM3 HX3 HVS
          go_wp2_with fail
          go_roundw
          case rel => exact ⟨j + 1, by omega, by go_num, HN⟩
          case measure => simp [intOf]; omega
    · obtain rfl : j = n := by omega
      have i1 : ¬ ((j : Int) < (j : Int)) := by omega
      rw [HHn.out] at HT
      have HMX := hid HT.out.2
      have HB := hid HT.out.1
      clear HT HH HHn HOf HC
      have HSS : Hid (∀ W, Below wr.heap.size wr W → W.cell? ⟨w.heap.size, 0, none⟩ = some (.bool (hasJ tl 0)) ∧ W.cell? ⟨w.heap.size, 1, none⟩ = some (.bool (hasJ tl 1)) ∧ W.cell? ⟨w.heap.size, 2, none⟩ = some (.bool (hasJ tl 2)) ∧ W.cell? ⟨w.heap.size, 3, none⟩ = some (.bool (hasJ tl 3)) ∧ W.cell? ⟨w.heap.size, 4, none⟩ = some (.bool (hasJ tl 4)) ∧ W.cell? ⟨w.heap.size, 5, none⟩ = some (.bool (hasJ tl 5))) := hid fun W hW => by
        have h := HMX.out.below hW
        exact ⟨h.cell (v := 0) (by omega), h.cell (v := 1) (by omega), h.cell (v := 2) (by omega), h.cell (v := 3) (by omega), h.cell (v := 4) (by omega), h.cell (v := 5) (by omega)⟩
      have KL1 : Hid (∀ W, Calls Tryz.prog 35 #[.agg #[.bool (hasJ tl 0), .bool (hasJ tl 1), .bool (hasJ tl 2), .bool (hasJ tl 3), .bool (hasJ tl 4), .bool (hasJ tl 5)]] W fun e w' => ∃ v, e = .returned v ∧ w'.ownsRow W.heap.size 3 1 v (vrJ tl).length ((vrJ tl).map (Value.int .i64)) ∧ Below W.heap.size W w') := KL
      have hbd : Below wr.heap.size wr wr.drew := (Below.refl _ _).drew
      have KV1 := hid (KV.out wr.drew (bt HB.out hbd))
      obtain ⟨s0, s1, s2, s3, s4, s5⟩ := HSS.out wr.drew hbd
      have b1 : Below wr.heap.size wr (wr.drew.alloc (.cells #[.slice ao no co] 33)) := bl_alloc hbd _
      obtain ⟨t0, t1, t2, t3, t4, t5⟩ := HSS.out (wr.alloc (.cells #[.slice ao no co] 33)) (bl_alloc (Below.refl _ _) _)
      clear KL KV
      generalize hasJ tl 0 = m0 at *
      generalize hasJ tl 1 = m1 at *
      generalize hasJ tl 2 = m2 at *
      generalize hasJ tl 3 = m3 at *
      generalize hasJ tl 4 = m4 at *
      generalize hasJ tl 5 = m5 at *
      go_upto_region 11 with fail
      go_region_law (first
        | (go_simp; go_at_call 34; refine (seqVals_calls _ ao no co).mono ?_; rintro e w2 ⟨rfl, rfl⟩)
        | (go_simp; go_at_call 33; refine KV1.out.mono ?_; rintro e w3 ⟨v3, rfl, ho3, hb3⟩; have b3 := bt b1 hb3; obtain ⟨r0, r1, r2, r3, r4, r5⟩ := HSS.out w3 b3)
        | (go_simp; go_at_call 35; refine (KL1.out w3).mono ?_; rintro e w4 ⟨v4, rfl, ho4, hb4⟩; have hI3 : IS w4 v3 (o.mergeSort fun x y => decide (x ≤ y)) := own_is (by rw [List.length_mergeSort, ← HNO.out]; exact own_below ho3 hb4); have b4 := bt b3 hb4)
        | (go_simp; go_at_call 32; refine (KQ.out w4 v3 v4 hI3 (own_is ho4)).mono ?_; rintro e w5 ⟨rfl, q5, rfl⟩)
        | fail)
      all_goals go_wp2_with fail
      all_goals go_ret
      all_goals exact ⟨rfl, below_drewN (bt HB.out b4) _⟩

end Go.Proofs.YtoodbpijgnbfjaaGreat
