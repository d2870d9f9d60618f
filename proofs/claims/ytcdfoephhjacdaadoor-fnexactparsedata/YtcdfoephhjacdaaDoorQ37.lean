import Derived.Test.YtcdfoephhjacdaaDoorQ15
import Derived.Test.YtcdfoephhjacdaaDoorQ36
/-
  impl.ParseData.
-/
namespace Go.Proofs.YtcdfoephhjacdaaDoor
open Go.RowKit Go.Maps

theorem RdI.start (W : World) (B : Nat) (hB : B ≤ W.heap.size) (f g : Nat → Nat) (h : Nat → DataW Unit) : RdI ((W.alloc (.map #[] 0)).alloc (.cells #[.slice none 0 0, .map (some W.heap.size)] 44)) B (W.heap.size + 1) [] (.slice none 0 0) W.heap.size f g h := by
  have e := World.alloc_heap_new (W.alloc (.map #[] 0)) (.cells #[.slice none 0 0, .map (some W.heap.size)] 44)
  rw [World.size_alloc] at e
  exact ⟨e, World.ownsRow_nil _ _ _ _, (PlcM.start W).bel ((Below.refl _ _).alloc (Nat.le_refl _) _), fun _ hi => absurd hi (Nat.not_lt_zero _), fun _ hi => absurd hi (Nat.not_lt_zero _), ⟨by omega, hB, fun _ hi => absurd hi (Nat.not_lt_zero _)⟩, fun _ hi => absurd hi (Nat.not_lt_zero _)⟩

/-- the loop's state -/
def PSt (W1 : World) (B R bP G : Nat) (ls : List (List UInt8)) (i : Nat) (W : World) : Prop := ∃ st vR rb mb DD, prT ls i = some st ∧ RdI W B R st vR bP rb mb DD ∧ Below B W1 W ∧ W.heap[G]? = some (.cells (ls.map tx).toArray 9 (0, 0))

set_option maxHeartbeats 8000000 in
set_option maxRecDepth 1000000 in
theorem iParse_calls (w : World) (s : ByteArray) (m : Int) (hm : w.cell? ⟨2, 0, none⟩ = some (.int .i64 m)) (hs : s.size ≤ 1099511627776) :
    Calls Tryd.prog 6 #[.string s] w (ParE w s.data.toList) := by
  have hmm := @run_makeMap Tryd.prog
  have hlen : s.data.toList.length = s.size := by simp
  obtain ⟨W1, hW1⟩ : ∃ W1, W1 = w.alloc (.cells #[.slice none 0 0] 24) := ⟨_, rfl⟩
  have HB1 : Hid (Below w.heap.size w W1) := hid (by rw [hW1]; exact (Below.refl _ _).alloc (Nat.le_refl _) _)
  have HX1 : Hid (Boxed W1 w.heap.size 24 (.slice none 0 0)) := hid (by rw [hW1]; exact Boxed.new _ _ _)
  have hs1 : W1.heap.size = w.heap.size + 1 := by rw [hW1]; simp
  have HS1 := hid hs1
  have b1 := HX1.out.cell
  have f1 := HX1.out.frozen
  by_cases hbig : 60000 < s.size
  · have q1 : (60000 : Int) < (s.size : Int) := by omega
    have HF : Hid (∀ w', Below w.heap.size w w' → ParE w s.data.toList (.returned (.tuple #[.agg #[.slice none 0 0], .int .i64 (-1)])) w') := hid fun w' hb => ⟨hb, Or.inl ⟨by omega, rfl⟩⟩
    clear hlen hbig hs1 hmm
    go_enter Tryd.func6, Tryd.ntmps6
    go_upto_region 1 with fail
    rw [← hW1]
    clear hW1
    go_wp2_with fail
    refine bodyPost_ret (v := .tuple #[.agg #[.slice none 0 0], .int .i64 (-1)]) (by simp [results, Tryd.results6, go_sem, b1]) rfl ?_
    exact HF.out _ (HB1.out.setCell (Nat.le_refl _) _)
  · have q1 : ¬ ((60000 : Int) < (s.size : Int)) := by omega
    have hsm : s.size ≤ 60000 := by omega
    obtain ⟨ls, hls⟩ : ∃ ls, ls = spl 10 s.data.toList := ⟨_, rfl⟩
    obtain ⟨W2, hW2⟩ : ∃ W2, W2 = (W1.alloc (.map #[] 0)).alloc (.cells #[.slice none 0 0, .map (some W1.heap.size)] 44) := ⟨_, rfl⟩
    have hB2 : Below W1.heap.size W1 W2 := by rw [hW2]; exact ((Below.refl _ _).alloc (Nat.le_refl _) _).alloc (by simp) _
    have HR2 : Hid (RdI W2 W1.heap.size (W1.heap.size + 1) [] (.slice none 0 0) W1.heap.size (fun _ => 0) (fun _ => 0) (fun _ => .map [])) := hid (by rw [hW2]; exact RdI.start W1 _ (Nat.le_refl _) _ _ _)
    have HB2 := hid hB2
    have KS := hid (Tryd.c_Split s 10 m W2 (by omega) (bclR (bt HB1.out hB2) hm))
    rw [← hls] at KS
    have HP0 : Hid (PSt W1 W1.heap.size (W1.heap.size + 1) W1.heap.size W2.heap.size ls 0 (W2.alloc (.cells (ls.map tx).toArray 9))) := hid ⟨[], _, _, _, _, rfl, HR2.out.below ((Below.refl _ _).alloc (Nat.le_refl _) _), bt hB2 ((Below.refl _ _).alloc (Nat.le_refl _) _), World.alloc_heap_new _ _⟩
    have hlz : ls.length ≤ 60001 := by rw [hls]; have := spl_le 10 s.data.toList; omega
    have HLl : Hid (∀ j, (ls.getD j []).length ≤ 60000) := hid fun j => by rw [hls]; have := spl_len 10 s.data.toList j; omega
    have HM := hid hm
    have HFn : Hid (∀ k w', k < ls.length → (∃ st, prT ls k = some st) → prT ls (k + 1) = none → Below w.heap.size w w' → ParE w s.data.toList (.returned (.tuple #[.agg #[.slice none 0 0], .int .i64 ((k : Int) + 1)])) w') := hid fun k w' hk h1 h2 hb => ⟨hb, Or.inr (Or.inl ⟨by omega, k, by rw [← hls]; exact hk, by rw [← hls]; exact h1, by rw [← hls]; exact h2, rfl⟩)⟩
    have HFy : Hid (∀ v w' st ds vr vw us lo hi, prT ls ls.length = some st → DsOf st ds → DQ w' w.heap.size v ds vr vw us lo hi → Below w.heap.size w w' → ParE w s.data.toList (.returned (.tuple #[.agg #[v], .int .i64 0])) w') := hid fun v w' st ds vr vw us lo hi h1 h2 h3 hb => ⟨hb, Or.inr (Or.inr ⟨by omega, st, by rw [← hls]; exact h1, v, ds, vr, vw, us, lo, hi, rfl, h2, h3⟩)⟩
    clear hlen hbig hs1 hB2 HR2 hm hls hsm
    go_enter Tryd.func6, Tryd.ntmps6
    go_upto_region 1 with fail
    rw [← hW1]
    clear hW1
    go_upto_region 4 with fail
    rw [← hW2]
    clear hW2
    obtain ⟨n, hn⟩ : ∃ n, n = ls.length := ⟨_, rfl⟩
    have HN := hid hn
    rw [← hn] at KS hlz
    clear hn
    obtain ⟨P, hP⟩ : ∃ P, P = W1.heap.size := ⟨_, rfl⟩
    have HPe := hid hP
    rw [← hP] at HP0 ⊢
    clear hP
    go_wp2_with (first | (go_at_call 17; refine KS.out.mono ?_; rintro e w3 ⟨rfl, rfl⟩) | fail)
    clear KS
    obtain ⟨G, hG⟩ : ∃ G, G = W2.heap.size := ⟨_, rfl⟩
    rw [← hG] at HP0 ⊢
    clear hG
    go_loopw [16] (fun t wr => ∃ i : Nat, i ≤ n ∧ t = .int .i64 i ∧ Hid (PSt W1 P (P + 1) P G ls i wr)) (fun t _ => n - (intOf t).toNat)
    case atStart => exact ⟨0, Nat.zero_le _, rfl, HP0⟩
    case round =>
      clear HP0
      obtain ⟨i, hin, rfl, HH⟩ := hrel
      obtain ⟨st, vR, rb, mb, DD, hst, hI, hB, hL⟩ := HH.out
      have HST := hid hst
      have HI := hid hI
      have HB := hid hB
      have HL := hid hL
      clear HH hst hI hB hL
      have HBw : Hid (Below w.heap.size w wr) := hid (by
        have := HB.out
        rw [HPe.out] at this
        exact bt HB1.out this)
      have b2 : wr.cell? ⟨w.heap.size, 0, none⟩ = some (.slice none 0 0) := (HB.out.cell (p := ⟨w.heap.size, 0, none⟩) (by have := HPe.out; have := HS1.out; show w.heap.size < P; omega)).trans b1
      have HBx : Hid (wr.heap[w.heap.size]? = W1.heap[w.heap.size]?) := hid (HB.out.block _ (by have := HPe.out; have := HS1.out; omega))
      have f2 : wr.frozen? ⟨w.heap.size, 0, none⟩ = false := by rw [World.frozen?_of_block HBx.out]; exact f1
      by_cases hlt : i < n
      · have i1 : (i : Int) < (n : Int) := by omega
        have hil : i < ls.length := by rw [← HN.out]; exact hlt
        have cl : wr.cell? ⟨G, i, none⟩ = some (.string ⟨(ls.getD i []).toArray⟩) := by
          rw [cell_of_row _ _ _ _ _ _ HL.out]
          simp only [List.getElem?_toArray, List.getElem?_map, List.getElem?_eq_getElem hil, Option.map_some, List.getD_eq_getElem?_getD, Option.getD_some]
          rfl
        have KT := hid (take_calls wr P (P + 1) st vR P rb mb DD HI.out (prT_ok HST.out) ⟨(ls.getD i []).toArray⟩ (by show (ls.getD i []).toArray.size ≤ _; rw [List.size_toArray]; have := HLl.out i; omega) m (bclR HBw.out HM.out))
        have HNx : Hid (prT ls (i + 1) = takA st (ls.getD i [])) := hid (by rw [prT, HST.out]; rfl)
        rw [show (⟨(ls.getD i []).toArray⟩ : ByteArray).data.toList = ls.getD i [] from by simp] at KT
        unfold TakE at KT
        cases hta : takA st (ls.getD i []) with
        | none =>
          rw [hta] at KT HNx
          clear hta
          generalize ls.getD i [] = li at *
          go_wp2_with (first | (go_at_call 18; refine KT.out.mono ?_; rintro e w5 ⟨rfl, hb5, hks5, -⟩; have b5 : w5.cell? ⟨w.heap.size, 0, none⟩ = some (.slice none 0 0) := ((hb5.cell (p := ⟨w.heap.size, 0, none⟩) (by have := HPe.out; have := HS1.out; show w.heap.size < P; omega)).trans b2); have f5 : w5.frozen? ⟨w.heap.size, 0, none⟩ = false := (by rw [World.frozen?_of_block (hb5.block _ (by have := HPe.out; have := HS1.out; omega : w.heap.size < P))]; exact f2)) | fail)
          refine bodyPost_ret (v := .tuple #[.agg #[.slice none 0 0], .int .i64 ((i : Int) + 1)]) (by simp [results, Tryd.results6, go_sem, b5]) rfl ?_
          exact HFn.out i _ hil ⟨st, HST.out⟩ HNx.out ((HBw.out.trans (hb5.mono (by have := HPe.out; have := HS1.out; omega))).setCell (Nat.le_refl _) _)
        | some st' =>
          rw [hta] at KT HNx
          clear hta
          generalize ls.getD i [] = li at *
          go_wp2_with (first | (go_at_call 18; refine KT.out.mono ?_; rintro e w5 ⟨rfl, hb5, hks5, hr5⟩) | fail)
          go_roundw
          case rel =>
            obtain ⟨vR', rb', mb', DD', hr⟩ := hr5 st' rfl
            exact ⟨i + 1, by omega, by go_num, hid ⟨st', vR', rb', mb', DD', HNx.out, hr, HB.out.trans hb5, (hks5 G _ HL.out).trans HL.out⟩⟩
          case measure => simp [intOf]; omega
      · obtain rfl : i = n := by omega
        have i1 : ¬ ((i : Int) < (i : Int)) := by omega
        have KD := hid (data_calls wr P (P + 1) st vR P rb mb DD HI.out (prT_ok HST.out))
        go_wp2_with (first | (go_at_call 19; refine KD.out.mono ?_; rintro e w5 ⟨v5, ds5, vr5, vw5, us5, lo5, hi5, rfl, hds5, hdq5, hb5⟩; have HX5 := hid (And.intro hds5 (And.intro hdq5 hb5)); have b5 := bclR hb5 b2; have f5 : w5.frozen? ⟨w.heap.size, 0, none⟩ = false := (by rw [World.frozen?_of_block (hb5.block _ (World.block_lt_of_cell? wr _ b2))]; exact f2); obtain ⟨a5, c5, e5⟩ := own_shapeR hdq5.own; subst e5; clear hds5 hdq5 hb5) | fail)
        refine bodyPost_ret (v := .tuple #[.agg #[.slice a5 ds5.length c5], .int .i64 0]) (by simp [results, Tryd.results6, go_sem, b5]) rfl ?_
        have hty : ∃ cur, w5.heap[w.heap.size]? = some (.cells cur 24 (0, 0)) := ⟨_, ((HX5.out.2.2.block _ (World.block_lt_of_cell? wr _ b2)).trans HBx.out).trans HX1.out⟩
        refine HFy.out _ _ st ds5 vr5 vw5 us5 lo5 hi5 (by rw [← HN.out]; exact HST.out) HX5.out.1 ?_ ((bt HBw.out HX5.out.2.2).setCell (Nat.le_refl _) _)
        exact (HX5.out.2.1.base (Nat.le_trans (Nat.le_refl _) HBw.out.size)).set hty

end Go.Proofs.YtcdfoephhjacdaaDoor

/-
  Rows and a table's lists are marked, and the marks are found again.
-/
namespace Go.Proofs.YtcdfoephhjacdaaDoor
open Go.RowKit

def lenR (ls : List (List Int)) : Nat → Nat
  | 0 => 0
  | j + 1 => lenR ls j + (ls.getD j []).length
theorem lenR_le (ls : List (List Int)) : ∀ {i j : Nat}, i ≤ j → lenR ls i ≤ lenR ls j
  | i, 0, h => by
    have e : i = 0 := Nat.le_zero.1 h
    subst e
    exact Nat.le_refl _
  | i, j + 1, h => by
    by_cases e : i = j + 1
    · rw [e]; exact Nat.le_refl _
    · exact Nat.le_trans (lenR_le ls (i := i) (j := j) (by omega)) (Nat.le_add_right _ _)

theorem mark_heldR (w : World) (B : Nat) (v : Value) (l : List Int) (k : Int) (h : w.ownsRow B 3 1 v l.length (l.map (Value.int .i64))) (hl : l.length ≤ 1099511627776) (hk : 0 ≤ k) (hk' : k ≤ 1099511627776) :
    Calls Tryd.prog 45 #[v, .int .i64 k] w fun e w' => e = .returned (.int .i64 (k + l.length)) ∧ (∀ b, some b ≠ v.ownBlock → w'.heap[b]? = w.heap[b]?) ∧ w'.heap.size = w.heap.size ∧ Below B w w' ∧
      ∀ W, (∀ g, v.ownBlock = some g → W.heap[g]? = w'.heap[g]?) → w'.heap.size ≤ W.heap.size → Calls Tryd.prog 47 #[v, .int .i64 k] W fun e w'' => e = .returned (.int .i64 (k + l.length)) ∧ w'' = W := by
  rcases h.2 with ⟨rfl, h2⟩ | ⟨g, cap, cur, rfl, hb', hc, hr⟩
  · rw [h2]
    refine (markIntS_nil w none 0 k).mono ?_
    rintro e w' ⟨rfl, rfl⟩
    refine ⟨by simp, fun b _ => rfl, rfl, Below.refl _ _, fun W _ _ => ?_⟩
    have := heldIntS_nil W none 0 k
    simpa using this
  · refine (markIntS_cap w g cap l k (own_ownI h) hl hk hk').mono ?_
    rintro e w' ⟨rfl, ho, hog⟩
    exact ⟨rfl, fun b hb => hog.block b (fun e => hb (by rw [e]; rfl)), hog.size, hog.below hb', fun W hW hs => heldIntS_cap W g cap l.length k (ho.move (hW g rfl) hs) hl hk hk'⟩

/-- what has been marked of the first j rows -/
structure MkR (w wr : World) (B : Nat) (vs : List Value) (ls : List (List Int)) (k : Int) (j : Nat) : Prop where
  size : wr.heap.size = w.heap.size
  bel : Below B w wr
  far : ∀ q, (∀ i, i < j → some q ≠ (vs.getD i undef).ownBlock) → wr.heap[q]? = w.heap[q]?
  held : ∀ i, i < j → ∀ W, (∀ q, (vs.getD i undef).ownBlock = some q → W.heap[q]? = wr.heap[q]?) → wr.heap.size ≤ W.heap.size → Calls Tryd.prog 47 #[vs.getD i undef, .int .i64 (k + lenR ls i)] W fun e w'' => e = .returned (.int .i64 (k + lenR ls i + (ls.getD i []).length)) ∧ w'' = W

theorem MkR.step {w wr w2 : World} {B : Nat} {vs : List Value} {ls : List (List Int)} {k : Int} {j : Nat} (h : MkR w wr B vs ls k j) (hap : ∀ i, i < j → ApR (vs.getD i undef) (vs.getD j undef))
    (h1 : ∀ b, some b ≠ (vs.getD j undef).ownBlock → w2.heap[b]? = wr.heap[b]?) (h2 : w2.heap.size = wr.heap.size) (h3 : Below B wr w2)
    (h4 : ∀ W, (∀ g, (vs.getD j undef).ownBlock = some g → W.heap[g]? = w2.heap[g]?) → w2.heap.size ≤ W.heap.size → Calls Tryd.prog 47 #[vs.getD j undef, .int .i64 (k + lenR ls j)] W fun e w'' => e = .returned (.int .i64 (k + lenR ls j + (ls.getD j []).length)) ∧ w'' = W) : MkR w w2 B vs ls k (j + 1) := by
  refine ⟨h2.trans h.size, h.bel.trans h3, fun q hq => (h1 q (hq j (by omega))).trans (h.far q fun i hi => hq i (by omega)), fun i hi W hW hs => ?_⟩
  by_cases e : i = j
  · subst e; exact h4 W hW hs
  · exact h.held i (by omega) W (fun q hq => (hW q hq).trans (h1 q (fun e2 => hap i (by omega) q hq e2.symm))) (by omega)

set_option maxHeartbeats 4000000 in
set_option maxRecDepth 1000000 in
theorem marksR (w : World) (B : Nat) (v : Value) (vs : List Value) (ls : List (List Int)) (k : Int) (h : RQ w B v vs ls) (hap : ∀ i j, i < j → j < ls.length → ApR (vs.getD i undef) (vs.getD j undef)) (hl : lenR ls ls.length ≤ 1048576) (hn1 : ls.length ≤ 1048576) (hk : 0 ≤ k) (hk' : k ≤ 8388608) :
    Calls Tryd.prog 44 #[v, .int .i64 k] w fun e w' => e = .returned (.int .i64 (k + lenR ls ls.length)) ∧ MkR w w' B vs ls k ls.length := by
  have HCell : Hid (∀ wr j, MkR w wr B vs ls k j → j < ls.length → ∃ g cap, v = .slice (some ⟨g, 0, none⟩) ls.length cap ∧ wr.cell? ⟨g, j, none⟩ = some (vs.getD j undef) ∧ wr.ownsRow B 3 1 (vs.getD j undef) (ls.getD j []).length ((ls.getD j []).map (Value.int .i64))) := hid fun wr j hM hj => by
    obtain ⟨g, cap, e, -, hc⟩ := h.get hj
    have ht := own_typ h.own (g := g) (by rw [e]; rfl)
    refine ⟨g, cap, e, (World.cell?_of_block (w := w) (a := ⟨g, j, none⟩) (hM.far g fun i hi => own_ne (h.each i (by omega)) ht (by decide))).trans hc, own_move (h.each j hj) fun q hq => hM.far q fun i hi e2 => hap i j hi hj q e2.symm hq⟩
  have HStep : Hid (∀ wr w2 j, MkR w wr B vs ls k j → j < ls.length → (∀ b, some b ≠ (vs.getD j undef).ownBlock → w2.heap[b]? = wr.heap[b]?) → w2.heap.size = wr.heap.size → Below B wr w2 → _ → MkR w w2 B vs ls k (j + 1)) := hid fun wr w2 j hM hj h1 h2 h3 h4 => hM.step (fun i hi => hap i j hi hj) h1 h2 h3 h4
  have HLe : Hid (∀ i, i ≤ ls.length → lenR ls i ≤ 1048576) := hid fun i hi => Nat.le_trans (lenR_le ls hi) hl
  have HLs : Hid (∀ i, lenR ls (i + 1) = lenR ls i + (ls.getD i []).length) := hid fun i => rfl
  obtain ⟨a, cap, rfl⟩ := own_shapeR h.own
  clear h hap hl
  obtain ⟨n, hn⟩ : ∃ n, n = ls.length := ⟨_, rfl⟩
  rw [← hn] at HCell HStep HLe hn1 ⊢
  clear hn
  go_enter Tryd.func44, Tryd.ntmps44
  go_wp2
  go_loopw [1, 5] (fun u t wr => ∃ j : Nat, j ≤ n ∧ t = .int .i64 j ∧ ∃ c : Int, u = .int .i64 c ∧ 0 ≤ c ∧ c ≤ 9437184 ∧ Hid (c = k + lenR ls j ∧ MkR w wr B vs ls k j)) (fun _ t _ => n - (intOf t).toNat)
  case atStart => exact ⟨0, Nat.zero_le _, rfl, _, rfl, by omega, by omega, hid ⟨by show k = k + ((0 : Nat) : Int); omega, rfl, Below.refl _ _, fun _ _ => rfl, fun i hi => by omega⟩⟩
  case round =>
    obtain ⟨j, hj, rfl, c, rfl, hc0, hc1, hok⟩ := hrel
    by_cases hjn : j < n
    · have i1 : (j : Int) < (n : Int) := by omega
      obtain ⟨g, cp, e, c1, ho⟩ := HCell.out wr j hok.out.2 hjn
      simp only [Value.slice.injEq, true_and] at e
      obtain ⟨rfl, rfl⟩ := e
      have hle := HLe.out (j + 1) (by omega)
      rw [HLs.out j] at hle
      have hcj := hok.out.1
      have HK := hid (mark_heldR wr B _ _ c ho (by omega) hc0 (by omega))
      rw [hcj] at HK
      have HST := hid (fun w2 => HStep.out wr w2 j hok.out.2 hjn)
      have hR : Hid (k + lenR ls j + ((ls.getD j []).length : Int) = k + lenR ls (j + 1)) := hid (by rw [HLs.out j]; omega)
      obtain ⟨ar, cr, er⟩ := own_shapeR ho
      have hR2 : 0 ≤ k + lenR ls j + ((ls.getD j []).length : Int) ∧ k + lenR ls j + ((ls.getD j []).length : Int) ≤ 9437184 := by omega
      subst hcj
      clear ho hok hle
      generalize hu : vs.getD j undef = u at *
      subst er
      go_wp2_with fail
      refine HK.out.mono ?_
      rintro e w2 ⟨rfl, h1, h2, h3, h4⟩
      have HN := hid (HST.out w2 h1 h2 h3 h4)
      clear h1 h2 h3 h4 HK HST hu
      go_wp2_with fail
      go_roundw
      case rel => exact ⟨j + 1, by omega, by go_num, _, rfl, hR2.1, hR2.2, hid ⟨hR.out, HN.out⟩⟩
      case measure => simp [intOf]; omega
    · obtain rfl : j = n := by omega
      have i1 : ¬ ((j : Int) < (j : Int)) := by omega
      go_wp2
      go_ret
      exact ⟨ret_int hok.out.1, hok.out.2⟩

set_option maxHeartbeats 4000000 in
set_option maxRecDepth 1000000 in
theorem heldsR (W : World) (v : Value) (vs : List Value) (ls : List (List Int)) (k : Int) (hsl : ∃ a cap, v = .slice a ls.length cap) (hc : ∀ i, i < ls.length → ∃ g cap, v = .slice (some ⟨g, 0, none⟩) ls.length cap ∧ W.cell? ⟨g, i, none⟩ = some (vs.getD i undef))
    (hv : ∀ i, i < ls.length → ∃ a n cap, vs.getD i undef = .slice a n cap)
    (hh : ∀ i, i < ls.length → Calls Tryd.prog 47 #[vs.getD i undef, .int .i64 (k + lenR ls i)] W fun e w'' => e = .returned (.int .i64 (k + lenR ls i + (ls.getD i []).length)) ∧ w'' = W) (hl : lenR ls ls.length ≤ 1048576) (hn1 : ls.length ≤ 1048576) (hk : 0 ≤ k) (hk' : k ≤ 8388608) :
    Calls Tryd.prog 46 #[v, .int .i64 k] W fun e w'' => e = .returned (.int .i64 (k + lenR ls ls.length)) ∧ w'' = W := by
  have HC := hid hc
  have HH := hid hh
  have HV := hid hv
  have HLe : Hid (∀ i, i ≤ ls.length → lenR ls i ≤ 1048576) := hid fun i hi => Nat.le_trans (lenR_le ls hi) hl
  have HLs : Hid (∀ i, lenR ls (i + 1) = lenR ls i + (ls.getD i []).length) := hid fun i => rfl
  obtain ⟨a, cap, rfl⟩ := hsl
  clear hc hh hv hl
  obtain ⟨n, hn⟩ : ∃ n, n = ls.length := ⟨_, rfl⟩
  rw [← hn] at HC HH HV HLe hn1 ⊢
  clear hn
  go_enter Tryd.func46, Tryd.ntmps46
  go_wp2
  go_loop [1, 5] (fun u t => ∃ j : Nat, j ≤ n ∧ t = .int .i64 j ∧ ∃ c : Int, u = .int .i64 c ∧ 0 ≤ c ∧ c ≤ 9437184 ∧ Hid (c = k + lenR ls j)) (fun _ t => n - (intOf t).toNat)
  case atStart => exact ⟨0, Nat.zero_le _, rfl, _, rfl, by omega, by omega, hid (by show k = k + ((0 : Nat) : Int); omega)⟩
  case round =>
    obtain ⟨j, hj, rfl, c, rfl, hc0, hc1, hok⟩ := hrel
    by_cases hjn : j < n
    · have i1 : (j : Int) < (n : Int) := by omega
      obtain ⟨g, cp, e, c1⟩ := HC.out j hjn
      simp only [Value.slice.injEq, true_and] at e
      obtain ⟨rfl, rfl⟩ := e
      have hle := HLe.out (j + 1) (by omega)
      rw [HLs.out j] at hle
      have hcj := hok.out
      have HK := hid (HH.out j hjn)
      have hR : Hid (k + lenR ls j + ((ls.getD j []).length : Int) = k + lenR ls (j + 1)) := hid (by rw [HLs.out j]; omega)
      have hR2 : 0 ≤ k + lenR ls j + ((ls.getD j []).length : Int) ∧ k + lenR ls j + ((ls.getD j []).length : Int) ≤ 9437184 := by omega
      obtain ⟨ar, nr, cr, er⟩ := HV.out j hjn
      rw [er] at HK c1
      subst hcj
      have hR3 : ¬ (k + lenR ls j + ((ls.getD j []).length : Int) < 0) := by omega
      clear hok hle
      generalize k + lenR ls j + ((ls.getD j []).length : Int) = z at *
      go_wp2_with fail
      refine HK.out.mono ?_
      rintro e w2 ⟨rfl, hw2⟩
      subst w2
      go_wp2_with fail
      go_round
      case rel => exact ⟨j + 1, by omega, by go_num, _, rfl, hR2.1, hR2.2, hid hR.out⟩
      case measure => simp [intOf]; omega
    · obtain rfl : j = n := by omega
      have i1 : ¬ ((j : Int) < (j : Int)) := by omega
      go_wp2
      go_ret
      exact ⟨ret_int hok.out, rfl⟩

end Go.Proofs.YtcdfoephhjacdaaDoor
