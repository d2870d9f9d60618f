import Derived.Test.YtnbbbbfamlmfpaaGreatJn07
import Derived.Test.YtnbbbbfamlmfpaaGreatJn20
import Derived.Test.YtnbbbbfamlmfpaaGreatJn23
/-
  spec.l2Shared: a slice that is never nil.
-/
namespace Go.Proofs.YtnbbbbfamlmfpaaGreat
open Go.RowKit

theorem filter_take2 {l : List Int} {p : Int → Bool} {k : Nat} (hk : k < l.length) : (l.take (k + 1)).filter p = if p (l.getD k 0) then (l.take k).filter p ++ [l.getD k 0] else (l.take k).filter p := by
  rw [List.take_add_one, List.getElem?_eq_getElem hk, List.filter_append]
  have e : l.getD k 0 = l[k] := by rw [List.getD_eq_getElem?_getD, List.getElem?_eq_getElem hk]; rfl
  rw [e]
  simp only [Option.toList_some]
  by_cases h : p l[k] = true
  · rw [if_pos h, List.filter_cons_of_pos h]; rfl
  · rw [if_neg h, List.filter_cons_of_neg h]; simp

set_option maxHeartbeats 4000000 in
set_option maxRecDepth 1000000 in
theorem shared_calls (w : World) (v v2 : Value) (l l2 : List Int) (h : IS w v l) (hl : l.length ≤ 1099511627776) (h2 : IS w v2 l2) (hl2 : l2.length ≤ 1099511627776) :
    Calls Tryz.prog 48 #[v, v2] w fun e w' => ∃ g cap, e = .returned (.slice (some ⟨g, 0, none⟩) (shr l l2).length cap) ∧ w'.ownsRow w.heap.size 3 1 (.slice (some ⟨g, 0, none⟩) (shr l l2).length cap) (shr l l2).length ((shr l l2).map (Value.int .i64)) ∧ Below w.heap.size w w' := by
  obtain ⟨i0, hi, hz0, hz1, hz2⟩ := info_parts Tryz.infoInt
  obtain ⟨a, cap, rfl, hc⟩ := h
  have H2 := hid h2
  obtain ⟨a2, cap2, rfl, -⟩ := h2
  obtain ⟨PL, hPL⟩ : ∃ PL : Nat → List Int, PL = fun k => (l.take k).filter fun x => decide (x ∈ l2) := ⟨_, rfl⟩
  have HS : Hid (∀ k, k < l.length → PL (k + 1) = if decide (l.getD k 0 ∈ l2) then PL k ++ [l.getD k 0] else PL k) := hid fun k hk => by rw [hPL]; exact filter_take2 hk
  have H0 : Hid (PL 0 = []) := hid (by rw [hPL]; rfl)
  have HE : Hid (PL l.length = shr l l2) := hid (by rw [hPL]; simp [shr])
  have HLE : Hid (∀ k, (PL k).length ≤ k) := hid fun k => by
    rw [hPL]
    exact Nat.le_trans (List.length_filter_le _ _) (by simp; omega)
  rw [← HE.out]
  obtain ⟨n, hn⟩ : ∃ n, n = l.length := ⟨_, rfl⟩
  rw [← hn] at hc hl HS ⊢
  have HC := hid hc
  clear hc hn hPL HE
  go_enter Tryz.func48, Tryz.ntmps48
  go_wp2
  have b0 : Below w.heap.size w (w.alloc (.cells #[] 3)) := (Below.refl _ _).alloc (Nat.le_refl _) _
  have HB0 := hid b0
  clear b0
  go_loopw [5, 11] (fun v t wr => ∃ k g cp lk : Nat, k ≤ n ∧ t = .int .i64 k ∧ v = .slice (some ⟨g, 0, none⟩) lk cp ∧ lk ≤ k ∧ Hid (lk = (PL k).length ∧ wr.ownsRow w.heap.size 3 1 (.slice (some ⟨g, 0, none⟩) lk cp) lk ((PL k).map (Value.int .i64)) ∧ Below w.heap.size w wr)) (fun _ t _ => n - (intOf t).toNat)
  case atStart => exact ⟨0, w.heap.size, 0, 0, Nat.zero_le _, rfl, rfl, Nat.le_refl _, hid (by rw [H0.out]; exact ⟨rfl, World.ownsRow_made w #[] 0 (Nat.le_refl _) (by decide) rfl, HB0.out⟩)⟩
  case round =>
    clear HB0
    obtain ⟨k, g, cp, lk, hk, rfl, rfl, hlk, HT⟩ := hrel
    have hns := HT.out.2.2.size
    by_cases hkn : k < n
    · have i1 : (k : Int) < (n : Int) := by omega
      rcases HC.out with h0 | ⟨b, o, rfl, hcell⟩
      · omega
      · have c1 : wr.cell? ⟨b, o + k, none⟩ = some (.int .i64 (l.getD k 0)) := (HT.out.2.2.cell (World.block_lt_of_cell? w _ (hcell k hkn))).trans (hcell k hkn)
        have HK := hid (l1Has_calls wr _ l2 (l.getD k 0) (H2.out.below HT.out.2.2) hl2)
        have e1 := HS.out k hkn
        clear hcell
        generalize decide (l.getD k 0 ∈ l2) = y at *
        generalize l.getD k 0 = x at *
        cases y
        · rw [if_neg (by decide)] at e1
          have HF : Hid (lk = (PL (k + 1)).length ∧ wr.ownsRow w.heap.size 3 1 (.slice (some ⟨g, 0, none⟩) lk cp) lk ((PL (k + 1)).map (Value.int .i64)) ∧ Below w.heap.size w wr) := hid (by rw [e1]; exact HT.out)
          clear e1 HT
          go_wp2_with fail
          refine HK.out.mono ?_
          rintro e w1 ⟨rfl, hw1⟩
          subst w1
          go_wp2_with fail
          go_roundw
          case rel => exact ⟨k + 1, g, cp, lk, by omega, by go_num, rfl, by omega, HF⟩
          case measure => simp [intOf]; omega
        · rw [if_pos rfl] at e1
          have E1 := hid e1
          clear e1
          go_wp2_with fail
          refine HK.out.mono ?_
          rintro e w1 ⟨rfl, hw1⟩
          subst w1
          go_wp2_with (first
            | (at_builtin; refine wpList_append_lies _ rfl _ _ 23 rfl w.heap.size 3 i0 (.int .i64 0) 1 8 Tryz.underlying23 hi hz0 hz1 hz2 rfl (by decide) (.slice (some ⟨g, 0, none⟩) lk cp) _ _ rfl (HT.out.2.1.alloc _) ⟨_, 0, none⟩ 1 1 [.int .i64 x] rfl rfl (new1_cell _ _ _) (fun u hu => by simp at hu; subst hu; rfl) (by decide) (by unfold maxLen; omega) (by omega) (by simp; omega) _ rfl ?_; intro g3 cp3 w3 hown3 hgrow3 hat3 hlt3) | fail)
          have HF : Hid (lk + 1 = (PL (k + 1)).length ∧ w3.ownsRow w.heap.size 3 1 (.slice (some ⟨g3, 0, none⟩) (lk + 1) cp3) (lk + 1) ((PL (k + 1)).map (Value.int .i64)) ∧ Below w.heap.size w w3) := hid (by
            rw [E1.out, List.length_append, List.length_singleton, List.map_append]
            exact ⟨by rw [HT.out.1], hown3, (HT.out.2.2.alloc hns _).grown hgrow3 (by simp; omega) (fun q hq => (HT.out.2.1.lt q hq).1)⟩)
          clear hown3 hgrow3 hat3 hlt3 HT
          go_roundw
          case rel => exact ⟨k + 1, g3, cp3, lk + 1, by omega, by go_num, rfl, by omega, HF⟩
          case measure => simp [intOf]; omega
    · obtain rfl : k = n := by omega
      have i1 : ¬ ((k : Int) < (k : Int)) := by omega
      obtain ⟨h1, h3, h4⟩ := HT.out
      have HF : Hid (wr.ownsRow w.heap.size 3 1 (.slice (some ⟨g, 0, none⟩) (PL k).length cp) (PL k).length ((PL k).map (Value.int .i64)) ∧ Below w.heap.size w wr) := hid (by rw [← h1]; exact ⟨h3, h4⟩)
      have H1 := hid h1
      clear h1 h3 h4 HT
      go_wp2_with fail
      go_ret
      exact ⟨g, cp, by rw [H1.out]; rfl, HF.out.1, HF.out.2⟩

end Go.Proofs.YtnbbbbfamlmfpaaGreat

/-
  impl.Project.
-/
namespace Go.Proofs.YtnbbbbfamlmfpaaGreat
open Go.RowKit

theorem setB_at {l : List Int} (h : setB l = true) {i : Nat} (hi : i < l.length) : okAt l i = true := by
  unfold setB at h
  rw [List.all_eq_true] at h
  exact h i (by simpa using hi)
theorem setB_low {l : List Int} (h : setB l = true) : ∀ i, i < l.length → (i : Int) ≤ l.getD i 0 ∧ l.getD i 0 < 6
  | 0, hi => by
    have := setB_at h hi
    unfold okAt at this
    simp only [Bool.and_eq_true, decide_eq_true_eq] at this
    omega
  | i + 1, hi => by
    have := setB_at h hi
    have ih := setB_low h i (by omega)
    unfold okAt at this
    simp only [Bool.and_eq_true, Bool.or_eq_true, decide_eq_true_eq, Nat.add_sub_cancel] at this
    omega
theorem setB_six {l : List Int} (h : setB l = true) : l.length ≤ 6 := by
  rcases Nat.lt_or_ge 6 l.length with h1 | h1
  · have := setB_low h 6 h1
    omega
  · exact h1
theorem setB_pw {l : List Int} (h : setB l = true) : l.Pairwise (· < ·) := by
  have step : ∀ j, j < l.length → ∀ i, i < j → l.getD i 0 < l.getD j 0 := by
    intro j
    induction j with
    | zero => intro _ i hi; omega
    | succ j ih =>
      intro hj i hi
      have := setB_at h hj
      unfold okAt at this
      simp only [Bool.and_eq_true, Bool.or_eq_true, decide_eq_true_eq, Nat.add_sub_cancel] at this
      by_cases e : i = j
      · subst e; omega
      · have := ih (by omega) i (by omega); omega
  rw [List.pairwise_iff_getElem]
  intro i j hi hj hij
  have := step j hj i hij
  rw [List.getD_eq_getElem?_getD, List.getElem?_eq_getElem hi, List.getD_eq_getElem?_getD, List.getElem?_eq_getElem hj] at this
  exact this
theorem tableB_rows {vs : List Int} {rows : List (List Int)} {ws : List Int} (h : tableB vs rows ws = true) : setB vs = true ∧ rows.length ≤ 10000 ∧ ∀ r ∈ rows, r.length = vs.length := by
  unfold tableB at h
  simp only [Bool.and_eq_true, decide_eq_true_eq] at h
  refine ⟨h.1.1.1, h.1.1.2, fun r hr => ?_⟩
  obtain ⟨i, hi, e⟩ := List.getElem_of_mem hr
  have h1 := h.1.2
  unfold rowsB at h1
  rw [List.all_eq_true] at h1
  have h2 := h1 i (by simpa using hi)
  unfold rowAt at h2
  simp only [Bool.and_eq_true, decide_eq_true_eq] at h2
  rw [List.getD_eq_getElem?_getD, List.getElem?_eq_getElem hi, Option.getD_some, e] at h2
  omega
/-- a table that a call has made -/
structure TQ (W : World) (B : Nat) (v0 v1 v2 : Value) (us : List Value) (vs : List Int) (rows : List (List Int)) (ws : List Int) : Prop where
  o0 : W.ownsRow B 3 1 v0 vs.length (vs.map (Value.int .i64))
  rq : RQ W B v1 us rows
  o2 : W.ownsRow B 3 1 v2 ws.length (ws.map (Value.int .i64))
  a02 : Ap' v0 v2
  a0 : ∀ i, i < rows.length → Ap' (us.getD i undef) v0
  a2 : ∀ i, i < rows.length → Ap' (us.getD i undef) v2
theorem TQ.nil (W : World) (B : Nat) : TQ W B (.slice none 0 0) (.slice none 0 0) (.slice none 0 0) [] [] [] [] :=
  ⟨World.ownsRow_nil _ _ _ _, ⟨World.ownsRow_nil _ _ _ _, rfl, fun i hi => by simp at hi, fun i j _ hj => by simp at hj⟩, World.ownsRow_nil _ _ _ _, fun g h => by simp [Value.ownBlock] at h, fun i hi => by simp at hi, fun i hi => by simp at hi⟩
theorem TQ.set {W : World} {B p off : Nat} {v0 v1 v2 y : Value} {us : List Value} {vs ws : List Int} {rows : List (List Int)} (h : TQ W B v0 v1 v2 us vs rows ws) (ht : ∃ cur, W.heap[p]? = some (.cells cur 41 (0, 0))) : TQ (W.setCell ⟨p, off, none⟩ y) B v0 v1 v2 us vs rows ws :=
  ⟨own_keep3 h.o0 ht (by decide), h.rq.set ht, own_keep3 h.o2 ht (by decide), h.a02, h.a0, h.a2⟩
theorem TQ.below {W W' : World} {B : Nat} {v0 v1 v2 : Value} {us : List Value} {vs ws : List Int} {rows : List (List Int)} (h : TQ W B v0 v1 v2 us vs rows ws) (hb : Below W.heap.size W W') : TQ W' B v0 v1 v2 us vs rows ws :=
  ⟨own_below h.o0 hb, h.rq.below hb, own_below h.o2 hb, h.a02, h.a0, h.a2⟩
def ones (n : Nat) : List Int := List.replicate n 1
end Go.Proofs.YtnbbbbfamlmfpaaGreat

/-
  spec: l2Subset, l2Project.
-/
namespace Go.Proofs.YtnbbbbfamlmfpaaGreat
open Go.RowKit

theorem allQ_false {p : Int → Bool} {l : List Int} {j : Nat} (hj : j < l.length) (h : p (l.getD j 0) = false) : l.all p = false := by
  rw [List.all_eq_false]
  refine ⟨l[j], List.getElem_mem _, ?_⟩
  rw [List.getD_eq_getElem?_getD, List.getElem?_eq_getElem hj, Option.getD_some] at h
  rw [h]; decide
theorem allQ_true {p : Int → Bool} {l : List Int} (h : ∀ j, j < l.length → p (l.getD j 0) = true) : l.all p = true := by
  rw [List.all_eq_true]
  intro x hx
  obtain ⟨i, hi, e⟩ := List.getElem_of_mem hx
  have := h i hi
  rw [List.getD_eq_getElem?_getD, List.getElem?_eq_getElem hi, Option.getD_some, e] at this
  exact this

set_option maxHeartbeats 2000000 in
theorem subset_calls (w : World) (v v2 : Value) (l l2 : List Int) (h : IS w v l) (hl : l.length ≤ 1099511627776) (h2 : IS w v2 l2) (hl2 : l2.length ≤ 1099511627776) :
    Calls Tryz.prog 19 #[v, v2] w fun e w' => e = .returned (.bool (subQ l l2)) ∧ w' = w := by
  obtain ⟨a, cap, rfl, hc⟩ := h
  have H2 := hid h2
  obtain ⟨a2, cap2, rfl, -⟩ := h2
  obtain ⟨res, hres⟩ : ∃ r, r = subQ l l2 := ⟨_, rfl⟩
  rw [← hres]
  have HF : Hid (∀ j, j < l.length → decide (l.getD j 0 ∈ l2) = false → res = false) := hid fun j hj e => by
    rw [hres]; unfold subQ
    exact allQ_false (p := fun x => decide (x ∈ l2)) hj e
  have HT : Hid ((∀ j, j < l.length → decide (l.getD j 0 ∈ l2) = true) → res = true) := hid fun h1 => by
    rw [hres]; unfold subQ
    exact allQ_true (p := fun x => decide (x ∈ l2)) h1
  obtain ⟨n, hn⟩ : ∃ n, n = l.length := ⟨_, rfl⟩
  rw [← hn] at hc hl HF HT ⊢
  have HC := hid hc
  clear hc hn hres
  go_enter Tryz.func19, Tryz.ntmps19
  go_wp2_with fail
  go_loop [9] (fun t => ∃ j : Nat, j ≤ n ∧ t = .int .i64 j ∧ Hid (∀ i, i < j → decide (l.getD i 0 ∈ l2) = true)) (fun t => n - (intOf t).toNat)
  case atStart => exact ⟨0, Nat.zero_le _, rfl, hid (fun i hi => by omega)⟩
  case round =>
    obtain ⟨j, hj, rfl, hok⟩ := hrel
    by_cases hjn : j < n
    · have i1 : (j : Int) < (n : Int) := by omega
      rcases HC.out with h0 | ⟨b, o, rfl, hcell⟩
      · omega
      · have c1 := hcell j hjn
        have HK := hid (l1Has_calls w _ l2 (l.getD j 0) H2.out hl2)
        have fin := HF.out j hjn
        have nxt : decide (l.getD j 0 ∈ l2) = true → Hid (∀ i, i < j + 1 → decide (l.getD i 0 ∈ l2) = true) := fun e i hi => by
          by_cases e2 : i = j
          · rw [e2]; exact e
          · exact hok.out i (by omega)
        clear hcell hok
        generalize decide (l.getD j 0 ∈ l2) = y at *
        generalize l.getD j 0 = x at *
        cases y
        · obtain rfl := fin rfl
          clear nxt
          go_wp2_with fail
          refine HK.out.mono ?_
          rintro e w1 ⟨rfl, hw1⟩
          subst w1
          go_wp2_with fail
          go_ret
          exact ⟨rfl, rfl⟩
        · have hf := nxt rfl
          clear fin nxt
          go_wp2_with fail
          refine HK.out.mono ?_
          rintro e w1 ⟨rfl, hw1⟩
          subst w1
          go_wp2_with fail
          go_round
          case rel => exact ⟨j + 1, by omega, by go_num, hf⟩
          case measure => simp [intOf]; omega
    · obtain rfl : j = n := by omega
      obtain rfl := HT.out hok.out
      have i1 : ¬ ((j : Int) < (j : Int)) := by omega
      clear hok
      go_wp2_with fail
      go_ret
      exact ⟨rfl, rfl⟩


theorem TX.grown {W w3 : World} {p B s n : Nat} {v0 v1 v2 u : Value} {e : TypeId} {xs : List Value} {o : Obj} (h : TX W p v0 v1 v2) (hu : W.ownsRow B e s u n xs) (he : e ≠ 41) (hg : (W.alloc o).grownBy w3 u.ownBlock) : TX w3 p v0 v1 v2 := ⟨(kept_of hg h.lt (own_ne hu h.typ he)).trans h.blk⟩

end Go.Proofs.YtnbbbbfamlmfpaaGreat

/-
  Rows and a table's lists are marked, and the marks are found again.
-/
namespace Go.Proofs.YtnbbbbfamlmfpaaGreat
open Go.RowKit

def lenQ (ls : List (List Int)) : Nat → Nat
  | 0 => 0
  | j + 1 => lenQ ls j + (ls.getD j []).length
theorem lenQ_le (ls : List (List Int)) : ∀ {i j : Nat}, i ≤ j → lenQ ls i ≤ lenQ ls j
  | i, 0, h => by
    have e : i = 0 := Nat.le_zero.1 h
    subst e
    exact Nat.le_refl _
  | i, j + 1, h => by
    by_cases e : i = j + 1
    · rw [e]; exact Nat.le_refl _
    · exact Nat.le_trans (lenQ_le ls (i := i) (j := j) (by omega)) (Nat.le_add_right _ _)

theorem mark_heldQ (w : World) (B : Nat) (v : Value) (l : List Int) (k : Int) (h : w.ownsRow B 3 1 v l.length (l.map (Value.int .i64))) (hl : l.length ≤ 1099511627776) (hk : 0 ≤ k) (hk' : k ≤ 1099511627776) :
    Calls Tryz.prog 13 #[v, .int .i64 k] w fun e w' => e = .returned (.int .i64 (k + l.length)) ∧ (∀ b, some b ≠ v.ownBlock → w'.heap[b]? = w.heap[b]?) ∧ w'.heap.size = w.heap.size ∧ Below B w w' ∧
      ∀ W, (∀ g, v.ownBlock = some g → W.heap[g]? = w'.heap[g]?) → w'.heap.size ≤ W.heap.size → Calls Tryz.prog 26 #[v, .int .i64 k] W fun e w'' => e = .returned (.int .i64 (k + l.length)) ∧ w'' = W := by
  rcases h.2 with ⟨rfl, h2⟩ | ⟨g, cap, cur, rfl, hb', hc, hr⟩
  · rw [h2]
    refine (markIntS_nil w none 0 k).mono ?_
    rintro e w' ⟨rfl, rfl⟩
    refine ⟨by simp, fun b _ => rfl, rfl, Below.refl _ _, fun W _ _ => ?_⟩
    have := heldIntS_nil W none 0 k
    simpa using this
  · refine (markIntS_cap w g cap l k (own_ownI h) hl hk hk').mono ?_
    rintro e w' ⟨rfl, ho, hog⟩
    exact ⟨rfl, fun b hb => hog.block b (fun e => hb (by rw [e]; rfl)), hog.size, hog.below hb', fun W hW hs => heldIntS_cap W g cap l.length k (ho.move (hW g rfl) hs) hl hk hk'⟩

/-- what has been marked of the first j rows -/
structure MkQ (w wr : World) (B : Nat) (vs : List Value) (ls : List (List Int)) (k : Int) (j : Nat) : Prop where
  size : wr.heap.size = w.heap.size
  bel : Below B w wr
  far : ∀ q, (∀ i, i < j → some q ≠ (vs.getD i undef).ownBlock) → wr.heap[q]? = w.heap[q]?
  held : ∀ i, i < j → ∀ W, (∀ q, (vs.getD i undef).ownBlock = some q → W.heap[q]? = wr.heap[q]?) → wr.heap.size ≤ W.heap.size → Calls Tryz.prog 26 #[vs.getD i undef, .int .i64 (k + lenQ ls i)] W fun e w'' => e = .returned (.int .i64 (k + lenQ ls i + (ls.getD i []).length)) ∧ w'' = W

theorem MkQ.step {w wr w2 : World} {B : Nat} {vs : List Value} {ls : List (List Int)} {k : Int} {j : Nat} (h : MkQ w wr B vs ls k j) (hap : ∀ i, i < j → Ap' (vs.getD i undef) (vs.getD j undef))
    (h1 : ∀ b, some b ≠ (vs.getD j undef).ownBlock → w2.heap[b]? = wr.heap[b]?) (h2 : w2.heap.size = wr.heap.size) (h3 : Below B wr w2)
    (h4 : ∀ W, (∀ g, (vs.getD j undef).ownBlock = some g → W.heap[g]? = w2.heap[g]?) → w2.heap.size ≤ W.heap.size → Calls Tryz.prog 26 #[vs.getD j undef, .int .i64 (k + lenQ ls j)] W fun e w'' => e = .returned (.int .i64 (k + lenQ ls j + (ls.getD j []).length)) ∧ w'' = W) : MkQ w w2 B vs ls k (j + 1) := by
  refine ⟨h2.trans h.size, h.bel.trans h3, fun q hq => (h1 q (hq j (by omega))).trans (h.far q fun i hi => hq i (by omega)), fun i hi W hW hs => ?_⟩
  by_cases e : i = j
  · subst e; exact h4 W hW hs
  · exact h.held i (by omega) W (fun q hq => (hW q hq).trans (h1 q (fun e2 => hap i (by omega) q hq e2.symm))) (by omega)

set_option maxHeartbeats 4000000 in
set_option maxRecDepth 1000000 in
theorem marksQ (w : World) (B : Nat) (v : Value) (vs : List Value) (ls : List (List Int)) (k : Int) (h : RQ w B v vs ls) (hap : ∀ i j, i < j → j < ls.length → Ap' (vs.getD i undef) (vs.getD j undef)) (hl : lenQ ls ls.length ≤ 1048576) (hn1 : ls.length ≤ 1048576) (hk : 0 ≤ k) (hk' : k ≤ 8388608) :
    Calls Tryz.prog 14 #[v, .int .i64 k] w fun e w' => e = .returned (.int .i64 (k + lenQ ls ls.length)) ∧ MkQ w w' B vs ls k ls.length := by
  have HCell : Hid (∀ wr j, MkQ w wr B vs ls k j → j < ls.length → ∃ g cap, v = .slice (some ⟨g, 0, none⟩) ls.length cap ∧ wr.cell? ⟨g, j, none⟩ = some (vs.getD j undef) ∧ wr.ownsRow B 3 1 (vs.getD j undef) (ls.getD j []).length ((ls.getD j []).map (Value.int .i64))) := hid fun wr j hM hj => by
    obtain ⟨g, cap, e, -, hc⟩ := h.get hj
    have ht := own_typ h.own (g := g) (by rw [e]; rfl)
    refine ⟨g, cap, e, (World.cell?_of_block (w := w) (a := ⟨g, j, none⟩) (hM.far g fun i hi => own_ne (h.each i (by omega)) ht (by decide))).trans hc, own_move (h.each j hj) fun q hq => hM.far q fun i hi e2 => hap i j hi hj q e2.symm hq⟩
  have HStep : Hid (∀ wr w2 j, MkQ w wr B vs ls k j → j < ls.length → (∀ b, some b ≠ (vs.getD j undef).ownBlock → w2.heap[b]? = wr.heap[b]?) → w2.heap.size = wr.heap.size → Below B wr w2 → _ → MkQ w w2 B vs ls k (j + 1)) := hid fun wr w2 j hM hj h1 h2 h3 h4 => hM.step (fun i hi => hap i j hi hj) h1 h2 h3 h4
  have HLe : Hid (∀ i, i ≤ ls.length → lenQ ls i ≤ 1048576) := hid fun i hi => Nat.le_trans (lenQ_le ls hi) hl
  have HLs : Hid (∀ i, lenQ ls (i + 1) = lenQ ls i + (ls.getD i []).length) := hid fun i => rfl
  obtain ⟨a, cap, rfl⟩ := h.sl
  clear h hap hl
  obtain ⟨n, hn⟩ : ∃ n, n = ls.length := ⟨_, rfl⟩
  rw [← hn] at HCell HStep HLe hn1 ⊢
  clear hn
  go_enter Tryz.func14, Tryz.ntmps14
  go_wp2
  go_loopw [1, 5] (fun u t wr => ∃ j : Nat, j ≤ n ∧ t = .int .i64 j ∧ ∃ c : Int, u = .int .i64 c ∧ 0 ≤ c ∧ c ≤ 9437184 ∧ Hid (c = k + lenQ ls j ∧ MkQ w wr B vs ls k j)) (fun _ t _ => n - (intOf t).toNat)
  case atStart => exact ⟨0, Nat.zero_le _, rfl, _, rfl, by omega, by omega, hid ⟨by show k = k + ((0 : Nat) : Int); omega, rfl, Below.refl _ _, fun _ _ => rfl, fun i hi => by omega⟩⟩
  case round =>
    obtain ⟨j, hj, rfl, c, rfl, hc0, hc1, hok⟩ := hrel
    by_cases hjn : j < n
    · have i1 : (j : Int) < (n : Int) := by omega
      obtain ⟨g, cp, e, c1, ho⟩ := HCell.out wr j hok.out.2 hjn
      simp only [Value.slice.injEq, true_and] at e
      obtain ⟨rfl, rfl⟩ := e
      have hle := HLe.out (j + 1) (by omega)
      rw [HLs.out j] at hle
      have hcj := hok.out.1
      have HK := hid (mark_heldQ wr B _ _ c ho (by omega) hc0 (by omega))
      rw [hcj] at HK
      have HST := hid (fun w2 => HStep.out wr w2 j hok.out.2 hjn)
      have hR : Hid (k + lenQ ls j + ((ls.getD j []).length : Int) = k + lenQ ls (j + 1)) := hid (by rw [HLs.out j]; omega)
      obtain ⟨ar, cr, er⟩ := own_shape ho
      have hR2 : 0 ≤ k + lenQ ls j + ((ls.getD j []).length : Int) ∧ k + lenQ ls j + ((ls.getD j []).length : Int) ≤ 9437184 := by omega
      subst hcj
      clear ho hok hle
      generalize hu : vs.getD j undef = u at *
      subst er
      go_wp2_with fail
      refine HK.out.mono ?_
      rintro e w2 ⟨rfl, h1, h2, h3, h4⟩
      have HN := hid (HST.out w2 h1 h2 h3 h4)
      clear h1 h2 h3 h4 HK HST hu
      go_wp2_with fail
      go_roundw
      case rel => exact ⟨j + 1, by omega, by go_num, _, rfl, hR2.1, hR2.2, hid ⟨hR.out, HN.out⟩⟩
      case measure => simp [intOf]; omega
    · obtain rfl : j = n := by omega
      have i1 : ¬ ((j : Int) < (j : Int)) := by omega
      go_wp2
      go_ret
      exact ⟨ret_int hok.out.1, hok.out.2⟩

set_option maxHeartbeats 4000000 in
set_option maxRecDepth 1000000 in
theorem heldsQ (W : World) (v : Value) (vs : List Value) (ls : List (List Int)) (k : Int) (hsl : ∃ a cap, v = .slice a ls.length cap) (hc : ∀ i, i < ls.length → ∃ g cap, v = .slice (some ⟨g, 0, none⟩) ls.length cap ∧ W.cell? ⟨g, i, none⟩ = some (vs.getD i undef))
    (hv : ∀ i, i < ls.length → ∃ a n cap, vs.getD i undef = .slice a n cap)
    (hh : ∀ i, i < ls.length → Calls Tryz.prog 26 #[vs.getD i undef, .int .i64 (k + lenQ ls i)] W fun e w'' => e = .returned (.int .i64 (k + lenQ ls i + (ls.getD i []).length)) ∧ w'' = W) (hl : lenQ ls ls.length ≤ 1048576) (hn1 : ls.length ≤ 1048576) (hk : 0 ≤ k) (hk' : k ≤ 8388608) :
    Calls Tryz.prog 15 #[v, .int .i64 k] W fun e w'' => e = .returned (.int .i64 (k + lenQ ls ls.length)) ∧ w'' = W := by
  have HC := hid hc
  have HH := hid hh
  have HV := hid hv
  have HLe : Hid (∀ i, i ≤ ls.length → lenQ ls i ≤ 1048576) := hid fun i hi => Nat.le_trans (lenQ_le ls hi) hl
  have HLs : Hid (∀ i, lenQ ls (i + 1) = lenQ ls i + (ls.getD i []).length) := hid fun i => rfl
  obtain ⟨a, cap, rfl⟩ := hsl
  clear hc hh hv hl
  obtain ⟨n, hn⟩ : ∃ n, n = ls.length := ⟨_, rfl⟩
  rw [← hn] at HC HH HV HLe hn1 ⊢
  clear hn
  go_enter Tryz.func15, Tryz.ntmps15
  go_wp2
  go_loop [1, 5] (fun u t => ∃ j : Nat, j ≤ n ∧ t = .int .i64 j ∧ ∃ c : Int, u = .int .i64 c ∧ 0 ≤ c ∧ c ≤ 9437184 ∧ Hid (c = k + lenQ ls j)) (fun _ t => n - (intOf t).toNat)
  case atStart => exact ⟨0, Nat.zero_le _, rfl, _, rfl, by omega, by omega, hid (by show k = k + ((0 : Nat) : Int); omega)⟩
  case round =>
    obtain ⟨j, hj, rfl, c, rfl, hc0, hc1, hok⟩ := hrel
    by_cases hjn : j < n
    · have i1 : (j : Int) < (n : Int) := by omega
      obtain ⟨g, cp, e, c1⟩ := HC.out j hjn
      simp only [Value.slice.injEq, true_and] at e
      obtain ⟨rfl, rfl⟩ := e
      have hle := HLe.out (j + 1) (by omega)
      rw [HLs.out j] at hle
      have hcj := hok.out
      have HK := hid (HH.out j hjn)
      have hR : Hid (k + lenQ ls j + ((ls.getD j []).length : Int) = k + lenQ ls (j + 1)) := hid (by rw [HLs.out j]; omega)
      have hR2 : 0 ≤ k + lenQ ls j + ((ls.getD j []).length : Int) ∧ k + lenQ ls j + ((ls.getD j []).length : Int) ≤ 9437184 := by omega
      obtain ⟨ar, nr, cr, er⟩ := HV.out j hjn
      rw [er] at HK c1
      subst hcj
      have hR3 : ¬ (k + lenQ ls j + ((ls.getD j []).length : Int) < 0) := by omega
      clear hok hle
      generalize k + lenQ ls j + ((ls.getD j []).length : Int) = z at *
      go_wp2_with fail
      refine HK.out.mono ?_
      rintro e w2 ⟨rfl, hw2⟩
      subst w2
      go_wp2_with fail
      go_round
      case rel => exact ⟨j + 1, by omega, by go_num, _, rfl, hR2.1, hR2.2, hid hR.out⟩
      case measure => simp [intOf]; omega
    · obtain rfl : j = n := by omega
      have i1 : ¬ ((j : Int) < (j : Int)) := by omega
      go_wp2
      go_ret
      exact ⟨ret_int hok.out, rfl⟩

end Go.Proofs.YtnbbbbfamlmfpaaGreat
