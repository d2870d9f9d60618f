import Derived.Test.YtcgboccdffgkfaaDoorPa05
import Derived.Test.YtcgboccdffgkfaaDoorPa34
/-
  Rows and a table's lists are marked, and the marks are found again.
-/
namespace Go.Proofs.YtcgboccdffgkfaaDoor
open Go.RowKit

def lenR (ls : List (List Int)) : Nat → Nat
  | 0 => 0
  | j + 1 => lenR ls j + (ls.getD j []).length
theorem lenR_le (ls : List (List Int)) : ∀ {i j : Nat}, i ≤ j → lenR ls i ≤ lenR ls j
  | i, 0, h => by
    have e : i = 0 := Nat.le_zero.1 h
    subst e
    exact Nat.le_refl _
  | i, j + 1, h => by
    by_cases e : i = j + 1
    · rw [e]; exact Nat.le_refl _
    · exact Nat.le_trans (lenR_le ls (i := i) (j := j) (by omega)) (Nat.le_add_right _ _)

theorem mark_heldR (w : World) (B : Nat) (v : Value) (l : List Int) (k : Int) (h : w.ownsRow B 3 1 v l.length (l.map (Value.int .i64))) (hl : l.length ≤ 1099511627776) (hk : 0 ≤ k) (hk' : k ≤ 1099511627776) :
    Calls Tryd.prog 43 #[v, .int .i64 k] w fun e w' => e = .returned (.int .i64 (k + l.length)) ∧ (∀ b, some b ≠ v.ownBlock → w'.heap[b]? = w.heap[b]?) ∧ w'.heap.size = w.heap.size ∧ Below B w w' ∧
      ∀ W, (∀ g, v.ownBlock = some g → W.heap[g]? = w'.heap[g]?) → w'.heap.size ≤ W.heap.size → Calls Tryd.prog 45 #[v, .int .i64 k] W fun e w'' => e = .returned (.int .i64 (k + l.length)) ∧ w'' = W := by
  rcases h.2 with ⟨rfl, h2⟩ | ⟨g, cap, cur, rfl, hb', hc, hr⟩
  · rw [h2]
    refine (markIntS_nil w none 0 k).mono ?_
    rintro e w' ⟨rfl, rfl⟩
    refine ⟨by simp, fun b _ => rfl, rfl, Below.refl _ _, fun W _ _ => ?_⟩
    have := heldIntS_nil W none 0 k
    simpa using this
  · refine (markIntS_cap w g cap l k (own_ownI h) hl hk hk').mono ?_
    rintro e w' ⟨rfl, ho, hog⟩
    exact ⟨rfl, fun b hb => hog.block b (fun e => hb (by rw [e]; rfl)), hog.size, hog.below hb', fun W hW hs => heldIntS_cap W g cap l.length k (ho.move (hW g rfl) hs) hl hk hk'⟩

/-- what has been marked of the first j rows -/
structure MkR (w wr : World) (B : Nat) (vs : List Value) (ls : List (List Int)) (k : Int) (j : Nat) : Prop where
  size : wr.heap.size = w.heap.size
  bel : Below B w wr
  far : ∀ q, (∀ i, i < j → some q ≠ (vs.getD i undef).ownBlock) → wr.heap[q]? = w.heap[q]?
  held : ∀ i, i < j → ∀ W, (∀ q, (vs.getD i undef).ownBlock = some q → W.heap[q]? = wr.heap[q]?) → wr.heap.size ≤ W.heap.size → Calls Tryd.prog 45 #[vs.getD i undef, .int .i64 (k + lenR ls i)] W fun e w'' => e = .returned (.int .i64 (k + lenR ls i + (ls.getD i []).length)) ∧ w'' = W

theorem MkR.step {w wr w2 : World} {B : Nat} {vs : List Value} {ls : List (List Int)} {k : Int} {j : Nat} (h : MkR w wr B vs ls k j) (hap : ∀ i, i < j → ApR (vs.getD i undef) (vs.getD j undef))
    (h1 : ∀ b, some b ≠ (vs.getD j undef).ownBlock → w2.heap[b]? = wr.heap[b]?) (h2 : w2.heap.size = wr.heap.size) (h3 : Below B wr w2)
    (h4 : ∀ W, (∀ g, (vs.getD j undef).ownBlock = some g → W.heap[g]? = w2.heap[g]?) → w2.heap.size ≤ W.heap.size → Calls Tryd.prog 45 #[vs.getD j undef, .int .i64 (k + lenR ls j)] W fun e w'' => e = .returned (.int .i64 (k + lenR ls j + (ls.getD j []).length)) ∧ w'' = W) : MkR w w2 B vs ls k (j + 1) := by
  refine ⟨h2.trans h.size, h.bel.trans h3, fun q hq => (h1 q (hq j (by omega))).trans (h.far q fun i hi => hq i (by omega)), fun i hi W hW hs => ?_⟩
  by_cases e : i = j
  · subst e; exact h4 W hW hs
  · exact h.held i (by omega) W (fun q hq => (hW q hq).trans (h1 q (fun e2 => hap i (by omega) q hq e2.symm))) (by omega)

set_option maxHeartbeats 4000000 in
set_option maxRecDepth 1000000 in
theorem marksR (w : World) (B : Nat) (v : Value) (vs : List Value) (ls : List (List Int)) (k : Int) (h : RQ w B v vs ls) (hap : ∀ i j, i < j → j < ls.length → ApR (vs.getD i undef) (vs.getD j undef)) (hl : lenR ls ls.length ≤ 1048576) (hn1 : ls.length ≤ 1048576) (hk : 0 ≤ k) (hk' : k ≤ 8388608) :
    Calls Tryd.prog 42 #[v, .int .i64 k] w fun e w' => e = .returned (.int .i64 (k + lenR ls ls.length)) ∧ MkR w w' B vs ls k ls.length := by
  have HCell : Hid (∀ wr j, MkR w wr B vs ls k j → j < ls.length → ∃ g cap, v = .slice (some ⟨g, 0, none⟩) ls.length cap ∧ wr.cell? ⟨g, j, none⟩ = some (vs.getD j undef) ∧ wr.ownsRow B 3 1 (vs.getD j undef) (ls.getD j []).length ((ls.getD j []).map (Value.int .i64))) := hid fun wr j hM hj => by
    obtain ⟨g, cap, e, -, hc⟩ := h.get hj
    have ht := own_typ h.own (g := g) (by rw [e]; rfl)
    refine ⟨g, cap, e, (World.cell?_of_block (w := w) (a := ⟨g, j, none⟩) (hM.far g fun i hi => own_ne (h.each i (by omega)) ht (by decide))).trans hc, own_move (h.each j hj) fun q hq => hM.far q fun i hi e2 => hap i j hi hj q e2.symm hq⟩
  have HStep : Hid (∀ wr w2 j, MkR w wr B vs ls k j → j < ls.length → (∀ b, some b ≠ (vs.getD j undef).ownBlock → w2.heap[b]? = wr.heap[b]?) → w2.heap.size = wr.heap.size → Below B wr w2 → _ → MkR w w2 B vs ls k (j + 1)) := hid fun wr w2 j hM hj h1 h2 h3 h4 => hM.step (fun i hi => hap i j hi hj) h1 h2 h3 h4
  have HLe : Hid (∀ i, i ≤ ls.length → lenR ls i ≤ 1048576) := hid fun i hi => Nat.le_trans (lenR_le ls hi) hl
  have HLs : Hid (∀ i, lenR ls (i + 1) = lenR ls i + (ls.getD i []).length) := hid fun i => rfl
  obtain ⟨a, cap, rfl⟩ := own_shapeR h.own
  clear h hap hl
  obtain ⟨n, hn⟩ : ∃ n, n = ls.length := ⟨_, rfl⟩
  rw [← hn] at HCell HStep HLe hn1 ⊢
  clear hn
  go_enter Tryd.func42, Tryd.ntmps42
  go_wp2
  go_loopw [1, 5] (fun u t wr => ∃ j : Nat, j ≤ n ∧ t = .int .i64 j ∧ ∃ c : Int, u = .int .i64 c ∧ 0 ≤ c ∧ c ≤ 9437184 ∧ Hid (c = k + lenR ls j ∧ MkR w wr B vs ls k j)) (fun _ t _ => n - (intOf t).toNat)
  case atStart => exact ⟨0, Nat.zero_le _, rfl, _, rfl, by omega, by omega, hid ⟨by show k = k + ((0 : Nat) : Int); omega, rfl, Below.refl _ _, fun _ _ => rfl, fun i hi => by omega⟩⟩
  case round =>
    obtain ⟨j, hj, rfl, c, rfl, hc0, hc1, hok⟩ := hrel
    by_cases hjn : j < n
    · have i1 : (j : Int) < (n : Int) := by omega
      obtain ⟨g, cp, e, c1, ho⟩ := HCell.out wr j hok.out.2 hjn
      simp only [Value.slice.injEq, true_and] at e
      obtain ⟨rfl, rfl⟩ := e
      have hle := HLe.out (j + 1) (by omega)
      rw [HLs.out j] at hle
      have hcj := hok.out.1
      have HK := hid (mark_heldR wr B _ _ c ho (by omega) hc0 (by omega))
      rw [hcj] at HK
      have HST := hid (fun w2 => HStep.out wr w2 j hok.out.2 hjn)
      have hR : Hid (k + lenR ls j + ((ls.getD j []).length : Int) = k + lenR ls (j + 1)) := hid (by rw [HLs.out j]; omega)
      obtain ⟨ar, cr, er⟩ := own_shapeR ho
      have hR2 : 0 ≤ k + lenR ls j + ((ls.getD j []).length : Int) ∧ k + lenR ls j + ((ls.getD j []).length : Int) ≤ 9437184 := by omega
      subst hcj
      clear ho hok hle
      generalize hu : vs.getD j undef = u at *
      subst er
      go_wp2_with fail
      refine HK.out.mono ?_
      rintro e w2 ⟨rfl, h1, h2, h3, h4⟩
      have HN := hid (HST.out w2 h1 h2 h3 h4)
      clear h1 h2 h3 h4 HK HST hu
      go_wp2_with fail
      go_roundw
      case rel => exact ⟨j + 1, by omega, by go_num, _, rfl, hR2.1, hR2.2, hid ⟨hR.out, HN.out⟩⟩
      case measure => simp [intOf]; omega
    · obtain rfl : j = n := by omega
      have i1 : ¬ ((j : Int) < (j : Int)) := by omega
      go_wp2
      go_ret
      exact ⟨ret_int hok.out.1, hok.out.2⟩

set_option maxHeartbeats 4000000 in
set_option maxRecDepth 1000000 in
theorem heldsR (W : World) (v : Value) (vs : List Value) (ls : List (List Int)) (k : Int) (hsl : ∃ a cap, v = .slice a ls.length cap) (hc : ∀ i, i < ls.length → ∃ g cap, v = .slice (some ⟨g, 0, none⟩) ls.length cap ∧ W.cell? ⟨g, i, none⟩ = some (vs.getD i undef))
    (hv : ∀ i, i < ls.length → ∃ a n cap, vs.getD i undef = .slice a n cap)
    (hh : ∀ i, i < ls.length → Calls Tryd.prog 45 #[vs.getD i undef, .int .i64 (k + lenR ls i)] W fun e w'' => e = .returned (.int .i64 (k + lenR ls i + (ls.getD i []).length)) ∧ w'' = W) (hl : lenR ls ls.length ≤ 1048576) (hn1 : ls.length ≤ 1048576) (hk : 0 ≤ k) (hk' : k ≤ 8388608) :
    Calls Tryd.prog 44 #[v, .int .i64 k] W fun e w'' => e = .returned (.int .i64 (k + lenR ls ls.length)) ∧ w'' = W := by
  have HC := hid hc
  have HH := hid hh
  have HV := hid hv
  have HLe : Hid (∀ i, i ≤ ls.length → lenR ls i ≤ 1048576) := hid fun i hi => Nat.le_trans (lenR_le ls hi) hl
  have HLs : Hid (∀ i, lenR ls (i + 1) = lenR ls i + (ls.getD i []).length) := hid fun i => rfl
  obtain ⟨a, cap, rfl⟩ := hsl
  clear hc hh hv hl
  obtain ⟨n, hn⟩ : ∃ n, n = ls.length := ⟨_, rfl⟩
  rw [← hn] at HC HH HV HLe hn1 ⊢
  clear hn
  go_enter Tryd.func44, Tryd.ntmps44
  go_wp2
  go_loop [1, 5] (fun u t => ∃ j : Nat, j ≤ n ∧ t = .int .i64 j ∧ ∃ c : Int, u = .int .i64 c ∧ 0 ≤ c ∧ c ≤ 9437184 ∧ Hid (c = k + lenR ls j)) (fun _ t => n - (intOf t).toNat)
  case atStart => exact ⟨0, Nat.zero_le _, rfl, _, rfl, by omega, by omega, hid (by show k = k + ((0 : Nat) : Int); omega)⟩
  case round =>
    obtain ⟨j, hj, rfl, c, rfl, hc0, hc1, hok⟩ := hrel
    by_cases hjn : j < n
    · have i1 : (j : Int) < (n : Int) := by omega
      obtain ⟨g, cp, e, c1⟩ := HC.out j hjn
      simp only [Value.slice.injEq, true_and] at e
      obtain ⟨rfl, rfl⟩ := e
      have hle := HLe.out (j + 1) (by omega)
      rw [HLs.out j] at hle
      have hcj := hok.out
      have HK := hid (HH.out j hjn)
      have hR : Hid (k + lenR ls j + ((ls.getD j []).length : Int) = k + lenR ls (j + 1)) := hid (by rw [HLs.out j]; omega)
      have hR2 : 0 ≤ k + lenR ls j + ((ls.getD j []).length : Int) ∧ k + lenR ls j + ((ls.getD j []).length : Int) ≤ 9437184 := by omega
      obtain ⟨ar, nr, cr, er⟩ := HV.out j hjn
      rw [er] at HK c1
      subst hcj
      have hR3 : ¬ (k + lenR ls j + ((ls.getD j []).length : Int) < 0) := by omega
      clear hok hle
      generalize k + lenR ls j + ((ls.getD j []).length : Int) = z at *
      go_wp2_with fail
      refine HK.out.mono ?_
      rintro e w2 ⟨rfl, hw2⟩
      subst w2
      go_wp2_with fail
      go_round
      case rel => exact ⟨j + 1, by omega, by go_num, _, rfl, hR2.1, hR2.2, hid hR.out⟩
      case measure => simp [intOf]; omega
    · obtain rfl : j = n := by omega
      have i1 : ¬ ((j : Int) < (j : Int)) := by omega
      go_wp2
      go_ret
      exact ⟨ret_int hok.out, rfl⟩

end Go.Proofs.YtcgboccdffgkfaaDoor
