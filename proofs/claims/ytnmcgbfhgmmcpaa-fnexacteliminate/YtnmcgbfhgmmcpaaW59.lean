import Derived.Test.YtnmcgbfhgmmcpaaW17
import Derived.Test.YtnmcgbfhgmmcpaaW23
import Derived.Test.YtnmcgbfhgmmcpaaW38
import Derived.Test.YtnmcgbfhgmmcpaaW56
/-
  A plan's lists are marked, and the marks are found again.
-/
namespace Go.Proofs.Ytnmcgbfhgmmcpaa
open Go.RowKit

def lenS (ls : List (List Int)) : Nat → Nat
  | 0 => 0
  | j + 1 => lenS ls j + (ls.getD j []).length
theorem lenS_le (ls : List (List Int)) : ∀ {i j : Nat}, i ≤ j → lenS ls i ≤ lenS ls j
  | i, 0, h => by
    have e : i = 0 := Nat.le_zero.1 h
    subst e
    exact Nat.le_refl _
  | i, j + 1, h => by
    by_cases e : i = j + 1
    · rw [e]; exact Nat.le_refl _
    · exact Nat.le_trans (lenS_le ls (i := i) (j := j) (by omega)) (Nat.le_add_right _ _)

theorem mark_heldG (w : World) (B : Nat) (v : Value) (l : List Int) (k : Int) (h : w.ownsRow B 3 1 v l.length (l.map (Value.int .i64))) (hl : l.length ≤ 1099511627776) (hk : 0 ≤ k) (hk' : k ≤ 1099511627776) :
    Calls Try.prog 19 #[v, .int .i64 k] w fun e w' => e = .returned (.int .i64 (k + l.length)) ∧ (∀ b, some b ≠ v.ownBlock → w'.heap[b]? = w.heap[b]?) ∧ w'.heap.size = w.heap.size ∧ Below B w w' ∧
      ∀ W, (∀ g, v.ownBlock = some g → W.heap[g]? = w'.heap[g]?) → w'.heap.size ≤ W.heap.size → Calls Try.prog 80 #[v, .int .i64 k] W fun e w'' => e = .returned (.int .i64 (k + l.length)) ∧ w'' = W := by
  rcases h.2 with ⟨rfl, h2⟩ | ⟨g, cap, cur, rfl, hb', hc, hr⟩
  · rw [h2]
    refine (markIntS_nil w none 0 k).mono ?_
    rintro e w' ⟨rfl, rfl⟩
    refine ⟨by simp, fun b _ => rfl, rfl, Below.refl _ _, fun W _ _ => ?_⟩
    have := heldIntS_nil W none 0 k
    simpa using this
  · refine (markIntS_cap w g cap l k (own_ownI h) hl hk hk').mono ?_
    rintro e w' ⟨rfl, ho, hog⟩
    exact ⟨rfl, fun b hb => hog.block b (fun e => hb (by rw [e]; rfl)), hog.size, hog.below hb', fun W hW hs => heldIntS_cap W g cap l.length k (ho.move (hW g rfl) hs) hl hk hk'⟩

/-- what has been marked of the first j rows -/
structure Mkd (w wr : World) (B : Nat) (vs : List Value) (ls : List (List Int)) (k : Int) (j : Nat) : Prop where
  size : wr.heap.size = w.heap.size
  bel : Below B w wr
  far : ∀ q, (∀ i, i < j → some q ≠ (vs.getD i undef).ownBlock) → wr.heap[q]? = w.heap[q]?
  held : ∀ i, i < j → ∀ W, (∀ q, (vs.getD i undef).ownBlock = some q → W.heap[q]? = wr.heap[q]?) → wr.heap.size ≤ W.heap.size → Calls Try.prog 80 #[vs.getD i undef, .int .i64 (k + lenS ls i)] W fun e w'' => e = .returned (.int .i64 (k + lenS ls i + (ls.getD i []).length)) ∧ w'' = W

theorem Mkd.step {w wr w2 : World} {B : Nat} {vs : List Value} {ls : List (List Int)} {k : Int} {j : Nat} (h : Mkd w wr B vs ls k j) (hap : ∀ i, i < j → Ap (vs.getD i undef) (vs.getD j undef))
    (h1 : ∀ b, some b ≠ (vs.getD j undef).ownBlock → w2.heap[b]? = wr.heap[b]?) (h2 : w2.heap.size = wr.heap.size) (h3 : Below B wr w2)
    (h4 : ∀ W, (∀ g, (vs.getD j undef).ownBlock = some g → W.heap[g]? = w2.heap[g]?) → w2.heap.size ≤ W.heap.size → Calls Try.prog 80 #[vs.getD j undef, .int .i64 (k + lenS ls j)] W fun e w'' => e = .returned (.int .i64 (k + lenS ls j + (ls.getD j []).length)) ∧ w'' = W) : Mkd w w2 B vs ls k (j + 1) := by
  refine ⟨h2.trans h.size, h.bel.trans h3, fun q hq => (h1 q (hq j (by omega))).trans (h.far q fun i hi => hq i (by omega)), fun i hi W hW hs => ?_⟩
  by_cases e : i = j
  · subst e; exact h4 W hW hs
  · exact h.held i (by omega) W (fun q hq => (hW q hq).trans (h1 q (fun e2 => hap i (by omega) q hq e2.symm))) (by omega)

set_option maxHeartbeats 4000000 in
set_option maxRecDepth 1000000 in
theorem marks_rows (w : World) (B : Nat) (v : Value) (vs : List Value) (ls : List (List Int)) (k : Int) (h : RL w B v vs ls) (hap : ∀ i j, i < j → j < ls.length → Ap (vs.getD i undef) (vs.getD j undef)) (hl : lenS ls ls.length ≤ 1048576) (hn1 : ls.length ≤ 1048576) (hk : 0 ≤ k) (hk' : k ≤ 8388608) :
    Calls Try.prog 20 #[v, .int .i64 k] w fun e w' => e = .returned (.int .i64 (k + lenS ls ls.length)) ∧ Mkd w w' B vs ls k ls.length := by
  have HCell : Hid (∀ wr j, Mkd w wr B vs ls k j → j < ls.length → ∃ g cap, v = .slice (some ⟨g, 0, none⟩) ls.length cap ∧ wr.cell? ⟨g, j, none⟩ = some (vs.getD j undef) ∧ wr.ownsRow B 3 1 (vs.getD j undef) (ls.getD j []).length ((ls.getD j []).map (Value.int .i64))) := hid fun wr j hM hj => by
    obtain ⟨g, cap, e, hc, -⟩ := h.get hj
    have ht := own_typ h.own (g := g) (by rw [e]; rfl)
    refine ⟨g, cap, e, (World.cell?_of_block (w := w) (a := ⟨g, j, none⟩) (hM.far g fun i hi => own_ne (h.each i (by omega)) ht (by decide))).trans hc, own_move (h.each j hj) fun q hq => hM.far q fun i hi e2 => hap i j hi hj q e2.symm hq⟩
  have HStep : Hid (∀ wr w2 j, Mkd w wr B vs ls k j → j < ls.length → (∀ b, some b ≠ (vs.getD j undef).ownBlock → w2.heap[b]? = wr.heap[b]?) → w2.heap.size = wr.heap.size → Below B wr w2 → _ → Mkd w w2 B vs ls k (j + 1)) := hid fun wr w2 j hM hj h1 h2 h3 h4 => hM.step (fun i hi => hap i j hi hj) h1 h2 h3 h4
  have HLe : Hid (∀ i, i ≤ ls.length → lenS ls i ≤ 1048576) := hid fun i hi => Nat.le_trans (lenS_le ls hi) hl
  have HLs : Hid (∀ i, lenS ls (i + 1) = lenS ls i + (ls.getD i []).length) := hid fun i => rfl
  obtain ⟨a, cap, rfl⟩ := h.sl
  clear h hap hl
  obtain ⟨n, hn⟩ : ∃ n, n = ls.length := ⟨_, rfl⟩
  rw [← hn] at HCell HStep HLe hn1 ⊢
  clear hn
  go_enter Try.func20, Try.ntmps20
  go_wp2
  go_loopw [1, 5] (fun u t wr => ∃ j : Nat, j ≤ n ∧ t = .int .i64 j ∧ ∃ c : Int, u = .int .i64 c ∧ 0 ≤ c ∧ c ≤ 9437184 ∧ Hid (c = k + lenS ls j ∧ Mkd w wr B vs ls k j)) (fun _ t _ => n - (intOf t).toNat)
  case atStart => exact ⟨0, Nat.zero_le _, rfl, _, rfl, by omega, by omega, hid ⟨by show k = k + ((0 : Nat) : Int); omega, rfl, Below.refl _ _, fun _ _ => rfl, fun i hi => by omega⟩⟩
  case round =>
    obtain ⟨j, hj, rfl, c, rfl, hc0, hc1, hok⟩ := hrel
    by_cases hjn : j < n
    · have i1 : (j : Int) < (n : Int) := by omega
      obtain ⟨g, cp, e, c1, ho⟩ := HCell.out wr j hok.out.2 hjn
      simp only [Value.slice.injEq, true_and] at e
      obtain ⟨rfl, rfl⟩ := e
      have hle := HLe.out (j + 1) (by omega)
      rw [HLs.out j] at hle
      have hcj := hok.out.1
      have HK := hid (mark_heldG wr B _ _ c ho (by omega) hc0 (by omega))
      rw [hcj] at HK
      have HST := hid (fun w2 => HStep.out wr w2 j hok.out.2 hjn)
      have hR : Hid (k + lenS ls j + ((ls.getD j []).length : Int) = k + lenS ls (j + 1)) := hid (by rw [HLs.out j]; omega)
      obtain ⟨ar, cr, er⟩ := ownSl ho
      have hR2 : 0 ≤ k + lenS ls j + ((ls.getD j []).length : Int) ∧ k + lenS ls j + ((ls.getD j []).length : Int) ≤ 9437184 := by omega
      subst hcj
      clear ho hok hle
      generalize hu : vs.getD j undef = u at *
      subst er
      go_wp2_with fail
      refine HK.out.mono ?_
      rintro e w2 ⟨rfl, h1, h2, h3, h4⟩
      have HN := hid (HST.out w2 h1 h2 h3 h4)
      clear h1 h2 h3 h4 HK HST hu
      go_wp2_with fail
      go_roundw
      case rel => exact ⟨j + 1, by omega, by go_num, _, rfl, hR2.1, hR2.2, hid ⟨hR.out, HN.out⟩⟩
      case measure => simp [intOf]; omega
    · obtain rfl : j = n := by omega
      have i1 : ¬ ((j : Int) < (j : Int)) := by omega
      go_wp2
      go_ret
      exact ⟨ret_int hok.out.1, hok.out.2⟩

set_option maxHeartbeats 4000000 in
set_option maxRecDepth 1000000 in
theorem helds_rows (W : World) (v : Value) (vs : List Value) (ls : List (List Int)) (k : Int) (hsl : ∃ a cap, v = .slice a ls.length cap) (hc : ∀ i, i < ls.length → ∃ g cap, v = .slice (some ⟨g, 0, none⟩) ls.length cap ∧ W.cell? ⟨g, i, none⟩ = some (vs.getD i undef))
    (hv : ∀ i, i < ls.length → ∃ a n cap, vs.getD i undef = .slice a n cap)
    (hh : ∀ i, i < ls.length → Calls Try.prog 80 #[vs.getD i undef, .int .i64 (k + lenS ls i)] W fun e w'' => e = .returned (.int .i64 (k + lenS ls i + (ls.getD i []).length)) ∧ w'' = W) (hl : lenS ls ls.length ≤ 1048576) (hn1 : ls.length ≤ 1048576) (hk : 0 ≤ k) (hk' : k ≤ 8388608) :
    Calls Try.prog 79 #[v, .int .i64 k] W fun e w'' => e = .returned (.int .i64 (k + lenS ls ls.length)) ∧ w'' = W := by
  have HC := hid hc
  have HH := hid hh
  have HV := hid hv
  have HLe : Hid (∀ i, i ≤ ls.length → lenS ls i ≤ 1048576) := hid fun i hi => Nat.le_trans (lenS_le ls hi) hl
  have HLs : Hid (∀ i, lenS ls (i + 1) = lenS ls i + (ls.getD i []).length) := hid fun i => rfl
  obtain ⟨a, cap, rfl⟩ := hsl
  clear hc hh hv hl
  obtain ⟨n, hn⟩ : ∃ n, n = ls.length := ⟨_, rfl⟩
  rw [← hn] at HC HH HV HLe hn1 ⊢
  clear hn
  go_enter Try.func79, Try.ntmps79
  go_wp2
  go_loop [1, 5] (fun u t => ∃ j : Nat, j ≤ n ∧ t = .int .i64 j ∧ ∃ c : Int, u = .int .i64 c ∧ 0 ≤ c ∧ c ≤ 9437184 ∧ Hid (c = k + lenS ls j)) (fun _ t => n - (intOf t).toNat)
  case atStart => exact ⟨0, Nat.zero_le _, rfl, _, rfl, by omega, by omega, hid (by show k = k + ((0 : Nat) : Int); omega)⟩
  case round =>
    obtain ⟨j, hj, rfl, c, rfl, hc0, hc1, hok⟩ := hrel
    by_cases hjn : j < n
    · have i1 : (j : Int) < (n : Int) := by omega
      obtain ⟨g, cp, e, c1⟩ := HC.out j hjn
      simp only [Value.slice.injEq, true_and] at e
      obtain ⟨rfl, rfl⟩ := e
      have hle := HLe.out (j + 1) (by omega)
      rw [HLs.out j] at hle
      have hcj := hok.out
      have HK := hid (HH.out j hjn)
      have hR : Hid (k + lenS ls j + ((ls.getD j []).length : Int) = k + lenS ls (j + 1)) := hid (by rw [HLs.out j]; omega)
      have hR2 : 0 ≤ k + lenS ls j + ((ls.getD j []).length : Int) ∧ k + lenS ls j + ((ls.getD j []).length : Int) ≤ 9437184 := by omega
      obtain ⟨ar, nr, cr, er⟩ := HV.out j hjn
      rw [er] at HK c1
      subst hcj
      have hR3 : ¬ (k + lenS ls j + ((ls.getD j []).length : Int) < 0) := by omega
      clear hok hle
      generalize k + lenS ls j + ((ls.getD j []).length : Int) = z at *
      go_wp2_with fail
      refine HK.out.mono ?_
      rintro e w2 ⟨rfl, hw2⟩
      subst w2
      go_wp2_with fail
      go_round
      case rel => exact ⟨j + 1, by omega, by go_num, _, rfl, hR2.1, hR2.2, hid hR.out⟩
      case measure => simp [intOf]; omega
    · obtain rfl : j = n := by omega
      have i1 : ¬ ((j : Int) < (j : Int)) := by omega
      go_wp2
      go_ret
      exact ⟨ret_int hok.out, rfl⟩

end Go.Proofs.Ytnmcgbfhgmmcpaa

/-
  laws.markPlan, laws.heldPlan on a plan that a call has made.
-/
namespace Go.Proofs.Ytnmcgbfhgmmcpaa
open Go.RowKit

theorem PlS.stay {W W' : World} {B : Nat} {vB vP vH : Value} {vs : List Value} {bs : List (List Int)} {ps hs : List Int} (h : PlS W B vB vs bs vP ps vH hs) (hb : ∀ q, B ≤ q → q < W.heap.size → W'.heap[q]? = W.heap[q]?) : PlS W' B vB vs bs vP ps vH hs :=
  ⟨⟨own_move h.rl.own fun g hg => hb g (h.rl.own.lt g hg).1 (h.rl.own.lt g hg).2, h.rl.len, fun i hi => own_move (h.rl.each i hi) fun g hg => hb g ((h.rl.each i hi).lt g hg).1 ((h.rl.each i hi).lt g hg).2⟩,
    own_move h.ownP fun g hg => hb g (h.ownP.lt g hg).1 (h.ownP.lt g hg).2, own_move h.ownH fun g hg => hb g (h.ownH.lt g hg).1 (h.ownH.lt g hg).2, h.apP, h.apH, h.apPH, h.apB⟩
theorem PlS.ipl {W : World} {B : Nat} {vB vP vH vW : Value} {vs : List Value} {bs : List (List Int)} {ps hs : List Int} {ws : List (Int × Int)} (h : PlS W B vB vs bs vP ps vH hs) (hW : W.ownsRow B 28 2 vW ws.length (rcs ws)) : IPl W vB vP vH vW bs ps hs ws :=
  ⟨h.rl.issE, own_is h.ownP, own_is h.ownH, own_ir hW⟩

theorem cells6 {W W' : World} (v0 v1 v2 v3 : Value) (x y : Int) (hb : W'.heap[W.heap.size]? = (W.alloc (.cells #[v0, v1, v2, v3, .int .i64 x, .int .i64 y] 53)).heap[W.heap.size]?) :
    W'.cell? ⟨W.heap.size, 0, none⟩ = some v0 ∧ W'.cell? ⟨W.heap.size, 1, none⟩ = some v1 ∧ W'.cell? ⟨W.heap.size, 2, none⟩ = some v2 ∧ W'.cell? ⟨W.heap.size, 3, none⟩ = some v3 := by
  rw [heap_alloc_new] at hb
  refine ⟨?_, ?_, ?_, ?_⟩
  all_goals rw [cell_of_row _ _ _ _ _ _ hb]; rfl

set_option maxHeartbeats 400000 in
set_option maxRecDepth 1000000 in
theorem heldPlan_calls (W : World) (aB aP aH aW : Option Addr) (nB nP nH nW cB cP cH cW : Nat) (x y k1 k2 k3 k4 : Int) (h1 : 0 ≤ k1) (h2 : 0 ≤ k2) (h3 : 0 ≤ k3) (h4 : 0 ≤ k4)
    (c1 : ∀ W', Below W.heap.size W W' → Calls Try.prog 79 #[.slice aB nB cB, .int .i64 1] W' fun e w'' => e = .returned (.int .i64 k1) ∧ w'' = W')
    (c2 : ∀ W', Below W.heap.size W W' → Calls Try.prog 80 #[.slice aP nP cP, .int .i64 k1] W' fun e w'' => e = .returned (.int .i64 k2) ∧ w'' = W')
    (c3 : ∀ W', Below W.heap.size W W' → Calls Try.prog 80 #[.slice aH nH cH, .int .i64 k2] W' fun e w'' => e = .returned (.int .i64 k3) ∧ w'' = W')
    (c4 : ∀ W', Below W.heap.size W W' → Calls Try.prog 60 #[.slice aW nW cW, .int .i64 k3] W' fun e w'' => e = .returned (.int .i64 k4) ∧ w'' = W') :
    Calls Try.prog 31 #[.agg #[.slice aB nB cB, .slice aP nP cP, .slice aH nH cH, .slice aW nW cW, .int .i64 x, .int .i64 y], .int .i64 1] W fun e w'' => e = .returned (.int .i64 k4) ∧ Below W.heap.size W w'' := by
  have hb : Below W.heap.size W (W.alloc (.cells #[.slice aB nB cB, .slice aP nP cP, .slice aH nH cH, .slice aW nW cW, .int .i64 x, .int .i64 y] 53)) := (Below.refl _ _).alloc (Nat.le_refl _) _
  obtain ⟨d0, d1, d2, d3⟩ := cells6 (W := W) (W' := W.alloc (.cells #[.slice aB nB cB, .slice aP nP cP, .slice aH nH cH, .slice aW nW cW, .int .i64 x, .int .i64 y] 53)) (.slice aB nB cB) (.slice aP nP cP) (.slice aH nH cH) (.slice aW nW cW) x y rfl
  have K1 := hid (c1 _ hb)
  have K2 := hid (c2 _ hb)
  have K3 := hid (c3 _ hb)
  have K4 := hid (c4 _ hb)
  have HB := hid hb
  have g1 : ¬ (k1 < 0) := by omega
  have g2 : ¬ (k2 < 0) := by omega
  have g3 : ¬ (k3 < 0) := by omega
  have g4 : ¬ (k4 < 0) := by omega
  clear c1 c2 c3 c4 hb
  obtain ⟨W1, hW1⟩ : ∃ W1, W1 = W.alloc (.cells #[.slice aB nB cB, .slice aP nP cP, .slice aH nH cH, .slice aW nW cW, .int .i64 x, .int .i64 y] 53) := ⟨_, rfl⟩
  rw [← hW1] at K1 K2 K3 K4 HB d0 d1 d2 d3
  go_enter Try.func31, Try.ntmps31
  go_upto_region 1 with fail
  rw [← hW1]
  clear hW1
  go_wp2_with fail
  refine K1.out.mono ?_
  rintro e w2 ⟨rfl, hw⟩
  subst w2
  go_wp2_with fail
  refine K2.out.mono ?_
  rintro e w2 ⟨rfl, hw⟩
  subst w2
  go_wp2_with fail
  refine K3.out.mono ?_
  rintro e w2 ⟨rfl, hw⟩
  subst w2
  go_wp2_with fail
  refine K4.out.mono ?_
  rintro e w2 ⟨rfl, hw⟩
  subst w2
  go_wp2_with fail
  go_ret
  exact ⟨rfl, HB.out⟩

set_option maxHeartbeats 800000 in
set_option maxRecDepth 1000000 in
theorem plan_marks (w : World) (B : Nat) (vB vP vH vW : Value) (vs : List Value) (bs : List (List Int)) (ps hs : List Int) (ws : List (Int × Int)) (x y : Int) (h : PlS w B vB vs bs vP ps vH hs) (hW : w.ownsRow B 28 2 vW ws.length (rcs ws)) (hB : B ≤ w.heap.size)
    (h1 : lenS bs bs.length ≤ 1048576) (h2 : bs.length ≤ 1048576) (h3 : ps.length ≤ 1048576) (h4 : hs.length ≤ 1048576) (h5 : ws.length ≤ 1048576) :
    Calls Try.prog 30 #[.agg #[vB, vP, vH, vW, .int .i64 x, .int .i64 y], .int .i64 1] w fun e w' => ∃ m : Int, 0 ≤ m ∧ e = .returned (.int .i64 m) ∧ Below B w w' ∧ (∀ (q : Nat) (cur : Array Value) (t : TypeId), w.heap[q]? = some (Obj.cells cur t (0, 0)) → t ≠ 3 → t ≠ 28 → w'.heap[q]? = w.heap[q]?) ∧
      Calls Try.prog 31 #[.agg #[vB, vP, vH, vW, .int .i64 x, .int .i64 y], .int .i64 1] w' fun e w'' => e = .returned (.int .i64 m) ∧ Below w'.heap.size w' w'' := by
  obtain ⟨aB, cB, eB⟩ := h.rl.sl
  obtain ⟨aP, cP, eP⟩ := ownSl h.ownP
  obtain ⟨aH, cH, eH⟩ := ownSl h.ownH
  obtain ⟨aW, cW, eW⟩ := ownSl hW
  subst eB eP eH eW
  obtain ⟨W1, hW1⟩ : ∃ W1, W1 = w.alloc (.cells #[.slice aB bs.length cB, .slice aP ps.length cP, .slice aH hs.length cH, .slice aW ws.length cW, .int .i64 x, .int .i64 y] 53) := ⟨_, rfl⟩
  have hb1 : Below w.heap.size w W1 := by rw [hW1]; exact (Below.refl _ _).alloc (Nat.le_refl _) _
  have HB1 := hid hb1
  have HP1 := hid (h.below hb1)
  have HR1 := hid (own_below hW hb1)
  have HX1 : Hid (W1.heap[w.heap.size]? = some (.cells #[.slice aB bs.length cB, .slice aP ps.length cP, .slice aH hs.length cH, .slice aW ws.length cW, .int .i64 x, .int .i64 y] 53 (0, 0))) := hid (by rw [hW1]; exact heap_alloc_new _ _)
  have d0 : W1.cell? ⟨w.heap.size, 0, none⟩ = some (.slice aB bs.length cB) := by rw [cell_of_row _ _ _ _ _ _ HX1.out]; rfl
  have K1 := hid (marks_rows W1 B _ vs bs 1 HP1.out.rl HP1.out.apB h1 h2 (by omega) (by omega))
  have HFr : Hid (∀ (q : Nat) (cur : Array Value) (t : TypeId), w.heap[q]? = some (Obj.cells cur t (0, 0)) → W1.heap[q]? = some (Obj.cells cur t (0, 0))) := hid fun q cur e hq => (hb1.block q (lt_of_heap hq)).trans hq
  have HBB : Hid (Below B w W1) := hid (hb1.mono hB)
  clear hb1 h hW
  obtain ⟨L, hL⟩ : ∃ L : Nat, L = lenS bs bs.length := ⟨_, rfl⟩
  rw [← hL] at K1 h1
  go_enter Try.func30, Try.ntmps30
  go_upto_region 1 with fail
  rw [← hW1]
  clear hW1
  go_wp2_with fail
  refine K1.out.mono ?_
  rintro e w2 ⟨rfl, hM⟩
  have HP2 : Hid (w2.ownsRow B 3 1 (.slice aP ps.length cP) ps.length (ps.map (Value.int .i64))) := hid (own_move HP1.out.ownP fun q hq => hM.far q fun i hi e => HP1.out.apP i hi q e.symm hq)
  have HH2 : Hid (w2.ownsRow B 3 1 (.slice aH hs.length cH) hs.length (hs.map (Value.int .i64))) := hid (own_move HP1.out.ownH fun q hq => hM.far q fun i hi e => HP1.out.apH i hi q e.symm hq)
  have HR2 : Hid (w2.ownsRow B 28 2 (.slice aW ws.length cW) ws.length (rcs ws)) := hid (own_move HR1.out fun q hq => hM.far q fun i hi => own_ne (HP1.out.rl.each i hi) (own_typ HR1.out hq) (by decide))
  have HX2 : Hid (w2.heap[w.heap.size]? = some (.cells #[.slice aB bs.length cB, .slice aP ps.length cP, .slice aH hs.length cH, .slice aW ws.length cW, .int .i64 x, .int .i64 y] 53 (0, 0))) := hid ((hM.far _ fun i hi => own_ne (HP1.out.rl.each i hi) ⟨_, HX1.out⟩ (by decide)).trans HX1.out)
  have d1 : w2.cell? ⟨w.heap.size, 1, none⟩ = some (.slice aP ps.length cP) := by rw [cell_of_row _ _ _ _ _ _ HX2.out]; rfl
  have HM := hid hM
  obtain ⟨s1, hs1⟩ : ∃ s : Int, s = 1 + (L : Int) := ⟨_, rfl⟩
  rw [← hs1]
  have K2 := hid (mark_heldG w2 B _ ps s1 HP2.out (by omega) (by omega) (by omega))
  have r1 : 0 ≤ s1 ∧ s1 ≤ 2000000 := by omega
  have HS1 := hid hs1
  clear hM K1 d0 hs1
  go_wp2_with fail
  refine K2.out.mono ?_
  rintro e w3 ⟨rfl, hf3, hz3, hb3, hk3⟩
  have HH3 : Hid (w3.ownsRow B 3 1 (.slice aH hs.length cH) hs.length (hs.map (Value.int .i64))) := hid (own_move HH2.out fun q hq => hf3 q fun e => HP1.out.apPH q e.symm hq)
  have HR3 : Hid (w3.ownsRow B 28 2 (.slice aW ws.length cW) ws.length (rcs ws)) := hid (own_move HR2.out fun q hq => hf3 q (own_ne HP2.out (own_typ HR2.out hq) (by decide)))
  have HX3 : Hid (w3.heap[w.heap.size]? = some (.cells #[.slice aB bs.length cB, .slice aP ps.length cP, .slice aH hs.length cH, .slice aW ws.length cW, .int .i64 x, .int .i64 y] 53 (0, 0))) := hid ((hf3 _ (own_ne HP2.out ⟨_, HX2.out⟩ (by decide))).trans HX2.out)
  have d2 : w3.cell? ⟨w.heap.size, 2, none⟩ = some (.slice aH hs.length cH) := by rw [cell_of_row _ _ _ _ _ _ HX3.out]; rfl
  have HF3 := hid hf3
  have HK3 := hid hk3
  have HB3 := hid hb3
  obtain ⟨s2, hs2⟩ : ∃ s : Int, s = s1 + (ps.length : Int) := ⟨_, rfl⟩
  rw [← hs2] at HK3 ⊢
  have K3 := hid (mark_heldG w3 B _ hs s2 HH3.out (by omega) (by omega) (by omega))
  have r2 : 0 ≤ s2 ∧ s2 ≤ 4000000 := by omega
  have HS2 := hid hs2
  have HZ3 := hid hz3
  clear hf3 hk3 hb3 K2 d1 hs2 hz3
  go_wp2_with fail
  refine K3.out.mono ?_
  rintro e w4 ⟨rfl, hf4, hz4, hb4, hk4⟩
  have HR4 : Hid (w4.ownsRow B 28 2 (.slice aW ws.length cW) ws.length (rcs ws)) := hid (own_move HR3.out fun q hq => hf4 q (own_ne HH3.out (own_typ HR3.out hq) (by decide)))
  have HX4 : Hid (w4.heap[w.heap.size]? = some (.cells #[.slice aB bs.length cB, .slice aP ps.length cP, .slice aH hs.length cH, .slice aW ws.length cW, .int .i64 x, .int .i64 y] 53 (0, 0))) := hid ((hf4 _ (own_ne HH3.out ⟨_, HX3.out⟩ (by decide))).trans HX3.out)
  have d3 : w4.cell? ⟨w.heap.size, 3, none⟩ = some (.slice aW ws.length cW) := by rw [cell_of_row _ _ _ _ _ _ HX4.out]; rfl
  have HF4 := hid hf4
  have HK4 := hid hk4
  have HB4 := hid hb4
  obtain ⟨s3, hs3⟩ : ∃ s : Int, s = s2 + (hs.length : Int) := ⟨_, rfl⟩
  rw [← hs3] at HK4 ⊢
  have K4 := hid (mark_heldR w4 B _ ws s3 HR4.out (by omega) (by omega) (by omega))
  have r3 : 0 ≤ s3 ∧ s3 ≤ 6000000 := by omega
  have HS3 := hid hs3
  have HZ4 := hid hz4
  clear hf4 hk4 hb4 K3 d2 hs3 hz4
  go_wp2_with fail
  refine K4.out.mono ?_
  rintro e w5 ⟨rfl, hf5, hz5, hb5, hk5⟩
  have HF5 := hid hf5
  have HK5 := hid hk5
  have HB5 := hid hb5
  obtain ⟨s4, hs4⟩ : ∃ s : Int, s = s3 + 2 * (ws.length : Int) := ⟨_, rfl⟩
  rw [← hs4] at HK5 ⊢
  have r4 : 0 ≤ s4 := by omega
  have HZ5 := hid hz5
  clear hf5 hk5 hb5 K4 d3 hs4 hz5
  go_wp2_with fail
  go_ret
  have hM := HM.out
  have hz3 := HZ3.out
  have hz4 := HZ4.out
  have hz5 := HZ5.out
  have t5 : ∀ (q : Nat) (cur : Array Value) (e : TypeId), W1.heap[q]? = some (Obj.cells cur e (0, 0)) → e ≠ 3 → e ≠ 28 → w5.heap[q]? = some (Obj.cells cur e (0, 0)) := fun q cur e hq n1 n2 => by
    have a2 : w2.heap[q]? = some (.cells cur e (0, 0)) := (hM.far q fun i hi => own_ne (HP1.out.rl.each i hi) ⟨_, hq⟩ (Ne.symm n1)).trans hq
    have a3 : w3.heap[q]? = some (.cells cur e (0, 0)) := (HF3.out q (own_ne HP2.out ⟨_, a2⟩ (Ne.symm n1))).trans a2
    have a4 : w4.heap[q]? = some (.cells cur e (0, 0)) := (HF4.out q (own_ne HH3.out ⟨_, a3⟩ (Ne.symm n1))).trans a3
    exact (HF5.out q (own_ne HR4.out ⟨_, a4⟩ (Ne.symm n2))).trans a4
  -- what stands of the marks in the end
  have k5 : ∀ q, (Value.slice aH hs.length cH).ownBlock = some q → w5.heap[q]? = w4.heap[q]? := fun q hq => HF5.out q (fun e => own_ne HH3.out (own_typ HR3.out e.symm) (by decide) hq.symm)
  have k4 : ∀ q, (Value.slice aP ps.length cP).ownBlock = some q → w5.heap[q]? = w3.heap[q]? := fun q hq => (HF5.out q (fun e => own_ne HP2.out (own_typ HR2.out e.symm) (by decide) hq.symm)).trans (HF4.out q fun e => HP1.out.apPH q hq e.symm)
  have k3 : ∀ i, i < bs.length → ∀ q, (vs.getD i undef).ownBlock = some q → w5.heap[q]? = w2.heap[q]? := fun i hi q hq =>
    ((HF5.out q (fun e => own_ne (HP1.out.rl.each i hi) (own_typ HR1.out e.symm) (by decide) hq.symm)).trans (HF4.out q fun e => HP1.out.apH i hi q hq e.symm)).trans (HF3.out q fun e => HP1.out.apP i hi q hq e.symm)
  have hsz : w5.heap.size = w2.heap.size := hz5.trans (hz4.trans hz3)
  refine ⟨s4, by omega, rfl, ((((HBB.out.trans hM.bel).trans HB3.out).trans HB4.out).trans HB5.out), fun q cur e hq n1 n2 => (t5 q cur e (HFr.out q cur e hq) n1 n2).trans hq.symm, ?_⟩
  refine heldPlan_calls w5 aB aP aH aW _ _ _ _ cB cP cH cW x y s1 s2 s3 s4 (by omega) (by omega) (by omega) (by omega) (fun W' hW' => ?_) (fun W' hW' => HK3.out W' (fun q hq => (hW'.block q (by rw [hsz]; exact (HP2.out.lt q hq).2)).trans (k4 q hq)) (by have := hW'.size; omega)) (fun W' hW' => HK4.out W' (fun q hq => (hW'.block q (by rw [hsz]; have := (HH2.out.lt q hq).2; exact this)).trans (k5 q hq)) (by have := hW'.size; omega)) (fun W' hW' => HK5.out W' (fun q hq => hW'.block q (by rw [hz5]; exact (HR4.out.lt q hq).2)) hW'.size)
  rw [HS1.out, hL]
  refine helds_rows W' _ vs bs 1 ⟨_, _, rfl⟩ (fun i hi => ?_) (fun i hi => ?_) (fun i hi => hM.held i hi W' (fun q hq => (hW'.block q (by rw [hsz, hM.size]; exact ((HP1.out.rl.each i hi).lt q hq).2)).trans (k3 i hi q hq)) (by have := hW'.size; omega)) (by omega) h2 (by omega) (by omega)
  · obtain ⟨g, cap, e, hc, -⟩ := HP1.out.rl.get hi
    refine ⟨g, cap, e, ?_⟩
    obtain ⟨cur, ht⟩ := own_typ HP1.out.rl.own (g := g) (by rw [e]; rfl)
    have h5' := t5 g cur _ ht (by decide) (by decide)
    exact ((World.cell?_of_block (w := w5) (a := ⟨g, i, none⟩) (hW'.block g (lt_of_heap h5'))).trans (World.cell?_of_block (w := W1) (a := ⟨g, i, none⟩) (h5'.trans ht.symm))).trans hc
  · obtain ⟨a, cap, e⟩ := ownSl (HP1.out.rl.each i hi)
    exact ⟨_, _, _, e⟩

end Go.Proofs.Ytnmcgbfhgmmcpaa
