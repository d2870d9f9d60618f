import Derived.Test.YtpdloenmplafiaaV16
import Derived.Test.YtpdloenmplafiaaV24
import Derived.Test.YtpdloenmplafiaaV27
/-
  Rows and a table's lists are marked, and the marks are found again.
-/
namespace Go.Proofs.Ytpdloenmplafiaa
open Go.RowKit

def lenQ (ls : List (List Int)) : Nat → Nat
  | 0 => 0
  | j + 1 => lenQ ls j + (ls.getD j []).length
theorem lenQ_le (ls : List (List Int)) : ∀ {i j : Nat}, i ≤ j → lenQ ls i ≤ lenQ ls j
  | i, 0, h => by
    have e : i = 0 := Nat.le_zero.1 h
    subst e
    exact Nat.le_refl _
  | i, j + 1, h => by
    by_cases e : i = j + 1
    · rw [e]; exact Nat.le_refl _
    · exact Nat.le_trans (lenQ_le ls (i := i) (j := j) (by omega)) (Nat.le_add_right _ _)

theorem mark_heldQ (w : World) (B : Nat) (v : Value) (l : List Int) (k : Int) (h : w.ownsRow B 3 1 v l.length (l.map (Value.int .i64))) (hl : l.length ≤ 1099511627776) (hk : 0 ≤ k) (hk' : k ≤ 1099511627776) :
    Calls Try.prog 16 #[v, .int .i64 k] w fun e w' => e = .returned (.int .i64 (k + l.length)) ∧ (∀ b, some b ≠ v.ownBlock → w'.heap[b]? = w.heap[b]?) ∧ w'.heap.size = w.heap.size ∧ Below B w w' ∧
      ∀ W, (∀ g, v.ownBlock = some g → W.heap[g]? = w'.heap[g]?) → w'.heap.size ≤ W.heap.size → Calls Try.prog 75 #[v, .int .i64 k] W fun e w'' => e = .returned (.int .i64 (k + l.length)) ∧ w'' = W := by
  rcases h.2 with ⟨rfl, h2⟩ | ⟨g, cap, cur, rfl, hb', hc, hr⟩
  · rw [h2]
    refine (markIntS_nil w none 0 k).mono ?_
    rintro e w' ⟨rfl, rfl⟩
    refine ⟨by simp, fun b _ => rfl, rfl, Below.refl _ _, fun W _ _ => ?_⟩
    have := heldIntS_nil W none 0 k
    simpa using this
  · refine (markIntS_cap w g cap l k (own_ownI h) hl hk hk').mono ?_
    rintro e w' ⟨rfl, ho, hog⟩
    exact ⟨rfl, fun b hb => hog.block b (fun e => hb (by rw [e]; rfl)), hog.size, hog.below hb', fun W hW hs => heldIntS_cap W g cap l.length k (ho.move (hW g rfl) hs) hl hk hk'⟩

/-- what has been marked of the first j rows -/
structure MkQ (w wr : World) (B : Nat) (vs : List Value) (ls : List (List Int)) (k : Int) (j : Nat) : Prop where
  size : wr.heap.size = w.heap.size
  bel : Below B w wr
  far : ∀ q, (∀ i, i < j → some q ≠ (vs.getD i undef).ownBlock) → wr.heap[q]? = w.heap[q]?
  held : ∀ i, i < j → ∀ W, (∀ q, (vs.getD i undef).ownBlock = some q → W.heap[q]? = wr.heap[q]?) → wr.heap.size ≤ W.heap.size → Calls Try.prog 75 #[vs.getD i undef, .int .i64 (k + lenQ ls i)] W fun e w'' => e = .returned (.int .i64 (k + lenQ ls i + (ls.getD i []).length)) ∧ w'' = W

theorem MkQ.step {w wr w2 : World} {B : Nat} {vs : List Value} {ls : List (List Int)} {k : Int} {j : Nat} (h : MkQ w wr B vs ls k j) (hap : ∀ i, i < j → Ap' (vs.getD i undef) (vs.getD j undef))
    (h1 : ∀ b, some b ≠ (vs.getD j undef).ownBlock → w2.heap[b]? = wr.heap[b]?) (h2 : w2.heap.size = wr.heap.size) (h3 : Below B wr w2)
    (h4 : ∀ W, (∀ g, (vs.getD j undef).ownBlock = some g → W.heap[g]? = w2.heap[g]?) → w2.heap.size ≤ W.heap.size → Calls Try.prog 75 #[vs.getD j undef, .int .i64 (k + lenQ ls j)] W fun e w'' => e = .returned (.int .i64 (k + lenQ ls j + (ls.getD j []).length)) ∧ w'' = W) : MkQ w w2 B vs ls k (j + 1) := by
  refine ⟨h2.trans h.size, h.bel.trans h3, fun q hq => (h1 q (hq j (by omega))).trans (h.far q fun i hi => hq i (by omega)), fun i hi W hW hs => ?_⟩
  by_cases e : i = j
  · subst e; exact h4 W hW hs
  · exact h.held i (by omega) W (fun q hq => (hW q hq).trans (h1 q (fun e2 => hap i (by omega) q hq e2.symm))) (by omega)

set_option maxHeartbeats 4000000 in
set_option maxRecDepth 1000000 in
theorem marksQ (w : World) (B : Nat) (v : Value) (vs : List Value) (ls : List (List Int)) (k : Int) (h : RQ w B v vs ls) (hap : ∀ i j, i < j → j < ls.length → Ap' (vs.getD i undef) (vs.getD j undef)) (hl : lenQ ls ls.length ≤ 1048576) (hn1 : ls.length ≤ 1048576) (hk : 0 ≤ k) (hk' : k ≤ 8388608) :
    Calls Try.prog 17 #[v, .int .i64 k] w fun e w' => e = .returned (.int .i64 (k + lenQ ls ls.length)) ∧ MkQ w w' B vs ls k ls.length := by
  have HCell : Hid (∀ wr j, MkQ w wr B vs ls k j → j < ls.length → ∃ g cap, v = .slice (some ⟨g, 0, none⟩) ls.length cap ∧ wr.cell? ⟨g, j, none⟩ = some (vs.getD j undef) ∧ wr.ownsRow B 3 1 (vs.getD j undef) (ls.getD j []).length ((ls.getD j []).map (Value.int .i64))) := hid fun wr j hM hj => by
    obtain ⟨g, cap, e, -, hc⟩ := h.get hj
    have ht := own_typ h.own (g := g) (by rw [e]; rfl)
    refine ⟨g, cap, e, (World.cell?_of_block (w := w) (a := ⟨g, j, none⟩) (hM.far g fun i hi => own_ne (h.each i (by omega)) ht (by decide))).trans hc, own_move (h.each j hj) fun q hq => hM.far q fun i hi e2 => hap i j hi hj q e2.symm hq⟩
  have HStep : Hid (∀ wr w2 j, MkQ w wr B vs ls k j → j < ls.length → (∀ b, some b ≠ (vs.getD j undef).ownBlock → w2.heap[b]? = wr.heap[b]?) → w2.heap.size = wr.heap.size → Below B wr w2 → _ → MkQ w w2 B vs ls k (j + 1)) := hid fun wr w2 j hM hj h1 h2 h3 h4 => hM.step (fun i hi => hap i j hi hj) h1 h2 h3 h4
  have HLe : Hid (∀ i, i ≤ ls.length → lenQ ls i ≤ 1048576) := hid fun i hi => Nat.le_trans (lenQ_le ls hi) hl
  have HLs : Hid (∀ i, lenQ ls (i + 1) = lenQ ls i + (ls.getD i []).length) := hid fun i => rfl
  obtain ⟨a, cap, rfl⟩ := h.sl
  clear h hap hl
  obtain ⟨n, hn⟩ : ∃ n, n = ls.length := ⟨_, rfl⟩
  rw [← hn] at HCell HStep HLe hn1 ⊢
  clear hn
  go_enter Try.func17, Try.ntmps17
  go_wp2
  go_loopw [1, 5] (fun u t wr => ∃ j : Nat, j ≤ n ∧ t = .int .i64 j ∧ ∃ c : Int, u = .int .i64 c ∧ 0 ≤ c ∧ c ≤ 9437184 ∧ Hid (c = k + lenQ ls j ∧ MkQ w wr B vs ls k j)) (fun _ t _ => n - (intOf t).toNat)
  case atStart => exact ⟨0, Nat.zero_le _, rfl, _, rfl, by omega, by omega, hid ⟨by show k = k + ((0 : Nat) : Int); omega, rfl, Below.refl _ _, fun _ _ => rfl, fun i hi => by omega⟩⟩
  case round =>
    obtain ⟨j, hj, rfl, c, rfl, hc0, hc1, hok⟩ := hrel
    by_cases hjn : j < n
    · have i1 : (j : Int) < (n : Int) := by omega
      obtain ⟨g, cp, e, c1, ho⟩ := HCell.out wr j hok.out.2 hjn
      simp only [Value.slice.injEq, true_and] at e
      obtain ⟨rfl, rfl⟩ := e
      have hle := HLe.out (j + 1) (by omega)
      rw [HLs.out j] at hle
      have hcj := hok.out.1
      have HK := hid (mark_heldQ wr B _ _ c ho (by omega) hc0 (by omega))
      rw [hcj] at HK
      have HST := hid (fun w2 => HStep.out wr w2 j hok.out.2 hjn)
      have hR : Hid (k + lenQ ls j + ((ls.getD j []).length : Int) = k + lenQ ls (j + 1)) := hid (by rw [HLs.out j]; omega)
      obtain ⟨ar, cr, er⟩ := own_shape ho
      have hR2 : 0 ≤ k + lenQ ls j + ((ls.getD j []).length : Int) ∧ k + lenQ ls j + ((ls.getD j []).length : Int) ≤ 9437184 := by omega
      subst hcj
      clear ho hok hle
      generalize hu : vs.getD j undef = u at *
      subst er
      go_wp2_with fail
      refine HK.out.mono ?_
      rintro e w2 ⟨rfl, h1, h2, h3, h4⟩
      have HN := hid (HST.out w2 h1 h2 h3 h4)
      clear h1 h2 h3 h4 HK HST hu
      go_wp2_with fail
      go_roundw
      case rel => exact ⟨j + 1, by omega, by go_num, _, rfl, hR2.1, hR2.2, hid ⟨hR.out, HN.out⟩⟩
      case measure => simp [intOf]; omega
    · obtain rfl : j = n := by omega
      have i1 : ¬ ((j : Int) < (j : Int)) := by omega
      go_wp2
      go_ret
      exact ⟨ret_int hok.out.1, hok.out.2⟩

set_option maxHeartbeats 4000000 in
set_option maxRecDepth 1000000 in
theorem heldsQ (W : World) (v : Value) (vs : List Value) (ls : List (List Int)) (k : Int) (hsl : ∃ a cap, v = .slice a ls.length cap) (hc : ∀ i, i < ls.length → ∃ g cap, v = .slice (some ⟨g, 0, none⟩) ls.length cap ∧ W.cell? ⟨g, i, none⟩ = some (vs.getD i undef))
    (hv : ∀ i, i < ls.length → ∃ a n cap, vs.getD i undef = .slice a n cap)
    (hh : ∀ i, i < ls.length → Calls Try.prog 75 #[vs.getD i undef, .int .i64 (k + lenQ ls i)] W fun e w'' => e = .returned (.int .i64 (k + lenQ ls i + (ls.getD i []).length)) ∧ w'' = W) (hl : lenQ ls ls.length ≤ 1048576) (hn1 : ls.length ≤ 1048576) (hk : 0 ≤ k) (hk' : k ≤ 8388608) :
    Calls Try.prog 76 #[v, .int .i64 k] W fun e w'' => e = .returned (.int .i64 (k + lenQ ls ls.length)) ∧ w'' = W := by
  have HC := hid hc
  have HH := hid hh
  have HV := hid hv
  have HLe : Hid (∀ i, i ≤ ls.length → lenQ ls i ≤ 1048576) := hid fun i hi => Nat.le_trans (lenQ_le ls hi) hl
  have HLs : Hid (∀ i, lenQ ls (i + 1) = lenQ ls i + (ls.getD i []).length) := hid fun i => rfl
  obtain ⟨a, cap, rfl⟩ := hsl
  clear hc hh hv hl
  obtain ⟨n, hn⟩ : ∃ n, n = ls.length := ⟨_, rfl⟩
  rw [← hn] at HC HH HV HLe hn1 ⊢
  clear hn
  go_enter Try.func76, Try.ntmps76
  go_wp2
  go_loop [1, 5] (fun u t => ∃ j : Nat, j ≤ n ∧ t = .int .i64 j ∧ ∃ c : Int, u = .int .i64 c ∧ 0 ≤ c ∧ c ≤ 9437184 ∧ Hid (c = k + lenQ ls j)) (fun _ t => n - (intOf t).toNat)
  case atStart => exact ⟨0, Nat.zero_le _, rfl, _, rfl, by omega, by omega, hid (by show k = k + ((0 : Nat) : Int); omega)⟩
  case round =>
    obtain ⟨j, hj, rfl, c, rfl, hc0, hc1, hok⟩ := hrel
    by_cases hjn : j < n
    · have i1 : (j : Int) < (n : Int) := by omega
      obtain ⟨g, cp, e, c1⟩ := HC.out j hjn
      simp only [Value.slice.injEq, true_and] at e
      obtain ⟨rfl, rfl⟩ := e
      have hle := HLe.out (j + 1) (by omega)
      rw [HLs.out j] at hle
      have hcj := hok.out
      have HK := hid (HH.out j hjn)
      have hR : Hid (k + lenQ ls j + ((ls.getD j []).length : Int) = k + lenQ ls (j + 1)) := hid (by rw [HLs.out j]; omega)
      have hR2 : 0 ≤ k + lenQ ls j + ((ls.getD j []).length : Int) ∧ k + lenQ ls j + ((ls.getD j []).length : Int) ≤ 9437184 := by omega
      obtain ⟨ar, nr, cr, er⟩ := HV.out j hjn
      rw [er] at HK c1
      subst hcj
      have hR3 : ¬ (k + lenQ ls j + ((ls.getD j []).length : Int) < 0) := by omega
      clear hok hle
      generalize k + lenQ ls j + ((ls.getD j []).length : Int) = z at *
      go_wp2_with fail
      refine HK.out.mono ?_
      rintro e w2 ⟨rfl, hw2⟩
      subst w2
      go_wp2_with fail
      go_round
      case rel => exact ⟨j + 1, by omega, by go_num, _, rfl, hR2.1, hR2.2, hid hR.out⟩
      case measure => simp [intOf]; omega
    · obtain rfl : j = n := by omega
      have i1 : ¬ ((j : Int) < (j : Int)) := by omega
      go_wp2
      go_ret
      exact ⟨ret_int hok.out, rfl⟩

end Go.Proofs.Ytpdloenmplafiaa

/-
  The places of variables: what a table's projection is.
-/
namespace Go.Proofs.Ytpdloenmplafiaa

theorem uniqI : ∀ {a b : List Int}, a.Pairwise (· < ·) → b.Pairwise (· < ·) → (∀ x, x ∈ a ↔ x ∈ b) → a = b
  | [], [], _, _, _ => rfl
  | [], y :: b, _, _, h => by have := (h y).2 (List.mem_cons_self ..); cases this
  | x :: a, [], _, _, h => by have := (h x).1 (List.mem_cons_self ..); cases this
  | x :: a, y :: b, ha, hb, h => by
    rw [List.pairwise_cons] at ha hb
    have hxy : x = y := by
      rcases List.mem_cons.1 ((h x).1 (List.mem_cons_self ..)) with e | e
      · exact e
      · rcases List.mem_cons.1 ((h y).2 (List.mem_cons_self ..)) with e2 | e2
        · exact e2.symm
        · have h1 := hb.1 x e
          have h2 := ha.1 y e2
          omega
    subst hxy
    rw [uniqI (a := a) (b := b) ha.2 hb.2 fun z => ?_]
    constructor
    · intro hz
      rcases List.mem_cons.1 ((h z).1 (List.mem_cons_of_mem _ hz)) with e | e
      · subst e; have := ha.1 _ hz; omega
      · exact e
    · intro hz
      rcases List.mem_cons.1 ((h z).2 (List.mem_cons_of_mem _ hz)) with e | e
      · subst e; have := hb.1 _ hz; omega
      · exact e

theorem vlF_at : ∀ (vs r : List Int) (p : Nat), vs.Pairwise (· < ·) → p < vs.length → vlF vs r (vs.getD p 0) = r.getD p 0
  | [], _, p, _, h => by simp at h
  | x :: vs, r, 0, _, _ => by simp [vlF]
  | x :: vs, r, p + 1, h, hp => by
    rw [List.pairwise_cons] at h
    simp only [List.length_cons] at hp
    have hm : vs.getD p 0 ∈ vs := by rw [List.getD_eq_getElem?_getD, List.getElem?_eq_getElem (by omega)]; exact List.getElem_mem _
    have hlt := h.1 _ hm
    show vlF (x :: vs) r (vs.getD p 0) = _
    rw [vlF, if_neg (by omega), vlF_at vs (r.drop 1) p h.2 (by omega), getD_drop, Nat.add_comm]

theorem places_vals (vs vars : List Int) : (plc (fun i => decide (vs.getD i 0 ∈ vars)) vs.length).map (fun p => vs.getD p.toNat 0) = vs.filter (fun x => decide (x ∈ vars)) := by
  unfold plc
  rw [List.map_map]
  have e : vs = (List.range vs.length).map (fun i => vs.getD i 0) := by
    refine List.ext_getElem? fun i => ?_
    by_cases h : i < vs.length
    · rw [List.getElem?_map, List.getElem?_range h, List.getElem?_eq_getElem h, Option.map_some, List.getD_eq_getElem?_getD, List.getElem?_eq_getElem h]; rfl
    · rw [List.getElem?_eq_none (by omega), List.getElem?_eq_none (by simp; omega)]
  have h2 : vs.filter (fun x => decide (x ∈ vars)) = ((List.range vs.length).filter fun i => decide (vs.getD i 0 ∈ vars)).map fun i => vs.getD i 0 := by
    conv => lhs; rw [e]
    rw [List.filter_map]
    rfl
  rw [h2]
  rfl

theorem proj_row {vs vars r : List Int} (h1 : vs.Pairwise (· < ·)) (h2 : vars.Pairwise (· < ·)) (hs : ∀ x ∈ vars, x ∈ vs) : atP r (plc (fun i => decide (vs.getD i 0 ∈ vars)) vs.length) = prjR vs vars r := by
  have hv : vs.filter (fun x => decide (x ∈ vars)) = vars := uniqI (h1.filter _) h2 fun x => by
    rw [List.mem_filter, decide_eq_true_eq]
    exact ⟨fun h => h.2, fun h => ⟨hs x h, h⟩⟩
  unfold prjR atP
  conv => rhs; rw [← hv, ← places_vals]
  rw [List.map_map]
  refine List.map_congr_left fun p hp => ?_
  unfold plc at hp
  rw [List.mem_map] at hp
  obtain ⟨j, hj, e⟩ := hp
  rw [List.mem_filter, List.mem_range] at hj
  simp only [Int.ofNat_eq_natCast] at e
  subst e
  simp only [Function.comp_apply, Int.toNat_natCast]
  rw [vlF_at vs r j h1 hj.1]
theorem proj_rows {vs vars : List Int} {rows : List (List Int)} (h1 : vs.Pairwise (· < ·)) (h2 : vars.Pairwise (· < ·)) (hs : ∀ x ∈ vars, x ∈ vs) : prjL rows (plc (fun i => decide (vs.getD i 0 ∈ vars)) vs.length) = rows.map (prjR vs vars) :=
  List.map_congr_left fun _ _ => proj_row h1 h2 hs

def subQ (a b : List Int) : Bool := a.all fun x => decide (x ∈ b)
theorem places_short (a b : List Int) : decide ((plc (fun i => decide (a.getD i 0 ∈ b)) a.length).length < a.length) = !subQ a b := by
  have key : ∀ n, (∀ i, i < n → decide (a.getD i 0 ∈ b) = true) ∧ (plc (fun i => decide (a.getD i 0 ∈ b)) n).length = n ∨ (∃ i, i < n ∧ decide (a.getD i 0 ∈ b) = false) ∧ (plc (fun i => decide (a.getD i 0 ∈ b)) n).length < n := by
    intro n
    induction n with
    | zero => exact Or.inl ⟨fun i hi => by omega, rfl⟩
    | succ n ih =>
      cases hd : decide (a.getD n 0 ∈ b)
      · have := plc_le (fun i => decide (a.getD i 0 ∈ b)) n
        rw [plc_miss _ _ hd]
        exact Or.inr ⟨⟨n, by omega, hd⟩, by omega⟩
      · rw [plc_hit _ _ hd, List.length_append, List.length_singleton]
        rcases ih with ⟨h1, h2⟩ | ⟨⟨i, hi, h1⟩, h2⟩
        · refine Or.inl ⟨fun i hi => ?_, by omega⟩
          by_cases e : i = n
          · rw [e]; exact hd
          · exact h1 i (by omega)
        · exact Or.inr ⟨⟨i, by omega, h1⟩, by omega⟩
  unfold subQ
  rcases key a.length with ⟨h1, h2⟩ | ⟨⟨i, hi, h1⟩, h2⟩
  · rw [decide_eq_false (by omega)]
    have : (a.all fun x => decide (x ∈ b)) = true := by
      rw [List.all_eq_true]
      intro x hx
      obtain ⟨i, hi, e⟩ := List.getElem_of_mem hx
      have := h1 i hi
      rw [List.getD_eq_getElem?_getD, List.getElem?_eq_getElem hi, Option.getD_some, e] at this
      exact this
    rw [this]; rfl
  · rw [decide_eq_true h2]
    have : (a.all fun x => decide (x ∈ b)) = false := by
      rw [List.all_eq_false]
      refine ⟨a[i], List.getElem_mem _, ?_⟩
      rw [List.getD_eq_getElem?_getD, List.getElem?_eq_getElem hi, Option.getD_some] at h1
      rw [h1]; decide
    rw [this]; rfl

end Go.Proofs.Ytpdloenmplafiaa
