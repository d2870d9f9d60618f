import Derived.Test.YtliggcbiiaegeacEk02
import Derived.Test.YtliggcbiiaegeacEk06
import Derived.Test.YtliggcbiiaegeacEk08
/-
  laws.markIntS, laws.heldIntS on a slice that a call has made (ownsRow).
-/
namespace Go.Proofs.Ytliggcbiiaegeac
open Go.RowKit

set_option maxHeartbeats 1000000 in
theorem markIntS_cap (w : World) (g cap : Nat) (l : List Int) (k : Int) (h : OwnI w g l) (hl : l.length ≤ 1099511627776) (hk : 0 ≤ k) (hk' : k ≤ 1099511627776) :
    Calls Try.prog 30 #[.slice (some ⟨g, 0, none⟩) l.length cap, .int .i64 k] w fun e w' => e = .returned (.int .i64 (k + l.length)) ∧ OwnI w' g (upFrom k l.length) ∧ Og g w w' := by
  obtain ⟨n, hn⟩ : ∃ n, n = l.length := ⟨_, rfl⟩
  have HO : Hid ((∀ j, j < n → w.cell? ⟨g, j, none⟩ = some (.int .i64 (l.getD j 0))) ∧ ∀ j, j < n → w.frozen? ⟨g, j, none⟩ = false) := by rw [hn]; exact ⟨h.cell, h.free⟩
  have hglt := h.lt
  rw [← hn] at hl ⊢
  clear h hn
  go_enter Try.func30, Try.ntmps30
  go_wp2
  go_loopw [1, 5] (fun u t wr => ∃ j : Nat, j ≤ n ∧ t = .int .i64 j ∧ u = .int .i64 (k + j) ∧ Og g w wr ∧ Hid ((∀ i, i < n → wr.cell? ⟨g, i, none⟩ = some (.int .i64 (if i < j then k + (i : Nat) else l.getD i 0))) ∧ ∀ i, i < n → wr.frozen? ⟨g, i, none⟩ = false)) (fun _ t _ => n - (intOf t).toNat)
  case atStart => exact ⟨0, Nat.zero_le _, rfl, by simp, Og.refl _ _, hid ⟨fun i hi => by rw [if_neg (by omega)]; exact HO.out.1 i hi, HO.out.2⟩⟩
  case round =>
    obtain ⟨j, hj, rfl, rfl, hB, hH⟩ := hrel
    by_cases hjn : j < n
    · have i1 : (j : Int) < (n : Int) := by omega
      have c2 : wr.cell? ⟨g, j, none⟩ = some (.int .i64 (if j < j then k + (j : Nat) else l.getD j 0)) := hH.out.1 j hjn
      have c3 : wr.frozen? ⟨g, j, none⟩ = false := hH.out.2 j hjn
      go_wp2
      go_roundw
      case rel =>
        refine ⟨j + 1, by omega, by go_num, by go_num, hB.set _ _, hid ⟨fun i hi => ?_, fun i hi => by rw [World.frozen?_setCell]; exact hH.out.2 i hi⟩⟩
        by_cases e : i = j
        · subst e
          rw [if_pos (by omega)]
          exact World.cell?_setCell_same _ _ _ c2
        · rw [World.cell?_setCell_other _ _ _ _ (by intro e2; simp only [Addr.mk.injEq] at e2; omega), hH.out.1 i hi]
          by_cases e2 : i < j
          · rw [if_pos e2, if_pos (by omega)]
          · rw [if_neg e2, if_neg (by omega)]
      case measure => simp [intOf]; omega
    · obtain rfl : j = n := by omega
      have i1 : ¬ ((j : Int) < (j : Int)) := by omega
      go_wp2
      go_ret
      refine ⟨rfl, ⟨fun i hi => ?_, fun i hi => hH.out.2 i (by rwa [upFrom_length] at hi), by rw [hB.size]; exact hglt⟩, hB⟩
      rw [upFrom_length] at hi
      rw [hH.out.1 i hi, if_pos hi, upFrom_get hi]

set_option maxHeartbeats 1000000 in
theorem heldIntS_cap (w : World) (g cap : Nat) (n : Nat) (k : Int) (h : OwnI w g (upFrom k n)) (hl : n ≤ 1099511627776) (hk : 0 ≤ k) (hk' : k ≤ 1099511627776) :
    Calls Try.prog 78 #[.slice (some ⟨g, 0, none⟩) n cap, .int .i64 k] w fun e w' => e = .returned (.int .i64 (k + n)) ∧ w' = w := by
  have HO : Hid (∀ j, j < n → w.cell? ⟨g, j, none⟩ = some (.int .i64 (k + (j : Nat)))) := fun j hj => by
    have := h.cell j (by rw [upFrom_length]; exact hj)
    rwa [upFrom_get hj] at this
  clear h
  go_enter Try.func78, Try.ntmps78
  go_wp2
  go_loop [1, 5] (fun u t => ∃ j : Nat, j ≤ n ∧ t = .int .i64 j ∧ u = .int .i64 (k + j)) (fun _ t => n - (intOf t).toNat)
  case atStart => exact ⟨0, Nat.zero_le _, rfl, by simp⟩
  case round =>
    obtain ⟨j, hj, rfl, rfl⟩ := hrel
    by_cases hjn : j < n
    · have i1 : (j : Int) < (n : Int) := by omega
      have c2 : w.cell? ⟨g, j, none⟩ = some (.int .i64 (k + (j : Nat))) := HO.out j hjn
      have hne : ((k + (j : Int)) != (k + (j : Int))) = false := by simp
      go_wp2
      go_round
      case rel => exact ⟨j + 1, by omega, by go_num, by go_num⟩
      case measure => simp [intOf]; omega
    · obtain rfl : j = n := by omega
      have i1 : ¬ ((j : Int) < (j : Int)) := by omega
      go_wp2
      go_ret
      exact ⟨rfl, rfl⟩


theorem own_move {w w' : World} {B n s : Nat} {e : TypeId} {v : Value} {xs : List Value} (h : w.ownsRow B e s v n xs) (hb : ∀ g, v.ownBlock = some g → w'.heap[g]? = w.heap[g]?) : w'.ownsRow B e s v n xs := by
  obtain ⟨h1, h2⟩ := h
  refine ⟨h1, ?_⟩
  rcases h2 with h2 | ⟨g, cap, cur, rfl, hb', hc, hr⟩
  · exact Or.inl h2
  · exact Or.inr ⟨g, cap, cur, rfl, hb', (hb g rfl).trans hc, hr⟩

theorem own_is {w : World} {B : Nat} {v : Value} {l : List Int} (h : w.ownsRow B 3 1 v l.length (l.map (Value.int .i64))) : IS w v l := by
  rcases h.2 with ⟨rfl, h2⟩ | ⟨g, cap, cur, rfl, hb', hc, hr⟩
  · exact ⟨none, 0, by rw [h2], Or.inl h2⟩
  · refine ⟨_, cap, rfl, Or.inr ⟨g, 0, rfl, fun j hj => ?_⟩⟩
    rw [Nat.zero_add, h.cellAt j (by omega), List.getElem?_map, List.getElem?_eq_getElem hj, List.getD_eq_getElem?_getD, List.getElem?_eq_getElem hj]
    rfl

theorem own_ownI {w : World} {B g cap : Nat} {l : List Int} (h : w.ownsRow B 3 1 (.slice (some ⟨g, 0, none⟩) l.length cap) l.length (l.map (Value.int .i64))) : OwnI w g l where
  cell j hj := by
    rw [h.cellAt j (by omega), List.getElem?_map, List.getElem?_eq_getElem hj, List.getD_eq_getElem?_getD, List.getElem?_eq_getElem hj]
    rfl
  free j _ := h.frozenAt j
  lt := (h.lt g rfl).2

set_option maxHeartbeats 400000 in
theorem markIntS_nil (w : World) (a : Option Addr) (cap : Nat) (k : Int) :
    Calls Try.prog 30 #[.slice a 0 cap, .int .i64 k] w fun e w' => e = .returned (.int .i64 k) ∧ w' = w := by
  go_enter Try.func30, Try.ntmps30
  go_wp2
  refine wp_loop_rounds 1 ?_
  rw [rounds_succ]
  go_wp2
  go_ret
  exact ⟨rfl, rfl⟩

set_option maxHeartbeats 400000 in
theorem heldIntS_nil (w : World) (a : Option Addr) (cap : Nat) (k : Int) :
    Calls Try.prog 78 #[.slice a 0 cap, .int .i64 k] w fun e w' => e = .returned (.int .i64 k) ∧ w' = w := by
  go_enter Try.func78, Try.ntmps78
  go_wp2
  refine wp_loop_rounds 1 ?_
  rw [rounds_succ]
  go_wp2
  go_ret
  exact ⟨rfl, rfl⟩

/-- marking a slice that a call has made, and finding the marks again -/
theorem mark_held (w : World) (B : Nat) (v : Value) (l : List Int) (k : Int) (h : w.ownsRow B 3 1 v l.length (l.map (Value.int .i64))) (hl : l.length ≤ 1099511627776) (hk : 0 ≤ k) (hk' : k ≤ 1099511627776) :
    Calls Try.prog 30 #[v, .int .i64 k] w fun e w' => e = .returned (.int .i64 (k + l.length)) ∧ (∀ b, some b ≠ v.ownBlock → w'.heap[b]? = w.heap[b]?) ∧ Below B w w' ∧ Calls Try.prog 78 #[v, .int .i64 k] w' fun e w'' => e = .returned (.int .i64 (k + l.length)) ∧ w'' = w' := by
  rcases h.2 with ⟨rfl, h2⟩ | ⟨g, cap, cur, rfl, hb', hc, hr⟩
  · rw [h2]
    refine (markIntS_nil w none 0 k).mono ?_
    rintro e w' ⟨rfl, rfl⟩
    refine ⟨by simp, fun b _ => rfl, Below.refl _ _, ?_⟩
    have := heldIntS_nil w' none 0 k
    simpa using this
  · refine (markIntS_cap w g cap l k (own_ownI h) hl hk hk').mono ?_
    rintro e w' ⟨rfl, ho, hog⟩
    exact ⟨rfl, fun b hb => hog.block b (fun e => hb (by rw [e]; rfl)), hog.below hb', heldIntS_cap w' g cap l.length k ho hl hk hk'⟩

end Go.Proofs.Ytliggcbiiaegeac

/-
  impl.sumOf, spec.l1Sum: the sum of Rats, given what AddRat | l1Plus answers at each step.
-/
namespace Go.Proofs.Ytliggcbiiaegeac
open Go.RowKit

/-- two cells that may be written -/
def Two (w : World) (g : Nat) (x y : Int) : Prop := w.cell? ⟨g, 0, none⟩ = some (.int .i64 x) ∧ w.cell? ⟨g, 1, none⟩ = some (.int .i64 y) ∧ w.frozen? ⟨g, 0, none⟩ = false ∧ w.frozen? ⟨g, 1, none⟩ = false

theorem Two.below {w w' : World} {g : Nat} {x y : Int} (h : Two w g x y) (hg : g < w.heap.size) (hb : Below w.heap.size w w') : Two w' g x y :=
  ⟨(hb.cell (p := ⟨g, 0, none⟩) hg).trans h.1, (hb.cell (p := ⟨g, 1, none⟩) hg).trans h.2.1, (World.frozen?_of_block (w := w) (a := ⟨g, 0, none⟩) (hb.block g hg)).trans h.2.2.1, (World.frozen?_of_block (w := w) (a := ⟨g, 1, none⟩) (hb.block g hg)).trans h.2.2.2⟩

theorem Two.set {w : World} {g : Nat} {a b : Int} (h : Two w g a b) (x y : Int) : Two ((w.setCell ⟨g, 0, none⟩ (.int .i64 x)).setCell ⟨g, 1, none⟩ (.int .i64 y)) g x y := by
  have n1 : ∀ v, (w.setCell ⟨g, 0, none⟩ v).cell? ⟨g, 1, none⟩ = some (.int .i64 b) := fun v => (World.cell?_setCell_other _ _ _ _ (by simp)).trans h.2.1
  refine ⟨(World.cell?_setCell_other _ _ _ _ (by simp)).trans (World.cell?_setCell_same _ _ _ h.1), World.cell?_setCell_same _ _ _ (n1 _), ?_, ?_⟩
  · rw [World.frozen?_setCell, World.frozen?_setCell]; exact h.2.2.1
  · rw [World.frozen?_setCell, World.frozen?_setCell]; exact h.2.2.2

theorem Two.other {w : World} {g g' : Nat} {a b : Int} (h : Two w g a b) (hne : g ≠ g') (x y : Value) : Two ((w.setCell ⟨g', 0, none⟩ x).setCell ⟨g', 1, none⟩ y) g a b := by
  have ne : ∀ i j : Nat, (⟨g, i, none⟩ : Addr) ≠ ⟨g', j, none⟩ := fun i j e => by simp only [Addr.mk.injEq] at e; exact hne e.1
  refine ⟨?_, ?_, ?_, ?_⟩
  · rw [World.cell?_setCell_other _ _ _ _ (by first | exact ne _ _ | exact (ne _ _).symm), World.cell?_setCell_other _ _ _ _ (by first | exact ne _ _ | exact (ne _ _).symm)]; exact h.1
  · rw [World.cell?_setCell_other _ _ _ _ (by first | exact ne _ _ | exact (ne _ _).symm), World.cell?_setCell_other _ _ _ _ (by first | exact ne _ _ | exact (ne _ _).symm)]; exact h.2.1
  · rw [World.frozen?_setCell, World.frozen?_setCell]; exact h.2.2.1
  · rw [World.frozen?_setCell, World.frozen?_setCell]; exact h.2.2.2

set_option maxHeartbeats 2000000 in
set_option maxRecDepth 1000000 in
theorem sumOf_calls (w : World) (v : Value) (l : List (Int × Int)) (h : IR w v l) (hl : l.length ≤ 1000) (s : Nat → Int × Int) (h0 : s 0 = (0, 1))
    (hs : ∀ k w, k < l.length → Calls Try.prog 164 #[.agg #[.int .i64 (s k).1, .int .i64 (s k).2], .agg #[.int .i64 (l.getD k (0, 0)).1, .int .i64 (l.getD k (0, 0)).2]] w fun e w' => e = .returned (.agg #[.int .i64 (s (k + 1)).1, .int .i64 (s (k + 1)).2]) ∧ Below w.heap.size w w') :
    Calls Try.prog 142 #[v] w fun e w' => e = .returned (.agg #[.int .i64 (s l.length).1, .int .i64 (s l.length).2]) ∧ Below w.heap.size w w' := by
  obtain ⟨a, cap, rfl, hc⟩ := h
  obtain ⟨n, hn⟩ : ∃ n, n = l.length := ⟨_, rfl⟩
  rw [← hn] at hc hl hs ⊢
  have HC := hid hc
  have HS := hid hs
  have H0 := hid h0
  clear hc hs hn h0
  go_enter Try.func142, Try.ntmps142
  go_wp2
  have hbb : Below w.heap.size w ((w.alloc (.cells #[.int .i64 0, .int .i64 0] 49)).alloc (.cells #[.int .i64 0, .int .i64 1] 49)) := ((Below.refl _ _).alloc (Nat.le_refl _) _).alloc (by simp) _
  have t1 : Two ((w.alloc (.cells #[.int .i64 0, .int .i64 0] 49)).alloc (.cells #[.int .i64 0, .int .i64 1] 49)) w.heap.size 0 0 :=
    ⟨by rw [World.cell?_alloc_past _ _ _ (by simp), World.cell?_alloc_at _ _ _ _ rfl]; rfl, by rw [World.cell?_alloc_past _ _ _ (by simp), World.cell?_alloc_at _ _ _ _ rfl]; rfl, by rw [World.frozen?_alloc_past _ _ _ (by simp), World.frozen?_alloc_at _ _ _ _ rfl], by rw [World.frozen?_alloc_past _ _ _ (by simp), World.frozen?_alloc_at _ _ _ _ rfl]⟩
  have t2 : Two ((w.alloc (.cells #[.int .i64 0, .int .i64 0] 49)).alloc (.cells #[.int .i64 0, .int .i64 1] 49)) (w.heap.size + 1) 0 1 :=
    ⟨by rw [World.cell?_alloc_at _ _ _ _ (by simp)]; rfl, by rw [World.cell?_alloc_at _ _ _ _ (by simp)]; rfl, World.frozen?_alloc_at _ _ _ _ (by simp), World.frozen?_alloc_at _ _ _ _ (by simp)⟩
  have T1 := hid t1
  have T2 := hid t2
  have HBB := hid hbb
  clear t1 t2 hbb
  go_loopw [9] (fun t wr => ∃ k : Nat, k ≤ n ∧ t = .int .i64 k ∧ w.heap.size + 1 < wr.heap.size ∧ Hid (Below w.heap.size w wr ∧ Two wr w.heap.size 0 0 ∧ Two wr (w.heap.size + 1) (s k).1 (s k).2)) (fun t _ => n - (intOf t).toNat)
  case atStart => exact ⟨0, Nat.zero_le _, rfl, by simp, hid ⟨HBB.out, T1.out, by rw [H0.out]; exact T2.out⟩⟩
  case round =>
    clear T1 T2 HBB
    obtain ⟨k, hk, rfl, hsz, hH⟩ := hrel
    by_cases hkn : k < n
    · have i1 : (k : Int) < (n : Int) := by omega
      rcases HC.out with h0 | ⟨b, o, rfl, hcell⟩
      · omega
      · obtain ⟨hnx, hT1, hT2⟩ := hH.out
        obtain ⟨d1, d2⟩ := hcell k hkn
        have c1 := (hnx.cell (p := ⟨b, o + k * 2, none⟩) (World.block_lt_of_cell? w _ d1)).trans d1
        have c2 := (hnx.cell (p := ⟨b, o + k * 2 + 1, none⟩) (World.block_lt_of_cell? w _ d2)).trans d2
        have HK : Hid (∀ w, _) := hid (fun w => HS.out k w hkn)
        have hbA : ∀ ob, Below wr.heap.size wr (wr.alloc ob) := fun ob => (Below.refl _ _).alloc (Nat.le_refl _) ob
        have c3 := hT2.1
        have c4 := hT2.2.1
        have HH := hid (And.intro hnx (And.intro hT1 hT2))
        have HBA := hid hbA
        clear hcell d1 d2 hnx hT1 hT2 hH hbA
        generalize (l.getD k (0, 0)).1 = x at *
        generalize (l.getD k (0, 0)).2 = y at *
        obtain ⟨x2, hx2⟩ : ∃ t, t = (s (k + 1)).1 := ⟨_, rfl⟩
        obtain ⟨y2, hy2⟩ : ∃ t, t = (s (k + 1)).2 := ⟨_, rfl⟩
        rw [← hx2, ← hy2] at HK
        have HX := hid hx2
        have HY := hid hy2
        clear hx2 hy2
        go_wp2_with (first | (go_at_call 164; refine (HK.out _).mono ?_; rintro e w2 ⟨rfl, hb2⟩; have hb3 := bt (HBA.out _) hb2; have q1 := HH.out.2.1.below (by omega) hb3; have q2 := HH.out.2.2.below (by omega) hb3; have q3 := bt HH.out.1 hb3; have q4 := hb3.size; have e1 := q2.1; have e2 := q2.2.1; have e3 := q2.2.2.1; have e4 := q2.2.2.2; have HQ := hid (And.intro q1 (And.intro q2 q3)); clear hb2 hb3 q1 q2 q3))
        go_roundw
        case rel => exact ⟨k + 1, by omega, by go_num, by simp [World.setCell]; omega, hid ⟨(HQ.out.2.2.setCell (by show w.heap.size ≤ w.heap.size + 1; omega) _).setCell (by show w.heap.size ≤ w.heap.size + 1; omega) _, HQ.out.1.other (by omega) _ _, by rw [← HX.out, ← HY.out]; exact HQ.out.2.1.set _ _⟩⟩
        case measure => simp [intOf]; omega
    · obtain rfl : k = n := by omega
      have i1 : ¬ ((k : Int) < (k : Int)) := by omega
      obtain ⟨hnx, hT1, hT2⟩ := hH.out
      have c1 := hT1.1
      have c2 := hT1.2.1
      have c3 := hT1.2.2.1
      have c4 := hT1.2.2.2
      have e1 := hT2.1
      have e2 := hT2.2.1
      obtain ⟨x, hx⟩ : ∃ t, t = (s k).1 := ⟨_, rfl⟩
      obtain ⟨y, hy⟩ : ∃ t, t = (s k).2 := ⟨_, rfl⟩
      rw [← hx] at e1
      rw [← hy] at e2
      have HX := hid hx
      have HY := hid hy
      have HQ := hid (And.intro hnx (hT1.set x y))
      clear hH hT1 hT2 hx hy hnx
      go_wp2
      have r1 := HQ.out.2.1
      have r2 := HQ.out.2.2.1
      refine bodyPost_ret (v := .agg #[.int .i64 x, .int .i64 y]) (by simp [results, Try.results142, go_sem, r1, r2]) rfl ⟨by rw [HX.out, HY.out], (HQ.out.1.setCell (Nat.le_refl _) _).setCell (Nat.le_refl _) _⟩

set_option maxHeartbeats 2000000 in
set_option maxRecDepth 1000000 in
theorem l1Sum_calls (w : World) (v : Value) (l : List (Int × Int)) (h : IR w v l) (hl : l.length ≤ 1000) (s : Nat → Int × Int) (h0 : s 0 = (0, 1))
    (hs : ∀ k w, k < l.length → Calls Try.prog 155 #[.agg #[.int .i64 (s k).1, .int .i64 (s k).2], .agg #[.int .i64 (l.getD k (0, 0)).1, .int .i64 (l.getD k (0, 0)).2]] w fun e w' => e = .returned (.agg #[.int .i64 (s (k + 1)).1, .int .i64 (s (k + 1)).2]) ∧ Below w.heap.size w w') :
    Calls Try.prog 134 #[v] w fun e w' => e = .returned (.agg #[.int .i64 (s l.length).1, .int .i64 (s l.length).2]) ∧ Below w.heap.size w w' := by
  obtain ⟨a, cap, rfl, hc⟩ := h
  obtain ⟨n, hn⟩ : ∃ n, n = l.length := ⟨_, rfl⟩
  rw [← hn] at hc hl hs ⊢
  have HC := hid hc
  have HS := hid hs
  have H0 := hid h0
  clear hc hs hn h0
  go_enter Try.func134, Try.ntmps134
  go_wp2
  have hbb : Below w.heap.size w ((w.alloc (.cells #[.int .i64 0, .int .i64 0] 49)).alloc (.cells #[.int .i64 0, .int .i64 1] 49)) := ((Below.refl _ _).alloc (Nat.le_refl _) _).alloc (by simp) _
  have t1 : Two ((w.alloc (.cells #[.int .i64 0, .int .i64 0] 49)).alloc (.cells #[.int .i64 0, .int .i64 1] 49)) w.heap.size 0 0 :=
    ⟨by rw [World.cell?_alloc_past _ _ _ (by simp), World.cell?_alloc_at _ _ _ _ rfl]; rfl, by rw [World.cell?_alloc_past _ _ _ (by simp), World.cell?_alloc_at _ _ _ _ rfl]; rfl, by rw [World.frozen?_alloc_past _ _ _ (by simp), World.frozen?_alloc_at _ _ _ _ rfl], by rw [World.frozen?_alloc_past _ _ _ (by simp), World.frozen?_alloc_at _ _ _ _ rfl]⟩
  have t2 : Two ((w.alloc (.cells #[.int .i64 0, .int .i64 0] 49)).alloc (.cells #[.int .i64 0, .int .i64 1] 49)) (w.heap.size + 1) 0 1 :=
    ⟨by rw [World.cell?_alloc_at _ _ _ _ (by simp)]; rfl, by rw [World.cell?_alloc_at _ _ _ _ (by simp)]; rfl, World.frozen?_alloc_at _ _ _ _ (by simp), World.frozen?_alloc_at _ _ _ _ (by simp)⟩
  have T1 := hid t1
  have T2 := hid t2
  have HBB := hid hbb
  clear t1 t2 hbb
  go_loopw [9] (fun t wr => ∃ k : Nat, k ≤ n ∧ t = .int .i64 k ∧ w.heap.size + 1 < wr.heap.size ∧ Hid (Below w.heap.size w wr ∧ Two wr w.heap.size 0 0 ∧ Two wr (w.heap.size + 1) (s k).1 (s k).2)) (fun t _ => n - (intOf t).toNat)
  case atStart => exact ⟨0, Nat.zero_le _, rfl, by simp, hid ⟨HBB.out, T1.out, by rw [H0.out]; exact T2.out⟩⟩
  case round =>
    clear T1 T2 HBB
    obtain ⟨k, hk, rfl, hsz, hH⟩ := hrel
    by_cases hkn : k < n
    · have i1 : (k : Int) < (n : Int) := by omega
      rcases HC.out with h0 | ⟨b, o, rfl, hcell⟩
      · omega
      · obtain ⟨hnx, hT1, hT2⟩ := hH.out
        obtain ⟨d1, d2⟩ := hcell k hkn
        have c1 := (hnx.cell (p := ⟨b, o + k * 2, none⟩) (World.block_lt_of_cell? w _ d1)).trans d1
        have c2 := (hnx.cell (p := ⟨b, o + k * 2 + 1, none⟩) (World.block_lt_of_cell? w _ d2)).trans d2
        have HK : Hid (∀ w, _) := hid (fun w => HS.out k w hkn)
        have hbA : ∀ ob, Below wr.heap.size wr (wr.alloc ob) := fun ob => (Below.refl _ _).alloc (Nat.le_refl _) ob
        have c3 := hT2.1
        have c4 := hT2.2.1
        have HH := hid (And.intro hnx (And.intro hT1 hT2))
        have HBA := hid hbA
        clear hcell d1 d2 hnx hT1 hT2 hH hbA
        generalize (l.getD k (0, 0)).1 = x at *
        generalize (l.getD k (0, 0)).2 = y at *
        obtain ⟨x2, hx2⟩ : ∃ t, t = (s (k + 1)).1 := ⟨_, rfl⟩
        obtain ⟨y2, hy2⟩ : ∃ t, t = (s (k + 1)).2 := ⟨_, rfl⟩
        rw [← hx2, ← hy2] at HK
        have HX := hid hx2
        have HY := hid hy2
        clear hx2 hy2
        go_wp2_with (first | (go_at_call 155; refine (HK.out _).mono ?_; rintro e w2 ⟨rfl, hb2⟩; have hb3 := bt (HBA.out _) hb2; have q1 := HH.out.2.1.below (by omega) hb3; have q2 := HH.out.2.2.below (by omega) hb3; have q3 := bt HH.out.1 hb3; have q4 := hb3.size; have e1 := q2.1; have e2 := q2.2.1; have e3 := q2.2.2.1; have e4 := q2.2.2.2; have HQ := hid (And.intro q1 (And.intro q2 q3)); clear hb2 hb3 q1 q2 q3))
        go_roundw
        case rel => exact ⟨k + 1, by omega, by go_num, by simp [World.setCell]; omega, hid ⟨(HQ.out.2.2.setCell (by show w.heap.size ≤ w.heap.size + 1; omega) _).setCell (by show w.heap.size ≤ w.heap.size + 1; omega) _, HQ.out.1.other (by omega) _ _, by rw [← HX.out, ← HY.out]; exact HQ.out.2.1.set _ _⟩⟩
        case measure => simp [intOf]; omega
    · obtain rfl : k = n := by omega
      have i1 : ¬ ((k : Int) < (k : Int)) := by omega
      obtain ⟨hnx, hT1, hT2⟩ := hH.out
      have c1 := hT1.1
      have c2 := hT1.2.1
      have c3 := hT1.2.2.1
      have c4 := hT1.2.2.2
      have e1 := hT2.1
      have e2 := hT2.2.1
      obtain ⟨x, hx⟩ : ∃ t, t = (s k).1 := ⟨_, rfl⟩
      obtain ⟨y, hy⟩ : ∃ t, t = (s k).2 := ⟨_, rfl⟩
      rw [← hx] at e1
      rw [← hy] at e2
      have HX := hid hx
      have HY := hid hy
      have HQ := hid (And.intro hnx (hT1.set x y))
      clear hH hT1 hT2 hx hy hnx
      go_wp2
      have r1 := HQ.out.2.1
      have r2 := HQ.out.2.2.1
      refine bodyPost_ret (v := .agg #[.int .i64 x, .int .i64 y]) (by simp [results, Try.results134, go_sem, r1, r2]) rfl ⟨by rw [HX.out, HY.out], (HQ.out.1.setCell (Nat.le_refl _) _).setCell (Nat.le_refl _) _⟩

end Go.Proofs.Ytliggcbiiaegeac

/-
  Lists of texts: laws.szStringS, toStringS, eqStringS.
-/
namespace Go.Proofs.Ytliggcbiiaegeac
open Go.RowKit

def noTx : ByteArray := ⟨#[]⟩

def ISt (w : World) (v : Value) (l : List ByteArray) : Prop := ∃ a cap, v = .slice a l.length cap ∧ (l.length = 0 ∨ ∃ b o, a = some ⟨b, o, none⟩ ∧ ∀ j, j < l.length → w.cell? ⟨b, o + j, none⟩ = some (.string (l.getD j noTx)))

theorem ISt.below {w w' : World} {v : Value} {l : List ByteArray} (h : ISt w v l) (hb : Below w.heap.size w w') : ISt w' v l := by
  obtain ⟨a, cap, rfl, h⟩ := h
  refine ⟨a, cap, rfl, ?_⟩
  rcases h with h | ⟨b, o, rfl, h⟩
  · exact Or.inl h
  · exact Or.inr ⟨b, o, rfl, fun j hj => (hb.cell (p := ⟨b, o + j, none⟩) (World.block_lt_of_cell? w _ (h j hj))).trans (h j hj)⟩

theorem ISt.drewN {w : World} {v : Value} {l : List ByteArray} (h : ISt w v l) (m : Nat) : ISt (w.drewN m) v l := h

/-- a copy in block g -/
structure OwnSt (w : World) (g : Nat) (l : List ByteArray) : Prop where
  cell : ∀ j, j < l.length → w.cell? ⟨g, j, none⟩ = some (.string (l.getD j noTx))
  free : ∀ j, j < l.length → w.frozen? ⟨g, j, none⟩ = false
  lt : g < w.heap.size

theorem OwnSt.is {w : World} {g : Nat} {l : List ByteArray} (h : OwnSt w g l) : ISt w (.slice (some ⟨g, 0, none⟩) l.length l.length) l :=
  ⟨_, _, rfl, Or.inr ⟨g, 0, rfl, fun j hj => by rw [Nat.zero_add]; exact h.cell j hj⟩⟩
theorem OwnSt.below {w w' : World} {g : Nat} {l : List ByteArray} (h : OwnSt w g l) (hb : Below w.heap.size w w') : OwnSt w' g l :=
  ⟨fun j hj => (hb.cell (p := ⟨g, j, none⟩) h.lt).trans (h.cell j hj), fun j hj => (hb.frozen (p := ⟨g, j, none⟩) h.lt).trans (h.free j hj), Nat.lt_of_lt_of_le h.lt hb.size⟩
theorem OwnSt.move {w w' : World} {g : Nat} {l : List ByteArray} (h : OwnSt w g l) (hb : w'.heap[g]? = w.heap[g]?) (hs : w.heap.size ≤ w'.heap.size) : OwnSt w' g l :=
  ⟨fun j hj => (World.cell?_of_block (w := w) (a := ⟨g, j, none⟩) hb).trans (h.cell j hj), fun j hj => (World.frozen?_of_block (w := w) (a := ⟨g, j, none⟩) hb).trans (h.free j hj), Nat.lt_of_lt_of_le h.lt hs⟩

set_option maxHeartbeats 1000000 in
theorem szStringS_calls (w : World) (v : Value) (l : List ByteArray) (left : Int) (h : ISt w v l) (hl : l.length ≤ 9223372036854775807) (hz : ∀ j, (l.getD j noTx).size ≤ 9223372036854775807) (h1 : 0 ≤ left) (h2 : left ≤ 1048576) :
    Calls Try.prog 43 #[v, .int .i64 left] w fun e w' => ∃ z : Int, e = .returned (.int .i64 z) ∧ w' = w ∧ (z = -1 ∨ (0 ≤ z ∧ z ≤ left ∧ (l.length : Int) ≤ left ∧ ∀ j, j < l.length → ((l.getD j noTx).size : Int) ≤ left)) := by
  obtain ⟨a, cap, rfl, hc⟩ := h
  obtain ⟨n, hn⟩ : ∃ n, n = l.length := ⟨_, rfl⟩
  rw [← hn] at hc hl ⊢
  have HC := hid hc
  have HZ := hid hz
  clear hc hz hn
  by_cases h3 : left - (n : Int) < 0
  · go_enter Try.func43, Try.ntmps43
    go_wp2
    go_ret
    exact ⟨_, rfl, rfl, Or.inl rfl⟩
  · go_enter Try.func43, Try.ntmps43
    go_wp2
    go_loopw [1, 5] (fun v t wr => ∃ (j : Nat) (z : Int), j ≤ n ∧ t = .int .i64 j ∧ v = .int .i64 z ∧ 0 ≤ z ∧ z ≤ left - n ∧ wr = w ∧ Hid (∀ i, i < j → ((l.getD i noTx).size : Int) ≤ left)) (fun _ t _ => n - (intOf t).toNat)
    case atStart => exact ⟨0, _, Nat.zero_le _, rfl, rfl, by omega, by omega, rfl, hid (fun i hi => by omega)⟩
    case round =>
      obtain ⟨j, z, hj, rfl, rfl, hz0, hz1, hw, HH⟩ := hrel
      subst hw
      by_cases hjn : j < n
      · have i1 : (j : Int) < (n : Int) := by omega
        rcases HC.out with h0 | ⟨b, o, rfl, hcell⟩
        · omega
        · have c1 := hcell j hjn
          have hsz := HZ.out j
          have HH2 : Hid (((l.getD j noTx).size : Int) ≤ left → ∀ i, i < j + 1 → ((l.getD i noTx).size : Int) ≤ left) := hid (fun h i hi => by
            by_cases e : i = j
            · rw [e]; exact h
            · exact HH.out i (by omega))
          clear hcell
          generalize l.getD j noTx = s at *
          by_cases hneg : z - (s.size : Int) < 0
          · go_wp2
            go_ret
            exact ⟨_, rfl, rfl, Or.inl rfl⟩
          · go_wp2
            go_roundw
            case rel => exact ⟨j + 1, z - (s.size : Int), by omega, by go_num, by go_num, by omega, by omega, by trivial, hid (HH2.out (by omega))⟩
            case measure => simp [intOf]; omega
      · obtain rfl : j = n := by omega
        have i1 : ¬ ((j : Int) < (j : Int)) := by omega
        go_wp2
        go_ret
        exact ⟨_, rfl, rfl, Or.inr ⟨hz0, by omega, by omega, HH.out⟩⟩

set_option maxHeartbeats 1000000 in
theorem toStringS_calls (w : World) (v : Value) (l : List ByteArray) (h : ISt w v l) (hl : l.length ≤ 1048576) :
    Calls Try.prog 47 #[v] w fun e w' => e = .returned (.slice (some ⟨w.heap.size, 0, none⟩) l.length l.length) ∧ OwnSt w' w.heap.size l ∧ Below w.heap.size w w' := by
  obtain ⟨a, cap, rfl, hc⟩ := h
  obtain ⟨n, hn⟩ : ∃ n, n = l.length := ⟨_, rfl⟩
  rw [← hn] at hc hl ⊢
  have hmk := run_make_row' (P := Try.prog) 22 9 (.string ⟨#[]⟩) 16 Try.underlying22 (by kernel_rfl) rfl .i64 .i64 n (by omega) (by omega)
  have hb0 := heap_alloc_new w (.cells (madeCells #[.string ⟨#[]⟩] n) 9)
  have hA0 : ∀ j, j < n → (w.alloc (.cells (madeCells #[.string ⟨#[]⟩] n) 9)).cell? ⟨w.heap.size, j, none⟩ = some (.string ⟨#[]⟩) := fun j hj => by rw [cell_of_row _ _ _ _ _ _ hb0]; exact made_get _ _ _ hj
  have hF0 : ∀ j, (w.alloc (.cells (madeCells #[.string ⟨#[]⟩] n) 9)).frozen? ⟨w.heap.size, j, none⟩ = false := fun j => by unfold World.frozen?; rw [hb0]; simp
  have HA0 := hid hA0
  have HF0 := hid hF0
  clear hA0 hF0 hb0
  have HC := hid hc
  have HN := hid hn
  clear hc hn
  go_enter Try.func47, Try.ntmps47
  go_wp2
  go_loopw [4] (fun t wr => ∃ j : Nat, j ≤ n ∧ t = .int .i64 j ∧ Below w.heap.size w wr ∧ w.heap.size < wr.heap.size ∧ Hid ((∀ i, i < n → wr.cell? ⟨w.heap.size, i, none⟩ = some (.string (if i < j then l.getD i noTx else noTx))) ∧ ∀ i, i < n → wr.frozen? ⟨w.heap.size, i, none⟩ = false)) (fun t _ => n - (intOf t).toNat)
  case atStart => exact ⟨0, Nat.zero_le _, rfl, (Below.refl _ _).alloc (Nat.le_refl _) _, by simp, hid ⟨fun i hi => by rw [if_neg (by omega)]; exact HA0.out i hi, fun i _ => HF0.out i⟩⟩
  case round =>
    obtain ⟨j, hj, rfl, hB, hlt, hH⟩ := hrel
    by_cases hjn : j < n
    · have i1 : (j : Int) < (n : Int) := by omega
      rcases HC.out with h0 | ⟨b, o, rfl, hcell⟩
      · omega
      · have c1 : wr.cell? ⟨b, o + j, none⟩ = some (.string (l.getD j noTx)) := (hB.cell (p := ⟨b, o + j, none⟩) (World.block_lt_of_cell? w _ (hcell j hjn))).trans (hcell j hjn)
        have c2 : wr.cell? ⟨w.heap.size, j, none⟩ = some (.string (if j < j then l.getD j noTx else noTx)) := hH.out.1 j hjn
        have c3 : wr.frozen? ⟨w.heap.size, j, none⟩ = false := hH.out.2 j hjn
        clear hcell
        go_wp2
        go_roundw
        case rel =>
          refine ⟨j + 1, by omega, by go_num, hB.setCell (Nat.le_refl _) _, by simpa using hlt, hid ⟨fun i hi => ?_, fun i hi => by rw [World.frozen?_setCell]; exact hH.out.2 i hi⟩⟩
          by_cases e : i = j
          · subst e
            rw [if_pos (by omega)]
            exact World.cell?_setCell_same _ _ _ c2
          · rw [World.cell?_setCell_other _ _ _ _ (by intro e2; simp only [Addr.mk.injEq] at e2; omega), hH.out.1 i hi]
            by_cases e2 : i < j
            · rw [if_pos e2, if_pos (by omega)]
            · rw [if_neg e2, if_neg (by omega)]
        case measure => simp [intOf]; omega
    · obtain rfl : j = n := by omega
      have i1 : ¬ ((j : Int) < (j : Int)) := by omega
      go_wp2
      go_ret
      refine ⟨rfl, ⟨fun i hi => ?_, fun i hi => hH.out.2 i (by rw [HN.out]; exact hi), hlt⟩, hB⟩
      rw [hH.out.1 i (by rw [HN.out]; exact hi), if_pos (by rw [HN.out]; exact hi)]

set_option maxHeartbeats 2000000 in
set_option maxRecDepth 1000000 in
theorem eqStringS_quiet (w : World) (v v' : Value) (l : List ByteArray) (h : ISt w v l) (h' : ISt w v' l) (hl : l.length ≤ 1099511627776) :
    Calls Try.prog 12 #[v, v'] w fun e w' => e = .returned (.bool true) ∧ ∃ m, w' = w.drewN m := by
  obtain ⟨a, cap, rfl, hc⟩ := h
  obtain ⟨a', cap', rfl, hc'⟩ := h'
  obtain ⟨n, hn⟩ : ∃ n, n = l.length := ⟨_, rfl⟩
  rw [← hn] at hc hc' hl ⊢
  have HC := hid hc
  have HC' := hid hc'
  clear hc hc' hn
  have hne : ((n : Int) != (n : Int)) = false := by simp
  go_enter Try.func12, Try.ntmps12
  go_wp2
  go_loopw [5] (fun t wr => ∃ j : Nat, j ≤ n ∧ t = .int .i64 j ∧ Hid (∃ m, wr = w.drewN m)) (fun t _ => n - (intOf t).toNat)
  case atStart => exact ⟨0, Nat.zero_le _, rfl, hid ⟨0, rfl⟩⟩
  case round =>
    obtain ⟨j, hj, rfl, hB⟩ := hrel
    by_cases hjn : j < n
    · have i1 : (j : Int) < (n : Int) := by omega
      rcases HC.out with h0 | ⟨b, o, rfl, hcell⟩
      · omega
      · rcases HC'.out with h0 | ⟨b', o', rfl, hcell'⟩
        · omega
        · have c1 : wr.cell? ⟨b, o + j, none⟩ = some (.string (l.getD j noTx)) := by obtain ⟨m, rfl⟩ := hB.out; exact hcell j hjn
          have c2 : wr.cell? ⟨b', o' + j, none⟩ = some (.string (l.getD j noTx)) := by obtain ⟨m, rfl⟩ := hB.out; exact hcell' j hjn
          obtain ⟨x, hx⟩ : ∃ x, x = l.getD j noTx := ⟨_, rfl⟩
          rw [← hx] at c1 c2
          have hxx : (!x.toList == x.toList) = false := by simp
          clear hcell hcell' hx
          go_wp2_with fail
          go_quiet (fail)
          go_wp2
          go_roundw
          case rel => exact ⟨j + 1, by omega, by go_num, hid (drewN_step _ hB.out)⟩
          case measure => simp [intOf]; omega
    · obtain rfl : j = n := by omega
      have i1 : ¬ ((j : Int) < (j : Int)) := by omega
      go_wp2
      go_ret
      exact ⟨rfl, hB.out⟩

end Go.Proofs.Ytliggcbiiaegeac
