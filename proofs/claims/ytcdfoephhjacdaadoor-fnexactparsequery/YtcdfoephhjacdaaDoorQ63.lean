import Derived.Test.YtcdfoephhjacdaaDoorQ41
import Derived.Test.YtcdfoephhjacdaaDoorQ62
/-
  A query made by appends is marked, and the marks are found again: its terms.
-/
namespace Go.Proofs.YtcdfoephhjacdaaDoor
open Go.RowKit

/-- the m terms of a slice are marked from k on -/
def TmM (W : World) (v : Value) (m k : Nat) : Prop := ∀ j, j < m → ∃ g, v.ownBlock = some g ∧ W.cell? ⟨g, j * 2, none⟩ = some (.string (mkT (k + 2 * j))) ∧ W.cell? ⟨g, j * 2 + 1, none⟩ = some (.int .i64 ((k + 2 * j + 1 : Nat) : Int))
theorem TmM.below {W W' : World} {v : Value} {m k : Nat} (h : TmM W v m k) (hb : Below W.heap.size W W') : TmM W' v m k := fun j hj => by
  obtain ⟨g, e, h1, h2⟩ := h j hj
  exact ⟨g, e, (hb.cell (p := ⟨g, j * 2, none⟩) (World.block_lt_of_cell? W _ h1)).trans h1, (hb.cell (p := ⟨g, j * 2 + 1, none⟩) (World.block_lt_of_cell? W _ h2)).trans h2⟩
theorem TmM.kept {W W' : World} {v : Value} {m k : Nat} (h : TmM W v m k) (hb : ∀ g, v.ownBlock = some g → W'.heap[g]? = W.heap[g]?) : TmM W' v m k := fun j hj => by
  obtain ⟨g, e, h1, h2⟩ := h j hj
  exact ⟨g, e, (World.cell?_of_block (w := W) (a := ⟨g, j * 2, none⟩) (hb g e)).trans h1, (World.cell?_of_block (w := W) (a := ⟨g, j * 2 + 1, none⟩) (hb g e)).trans h2⟩

set_option maxHeartbeats 4000000 in
set_option maxRecDepth 1000000 in
theorem markTermS_full (w : World) (g n cap k : Nat) (hc : ∀ j, j < n * 2 → ∃ u, w.cell? ⟨g, j, none⟩ = some u) (hf : ∀ j, j < n * 2 → w.frozen? ⟨g, j, none⟩ = false) (hg : g < w.heap.size) (hn : n ≤ 1048576) (hk0 : 0 < k) (hk : k ≤ 576460752303423488) :
    Calls Tryd.prog 65 #[.slice (some ⟨g, 0, none⟩) n cap, .int .i64 k] w fun e w' => e = .returned (.int .i64 (k + 2 * n : Nat)) ∧ Kg g w w' ∧ ∀ j, j < n → w'.cell? ⟨g, j * 2, none⟩ = some (.string (mkT (k + 2 * j))) ∧ w'.cell? ⟨g, j * 2 + 1, none⟩ = some (.int .i64 ((k + 2 * j + 1 : Nat) : Int)) := by
  have HC := hid (And.intro hc hf)
  clear hc hf
  go_enter Tryd.func65, Tryd.ntmps65
  go_wp2
  go_loopw [1, 5] (fun v t wr => ∃ j : Nat, j ≤ n ∧ t = .int .i64 j ∧ v = .int .i64 (k + 2 * j : Nat) ∧ Hid (Kg g w wr ∧ ∀ i, i < j → wr.cell? ⟨g, i * 2, none⟩ = some (.string (mkT (k + 2 * i))) ∧ wr.cell? ⟨g, i * 2 + 1, none⟩ = some (.int .i64 ((k + 2 * i + 1 : Nat) : Int)))) (fun _ t _ => n - (intOf t).toNat)
  case atStart => exact ⟨0, Nat.zero_le _, rfl, rfl, hid ⟨Kg.refl _ _, fun i hi => by omega⟩⟩
  case round =>
    obtain ⟨j, hj, rfl, rfl, HH⟩ := hrel
    by_cases hjn : j < n
    · have i1 : (j : Int) < (n : Int) := by omega
      go_wp2_with fail
      refine (markText_calls wr (k + 2 * j) (by omega) (by omega)).mono ?_
      rintro e w2 ⟨rfl, hb⟩
      have hK := HH.out.1.below hb
      obtain ⟨u, c0⟩ := hK.any (j * 2) (HC.out.1 (j * 2) (by omega))
      have f0 := hK.froz (j * 2) hg (HC.out.2 (j * 2) (by omega))
      obtain ⟨u1, c1⟩ := hK.any (j * 2 + 1) (HC.out.1 (j * 2 + 1) (by omega))
      have f1 := hK.froz (j * 2 + 1) hg (HC.out.2 (j * 2 + 1) (by omega))
      have HN : Hid (∀ v : Value, v = .int .i64 ((k + 2 * j + 1 : Nat) : Int) → Kg g w ((w2.setCell ⟨g, j * 2, none⟩ (.string (mkT (k + 2 * j)))).setCell ⟨g, j * 2 + 1, none⟩ v) ∧ ∀ i, i < j + 1 → ((w2.setCell ⟨g, j * 2, none⟩ (.string (mkT (k + 2 * j)))).setCell ⟨g, j * 2 + 1, none⟩ v).cell? ⟨g, i * 2, none⟩ = some (.string (mkT (k + 2 * i))) ∧ ((w2.setCell ⟨g, j * 2, none⟩ (.string (mkT (k + 2 * j)))).setCell ⟨g, j * 2 + 1, none⟩ v).cell? ⟨g, i * 2 + 1, none⟩ = some (.int .i64 ((k + 2 * i + 1 : Nat) : Int))) := hid fun v hv => ⟨(hK.set _ _).set _ _, fun i hi => by
        have n1 : (w2.setCell ⟨g, j * 2, none⟩ (.string (mkT (k + 2 * j)))).cell? ⟨g, j * 2 + 1, none⟩ = some u1 := (World.cell?_setCell_other _ _ _ _ (by intro e2; simp only [Addr.mk.injEq] at e2; omega)).trans c1
        by_cases e : i = j
        · subst e
          refine ⟨?_, ?_⟩
          · rw [World.cell?_setCell_other _ _ _ _ (by intro e2; simp only [Addr.mk.injEq] at e2; omega)]
            exact World.cell?_setCell_same _ _ _ c0
          · rw [World.cell?_setCell_same _ _ _ n1, hv]
        · have h0 := HH.out.2 i (by omega)
          refine ⟨?_, ?_⟩
          · rw [World.cell?_setCell_other _ _ _ _ (by intro e2; simp only [Addr.mk.injEq] at e2; omega), World.cell?_setCell_other _ _ _ _ (by intro e2; simp only [Addr.mk.injEq] at e2; omega)]
            exact (hb.cell (p := ⟨g, i * 2, none⟩) (World.block_lt_of_cell? wr _ h0.1)).trans h0.1
          · rw [World.cell?_setCell_other _ _ _ _ (by intro e2; simp only [Addr.mk.injEq] at e2; omega), World.cell?_setCell_other _ _ _ _ (by intro e2; simp only [Addr.mk.injEq] at e2; omega)]
            exact (hb.cell (p := ⟨g, i * 2 + 1, none⟩) (World.block_lt_of_cell? wr _ h0.2)).trans h0.2⟩
      clear hb hK HH
      generalize mkT (k + 2 * j) = s at *
      go_wp2
      go_roundw
      case rel => exact ⟨j + 1, by omega, by go_num, by go_num, hid (HN.out _ (by go_num))⟩
      case measure => simp [intOf]; omega
    · obtain rfl : j = n := by omega
      have i1 : ¬ ((j : Int) < (j : Int)) := by omega
      go_wp2
      go_ret
      exact ⟨rfl, HH.out⟩

set_option maxHeartbeats 4000000 in
set_option maxRecDepth 1000000 in
theorem heldTermS_calls (w : World) (g n cap k : Nat) (hc : ∀ j, j < n → w.cell? ⟨g, j * 2, none⟩ = some (.string (mkT (k + 2 * j))) ∧ w.cell? ⟨g, j * 2 + 1, none⟩ = some (.int .i64 ((k + 2 * j + 1 : Nat) : Int))) (hn : n ≤ 1048576) (hk0 : 0 < k) (hk : k ≤ 576460752303423488) :
    Calls Tryd.prog 66 #[.slice (some ⟨g, 0, none⟩) n cap, .int .i64 k] w fun e w' => e = .returned (.int .i64 (k + 2 * n : Nat)) ∧ Below w.heap.size w w' := by
  have HC := hid hc
  clear hc
  go_enter Tryd.func66, Tryd.ntmps66
  go_wp2
  go_loopw [1, 5] (fun v t wr => ∃ j : Nat, j ≤ n ∧ t = .int .i64 j ∧ v = .int .i64 (k + 2 * j : Nat) ∧ Hid (Below w.heap.size w wr)) (fun _ t _ => n - (intOf t).toNat)
  case atStart => exact ⟨0, Nat.zero_le _, rfl, rfl, hid (Below.refl _ _)⟩
  case round =>
    obtain ⟨j, hj, rfl, rfl, HH⟩ := hrel
    by_cases hjn : j < n
    · have i1 : (j : Int) < (n : Int) := by omega
      have c0' := HC.out j hjn
      have c0 := (HH.out.cell (p := ⟨g, j * 2, none⟩) (World.block_lt_of_cell? w _ c0'.1)).trans c0'.1
      have c1 := (HH.out.cell (p := ⟨g, j * 2 + 1, none⟩) (World.block_lt_of_cell? w _ c0'.2)).trans c0'.2
      have KM : Hid (∀ W, Calls Tryd.prog 43 #[.int .i64 (k + 2 * j : Nat)] W fun e w' => e = .returned (.string (mkT (k + 2 * j))) ∧ Below W.heap.size W w') := hid (fun W => markText_calls W (k + 2 * j) (by omega) (by omega))
      clear c0'
      generalize mkT (k + 2 * j) = s at *
      have hne : (!s.toList == s.toList) = false := by simp
      have HC1 : Hid (∀ W, Below wr.heap.size wr W → W.cell? ⟨g, j * 2 + 1, none⟩ = some (.int .i64 ((k + 2 * j + 1 : Nat) : Int))) := hid fun W hb => (hb.cell (p := ⟨g, j * 2 + 1, none⟩) (World.block_lt_of_cell? wr _ c1)).trans c1
      have hcell : ∀ W, Below wr.heap.size wr W → W.cell? ⟨g, j * 2, none⟩ = some (.string s) := fun W hb => (hb.cell (p := ⟨g, j * 2, none⟩) (World.block_lt_of_cell? wr _ c0)).trans c0
      have HCL := hid hcell
      clear hcell c1
      have hn1 : ((((k + 2 * j : Nat) : Int) + 1) != (((k + 2 * j : Nat) : Int) + 1)) = false := by simp
      go_wp2_with fail
      go_region_held3 (fun W => W.cell? ⟨g, j * 2, none⟩ = some (.string s) ∧ Below wr.heap.size wr W)
        (first | exact ⟨c0, (Below.refl _ _).drew⟩ | exact ⟨HCL.out _ (bt (Below.refl _ _).drew hb), bt (Below.refl _ _).drew hb⟩ | (refine ⟨HCL.out _ (bt (And.right (by assumption)) hb), bt (And.right (by assumption)) hb⟩))
        (first | (go_at_call 43; refine (KM.out _).mono ?_; rintro e w' ⟨rfl, hb⟩))
      rename_i hS
      obtain ⟨-, hbS⟩ := hS
      have d1 := HC1.out _ hbS
      rw [show (((k + 2 * j + 1 : Nat) : Int)) = ((k + 2 * j : Nat) : Int) + 1 by omega] at d1
      have HBS := hid hbS
      clear hbS
      go_wp2
      go_roundw
      case rel => exact ⟨j + 1, by omega, by go_num, by go_num, hid (bt HH.out HBS.out)⟩
      case measure => simp [intOf]; omega
    · obtain rfl : j = n := by omega
      have i1 : ¬ ((j : Int) < (j : Int)) := by omega
      go_wp2
      go_ret
      exact ⟨rfl, HH.out⟩

set_option maxHeartbeats 400000 in
theorem markTermS_zero (w : World) (a : Option Addr) (cap k : Nat) : Calls Tryd.prog 65 #[.slice a 0 cap, .int .i64 k] w fun e w' => e = .returned (.int .i64 k) ∧ w' = w := by
  go_enter Tryd.func65, Tryd.ntmps65
  go_wp2
  refine wp_loop_rounds 1 ?_
  rw [rounds_succ]
  go_wp2
  go_ret
  exact ⟨rfl, rfl⟩
set_option maxHeartbeats 400000 in
theorem heldTermS_zero (w : World) (a : Option Addr) (cap k : Nat) : Calls Tryd.prog 66 #[.slice a 0 cap, .int .i64 k] w fun e w' => e = .returned (.int .i64 k) ∧ w' = w := by
  go_enter Tryd.func66, Tryd.ntmps66
  go_wp2
  refine wp_loop_rounds 1 ?_
  rw [rounds_succ]
  go_wp2
  go_ret
  exact ⟨rfl, rfl⟩
set_option maxHeartbeats 400000 in
theorem markStringS_zero (w : World) (a : Option Addr) (cap k : Nat) : Calls Tryd.prog 30 #[.slice a 0 cap, .int .i64 k] w fun e w' => e = .returned (.int .i64 k) ∧ w' = w := by
  go_enter Tryd.func30, Tryd.ntmps30
  go_wp2
  refine wp_loop_rounds 1 ?_
  rw [rounds_succ]
  go_wp2
  go_ret
  exact ⟨rfl, rfl⟩
set_option maxHeartbeats 400000 in
theorem heldStringS_zero (w : World) (a : Option Addr) (cap k : Nat) : Calls Tryd.prog 32 #[.slice a 0 cap, .int .i64 k] w fun e w' => e = .returned (.int .i64 k) ∧ w' = w := by
  go_enter Tryd.func32, Tryd.ntmps32
  go_wp2
  refine wp_loop_rounds 1 ?_
  rw [rounds_succ]
  go_wp2
  go_ret
  exact ⟨rfl, rfl⟩

/-- only the slice's own block is another -/
def Gb (v : Value) (w w' : World) : Prop := w.grownBy w' v.ownBlock
theorem own_any {W : World} {B e s n : Nat} {v : Value} {xs : List Value} (h : W.ownsRow B e s v n xs) : (v = .slice none 0 0 ∧ n = 0) ∨ ∃ g cap, v = .slice (some ⟨g, 0, none⟩) n cap ∧ g < W.heap.size ∧ (∀ j, j < n * s → ∃ u, W.cell? ⟨g, j, none⟩ = some u) ∧ (∀ j, j < n * s → W.frozen? ⟨g, j, none⟩ = false) := by
  have h' := h
  rcases h'.2 with ⟨e1, e2⟩ | ⟨g, cap, cur, e1, -, hc, -⟩
  · exact Or.inl ⟨e1, e2⟩
  · subst e1
    refine Or.inr ⟨g, cap, rfl, (h.lt g rfl).2, fun j hj => ⟨xs[j]'(by rw [h.1]; exact hj), ?_⟩, fun j _ => h.frozenAt j⟩
    rw [h.cellAt j hj]
    exact List.getElem?_eq_getElem _
theorem Kg.gb {g n cap : Nat} {w w' : World} (h : Kg g w w') : Gb (.slice (some ⟨g, 0, none⟩) n cap) w w' := ⟨h.os, h.tape, h.output, h.size, fun b hb hne => h.block b hb (fun e => hne (by rw [e]; rfl))⟩
theorem Gb.refl (v : Value) (w : World) : Gb v w w := ⟨rfl, rfl, rfl, Nat.le_refl _, fun _ _ _ => rfl⟩
theorem markTermS_any (w : World) (B k m : Nat) (v : Value) (xs : List Value) (h : w.ownsRow B 145 2 v m xs) (hn : m ≤ 1048576) (hk0 : 0 < k) (hk : k ≤ 576460752303423488) :
    Calls Tryd.prog 65 #[v, .int .i64 k] w fun e w' => e = .returned (.int .i64 (k + 2 * m : Nat)) ∧ Gb v w w' ∧ TmM w' v m k := by
  rcases own_any h with ⟨rfl, rfl⟩ | ⟨g, cap, rfl, hg, hc, hf⟩
  · refine (markTermS_zero w none 0 k).mono ?_
    rintro e w' ⟨rfl, rfl⟩
    exact ⟨by simp, Gb.refl _ _, fun j hj => by omega⟩
  · refine (markTermS_full w g m cap k hc hf hg hn hk0 hk).mono ?_
    rintro e w' ⟨rfl, hk, hcell⟩
    exact ⟨rfl, hk.gb, fun j hj => ⟨g, rfl, (hcell j hj).1, (hcell j hj).2⟩⟩
theorem heldTermS_any (w : World) (k m : Nat) (v : Value) (hs : (v = .slice none 0 0 ∧ m = 0) ∨ ∃ g cap, v = .slice (some ⟨g, 0, none⟩) m cap) (h : TmM w v m k) (hn : m ≤ 1048576) (hk0 : 0 < k) (hk : k ≤ 576460752303423488) :
    Calls Tryd.prog 66 #[v, .int .i64 k] w fun e w' => e = .returned (.int .i64 (k + 2 * m : Nat)) ∧ Below w.heap.size w w' := by
  rcases hs with ⟨rfl, rfl⟩ | ⟨g, cap, rfl⟩
  · refine (heldTermS_zero w none 0 k).mono ?_
    rintro e w' ⟨rfl, rfl⟩
    exact ⟨by simp, Below.refl _ _⟩
  · exact heldTermS_calls w g m cap k (fun j hj => by
      obtain ⟨g', e, h1, h2⟩ := h j hj
      obtain rfl : g = g' := Option.some.inj e
      exact ⟨h1, h2⟩) hn hk0 hk

end Go.Proofs.YtcdfoephhjacdaaDoor

/-
  A query made by appends is marked, and the marks are found again: its atoms.
-/
namespace Go.Proofs.YtcdfoephhjacdaaDoor
open Go.RowKit

def noU : UV := (⟨#[]⟩, .slice none 0 0, [])
/-- the mark of the j-th atom -/
def kAq (us : List UV) (k : Nat) : Nat → Nat
  | 0 => k
  | j + 1 => kAq us k j + 1 + 2 * (us.getD j noU).2.2.length
theorem kA_ge (us : List UV) (k : Nat) : ∀ j, k ≤ kAq us k j
  | 0 => Nat.le_refl _
  | j + 1 => by have := kA_ge us k j; show k ≤ kAq us k j + 1 + _; omega
/-- what stands before anything is marked -/
structure AtB (w : World) (B g : Nat) (us : List UV) : Prop where
  blk : ∃ cur, w.heap[g]? = some (.cells cur 96 (0, 0))
  tms : ∀ j, j < us.length → w.ownsRow B 145 2 (us.getD j noU).2.1 (us.getD j noU).2.2.length ((us.getD j noU).2.2.flatMap tmc)
  ap : ∀ i j, i < j → j < us.length → Apr (us.getD i noU).2.1 (us.getD j noU).2.1
/-- the first i atoms are marked -/
structure MkA (w wr : World) (g : Nat) (us : List UV) (k i : Nat) : Prop where
  os : wr.os = w.os
  tape : wr.tape = w.tape
  output : wr.output = w.output
  size : w.heap.size ≤ wr.heap.size
  glt : g < w.heap.size
  block : ∀ b, b < w.heap.size → b ≠ g → (∀ j, j < i → some b ≠ (us.getD j noU).2.1.ownBlock) → wr.heap[b]? = w.heap[b]?
  sl : ∀ j, j < us.length → wr.cell? ⟨g, j * 2 + 1, none⟩ = some (us.getD j noU).2.1
  any : ∀ j, j < us.length → ∃ u, wr.cell? ⟨g, j * 2, none⟩ = some u
  fz : ∀ q, wr.frozen? ⟨g, q, none⟩ = false
  rel : ∀ j, j < i → wr.cell? ⟨g, j * 2, none⟩ = some (.string (mkT (kAq us k j)))
  tm : ∀ j, j < i → TmM wr (us.getD j noU).2.1 (us.getD j noU).2.2.length (kAq us k j + 1)
section
variable {w wr w2 w4 : World} {B g k i : Nat} {us : List UV}
theorem AtB.gne (h : AtB w B g us) {j q : Nat} (hj : j < us.length) (hq : (us.getD j noU).2.1.ownBlock = some q) : q ≠ g := fun e => own_ne (h.tms j hj) h.blk (by decide) (by rw [← e]; exact hq.symm)
theorem AtB.lt (h : AtB w B g us) {j q : Nat} (hj : j < us.length) (hq : (us.getD j noU).2.1.ownBlock = some q) : q < w.heap.size := ((h.tms j hj).lt q hq).2
theorem MkA.below (h : MkA w wr g us k i) (hb : Below wr.heap.size wr w2) : MkA w w2 g us k i := by
  have bc : ∀ {q v}, wr.cell? ⟨g, q, none⟩ = some v → w2.cell? ⟨g, q, none⟩ = some v := fun {q v} e => (hb.cell (p := ⟨g, q, none⟩) (World.block_lt_of_cell? wr _ e)).trans e
  refine ⟨hb.os.trans h.os, hb.tape.trans h.tape, hb.output.trans h.output, Nat.le_trans h.size hb.size, h.glt, fun b hb1 hb2 hb3 => (hb.block b (by have := h.size; omega)).trans (h.block b hb1 hb2 hb3), fun j hj => bc (h.sl j hj), fun j hj => ?_, fun q => ?_, fun j hj => bc (h.rel j hj), fun j hj => (h.tm j hj).below hb⟩
  · obtain ⟨u, e⟩ := h.any j hj
    exact ⟨u, bc e⟩
  · exact (hb.frozen (p := ⟨g, q, none⟩) (by have := h.glt; have := h.size; show g < _; omega)).trans (h.fz q)
/-- an atom's row as it was -/
theorem MkA.own (h : MkA w wr g us k i) (hA : AtB w B g us) (hi : i < us.length) : wr.ownsRow B 145 2 (us.getD i noU).2.1 (us.getD i noU).2.2.length ((us.getD i noU).2.2.flatMap tmc) :=
  own_move (hA.tms i hi) fun q hq => h.block q (hA.lt hi hq) (hA.gne hi hq) (fun j hj e => hA.ap j i hj hi q e.symm hq)
theorem MkA.step (h : MkA w wr g us k i) (hA : AtB w B g us) (hi : i < us.length) (hg : Gb (us.getD i noU).2.1 (wr.setCell ⟨g, i * 2, none⟩ (.string (mkT (kAq us k i)))) w4) (ht : TmM w4 (us.getD i noU).2.1 (us.getD i noU).2.2.length (kAq us k i + 1)) : MkA w w4 g us k (i + 1) := by
  have hsz : (wr.setCell ⟨g, i * 2, none⟩ (.string (mkT (kAq us k i)))).heap.size = wr.heap.size := by simp [World.setCell]
  have hne : ∀ q, (us.getD i noU).2.1.ownBlock = some q → q ≠ g := fun q hq => hA.gne hi hq
  have hgk : w4.heap[g]? = (wr.setCell ⟨g, i * 2, none⟩ (.string (mkT (kAq us k i)))).heap[g]? := hg.block g (by rw [hsz]; have := h.glt; have := h.size; omega) (fun e => hne g e.symm rfl)
  have gc : ∀ q, w4.cell? ⟨g, q, none⟩ = (wr.setCell ⟨g, i * 2, none⟩ (.string (mkT (kAq us k i)))).cell? ⟨g, q, none⟩ := fun q => World.cell?_of_block (w := wr.setCell ⟨g, i * 2, none⟩ (.string (mkT (kAq us k i)))) (a := ⟨g, q, none⟩) hgk
  have go : ∀ q, q ≠ i * 2 → (wr.setCell ⟨g, i * 2, none⟩ (.string (mkT (kAq us k i)))).cell? ⟨g, q, none⟩ = wr.cell? ⟨g, q, none⟩ := fun q hq => World.cell?_setCell_other _ _ _ _ (by intro e; simp only [Addr.mk.injEq] at e; omega)
  obtain ⟨u0, hu0⟩ := h.any i hi
  have gs : (wr.setCell ⟨g, i * 2, none⟩ (.string (mkT (kAq us k i)))).cell? ⟨g, i * 2, none⟩ = some (.string (mkT (kAq us k i))) := World.cell?_setCell_same _ _ _ hu0
  refine ⟨hg.os.trans h.os, hg.tape.trans h.tape, hg.output.trans h.output, ?_, h.glt, fun b h1 h2 h3 => ?_, fun j hj => ?_, fun j hj => ?_, fun q => ?_, fun j hj => ?_, fun j hj => ?_⟩
  · have := hg.size
    rw [hsz] at this
    have := h.size
    omega
  · rw [hg.block b (by rw [hsz]; have := h.size; omega) (h3 i (by omega)), Below.heap_setCell _ _ _ _ h2]
    exact h.block b h1 h2 (fun j hj => h3 j (by omega))
  · rw [gc, go _ (by omega)]; exact h.sl j hj
  · by_cases e : j = i
    · subst e; exact ⟨_, by rw [gc]; exact gs⟩
    · obtain ⟨u, hu⟩ := h.any j hj
      exact ⟨u, by rw [gc, go _ (by omega)]; exact hu⟩
  · rw [World.frozen?_of_block (w := wr.setCell ⟨g, i * 2, none⟩ (.string (mkT (kAq us k i)))) (a := ⟨g, q, none⟩) hgk, World.frozen?_setCell]
    exact h.fz q
  · by_cases e : j = i
    · subst e; rw [gc]; exact gs
    · rw [gc, go _ (by omega)]; exact h.rel j (by omega)
  · by_cases e : j = i
    · subst e; exact ht
    · refine (h.tm j (by omega)).kept fun q hq => ?_
      have hjl : j < us.length := by omega
      rw [hg.block q (by rw [hsz]; have := hA.lt hjl hq; have := h.size; omega) (fun e2 => hA.ap j i (by omega) hi q hq e2.symm), Below.heap_setCell _ _ _ _ (hA.gne hjl hq)]
end

set_option maxHeartbeats 4000000 in
set_option maxRecDepth 1000000 in
theorem markAtomS_full (w : World) (B g cap k : Nat) (us : List UV) (hA : AtB w B g us) (h0 : MkA w w g us k 0) (hk0 : 0 < k) (hn : us.length ≤ 1048576) (hln : ∀ j, j < us.length → (us.getD j noU).2.2.length ≤ 1048576) (hkb : ∀ j, j ≤ us.length → kAq us k j ≤ 576460752303423000) :
    Calls Tryd.prog 31 #[.slice (some ⟨g, 0, none⟩) us.length cap, .int .i64 k] w fun e w' => e = .returned (.int .i64 (kAq us k us.length : Nat)) ∧ MkA w w' g us k us.length := by
  have H0 := hid h0
  have HSt : Hid (∀ wr i, i < us.length → MkA w wr g us k i → ∀ w2, Below wr.heap.size wr w2 → (∃ u, w2.cell? ⟨g, i * 2, none⟩ = some u) ∧ w2.frozen? ⟨g, i * 2, none⟩ = false ∧ (w2.setCell ⟨g, i * 2, none⟩ (.string (mkT (kAq us k i)))).cell? ⟨g, i * 2 + 1, none⟩ = some (us.getD i noU).2.1 ∧ Calls Tryd.prog 65 #[(us.getD i noU).2.1, .int .i64 ((kAq us k i + 1 : Nat) : Int)] (w2.setCell ⟨g, i * 2, none⟩ (.string (mkT (kAq us k i)))) fun e w' => e = .returned (.int .i64 (kAq us k (i + 1) : Nat)) ∧ MkA w w' g us k (i + 1)) := hid fun wr i hi h w2 hb => by
    have h2 := h.below hb
    refine ⟨h2.any i hi, h2.fz _, ?_, ?_⟩
    · rw [World.cell?_setCell_other _ _ _ _ (by intro e; simp only [Addr.mk.injEq] at e; omega)]
      exact h2.sl i hi
    · have ho := h2.own hA hi
      have ho2 : (w2.setCell ⟨g, i * 2, none⟩ (.string (mkT (kAq us k i)))).ownsRow B 145 2 (us.getD i noU).2.1 (us.getD i noU).2.2.length ((us.getD i noU).2.2.flatMap tmc) := own_move ho fun q hq => Below.heap_setCell _ _ _ _ (hA.gne hi hq)
      refine (markTermS_any _ B (kAq us k i + 1) _ _ _ ho2 (hln i hi) (by omega) (by have := hkb i (by omega); omega)).mono ?_
      rintro e w' ⟨rfl, hg, ht⟩
      exact ⟨rfl, h2.step hA hi hg ht⟩
  have HSh : Hid (∀ i, i < us.length → ∃ a n c, (us.getD i noU).2.1 = .slice a n c) := hid fun i hi => by
    obtain ⟨a, c, e⟩ := own_shapeT2 (hA.tms i hi)
    exact ⟨a, _, c, e⟩
  have HKb := hid hkb
  have HKg : Hid (∀ j, k ≤ kAq us k j) := hid (kA_ge us k)
  clear hA h0 hln hkb
  go_enter Tryd.func31, Tryd.ntmps31
  go_wp2
  go_loopw [1, 5] (fun v t wr => ∃ i : Nat, i ≤ us.length ∧ t = .int .i64 i ∧ ∃ c : Nat, v = .int .i64 (c : Int) ∧ Hid (c = kAq us k i ∧ MkA w wr g us k i)) (fun _ t _ => us.length - (intOf t).toNat)
  case atStart => exact ⟨0, Nat.zero_le _, rfl, k, rfl, hid ⟨rfl, H0.out⟩⟩
  case round =>
    clear H0
    obtain ⟨i, hi, rfl, c, rfl, HH⟩ := hrel
    by_cases hin : i < us.length
    · have i1 : (i : Int) < (us.length : Int) := by omega
      have HM := hid HH.out.2
      have HC := hid HH.out.1
      have hcb : c ≤ 576460752303423000 := by rw [HC.out]; exact HKb.out i hi
      have hcg : k ≤ c := by rw [HC.out]; exact HKg.out i
      have K1 := hid (markText_calls wr c (by omega) (by omega))
      obtain ⟨av, nv, cv, ev⟩ := HSh.out i hin
      have HS2 : Hid (∀ w2, Below wr.heap.size wr w2 → (∃ u, w2.cell? ⟨g, i * 2, none⟩ = some u) ∧ w2.frozen? ⟨g, i * 2, none⟩ = false ∧ (w2.setCell ⟨g, i * 2, none⟩ (.string (mkT c))).cell? ⟨g, i * 2 + 1, none⟩ = some (.slice av nv cv) ∧ Calls Tryd.prog 65 #[.slice av nv cv, .int .i64 ((c : Int) + 1)] (w2.setCell ⟨g, i * 2, none⟩ (.string (mkT c))) fun e w' => e = .returned (.int .i64 (kAq us k (i + 1) : Nat)) ∧ MkA w w' g us k (i + 1)) := hid fun w2 hb => by
        have := HSt.out wr i hin HM.out w2 hb
        rw [← HC.out, ev, show ((c + 1 : Nat) : Int) = (c : Int) + 1 by omega] at this
        exact this
      clear HH HM HC ev
      generalize mkT c = s at *
      go_wp2_with fail
      refine K1.out.mono ?_
      rintro e w2 ⟨rfl, hb2⟩
      obtain ⟨⟨u0, c0⟩, f0, c1, hK⟩ := HS2.out w2 hb2
      have K2 := hid hK
      clear hK hb2 K1 HS2
      obtain ⟨z, hz⟩ : ∃ z, z = kAq us k (i + 1) := ⟨_, rfl⟩
      rw [← hz] at K2
      have HZ := hid hz
      clear hz
      go_wp2_with fail
      refine K2.out.mono ?_
      rintro e w4 ⟨rfl, hm4⟩
      have HM4 := hid hm4
      clear hm4 K2 c1 c0 f0
      go_wp2_with fail
      go_roundw
      case rel => exact ⟨i + 1, by omega, by go_num, z, rfl, hid ⟨HZ.out, HM4.out⟩⟩
      case measure => simp [intOf]; omega
    · obtain rfl : i = us.length := by omega
      have i1 : ¬ ((us.length : Int) < (us.length : Int)) := by omega
      go_wp2
      go_ret
      exact ⟨ret_int (by rw [HH.out.1]), HH.out.2⟩

set_option maxHeartbeats 4000000 in
set_option maxRecDepth 1000000 in
theorem heldAtomS_full (w : World) (g cap k : Nat) (us : List UV) (hrel : ∀ j, j < us.length → w.cell? ⟨g, j * 2, none⟩ = some (.string (mkT (kAq us k j)))) (hsl : ∀ j, j < us.length → w.cell? ⟨g, j * 2 + 1, none⟩ = some (us.getD j noU).2.1) (htm : ∀ j, j < us.length → TmM w (us.getD j noU).2.1 (us.getD j noU).2.2.length (kAq us k j + 1))
    (hsh : ∀ j, j < us.length → ((us.getD j noU).2.1 = .slice none 0 0 ∧ (us.getD j noU).2.2.length = 0) ∨ ∃ g cap, (us.getD j noU).2.1 = .slice (some ⟨g, 0, none⟩) (us.getD j noU).2.2.length cap) (hk0 : 0 < k) (hn : us.length ≤ 1048576) (hln : ∀ j, j < us.length → (us.getD j noU).2.2.length ≤ 1048576) (hkb : ∀ j, j ≤ us.length → kAq us k j ≤ 576460752303423000) :
    Calls Tryd.prog 33 #[.slice (some ⟨g, 0, none⟩) us.length cap, .int .i64 k] w fun e w' => e = .returned (.int .i64 (kAq us k us.length : Nat)) ∧ Below w.heap.size w w' := by
  have HKT : Hid (∀ W i, i < us.length → Below w.heap.size w W → Calls Tryd.prog 66 #[(us.getD i noU).2.1, .int .i64 ((kAq us k i + 1 : Nat) : Int)] W fun e w' => e = .returned (.int .i64 (kAq us k (i + 1) : Nat)) ∧ Below W.heap.size W w') := hid fun W i hi hb => heldTermS_any W (kAq us k i + 1) _ _ (hsh i hi) ((htm i hi).below hb) (hln i hi) (by omega) (by have := hkb i (by omega); omega)
  have HRel := hid hrel
  have HSl := hid hsl
  have HSh : Hid (∀ i, i < us.length → ∃ a n c, (us.getD i noU).2.1 = .slice a n c) := hid fun i hi => by
    rcases hsh i hi with ⟨e, -⟩ | ⟨g, c, e⟩
    · exact ⟨_, _, _, e⟩
    · exact ⟨_, _, _, e⟩
  have HKb := hid hkb
  have HKg : Hid (∀ j, k ≤ kAq us k j) := hid (kA_ge us k)
  clear hrel hsl htm hsh hln hkb
  go_enter Tryd.func33, Tryd.ntmps33
  go_wp2
  go_loopw [1, 5] (fun v t wr => ∃ i : Nat, i ≤ us.length ∧ t = .int .i64 i ∧ ∃ c : Nat, v = .int .i64 (c : Int) ∧ Hid (c = kAq us k i ∧ Below w.heap.size w wr)) (fun _ t _ => us.length - (intOf t).toNat)
  case atStart => exact ⟨0, Nat.zero_le _, rfl, k, rfl, hid ⟨rfl, Below.refl _ _⟩⟩
  case round =>
    obtain ⟨i, hi, rfl, c, rfl, HH⟩ := hrel
    by_cases hin : i < us.length
    · have i1 : (i : Int) < (us.length : Int) := by omega
      have HB := hid HH.out.2
      have HC := hid HH.out.1
      have hcb : c ≤ 576460752303423000 := by rw [HC.out]; exact HKb.out i hi
      have hcg : k ≤ c := by rw [HC.out]; exact HKg.out i
      have KM : Hid (∀ W, Calls Tryd.prog 43 #[.int .i64 (c : Int)] W fun e w' => e = .returned (.string (mkT c)) ∧ Below W.heap.size W w') := hid (fun W => markText_calls W c (by omega) (by omega))
      have c0' := HRel.out i hin
      rw [← HC.out] at c0'
      have c0 := (HB.out.cell (p := ⟨g, i * 2, none⟩) (World.block_lt_of_cell? w _ c0')).trans c0'
      have s0' := HSl.out i hin
      obtain ⟨av, nv, cv, ev⟩ := HSh.out i hin
      rw [ev] at s0'
      have HC1 : Hid (∀ W, Below wr.heap.size wr W → W.cell? ⟨g, i * 2 + 1, none⟩ = some (.slice av nv cv) ∧ Calls Tryd.prog 66 #[.slice av nv cv, .int .i64 ((c : Int) + 1)] W fun e w' => e = .returned (.int .i64 (kAq us k (i + 1) : Nat)) ∧ Below W.heap.size W w') := hid fun W hb => by
        have hb0 := bt HB.out hb
        refine ⟨(hb0.cell (p := ⟨g, i * 2 + 1, none⟩) (World.block_lt_of_cell? w _ s0')).trans s0', ?_⟩
        have := HKT.out W i hin hb0
        rw [← HC.out, ev, show ((c + 1 : Nat) : Int) = (c : Int) + 1 by omega] at this
        exact this
      obtain ⟨z, hz⟩ : ∃ z, z = kAq us k (i + 1) := ⟨_, rfl⟩
      rw [← hz] at HC1
      have HZ := hid hz
      clear HH c0' s0' ev hz
      generalize mkT c = s at *
      have hne : (!s.toList == s.toList) = false := by simp
      have HCL : Hid (∀ W, Below wr.heap.size wr W → W.cell? ⟨g, i * 2, none⟩ = some (.string s)) := hid fun W hb => (hb.cell (p := ⟨g, i * 2, none⟩) (World.block_lt_of_cell? wr _ c0)).trans c0
      go_wp2_with fail
      go_region_held3 (fun W => W.cell? ⟨g, i * 2, none⟩ = some (.string s) ∧ Below wr.heap.size wr W)
        (first | exact ⟨c0, (Below.refl _ _).drew⟩ | exact ⟨HCL.out _ (bt (Below.refl _ _).drew hb), bt (Below.refl _ _).drew hb⟩ | (refine ⟨HCL.out _ (bt (And.right (by assumption)) hb), bt (And.right (by assumption)) hb⟩))
        (first | (go_at_call 43; refine (KM.out _).mono ?_; rintro e w' ⟨rfl, hb⟩))
      rename_i hS
      obtain ⟨-, hbS⟩ := hS
      obtain ⟨d1, hK⟩ := HC1.out _ hbS
      have K2 := hid hK
      have HBS := hid hbS
      have hneg : ¬ ((z : Int) < 0) := by omega
      clear hbS hK HC1 HCL c0
      go_wp2_with fail
      refine K2.out.mono ?_
      rintro e w4 ⟨rfl, hb4⟩
      have HB4 := hid (bt (bt HB.out HBS.out) hb4)
      clear hb4 K2 d1
      go_wp2_with fail
      go_roundw
      case rel => exact ⟨i + 1, by omega, by go_num, z, rfl, hid ⟨HZ.out, HB4.out⟩⟩
      case measure => simp [intOf]; omega
    · obtain rfl : i = us.length := by omega
      have i1 : ¬ ((us.length : Int) < (us.length : Int)) := by omega
      go_wp2
      go_ret
      exact ⟨ret_int (by rw [HH.out.1]), HH.out.2⟩

set_option maxHeartbeats 400000 in
theorem markAtomS_zero (w : World) (a : Option Addr) (cap k : Nat) : Calls Tryd.prog 31 #[.slice a 0 cap, .int .i64 k] w fun e w' => e = .returned (.int .i64 k) ∧ w' = w := by
  go_enter Tryd.func31, Tryd.ntmps31
  go_wp2
  refine wp_loop_rounds 1 ?_
  rw [rounds_succ]
  go_wp2
  go_ret
  exact ⟨rfl, rfl⟩
set_option maxHeartbeats 400000 in
theorem heldAtomS_zero (w : World) (a : Option Addr) (cap k : Nat) : Calls Tryd.prog 33 #[.slice a 0 cap, .int .i64 k] w fun e w' => e = .returned (.int .i64 k) ∧ w' = w := by
  go_enter Tryd.func33, Tryd.ntmps33
  go_wp2
  refine wp_loop_rounds 1 ?_
  rw [rounds_succ]
  go_wp2
  go_ret
  exact ⟨rfl, rfl⟩

end Go.Proofs.YtcdfoephhjacdaaDoor
