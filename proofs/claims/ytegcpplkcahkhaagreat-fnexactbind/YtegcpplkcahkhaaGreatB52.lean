import Derived.Laws.BytesArg
import Derived.Test.YtegcpplkcahkhaaGreatB19
import Derived.Test.YtegcpplkcahkhaaGreatB51
/-
  laws.markText: a text that hangs on the number alone.
-/
namespace Go.Proofs.YtegcpplkcahkhaaGreat
open Go.RowKit

def mtxN : Nat → Nat → ByteArray → ByteArray
  | 0, _, s => s
  | n + 1, j, s => if j = 0 then s else mtxN n (j / 10) (strOfNums [48 + (j : Int) % 10] ++ s)
theorem mtxN_eq : ∀ (n m j : Nat) (s : ByteArray), j ≤ n → j ≤ m → mtxN n j s = mtxN m j s
  | 0, 0, _, _, _, _ => rfl
  | 0, m + 1, j, s, h, _ => (if_pos (show j = 0 by omega)).symm
  | n + 1, 0, j, s, _, h => if_pos (show j = 0 by omega)
  | n + 1, m + 1, j, s, hn, hm => by
    unfold mtxN
    by_cases h : j = 0
    · rw [if_pos h, if_pos h]
    · rw [if_neg h, if_neg h, mtxN_eq n m (j / 10) _ (by omega) (by omega)]
def mtx (j : Nat) (s : ByteArray) : ByteArray := mtxN j j s
theorem mtx_zero (s : ByteArray) : mtx 0 s = s := rfl
theorem mtx_more {j : Nat} (s : ByteArray) (h : ¬ j = 0) : mtx j s = mtx (j / 10) (strOfNums [48 + (j : Int) % 10] ++ s) := by
  unfold mtx
  rw [mtxN_eq j (j + 1) j s (by omega) (by omega)]
  refine (if_neg h).trans ?_
  exact mtxN_eq _ _ _ _ (by omega) (Nat.le_refl _)

/-- the mark k -/
def mkT (k : Nat) : ByteArray := ⟨#[109]⟩ ++ mtx k ⟨#[]⟩

set_option maxHeartbeats 2000000 in
set_option maxRecDepth 1000000 in
theorem markText_calls (w : World) (k : Nat) (hk0 : 0 < k) (hk : k ≤ 1152921504606846976) :
    Calls Tryz.prog 68 #[.int .i64 k] w fun e w' => e = .returned (.string (mkT k)) ∧ Below w.heap.size w w' := by
  have i0 : ¬ ((k : Int) ≤ 0) := by omega
  unfold mkT
  obtain ⟨T, hT⟩ : ∃ T, T = mtx k ⟨#[]⟩ := ⟨_, rfl⟩
  rw [← hT]
  have HT := hid hT
  clear hT
  go_enter Tryz.func68, Tryz.ntmps68
  go_wp2
  go_loopw [0, 3] (fun v t wr => ∃ (j : Nat) (s : ByteArray), s.size + j ≤ k ∧ v = .int .i64 j ∧ t = .string s ∧ Hid (Below w.heap.size w wr ∧ mtx j s = T)) (fun v _ _ => (intOf v).toNat)
  case atStart => exact ⟨k, _, by show 0 + k ≤ k; omega, rfl, rfl, hid ⟨Below.refl _ _, HT.out.symm⟩⟩
  case round =>
    obtain ⟨j, s, hj, rfl, rfl, HB⟩ := hrel
    by_cases h0 : 0 < j
    · have i1 : (0 : Int) < (j : Int) := by omega
      have HN : Hid (mtx (j / 10) (strOfNums [48 + (j : Int) % 10] ++ s) = T) := hid (by rw [← HB.out.2]; conv => rhs; rw [mtx_more _ (by omega)])
      have kc := run_convert_bytes_arg (P := Tryz.prog) (wr.alloc (.cells #[.int .u8 (48 + (j : Int) % 10)] 5)) 142 5 Tryz.underlying142 Tryz.underlying5 wr.heap.size 0 1 1 [48 + (j : Int) % 10] rfl (fun i hi => by
        have : i = 0 := by omega
        subst this
        rw [World.cell?_alloc_at _ _ _ _ rfl]; rfl) 9 Tryz.underlying9
      have hxs : (strOfNums [48 + (j : Int) % 10]).size = 1 := strOfNums_size _
      generalize strOfNums [48 + (j : Int) % 10] = x at *
      have hov : ¬ (9223372036854775807 < x.size + s.size) := by omega
      have HX := hid hxs
      clear hxs
      go_wp2
      go_roundw
      case rel => exact ⟨j / 10, x ++ s, by rw [ByteArray.size_append, HX.out]; omega, by go_num, rfl, hid ⟨bt HB.out.1 ((Below.refl _ _).alloc (Nat.le_refl _) _), HN.out⟩⟩
      case measure => simp [intOf]; omega
    · obtain rfl : j = 0 := by omega
      have hov : ¬ (9223372036854775807 < 1 + s.size) := by omega
      have HE : Hid (s = T) := hid (by have := HB.out.2; rw [mtx_zero] at this; exact this)
      go_wp2
      go_ret
      exact ⟨by rw [← HE.out]; rfl, HB.out.1⟩

end Go.Proofs.YtegcpplkcahkhaaGreat

/-
  laws.markStringS, heldStringS, markTermS.
-/
namespace Go.Proofs.YtegcpplkcahkhaaGreat
open Go.RowKit

/-- all blocks but g are as they were; of g all cells are there still, none frozen -/
structure Kg (g : Nat) (w w' : World) : Prop where
  os : w'.os = w.os
  tape : w'.tape = w.tape
  output : w'.output = w.output
  size : w.heap.size ≤ w'.heap.size
  block : ∀ b, b < w.heap.size → b ≠ g → w'.heap[b]? = w.heap[b]?
  any : ∀ q, (∃ u, w.cell? ⟨g, q, none⟩ = some u) → ∃ u, w'.cell? ⟨g, q, none⟩ = some u
  froz : ∀ q, g < w.heap.size → w.frozen? ⟨g, q, none⟩ = false → w'.frozen? ⟨g, q, none⟩ = false

theorem Kg.refl (g : Nat) (w : World) : Kg g w w := ⟨rfl, rfl, rfl, Nat.le_refl _, fun _ _ _ => rfl, fun _ h => h, fun _ _ h => h⟩
theorem Kg.trans {g : Nat} {a b c : World} (h : Kg g a b) (k : Kg g b c) : Kg g a c :=
  ⟨k.os.trans h.os, k.tape.trans h.tape, k.output.trans h.output, Nat.le_trans h.size k.size, fun x hx hg => (k.block x (Nat.lt_of_lt_of_le hx h.size) hg).trans (h.block x hx hg), fun q hq => k.any q (h.any q hq), fun q hg hq => k.froz q (Nat.lt_of_lt_of_le hg h.size) (h.froz q hg hq)⟩
theorem Kg.below {g : Nat} {a b c : World} (h : Kg g a b) (k : Below b.heap.size b c) : Kg g a c :=
  h.trans ⟨k.os, k.tape, k.output, k.size, fun x hx _ => k.block x hx, fun q ⟨u, hu⟩ => ⟨u, (k.cell (p := ⟨g, q, none⟩) (World.block_lt_of_cell? b _ hu)).trans hu⟩, fun q hg hq => (k.frozen (p := ⟨g, q, none⟩) hg).trans hq⟩
theorem Kg.set {g : Nat} {a b : World} (h : Kg g a b) (o : Nat) (v : Value) : Kg g a (b.setCell ⟨g, o, none⟩ v) :=
  h.trans ⟨rfl, rfl, rfl, by simp [World.setCell], fun x _ hg => heap_set_ne hg, fun q hq => cell_any hq, fun q _ hq => by rw [World.frozen?_setCell]; exact hq⟩

/-- n marks from k on -/
def mks (k n : Nat) : List ByteArray := (List.range n).map fun i => mkT (k + i)
theorem mks_length (k n : Nat) : (mks k n).length = n := by simp [mks]
theorem mks_get {k n j : Nat} (h : j < n) : (mks k n).getD j noTx = mkT (k + j) := by
  unfold mks
  rw [List.getD_eq_getElem?_getD, List.getElem?_map, List.getElem?_range h]; rfl

set_option maxHeartbeats 2000000 in
set_option maxRecDepth 1000000 in
theorem markStringS_calls (w : World) (g n cap k : Nat) (hc : ∀ j, j < n → ∃ u, w.cell? ⟨g, j, none⟩ = some u) (hf : ∀ j, j < n → w.frozen? ⟨g, j, none⟩ = false) (hg : g < w.heap.size) (hn : n ≤ 4398046511104) (hk0 : 0 < k) (hk : k ≤ 576460752303423488) :
    Calls Tryz.prog 38 #[.slice (some ⟨g, 0, none⟩) n cap, .int .i64 k] w fun e w' => e = .returned (.int .i64 (k + n : Nat)) ∧ Kg g w w' ∧ ∀ j, j < n → w'.cell? ⟨g, j, none⟩ = some (.string (mkT (k + j))) := by
  have HC := hid (And.intro hc hf)
  clear hc hf
  go_enter Tryz.func38, Tryz.ntmps38
  go_wp2
  go_loopw [1, 5] (fun v t wr => ∃ j : Nat, j ≤ n ∧ t = .int .i64 j ∧ v = .int .i64 (k + j : Nat) ∧ Hid (Kg g w wr ∧ ∀ i, i < j → wr.cell? ⟨g, i, none⟩ = some (.string (mkT (k + i))))) (fun _ t _ => n - (intOf t).toNat)
  case atStart => exact ⟨0, Nat.zero_le _, rfl, rfl, hid ⟨Kg.refl _ _, fun i hi => by omega⟩⟩
  case round =>
    obtain ⟨j, hj, rfl, rfl, HH⟩ := hrel
    by_cases hjn : j < n
    · have i1 : (j : Int) < (n : Int) := by omega
      go_wp2_with fail
      refine (markText_calls wr (k + j) (by omega) (by omega)).mono ?_
      rintro e w2 ⟨rfl, hb⟩
      have hK := HH.out.1.below hb
      obtain ⟨u, c0⟩ := hK.any j (HC.out.1 j hjn)
      have f0 := hK.froz j hg (HC.out.2 j hjn)
      have HN : Hid (Kg g w (w2.setCell ⟨g, j, none⟩ (.string (mkT (k + j)))) ∧ ∀ i, i < j + 1 → (w2.setCell ⟨g, j, none⟩ (.string (mkT (k + j)))).cell? ⟨g, i, none⟩ = some (.string (mkT (k + i)))) := hid ⟨hK.set _ _, fun i hi => by
        by_cases e : i = j
        · subst e; exact World.cell?_setCell_same _ _ _ c0
        · rw [World.cell?_setCell_other _ _ _ _ (by intro e2; simp only [Addr.mk.injEq] at e2; omega)]
          have := HH.out.2 i (by omega)
          exact (hb.cell (p := ⟨g, i, none⟩) (World.block_lt_of_cell? wr _ this)).trans this⟩
      clear hb hK HH
      generalize mkT (k + j) = s at *
      go_wp2
      go_roundw
      case rel => exact ⟨j + 1, by omega, by go_num, by go_num, HN⟩
      case measure => simp [intOf]; omega
    · obtain rfl : j = n := by omega
      have i1 : ¬ ((j : Int) < (j : Int)) := by omega
      go_wp2
      go_ret
      exact ⟨rfl, HH.out⟩

set_option maxHeartbeats 4000000 in
set_option maxRecDepth 1000000 in
theorem markTermS_calls (w : World) (g n cap k : Nat) (hc : ∀ j, j < n * 2 → ∃ u, w.cell? ⟨g, j, none⟩ = some u) (hf : ∀ j, j < n * 2 → w.frozen? ⟨g, j, none⟩ = false) (hg : g < w.heap.size) (hn : n ≤ 1048576) (hk0 : 0 < k) (hk : k ≤ 576460752303423488) :
    Calls Tryz.prog 69 #[.slice (some ⟨g, 0, none⟩) n cap, .int .i64 k] w fun e w' => e = .returned (.int .i64 (k + 2 * n : Nat)) ∧ Kg g w w' := by
  have HC := hid (And.intro hc hf)
  clear hc hf
  go_enter Tryz.func69, Tryz.ntmps69
  go_wp2
  go_loopw [1, 5] (fun v t wr => ∃ j : Nat, j ≤ n ∧ t = .int .i64 j ∧ v = .int .i64 (k + 2 * j : Nat) ∧ Hid (Kg g w wr)) (fun _ t _ => n - (intOf t).toNat)
  case atStart => exact ⟨0, Nat.zero_le _, rfl, rfl, hid (Kg.refl _ _)⟩
  case round =>
    obtain ⟨j, hj, rfl, rfl, HH⟩ := hrel
    by_cases hjn : j < n
    · have i1 : (j : Int) < (n : Int) := by omega
      go_wp2_with fail
      refine (markText_calls wr (k + 2 * j) (by omega) (by omega)).mono ?_
      rintro e w2 ⟨rfl, hb⟩
      have hK := HH.out.below hb
      obtain ⟨u, c0⟩ := hK.any (j * 2) (HC.out.1 (j * 2) (by omega))
      have f0 := hK.froz (j * 2) hg (HC.out.2 (j * 2) (by omega))
      obtain ⟨u1, c1⟩ := hK.any (j * 2 + 1) (HC.out.1 (j * 2 + 1) (by omega))
      have f1 := hK.froz (j * 2 + 1) hg (HC.out.2 (j * 2 + 1) (by omega))
      have HN : Hid (∀ s v, Kg g w ((w2.setCell ⟨g, j * 2, none⟩ s).setCell ⟨g, j * 2 + 1, none⟩ v)) := hid (fun s v => (hK.set _ _).set _ _)
      clear hb hK HH
      generalize mkT (k + 2 * j) = s at *
      go_wp2
      go_roundw
      case rel => exact ⟨j + 1, by omega, by go_num, by go_num, hid (HN.out _ _)⟩
      case measure => simp [intOf]; omega
    · obtain rfl : j = n := by omega
      have i1 : ¬ ((j : Int) < (j : Int)) := by omega
      go_wp2
      go_ret
      exact ⟨rfl, HH.out⟩

end Go.Proofs.YtegcpplkcahkhaaGreat

/-
  laws.markAtomS, markQuery: only the copy's own blocks are turned.
-/
namespace Go.Proofs.YtegcpplkcahkhaaGreat
open Go.RowKit

theorem Fr.kg {lo hi g : Nat} {a b c : World} (h : Fr lo hi a b) (k : Kg g b c) (h1 : lo ≤ g) (h2 : g < hi) : Fr lo hi a c :=
  h.trans ⟨k.os, k.tape, k.output, k.size, fun x hx hg => k.block x hx (by omega)⟩
/-- one atom's cells, and those of its terms -/
def Sh1 (W : World) (g i m hi : Nat) : Prop := (∃ u, W.cell? ⟨g, i * 2, none⟩ = some u) ∧ W.frozen? ⟨g, i * 2, none⟩ = false ∧ ∃ gt, W.cell? ⟨g, i * 2 + 1, none⟩ = some (.slice (some ⟨gt, 0, none⟩) m m) ∧ g < gt ∧ gt < hi ∧ gt < W.heap.size ∧ ∀ j, j < m * 2 → (∃ u, W.cell? ⟨gt, j, none⟩ = some u) ∧ W.frozen? ⟨gt, j, none⟩ = false
def ShAt (W : World) (g n hi : Nat) (ln : Nat → Nat) : Prop := ∀ i, i < n → Sh1 W g i (ln i) hi

theorem Sh1.bel {W W' : World} {g i m hi : Nat} (h : Sh1 W g i m hi) (hb : Below W.heap.size W W') : Sh1 W' g i m hi := by
  obtain ⟨⟨u, h0⟩, h1, gt, h2, h3, h4, h5, h6⟩ := h
  have hg := World.block_lt_of_cell? W _ h0
  refine ⟨⟨u, (hb.cell (p := ⟨g, i * 2, none⟩) hg).trans h0⟩, (hb.frozen (p := ⟨g, i * 2, none⟩) hg).trans h1, gt, (hb.cell (p := ⟨g, i * 2 + 1, none⟩) hg).trans h2, h3, h4, Nat.lt_of_lt_of_le h5 hb.size, fun j hj => ?_⟩
  obtain ⟨⟨v, k0⟩, k1⟩ := h6 j hj
  exact ⟨⟨v, (hb.cell (p := ⟨gt, j, none⟩) h5).trans k0⟩, (hb.frozen (p := ⟨gt, j, none⟩) h5).trans k1⟩

theorem Sh1.kg {W W' : World} {g i m hi c : Nat} (h : Sh1 W g i m hi) (hk : Kg c W W') (hc : c ≠ g) : Sh1 W' g i m hi := by
  obtain ⟨⟨u, h0⟩, h1, gt, h2, h3, h4, h5, h6⟩ := h
  have hg : g < W.heap.size := World.block_lt_of_cell? W _ h0
  have hbk := hk.block g hg (fun e => hc e.symm)
  refine ⟨⟨u, (World.cell?_of_block (w := W) (a := ⟨g, i * 2, none⟩) hbk).trans h0⟩, (World.frozen?_of_block (w := W) (a := ⟨g, i * 2, none⟩) hbk).trans h1, gt, (World.cell?_of_block (w := W) (a := ⟨g, i * 2 + 1, none⟩) hbk).trans h2, h3, h4, Nat.lt_of_lt_of_le h5 hk.size, fun j hj => ?_⟩
  obtain ⟨h7, h8⟩ := h6 j hj
  by_cases e : gt = c
  · subst e
    exact ⟨hk.any j h7, hk.froz j h5 h8⟩
  · have hb2 := hk.block gt h5 e
    obtain ⟨v, k0⟩ := h7
    exact ⟨⟨v, (World.cell?_of_block (w := W) (a := ⟨gt, j, none⟩) hb2).trans k0⟩, (World.frozen?_of_block (w := W) (a := ⟨gt, j, none⟩) hb2).trans h8⟩

theorem Sh1.set {W : World} {g i m hi q : Nat} {v : Value} (h : Sh1 W g i m hi) : Sh1 (W.setCell ⟨g, q * 2, none⟩ v) g i m hi := by
  obtain ⟨h0, h1, gt, h2, h3, h4, h5, h6⟩ := h
  refine ⟨cell_any h0, by rw [World.frozen?_setCell]; exact h1, gt, (World.cell?_setCell_other _ _ _ _ (by intro e; simp only [Addr.mk.injEq] at e; omega)).trans h2, h3, h4, by simpa [World.setCell] using h5, fun j hj => ?_⟩
  obtain ⟨⟨u, k0⟩, k1⟩ := h6 j hj
  exact ⟨⟨u, (World.cell?_setCell_other _ _ _ _ (by intro e; simp only [Addr.mk.injEq] at e; omega)).trans k0⟩, by rw [World.frozen?_setCell]; exact k1⟩

theorem OwnAt.shape {W : World} {g : Nat} {l : List AtomV} (h : OwnAt W g l) : ShAt W g l.length W.heap.size (fun i => (l.getD i noAt).2.length) := by
  intro i hi
  obtain ⟨u0, u1, h0, h1, e0, gt, e1, h2, h3⟩ := h.1.pair i hi
  subst e1
  refine ⟨⟨u0, h0⟩, h.1.free _ (by omega), gt, h1, h3, h2.lt, h2.lt, fun j hj => ⟨?_, h2.free j hj⟩⟩
  have hj' : j < (l.getD i noAt).2.length * 2 := hj
  have := h2.cell (j / 2) (by omega)
  rcases Nat.mod_two_eq_zero_or_one j with e | e
  · exact ⟨_, by rw [show j = j / 2 * 2 by omega]; exact this.1⟩
  · exact ⟨_, by rw [show j = j / 2 * 2 + 1 by omega]; exact this.2⟩

set_option maxHeartbeats 4000000 in
set_option maxRecDepth 1000000 in
theorem markAtomS_calls (w : World) (g n cap k hi : Nat) (ln : Nat → Nat) (h : ShAt w g n hi ln) (hln : ∀ i, i < n → ln i ≤ 1048576) (hgh : g < hi) (hn : n ≤ 1048576) (hk0 : 0 < k) (hk : k ≤ 4194304) :
    Calls Tryz.prog 39 #[.slice (some ⟨g, 0, none⟩) n cap, .int .i64 k] w fun e w' => ∃ k' : Nat, e = .returned (.int .i64 k') ∧ Fr g hi w w' := by
  have HS := hid h
  have HL := hid hln
  clear h hln
  go_enter Tryz.func39, Tryz.ntmps39
  go_wp2
  go_loopw [1, 5] (fun v t wr => ∃ (j z : Nat), j ≤ n ∧ t = .int .i64 j ∧ v = .int .i64 z ∧ 0 < z ∧ z ≤ 4194304 + j * 4194304 ∧ Hid (Fr g hi w wr ∧ ShAt wr g n hi ln)) (fun _ t _ => n - (intOf t).toNat)
  case atStart => exact ⟨0, k, Nat.zero_le _, rfl, rfl, hk0, by omega, hid ⟨Fr.refl _ _ _, HS.out⟩⟩
  case round =>
    obtain ⟨j, z, hj, rfl, rfl, hz0, hz1, HH⟩ := hrel
    by_cases hjn : j < n
    · have i1 : (j : Int) < (n : Int) := by omega
      go_wp2_with fail
      refine (markText_calls wr z (by omega) (by omega)).mono ?_
      rintro e w2 ⟨rfl, hb⟩
      have hS2 : ShAt w2 g n hi ln := fun i hi => (HH.out.2 i hi).bel hb
      have HF2 := hid (HH.out.1.bel hb)
      obtain ⟨⟨u, c0⟩, f0, -⟩ := hS2 j hjn
      have HS2 := hid hS2
      clear hb hS2 HH
      generalize mkT z = s at *
      go_upto_region 6 with fail
      have HS3 : Hid (ShAt (w2.setCell ⟨g, j * 2, none⟩ (.string s)) g n hi ln) := hid (fun i hi => (HS2.out i hi).set)
      have HF3 : Hid (Fr g hi w (w2.setCell ⟨g, j * 2, none⟩ (.string s))) := hid (HF2.out.set (Nat.le_refl _) hgh)
      clear HS2 HF2 c0 f0
      generalize w2.setCell ⟨g, j * 2, none⟩ (.string s) = w3 at *
      obtain ⟨-, -, gt, c1, g1, g2, g3, g4⟩ := HS3.out j hjn
      have K := hid (markTermS_calls w3 gt (ln j) (ln j) (z + 1) (fun q hq => (g4 q hq).1) (fun q hq => (g4 q hq).2) g3 (HL.out j hjn) (by omega) (by omega))
      have hlj := HL.out j hjn
      clear g4
      generalize ln j = m at *
      go_wp2_with fail
      refine K.out.mono ?_
      rintro e w4 ⟨rfl, hK4⟩
      have HN : Hid (Fr g hi w w4 ∧ ShAt w4 g n hi ln) := hid ⟨HF3.out.kg hK4 (by omega) g2, fun i hi => (HS3.out i hi).kg hK4 (by omega)⟩
      clear hK4 K HS3 HF3 c1
      go_wp2
      go_roundw
      case rel => exact ⟨j + 1, z + 1 + 2 * m, by omega, by go_num, by go_num, by omega, by omega, HN⟩
      case measure => simp [intOf]; omega
    · obtain rfl : j = n := by omega
      have i1 : ¬ ((j : Int) < (j : Int)) := by omega
      go_wp2
      go_ret
      first | exact ⟨⟨_, rfl⟩, HH.out.1⟩ | exact HH.out.1 | exact ⟨_, rfl, HH.out.1⟩

set_option maxHeartbeats 4000000 in
set_option maxRecDepth 1000000 in
theorem markQuery_calls (w : World) (lo gh ga hi : Nat) (q : QV) (hH : OwnSt w gh q.head) (hS : ShAt w ga q.atoms.length hi (fun i => (q.atoms.getD i noAt).2.length)) (hlo : lo ≤ gh) (hla : gh < ga) (hgah : ga < hi) (hq : OkQ q) :
    Calls Tryz.prog 14 #[.agg #[.string q.name, .slice (some ⟨gh, 0, none⟩) q.head.length q.head.length, .int .i64 q.ring, .slice (some ⟨ga, 0, none⟩) q.atoms.length q.atoms.length], .int .i64 1] w fun e w' => ∃ k' : Nat, e = .returned (.int .i64 k') ∧ Fr lo hi w w' := by
  have HB := hid ((Below.refl w.heap.size w).alloc (Nat.le_refl _) (.cells #[.string q.name, .slice (some ⟨gh, 0, none⟩) q.head.length q.head.length, .int .i64 q.ring, .slice (some ⟨ga, 0, none⟩) q.atoms.length q.atoms.length] 39))
  have hO := hH.below HB.out
  have hgh := hH.lt
  obtain ⟨W1, hW1⟩ : ∃ W, W = w.alloc (.cells #[.string q.name, .slice (some ⟨gh, 0, none⟩) q.head.length q.head.length, .int .i64 q.ring, .slice (some ⟨ga, 0, none⟩) q.atoms.length q.atoms.length] 39) := ⟨_, rfl⟩
  have c1 : W1.cell? ⟨w.heap.size, 1, none⟩ = some (.slice (some ⟨gh, 0, none⟩) q.head.length q.head.length) := by rw [hW1, World.cell?_alloc_at _ _ _ _ rfl]; rfl
  have c3 : W1.cell? ⟨w.heap.size, 3, none⟩ = some (.slice (some ⟨ga, 0, none⟩) q.atoms.length q.atoms.length) := by rw [hW1, World.cell?_alloc_at _ _ _ _ rfl]; rfl
  have hsz : w.heap.size < W1.heap.size := by rw [hW1]; simp
  rw [← hW1] at HB hO
  have hsh : ShAt W1 ga q.atoms.length hi (fun i => (q.atoms.getD i noAt).2.length) := fun i hi => by
    rw [hW1]; exact (hS i hi).bel ((Below.refl _ _).alloc (Nat.le_refl _) _)
  have HSH := hid hsh
  have KH := hid (markStringS_calls W1 gh q.head.length q.head.length 1 (fun j hj => ⟨_, hO.cell j hj⟩) (fun j hj => hO.free j hj) hO.lt (by have := hq.len; omega) (by omega) (by omega))
  have HLN : Hid (∀ i, i < q.atoms.length → (q.atoms.getD i noAt).2.length ≤ 1048576) := hid (fun i hi => (hq.atoms i hi).len)
  have hal := hq.alen
  have hhl := hq.len
  clear hH hS hO hsh hq
  generalize q.name = nm at *
  generalize q.ring = rg at *
  go_enter Tryz.func14, Tryz.ntmps14
  go_upto_region 1 with fail
  rw [← hW1]
  clear hW1
  go_wp2_with fail
  refine KH.out.mono ?_
  rintro e w2 ⟨rfl, hK2, -⟩
  have d3 : w2.cell? ⟨w.heap.size, 3, none⟩ = some (.slice (some ⟨ga, 0, none⟩) q.atoms.length q.atoms.length) := (World.cell?_of_block (w := W1) (a := ⟨w.heap.size, 3, none⟩) (hK2.block w.heap.size hsz (by omega))).trans c3
  have HF2 : Hid (Fr lo hi w w2) := hid (((Fr.refl lo hi w).bel HB.out).kg hK2 hlo (by omega))
  have K := hid (markAtomS_calls w2 ga q.atoms.length q.atoms.length (1 + q.head.length) hi (fun i => (q.atoms.getD i noAt).2.length) (fun i hi => (HSH.out i hi).kg hK2 (by omega)) HLN.out hgah hal (by omega) (by omega))
  clear hK2 KH HSH c1 c3
  go_wp2_with fail
  refine K.out.mono ?_
  rintro e w3 ⟨k', rfl, hF3⟩
  have HF3 : Hid (Fr lo hi w w3) := hid (HF2.out.trans ⟨hF3.os, hF3.tape, hF3.output, hF3.size, fun b hb h => hF3.block b hb (h.imp (fun h => by omega) (fun h => h))⟩)
  clear hF3 K
  go_wp2
  go_ret
  first | exact ⟨⟨_, rfl⟩, HF3.out⟩ | exact HF3.out | exact ⟨_, rfl, HF3.out⟩

end Go.Proofs.YtegcpplkcahkhaaGreat
