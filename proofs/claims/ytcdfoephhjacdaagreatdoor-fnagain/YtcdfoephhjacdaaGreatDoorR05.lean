import Derived.Test.YtcdfoephhjacdaaGreatDoorR00
import Derived.Test.YtcdfoephhjacdaaGreatDoorR01
/-
  Sorted rows, each once: what merging halves gives, and what sorting and taking out neighbours that are alike gives, are one and the same.
-/
namespace Go.Proofs.YtcdfoephhjacdaaGreatDoor

theorem cmpL_self : ∀ a : List Int, cmpL a a = 0
  | [] => rfl
  | x :: a => by simp [cmpL, cmpL_self a]
theorem cmpL_eq : ∀ {a b : List Int}, cmpL a b = 0 → a = b
  | [], [], _ => rfl
  | [], _ :: _, h => by simp [cmpL] at h
  | _ :: _, [], h => by simp [cmpL] at h
  | x :: a, y :: b, h => by
    simp only [cmpL] at h
    split at h
    · omega
    · split at h
      · omega
      · rw [cmpL_eq h, show x = y by omega]
theorem cmpL_neg : ∀ a b : List Int, cmpL b a = - cmpL a b
  | [], [] => rfl
  | [], _ :: _ => rfl
  | _ :: _, [] => rfl
  | x :: a, y :: b => by
    simp only [cmpL]
    by_cases h1 : x < y
    · rw [if_neg (by omega), if_pos h1, if_pos h1]; rfl
    · by_cases h2 : y < x
      · rw [if_pos h2, if_neg h1, if_pos h2]
      · rw [if_neg h2, if_neg h1, if_neg h1, if_neg h2]; exact cmpL_neg a b
theorem cmpL_trans : ∀ {a b c : List Int}, cmpL a b < 0 → cmpL b c < 0 → cmpL a c < 0
  | [], [], _, h, _ => by simp [cmpL] at h
  | [], _ :: _, [], _, h => by simp [cmpL] at h
  | [], _ :: _, _ :: _, _, _ => by simp [cmpL]
  | _ :: _, [], _, h, _ => by simp [cmpL] at h
  | _ :: _, _ :: _, [], _, h => by simp [cmpL] at h
  | x :: a, y :: b, z :: c, h1, h2 => by
    simp only [cmpL] at h1 h2 ⊢
    by_cases e1 : x < y
    · by_cases e2 : y < z
      · rw [if_pos (by omega)]; decide
      · rw [if_neg e2] at h2
        by_cases e3 : z < y
        · rw [if_pos e3] at h2; omega
        · rw [if_pos (by omega)]; decide
    · rw [if_neg e1] at h1
      by_cases e2 : y < x
      · rw [if_pos e2] at h1; omega
      · rw [if_neg e2] at h1
        by_cases e3 : y < z
        · rw [if_pos (by omega)]; decide
        · rw [if_neg e3] at h2
          by_cases e4 : z < y
          · rw [if_pos e4] at h2; omega
          · rw [if_neg e4] at h2
            rw [if_neg (by omega), if_neg (by omega)]
            exact cmpL_trans h1 h2

/-- ascending, each once -/
def SL (l : List (List Int)) : Prop := l.Pairwise fun a b => cmpL a b < 0

theorem SL.uniq : ∀ {a b : List (List Int)}, SL a → SL b → (∀ x, x ∈ a ↔ x ∈ b) → a = b
  | [], [], _, _, _ => rfl
  | [], y :: b, _, _, h => by have := (h y).2 (List.mem_cons_self ..); cases this
  | x :: a, [], _, _, h => by have := (h x).1 (List.mem_cons_self ..); cases this
  | x :: a, y :: b, ha, hb, h => by
    unfold SL at ha hb
    rw [List.pairwise_cons] at ha hb
    have hxy : x = y := by
      rcases List.mem_cons.1 ((h x).1 (List.mem_cons_self ..)) with e | e
      · exact e
      · rcases List.mem_cons.1 ((h y).2 (List.mem_cons_self ..)) with e2 | e2
        · exact e2.symm
        · have h1 := hb.1 x e
          have h2 := ha.1 y e2
          have := cmpL_trans h1 h2
          rw [cmpL_self] at this
          omega
    subst hxy
    rw [SL.uniq (a := a) (b := b) ha.2 hb.2 fun z => ?_]
    constructor
    · intro hz
      rcases List.mem_cons.1 ((h z).1 (List.mem_cons_of_mem _ hz)) with e | e
      · subst e; have := ha.1 _ hz; rw [cmpL_self] at this; omega
      · exact e
    · intro hz
      rcases List.mem_cons.1 ((h z).2 (List.mem_cons_of_mem _ hz)) with e | e
      · subst e; have := hb.1 _ hz; rw [cmpL_self] at this; omega
      · exact e

/-- merging: x stands ahead of what f merges, xa is both together -/
def mrgX (x : List Int) (f : List (List Int) → List (List Int)) (xa : List (List Int)) : List (List Int) → List (List Int)
  | [] => xa
  | y :: b => if cmpL x y < 0 then x :: f (y :: b) else if 0 < cmpL x y then y :: mrgX x f xa b else x :: f b
/-- merging -/
def mrg : List (List Int) → List (List Int) → List (List Int)
  | [] => fun b => b
  | x :: a => mrgX x (mrg a) (x :: a)
theorem mrg_nil_left (b : List (List Int)) : mrg [] b = b := rfl
theorem mrg_nil_right (a : List (List Int)) : mrg a [] = a := by cases a <;> rfl
theorem mrg_lt {x y : List Int} {a b : List (List Int)} (h : cmpL x y < 0) : mrg (x :: a) (y :: b) = x :: mrg a (y :: b) := if_pos h
theorem mrg_gt {x y : List Int} {a b : List (List Int)} (h : 0 < cmpL x y) : mrg (x :: a) (y :: b) = y :: mrg (x :: a) b := (if_neg (by omega)).trans (if_pos h)
theorem mrg_eq {x y : List Int} {a b : List (List Int)} (h1 : ¬ cmpL x y < 0) (h2 : ¬ 0 < cmpL x y) : mrg (x :: a) (y :: b) = x :: mrg a b := (if_neg h1).trans (if_neg h2)

theorem mem_mrg (z : List Int) : ∀ (n : Nat) (a b : List (List Int)), a.length + b.length ≤ n → (z ∈ mrg a b ↔ z ∈ a ∨ z ∈ b)
  | n, [], b, _ => by rw [mrg_nil_left]; simp
  | n, x :: a, [], _ => by rw [mrg_nil_right]; simp
  | n + 1, x :: a, y :: b, h => by
    simp only [List.length_cons] at h
    by_cases h1 : cmpL x y < 0
    · rw [mrg_lt h1, List.mem_cons, mem_mrg z n a (y :: b) (by simp only [List.length_cons]; omega), List.mem_cons, List.mem_cons, or_assoc]
    · by_cases h2 : 0 < cmpL x y
      · rw [mrg_gt h2, List.mem_cons, mem_mrg z n (x :: a) b (by simp only [List.length_cons]; omega), List.mem_cons, List.mem_cons]
        constructor
        · rintro (h | (h | h) | h)
          · exact Or.inr (Or.inl h)
          · exact Or.inl (Or.inl h)
          · exact Or.inl (Or.inr h)
          · exact Or.inr (Or.inr h)
        · rintro ((h | h) | (h | h))
          · exact Or.inr (Or.inl (Or.inl h))
          · exact Or.inr (Or.inl (Or.inr h))
          · exact Or.inl h
          · exact Or.inr (Or.inr h)
      · have e : x = y := cmpL_eq (by omega)
        subst e
        rw [mrg_eq h1 h2, List.mem_cons, mem_mrg z n a b (by omega), List.mem_cons, List.mem_cons]
        constructor
        · rintro (h | h | h)
          · exact Or.inl (Or.inl h)
          · exact Or.inl (Or.inr h)
          · exact Or.inr (Or.inr h)
        · rintro ((h | h) | (h | h))
          · exact Or.inl h
          · exact Or.inr (Or.inl h)
          · exact Or.inl h
          · exact Or.inr (Or.inr h)
  | 0, x :: a, y :: b, h => by simp only [List.length_cons] at h; omega

theorem SL.mrg : ∀ (n : Nat) (a b : List (List Int)), a.length + b.length ≤ n → SL a → SL b → SL (mrg a b)
  | n, [], b, _, _, hb => by rw [mrg_nil_left]; exact hb
  | n, x :: a, [], _, ha, _ => by rw [mrg_nil_right]; exact ha
  | 0, x :: a, y :: b, h, _, _ => by simp only [List.length_cons] at h; omega
  | n + 1, x :: a, y :: b, h, ha, hb => by
    simp only [List.length_cons] at h
    have ha' := List.pairwise_cons.1 ha
    have hb' := List.pairwise_cons.1 hb
    by_cases h1 : cmpL x y < 0
    · rw [mrg_lt h1]
      refine List.pairwise_cons.2 ⟨fun z hz => ?_, SL.mrg n a (y :: b) (by simp only [List.length_cons]; omega) ha'.2 hb⟩
      rcases (mem_mrg z _ a (y :: b) (Nat.le_refl _)).1 hz with h | h
      · exact ha'.1 z h
      · rcases List.mem_cons.1 h with rfl | h
        · exact h1
        · exact cmpL_trans h1 (hb'.1 z h)
    · by_cases h2 : 0 < cmpL x y
      · have h3 : cmpL y x < 0 := by rw [cmpL_neg]; omega
        rw [mrg_gt h2]
        refine List.pairwise_cons.2 ⟨fun z hz => ?_, SL.mrg n (x :: a) b (by simp only [List.length_cons]; omega) ha hb'.2⟩
        rcases (mem_mrg z _ (x :: a) b (Nat.le_refl _)).1 hz with h | h
        · rcases List.mem_cons.1 h with rfl | h
          · exact h3
          · exact cmpL_trans h3 (ha'.1 z h)
        · exact hb'.1 z h
      · have e : x = y := cmpL_eq (by omega)
        subst e
        rw [mrg_eq h1 h2]
        refine List.pairwise_cons.2 ⟨fun z hz => ?_, SL.mrg n a b (by omega) ha'.2 hb'.2⟩
        rcases (mem_mrg z _ a b (Nat.le_refl _)).1 hz with h | h
        · exact ha'.1 z h
        · exact hb'.1 z h

/-- halves sorted and merged -/
def srtN : Nat → List (List Int) → List (List Int)
  | 0, l => l
  | n + 1, l => if l.length < 2 then l else mrg (srtN n (l.take (l.length / 2))) (srtN n (l.drop (l.length / 2)))
def srt (l : List (List Int)) : List (List Int) := srtN l.length l
end Go.Proofs.YtcdfoephhjacdaaGreatDoor

/-
  Lists of texts: laws.szStringS, toStringS, eqStringS.
-/
namespace Go.Proofs.YtcdfoephhjacdaaGreatDoor
open Go.RowKit

def noTx : ByteArray := ⟨#[]⟩

def ISt (w : World) (v : Value) (l : List ByteArray) : Prop := ∃ a cap, v = .slice a l.length cap ∧ (l.length = 0 ∨ ∃ b o, a = some ⟨b, o, none⟩ ∧ ∀ j, j < l.length → w.cell? ⟨b, o + j, none⟩ = some (.string (l.getD j noTx)))

theorem ISt.below {w w' : World} {v : Value} {l : List ByteArray} (h : ISt w v l) (hb : Below w.heap.size w w') : ISt w' v l := by
  obtain ⟨a, cap, rfl, h⟩ := h
  refine ⟨a, cap, rfl, ?_⟩
  rcases h with h | ⟨b, o, rfl, h⟩
  · exact Or.inl h
  · exact Or.inr ⟨b, o, rfl, fun j hj => (hb.cell (p := ⟨b, o + j, none⟩) (World.block_lt_of_cell? w _ (h j hj))).trans (h j hj)⟩

theorem ISt.drewN {w : World} {v : Value} {l : List ByteArray} (h : ISt w v l) (m : Nat) : ISt (w.drewN m) v l := h

/-- a copy in block g -/
structure OwnSt (w : World) (g : Nat) (l : List ByteArray) : Prop where
  cell : ∀ j, j < l.length → w.cell? ⟨g, j, none⟩ = some (.string (l.getD j noTx))
  free : ∀ j, j < l.length → w.frozen? ⟨g, j, none⟩ = false
  lt : g < w.heap.size

theorem OwnSt.is {w : World} {g : Nat} {l : List ByteArray} (h : OwnSt w g l) : ISt w (.slice (some ⟨g, 0, none⟩) l.length l.length) l :=
  ⟨_, _, rfl, Or.inr ⟨g, 0, rfl, fun j hj => by rw [Nat.zero_add]; exact h.cell j hj⟩⟩
theorem OwnSt.below {w w' : World} {g : Nat} {l : List ByteArray} (h : OwnSt w g l) (hb : Below w.heap.size w w') : OwnSt w' g l :=
  ⟨fun j hj => (hb.cell (p := ⟨g, j, none⟩) h.lt).trans (h.cell j hj), fun j hj => (hb.frozen (p := ⟨g, j, none⟩) h.lt).trans (h.free j hj), Nat.lt_of_lt_of_le h.lt hb.size⟩
theorem OwnSt.move {w w' : World} {g : Nat} {l : List ByteArray} (h : OwnSt w g l) (hb : w'.heap[g]? = w.heap[g]?) (hs : w.heap.size ≤ w'.heap.size) : OwnSt w' g l :=
  ⟨fun j hj => (World.cell?_of_block (w := w) (a := ⟨g, j, none⟩) hb).trans (h.cell j hj), fun j hj => (World.frozen?_of_block (w := w) (a := ⟨g, j, none⟩) hb).trans (h.free j hj), Nat.lt_of_lt_of_le h.lt hs⟩

end Go.Proofs.YtcdfoephhjacdaaGreatDoor

/-
  laws.markIntSS on a copy of the law's own: only the blocks of its lists are others.
-/
namespace Go.Proofs.YtcdfoephhjacdaaGreatDoor
open Go.RowKit

/-- only the blocks f 0 .. f (n - 1) are others -/
structure Ost (f : Nat → Nat) (n : Nat) (w w' : World) : Prop where
  os : w'.os = w.os
  tape : w'.tape = w.tape
  output : w'.output = w.output
  size : w'.heap.size = w.heap.size
  block : ∀ b, (∀ i, i < n → b ≠ f i) → w'.heap[b]? = w.heap[b]?

theorem Ost.refl (f : Nat → Nat) (w : World) : Ost f 0 w w := ⟨rfl, rfl, rfl, rfl, fun _ _ => rfl⟩
theorem Ost.step {f : Nat → Nat} {n : Nat} {w w1 w2 : World} (h : Ost f n w w1) (h' : Og (f n) w1 w2) : Ost f (n + 1) w w2 :=
  ⟨h'.os.trans h.os, h'.tape.trans h.tape, h'.output.trans h.output, h'.size.trans h.size, fun b hb => (h'.block b (hb n (by omega))).trans (h.block b (fun i hi => hb i (by omega)))⟩
theorem Ost.below {f : Nat → Nat} {n N : Nat} {w w' : World} (h : Ost f n w w') (hN : ∀ i, i < n → N ≤ f i) : Below N w w' :=
  ⟨h.os, h.tape, h.output, Nat.le_of_eq h.size.symm, fun b hb => h.block b (fun i hi => by have := hN i hi; omega)⟩

end Go.Proofs.YtcdfoephhjacdaaGreatDoor

/-
  laws.markIntS, laws.heldIntS on a slice that a call has made (ownsRow).
-/
namespace Go.Proofs.YtcdfoephhjacdaaGreatDoor
open Go.RowKit

theorem own_move {w w' : World} {B n s : Nat} {e : TypeId} {v : Value} {xs : List Value} (h : w.ownsRow B e s v n xs) (hb : ∀ g, v.ownBlock = some g → w'.heap[g]? = w.heap[g]?) : w'.ownsRow B e s v n xs := by
  obtain ⟨h1, h2⟩ := h
  refine ⟨h1, ?_⟩
  rcases h2 with h2 | ⟨g, cap, cur, rfl, hb', hc, hr⟩
  · exact Or.inl h2
  · exact Or.inr ⟨g, cap, cur, rfl, hb', (hb g rfl).trans hc, hr⟩

theorem own_is {w : World} {B : Nat} {v : Value} {l : List Int} (h : w.ownsRow B 3 1 v l.length (l.map (Value.int .i64))) : IS w v l := by
  rcases h.2 with ⟨rfl, h2⟩ | ⟨g, cap, cur, rfl, hb', hc, hr⟩
  · exact ⟨none, 0, by rw [h2], Or.inl h2⟩
  · refine ⟨_, cap, rfl, Or.inr ⟨g, 0, rfl, fun j hj => ?_⟩⟩
    rw [Nat.zero_add, h.cellAt j (by omega), List.getElem?_map, List.getElem?_eq_getElem hj, List.getD_eq_getElem?_getD, List.getElem?_eq_getElem hj]
    rfl

theorem own_ownI {w : World} {B g cap : Nat} {l : List Int} (h : w.ownsRow B 3 1 (.slice (some ⟨g, 0, none⟩) l.length cap) l.length (l.map (Value.int .i64))) : OwnI w g l where
  cell j hj := by
    rw [h.cellAt j (by omega), List.getElem?_map, List.getElem?_eq_getElem hj, List.getD_eq_getElem?_getD, List.getElem?_eq_getElem hj]
    rfl
  free j _ := h.frozenAt j
  lt := (h.lt g rfl).2

end Go.Proofs.YtcdfoephhjacdaaGreatDoor

/-
  laws.hInts, hRows: equal lists.
-/
namespace Go.Proofs.YtcdfoephhjacdaaGreatDoor
open Go.RowKit

set_option maxHeartbeats 1000000 in
theorem hInts_quiet (w : World) (v v' : Value) (l : List Int) (h : IS w v l) (h' : IS w v' l) (hl : l.length ≤ 1099511627776) :
    Calls Tryz.prog 34 #[v, v'] w fun e w' => e = .returned (.bool true) ∧ ∃ m, w' = w.drewN m := by
  obtain ⟨a, cap, rfl, hc⟩ := h
  obtain ⟨a', cap', rfl, hc'⟩ := h'
  obtain ⟨n, hn⟩ : ∃ n, n = l.length := ⟨_, rfl⟩
  rw [← hn] at hc hc' hl ⊢
  have HC := hid hc
  have HC' := hid hc'
  clear hc hc' hn
  have hne : ((n : Int) != (n : Int)) = false := by simp
  go_enter Tryz.func34, Tryz.ntmps34
  go_wp2
  go_loopw [13] (fun t wr => ∃ j : Nat, j ≤ n ∧ t = .int .i64 j ∧ Hid (∃ m, wr = w.drewN m)) (fun t _ => n - (intOf t).toNat)
  case atStart => exact ⟨0, Nat.zero_le _, rfl, hid ⟨0, rfl⟩⟩
  case round =>
    obtain ⟨j, hj, rfl, hB⟩ := hrel
    by_cases hjn : j < n
    · have i1 : (j : Int) < (n : Int) := by omega
      rcases HC.out with h0 | ⟨b, o, rfl, hcell⟩
      · omega
      · rcases HC'.out with h0 | ⟨b', o', rfl, hcell'⟩
        · omega
        · have c1 : wr.cell? ⟨b, o + j, none⟩ = some (.int .i64 (l.getD j 0)) := by obtain ⟨m, rfl⟩ := hB.out; exact hcell j hjn
          have c2 : wr.cell? ⟨b', o' + j, none⟩ = some (.int .i64 (l.getD j 0)) := by obtain ⟨m, rfl⟩ := hB.out; exact hcell' j hjn
          obtain ⟨x, hx⟩ : ∃ x, x = l.getD j 0 := ⟨_, rfl⟩
          rw [← hx] at c1 c2
          have hxx : (x != x) = false := by simp
          clear hcell hcell' hx
          go_wp2_with fail
          go_quiet (fail)
          go_wp2
          go_roundw
          case rel => exact ⟨j + 1, by omega, by go_num, hid (drewN_step _ hB.out)⟩
          case measure => simp [intOf]; omega
    · obtain rfl : j = n := by omega
      have i1 : ¬ ((j : Int) < (j : Int)) := by omega
      go_wp2
      go_ret
      exact ⟨rfl, hB.out⟩


set_option maxHeartbeats 2000000 in
set_option maxRecDepth 1000000 in
theorem hRows_quiet (w : World) (v v' : Value) (ls : List (List Int)) (h : ISS w v ls) (h' : ISS w v' ls) (hl : Short ls) :
    Calls Tryz.prog 33 #[v, v'] w fun e w' => e = .returned (.bool true) ∧ ∃ m, w' = w.drewN m := by
  obtain ⟨a, cap, rfl, hc⟩ := h
  obtain ⟨a', cap', rfl, hc'⟩ := h'
  obtain ⟨hl1, hl2⟩ := hl
  obtain ⟨n, hn⟩ : ∃ n, n = ls.length := ⟨_, rfl⟩
  rw [← hn] at hc hc' hl1 ⊢
  have HC := hid hc
  have HC' := hid hc'
  have HL := hid hl2
  clear hc hc' hn hl2
  have hne : ((n : Int) != (n : Int)) = false := by simp
  go_enter Tryz.func33, Tryz.ntmps33
  go_wp2
  go_loopw [13] (fun t wr => ∃ j : Nat, j ≤ n ∧ t = .int .i64 j ∧ Hid (∃ m, wr = w.drewN m)) (fun t _ => n - (intOf t).toNat)
  case atStart => exact ⟨0, Nat.zero_le _, rfl, hid ⟨0, rfl⟩⟩
  case round =>
    obtain ⟨j, hj, rfl, hB⟩ := hrel
    by_cases hjn : j < n
    · have i1 : (j : Int) < (n : Int) := by omega
      rcases HC.out with h0 | ⟨b, o, rfl, hcell⟩
      · omega
      · rcases HC'.out with h0 | ⟨b', o', rfl, hcell'⟩
        · omega
        · obtain ⟨u, d1, hu⟩ := hcell j hjn
          obtain ⟨u', d2, hu'⟩ := hcell' j hjn
          have c1 : wr.cell? ⟨b, o + j, none⟩ = some u := by obtain ⟨m, rfl⟩ := hB.out; exact d1
          have c2 : wr.cell? ⟨b', o' + j, none⟩ = some u' := by obtain ⟨m, rfl⟩ := hB.out; exact d2
          have HK : Hid (∀ q, Calls Tryz.prog 34 #[u, u'] (wr.drewN q) fun e w' => e = .returned (.bool true) ∧ ∃ m, w' = (wr.drewN q).drewN m) := fun q => by
            obtain ⟨m, rfl⟩ := hB.out
            exact hInts_quiet _ u u' (ls.getD j []) hu hu' (HL.out j)
          obtain ⟨a1, cap1, rfl, -⟩ := hu
          obtain ⟨a2, cap2, rfl, -⟩ := hu'
          clear hcell hcell' d1 d2
          go_wp2_with fail
          go_quiet ((go_at_call 34; exact Calls.quiet_of (HK.out _)))
          go_wp2
          go_roundw
          case rel => exact ⟨j + 1, by omega, by go_num, hid (drewN_step _ hB.out)⟩
          case measure => simp [intOf]; omega
    · obtain rfl : j = n := by omega
      have i1 : ¬ ((j : Int) < (j : Int)) := by omega
      go_wp2
      go_ret
      exact ⟨rfl, hB.out⟩

end Go.Proofs.YtcdfoephhjacdaaGreatDoor
