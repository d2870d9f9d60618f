import Derived.Test.YtegcpplkcahkhaaGreatB02
import Derived.Test.YtegcpplkcahkhaaGreatB04
import Derived.Test.YtegcpplkcahkhaaGreatB05
/-
  Lists of texts: laws.szStringS, toStringS, eqStringS.
-/
namespace Go.Proofs.YtegcpplkcahkhaaGreat
open Go.RowKit

def noTx : ByteArray := ⟨#[]⟩

def ISt (w : World) (v : Value) (l : List ByteArray) : Prop := ∃ a cap, v = .slice a l.length cap ∧ (l.length = 0 ∨ ∃ b o, a = some ⟨b, o, none⟩ ∧ ∀ j, j < l.length → w.cell? ⟨b, o + j, none⟩ = some (.string (l.getD j noTx)))

theorem ISt.below {w w' : World} {v : Value} {l : List ByteArray} (h : ISt w v l) (hb : Below w.heap.size w w') : ISt w' v l := by
  obtain ⟨a, cap, rfl, h⟩ := h
  refine ⟨a, cap, rfl, ?_⟩
  rcases h with h | ⟨b, o, rfl, h⟩
  · exact Or.inl h
  · exact Or.inr ⟨b, o, rfl, fun j hj => (hb.cell (p := ⟨b, o + j, none⟩) (World.block_lt_of_cell? w _ (h j hj))).trans (h j hj)⟩

theorem ISt.drewN {w : World} {v : Value} {l : List ByteArray} (h : ISt w v l) (m : Nat) : ISt (w.drewN m) v l := h

/-- a copy in block g -/
structure OwnSt (w : World) (g : Nat) (l : List ByteArray) : Prop where
  cell : ∀ j, j < l.length → w.cell? ⟨g, j, none⟩ = some (.string (l.getD j noTx))
  free : ∀ j, j < l.length → w.frozen? ⟨g, j, none⟩ = false
  lt : g < w.heap.size

theorem OwnSt.is {w : World} {g : Nat} {l : List ByteArray} (h : OwnSt w g l) : ISt w (.slice (some ⟨g, 0, none⟩) l.length l.length) l :=
  ⟨_, _, rfl, Or.inr ⟨g, 0, rfl, fun j hj => by rw [Nat.zero_add]; exact h.cell j hj⟩⟩
theorem OwnSt.below {w w' : World} {g : Nat} {l : List ByteArray} (h : OwnSt w g l) (hb : Below w.heap.size w w') : OwnSt w' g l :=
  ⟨fun j hj => (hb.cell (p := ⟨g, j, none⟩) h.lt).trans (h.cell j hj), fun j hj => (hb.frozen (p := ⟨g, j, none⟩) h.lt).trans (h.free j hj), Nat.lt_of_lt_of_le h.lt hb.size⟩
theorem OwnSt.move {w w' : World} {g : Nat} {l : List ByteArray} (h : OwnSt w g l) (hb : w'.heap[g]? = w.heap[g]?) (hs : w.heap.size ≤ w'.heap.size) : OwnSt w' g l :=
  ⟨fun j hj => (World.cell?_of_block (w := w) (a := ⟨g, j, none⟩) hb).trans (h.cell j hj), fun j hj => (World.frozen?_of_block (w := w) (a := ⟨g, j, none⟩) hb).trans (h.free j hj), Nat.lt_of_lt_of_le h.lt hs⟩

set_option maxHeartbeats 1000000 in
theorem szStringS_calls (w : World) (v : Value) (l : List ByteArray) (left : Int) (h : ISt w v l) (hl : l.length ≤ 9223372036854775807) (hz : ∀ j, (l.getD j noTx).size ≤ 9223372036854775807) (h1 : 0 ≤ left) (h2 : left ≤ 1048576) :
    Calls Tryz.prog 18 #[v, .int .i64 left] w fun e w' => ∃ z : Int, e = .returned (.int .i64 z) ∧ w' = w ∧ (z = -1 ∨ (0 ≤ z ∧ z ≤ left ∧ (l.length : Int) ≤ left ∧ ∀ j, j < l.length → ((l.getD j noTx).size : Int) ≤ left)) := by
  obtain ⟨a, cap, rfl, hc⟩ := h
  obtain ⟨n, hn⟩ : ∃ n, n = l.length := ⟨_, rfl⟩
  rw [← hn] at hc hl ⊢
  have HC := hid hc
  have HZ := hid hz
  clear hc hz hn
  by_cases h3 : left - (n : Int) < 0
  · go_enter Tryz.func18, Tryz.ntmps18
    go_wp2
    go_ret
    exact ⟨_, rfl, rfl, Or.inl rfl⟩
  · go_enter Tryz.func18, Tryz.ntmps18
    go_wp2
    go_loopw [1, 5] (fun v t wr => ∃ (j : Nat) (z : Int), j ≤ n ∧ t = .int .i64 j ∧ v = .int .i64 z ∧ 0 ≤ z ∧ z ≤ left - n ∧ wr = w ∧ Hid (∀ i, i < j → ((l.getD i noTx).size : Int) ≤ left)) (fun _ t _ => n - (intOf t).toNat)
    case atStart => exact ⟨0, _, Nat.zero_le _, rfl, rfl, by omega, by omega, rfl, hid (fun i hi => by omega)⟩
    case round =>
      obtain ⟨j, z, hj, rfl, rfl, hz0, hz1, hw, HH⟩ := hrel
      subst hw
      by_cases hjn : j < n
      · have i1 : (j : Int) < (n : Int) := by omega
        rcases HC.out with h0 | ⟨b, o, rfl, hcell⟩
        · omega
        · have c1 := hcell j hjn
          have hsz := HZ.out j
          have HH2 : Hid (((l.getD j noTx).size : Int) ≤ left → ∀ i, i < j + 1 → ((l.getD i noTx).size : Int) ≤ left) := hid (fun h i hi => by
            by_cases e : i = j
            · rw [e]; exact h
            · exact HH.out i (by omega))
          clear hcell
          generalize l.getD j noTx = s at *
          by_cases hneg : z - (s.size : Int) < 0
          · go_wp2
            go_ret
            exact ⟨_, rfl, rfl, Or.inl rfl⟩
          · go_wp2
            go_roundw
            case rel => exact ⟨j + 1, z - (s.size : Int), by omega, by go_num, by go_num, by omega, by omega, by trivial, hid (HH2.out (by omega))⟩
            case measure => simp [intOf]; omega
      · obtain rfl : j = n := by omega
        have i1 : ¬ ((j : Int) < (j : Int)) := by omega
        go_wp2
        go_ret
        exact ⟨_, rfl, rfl, Or.inr ⟨hz0, by omega, by omega, HH.out⟩⟩

set_option maxHeartbeats 1000000 in
theorem toStringS_calls (w : World) (v : Value) (l : List ByteArray) (h : ISt w v l) (hl : l.length ≤ 1048576) :
    Calls Tryz.prog 27 #[v] w fun e w' => e = .returned (.slice (some ⟨w.heap.size, 0, none⟩) l.length l.length) ∧ OwnSt w' w.heap.size l ∧ Below w.heap.size w w' := by
  obtain ⟨a, cap, rfl, hc⟩ := h
  obtain ⟨n, hn⟩ : ∃ n, n = l.length := ⟨_, rfl⟩
  rw [← hn] at hc hl ⊢
  have hmk := run_make_row' (P := Tryz.prog) 25 9 (.string ⟨#[]⟩) 16 Tryz.underlying25 (by kernel_rfl) rfl .i64 .i64 n (by omega) (by omega)
  have hb0 := heap_alloc_new w (.cells (madeCells #[.string ⟨#[]⟩] n) 9)
  have hA0 : ∀ j, j < n → (w.alloc (.cells (madeCells #[.string ⟨#[]⟩] n) 9)).cell? ⟨w.heap.size, j, none⟩ = some (.string ⟨#[]⟩) := fun j hj => by rw [cell_of_row _ _ _ _ _ _ hb0]; exact made_get _ _ _ hj
  have hF0 : ∀ j, (w.alloc (.cells (madeCells #[.string ⟨#[]⟩] n) 9)).frozen? ⟨w.heap.size, j, none⟩ = false := fun j => by unfold World.frozen?; rw [hb0]; simp
  have HA0 := hid hA0
  have HF0 := hid hF0
  clear hA0 hF0 hb0
  have HC := hid hc
  have HN := hid hn
  clear hc hn
  go_enter Tryz.func27, Tryz.ntmps27
  go_wp2
  go_loopw [4] (fun t wr => ∃ j : Nat, j ≤ n ∧ t = .int .i64 j ∧ Below w.heap.size w wr ∧ w.heap.size < wr.heap.size ∧ Hid ((∀ i, i < n → wr.cell? ⟨w.heap.size, i, none⟩ = some (.string (if i < j then l.getD i noTx else noTx))) ∧ ∀ i, i < n → wr.frozen? ⟨w.heap.size, i, none⟩ = false)) (fun t _ => n - (intOf t).toNat)
  case atStart => exact ⟨0, Nat.zero_le _, rfl, (Below.refl _ _).alloc (Nat.le_refl _) _, by simp, hid ⟨fun i hi => by rw [if_neg (by omega)]; exact HA0.out i hi, fun i _ => HF0.out i⟩⟩
  case round =>
    obtain ⟨j, hj, rfl, hB, hlt, hH⟩ := hrel
    by_cases hjn : j < n
    · have i1 : (j : Int) < (n : Int) := by omega
      rcases HC.out with h0 | ⟨b, o, rfl, hcell⟩
      · omega
      · have c1 : wr.cell? ⟨b, o + j, none⟩ = some (.string (l.getD j noTx)) := (hB.cell (p := ⟨b, o + j, none⟩) (World.block_lt_of_cell? w _ (hcell j hjn))).trans (hcell j hjn)
        have c2 : wr.cell? ⟨w.heap.size, j, none⟩ = some (.string (if j < j then l.getD j noTx else noTx)) := hH.out.1 j hjn
        have c3 : wr.frozen? ⟨w.heap.size, j, none⟩ = false := hH.out.2 j hjn
        clear hcell
        go_wp2
        go_roundw
        case rel =>
          refine ⟨j + 1, by omega, by go_num, hB.setCell (Nat.le_refl _) _, by simpa using hlt, hid ⟨fun i hi => ?_, fun i hi => by rw [World.frozen?_setCell]; exact hH.out.2 i hi⟩⟩
          by_cases e : i = j
          · subst e
            rw [if_pos (by omega)]
            exact World.cell?_setCell_same _ _ _ c2
          · rw [World.cell?_setCell_other _ _ _ _ (by intro e2; simp only [Addr.mk.injEq] at e2; omega), hH.out.1 i hi]
            by_cases e2 : i < j
            · rw [if_pos e2, if_pos (by omega)]
            · rw [if_neg e2, if_neg (by omega)]
        case measure => simp [intOf]; omega
    · obtain rfl : j = n := by omega
      have i1 : ¬ ((j : Int) < (j : Int)) := by omega
      go_wp2
      go_ret
      refine ⟨rfl, ⟨fun i hi => ?_, fun i hi => hH.out.2 i (by rw [HN.out]; exact hi), hlt⟩, hB⟩
      rw [hH.out.1 i (by rw [HN.out]; exact hi), if_pos (by rw [HN.out]; exact hi)]

set_option maxHeartbeats 2000000 in
set_option maxRecDepth 1000000 in
theorem eqStringS_quiet (w : World) (v v' : Value) (l : List ByteArray) (h : ISt w v l) (h' : ISt w v' l) (hl : l.length ≤ 1099511627776) :
    Calls Tryz.prog 35 #[v, v'] w fun e w' => e = .returned (.bool true) ∧ ∃ m, w' = w.drewN m := by
  obtain ⟨a, cap, rfl, hc⟩ := h
  obtain ⟨a', cap', rfl, hc'⟩ := h'
  obtain ⟨n, hn⟩ : ∃ n, n = l.length := ⟨_, rfl⟩
  rw [← hn] at hc hc' hl ⊢
  have HC := hid hc
  have HC' := hid hc'
  clear hc hc' hn
  have hne : ((n : Int) != (n : Int)) = false := by simp
  go_enter Tryz.func35, Tryz.ntmps35
  go_wp2
  go_loopw [5] (fun t wr => ∃ j : Nat, j ≤ n ∧ t = .int .i64 j ∧ Hid (∃ m, wr = w.drewN m)) (fun t _ => n - (intOf t).toNat)
  case atStart => exact ⟨0, Nat.zero_le _, rfl, hid ⟨0, rfl⟩⟩
  case round =>
    obtain ⟨j, hj, rfl, hB⟩ := hrel
    by_cases hjn : j < n
    · have i1 : (j : Int) < (n : Int) := by omega
      rcases HC.out with h0 | ⟨b, o, rfl, hcell⟩
      · omega
      · rcases HC'.out with h0 | ⟨b', o', rfl, hcell'⟩
        · omega
        · have c1 : wr.cell? ⟨b, o + j, none⟩ = some (.string (l.getD j noTx)) := by obtain ⟨m, rfl⟩ := hB.out; exact hcell j hjn
          have c2 : wr.cell? ⟨b', o' + j, none⟩ = some (.string (l.getD j noTx)) := by obtain ⟨m, rfl⟩ := hB.out; exact hcell' j hjn
          obtain ⟨x, hx⟩ : ∃ x, x = l.getD j noTx := ⟨_, rfl⟩
          rw [← hx] at c1 c2
          have hxx : (!x.toList == x.toList) = false := by simp
          clear hcell hcell' hx
          go_wp2_with fail
          go_quiet (fail)
          go_wp2
          go_roundw
          case rel => exact ⟨j + 1, by omega, by go_num, hid (drewN_step _ hB.out)⟩
          case measure => simp [intOf]; omega
    · obtain rfl : j = n := by omega
      have i1 : ¬ ((j : Int) < (j : Int)) := by omega
      go_wp2
      go_ret
      exact ⟨rfl, hB.out⟩

end Go.Proofs.YtegcpplkcahkhaaGreat

/-
  Sorted rows, each once: what merging halves gives, and what sorting and taking out neighbours that are alike gives, are one and the same.
-/
namespace Go.Proofs.YtegcpplkcahkhaaGreat

theorem cmpL_self : ∀ a : List Int, cmpL a a = 0
  | [] => rfl
  | x :: a => by simp [cmpL, cmpL_self a]
theorem cmpL_eq : ∀ {a b : List Int}, cmpL a b = 0 → a = b
  | [], [], _ => rfl
  | [], _ :: _, h => by simp [cmpL] at h
  | _ :: _, [], h => by simp [cmpL] at h
  | x :: a, y :: b, h => by
    simp only [cmpL] at h
    split at h
    · omega
    · split at h
      · omega
      · rw [cmpL_eq h, show x = y by omega]
theorem cmpL_neg : ∀ a b : List Int, cmpL b a = - cmpL a b
  | [], [] => rfl
  | [], _ :: _ => rfl
  | _ :: _, [] => rfl
  | x :: a, y :: b => by
    simp only [cmpL]
    by_cases h1 : x < y
    · rw [if_neg (by omega), if_pos h1, if_pos h1]; rfl
    · by_cases h2 : y < x
      · rw [if_pos h2, if_neg h1, if_pos h2]
      · rw [if_neg h2, if_neg h1, if_neg h1, if_neg h2]; exact cmpL_neg a b
theorem cmpL_trans : ∀ {a b c : List Int}, cmpL a b < 0 → cmpL b c < 0 → cmpL a c < 0
  | [], [], _, h, _ => by simp [cmpL] at h
  | [], _ :: _, [], _, h => by simp [cmpL] at h
  | [], _ :: _, _ :: _, _, _ => by simp [cmpL]
  | _ :: _, [], _, h, _ => by simp [cmpL] at h
  | _ :: _, _ :: _, [], _, h => by simp [cmpL] at h
  | x :: a, y :: b, z :: c, h1, h2 => by
    simp only [cmpL] at h1 h2 ⊢
    by_cases e1 : x < y
    · by_cases e2 : y < z
      · rw [if_pos (by omega)]; decide
      · rw [if_neg e2] at h2
        by_cases e3 : z < y
        · rw [if_pos e3] at h2; omega
        · rw [if_pos (by omega)]; decide
    · rw [if_neg e1] at h1
      by_cases e2 : y < x
      · rw [if_pos e2] at h1; omega
      · rw [if_neg e2] at h1
        by_cases e3 : y < z
        · rw [if_pos (by omega)]; decide
        · rw [if_neg e3] at h2
          by_cases e4 : z < y
          · rw [if_pos e4] at h2; omega
          · rw [if_neg e4] at h2
            rw [if_neg (by omega), if_neg (by omega)]
            exact cmpL_trans h1 h2

/-- ascending, each once -/
def SL (l : List (List Int)) : Prop := l.Pairwise fun a b => cmpL a b < 0

theorem SL.uniq : ∀ {a b : List (List Int)}, SL a → SL b → (∀ x, x ∈ a ↔ x ∈ b) → a = b
  | [], [], _, _, _ => rfl
  | [], y :: b, _, _, h => by have := (h y).2 (List.mem_cons_self ..); cases this
  | x :: a, [], _, _, h => by have := (h x).1 (List.mem_cons_self ..); cases this
  | x :: a, y :: b, ha, hb, h => by
    unfold SL at ha hb
    rw [List.pairwise_cons] at ha hb
    have hxy : x = y := by
      rcases List.mem_cons.1 ((h x).1 (List.mem_cons_self ..)) with e | e
      · exact e
      · rcases List.mem_cons.1 ((h y).2 (List.mem_cons_self ..)) with e2 | e2
        · exact e2.symm
        · have h1 := hb.1 x e
          have h2 := ha.1 y e2
          have := cmpL_trans h1 h2
          rw [cmpL_self] at this
          omega
    subst hxy
    rw [SL.uniq (a := a) (b := b) ha.2 hb.2 fun z => ?_]
    constructor
    · intro hz
      rcases List.mem_cons.1 ((h z).1 (List.mem_cons_of_mem _ hz)) with e | e
      · subst e; have := ha.1 _ hz; rw [cmpL_self] at this; omega
      · exact e
    · intro hz
      rcases List.mem_cons.1 ((h z).2 (List.mem_cons_of_mem _ hz)) with e | e
      · subst e; have := hb.1 _ hz; rw [cmpL_self] at this; omega
      · exact e

/-- merging: x stands ahead of what f merges, xa is both together -/
def mrgX (x : List Int) (f : List (List Int) → List (List Int)) (xa : List (List Int)) : List (List Int) → List (List Int)
  | [] => xa
  | y :: b => if cmpL x y < 0 then x :: f (y :: b) else if 0 < cmpL x y then y :: mrgX x f xa b else x :: f b
/-- merging -/
def mrg : List (List Int) → List (List Int) → List (List Int)
  | [] => fun b => b
  | x :: a => mrgX x (mrg a) (x :: a)
theorem mrg_nil_left (b : List (List Int)) : mrg [] b = b := rfl
theorem mrg_nil_right (a : List (List Int)) : mrg a [] = a := by cases a <;> rfl
theorem mrg_lt {x y : List Int} {a b : List (List Int)} (h : cmpL x y < 0) : mrg (x :: a) (y :: b) = x :: mrg a (y :: b) := if_pos h
theorem mrg_gt {x y : List Int} {a b : List (List Int)} (h : 0 < cmpL x y) : mrg (x :: a) (y :: b) = y :: mrg (x :: a) b := (if_neg (by omega)).trans (if_pos h)
theorem mrg_eq {x y : List Int} {a b : List (List Int)} (h1 : ¬ cmpL x y < 0) (h2 : ¬ 0 < cmpL x y) : mrg (x :: a) (y :: b) = x :: mrg a b := (if_neg h1).trans (if_neg h2)

theorem mem_mrg (z : List Int) : ∀ (n : Nat) (a b : List (List Int)), a.length + b.length ≤ n → (z ∈ mrg a b ↔ z ∈ a ∨ z ∈ b)
  | n, [], b, _ => by rw [mrg_nil_left]; simp
  | n, x :: a, [], _ => by rw [mrg_nil_right]; simp
  | n + 1, x :: a, y :: b, h => by
    simp only [List.length_cons] at h
    by_cases h1 : cmpL x y < 0
    · rw [mrg_lt h1, List.mem_cons, mem_mrg z n a (y :: b) (by simp only [List.length_cons]; omega), List.mem_cons, List.mem_cons, or_assoc]
    · by_cases h2 : 0 < cmpL x y
      · rw [mrg_gt h2, List.mem_cons, mem_mrg z n (x :: a) b (by simp only [List.length_cons]; omega), List.mem_cons, List.mem_cons]
        constructor
        · rintro (h | (h | h) | h)
          · exact Or.inr (Or.inl h)
          · exact Or.inl (Or.inl h)
          · exact Or.inl (Or.inr h)
          · exact Or.inr (Or.inr h)
        · rintro ((h | h) | (h | h))
          · exact Or.inr (Or.inl (Or.inl h))
          · exact Or.inr (Or.inl (Or.inr h))
          · exact Or.inl h
          · exact Or.inr (Or.inr h)
      · have e : x = y := cmpL_eq (by omega)
        subst e
        rw [mrg_eq h1 h2, List.mem_cons, mem_mrg z n a b (by omega), List.mem_cons, List.mem_cons]
        constructor
        · rintro (h | h | h)
          · exact Or.inl (Or.inl h)
          · exact Or.inl (Or.inr h)
          · exact Or.inr (Or.inr h)
        · rintro ((h | h) | (h | h))
          · exact Or.inl h
          · exact Or.inr (Or.inl h)
          · exact Or.inl h
          · exact Or.inr (Or.inr h)
  | 0, x :: a, y :: b, h => by simp only [List.length_cons] at h; omega

theorem SL.mrg : ∀ (n : Nat) (a b : List (List Int)), a.length + b.length ≤ n → SL a → SL b → SL (mrg a b)
  | n, [], b, _, _, hb => by rw [mrg_nil_left]; exact hb
  | n, x :: a, [], _, ha, _ => by rw [mrg_nil_right]; exact ha
  | 0, x :: a, y :: b, h, _, _ => by simp only [List.length_cons] at h; omega
  | n + 1, x :: a, y :: b, h, ha, hb => by
    simp only [List.length_cons] at h
    have ha' := List.pairwise_cons.1 ha
    have hb' := List.pairwise_cons.1 hb
    by_cases h1 : cmpL x y < 0
    · rw [mrg_lt h1]
      refine List.pairwise_cons.2 ⟨fun z hz => ?_, SL.mrg n a (y :: b) (by simp only [List.length_cons]; omega) ha'.2 hb⟩
      rcases (mem_mrg z _ a (y :: b) (Nat.le_refl _)).1 hz with h | h
      · exact ha'.1 z h
      · rcases List.mem_cons.1 h with rfl | h
        · exact h1
        · exact cmpL_trans h1 (hb'.1 z h)
    · by_cases h2 : 0 < cmpL x y
      · have h3 : cmpL y x < 0 := by rw [cmpL_neg]; omega
        rw [mrg_gt h2]
        refine List.pairwise_cons.2 ⟨fun z hz => ?_, SL.mrg n (x :: a) b (by simp only [List.length_cons]; omega) ha hb'.2⟩
        rcases (mem_mrg z _ (x :: a) b (Nat.le_refl _)).1 hz with h | h
        · rcases List.mem_cons.1 h with rfl | h
          · exact h3
          · exact cmpL_trans h3 (ha'.1 z h)
        · exact hb'.1 z h
      · have e : x = y := cmpL_eq (by omega)
        subst e
        rw [mrg_eq h1 h2]
        refine List.pairwise_cons.2 ⟨fun z hz => ?_, SL.mrg n a b (by omega) ha'.2 hb'.2⟩
        rcases (mem_mrg z _ a b (Nat.le_refl _)).1 hz with h | h
        · exact ha'.1 z h
        · exact hb'.1 z h

/-- halves sorted and merged -/
def srtN : Nat → List (List Int) → List (List Int)
  | 0, l => l
  | n + 1, l => if l.length < 2 then l else mrg (srtN n (l.take (l.length / 2))) (srtN n (l.drop (l.length / 2)))
theorem srtN_eq : ∀ (n m : Nat) (l : List (List Int)), l.length ≤ n → l.length ≤ m → srtN n l = srtN m l
  | 0, 0, _, _, _ => rfl
  | 0, m + 1, l, h, _ => (if_pos (show l.length < 2 by omega)).symm
  | n + 1, 0, l, _, h => if_pos (show l.length < 2 by omega)
  | n + 1, m + 1, l, hn, hm => by
    unfold srtN
    by_cases h : l.length < 2
    · rw [if_pos h, if_pos h]
    · rw [if_neg h, if_neg h, srtN_eq n m (l.take (l.length / 2)) (by rw [List.length_take]; omega) (by rw [List.length_take]; omega), srtN_eq n m (l.drop (l.length / 2)) (by rw [List.length_drop]; omega) (by rw [List.length_drop]; omega)]
def srt (l : List (List Int)) : List (List Int) := srtN l.length l
theorem srt_short {l : List (List Int)} (h : l.length < 2) : srt l = l := by
  unfold srt
  cases hn : l.length with
  | zero => rfl
  | succ n => exact if_pos h
theorem srt_long {l : List (List Int)} (h : ¬ l.length < 2) : srt l = mrg (srt (l.take (l.length / 2))) (srt (l.drop (l.length / 2))) := by
  unfold srt
  rw [srtN_eq l.length (l.length + 1) l (by omega) (by omega)]
  refine (if_neg h).trans ?_
  rw [srtN_eq l.length (l.take (l.length / 2)).length _ (by rw [List.length_take]; omega) (Nat.le_refl _), srtN_eq l.length (l.drop (l.length / 2)).length _ (by rw [List.length_drop]; omega) (Nat.le_refl _)]
theorem srt_ok : ∀ (n : Nat) (l : List (List Int)), l.length ≤ n → SL (srt l) ∧ ∀ z, z ∈ srt l ↔ z ∈ l
  | n, l, h => by
    by_cases h2 : l.length < 2
    · rw [srt_short h2]
      refine ⟨?_, fun z => Iff.rfl⟩
      match l, h2 with
      | [], _ => exact List.Pairwise.nil
      | [x], _ => exact List.pairwise_singleton _ _
    · rw [srt_long h2]
      match n with
      | 0 => omega
      | n + 1 =>
        obtain ⟨a1, a2⟩ := srt_ok n (l.take (l.length / 2)) (by rw [List.length_take]; omega)
        obtain ⟨b1, b2⟩ := srt_ok n (l.drop (l.length / 2)) (by rw [List.length_drop]; omega)
        refine ⟨SL.mrg _ _ _ (Nat.le_refl _) a1 b1, fun z => ?_⟩
        rw [mem_mrg z _ _ _ (Nat.le_refl _), a2, b2, ← List.mem_append, List.take_append_drop]
theorem srt_len_mrg : ∀ (n : Nat) (a b : List (List Int)), a.length + b.length ≤ n → (mrg a b).length ≤ a.length + b.length
  | n, [], b, _ => by rw [mrg_nil_left]; simp
  | n, x :: a, [], _ => by rw [mrg_nil_right]; simp
  | 0, x :: a, y :: b, h => by simp only [List.length_cons] at h; omega
  | n + 1, x :: a, y :: b, h => by
    simp only [List.length_cons] at h
    by_cases h1 : cmpL x y < 0
    · have := srt_len_mrg n a (y :: b) (by simp only [List.length_cons]; omega)
      rw [mrg_lt h1]; simp only [List.length_cons] at this ⊢; omega
    · by_cases h2 : 0 < cmpL x y
      · have := srt_len_mrg n (x :: a) b (by simp only [List.length_cons]; omega)
        rw [mrg_gt h2]; simp only [List.length_cons] at this ⊢; omega
      · have := srt_len_mrg n a b (by omega)
        rw [mrg_eq h1 h2]; simp only [List.length_cons]; omega
theorem srt_len : ∀ (n : Nat) (l : List (List Int)), l.length ≤ n → (srt l).length ≤ l.length
  | n, l, h => by
    by_cases h2 : l.length < 2
    · rw [srt_short h2]; exact Nat.le_refl _
    · rw [srt_long h2]
      match n with
      | 0 => omega
      | n + 1 =>
        have a1 := srt_len n (l.take (l.length / 2)) (by rw [List.length_take]; omega)
        have b1 := srt_len n (l.drop (l.length / 2)) (by rw [List.length_drop]; omega)
        have c1 := srt_len_mrg _ (srt (l.take (l.length / 2))) (srt (l.drop (l.length / 2))) (Nat.le_refl _)
        rw [List.length_take] at a1
        rw [List.length_drop] at b1
        omega

/-- neighbours that are alike are taken out -/
def cpt : List (List Int) → List (List Int)
  | [] => []
  | [x] => [x]
  | x :: y :: l => if x = y then cpt (y :: l) else x :: cpt (y :: l)
theorem mem_cpt (z : List Int) : ∀ l : List (List Int), z ∈ cpt l ↔ z ∈ l
  | [] => Iff.rfl
  | [x] => Iff.rfl
  | x :: y :: l => by
    rw [cpt]
    split
    · rename_i e
      subst e
      rw [mem_cpt z (x :: l)]
      simp
    · rw [List.mem_cons, mem_cpt z (y :: l), List.mem_cons (a := z) (b := x)]
theorem SL.cpt : ∀ l : List (List Int), (l.Pairwise fun a b => ¬ cmpL b a < 0) → SL (cpt l)
  | [], _ => List.Pairwise.nil
  | [x], _ => List.pairwise_singleton _ _
  | x :: y :: l, h => by
    have h' := List.pairwise_cons.1 h
    rw [Go.Proofs.YtegcpplkcahkhaaGreat.cpt]
    split
    · exact SL.cpt (y :: l) h'.2
    · rename_i ne
      refine List.pairwise_cons.2 ⟨fun z hz => ?_, SL.cpt (y :: l) h'.2⟩
      rw [mem_cpt] at hz
      have h1 := h'.1 z hz
      have h2 := h'.1 y (List.mem_cons_self ..)
      have hy : ¬ cmpL z y < 0 := by
        rcases List.mem_cons.1 hz with rfl | h3
        · rw [cmpL_self]; omega
        · exact (List.pairwise_cons.1 h'.2).1 z h3
      -- x < y, since x ≤ y and x ≠ y
      have hxy : cmpL x y < 0 := by
        have e1 := cmpL_neg x y
        rcases Int.lt_trichotomy (cmpL x y) 0 with h | h | h
        · exact h
        · exact absurd (cmpL_eq h) ne
        · omega
      have e2 := cmpL_neg y z
      rcases Int.lt_trichotomy (cmpL y z) 0 with h | h | h
      · exact cmpL_trans hxy h
      · rw [← cmpL_eq h]; exact hxy
      · omega
/-- the two ways meet -/
theorem cpt_srt {l l' : List (List Int)} (hs : l'.Pairwise fun a b => ¬ cmpL b a < 0) (hm : ∀ z, z ∈ l' ↔ z ∈ l) : cpt l' = srt l := by
  obtain ⟨a, b⟩ := srt_ok _ l (Nat.le_refl _)
  exact SL.uniq (SL.cpt l' hs) a fun z => by rw [mem_cpt, b, hm]

end Go.Proofs.YtegcpplkcahkhaaGreat
