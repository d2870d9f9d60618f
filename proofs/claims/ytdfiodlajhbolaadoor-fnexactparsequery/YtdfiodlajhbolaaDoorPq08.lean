import Derived.Test.YtdfiodlajhbolaaDoorPq03
import Derived.Test.YtdfiodlajhbolaaDoorPq05
import Derived.Test.YtdfiodlajhbolaaDoorPq06
/-
  impl.areEdges, impl.inEdges.
-/
namespace Go.Proofs.YtdfiodlajhbolaaDoor
open Go.RowKit

def edgesB (es : List (List Int)) : Bool := decide (es.length ≤ 7) && es.all setB
def coverB (bag : List Int) (es : List (List Int)) : Bool := bag.all fun x => es.any fun e => decide (x ∈ e)

theorem all_getD {α : Type} (p : α → Bool) (d : α) (l : List α) (h : ∀ i, i < l.length → p (l.getD i d) = true) : l.all p = true := by
  rw [List.all_eq_true]
  intro x hx
  obtain ⟨j, hj, e⟩ := List.getElem_of_mem hx
  have := h j hj
  rw [List.getD_eq_getElem?_getD, List.getElem?_eq_getElem hj] at this
  rw [← e]; exact this

theorem all_getD_false {α : Type} (p : α → Bool) (d : α) (l : List α) (j : Nat) (hj : j < l.length) (h : p (l.getD j d) = false) : l.all p = false := by
  rw [List.all_eq_false]
  rw [List.getD_eq_getElem?_getD, List.getElem?_eq_getElem hj] at h
  exact ⟨_, List.getElem_mem hj, by simpa using h⟩

theorem plc_nil_iff (p : Nat → Bool) (k : Nat) : (plc p k).length = 0 ↔ ∀ i, i < k → p i = false := by
  unfold plc
  rw [List.length_map, List.length_eq_zero_iff, List.filter_eq_nil_iff]
  simp

theorem any_plc (x : Int) (es : List (List Int)) : (es.any fun e => decide (x ∈ e)) = !decide ((plc (fun i => decide (x ∈ es.getD i [])) es.length).length = 0) := by
  cases hb : (es.any fun e => decide (x ∈ e))
  · rw [eq_comm, Bool.not_eq_false', decide_eq_true_eq, plc_nil_iff]
    intro i hi
    rw [List.any_eq_false] at hb
    have := hb _ (List.getElem_mem hi)
    rw [List.getD_eq_getElem?_getD, List.getElem?_eq_getElem hi]
    simpa using this
  · rw [eq_comm, Bool.not_eq_true', decide_eq_false_iff_not, plc_nil_iff]
    intro hall
    rw [List.any_eq_true] at hb
    obtain ⟨e, he, h2⟩ := hb
    obtain ⟨j, hj, e1⟩ := List.getElem_of_mem he
    have := hall j hj
    rw [List.getD_eq_getElem?_getD, List.getElem?_eq_getElem hj] at this
    simp only [Option.getD_some, e1] at this
    rw [this] at h2
    exact Bool.noConfusion h2

end Go.Proofs.YtdfiodlajhbolaaDoor

/-
  Lists of texts: laws.szStringS, toStringS, eqStringS.
-/
namespace Go.Proofs.YtdfiodlajhbolaaDoor
open Go.RowKit

def noTx : ByteArray := ⟨#[]⟩

def ISt (w : World) (v : Value) (l : List ByteArray) : Prop := ∃ a cap, v = .slice a l.length cap ∧ (l.length = 0 ∨ ∃ b o, a = some ⟨b, o, none⟩ ∧ ∀ j, j < l.length → w.cell? ⟨b, o + j, none⟩ = some (.string (l.getD j noTx)))

theorem ISt.below {w w' : World} {v : Value} {l : List ByteArray} (h : ISt w v l) (hb : Below w.heap.size w w') : ISt w' v l := by
  obtain ⟨a, cap, rfl, h⟩ := h
  refine ⟨a, cap, rfl, ?_⟩
  rcases h with h | ⟨b, o, rfl, h⟩
  · exact Or.inl h
  · exact Or.inr ⟨b, o, rfl, fun j hj => (hb.cell (p := ⟨b, o + j, none⟩) (World.block_lt_of_cell? w _ (h j hj))).trans (h j hj)⟩

theorem ISt.drewN {w : World} {v : Value} {l : List ByteArray} (h : ISt w v l) (m : Nat) : ISt (w.drewN m) v l := h

/-- a copy in block g -/
structure OwnSt (w : World) (g : Nat) (l : List ByteArray) : Prop where
  cell : ∀ j, j < l.length → w.cell? ⟨g, j, none⟩ = some (.string (l.getD j noTx))
  free : ∀ j, j < l.length → w.frozen? ⟨g, j, none⟩ = false
  lt : g < w.heap.size

theorem OwnSt.is {w : World} {g : Nat} {l : List ByteArray} (h : OwnSt w g l) : ISt w (.slice (some ⟨g, 0, none⟩) l.length l.length) l :=
  ⟨_, _, rfl, Or.inr ⟨g, 0, rfl, fun j hj => by rw [Nat.zero_add]; exact h.cell j hj⟩⟩
theorem OwnSt.below {w w' : World} {g : Nat} {l : List ByteArray} (h : OwnSt w g l) (hb : Below w.heap.size w w') : OwnSt w' g l :=
  ⟨fun j hj => (hb.cell (p := ⟨g, j, none⟩) h.lt).trans (h.cell j hj), fun j hj => (hb.frozen (p := ⟨g, j, none⟩) h.lt).trans (h.free j hj), Nat.lt_of_lt_of_le h.lt hb.size⟩
theorem OwnSt.move {w w' : World} {g : Nat} {l : List ByteArray} (h : OwnSt w g l) (hb : w'.heap[g]? = w.heap[g]?) (hs : w.heap.size ≤ w'.heap.size) : OwnSt w' g l :=
  ⟨fun j hj => (World.cell?_of_block (w := w) (a := ⟨g, j, none⟩) hb).trans (h.cell j hj), fun j hj => (World.frozen?_of_block (w := w) (a := ⟨g, j, none⟩) hb).trans (h.free j hj), Nat.lt_of_lt_of_le h.lt hs⟩

set_option maxHeartbeats 2000000 in
set_option maxRecDepth 1000000 in
theorem eqStringS_quiet (w : World) (v v' : Value) (l : List ByteArray) (h : ISt w v l) (h' : ISt w v' l) (hl : l.length ≤ 1099511627776) :
    Calls Tryd.prog 14 #[v, v'] w fun e w' => e = .returned (.bool true) ∧ ∃ m, w' = w.drewN m := by
  obtain ⟨a, cap, rfl, hc⟩ := h
  obtain ⟨a', cap', rfl, hc'⟩ := h'
  obtain ⟨n, hn⟩ : ∃ n, n = l.length := ⟨_, rfl⟩
  rw [← hn] at hc hc' hl ⊢
  have HC := hid hc
  have HC' := hid hc'
  clear hc hc' hn
  have hne : ((n : Int) != (n : Int)) = false := by simp
  go_enter Tryd.func14, Tryd.ntmps14
  go_wp2
  go_loopw [5] (fun t wr => ∃ j : Nat, j ≤ n ∧ t = .int .i64 j ∧ Hid (∃ m, wr = w.drewN m)) (fun t _ => n - (intOf t).toNat)
  case atStart => exact ⟨0, Nat.zero_le _, rfl, hid ⟨0, rfl⟩⟩
  case round =>
    obtain ⟨j, hj, rfl, hB⟩ := hrel
    by_cases hjn : j < n
    · have i1 : (j : Int) < (n : Int) := by omega
      rcases HC.out with h0 | ⟨b, o, rfl, hcell⟩
      · omega
      · rcases HC'.out with h0 | ⟨b', o', rfl, hcell'⟩
        · omega
        · have c1 : wr.cell? ⟨b, o + j, none⟩ = some (.string (l.getD j noTx)) := by obtain ⟨m, rfl⟩ := hB.out; exact hcell j hjn
          have c2 : wr.cell? ⟨b', o' + j, none⟩ = some (.string (l.getD j noTx)) := by obtain ⟨m, rfl⟩ := hB.out; exact hcell' j hjn
          obtain ⟨x, hx⟩ : ∃ x, x = l.getD j noTx := ⟨_, rfl⟩
          rw [← hx] at c1 c2
          have hxx : (!x.toList == x.toList) = false := by simp
          clear hcell hcell' hx
          go_wp2_with fail
          go_quiet (fail)
          go_wp2
          go_roundw
          case rel => exact ⟨j + 1, by omega, by go_num, hid (drewN_step _ hB.out)⟩
          case measure => simp [intOf]; omega
    · obtain rfl : j = n := by omega
      have i1 : ¬ ((j : Int) < (j : Int)) := by omega
      go_wp2
      go_ret
      exact ⟨rfl, hB.out⟩

end Go.Proofs.YtdfiodlajhbolaaDoor

/-
  spec.l1Zeros: n zeros.
-/
namespace Go.Proofs.YtdfiodlajhbolaaDoor
open Go.RowKit

def zs (k : Nat) : List Value := (List.replicate k [Value.int .i64 0, Value.int .i64 1]).flatten
theorem zs_succ (k : Nat) : zs (k + 1) = zs k ++ [.int .i64 0, .int .i64 1] := by
  simp [zs, List.replicate_succ', List.flatten_append]

theorem own_grow2 {B n s : Nat} {e : TypeId} {w wr w1 : World} {u : Value} {o : Obj} {xs : List Value} (hB : B ≤ wr.heap.size)
    (hown : wr.ownsRow B e s u n xs) (hnx : Below B w wr) (hgrow : (wr.alloc o).grownBy w1 u.ownBlock) : Below B w w1 :=
  (hnx.alloc hB o).grown hgrow (by simp; omega) (fun j hj => (hown.lt j hj).1)

end Go.Proofs.YtdfiodlajhbolaaDoor

/-
  impl.ratsOf: fractions as Rats.
-/
namespace Go.Proofs.YtdfiodlajhbolaaDoor
open Go.RowKit

/-- pairs of numbers in memory -/
def IR (w : World) (v : Value) (l : List (Int × Int)) : Prop := ∃ a cap, v = .slice a l.length cap ∧ (l.length = 0 ∨ ∃ b o, a = some ⟨b, o, none⟩ ∧ ∀ j, j < l.length →
  w.cell? ⟨b, o + j * 2, none⟩ = some (.int .i64 (l.getD j (0, 0)).1) ∧ w.cell? ⟨b, o + j * 2 + 1, none⟩ = some (.int .i64 (l.getD j (0, 0)).2))

def rcs (l : List (Int × Int)) : List Value := l.flatMap fun p => [.int .i64 p.1, .int .i64 p.2]
theorem rcs_succ (l : List (Int × Int)) (k : Nat) (h : k < l.length) : rcs (l.take (k + 1)) = rcs (l.take k) ++ [.int .i64 (l.getD k (0, 0)).1, .int .i64 (l.getD k (0, 0)).2] := by
  unfold rcs
  rw [List.take_add_one, List.getElem?_eq_getElem h, List.getD_eq_getElem?_getD, List.getElem?_eq_getElem h]
  simp only [Option.toList_some, List.flatMap_append, List.flatMap_cons, List.flatMap_nil, List.append_nil, Option.getD_some]

theorem own_below {B n s : Nat} {e : TypeId} {w w' : World} {v : Value} {xs : List Value} (h : w.ownsRow B e s v n xs) (hb : Below w.heap.size w w') : w'.ownsRow B e s v n xs := by
  obtain ⟨h1, h2⟩ := h
  refine ⟨h1, ?_⟩
  rcases h2 with h2 | ⟨g, cap, cur, hv, hg, hc, hr⟩
  · exact Or.inl h2
  · refine Or.inr ⟨g, cap, cur, hv, hg, ?_, hr⟩
    rw [hb.block g (by
      rcases Nat.lt_or_ge g w.heap.size with h3 | h3
      · exact h3
      · rw [Array.getElem?_eq_none h3] at hc; cases hc)]
    exact hc

end Go.Proofs.YtdfiodlajhbolaaDoor
