import Derived.Test.YtbefmifofffdoacDoorCk02
import Derived.Test.YtbefmifofffdoacDoorCk04
/-
  Sorted rows: impl.areSortedRows, spec.l2SortedRows.
-/
namespace Go.Proofs.YtbefmifofffdoacDoor
open Go.RowKit

def rowAt (rows : List (List Int)) (q : Int) (j : Nat) : Bool := decide (((rows.getD j []).length : Int) = q) && (decide (j = 0) || decide (cmpL (rows.getD (j - 1) []) (rows.getD j []) < 0))
def rowsB (rows : List (List Int)) (q : Int) : Bool := (List.range rows.length).all (rowAt rows q)

theorem rowsB_true {rows : List (List Int)} {q : Int} (h : ∀ i, i < rows.length → rowAt rows q i = true) : rowsB rows q = true := by
  unfold rowsB
  rw [List.all_eq_true]
  intro i hi
  exact h i (by simpa using hi)

theorem rowsB_false {rows : List (List Int)} {q : Int} {j : Nat} (hj : j < rows.length) (h : rowAt rows q j = false) : rowsB rows q = false := by
  unfold rowsB
  rw [List.all_eq_false]
  exact ⟨j, by simpa using hj, by rw [h]; decide⟩

theorem rowAt_cases (rows : List (List Int)) (q : Int) (j : Nat) :
    (((rows.getD j []).length : Int) ≠ q ∧ rowAt rows q j = false) ∨ (((rows.getD j []).length : Int) = q ∧ j = 0 ∧ rowAt rows q j = true) ∨
    (((rows.getD j []).length : Int) = q ∧ 0 < j ∧ 0 ≤ cmpL (rows.getD (j - 1) []) (rows.getD j []) ∧ rowAt rows q j = false) ∨ (((rows.getD j []).length : Int) = q ∧ 0 < j ∧ cmpL (rows.getD (j - 1) []) (rows.getD j []) < 0 ∧ rowAt rows q j = true) := by
  unfold rowAt
  generalize ((rows.getD j []).length : Int) = x
  generalize cmpL (rows.getD (j - 1) []) (rows.getD j []) = y
  by_cases h1 : x = q
  · right
    by_cases h3 : j = 0
    · left; refine ⟨h1, h3, ?_⟩; simp [h3, h1]
    · right
      by_cases h4 : y < 0
      · right; refine ⟨h1, by omega, h4, ?_⟩; simp [h1]; omega
      · left; refine ⟨h1, by omega, by omega, ?_⟩; simp [h1]; omega
  · left; exact ⟨h1, by simp [h1]⟩

set_option maxHeartbeats 2000000 in
set_option maxRecDepth 1000000 in
theorem areSortedRows_calls (w : World) (vr : Value) (rows : List (List Int)) (q : Int) (h : ISS w vr rows) (hl : Short rows) :
    Calls Tryd.prog 132 #[vr, .int .i64 q] w fun e w' => e = .returned (.bool (rowsB rows q)) ∧ w' = w := by
  obtain ⟨a, cap, rfl, hc⟩ := h
  obtain ⟨hl1, hl2⟩ := hl
  obtain ⟨n, hn⟩ : ∃ n, n = rows.length := ⟨_, rfl⟩
  obtain ⟨res, hres⟩ : ∃ r, r = rowsB rows q := ⟨_, rfl⟩
  rw [← hres]
  rw [← hn] at hc hl1 ⊢
  have HR := hid hres
  have HC := hid hc
  have HN := hid hn
  have HL := hid hl2
  clear hc hn hres hl2
  go_enter Tryd.func132, Tryd.ntmps132
  go_wp2
  go_loop [9] (fun t => ∃ j : Nat, j ≤ n ∧ t = .int .i64 j ∧ Hid (∀ i, i < j → rowAt rows q i = true)) (fun t => n - (intOf t).toNat)
  case atStart => exact ⟨0, Nat.zero_le _, rfl, hid (fun i hi => by omega)⟩
  case round =>
    obtain ⟨j, hj, rfl, hok⟩ := hrel
    by_cases hjn : j < n
    · have i1 : (j : Int) < (n : Int) := by omega
      rcases HC.out with h0 | ⟨b, o, rfl, hcell⟩
      · omega
      · obtain ⟨u, c1, hu⟩ := hcell j hjn
        have hcs := rowAt_cases rows q j
        have fin : rowAt rows q j = false → Hid (res = false) := fun e => HR.out.trans (rowsB_false (by rw [← HN.out]; exact hjn) e)
        have nxt : rowAt rows q j = true → Hid (∀ i, i < j + 1 → rowAt rows q i = true) := fun e i hi => by
          by_cases e2 : i = j
          · rw [e2]; exact e
          · exact hok.out i (by omega)
        have hp : 0 < j → ∃ u', w.cell? ⟨b, o + (j - 1), none⟩ = some u' ∧ IS w u' (rows.getD (j - 1) []) := fun e => hcell (j - 1) (by omega)
        have HU := hid hu
        have hm := HL.out j
        obtain ⟨a1, cap1, rfl, -⟩ := hu
        clear hcell hok
        rcases hcs with ⟨h1, h2⟩ | ⟨h1, h2, h3⟩ | ⟨h1, h2, h3, h4⟩ | ⟨h1, h2, h3, h4⟩
        · have hf := fin h2
          clear hp fin nxt h2
          generalize (rows.getD j []).length = m at *
          go_wp2
          go_ret
          exact ⟨ret_bool (by rw [hf.out]), rfl⟩
        · have hf := nxt h3
          subst h2
          have c1' : w.cell? ⟨b, o, none⟩ = some (.slice a1 (rows.getD 0 []).length cap1) := by simpa using c1
          clear hp fin nxt h3 HU
          generalize (rows.getD 0 []).length = m at *
          subst h1
          go_wp2
          go_round
          case rel => exact ⟨0 + 1, by omega, by go_num, hf⟩
          case measure => simp [intOf]; omega
        · have hf := fin h4
          obtain ⟨u', c2, hu'⟩ := hp h2
          have HK := hid (sCompare_calls w u' _ (rows.getD (j - 1) []) (rows.getD j []) hu' HU.out (HL.out (j - 1)) hm)
          obtain ⟨a2, cap2, rfl, -⟩ := hu'
          have i3 : (0 : Int) < (j : Int) := by omega
          have i4 : ((j : Int) - 1).toNat = j - 1 := by omega
          clear hp fin nxt h4 HU
          generalize cmpL (rows.getD (j - 1) []) (rows.getD j []) = y at *
          generalize (rows.getD j []).length = m at *
          generalize (rows.getD (j - 1) []).length = m' at *
          subst h1
          go_wp2_with (first | (go_at_call 149; refine HK.out.mono ?_; rintro e w' ⟨rfl, hw'⟩; subst w'))
          go_ret
          exact ⟨ret_bool (by rw [hf.out]), rfl⟩
        · have hf := nxt h4
          obtain ⟨u', c2, hu'⟩ := hp h2
          have HK := hid (sCompare_calls w u' _ (rows.getD (j - 1) []) (rows.getD j []) hu' HU.out (HL.out (j - 1)) hm)
          obtain ⟨a2, cap2, rfl, -⟩ := hu'
          have i3 : (0 : Int) < (j : Int) := by omega
          have i4 : ((j : Int) - 1).toNat = j - 1 := by omega
          clear hp fin nxt h4 HU
          generalize cmpL (rows.getD (j - 1) []) (rows.getD j []) = y at *
          generalize (rows.getD j []).length = m at *
          generalize (rows.getD (j - 1) []).length = m' at *
          subst h1
          have i5 : ¬ (0 ≤ y) := by omega
          go_wp2_with (first | (go_at_call 149; refine HK.out.mono ?_; rintro e w' ⟨rfl, hw'⟩; subst w'))
          go_round
          case rel => exact ⟨j + 1, by omega, by go_num, hf⟩
          case measure => simp [intOf]; omega
    · obtain rfl : j = n := by omega
      have hf : Hid (res = true) := HR.out.trans (rowsB_true (fun i hi => hok.out i (by rw [HN.out]; exact hi)))
      have i1 : ¬ ((j : Int) < (j : Int)) := by omega
      clear hok
      go_wp2
      go_ret
      exact ⟨ret_bool (by rw [hf.out]), rfl⟩

set_option maxHeartbeats 2000000 in
set_option maxRecDepth 1000000 in
theorem l2SortedRows_calls (w : World) (vr : Value) (rows : List (List Int)) (q : Int) (h : ISS w vr rows) (hl : Short rows) :
    Calls Tryd.prog 80 #[vr, .int .i64 q] w fun e w' => e = .returned (.bool (rowsB rows q)) ∧ ∃ q, w' = w.drewN q := by
  obtain ⟨a, cap, rfl, hc⟩ := h
  obtain ⟨hl1, hl2⟩ := hl
  obtain ⟨n, hn⟩ : ∃ n, n = rows.length := ⟨_, rfl⟩
  obtain ⟨res, hres⟩ : ∃ r, r = rowsB rows q := ⟨_, rfl⟩
  rw [← hres]
  rw [← hn] at hc hl1 ⊢
  have HR := hid hres
  have HC := hid hc
  have HN := hid hn
  have HL := hid hl2
  clear hc hn hres hl2
  go_enter Tryd.func80, Tryd.ntmps80
  go_wp2
  go_loopw [9] (fun t wr => ∃ j : Nat, j ≤ n ∧ t = .int .i64 j ∧ Hid (∃ k, wr = w.drewN k) ∧ Hid (∀ i, i < j → rowAt rows q i = true)) (fun t _ => n - (intOf t).toNat)
  case atStart => exact ⟨0, Nat.zero_le _, rfl, hid ⟨0, rfl⟩, hid (fun i hi => by omega)⟩
  case round =>
    obtain ⟨j, hj, rfl, hB, hok⟩ := hrel
    by_cases hjn : j < n
    · have i1 : (j : Int) < (n : Int) := by omega
      rcases HC.out with h0 | ⟨b, o, rfl, hcell⟩
      · omega
      · obtain ⟨u, c1, hu⟩ : ∃ u, wr.cell? ⟨b, o + j, none⟩ = some u ∧ IS wr u (rows.getD j []) := by obtain ⟨k, rfl⟩ := hB.out; exact hcell j hjn
        have hcs := rowAt_cases rows q j
        have fin : rowAt rows q j = false → Hid (res = false) := fun e => HR.out.trans (rowsB_false (by rw [← HN.out]; exact hjn) e)
        have nxt : rowAt rows q j = true → Hid (∀ i, i < j + 1 → rowAt rows q i = true) := fun e i hi => by
          by_cases e2 : i = j
          · rw [e2]; exact e
          · exact hok.out i (by omega)
        have hp : 0 < j → ∃ u', wr.cell? ⟨b, o + (j - 1), none⟩ = some u' ∧ IS wr u' (rows.getD (j - 1) []) := fun e => by obtain ⟨k, rfl⟩ := hB.out; exact hcell (j - 1) (by omega)
        have HU := hid hu
        have hm := HL.out j
        obtain ⟨a1, cap1, rfl, -⟩ := hu
        clear hcell hok
        rcases hcs with ⟨h1, h2⟩ | ⟨h1, h2, h3⟩ | ⟨h1, h2, h3, h4⟩ | ⟨h1, h2, h3, h4⟩
        · have hf := fin h2
          clear hp fin nxt h2
          generalize (rows.getD j []).length = m at *
          go_wp2
          go_ret
          exact ⟨ret_bool (by rw [hf.out]), hB.out⟩
        · have hf := nxt h3
          subst h2
          have c1' : wr.cell? ⟨b, o, none⟩ = some (.slice a1 (rows.getD 0 []).length cap1) := by simpa using c1
          clear hp fin nxt h3 HU
          generalize (rows.getD 0 []).length = m at *
          subst h1
          go_wp2
          go_roundw
          case rel => exact ⟨0 + 1, by omega, by go_num, hB, hf⟩
          case measure => simp [intOf]; omega
        · have hf := fin h4
          obtain ⟨u', c2, hu'⟩ := hp h2
          have HK := hid (l2Compare_calls wr u' _ (rows.getD (j - 1) []) (rows.getD j []) hu' HU.out (HL.out (j - 1)) hm)
          obtain ⟨a2, cap2, rfl, -⟩ := hu'
          have i3 : (0 : Int) < (j : Int) := by omega
          have i4 : ((j : Int) - 1).toNat = j - 1 := by omega
          clear hp fin nxt h4 HU
          generalize cmpL (rows.getD (j - 1) []) (rows.getD j []) = y at *
          generalize (rows.getD j []).length = m at *
          generalize (rows.getD (j - 1) []).length = m' at *
          subst h1
          go_wp2_with (first | (go_at_call 106; refine HK.out.mono ?_; rintro e w' ⟨rfl, q', hw'⟩; subst w'))
          go_ret
          exact ⟨ret_bool (by rw [hf.out]), drewN_step _ hB.out⟩
        · have hf := nxt h4
          obtain ⟨u', c2, hu'⟩ := hp h2
          have HK := hid (l2Compare_calls wr u' _ (rows.getD (j - 1) []) (rows.getD j []) hu' HU.out (HL.out (j - 1)) hm)
          obtain ⟨a2, cap2, rfl, -⟩ := hu'
          have i3 : (0 : Int) < (j : Int) := by omega
          have i4 : ((j : Int) - 1).toNat = j - 1 := by omega
          clear hp fin nxt h4 HU
          generalize cmpL (rows.getD (j - 1) []) (rows.getD j []) = y at *
          generalize (rows.getD j []).length = m at *
          generalize (rows.getD (j - 1) []).length = m' at *
          subst h1
          have i5 : ¬ (0 ≤ y) := by omega
          go_wp2_with (first | (go_at_call 106; refine HK.out.mono ?_; rintro e w' ⟨rfl, q', hw'⟩; subst w'))
          go_roundw
          case rel => exact ⟨j + 1, by omega, by go_num, hid (drewN_step _ hB.out), hf⟩
          case measure => simp [intOf]; omega
    · obtain rfl : j = n := by omega
      have hf : Hid (res = true) := HR.out.trans (rowsB_true (fun i hi => hok.out i (by rw [HN.out]; exact hi)))
      have i1 : ¬ ((j : Int) < (j : Int)) := by omega
      clear hok
      go_wp2
      go_ret
      exact ⟨ret_bool (by rw [hf.out]), hB.out⟩

end Go.Proofs.YtbefmifofffdoacDoor

/-
  impl.areEdges, impl.inEdges.
-/
namespace Go.Proofs.YtbefmifofffdoacDoor
open Go.RowKit

def edgesB (es : List (List Int)) : Bool := decide (es.length ≤ 7) && es.all setB
def coverB (bag : List Int) (es : List (List Int)) : Bool := bag.all fun x => es.any fun e => decide (x ∈ e)

theorem all_getD {α : Type} (p : α → Bool) (d : α) (l : List α) (h : ∀ i, i < l.length → p (l.getD i d) = true) : l.all p = true := by
  rw [List.all_eq_true]
  intro x hx
  obtain ⟨j, hj, e⟩ := List.getElem_of_mem hx
  have := h j hj
  rw [List.getD_eq_getElem?_getD, List.getElem?_eq_getElem hj] at this
  rw [← e]; exact this

theorem all_getD_false {α : Type} (p : α → Bool) (d : α) (l : List α) (j : Nat) (hj : j < l.length) (h : p (l.getD j d) = false) : l.all p = false := by
  rw [List.all_eq_false]
  rw [List.getD_eq_getElem?_getD, List.getElem?_eq_getElem hj] at h
  exact ⟨_, List.getElem_mem hj, by simpa using h⟩

theorem plc_nil_iff (p : Nat → Bool) (k : Nat) : (plc p k).length = 0 ↔ ∀ i, i < k → p i = false := by
  unfold plc
  rw [List.length_map, List.length_eq_zero_iff, List.filter_eq_nil_iff]
  simp

theorem any_plc (x : Int) (es : List (List Int)) : (es.any fun e => decide (x ∈ e)) = !decide ((plc (fun i => decide (x ∈ es.getD i [])) es.length).length = 0) := by
  cases hb : (es.any fun e => decide (x ∈ e))
  · rw [eq_comm, Bool.not_eq_false', decide_eq_true_eq, plc_nil_iff]
    intro i hi
    rw [List.any_eq_false] at hb
    have := hb _ (List.getElem_mem hi)
    rw [List.getD_eq_getElem?_getD, List.getElem?_eq_getElem hi]
    simpa using this
  · rw [eq_comm, Bool.not_eq_true', decide_eq_false_iff_not, plc_nil_iff]
    intro hall
    rw [List.any_eq_true] at hb
    obtain ⟨e, he, h2⟩ := hb
    obtain ⟨j, hj, e1⟩ := List.getElem_of_mem he
    have := hall j hj
    rw [List.getD_eq_getElem?_getD, List.getElem?_eq_getElem hj] at this
    simp only [Option.getD_some, e1] at this
    rw [this] at h2
    exact Bool.noConfusion h2

end Go.Proofs.YtbefmifofffdoacDoor

/-
  Lists of texts: laws.szStringS, toStringS, eqStringS.
-/
namespace Go.Proofs.YtbefmifofffdoacDoor
open Go.RowKit

def noTx : ByteArray := ⟨#[]⟩

def ISt (w : World) (v : Value) (l : List ByteArray) : Prop := ∃ a cap, v = .slice a l.length cap ∧ (l.length = 0 ∨ ∃ b o, a = some ⟨b, o, none⟩ ∧ ∀ j, j < l.length → w.cell? ⟨b, o + j, none⟩ = some (.string (l.getD j noTx)))

theorem ISt.below {w w' : World} {v : Value} {l : List ByteArray} (h : ISt w v l) (hb : Below w.heap.size w w') : ISt w' v l := by
  obtain ⟨a, cap, rfl, h⟩ := h
  refine ⟨a, cap, rfl, ?_⟩
  rcases h with h | ⟨b, o, rfl, h⟩
  · exact Or.inl h
  · exact Or.inr ⟨b, o, rfl, fun j hj => (hb.cell (p := ⟨b, o + j, none⟩) (World.block_lt_of_cell? w _ (h j hj))).trans (h j hj)⟩

theorem ISt.drewN {w : World} {v : Value} {l : List ByteArray} (h : ISt w v l) (m : Nat) : ISt (w.drewN m) v l := h

/-- a copy in block g -/
structure OwnSt (w : World) (g : Nat) (l : List ByteArray) : Prop where
  cell : ∀ j, j < l.length → w.cell? ⟨g, j, none⟩ = some (.string (l.getD j noTx))
  free : ∀ j, j < l.length → w.frozen? ⟨g, j, none⟩ = false
  lt : g < w.heap.size

theorem OwnSt.is {w : World} {g : Nat} {l : List ByteArray} (h : OwnSt w g l) : ISt w (.slice (some ⟨g, 0, none⟩) l.length l.length) l :=
  ⟨_, _, rfl, Or.inr ⟨g, 0, rfl, fun j hj => by rw [Nat.zero_add]; exact h.cell j hj⟩⟩
theorem OwnSt.below {w w' : World} {g : Nat} {l : List ByteArray} (h : OwnSt w g l) (hb : Below w.heap.size w w') : OwnSt w' g l :=
  ⟨fun j hj => (hb.cell (p := ⟨g, j, none⟩) h.lt).trans (h.cell j hj), fun j hj => (hb.frozen (p := ⟨g, j, none⟩) h.lt).trans (h.free j hj), Nat.lt_of_lt_of_le h.lt hb.size⟩
theorem OwnSt.move {w w' : World} {g : Nat} {l : List ByteArray} (h : OwnSt w g l) (hb : w'.heap[g]? = w.heap[g]?) (hs : w.heap.size ≤ w'.heap.size) : OwnSt w' g l :=
  ⟨fun j hj => (World.cell?_of_block (w := w) (a := ⟨g, j, none⟩) hb).trans (h.cell j hj), fun j hj => (World.frozen?_of_block (w := w) (a := ⟨g, j, none⟩) hb).trans (h.free j hj), Nat.lt_of_lt_of_le h.lt hs⟩

set_option maxHeartbeats 1000000 in
theorem szStringS_calls (w : World) (v : Value) (l : List ByteArray) (left : Int) (h : ISt w v l) (hl : l.length ≤ 9223372036854775807) (hz : ∀ j, (l.getD j noTx).size ≤ 9223372036854775807) (h1 : 0 ≤ left) (h2 : left ≤ 1048576) :
    Calls Tryd.prog 31 #[v, .int .i64 left] w fun e w' => ∃ z : Int, e = .returned (.int .i64 z) ∧ w' = w ∧ (z = -1 ∨ (0 ≤ z ∧ z ≤ left ∧ (l.length : Int) ≤ left ∧ ∀ j, j < l.length → ((l.getD j noTx).size : Int) ≤ left)) := by
  obtain ⟨a, cap, rfl, hc⟩ := h
  obtain ⟨n, hn⟩ : ∃ n, n = l.length := ⟨_, rfl⟩
  rw [← hn] at hc hl ⊢
  have HC := hid hc
  have HZ := hid hz
  clear hc hz hn
  by_cases h3 : left - (n : Int) < 0
  · go_enter Tryd.func31, Tryd.ntmps31
    go_wp2
    go_ret
    exact ⟨_, rfl, rfl, Or.inl rfl⟩
  · go_enter Tryd.func31, Tryd.ntmps31
    go_wp2
    go_loopw [1, 5] (fun v t wr => ∃ (j : Nat) (z : Int), j ≤ n ∧ t = .int .i64 j ∧ v = .int .i64 z ∧ 0 ≤ z ∧ z ≤ left - n ∧ wr = w ∧ Hid (∀ i, i < j → ((l.getD i noTx).size : Int) ≤ left)) (fun _ t _ => n - (intOf t).toNat)
    case atStart => exact ⟨0, _, Nat.zero_le _, rfl, rfl, by omega, by omega, rfl, hid (fun i hi => by omega)⟩
    case round =>
      obtain ⟨j, z, hj, rfl, rfl, hz0, hz1, hw, HH⟩ := hrel
      subst hw
      by_cases hjn : j < n
      · have i1 : (j : Int) < (n : Int) := by omega
        rcases HC.out with h0 | ⟨b, o, rfl, hcell⟩
        · omega
        · have c1 := hcell j hjn
          have hsz := HZ.out j
          have HH2 : Hid (((l.getD j noTx).size : Int) ≤ left → ∀ i, i < j + 1 → ((l.getD i noTx).size : Int) ≤ left) := hid (fun h i hi => by
            by_cases e : i = j
            · rw [e]; exact h
            · exact HH.out i (by omega))
          clear hcell
          generalize l.getD j noTx = s at *
          by_cases hneg : z - (s.size : Int) < 0
          · go_wp2
            go_ret
            exact ⟨_, rfl, rfl, Or.inl rfl⟩
          · go_wp2
            go_roundw
            case rel => exact ⟨j + 1, z - (s.size : Int), by omega, by go_num, by go_num, by omega, by omega, by trivial, hid (HH2.out (by omega))⟩
            case measure => simp [intOf]; omega
      · obtain rfl : j = n := by omega
        have i1 : ¬ ((j : Int) < (j : Int)) := by omega
        go_wp2
        go_ret
        exact ⟨_, rfl, rfl, Or.inr ⟨hz0, by omega, by omega, HH.out⟩⟩

set_option maxHeartbeats 1000000 in
theorem toStringS_calls (w : World) (v : Value) (l : List ByteArray) (h : ISt w v l) (hl : l.length ≤ 1048576) :
    Calls Tryd.prog 37 #[v] w fun e w' => e = .returned (.slice (some ⟨w.heap.size, 0, none⟩) l.length l.length) ∧ OwnSt w' w.heap.size l ∧ Below w.heap.size w w' := by
  obtain ⟨a, cap, rfl, hc⟩ := h
  obtain ⟨n, hn⟩ : ∃ n, n = l.length := ⟨_, rfl⟩
  rw [← hn] at hc hl ⊢
  have hmk := run_make_row' (P := Tryd.prog) 22 9 (.string ⟨#[]⟩) 16 Tryd.underlying22 (by kernel_rfl) rfl .i64 .i64 n (by omega) (by omega)
  have hb0 := heap_alloc_new w (.cells (madeCells #[.string ⟨#[]⟩] n) 9)
  have hA0 : ∀ j, j < n → (w.alloc (.cells (madeCells #[.string ⟨#[]⟩] n) 9)).cell? ⟨w.heap.size, j, none⟩ = some (.string ⟨#[]⟩) := fun j hj => by rw [cell_of_row _ _ _ _ _ _ hb0]; exact made_get _ _ _ hj
  have hF0 : ∀ j, (w.alloc (.cells (madeCells #[.string ⟨#[]⟩] n) 9)).frozen? ⟨w.heap.size, j, none⟩ = false := fun j => by unfold World.frozen?; rw [hb0]; simp
  have HA0 := hid hA0
  have HF0 := hid hF0
  clear hA0 hF0 hb0
  have HC := hid hc
  have HN := hid hn
  clear hc hn
  go_enter Tryd.func37, Tryd.ntmps37
  go_wp2
  go_loopw [4] (fun t wr => ∃ j : Nat, j ≤ n ∧ t = .int .i64 j ∧ Below w.heap.size w wr ∧ w.heap.size < wr.heap.size ∧ Hid ((∀ i, i < n → wr.cell? ⟨w.heap.size, i, none⟩ = some (.string (if i < j then l.getD i noTx else noTx))) ∧ ∀ i, i < n → wr.frozen? ⟨w.heap.size, i, none⟩ = false)) (fun t _ => n - (intOf t).toNat)
  case atStart => exact ⟨0, Nat.zero_le _, rfl, (Below.refl _ _).alloc (Nat.le_refl _) _, by simp, hid ⟨fun i hi => by rw [if_neg (by omega)]; exact HA0.out i hi, fun i _ => HF0.out i⟩⟩
  case round =>
    obtain ⟨j, hj, rfl, hB, hlt, hH⟩ := hrel
    by_cases hjn : j < n
    · have i1 : (j : Int) < (n : Int) := by omega
      rcases HC.out with h0 | ⟨b, o, rfl, hcell⟩
      · omega
      · have c1 : wr.cell? ⟨b, o + j, none⟩ = some (.string (l.getD j noTx)) := (hB.cell (p := ⟨b, o + j, none⟩) (World.block_lt_of_cell? w _ (hcell j hjn))).trans (hcell j hjn)
        have c2 : wr.cell? ⟨w.heap.size, j, none⟩ = some (.string (if j < j then l.getD j noTx else noTx)) := hH.out.1 j hjn
        have c3 : wr.frozen? ⟨w.heap.size, j, none⟩ = false := hH.out.2 j hjn
        clear hcell
        go_wp2
        go_roundw
        case rel =>
          refine ⟨j + 1, by omega, by go_num, hB.setCell (Nat.le_refl _) _, by simpa using hlt, hid ⟨fun i hi => ?_, fun i hi => by rw [World.frozen?_setCell]; exact hH.out.2 i hi⟩⟩
          by_cases e : i = j
          · subst e
            rw [if_pos (by omega)]
            exact World.cell?_setCell_same _ _ _ c2
          · rw [World.cell?_setCell_other _ _ _ _ (by intro e2; simp only [Addr.mk.injEq] at e2; omega), hH.out.1 i hi]
            by_cases e2 : i < j
            · rw [if_pos e2, if_pos (by omega)]
            · rw [if_neg e2, if_neg (by omega)]
        case measure => simp [intOf]; omega
    · obtain rfl : j = n := by omega
      have i1 : ¬ ((j : Int) < (j : Int)) := by omega
      go_wp2
      go_ret
      refine ⟨rfl, ⟨fun i hi => ?_, fun i hi => hH.out.2 i (by rw [HN.out]; exact hi), hlt⟩, hB⟩
      rw [hH.out.1 i (by rw [HN.out]; exact hi), if_pos (by rw [HN.out]; exact hi)]

set_option maxHeartbeats 2000000 in
set_option maxRecDepth 1000000 in
theorem eqStringS_quiet (w : World) (v v' : Value) (l : List ByteArray) (h : ISt w v l) (h' : ISt w v' l) (hl : l.length ≤ 1099511627776) :
    Calls Tryd.prog 25 #[v, v'] w fun e w' => e = .returned (.bool true) ∧ ∃ m, w' = w.drewN m := by
  obtain ⟨a, cap, rfl, hc⟩ := h
  obtain ⟨a', cap', rfl, hc'⟩ := h'
  obtain ⟨n, hn⟩ : ∃ n, n = l.length := ⟨_, rfl⟩
  rw [← hn] at hc hc' hl ⊢
  have HC := hid hc
  have HC' := hid hc'
  clear hc hc' hn
  have hne : ((n : Int) != (n : Int)) = false := by simp
  go_enter Tryd.func25, Tryd.ntmps25
  go_wp2
  go_loopw [5] (fun t wr => ∃ j : Nat, j ≤ n ∧ t = .int .i64 j ∧ Hid (∃ m, wr = w.drewN m)) (fun t _ => n - (intOf t).toNat)
  case atStart => exact ⟨0, Nat.zero_le _, rfl, hid ⟨0, rfl⟩⟩
  case round =>
    obtain ⟨j, hj, rfl, hB⟩ := hrel
    by_cases hjn : j < n
    · have i1 : (j : Int) < (n : Int) := by omega
      rcases HC.out with h0 | ⟨b, o, rfl, hcell⟩
      · omega
      · rcases HC'.out with h0 | ⟨b', o', rfl, hcell'⟩
        · omega
        · have c1 : wr.cell? ⟨b, o + j, none⟩ = some (.string (l.getD j noTx)) := by obtain ⟨m, rfl⟩ := hB.out; exact hcell j hjn
          have c2 : wr.cell? ⟨b', o' + j, none⟩ = some (.string (l.getD j noTx)) := by obtain ⟨m, rfl⟩ := hB.out; exact hcell' j hjn
          obtain ⟨x, hx⟩ : ∃ x, x = l.getD j noTx := ⟨_, rfl⟩
          rw [← hx] at c1 c2
          have hxx : (!x.toList == x.toList) = false := by simp
          clear hcell hcell' hx
          go_wp2_with fail
          go_quiet (fail)
          go_wp2
          go_roundw
          case rel => exact ⟨j + 1, by omega, by go_num, hid (drewN_step _ hB.out)⟩
          case measure => simp [intOf]; omega
    · obtain rfl : j = n := by omega
      have i1 : ¬ ((j : Int) < (j : Int)) := by omega
      go_wp2
      go_ret
      exact ⟨rfl, hB.out⟩

end Go.Proofs.YtbefmifofffdoacDoor
