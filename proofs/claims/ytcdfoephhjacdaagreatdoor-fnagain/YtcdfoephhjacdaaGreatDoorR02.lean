import Derived.Deep.RegionHeld3
import Derived.Test.YtcdfoephhjacdaaGreatDoorR01
/-
  Tables: laws.toTable, szTable, eqTable; impl.TableOK, spec.TableOK.
-/
namespace Go.Proofs.YtcdfoephhjacdaaGreatDoor
open Go.RowKit

/-- a table that the law's own copy laid: its three lists, each in blocks of its own, in rising order -/
structure OwnT (w : World) (B : Nat) (g0 g1 g2 : Nat) (vs : List Int) (rows : List (List Int)) (ws : List Int) (f : Nat → Nat) : Prop where
  vr : OwnI w g0 vs
  rw : Half w g1 rows.length rows.length rows f
  wt : OwnI w g2 ws
  lt0 : B ≤ g0
  lt1 : g0 < g1
  lt2 : ∀ i, i < rows.length → f i < g2
  lt3 : g1 < g2

theorem Half.move {w w' : World} {G n j : Nat} {ls : List (List Int)} {f : Nat → Nat} (h : Half w G n j ls f) (hb : w'.heap[G]? = w.heap[G]?) (hf : ∀ i, i < j → w'.heap[f i]? = w.heap[f i]?) (hs : w.heap.size ≤ w'.heap.size) : Half w' G n j ls f :=
  ⟨fun i hi => (World.cell?_of_block (w := w) (a := ⟨G, i, none⟩) hb).trans (h.cell i hi), fun i hi => (World.frozen?_of_block (w := w) (a := ⟨G, i, none⟩) hb).trans (h.free i hi), fun i hi => (h.own i hi).move (hf i hi) hs, h.gt, h.up⟩

theorem Half.below {w w' : World} {G n j : Nat} {ls : List (List Int)} {f : Nat → Nat} (h : Half w G n j ls f) (hG : G < w.heap.size) (hb : Below w.heap.size w w') : Half w' G n j ls f :=
  h.move (hb.block G hG) (fun i hi => hb.block _ (h.own i hi).lt) hb.size

theorem Half.iss {w : World} {G n : Nat} {ls : List (List Int)} {f : Nat → Nat} (h : Half w G n n ls f) (hn : n = ls.length) : ISS w (.slice (some ⟨G, 0, none⟩) ls.length ls.length) ls := by
  subst hn
  refine ⟨_, _, rfl, Or.inr ⟨G, 0, rfl, fun j hj => ⟨_, by rw [Nat.zero_add]; exact h.cell j hj, ?_⟩⟩⟩
  rw [if_pos hj]
  exact (h.own j hj).is

theorem OwnI.set {w : World} {g c o : Nat} {l : List Int} {v : Value} (h : OwnI w g l) (hc : g ≠ c) : OwnI (w.setCell ⟨c, o, none⟩ v) g l :=
  h.move (Below.heap_setCell _ _ _ _ hc) (by simp [World.setCell])
theorem Half.set {w : World} {G n j c o : Nat} {ls : List (List Int)} {f : Nat → Nat} {v : Value} (h : Half w G n j ls f) (hc : c < G) : Half (w.setCell ⟨c, o, none⟩ v) G n j ls f :=
  h.move (Below.heap_setCell _ _ _ _ (by show G ≠ c; omega)) (fun i hi => Below.heap_setCell _ _ _ _ (by have := h.gt i hi; show f i ≠ c; omega)) (by simp [World.setCell])
theorem OwnT.set {w : World} {B g0 g1 g2 c o : Nat} {vs ws : List Int} {rows : List (List Int)} {f : Nat → Nat} {v : Value} (h : OwnT w B g0 g1 g2 vs rows ws f) (hc : c < g0) : OwnT (w.setCell ⟨c, o, none⟩ v) B g0 g1 g2 vs rows ws f :=
  ⟨h.vr.set (by omega), h.rw.set (Nat.lt_trans hc h.lt1), h.wt.set (by have := h.lt1; have := h.lt3; omega), h.lt0, h.lt1, h.lt2, h.lt3⟩

theorem OwnT.below {w w' : World} {B g0 g1 g2 : Nat} {vs ws : List Int} {rows : List (List Int)} {f : Nat → Nat} (h : OwnT w B g0 g1 g2 vs rows ws f) (hb : Below w.heap.size w w') : OwnT w' B g0 g1 g2 vs rows ws f :=
  ⟨h.vr.below hb, h.rw.below (Nat.lt_trans h.lt3 h.wt.lt) hb, h.wt.below hb, h.lt0, h.lt1, h.lt2, h.lt3⟩

/-- a table that can be read -/
structure IT (w : World) (v0 v1 v2 : Value) (vs : List Int) (rows : List (List Int)) (ws : List Int) : Prop where
  vs : IS w v0 vs
  rows : ISS w v1 rows
  ws : IS w v2 ws

theorem IT.below {w w' : World} {v0 v1 v2 : Value} {vs ws : List Int} {rows : List (List Int)} (h : IT w v0 v1 v2 vs rows ws) (hb : Below w.heap.size w w') : IT w' v0 v1 v2 vs rows ws :=
  ⟨h.vs.below hb, h.rows.below hb, h.ws.below hb⟩

theorem OwnT.it {w : World} {B g0 g1 g2 : Nat} {vs ws : List Int} {rows : List (List Int)} {f : Nat → Nat} (h : OwnT w B g0 g1 g2 vs rows ws f) :
    IT w (.slice (some ⟨g0, 0, none⟩) vs.length vs.length) (.slice (some ⟨g1, 0, none⟩) rows.length rows.length) (.slice (some ⟨g2, 0, none⟩) ws.length ws.length) vs rows ws :=
  ⟨h.vr.is, h.rw.iss rfl, h.wt.is⟩

structure TB (w : World) (s : Nat) (v0 v1 v2 z0 z1 z2 o0 o1 o2 : Value) (W : World) : Prop where
  a0 : W.cell? ⟨s, 0, none⟩ = some v0
  a1 : W.cell? ⟨s, 1, none⟩ = some v1
  a2 : W.cell? ⟨s, 2, none⟩ = some v2
  r0 : W.cell? ⟨s + 1, 0, none⟩ = some z0
  r1 : W.cell? ⟨s + 1, 1, none⟩ = some z1
  r2 : W.cell? ⟨s + 1, 2, none⟩ = some z2
  o0 : W.cell? ⟨s + 1 + 1, 0, none⟩ = some o0
  o1 : W.cell? ⟨s + 1 + 1, 1, none⟩ = some o1
  o2 : W.cell? ⟨s + 1 + 1, 2, none⟩ = some o2
  fr0 : W.frozen? ⟨s + 1, 0, none⟩ = false
  fr1 : W.frozen? ⟨s + 1, 1, none⟩ = false
  fr2 : W.frozen? ⟨s + 1, 2, none⟩ = false
  fo0 : W.frozen? ⟨s + 1 + 1, 0, none⟩ = false
  fo1 : W.frozen? ⟨s + 1 + 1, 1, none⟩ = false
  fo2 : W.frozen? ⟨s + 1 + 1, 2, none⟩ = false
  sz : s + 3 ≤ W.heap.size
  below : Below s w W

theorem TB.step {w W W' : World} {s : Nat} {v0 v1 v2 z0 z1 z2 o0 o1 o2 : Value} (h : TB w s v0 v1 v2 z0 z1 z2 o0 o1 o2 W) (hb : Below W.heap.size W W') : TB w s v0 v1 v2 z0 z1 z2 o0 o1 o2 W' where
  a0 := (hb.cell (p := ⟨s, 0, none⟩) (by have := h.sz; show s < _; omega)).trans h.a0
  a1 := (hb.cell (p := ⟨s, 1, none⟩) (by have := h.sz; show s < _; omega)).trans h.a1
  a2 := (hb.cell (p := ⟨s, 2, none⟩) (by have := h.sz; show s < _; omega)).trans h.a2
  r0 := (hb.cell (p := ⟨s + 1, 0, none⟩) (by have := h.sz; show s + 1 < _; omega)).trans h.r0
  r1 := (hb.cell (p := ⟨s + 1, 1, none⟩) (by have := h.sz; show s + 1 < _; omega)).trans h.r1
  r2 := (hb.cell (p := ⟨s + 1, 2, none⟩) (by have := h.sz; show s + 1 < _; omega)).trans h.r2
  o0 := (hb.cell (p := ⟨s + 1 + 1, 0, none⟩) (by have := h.sz; show s + 1 + 1 < _; omega)).trans h.o0
  o1 := (hb.cell (p := ⟨s + 1 + 1, 1, none⟩) (by have := h.sz; show s + 1 + 1 < _; omega)).trans h.o1
  o2 := (hb.cell (p := ⟨s + 1 + 1, 2, none⟩) (by have := h.sz; show s + 1 + 1 < _; omega)).trans h.o2
  fr0 := (hb.frozen (p := ⟨s + 1, 0, none⟩) (by have := h.sz; show s + 1 < _; omega)).trans h.fr0
  fr1 := (hb.frozen (p := ⟨s + 1, 1, none⟩) (by have := h.sz; show s + 1 < _; omega)).trans h.fr1
  fr2 := (hb.frozen (p := ⟨s + 1, 2, none⟩) (by have := h.sz; show s + 1 < _; omega)).trans h.fr2
  fo0 := (hb.frozen (p := ⟨s + 1 + 1, 0, none⟩) (by have := h.sz; show s + 1 + 1 < _; omega)).trans h.fo0
  fo1 := (hb.frozen (p := ⟨s + 1 + 1, 1, none⟩) (by have := h.sz; show s + 1 + 1 < _; omega)).trans h.fo1
  fo2 := (hb.frozen (p := ⟨s + 1 + 1, 2, none⟩) (by have := h.sz; show s + 1 + 1 < _; omega)).trans h.fo2
  sz := Nat.le_trans h.sz hb.size
  below := h.below.trans (hb.mono (by have := h.sz; omega))

theorem TB.set0 {w W : World} {s : Nat} {v0 v1 v2 z0 z1 z2 o0 o1 o2 : Value} (h : TB w s v0 v1 v2 z0 z1 z2 o0 o1 o2 W) (u : Value) : TB w s v0 v1 v2 z0 z1 z2 u o1 o2 (W.setCell ⟨s + 1 + 1, 0, none⟩ u) where
  a0 := (World.cell?_setCell_other _ _ _ _ (by intro e; simp only [Addr.mk.injEq] at e; omega)).trans h.a0
  a1 := (World.cell?_setCell_other _ _ _ _ (by intro e; simp only [Addr.mk.injEq] at e; omega)).trans h.a1
  a2 := (World.cell?_setCell_other _ _ _ _ (by intro e; simp only [Addr.mk.injEq] at e; omega)).trans h.a2
  r0 := (World.cell?_setCell_other _ _ _ _ (by intro e; simp only [Addr.mk.injEq] at e; omega)).trans h.r0
  r1 := (World.cell?_setCell_other _ _ _ _ (by intro e; simp only [Addr.mk.injEq] at e; omega)).trans h.r1
  r2 := (World.cell?_setCell_other _ _ _ _ (by intro e; simp only [Addr.mk.injEq] at e; omega)).trans h.r2
  o0 := World.cell?_setCell_same _ _ _ h.o0
  o1 := (World.cell?_setCell_other _ _ _ _ (by intro e; simp only [Addr.mk.injEq] at e; omega)).trans h.o1
  o2 := (World.cell?_setCell_other _ _ _ _ (by intro e; simp only [Addr.mk.injEq] at e; omega)).trans h.o2
  fr0 := (World.frozen?_setCell _ _ _ _).trans h.fr0
  fr1 := (World.frozen?_setCell _ _ _ _).trans h.fr1
  fr2 := (World.frozen?_setCell _ _ _ _).trans h.fr2
  fo0 := (World.frozen?_setCell _ _ _ _).trans h.fo0
  fo1 := (World.frozen?_setCell _ _ _ _).trans h.fo1
  fo2 := (World.frozen?_setCell _ _ _ _).trans h.fo2
  sz := by have := h.sz; simpa [World.setCell] using this
  below := h.below.setCell (by show s ≤ s + 1 + 1; omega) _

theorem TB.set1 {w W : World} {s : Nat} {v0 v1 v2 z0 z1 z2 o0 o1 o2 : Value} (h : TB w s v0 v1 v2 z0 z1 z2 o0 o1 o2 W) (u : Value) : TB w s v0 v1 v2 z0 z1 z2 o0 u o2 (W.setCell ⟨s + 1 + 1, 1, none⟩ u) where
  a0 := (World.cell?_setCell_other _ _ _ _ (by intro e; simp only [Addr.mk.injEq] at e; omega)).trans h.a0
  a1 := (World.cell?_setCell_other _ _ _ _ (by intro e; simp only [Addr.mk.injEq] at e; omega)).trans h.a1
  a2 := (World.cell?_setCell_other _ _ _ _ (by intro e; simp only [Addr.mk.injEq] at e; omega)).trans h.a2
  r0 := (World.cell?_setCell_other _ _ _ _ (by intro e; simp only [Addr.mk.injEq] at e; omega)).trans h.r0
  r1 := (World.cell?_setCell_other _ _ _ _ (by intro e; simp only [Addr.mk.injEq] at e; omega)).trans h.r1
  r2 := (World.cell?_setCell_other _ _ _ _ (by intro e; simp only [Addr.mk.injEq] at e; omega)).trans h.r2
  o0 := (World.cell?_setCell_other _ _ _ _ (by intro e; simp only [Addr.mk.injEq] at e; omega)).trans h.o0
  o1 := World.cell?_setCell_same _ _ _ h.o1
  o2 := (World.cell?_setCell_other _ _ _ _ (by intro e; simp only [Addr.mk.injEq] at e; omega)).trans h.o2
  fr0 := (World.frozen?_setCell _ _ _ _).trans h.fr0
  fr1 := (World.frozen?_setCell _ _ _ _).trans h.fr1
  fr2 := (World.frozen?_setCell _ _ _ _).trans h.fr2
  fo0 := (World.frozen?_setCell _ _ _ _).trans h.fo0
  fo1 := (World.frozen?_setCell _ _ _ _).trans h.fo1
  fo2 := (World.frozen?_setCell _ _ _ _).trans h.fo2
  sz := by have := h.sz; simpa [World.setCell] using this
  below := h.below.setCell (by show s ≤ s + 1 + 1; omega) _

theorem TB.set2 {w W : World} {s : Nat} {v0 v1 v2 z0 z1 z2 o0 o1 o2 : Value} (h : TB w s v0 v1 v2 z0 z1 z2 o0 o1 o2 W) (u : Value) : TB w s v0 v1 v2 z0 z1 z2 o0 o1 u (W.setCell ⟨s + 1 + 1, 2, none⟩ u) where
  a0 := (World.cell?_setCell_other _ _ _ _ (by intro e; simp only [Addr.mk.injEq] at e; omega)).trans h.a0
  a1 := (World.cell?_setCell_other _ _ _ _ (by intro e; simp only [Addr.mk.injEq] at e; omega)).trans h.a1
  a2 := (World.cell?_setCell_other _ _ _ _ (by intro e; simp only [Addr.mk.injEq] at e; omega)).trans h.a2
  r0 := (World.cell?_setCell_other _ _ _ _ (by intro e; simp only [Addr.mk.injEq] at e; omega)).trans h.r0
  r1 := (World.cell?_setCell_other _ _ _ _ (by intro e; simp only [Addr.mk.injEq] at e; omega)).trans h.r1
  r2 := (World.cell?_setCell_other _ _ _ _ (by intro e; simp only [Addr.mk.injEq] at e; omega)).trans h.r2
  o0 := (World.cell?_setCell_other _ _ _ _ (by intro e; simp only [Addr.mk.injEq] at e; omega)).trans h.o0
  o1 := (World.cell?_setCell_other _ _ _ _ (by intro e; simp only [Addr.mk.injEq] at e; omega)).trans h.o1
  o2 := World.cell?_setCell_same _ _ _ h.o2
  fr0 := (World.frozen?_setCell _ _ _ _).trans h.fr0
  fr1 := (World.frozen?_setCell _ _ _ _).trans h.fr1
  fr2 := (World.frozen?_setCell _ _ _ _).trans h.fr2
  fo0 := (World.frozen?_setCell _ _ _ _).trans h.fo0
  fo1 := (World.frozen?_setCell _ _ _ _).trans h.fo1
  fo2 := (World.frozen?_setCell _ _ _ _).trans h.fo2
  sz := by have := h.sz; simpa [World.setCell] using this
  below := h.below.setCell (by show s ≤ s + 1 + 1; omega) _

theorem TB.start (w : World) (t t' t'' : TypeId) (v0 v1 v2 z0 z1 z2 o0 o1 o2 : Value) : TB w w.heap.size v0 v1 v2 z0 z1 z2 o0 o1 o2 (((w.alloc (.cells #[v0, v1, v2] t)).alloc (.cells #[z0, z1, z2] t')).alloc (.cells #[o0, o1, o2] t'')) where
  a0 := by simp [go_sem]
  a1 := by simp [go_sem]
  a2 := by simp [go_sem]
  r0 := by simp [go_sem]
  r1 := by simp [go_sem]
  r2 := by simp [go_sem]
  o0 := by simp [go_sem]
  o1 := by simp [go_sem]
  o2 := by simp [go_sem]
  fr0 := by simp [go_sem]
  fr1 := by simp [go_sem]
  fr2 := by simp [go_sem]
  fo0 := by simp [go_sem]
  fo1 := by simp [go_sem]
  fo2 := by simp [go_sem]
  sz := by simp
  below := (((Below.refl _ _).alloc (Nat.le_refl _) _).alloc (by simp) _).alloc (by simp; omega) _

end Go.Proofs.YtcdfoephhjacdaaGreatDoor

/-
  impl.TableOK, spec.TableOK, laws.eqTable.
-/
namespace Go.Proofs.YtcdfoephhjacdaaGreatDoor
open Go.RowKit

end Go.Proofs.YtcdfoephhjacdaaGreatDoor

/-
  Names: letters, digits, NAMEs, on both sides.
-/
namespace Go.Proofs.YtcdfoephhjacdaaGreatDoor
open Go.RowKit

def letterB (x : Int) : Bool := (decide (65 ≤ x) && decide (x ≤ 90)) || (decide (97 ≤ x) && decide (x ≤ 122))
def digitB (x : Int) : Bool := decide (48 ≤ x) && decide (x ≤ 57)
def nbyteB (x : Int) : Bool := letterB x || digitB x || decide (x = 95)

theorem beq_dec (x y : Int) : (x == y) = decide (x = y) := by
  by_cases h : x = y
  · simp [h]
  · rw [decide_eq_false h]; simpa using h

set_option maxHeartbeats 1000000 in
theorem isLetter_calls (w : World) (x : Int) : Calls Tryz.prog 84 #[.int .u8 x] w fun e w' => e = .returned (.bool (letterB x)) ∧ w' = w := by
  by_cases h1 : 65 ≤ x <;> by_cases h2 : x ≤ 90 <;> by_cases h3 : 97 ≤ x <;> by_cases h4 : x ≤ 122
  all_goals first | omega | skip
  all_goals
    go_enter Tryz.func84, Tryz.ntmps84
    go_wp2
    go_ret
    exact ⟨ret_bool (by unfold letterB; simp [h1, h2, h3, h4]), rfl⟩

set_option maxHeartbeats 1000000 in
theorem isDigit_calls (w : World) (x : Int) : Calls Tryz.prog 93 #[.int .u8 x] w fun e w' => e = .returned (.bool (digitB x)) ∧ w' = w := by
  by_cases h1 : 48 ≤ x <;> by_cases h2 : x ≤ 57
  all_goals first | omega | skip
  all_goals
    go_enter Tryz.func93, Tryz.ntmps93
    go_wp2
    go_ret
    exact ⟨ret_bool (by unfold digitB; simp [h1, h2]), rfl⟩

set_option maxHeartbeats 1000000 in
theorem isNameByte_calls (w : World) (x : Int) : Calls Tryz.prog 85 #[.int .u8 x] w fun e w' => e = .returned (.bool (nbyteB x)) ∧ w' = w := by
  have K1 := hid (isLetter_calls w x)
  have K2 := hid (isDigit_calls w x)
  unfold nbyteB
  cases h1 : letterB x <;> cases h2 : digitB x
  all_goals
    rw [h1] at K1
    rw [h2] at K2
    go_enter Tryz.func85, Tryz.ntmps85
    go_wp2_with (first | (go_at_call 84; refine K1.out.mono ?_; rintro e w' ⟨rfl, hw'⟩; subst w') | (go_at_call 93; refine K2.out.mono ?_; rintro e w' ⟨rfl, hw'⟩; subst w'))
    go_ret
    exact ⟨ret_bool (by simp [beq_dec]), rfl⟩

/-- byte i of a text -/
def byteAt (s : ByteArray) (i : Nat) : Int := ((s.data.toList.getD i 0).toNat : Int)
def nameB (s : ByteArray) : Bool := decide (1 ≤ s.size) && decide (s.size ≤ 30) && letterB (byteAt s 0) && (List.range s.size).all fun i => nbyteB (byteAt s i)

theorem byteAt_eq (s : ByteArray) (i : Nat) (h : i < s.size) : byteAt s i = ((s[i]'h).toNat : Int) := by
  unfold byteAt
  obtain ⟨⟨l⟩⟩ := s
  have h' : i < l.length := h
  simp only [List.getD_eq_getElem?_getD, List.getElem?_eq_getElem h', Option.getD_some]
  rfl

theorem nameB_all {s : ByteArray} (h0 : 1 ≤ s.size) (h1 : s.size ≤ 30) (h2 : letterB (byteAt s 0) = true) (h3 : ∀ i, i < s.size → nbyteB (byteAt s i) = true) : nameB s = true := by
  unfold nameB
  rw [decide_eq_true h0, decide_eq_true h1, h2, Bool.true_and, Bool.true_and, Bool.true_and, List.all_eq_true]
  intro i hi
  exact h3 i (by simpa using hi)
theorem nameB_bad {s : ByteArray} {i : Nat} (hi : i < s.size) (h3 : nbyteB (byteAt s i) = false) : nameB s = false := by
  unfold nameB
  rw [show ((List.range s.size).all fun i => nbyteB (byteAt s i)) = false from List.all_eq_false.2 ⟨i, by simpa using hi, by rw [h3]; decide⟩, Bool.and_false]

theorem not_empty {s : ByteArray} (h : s.size ≠ 0) : s.toList.isEmpty = false := by
  rw [ByteArray.toList_eq]
  obtain ⟨⟨l⟩⟩ := s
  simp [ByteArray.size] at h
  cases l with
  | nil => exact absurd rfl h
  | cons a l => rfl

set_option maxHeartbeats 2000000 in
set_option maxRecDepth 1000000 in
theorem isName_calls (w : World) (s : ByteArray) (hs : s.size ≤ 9223372036854775807) : Calls Tryz.prog 54 #[.string s] w fun e w' => e = .returned (.bool (nameB s)) ∧ w' = w := by
  by_cases h0 : s.size = 0
  · have e0 : nameB s = false := by simp [nameB, h0]
    rw [e0]
    have e1 : s = ⟨#[]⟩ := by
      obtain ⟨⟨l⟩⟩ := s
      simp [ByteArray.size] at h0
      simp [h0]
    subst e1
    go_enter Tryz.func54, Tryz.ntmps54
    go_wp2
    go_ret
    exact ⟨rfl, rfl⟩
  have hne := not_empty h0
  by_cases h1 : 30 < s.size
  · have e0 : nameB s = false := by unfold nameB; rw [decide_eq_false (show ¬ s.size ≤ 30 by omega)]; simp
    rw [e0]
    have i1 : (30 : Int) < (s.size : Int) := by omega
    go_enter Tryz.func54, Tryz.ntmps54
    go_wp2
    go_ret
    exact ⟨rfl, rfl⟩
  have i1 : ¬ ((30 : Int) < (s.size : Int)) := by omega
  have i0 : (0 : Int) < (s.size : Int) := by omega
  have hp0 : 0 < s.size := by omega
  have hb0 := byteAt_eq s 0 hp0
  cases h2 : letterB (byteAt s 0)
  · have e0 : nameB s = false := by unfold nameB; rw [h2]; simp
    rw [e0]
    rw [hb0] at h2
    go_enter Tryz.func54, Tryz.ntmps54
    go_wp2_with (first | (go_at_call 84; refine (isLetter_calls _ _).mono ?_; rintro e w' ⟨rfl, hw'⟩; subst w'))
    go_ret
    exact ⟨rfl, rfl⟩
  obtain ⟨res, hres⟩ : ∃ r, r = nameB s := ⟨_, rfl⟩
  rw [← hres]
  have HT : Hid ((∀ i, i < s.size → nbyteB (byteAt s i) = true) → res = true) := hid (fun h3 => hres.trans (nameB_all (by omega) (by omega) h2 h3))
  have HF : Hid (∀ i, i < s.size → nbyteB (byteAt s i) = false → res = false) := hid (fun i hi h3 => hres.trans (nameB_bad hi h3))
  obtain ⟨n, hn⟩ : ∃ n, n = s.size := ⟨_, rfl⟩
  rw [← hn] at HT HF
  rw [hb0] at h2
  clear hres
  go_enter Tryz.func54, Tryz.ntmps54
  go_wp2_with (first | (go_at_call 84; refine (isLetter_calls _ _).mono ?_; rintro e w' ⟨rfl, hw'⟩; subst w'))
  go_loop [19] (fun t => ∃ j : Nat, j ≤ n ∧ t = .int .i64 j ∧ Hid (∀ i, i < j → nbyteB (byteAt s i) = true)) (fun t => n - (intOf t).toNat)
  case atStart => exact ⟨0, Nat.zero_le _, rfl, hid (fun i hi => by omega)⟩
  case round =>
    obtain ⟨j, hj, rfl, hok⟩ := hrel
    by_cases hjn : j < n
    · have j1 : (j : Int) < (s.size : Int) := by omega
      have hbj := byteAt_eq s j (by omega)
      have nxt : nbyteB (byteAt s j) = true → Hid (∀ i, i < j + 1 → nbyteB (byteAt s i) = true) := fun e i hi => by
        by_cases e2 : i = j
        · rw [e2]; exact e
        · exact hok.out i (by omega)
      have fin := HF.out j hjn
      clear hok
      rw [hbj] at nxt fin
      cases hy : nbyteB ((s[j]'(by omega)).toNat : Int)
      · have hf := hid (fin hy)
        clear nxt fin
        go_wp2_with (first | (go_at_call 85; refine (isNameByte_calls _ _).mono ?_; rintro e w' ⟨rfl, hw'⟩; subst w'))
        go_ret
        exact ⟨ret_bool (by rw [hf.out]), rfl⟩
      · have hf := nxt hy
        clear nxt fin
        go_wp2_with (first | (go_at_call 85; refine (isNameByte_calls _ _).mono ?_; rintro e w' ⟨rfl, hw'⟩; subst w'))
        go_round
        case rel => exact ⟨j + 1, by omega, by go_num, hf⟩
        case measure => simp [intOf]; omega
    · obtain rfl : j = n := by omega
      have j1 : ¬ ((j : Int) < (s.size : Int)) := by omega
      have hf := hid (HT.out hok.out)
      clear hok
      go_wp2
      go_ret
      exact ⟨ret_bool (by rw [hf.out]), rfl⟩

end Go.Proofs.YtcdfoephhjacdaaGreatDoor

/-
  spec.l2Name; impl.isRelationName, isArity, areValues, areWeights.
-/
namespace Go.Proofs.YtcdfoephhjacdaaGreatDoor
open Go.RowKit

def relName (s : ByteArray) : Bool := nameB s && !(s.toList == [114, 101, 108])

set_option maxHeartbeats 1000000 in
theorem isRelationName_calls (w : World) (s : ByteArray) (hs : s.size ≤ 9223372036854775807) : Calls Tryz.prog 65 #[.string s] w fun e w' => e = .returned (.bool (relName s)) ∧ w' = w := by
  have K := hid (isName_calls w s hs)
  unfold relName
  generalize nameB s = y at *
  cases y
  all_goals
    go_enter Tryz.func65, Tryz.ntmps65
    go_wp2_with (first | (go_at_call 54; refine K.out.mono ?_; rintro e w' ⟨rfl, hw'⟩; subst w'))
    go_ret
    exact ⟨ret_bool (by simp), rfl⟩

def arityB (n : Int) : Bool := decide (1 ≤ n) && decide (n ≤ 3)

set_option maxHeartbeats 1000000 in
theorem isArity_calls (w : World) (n : Int) : Calls Tryz.prog 64 #[.int .i64 n] w fun e w' => e = .returned (.bool (arityB n)) ∧ w' = w := by
  by_cases h1 : 1 ≤ n <;> by_cases h2 : n ≤ 3
  all_goals first | omega | skip
  all_goals
    go_enter Tryz.func64, Tryz.ntmps64
    go_wp2
    go_ret
    exact ⟨ret_bool (by unfold arityB; simp [h1, h2]), rfl⟩

def valB (x : Int) : Bool := decide (0 ≤ x) && decide (x ≤ 1000000)
def wtB (x : Int) : Bool := decide (-1000000 ≤ x) && decide (x ≤ 1000000)

set_option maxHeartbeats 2000000 in
set_option maxRecDepth 1000000 in
theorem areWeights_calls (w : World) (v : Value) (l : List Int) (h : IS w v l) (hl : l.length ≤ 1099511627776) :
    Calls Tryz.prog 73 #[v] w fun e w' => e = .returned (.bool (l.all wtB)) ∧ w' = w := by
  obtain ⟨a, cap, rfl, hc⟩ := h
  obtain ⟨n, hn⟩ : ∃ n, n = l.length := ⟨_, rfl⟩
  obtain ⟨res, hres⟩ : ∃ r, r = l.all wtB := ⟨_, rfl⟩
  rw [← hres]
  have HR := hid hres
  rw [← hn] at hc hl ⊢
  have HC := hid hc
  have HN := hid hn
  clear hc hn hres
  go_enter Tryz.func73, Tryz.ntmps73
  go_wp2
  go_loop [7] (fun t => ∃ j : Nat, j ≤ n ∧ t = .int .i64 j ∧ Hid (∀ i, i < j → wtB (l.getD i 0) = true)) (fun t => n - (intOf t).toNat)
  case atStart => exact ⟨0, Nat.zero_le _, rfl, hid (fun i hi => by omega)⟩
  case round =>
    obtain ⟨j, hj, rfl, hok⟩ := hrel
    by_cases hjn : j < n
    · have i1 : (j : Int) < (n : Int) := by omega
      rcases HC.out with h0 | ⟨b, o, rfl, hcell⟩
      · omega
      · have c1 : w.cell? ⟨b, o + j, none⟩ = some (.int .i64 (l.getD j 0)) := hcell j hjn
        have fin : wtB (l.getD j 0) = false → Hid (res = false) := fun e => hid (HR.out.trans (all_getD_false wtB 0 l j (by rw [← HN.out]; exact hjn) e))
        have nxt : wtB (l.getD j 0) = true → Hid (∀ i, i < j + 1 → wtB (l.getD i 0) = true) := fun e i hi => by
          by_cases e2 : i = j
          · rw [e2]; exact e
          · exact hok.out i (by omega)
        clear hcell hok
        generalize l.getD j 0 = x at *
        unfold wtB at nxt fin
        by_cases h1 : x < -1000000
        · have hf := fin (by rw [decide_eq_false (by omega)]; rfl)
          clear fin nxt
          go_wp2
          go_ret
          exact ⟨ret_bool (by rw [hf.out]), rfl⟩
        · by_cases h2 : 1000000 < x
          · have hf := fin (by rw [decide_eq_false (show ¬ x ≤ 1000000 by omega)]; simp)
            clear fin nxt
            go_wp2
            go_ret
            exact ⟨ret_bool (by rw [hf.out]), rfl⟩
          · have hf := nxt (by rw [decide_eq_true (by omega), decide_eq_true (by omega)]; rfl)
            clear fin nxt
            go_wp2
            go_round
            case rel => exact ⟨j + 1, by omega, by go_num, hf⟩
            case measure => simp [intOf]; omega
    · obtain rfl : j = n := by omega
      have hf : Hid (res = true) := hid (HR.out.trans (all_getD wtB 0 l (fun i hi => hok.out i (by rw [HN.out]; exact hi))))
      have i1 : ¬ ((j : Int) < (j : Int)) := by omega
      clear hok
      go_wp2
      go_ret
      exact ⟨ret_bool (by rw [hf.out]), rfl⟩

set_option maxHeartbeats 2000000 in
set_option maxRecDepth 1000000 in
theorem areValues_calls (w : World) (ve : Value) (ls : List (List Int)) (h : ISS w ve ls) (hl : Short ls) :
    Calls Tryz.prog 72 #[ve] w fun e w' => e = .returned (.bool (ls.all fun l => l.all valB)) ∧ w' = w := by
  obtain ⟨a, cap, rfl, hc⟩ := h
  obtain ⟨hl1, hl2⟩ := hl
  obtain ⟨n, hn⟩ : ∃ n, n = ls.length := ⟨_, rfl⟩
  obtain ⟨res, hres⟩ : ∃ r, r = ls.all fun l => l.all valB := ⟨_, rfl⟩
  rw [← hres]
  rw [← hn] at hc hl1 ⊢
  have HR := hid hres
  have HC := hid hc
  have HN := hid hn
  have HL := hid hl2
  clear hc hn hl2 hres
  go_enter Tryz.func72, Tryz.ntmps72
  go_wp2
  go_loop [9] (fun t => ∃ j : Nat, j ≤ n ∧ t = .int .i64 j ∧ Hid (∀ i, i < j → (ls.getD i []).all valB = true)) (fun t => n - (intOf t).toNat)
  case atStart => exact ⟨0, Nat.zero_le _, rfl, hid (fun i hi => by omega)⟩
  case round =>
    obtain ⟨j, hj, rfl, hok⟩ := hrel
    by_cases hjn : j < n
    · have i1 : (j : Int) < (n : Int) := by omega
      rcases HC.out with h0 | ⟨b, o, rfl, hcell⟩
      · omega
      · obtain ⟨u, c1, hu⟩ := hcell j hjn
        have hml := HL.out j
        obtain ⟨a1, cap1, rfl, hu2⟩ := hu
        have HU := hid hu2
        have HF : Hid (∀ i, i < (ls.getD j []).length → valB ((ls.getD j []).getD i 0) = false → res = false) := hid (fun i hi e => HR.out.trans (all_getD_false (fun l => l.all valB) [] ls j (by rw [← HN.out]; exact hjn) (all_getD_false valB 0 _ i hi e)))
        have HX : Hid ((∀ k, k < (ls.getD j []).length → valB ((ls.getD j []).getD k 0) = true) → ∀ i, i < j + 1 → (ls.getD i []).all valB = true) := hid (fun e i hi => by
          by_cases e2 : i = j
          · rw [e2]; exact all_getD valB 0 _ e
          · exact hok.out i (by omega))
        clear hcell hok hu2
        generalize ls.getD j [] = l at *
        obtain ⟨m, hm⟩ : ∃ m, m = l.length := ⟨_, rfl⟩
        rw [← hm] at c1 hml HU HF HX
        clear hm
        go_wp2
        go_loop [15] (fun t => ∃ i : Nat, i ≤ m ∧ t = .int .i64 i ∧ Hid (∀ k, k < i → valB (l.getD k 0) = true)) (fun t => m - (intOf t).toNat)
        case atStart => exact ⟨0, Nat.zero_le _, rfl, hid (fun k hk => by omega)⟩
        case round =>
          obtain ⟨i, hi, rfl, hoki⟩ := hrel
          by_cases him : i < m
          · have j1 : (i : Int) < (m : Int) := by omega
            rcases HU.out with h0 | ⟨b', o', rfl, hcl⟩
            · omega
            · have c2 : w.cell? ⟨b', o' + i, none⟩ = some (.int .i64 (l.getD i 0)) := hcl i him
              have fin := HF.out i him
              have nxt : valB (l.getD i 0) = true → Hid (∀ k, k < i + 1 → valB (l.getD k 0) = true) := fun e k hk => by
                by_cases e2 : k = i
                · rw [e2]; exact e
                · exact hoki.out k (by omega)
              clear hcl hoki
              generalize l.getD i 0 = x at *
              unfold valB at nxt fin
              by_cases h1 : x < 0
              · have hf := hid (fin (by rw [decide_eq_false (by omega)]; rfl))
                clear fin nxt
                go_wp2
                go_ret
                exact ⟨ret_bool (by rw [hf.out]), rfl⟩
              · by_cases h2 : 1000000 < x
                · have hf := hid (fin (by rw [decide_eq_false (show ¬ x ≤ 1000000 by omega)]; simp))
                  clear fin nxt
                  go_wp2
                  go_ret
                  exact ⟨ret_bool (by rw [hf.out]), rfl⟩
                · have hf := nxt (by rw [decide_eq_true (by omega), decide_eq_true (by omega)]; rfl)
                  clear fin nxt
                  go_wp2
                  go_round
                  case rel => exact ⟨i + 1, by omega, by go_num, hf⟩
                  case measure => simp [intOf]; omega
          · obtain rfl : i = m := by omega
            have j1 : ¬ ((i : Int) < (i : Int)) := by omega
            have hnx := hid (HX.out hoki.out)
            clear hoki
            go_wp2
            go_round
            case rel => exact ⟨j + 1, by omega, by go_num, hnx⟩
            case measure => simp [intOf]; omega
    · obtain rfl : j = n := by omega
      have i1 : ¬ ((j : Int) < (j : Int)) := by omega
      have hf : Hid (res = true) := hid (HR.out.trans (all_getD (fun l => l.all valB) [] ls (fun i hi => hok.out i (by rw [HN.out]; exact hi))))
      clear hok
      go_wp2
      go_ret
      exact ⟨ret_bool (by rw [hf.out]), rfl⟩

end Go.Proofs.YtcdfoephhjacdaaGreatDoor
