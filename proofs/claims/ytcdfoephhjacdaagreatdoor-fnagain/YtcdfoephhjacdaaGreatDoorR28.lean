import Derived.DeepKeys4
import Derived.LoopIn
import Derived.LoopNIn
import Derived.Maps.OwnOps
import Derived.Maps.OwnSet
import Derived.Maps.Views
import Derived.OwnWalkIn
import Derived.RangeFuncBound
import Derived.RangeFuncCalls
import Derived.RangeFuncLeaves
import Derived.RangeFuncNested
import Derived.RangeFuncStops
import Derived.RegionIn
import Derived.Shelf.Abstract
import Derived.Shelf.AbstractIn
import Derived.Shelf.RegionOpen
import Derived.Sort.MapsRangeIn
import Derived.TacticsInMore
import Derived.WalkKit
import Derived.Test.YtcdfoephhjacdaaGreatDoorR02
/-
  A map by tuples: arrays of three ints.
-/
namespace Go.Proofs.YtcdfoephhjacdaaGreatDoor
open Go.RowKit Go.Maps

/-- three values of a row -/
abbrev T3 := { p : Int × Int × Int // (0 ≤ p.1 ∧ p.1 ≤ 1000000) ∧ (0 ≤ p.2.1 ∧ p.2.1 ≤ 1000000) ∧ (0 ≤ p.2.2 ∧ p.2.2 ≤ 1000000) }
def T3.a (x : T3) : Int := x.1.1
def T3.b (x : T3) : Int := x.1.2.1
def T3.c (x : T3) : Int := x.1.2.2
theorem T3.ha (x : T3) : 0 ≤ x.a ∧ x.a ≤ 1000000 := x.2.1
theorem T3.hb (x : T3) : 0 ≤ x.b ∧ x.b ≤ 1000000 := x.2.2.1
theorem T3.hc (x : T3) : 0 ≤ x.c ∧ x.c ≤ 1000000 := x.2.2.2
def tv (x : T3) : Value := .agg #[.int .i64 x.a, .int .i64 x.b, .int .i64 x.c]
def tl (x : T3) : List Int := [x.a, x.b, x.c]
theorem T3.ext3 {x y : T3} (h1 : x.a = y.a) (h2 : x.b = y.b) (h3 : x.c = y.c) : x = y := Subtype.ext (Prod.ext h1 (Prod.ext h2 h3))
theorem tv_inj {x y : T3} (h : tv x = tv y) : x = y := by
  unfold tv at h
  simp only [Value.agg.injEq, Array.mk.injEq, List.cons.injEq, Value.int.injEq, true_and, and_true] at h
  exact T3.ext3 h.1 h.2.1 h.2.2
theorem tl_inj {x y : T3} (h : tl x = tl y) : x = y := by
  unfold tl at h
  simp only [List.cons.injEq, and_true] at h
  exact T3.ext3 h.1 h.2.1 h.2.2

theorem Tryz.laidT : laidOutB Tryz.prog = true := by kernel_rfl
theorem Tryz.rowT : (139 : TypeId) < Tryz.prog.types.size := of_decide_eq_true (by kernel_rfl)
theorem Tryz.lawTu : Keyed Tryz.prog 139 := Keyed.of_law (deep_law_laid Tryz.laidT (m := 3) (by omega) Tryz.rowT (by kernel_rfl) (by rw [Tryz.underlying139]))
theorem Tryz.underMt : Tryz.prog.underlying 135 = some (.map 139 3) := by kernel_rfl
theorem Tryz.zeroI2 (w : World) : (zeroValue 3).run Tryz.prog w = .ok (.int .i64 0) w := by kernel_rfl

theorem Tryz.cellsT : Tryz.prog.cellsOf 139 = 3 := by kernel_rfl
theorem Tryz.cellsI3 : Tryz.prog.cellsOf 3 = 1 := by kernel_rfl
theorem Tryz.keyTypeT : Tryz.prog.keyType 139 = true := by kernel_rfl
theorem lits_int (d : Nat) (n : Int) (h : (Lit.int .i64 n).wf = true) : Tryz.prog.keyLits (d + 1) 3 [.int .i64 n] = some [.int .i64 n] := by
  unfold Program.keyLits
  rw [Tryz.underlying3]
  simp [h]
theorem lits_t (d : Nat) (x y z : Int) (hx : (Lit.int .i64 x).wf = true) (hy : (Lit.int .i64 y).wf = true) (hz : (Lit.int .i64 z).wf = true) : Tryz.prog.keyLits (d + 2) 139 [.int .i64 x, .int .i64 y, .int .i64 z] = some [.int .i64 x, .int .i64 y, .int .i64 z] := by
  unfold Program.keyLits
  rw [Tryz.underlying139]
  simp [Tryz.cellsT, Tryz.cellsI3, List.range_succ, lits_int, hx, hy, hz]
/-- the key of a tuple -/
def kl (x : T3) : Lit := .string (keyBytes [.int .i64 x.a, .int .i64 x.b, .int .i64 x.c])
theorem key_t (x : T3) : keyOf Tryz.prog 139 (tv x) = some (kl x) := by
  obtain ⟨n, hn⟩ : ∃ n, Tryz.prog.types.size = n + 1 := Nat.exists_eq_succ_of_ne_zero (Nat.ne_of_gt (Nat.lt_of_le_of_lt (Nat.zero_le _) Tryz.rowT))
  have h1 := lits_t n x.a x.b x.c (WalkArith.wf_i64 (by have := x.ha; omega)) (WalkArith.wf_i64 (by have := x.hb; omega)) (WalkArith.wf_i64 (by have := x.hc; omega))
  have h2 : (tv x).formed Tryz.prog 139 = true := by
    unfold tv Value.formed
    rw [Tryz.underlying139]
    simp [Tryz.cellsT]
  unfold keyOf
  rw [Tryz.underlying139, Tryz.keyTypeT, h2, hn]
  have hc : (tv x).cells.toList = [.int .i64 x.a, .int .i64 x.b, .int .i64 x.c] := rfl
  simp only [hc, Bool.and_true, if_true, Option.map_eq_some_iff, Nat.add_assoc, Nat.reduceAdd]
  exact ⟨_, h1, rfl⟩
theorem kl_inj {x y : T3} (h : kl x = kl y) : x = y := tv_inj (Tryz.lawTu.inj (key_t x) (by rw [h]; exact key_t y))
theorem kl_key (x : T3) : WideAt.IsKeyLit (kl x) := Tryz.lawTu.key (key_t x)

/-- block b holds these rows with their weights -/
structure Tps (W : World) (b : Nat) (rs : List (T3 × Int)) (D : DataW Unit) : Prop where
  own : W.ownsMap Tryz.prog 139 (plainElem Tryz.prog 3) b rs.length D
  has : ∀ x, Maps.has D (kl x) = decide (x ∈ rs.map Prod.fst)
  size : Maps.size D = rs.length
  val : ∀ p ∈ rs, ∀ zd, D.atKey (kl p.1) zd = .lit (.int .i64 p.2)
  all : ∀ l, Maps.has D l = true → ∃ x, kl x = l
  nd : (rs.map Prod.fst).Nodup
theorem Tps.start (w : World) : Tps (w.alloc (.map #[] 0)) w.heap.size [] (.map []) := ⟨World.ownsMap_made _ _ _ _, fun _ => rfl, rfl, fun p hp => by simp at hp, fun l h => (by cases h), List.nodup_nil⟩
theorem Tps.bel {W W' : World} {b : Nat} {rs : List (T3 × Int)} {D : DataW Unit} (h : Tps W b rs D) (hb : Below W.heap.size W W') : Tps W' b rs D := by
  have hlt := h.own.lt
  obtain ⟨es, clock, hb', F, hs, hD⟩ := h.own
  exact ⟨⟨es, clock, (hb.block b hlt).trans hb', F, hs, hD⟩, h.has, h.size, h.val, h.all, h.nd⟩

end Go.Proofs.YtcdfoephhjacdaaGreatDoor

/-
  maps.Keys of a map by tuples: the keys come, each once.
-/
namespace Go.Proofs.YtcdfoephhjacdaaGreatDoor
open Go.RowKit Go.Maps Go.Shelf

/-- what has come of the map's keys -/
def Coll (D : DataW Unit) (left : Lit → Bool) (ss : List T3) : Prop := ss.Nodup ∧ ∀ x, x ∈ ss ↔ (Maps.has D (kl x) = true ∧ left (kl x) = false)
theorem same_kl (x y : T3) : (kl y).sameKey (kl x) = decide (y = x) := by
  by_cases h : y = x
  · subst h; simp [kl, Lit.sameKey]
  · rw [decide_eq_false h]
    have : kl y ≠ kl x := fun e => h (kl_inj e)
    unfold kl at this ⊢
    simp only [Lit.sameKey, beq_eq_false_iff_ne, ne_eq]
    exact fun e => this (by rw [e])
theorem Coll.start (D : DataW Unit) : Coll D (Maps.has D) [] := ⟨List.nodup_nil, fun x => by cases Maps.has D (kl x) <;> simp⟩
theorem Coll.step {D : DataW Unit} {left : Lit → Bool} {ss : List T3} (h : Coll D left ss) {x : T3} {y : DataW Unit} (hlk : left (kl x) = true) (hat : ∀ zd, D.atKey (kl x) zd = y) : Coll D (fun z => left z && !z.sameKey (kl x)) (ss ++ [x]) := by
  have hhas : Maps.has D (kl x) = true := has_true_of_atKey hat
  have hnew : x ∉ ss := fun hx => by have := ((h.2 x).1 hx).2; rw [hlk] at this; cases this
  refine ⟨List.nodup_append.2 ⟨h.1, by simp, fun a ha b hb => by simp at hb; subst hb; exact fun e => hnew (e ▸ ha)⟩, fun y => ?_⟩
  show _ ↔ Maps.has D (kl y) = true ∧ (left (kl y) && !(kl y).sameKey (kl x)) = false
  rw [same_kl]
  by_cases hy : y = x
  · subst hy; simp [hhas]
  · simp [h.2 y, hy]

theorem KeepsWalks.of_none {w w' : World} (h : w.grownBy w' none) : KeepsWalks w w' := KeepsWalks.of_grownBy h (fun j o e => by cases e)

set_option maxRecDepth 1000000 in
set_option maxHeartbeats 4000000 in
theorem keysT1_in (F : Fence) (n : Nat) (h10 : F.fn 97) (hro : F.round = none) (hn : 1 ≤ n) (l Bm b nn : Nat) (D0 : DataW Unit) {R : Value → Option (DataW Unit × List MemPlace)} (J Jx : List T3 → World → Prop)
    (hY : ∀ pre x W, J pre W → pre.length < Maps.size D0 → YieldAt F (n - 1) Tryz.prog l #[tv x] W fun e W' =>
      (e = .returned (.bool true) ∧ J (pre ++ [x]) W' ∧ KeepsWalks W W') ∨ (e = .returned (.bool false) ∧ Jx (pre ++ [x]) W'))
    (W : World) (hJ : AbidesFrom W.heap.size J) (hm : W.cell? ⟨Bm, 0, none⟩ = some (.map (some b))) (hown : W.ownsMap Tryz.prog 139 R b nn D0) (hall : ∀ l, Maps.has D0 l = true → ∃ x, kl x = l) (h0 : J [] W) :
    CallsIn F n Tryz.prog 97 #[.func (.yield l) #[] #[], .pointer (some ⟨Bm, 0, none⟩)] W fun e W' => (∃ v, e = .returned v) ∧
      ((∃ ss : List T3, (ss.Nodup ∧ ∀ x, x ∈ ss ↔ Maps.has D0 (kl x) = true) ∧ J ss W') ∨ (∃ pre : List T3, True ∧ Jx pre W')) := by
  refine callsIn_of_wp Tryz.func97 rfl h10 ?_ hro
  simp only [Tryz.ntmps97, List.size_toArray, List.length_cons, List.length_nil, Nat.reduceAdd, Nat.reduceSub, Array.replicate_succ, Array.replicate_zero, List.push_toArray, List.append_toArray, List.nil_append, List.cons_append]
  gi_wp2_with (first
    | (gi_at_range; refine wpListIn_range_own _ rfl _ 135 rfl 139 3 Tryz.lawTu Tryz.underMt _ b nn _ rfl hown ?_; intro w0 hrg0 hg0 hs0)
    | gi_in)
  go_frame
  gi_loopw [3] (fun _ wr => ∃ (left : Lit → Bool) (cnt : Nat) (ss : List T3), wr.ranges Tryz.prog 139 R b W.heap.size nn D0 left cnt ∧ ss.length + cnt ≤ Maps.size D0 ∧ Coll D0 left ss ∧ J ss wr)
    (fun _ wr => wr.rangeLeft b W.heap.size)
  case atStart =>
    exact ⟨_, _, [], hrg0, by simp, Coll.start D0, hJ [] W w0 none h0 hg0 (fun r e => by cases e)⟩
  case round =>
    obtain ⟨left, cnt, ss, hrg, hcs, hC, hJs⟩ := hrel
    gi_wp2_with (first
      | (gi_at_next; refine wpListIn_next_ranges _ rfl _ rfl 139 Tryz.lawTu R id id (fun key kl hk => ⟨key, rfl⟩) (fun v _ _ => ⟨v, rfl⟩) b W.heap.size nn _ _ _ rfl hrg ?_ ?_)
      | gi_in)
    · intro hc0 hl0
      gi_wp2
      go_end0
      exact ⟨⟨_, rfl⟩, .inl ⟨ss, ⟨hC.1, fun x => by rw [hC.2 x, hl0]; simp⟩, hJs⟩⟩
    · intro x c kl' yd yp w2 cnt2 hkey hlk hv hat hrg2 hlt hg2 hs2 hen
      obtain ⟨y, rfl⟩ := hall kl' (has_true_of_atKey hat)
      obtain rfl : x = tv y := Tryz.lawTu.inj hkey (key_t y)
      have hJ2 : J ss w2 := hJ ss wr w2 (some W.heap.size) hJs hg2 (fun r e => by cases e; exact ⟨Nat.le_refl _, hrg.iter_walk⟩)
      have HG := World.grownBy_alloc w2 (.cells #[.int .i64 y.a, .int .i64 y.b, .int .i64 y.c] 139) none
      have hJ3 := hJ ss w2 _ none hJ2 HG (fun r e => by cases e)
      have hrg3 := hrg2.of_walks (KeepsWalks.of_none HG)
      obtain ⟨fn, tmps, assign, body, hy, hR⟩ := hY ss y _ hJ3 (by omega)
      clear hs2
      simp only [tv] at hen hy
      gi_wp2
      refine hR.mono ?_
      have hC2 := hC.step hlk hat
      rintro e W3 (⟨rfl, hJ4, hk3⟩ | ⟨rfl, hJx3⟩)
      · gi_wp2
        have hrg4 := hrg3.of_walks hk3
        go_roundw
        case rel => exact ⟨_, cnt2, ss ++ [y], hrg4, by simp; omega, hC2, hJ4⟩
        case measure => rw [hrg4.left_eq, hrg.left_eq]; exact hlt
      · gi_wp2
        refine bodyPost_ret (results_none rfl _ _ _) rfl ?_
        exact ⟨⟨_, rfl⟩, .inr ⟨ss ++ [y], trivial, hJx3⟩⟩

theorem keysT_stops (F : Fence) (n : Nat) (h10 : F.fn 97) (hro : F.round = none) (hn : 1 ≤ n) (Bm b nn : Nat) (D0 : DataW Unit) {R : Value → Option (DataW Unit × List MemPlace)} (w : World) (hBm : Bm < w.heap.size)
    (hm : w.cell? ⟨Bm, 0, none⟩ = some (.map (some b))) (hown : w.ownsMap Tryz.prog 139 R b nn D0) (hall : ∀ l, Maps.has D0 l = true → ∃ x, kl x = l) :
    SeqStops F n Tryz.prog 97 #[.pointer (some ⟨Bm, 0, none⟩)] tv (fun ss => ss.Nodup ∧ ∀ x, x ∈ ss ↔ Maps.has D0 (kl x) = true) (fun _ => True) (Maps.size D0) w := fun l J Jx W hW hJ _ hY h0 => by
  have hown' : W.ownsMap Tryz.prog 139 R b nn D0 := by
    have hbl := hown.lt
    obtain ⟨es, clock, hb, Ft, hs, hD⟩ := hown
    exact ⟨es, clock, (hW.block b hbl).trans hb, Ft, hs, hD⟩
  exact keysT1_in F n h10 hro hn l Bm b nn D0 J Jx hY W hJ ((hW.cell (p := ⟨Bm, 0, none⟩) hBm).trans hm) hown' hall h0

set_option maxHeartbeats 1000000 in
theorem keysT_in (F : Fence) (n : Nat) (h7 : F.fn 68) (hro : F.round = none) (mb : Option Nat) (w : World) :
    CallsIn F n Tryz.prog 68 #[.map mb] w fun e w' => e = .returned (.func (.func 97) #[] #[.pointer (some ⟨w.heap.size, 0, none⟩)]) ∧ w' = w.alloc (.cells #[.map mb] 135) := by
  refine callsIn_of_wp Tryz.func68 rfl h7 ?_ hro
  simp only [Tryz.ntmps68, List.size_toArray, List.length_cons, List.length_nil, Nat.reduceAdd, Nat.reduceSub, Array.replicate_succ, Array.replicate_zero, List.push_toArray, List.append_toArray, List.nil_append, List.cons_append]
  gi_wp2
  go_ret
  exact ⟨rfl, rfl⟩

end Go.Proofs.YtcdfoephhjacdaaGreatDoor
