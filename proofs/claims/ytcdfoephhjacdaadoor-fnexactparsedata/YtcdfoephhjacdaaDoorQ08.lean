import Derived.DeepKeys4
import Derived.Maps.OwnOps
import Derived.Maps.OwnSet
import Derived.Maps.Views
import Derived.Test.YtcdfoephhjacdaaDoorQ07
/-
  A map by tuples: arrays of three ints.
-/
namespace Go.Proofs.YtcdfoephhjacdaaDoor
open Go.RowKit Go.Maps

/-- three values of a row -/
abbrev T3 := { p : Int × Int × Int // (0 ≤ p.1 ∧ p.1 ≤ 1000000) ∧ (0 ≤ p.2.1 ∧ p.2.1 ≤ 1000000) ∧ (0 ≤ p.2.2 ∧ p.2.2 ≤ 1000000) }
def T3.a (x : T3) : Int := x.1.1
def T3.b (x : T3) : Int := x.1.2.1
def T3.c (x : T3) : Int := x.1.2.2
theorem T3.ha (x : T3) : 0 ≤ x.a ∧ x.a ≤ 1000000 := x.2.1
theorem T3.hb (x : T3) : 0 ≤ x.b ∧ x.b ≤ 1000000 := x.2.2.1
theorem T3.hc (x : T3) : 0 ≤ x.c ∧ x.c ≤ 1000000 := x.2.2.2
def tv (x : T3) : Value := .agg #[.int .i64 x.a, .int .i64 x.b, .int .i64 x.c]
def tl (x : T3) : List Int := [x.a, x.b, x.c]
theorem T3.ext3 {x y : T3} (h1 : x.a = y.a) (h2 : x.b = y.b) (h3 : x.c = y.c) : x = y := Subtype.ext (Prod.ext h1 (Prod.ext h2 h3))
theorem tv_inj {x y : T3} (h : tv x = tv y) : x = y := by
  unfold tv at h
  simp only [Value.agg.injEq, Array.mk.injEq, List.cons.injEq, Value.int.injEq, true_and, and_true] at h
  exact T3.ext3 h.1 h.2.1 h.2.2
theorem tl_inj {x y : T3} (h : tl x = tl y) : x = y := by
  unfold tl at h
  simp only [List.cons.injEq, and_true] at h
  exact T3.ext3 h.1 h.2.1 h.2.2

theorem Tryd.laidT : laidOutB Tryd.prog = true := by kernel_rfl
theorem Tryd.rowT : (132 : TypeId) < Tryd.prog.types.size := of_decide_eq_true (by kernel_rfl)
theorem Tryd.lawTu : Keyed Tryd.prog 132 := Keyed.of_law (deep_law_laid Tryd.laidT (m := 3) (by omega) Tryd.rowT (by kernel_rfl) (by rw [Tryd.underlying132]))
theorem Tryd.underMt : Tryd.prog.underlying 128 = some (.map 132 3) := by kernel_rfl
theorem Tryd.zeroI2 (w : World) : (zeroValue 3).run Tryd.prog w = .ok (.int .i64 0) w := by kernel_rfl

theorem Tryd.cellsT : Tryd.prog.cellsOf 132 = 3 := by kernel_rfl
theorem Tryd.cellsI3 : Tryd.prog.cellsOf 3 = 1 := by kernel_rfl
theorem Tryd.keyTypeT : Tryd.prog.keyType 132 = true := by kernel_rfl
theorem lits_int (d : Nat) (n : Int) (h : (Lit.int .i64 n).wf = true) : Tryd.prog.keyLits (d + 1) 3 [.int .i64 n] = some [.int .i64 n] := by
  unfold Program.keyLits
  rw [Tryd.underlying3]
  simp [h]
theorem lits_t (d : Nat) (x y z : Int) (hx : (Lit.int .i64 x).wf = true) (hy : (Lit.int .i64 y).wf = true) (hz : (Lit.int .i64 z).wf = true) : Tryd.prog.keyLits (d + 2) 132 [.int .i64 x, .int .i64 y, .int .i64 z] = some [.int .i64 x, .int .i64 y, .int .i64 z] := by
  unfold Program.keyLits
  rw [Tryd.underlying132]
  simp [Tryd.cellsT, Tryd.cellsI3, List.range_succ, lits_int, hx, hy, hz]
/-- the key of a tuple -/
def kl (x : T3) : Lit := .string (keyBytes [.int .i64 x.a, .int .i64 x.b, .int .i64 x.c])
theorem key_t (x : T3) : keyOf Tryd.prog 132 (tv x) = some (kl x) := by
  obtain ⟨n, hn⟩ : ∃ n, Tryd.prog.types.size = n + 1 := Nat.exists_eq_succ_of_ne_zero (Nat.ne_of_gt (Nat.lt_of_le_of_lt (Nat.zero_le _) Tryd.rowT))
  have h1 := lits_t n x.a x.b x.c (WalkArith.wf_i64 (by have := x.ha; omega)) (WalkArith.wf_i64 (by have := x.hb; omega)) (WalkArith.wf_i64 (by have := x.hc; omega))
  have h2 : (tv x).formed Tryd.prog 132 = true := by
    unfold tv Value.formed
    rw [Tryd.underlying132]
    simp [Tryd.cellsT]
  unfold keyOf
  rw [Tryd.underlying132, Tryd.keyTypeT, h2, hn]
  have hc : (tv x).cells.toList = [.int .i64 x.a, .int .i64 x.b, .int .i64 x.c] := rfl
  simp only [hc, Bool.and_true, if_true, Option.map_eq_some_iff, Nat.add_assoc, Nat.reduceAdd]
  exact ⟨_, h1, rfl⟩
theorem kl_inj {x y : T3} (h : kl x = kl y) : x = y := tv_inj (Tryd.lawTu.inj (key_t x) (by rw [h]; exact key_t y))
theorem kl_key (x : T3) : WideAt.IsKeyLit (kl x) := Tryd.lawTu.key (key_t x)

/-- block b holds these rows with their weights -/
structure Tps (W : World) (b : Nat) (rs : List (T3 × Int)) (D : DataW Unit) : Prop where
  own : W.ownsMap Tryd.prog 132 (plainElem Tryd.prog 3) b rs.length D
  has : ∀ x, Maps.has D (kl x) = decide (x ∈ rs.map Prod.fst)
  size : Maps.size D = rs.length
  val : ∀ p ∈ rs, ∀ zd, D.atKey (kl p.1) zd = .lit (.int .i64 p.2)
  all : ∀ l, Maps.has D l = true → ∃ x, kl x = l
  nd : (rs.map Prod.fst).Nodup
theorem Tps.start (w : World) : Tps (w.alloc (.map #[] 0)) w.heap.size [] (.map []) := ⟨World.ownsMap_made _ _ _ _, fun _ => rfl, rfl, fun p hp => by simp at hp, fun l h => (by cases h), List.nodup_nil⟩
theorem Tps.bel {W W' : World} {b : Nat} {rs : List (T3 × Int)} {D : DataW Unit} (h : Tps W b rs D) (hb : Below W.heap.size W W') : Tps W' b rs D := by
  have hlt := h.own.lt
  obtain ⟨es, clock, hb', F, hs, hD⟩ := h.own
  exact ⟨⟨es, clock, (hb.block b hlt).trans hb', F, hs, hD⟩, h.has, h.size, h.val, h.all, h.nd⟩

end Go.Proofs.YtcdfoephhjacdaaDoor
