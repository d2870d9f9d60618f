import Derived.Deep.Cut
import Derived.Test.YtnmcgbfhgmmcpaaW08
import Derived.Test.YtnmcgbfhgmmcpaaW16
import Derived.Test.YtnmcgbfhgmmcpaaW23
import Derived.Test.YtnmcgbfhgmmcpaaW24
import Derived.Test.YtnmcgbfhgmmcpaaW36
import Derived.Test.YtnmcgbfhgmmcpaaW37
/-
  Plans: laws.toRatS, szRatS, toPlan, szPlan, eqPlan.
-/
namespace Go.Proofs.Ytnmcgbfhgmmcpaa
open Go.RowKit

/-- a plan that can be read -/
structure IPl (w : World) (v0 v1 v2 v3 : Value) (bs : List (List Int)) (ps hs : List Int) (ws : List (Int × Int)) : Prop where
  b : ISS w v0 bs
  p : IS w v1 ps
  h : IS w v2 hs
  d : IR w v3 ws
theorem IPl.below {w w' : World} {v0 v1 v2 v3 : Value} {bs : List (List Int)} {ps hs : List Int} {ws : List (Int × Int)} (h : IPl w v0 v1 v2 v3 bs ps hs ws) (hb : Below w.heap.size w w') : IPl w' v0 v1 v2 v3 bs ps hs ws :=
  ⟨h.b.below hb, h.p.below hb, h.h.below hb, h.d.below hb⟩

/-- Rats in block g -/
def IRb (w : World) (g : Nat) (l : List (Int × Int)) : Prop := (∀ j, j < l.length → w.cell? ⟨g, j * 2, none⟩ = some (.int .i64 (l.getD j (0, 0)).1) ∧ w.cell? ⟨g, j * 2 + 1, none⟩ = some (.int .i64 (l.getD j (0, 0)).2)) ∧ ∀ q, q < l.length * 2 → w.frozen? ⟨g, q, none⟩ = false
theorem IRb.move {w w' : World} {g : Nat} {l : List (Int × Int)} (h : IRb w g l) (hb : w'.heap[g]? = w.heap[g]?) : IRb w' g l :=
  ⟨fun j hj => ⟨(World.cell?_of_block (w := w) (a := ⟨g, j * 2, none⟩) hb).trans (h.1 j hj).1, (World.cell?_of_block (w := w) (a := ⟨g, j * 2 + 1, none⟩) hb).trans (h.1 j hj).2⟩, fun q hq => by have := h.2 q hq; unfold World.frozen? at this ⊢; rw [hb]; exact this⟩
theorem IRb.ir {w : World} {g : Nat} {l : List (Int × Int)} (h : IRb w g l) : IR w (.slice (some ⟨g, 0, none⟩) l.length l.length) l :=
  ⟨_, _, rfl, Or.inr ⟨g, 0, rfl, fun j hj => by rw [Nat.zero_add]; exact h.1 j hj⟩⟩

theorem IRb.sh {lo : Nat} {w : World} {g : Nat} {l : List (Int × Int)} (h : IRb w g l) (h1 : lo ≤ g) (h2 : g < w.heap.size) : ShI lo w.heap.size w g (l.length * 2) := ⟨h1, h2, h2, fun j hj => by
  rcases Nat.mod_two_eq_zero_or_one j with e | e
  · have := (h.1 (j / 2) (by omega)).1
    rw [show j / 2 * 2 = j by omega] at this
    exact ⟨_, this⟩
  · have := (h.1 (j / 2) (by omega)).2
    rw [show j / 2 * 2 + 1 = j by omega] at this
    exact ⟨_, this⟩, h.2⟩
theorem Half.shss {lo : Nat} {w : World} {g : Nat} {ls : List (List Int)} {f : Nat → Nat} (h : Half w g ls.length ls.length ls f) (h1 : lo ≤ g) : ShSS lo w.heap.size w g ls.length (fun j => (ls.getD j []).length) := fun j hj => by
  have e := h.cell j hj
  rw [if_pos hj] at e
  have hg := h.gt j hj
  exact ⟨f j, e, (h.own j hj).sh (by omega) (h.own j hj).lt⟩

theorem OwnI.shE {lo : Nat} {W : World} {g : Nat} {l : List Int} (h : OwnI W g l) (h1 : lo ≤ g) : ShI lo W.heap.size W g l.length := h.sh h1 h.lt
set_option maxHeartbeats 4000000 in
set_option maxRecDepth 1000000 in
theorem toRatS_calls (w : World) (v : Value) (l : List (Int × Int)) (h : IR w v l) (hl : l.length ≤ 1048576) :
    Calls Try.prog 67 #[v] w fun e w' => e = .returned (.slice (some ⟨w.heap.size, 0, none⟩) l.length l.length) ∧ IRb w' w.heap.size l ∧ w.heap.size < w'.heap.size ∧ Below w.heap.size w w' := by
  obtain ⟨i0, hi, hz0, hz1, hz2⟩ := info_parts Try.infoRatS
  obtain ⟨a, cap, rfl, hc⟩ := h
  obtain ⟨n, hn⟩ : ∃ n, n = l.length := ⟨_, rfl⟩
  have HC := hid hc
  have HN := hid hn
  rw [← hn] at HC hl ⊢
  clear hc hn
  go_enter Try.func67, Try.ntmps67
  go_wp2_with (at_make; refine wpList_make_full _ rfl _ _ 29 rfl w.heap.size 28 i0 (.agg #[.int .i64 0, .int .i64 0]) 2 Try.underlying29 hi hz0 hz1 _ _ _ _ n rfl rfl rfl rfl ?b2 ?b3 (Nat.le_refl _) ?_)
  case b2 => rw [hz2]; omega
  case b3 => unfold maxLen; omega
  intro w0 hown0 hgrow0
  have hb0 : Below w.heap.size w w0 := (Below.refl _ _).grown hgrow0 (Nat.le_refl _) (fun j hj => by cases hj)
  have hlt0 : w.heap.size < w0.heap.size := (hown0.lt _ rfl).2
  have hH0 : HalfP w0 w.heap.size n 0 (fun i a b => a = .int .i64 (l.getD i (0, 0)).1 ∧ b = .int .i64 (l.getD i (0, 0)).2) := ⟨fun q hq => by
      rw [hown0.cellAt q hq]
      exact ⟨_, List.getElem?_eq_getElem (by rw [hown0.1]; exact hq)⟩, fun q _ => hown0.frozenAt q, fun i hi => by omega⟩
  have HH0 := hid (And.intro hb0 (And.intro hlt0 hH0))
  clear hown0 hgrow0 hb0 hlt0 hH0
  go_wp2
  go_loopw [4] (fun t wr => ∃ j : Nat, j ≤ n ∧ t = .int .i64 j ∧ Hid (Below w.heap.size w wr ∧ w.heap.size < wr.heap.size ∧ HalfP wr w.heap.size n j (fun i a b => a = .int .i64 (l.getD i (0, 0)).1 ∧ b = .int .i64 (l.getD i (0, 0)).2))) (fun t _ => n - (intOf t).toNat)
  case atStart => exact ⟨0, Nat.zero_le _, rfl, HH0⟩
  case round =>
    clear HH0
    obtain ⟨j, hj, rfl, hH⟩ := hrel
    obtain ⟨hnx, hlt, hhr⟩ := hH.out
    by_cases hjn : j < n
    · have i1 : (j : Int) < (n : Int) := by omega
      rcases HC.out with h0 | ⟨b, o, rfl, hrel⟩
      · omega
      · obtain ⟨c0', c1'⟩ := hrel j hjn
        have c0 := (hnx.cell (p := ⟨b, o + j * 2, none⟩) (World.block_lt_of_cell? w _ c0')).trans c0'
        have c1 := (hnx.cell (p := ⟨b, o + j * 2 + 1, none⟩) (World.block_lt_of_cell? w _ c1')).trans c1'
        have HNX := hid hnx
        have HHR := hid hhr
        have HST : Hid (∀ W, Below wr.heap.size wr W → HalfP ((W.setCell ⟨w.heap.size, j * 2, none⟩ (.int .i64 (l.getD j (0, 0)).1)).setCell ⟨w.heap.size, j * 2 + 1, none⟩ (.int .i64 (l.getD j (0, 0)).2)) w.heap.size n (j + 1) (fun i a b => a = .int .i64 (l.getD i (0, 0)).1 ∧ b = .int .i64 (l.getD i (0, 0)).2)) := hid (fun W hb =>
          (HHR.out.below hlt hb (fun _ _ _ _ h => h)).step hjn (fun _ _ _ _ h => h) ⟨rfl, rfl⟩)
        clear hH hnx hhr hrel c0' c1'
        obtain ⟨s, hs⟩ : ∃ x, x = (l.getD j (0, 0)).1 := ⟨_, rfl⟩
        obtain ⟨d, hd⟩ : ∃ x, x = (l.getD j (0, 0)).2 := ⟨_, rfl⟩
        rw [← hs] at c0 HST
        rw [← hd] at c1 HST
        clear hs hd
        go_wp2_with fail
        refine (toRat_calls s d wr).mono ?_
        rintro e w2 ⟨rfl, hb⟩
        have hHR2 := HHR.out.below hlt hb (fun _ _ _ _ h => h)
        obtain ⟨u0, d0⟩ := hHR2.any (j * 2) (by omega)
        obtain ⟨u1, d1⟩ := hHR2.any (j * 2 + 1) (by omega)
        have f0 := hHR2.free (j * 2) (by omega)
        have f1 := hHR2.free (j * 2 + 1) (by omega)
        have HF := hid (HST.out w2 hb)
        have HB2 := hid (bt HNX.out hb)
        have hs2 := hb.size
        clear hHR2 hb HST c0 c1
        go_wp2
        go_roundw
        case rel => exact ⟨j + 1, by omega, by go_num, hid ⟨(HB2.out.setCell (Nat.le_refl _) _).setCell (Nat.le_refl _) _, by simp [World.setCell]; omega, HF.out⟩⟩
        case measure => simp [intOf]; omega
    · obtain rfl : j = n := by omega
      have i1 : ¬ ((j : Int) < (j : Int)) := by omega
      have HX := hid (And.intro hhr (And.intro hlt hnx))
      clear hH hnx hhr
      go_wp2
      go_ret
      refine ⟨rfl, ⟨fun i hi => ?_, fun q hq => HX.out.1.free q (by rw [HN.out]; exact hq)⟩, HX.out.2.1, HX.out.2.2⟩
      obtain ⟨u0, u1, h0, h1, rfl, rfl⟩ := HX.out.1.pair i (by rw [HN.out]; exact hi)
      exact ⟨h0, h1⟩

set_option maxHeartbeats 400000 in
theorem szRatS_calls (w : World) (a : Option Addr) (n cap : Nat) (left : Int) (h1 : 0 ≤ left) (h2 : left ≤ 1048576) (hn : n ≤ 9223372036854775807) :
    Calls Try.prog 61 #[.slice a n cap, .int .i64 left] w fun e w' => e = .returned (.int .i64 (if left < n then -1 else left - n)) ∧ w' = w := by
  by_cases h : left < n
  · rw [if_pos h]
    have h3 : left - (n : Int) < 0 := by omega
    go_enter Try.func61, Try.ntmps61
    go_wp2
    go_ret
    exact ⟨rfl, rfl⟩
  · rw [if_neg h]
    have h3 : ¬ (left - (n : Int) < 0) := by omega
    go_enter Try.func61, Try.ntmps61
    go_wp2
    go_ret
    exact ⟨rfl, rfl⟩

/-- six cells of a plan's box -/
structure B6 (s : Nat) (v0 v1 v2 v3 v4 v5 : Value) (W : World) : Prop where
  c0 : W.cell? ⟨s, 0, none⟩ = some v0
  c1 : W.cell? ⟨s, 1, none⟩ = some v1
  c2 : W.cell? ⟨s, 2, none⟩ = some v2
  c3 : W.cell? ⟨s, 3, none⟩ = some v3
  c4 : W.cell? ⟨s, 4, none⟩ = some v4
  c5 : W.cell? ⟨s, 5, none⟩ = some v5
theorem B6.step {s : Nat} {v0 v1 v2 v3 v4 v5 : Value} {W W' : World} (h : B6 s v0 v1 v2 v3 v4 v5 W) (hb : Below W.heap.size W W') : B6 s v0 v1 v2 v3 v4 v5 W' :=
  ⟨bclp hb h.c0, bclp hb h.c1, bclp hb h.c2, bclp hb h.c3, bclp hb h.c4, bclp hb h.c5⟩
theorem B6.start (w : World) (v0 v1 v2 v3 v4 v5 : Value) (t : TypeId) : B6 w.heap.size v0 v1 v2 v3 v4 v5 (w.alloc (.cells #[v0, v1, v2, v3, v4, v5] t)) :=
  ⟨by rw [World.cell?_alloc_at _ _ _ _ rfl]; rfl, by rw [World.cell?_alloc_at _ _ _ _ rfl]; rfl, by rw [World.cell?_alloc_at _ _ _ _ rfl]; rfl, by rw [World.cell?_alloc_at _ _ _ _ rfl]; rfl, by rw [World.cell?_alloc_at _ _ _ _ rfl]; rfl, by rw [World.cell?_alloc_at _ _ _ _ rfl]; rfl⟩

theorem eqIntSS_same (w : World) (v v' : Value) (ls : List (List Int)) (h : ISS w v ls) (h' : ISS w v' ls) (hl : Short ls) :
    Calls Try.prog 18 #[v, v'] w fun e w' => e = .returned (.bool true) ∧ Below w.heap.size w w' :=
  (eqIntSS_quiet w v v' ls h h' hl).mono (by
    rintro e w' ⟨rfl, m, rfl⟩
    exact ⟨rfl, below_drewN (Below.refl _ _) _⟩)

def f6 (a b c d e f : Value) : Nat → Value
  | 0 => a
  | 1 => b
  | 2 => c
  | 3 => d
  | 4 => e
  | _ => f

/-- six cells that may be written -/
structure W6 (s : Nat) (v0 v1 v2 v3 v4 v5 : Value) (W : World) : Prop extends B6 s v0 v1 v2 v3 v4 v5 W where
  f0 : W.frozen? ⟨s, 0, none⟩ = false
  f1 : W.frozen? ⟨s, 1, none⟩ = false
  f2 : W.frozen? ⟨s, 2, none⟩ = false
  f3 : W.frozen? ⟨s, 3, none⟩ = false
  f4 : W.frozen? ⟨s, 4, none⟩ = false
  f5 : W.frozen? ⟨s, 5, none⟩ = false
section
variable {s : Nat} {v0 v1 v2 v3 v4 v5 : Value} {W W' : World}
theorem W6.move (h : W6 s v0 v1 v2 v3 v4 v5 W) (hb : W'.heap[s]? = W.heap[s]?) : W6 s v0 v1 v2 v3 v4 v5 W' where
  c0 := (World.cell?_of_block (w := W) (a := ⟨s, 0, none⟩) hb).trans h.c0
  c1 := (World.cell?_of_block (w := W) (a := ⟨s, 1, none⟩) hb).trans h.c1
  c2 := (World.cell?_of_block (w := W) (a := ⟨s, 2, none⟩) hb).trans h.c2
  c3 := (World.cell?_of_block (w := W) (a := ⟨s, 3, none⟩) hb).trans h.c3
  c4 := (World.cell?_of_block (w := W) (a := ⟨s, 4, none⟩) hb).trans h.c4
  c5 := (World.cell?_of_block (w := W) (a := ⟨s, 5, none⟩) hb).trans h.c5
  f0 := (World.frozen?_of_block (w := W) (a := ⟨s, 0, none⟩) hb).trans h.f0
  f1 := (World.frozen?_of_block (w := W) (a := ⟨s, 1, none⟩) hb).trans h.f1
  f2 := (World.frozen?_of_block (w := W) (a := ⟨s, 2, none⟩) hb).trans h.f2
  f3 := (World.frozen?_of_block (w := W) (a := ⟨s, 3, none⟩) hb).trans h.f3
  f4 := (World.frozen?_of_block (w := W) (a := ⟨s, 4, none⟩) hb).trans h.f4
  f5 := (World.frozen?_of_block (w := W) (a := ⟨s, 5, none⟩) hb).trans h.f5
theorem W6.lt (h : W6 s v0 v1 v2 v3 v4 v5 W) : s < W.heap.size := World.block_lt_of_cell? W _ h.c0
theorem W6.below (h : W6 s v0 v1 v2 v3 v4 v5 W) (hb : Below W.heap.size W W') : W6 s v0 v1 v2 v3 v4 v5 W' := h.move (hb.block _ h.lt)
theorem W6.new (w : World) (v0 v1 v2 v3 v4 v5 : Value) (t : TypeId) : W6 w.heap.size v0 v1 v2 v3 v4 v5 (w.alloc (.cells #[v0, v1, v2, v3, v4, v5] t)) :=
  { B6.start w v0 v1 v2 v3 v4 v5 t with f0 := World.frozen?_alloc_at _ _ _ _ rfl, f1 := World.frozen?_alloc_at _ _ _ _ rfl, f2 := World.frozen?_alloc_at _ _ _ _ rfl, f3 := World.frozen?_alloc_at _ _ _ _ rfl, f4 := World.frozen?_alloc_at _ _ _ _ rfl, f5 := World.frozen?_alloc_at _ _ _ _ rfl }
theorem W6.set0 (h : W6 s v0 v1 v2 v3 v4 v5 W) (u : Value) : W6 s u v1 v2 v3 v4 v5 (W.setCell ⟨s, 0, none⟩ u) where
  c0 := World.cell?_setCell_same _ _ _ h.c0
  c1 := (World.cell?_setCell_other _ _ _ _ (by simp)).trans h.c1
  c2 := (World.cell?_setCell_other _ _ _ _ (by simp)).trans h.c2
  c3 := (World.cell?_setCell_other _ _ _ _ (by simp)).trans h.c3
  c4 := (World.cell?_setCell_other _ _ _ _ (by simp)).trans h.c4
  c5 := (World.cell?_setCell_other _ _ _ _ (by simp)).trans h.c5
  f0 := (World.frozen?_setCell _ _ _ _).trans h.f0
  f1 := (World.frozen?_setCell _ _ _ _).trans h.f1
  f2 := (World.frozen?_setCell _ _ _ _).trans h.f2
  f3 := (World.frozen?_setCell _ _ _ _).trans h.f3
  f4 := (World.frozen?_setCell _ _ _ _).trans h.f4
  f5 := (World.frozen?_setCell _ _ _ _).trans h.f5
theorem W6.set1 (h : W6 s v0 v1 v2 v3 v4 v5 W) (u : Value) : W6 s v0 u v2 v3 v4 v5 (W.setCell ⟨s, 1, none⟩ u) where
  c0 := (World.cell?_setCell_other _ _ _ _ (by simp)).trans h.c0
  c1 := World.cell?_setCell_same _ _ _ h.c1
  c2 := (World.cell?_setCell_other _ _ _ _ (by simp)).trans h.c2
  c3 := (World.cell?_setCell_other _ _ _ _ (by simp)).trans h.c3
  c4 := (World.cell?_setCell_other _ _ _ _ (by simp)).trans h.c4
  c5 := (World.cell?_setCell_other _ _ _ _ (by simp)).trans h.c5
  f0 := (World.frozen?_setCell _ _ _ _).trans h.f0
  f1 := (World.frozen?_setCell _ _ _ _).trans h.f1
  f2 := (World.frozen?_setCell _ _ _ _).trans h.f2
  f3 := (World.frozen?_setCell _ _ _ _).trans h.f3
  f4 := (World.frozen?_setCell _ _ _ _).trans h.f4
  f5 := (World.frozen?_setCell _ _ _ _).trans h.f5
theorem W6.set2 (h : W6 s v0 v1 v2 v3 v4 v5 W) (u : Value) : W6 s v0 v1 u v3 v4 v5 (W.setCell ⟨s, 2, none⟩ u) where
  c0 := (World.cell?_setCell_other _ _ _ _ (by simp)).trans h.c0
  c1 := (World.cell?_setCell_other _ _ _ _ (by simp)).trans h.c1
  c2 := World.cell?_setCell_same _ _ _ h.c2
  c3 := (World.cell?_setCell_other _ _ _ _ (by simp)).trans h.c3
  c4 := (World.cell?_setCell_other _ _ _ _ (by simp)).trans h.c4
  c5 := (World.cell?_setCell_other _ _ _ _ (by simp)).trans h.c5
  f0 := (World.frozen?_setCell _ _ _ _).trans h.f0
  f1 := (World.frozen?_setCell _ _ _ _).trans h.f1
  f2 := (World.frozen?_setCell _ _ _ _).trans h.f2
  f3 := (World.frozen?_setCell _ _ _ _).trans h.f3
  f4 := (World.frozen?_setCell _ _ _ _).trans h.f4
  f5 := (World.frozen?_setCell _ _ _ _).trans h.f5
theorem W6.set3 (h : W6 s v0 v1 v2 v3 v4 v5 W) (u : Value) : W6 s v0 v1 v2 u v4 v5 (W.setCell ⟨s, 3, none⟩ u) where
  c0 := (World.cell?_setCell_other _ _ _ _ (by simp)).trans h.c0
  c1 := (World.cell?_setCell_other _ _ _ _ (by simp)).trans h.c1
  c2 := (World.cell?_setCell_other _ _ _ _ (by simp)).trans h.c2
  c3 := World.cell?_setCell_same _ _ _ h.c3
  c4 := (World.cell?_setCell_other _ _ _ _ (by simp)).trans h.c4
  c5 := (World.cell?_setCell_other _ _ _ _ (by simp)).trans h.c5
  f0 := (World.frozen?_setCell _ _ _ _).trans h.f0
  f1 := (World.frozen?_setCell _ _ _ _).trans h.f1
  f2 := (World.frozen?_setCell _ _ _ _).trans h.f2
  f3 := (World.frozen?_setCell _ _ _ _).trans h.f3
  f4 := (World.frozen?_setCell _ _ _ _).trans h.f4
  f5 := (World.frozen?_setCell _ _ _ _).trans h.f5
theorem W6.set4 (h : W6 s v0 v1 v2 v3 v4 v5 W) (u : Value) : W6 s v0 v1 v2 v3 u v5 (W.setCell ⟨s, 4, none⟩ u) where
  c0 := (World.cell?_setCell_other _ _ _ _ (by simp)).trans h.c0
  c1 := (World.cell?_setCell_other _ _ _ _ (by simp)).trans h.c1
  c2 := (World.cell?_setCell_other _ _ _ _ (by simp)).trans h.c2
  c3 := (World.cell?_setCell_other _ _ _ _ (by simp)).trans h.c3
  c4 := World.cell?_setCell_same _ _ _ h.c4
  c5 := (World.cell?_setCell_other _ _ _ _ (by simp)).trans h.c5
  f0 := (World.frozen?_setCell _ _ _ _).trans h.f0
  f1 := (World.frozen?_setCell _ _ _ _).trans h.f1
  f2 := (World.frozen?_setCell _ _ _ _).trans h.f2
  f3 := (World.frozen?_setCell _ _ _ _).trans h.f3
  f4 := (World.frozen?_setCell _ _ _ _).trans h.f4
  f5 := (World.frozen?_setCell _ _ _ _).trans h.f5
theorem W6.set5 (h : W6 s v0 v1 v2 v3 v4 v5 W) (u : Value) : W6 s v0 v1 v2 v3 v4 u (W.setCell ⟨s, 5, none⟩ u) where
  c0 := (World.cell?_setCell_other _ _ _ _ (by simp)).trans h.c0
  c1 := (World.cell?_setCell_other _ _ _ _ (by simp)).trans h.c1
  c2 := (World.cell?_setCell_other _ _ _ _ (by simp)).trans h.c2
  c3 := (World.cell?_setCell_other _ _ _ _ (by simp)).trans h.c3
  c4 := (World.cell?_setCell_other _ _ _ _ (by simp)).trans h.c4
  c5 := World.cell?_setCell_same _ _ _ h.c5
  f0 := (World.frozen?_setCell _ _ _ _).trans h.f0
  f1 := (World.frozen?_setCell _ _ _ _).trans h.f1
  f2 := (World.frozen?_setCell _ _ _ _).trans h.f2
  f3 := (World.frozen?_setCell _ _ _ _).trans h.f3
  f4 := (World.frozen?_setCell _ _ _ _).trans h.f4
  f5 := (World.frozen?_setCell _ _ _ _).trans h.f5
theorem W6.far {c o : Nat} {u : Value} (h : W6 s v0 v1 v2 v3 v4 v5 W) (hne : s ≠ c) : W6 s v0 v1 v2 v3 v4 v5 (W.setCell ⟨c, o, none⟩ u) := h.move (Below.heap_setCell _ _ _ _ hne)
end

/-- what is left when a plan is counted -/
def szP (bs : List (List Int)) (ps hs : List Int) (ws : List (Int × Int)) (left : Int) : Int := if left < tot bs bs.length + ps.length + hs.length + ws.length then -1 else left - (tot bs bs.length + ps.length + hs.length + ws.length)

set_option maxHeartbeats 4000000 in
set_option maxRecDepth 1000000 in
theorem szPlan_calls (w : World) (v0 v1 v2 v3 : Value) (x y : Int) (bs : List (List Int)) (ps hs : List Int) (ws : List (Int × Int)) (left : Int) (h : IPl w v0 v1 v2 v3 bs ps hs ws) (hf : Fits bs) (hp : ps.length ≤ 9223372036854775807) (hh : hs.length ≤ 9223372036854775807) (hw : ws.length ≤ 9223372036854775807) (h1 : 0 ≤ left) (h2 : left ≤ 1048576) :
    Calls Try.prog 23 #[.agg #[v0, v1, v2, v3, .int .i64 x, .int .i64 y], .int .i64 left] w fun e w' => e = .returned (.int .i64 (szP bs ps hs ws left)) ∧ Below w.heap.size w w' := by
  have HB0 : Hid (Below w.heap.size w (w.alloc (.cells #[v0, v1, v2, v3, .int .i64 x, .int .i64 y] 49))) := hid ((Below.refl _ _).alloc (Nat.le_refl _) _)
  have HA0 := hid (B6.start w v0 v1 v2 v3 (.int .i64 x) (.int .i64 y) 49)
  have HI := hid h
  have HF := hid hf
  obtain ⟨a0, k0, rfl, -⟩ := h.b
  obtain ⟨a1, k1, rfl, -⟩ := h.p
  obtain ⟨a2, k2, rfl, -⟩ := h.h
  obtain ⟨a3, k3, rfl, -⟩ := h.d
  obtain ⟨res, hres⟩ : ∃ r, r = szP bs ps hs ws left := ⟨_, rfl⟩
  rw [← hres]
  have HR : Hid (res = if left < tot bs bs.length + ps.length + hs.length + ws.length then -1 else left - (tot bs bs.length + ps.length + hs.length + ws.length)) := hid hres
  clear h hf hres
  have ht0 : (0 : Int) ≤ tot bs bs.length := by omega
  obtain ⟨W, hW⟩ : ∃ W, W = w.alloc (.cells #[.slice a0 bs.length k0, .slice a1 ps.length k1, .slice a2 hs.length k2, .slice a3 ws.length k3, .int .i64 x, .int .i64 y] 49) := ⟨_, rfl⟩
  rw [← hW] at HB0 HA0
  have K0 := hid (szIntSS_calls W _ bs left (HI.out.b.below HB0.out) HF.out h1 h2)
  have x0 := HA0.out.c0
  go_enter Try.func23, Try.ntmps23
  go_upto_region 1 with fail
  rw [← hW]
  clear hW
  go_wp2_with fail
  refine K0.out.mono ?_
  rintro e w1 ⟨rfl, hw1⟩
  subst w1
  have HB1 : Hid (Below W.heap.size W W) := hid (Below.refl _ _)
  have HA1 := hid HA0.out
  rw [show szSS bs left = (if left < tot bs bs.length then -1 else left - tot bs bs.length) from rfl]
  clear K0 x0
  by_cases c1 : left < tot bs bs.length
  · obtain rfl : res = -1 := by rw [HR.out, if_pos (by omega)]
    rw [if_pos c1]
    go_wp2_with fail
    go_ret
    exact ⟨rfl, bt HB0.out HB1.out⟩
  rw [if_neg c1]
  obtain ⟨l1, hl1⟩ : ∃ l, l = left - tot bs bs.length := ⟨_, rfl⟩
  rw [← hl1]
  have g1 : ¬ (l1 < 0) := by omega
  have u1 : l1 ≤ 1048576 := by omega
  have HL1 := hid hl1
  clear hl1
  have x1 := HA1.out.c1
  have K1 := hid (szIntS_calls W a1 ps.length k1 l1 (by omega) (by omega) hp)
  go_wp2_with fail
  refine K1.out.mono ?_
  rintro e w2 ⟨rfl, hw2⟩
  subst w2
  by_cases c2 : l1 < ps.length
  · obtain rfl : res = -1 := by have e1 := HL1.out; rw [HR.out, if_pos (by omega)]
    rw [if_pos c2]
    go_wp2_with fail
    go_ret
    exact ⟨rfl, bt HB0.out HB1.out⟩
  rw [if_neg c2]
  obtain ⟨l2, hl2⟩ : ∃ l, l = l1 - (ps.length : Int) := ⟨_, rfl⟩
  rw [← hl2]
  have g2 : ¬ (l2 < 0) := by omega
  have u2 : l2 ≤ 1048576 := by omega
  have HL2 := hid hl2
  clear hl2
  have x2 := HA1.out.c2
  have K2 := hid (szIntS_calls W a2 hs.length k2 l2 (by omega) (by omega) hh)
  go_wp2_with fail
  refine K2.out.mono ?_
  rintro e w2 ⟨rfl, hw2⟩
  subst w2
  by_cases c3 : l2 < hs.length
  · obtain rfl : res = -1 := by have e1 := HL1.out; have e2 := HL2.out; rw [HR.out, if_pos (by omega)]
    rw [if_pos c3]
    go_wp2_with fail
    go_ret
    exact ⟨rfl, bt HB0.out HB1.out⟩
  rw [if_neg c3]
  obtain ⟨l3, hl3⟩ : ∃ l, l = l2 - (hs.length : Int) := ⟨_, rfl⟩
  rw [← hl3]
  have g3 : ¬ (l3 < 0) := by omega
  have u3 : l3 ≤ 1048576 := by omega
  have HL3 := hid hl3
  clear hl3
  have x3 := HA1.out.c3
  have K3 := hid (szRatS_calls W a3 ws.length k3 l3 (by omega) (by omega) hw)
  go_wp2_with fail
  refine K3.out.mono ?_
  rintro e w2 ⟨rfl, hw2⟩
  subst w2
  by_cases c4 : l3 < ws.length
  · obtain rfl : res = -1 := by have e1 := HL1.out; have e2 := HL2.out; have e3 := HL3.out; rw [HR.out, if_pos (by omega)]
    rw [if_pos c4]
    go_wp2_with fail
    go_ret
    exact ⟨rfl, bt HB0.out HB1.out⟩
  rw [if_neg c4]
  obtain ⟨l4, hl4⟩ : ∃ l, l = l3 - (ws.length : Int) := ⟨_, rfl⟩
  rw [← hl4]
  have g4 : ¬ (l4 < 0) := by omega
  have u4 : l4 ≤ 1048576 := by omega
  have HL4 := hid hl4
  clear hl4
  obtain rfl : l4 = res := by have e1 := HL1.out; have e2 := HL2.out; have e3 := HL3.out; have e4 := HL4.out; rw [HR.out, if_neg (by omega)]; omega
  go_wp2_with fail
  go_ret
  exact ⟨rfl, bt HB0.out HB1.out⟩

set_option maxHeartbeats 4000000 in
set_option maxRecDepth 1000000 in
theorem eqPlan_same (w : World) (v0 v1 v2 v3 u0 u1 u2 u3 : Value) (x y : Int) (bs : List (List Int)) (ps hs : List Int) (ws : List (Int × Int)) (h : IPl w v0 v1 v2 v3 bs ps hs ws) (h' : IPl w u0 u1 u2 u3 bs ps hs ws) (hb : Short bs) (hp : ps.length ≤ 1099511627776) (hh : hs.length ≤ 1099511627776) (hw : ws.length ≤ 1099511627776) :
    Calls Try.prog 27 #[.agg #[v0, v1, v2, v3, .int .i64 x, .int .i64 y], .agg #[u0, u1, u2, u3, .int .i64 x, .int .i64 y]] w fun e w' => e = .returned (.bool true) ∧ Below w.heap.size w w' := by
  have hBa : Below w.heap.size w (w.alloc (.cells #[v0, v1, v2, v3, .int .i64 x, .int .i64 y] 53)) := (Below.refl _ _).alloc (Nat.le_refl _) _
  have HI := hid h
  have HJ := hid h'
  have HS := hid hb
  obtain ⟨a0, k0, rfl, -⟩ := h.b
  obtain ⟨a1, k1, rfl, -⟩ := h.p
  obtain ⟨a2, k2, rfl, -⟩ := h.h
  obtain ⟨a3, k3, rfl, -⟩ := h.d
  obtain ⟨d0, m0, rfl, -⟩ := h'.b
  obtain ⟨d1, m1, rfl, -⟩ := h'.p
  obtain ⟨d2, m2, rfl, -⟩ := h'.h
  obtain ⟨d3, m3, rfl, -⟩ := h'.d
  have HA0 := B6.start w (.slice a0 bs.length k0) (.slice a1 ps.length k1) (.slice a2 hs.length k2) (.slice a3 ws.length k3) (.int .i64 x) (.int .i64 y) 53
  obtain ⟨W1, hW1⟩ : ∃ W, W = w.alloc (.cells #[.slice a0 bs.length k0, .slice a1 ps.length k1, .slice a2 hs.length k2, .slice a3 ws.length k3, .int .i64 x, .int .i64 y] 53) := ⟨_, rfl⟩
  have s1 : W1.heap.size = w.heap.size + 1 := by rw [hW1]; simp
  have HC0 := B6.start W1 (.slice d0 bs.length m0) (.slice d1 ps.length m1) (.slice d2 hs.length m2) (.slice d3 ws.length m3) (.int .i64 x) (.int .i64 y) 53
  have hBb : Below W1.heap.size W1 (W1.alloc (.cells #[.slice d0 bs.length m0, .slice d1 ps.length m1, .slice d2 hs.length m2, .slice d3 ws.length m3, .int .i64 x, .int .i64 y] 53)) := (Below.refl _ _).alloc (Nat.le_refl _) _
  rw [← hW1] at HA0 hBa
  obtain ⟨W2, hW2⟩ : ∃ W, W = W1.alloc (.cells #[.slice d0 bs.length m0, .slice d1 ps.length m1, .slice d2 hs.length m2, .slice d3 ws.length m3, .int .i64 x, .int .i64 y] 53) := ⟨_, rfl⟩
  rw [← hW2] at HC0 hBb
  rw [s1] at HC0
  have HB2 := hid (bt hBa hBb)
  have HA2 := hid (HA0.step hBb)
  have HC2 := hid HC0
  have HW : Hid (W2 = (w.alloc (.cells #[.slice a0 bs.length k0, .slice a1 ps.length k1, .slice a2 hs.length k2, .slice a3 ws.length k3, .int .i64 x, .int .i64 y] 53)).alloc (.cells #[.slice d0 bs.length m0, .slice d1 ps.length m1, .slice d2 hs.length m2, .slice d3 ws.length m3, .int .i64 x, .int .i64 y] 53)) := hid (by rw [hW2, hW1])
  clear HA0 HC0 hBa hBb h h' hb hW1 hW2 s1
  have x0 := HA2.out.c0
  have z0 := HC2.out.c0
  have K0 := hid (eqIntSS_same W2 _ _ bs (HI.out.b.below HB2.out) (HJ.out.b.below HB2.out) HS.out)
  go_enter Try.func27, Try.ntmps27
  go_upto_region 1 with fail
  rw [← HW.out]
  clear HW
  go_wp2_with fail
  refine K0.out.mono ?_
  rintro e w1 ⟨rfl, hb1⟩
  have HB3 := hid hb1
  clear hb1 K0 x0 z0
  have x1 := (HA2.out.step HB3.out).c1
  have z1 := (HC2.out.step HB3.out).c1
  have K1 := hid (eqIntS_same w1 _ _ ps (HI.out.p.below (bt HB2.out HB3.out)) (HJ.out.p.below (bt HB2.out HB3.out)) hp)
  go_wp2_with fail
  refine K1.out.mono ?_
  rintro e w2 ⟨rfl, hb1⟩
  have HB4 := hid (bt HB3.out hb1)
  clear hb1 K1 x1 z1
  have x1 := (HA2.out.step HB4.out).c2
  have z1 := (HC2.out.step HB4.out).c2
  have K1 := hid (eqIntS_same w2 _ _ hs (HI.out.h.below (bt HB2.out HB4.out)) (HJ.out.h.below (bt HB2.out HB4.out)) hh)
  go_wp2_with fail
  refine K1.out.mono ?_
  rintro e w3 ⟨rfl, hb1⟩
  have HB5 := hid (bt HB4.out hb1)
  clear hb1 K1 x1 z1
  have x1 := (HA2.out.step HB5.out).c3
  have z1 := (HC2.out.step HB5.out).c3
  have K1 := hid (eqRatS_same w3 _ _ ws (HI.out.d.below (bt HB2.out HB5.out)) (HJ.out.d.below (bt HB2.out HB5.out)) hw)
  go_wp2_with fail
  refine K1.out.mono ?_
  rintro e w4 ⟨rfl, hb1⟩
  have HB6 := hid (bt HB5.out hb1)
  clear hb1 K1 x1 z1
  have x1 := (HA2.out.step HB6.out).c4
  have z1 := (HC2.out.step HB6.out).c4
  have x2 := (HA2.out.step HB6.out).c5
  have z2 := (HC2.out.step HB6.out).c5
  go_wp2_with fail
  refine (eqRat_same _ _ _).mono ?_
  rintro e w5 ⟨rfl, hb1⟩
  go_wp2_with fail
  go_ret
  exact ⟨rfl, bt HB2.out (bt HB6.out hb1)⟩

set_option maxHeartbeats 8000000 in
set_option maxRecDepth 1000000 in
theorem toPlanX_calls (w : World) (v0 v1 v2 v3 : Value) (x y : Int) (bs : List (List Int)) (ps hs : List Int) (ws : List (Int × Int)) (h : IPl w v0 v1 v2 v3 bs ps hs ws) (hb : Short bs) (hp : ps.length ≤ 1099511627776) (hh : hs.length ≤ 1099511627776) (hw : ws.length ≤ 1048576) :
    Calls Try.prog 25 #[.agg #[v0, v1, v2, v3, .int .i64 x, .int .i64 y]] w fun e w' => ∃ g0 g1 g2 g3, e = .returned (.agg #[.slice (some ⟨g0, 0, none⟩) bs.length bs.length, .slice (some ⟨g1, 0, none⟩) ps.length ps.length, .slice (some ⟨g2, 0, none⟩) hs.length hs.length, .slice (some ⟨g3, 0, none⟩) ws.length ws.length, .int .i64 x, .int .i64 y]) ∧
      IPl w' (.slice (some ⟨g0, 0, none⟩) bs.length bs.length) (.slice (some ⟨g1, 0, none⟩) ps.length ps.length) (.slice (some ⟨g2, 0, none⟩) hs.length hs.length) (.slice (some ⟨g3, 0, none⟩) ws.length ws.length) bs ps hs ws ∧ Below w.heap.size w w' ∧ ShSS w.heap.size w'.heap.size w' g0 bs.length (fun j => (bs.getD j []).length) ∧ ShI w.heap.size w'.heap.size w' g1 ps.length ∧ ShI w.heap.size w'.heap.size w' g2 hs.length ∧ ShI w.heap.size w'.heap.size w' g3 (ws.length * 2) := by
  have HI := hid h
  have HS := hid hb
  obtain ⟨a0, k0, rfl, -⟩ := h.b
  obtain ⟨a1, k1, rfl, -⟩ := h.p
  obtain ⟨a2, k2, rfl, -⟩ := h.h
  obtain ⟨a3, k3, rfl, -⟩ := h.d
  obtain ⟨W1, hW1⟩ : ∃ W, W = w.alloc (.cells #[.slice a0 bs.length k0, .slice a1 ps.length k1, .slice a2 hs.length k2, .slice a3 ws.length k3, .int .i64 x, .int .i64 y] 49) := ⟨_, rfl⟩
  obtain ⟨W2, hW2⟩ : ∃ W, W = W1.alloc (.cells #[.slice none 0 0, .slice none 0 0, .slice none 0 0, .slice none 0 0, .int .i64 0, .int .i64 0] 53) := ⟨_, rfl⟩
  obtain ⟨W3, hW3⟩ : ∃ W, W = W2.alloc (.cells #[.slice none 0 0, .slice none 0 0, .slice none 0 0, .slice none 0 0, .int .i64 0, .int .i64 0] 53) := ⟨_, rfl⟩
  have b1 : Below w.heap.size w W1 := by rw [hW1]; exact (Below.refl _ _).alloc (Nat.le_refl _) _
  have b2 : Below W1.heap.size W1 W2 := by rw [hW2]; exact (Below.refl _ _).alloc (Nat.le_refl _) _
  have b3 : Below W2.heap.size W2 W3 := by rw [hW3]; exact (Below.refl _ _).alloc (Nat.le_refl _) _
  have s1 : W1.heap.size = w.heap.size + 1 := by rw [hW1]; simp
  have s2 : W2.heap.size = w.heap.size + 1 + 1 := by rw [hW2, hW1]; simp
  have s3 : W3.heap.size = w.heap.size + 1 + 1 + 1 := by rw [hW3, hW2, hW1]; simp
  have A := W6.new w (.slice a0 bs.length k0) (.slice a1 ps.length k1) (.slice a2 hs.length k2) (.slice a3 ws.length k3) (.int .i64 x) (.int .i64 y) 49
  have R := W6.new W1 (.slice none 0 0) (.slice none 0 0) (.slice none 0 0) (.slice none 0 0) (.int .i64 0) (.int .i64 0) 53
  have O := W6.new W2 (.slice none 0 0) (.slice none 0 0) (.slice none 0 0) (.slice none 0 0) (.int .i64 0) (.int .i64 0) 53
  rw [← hW1] at A
  rw [← hW2, s1] at R
  rw [← hW3, s2] at O
  have HA := hid (A.below (bt b2 b3))
  have HR := hid (R.below b3)
  have HO := hid O
  have HB := hid (bt b1 (bt b2 b3))
  have HW : Hid (W3 = ((w.alloc (.cells #[.slice a0 bs.length k0, .slice a1 ps.length k1, .slice a2 hs.length k2, .slice a3 ws.length k3, .int .i64 x, .int .i64 y] 49)).alloc (.cells #[.slice none 0 0, .slice none 0 0, .slice none 0 0, .slice none 0 0, .int .i64 0, .int .i64 0] 53)).alloc (.cells #[.slice none 0 0, .slice none 0 0, .slice none 0 0, .slice none 0 0, .int .i64 0, .int .i64 0] 53)) := hid (by rw [hW3, hW2, hW1])
  clear A R O b1 b2 b3 s1 s2 hW1 hW2 hW3 h hb
  have K0 := hid (toIntSS_calls W3 _ bs (HI.out.b.below HB.out) HS.out)
  have x0 := HA.out.c0
  go_enter Try.func25, Try.ntmps25
  go_upto_region 2 with fail
  rw [← HW.out]
  clear HW
  go_wp2_with fail
  refine K0.out.mono ?_
  rintro e w1 ⟨rfl, ⟨fH, hH⟩, hlt, hb1⟩
  rw [s3] at hlt hH
  have z0 := (HO.out.below hb1).c0
  have z1 := (HO.out.below hb1).f0
  have hsz1 := hb1.size
  obtain ⟨G0, hG0⟩ : ∃ G, G = w.heap.size + 1 + 1 + 1 := ⟨_, rfl⟩
  rw [s3, ← hG0]
  rw [s3] at hsz1
  rw [← hG0] at hH hlt hsz1
  have hGz : w.heap.size + 1 + 1 < G0 := by omega
  clear hG0 s3
  obtain ⟨V1, hV1⟩ : ∃ W, W = w1.setCell ⟨w.heap.size + 1 + 1, 0, none⟩ (.slice (some ⟨G0, 0, none⟩) bs.length bs.length) := ⟨_, rfl⟩
  have HO1 : Hid (W6 (w.heap.size + 1 + 1) (.slice (some ⟨G0, 0, none⟩) bs.length bs.length) (.slice none 0 0) (.slice none 0 0) (.slice none 0 0) (.int .i64 0) (.int .i64 0) V1) := hid (by rw [hV1]; exact (HO.out.below hb1).set0 _)
  have HR1 : Hid (W6 (w.heap.size + 1) (.slice none 0 0) (.slice none 0 0) (.slice none 0 0) (.slice none 0 0) (.int .i64 0) (.int .i64 0) V1) := hid (by rw [hV1]; exact (HR.out.below hb1).far (by omega))
  have HA1 : Hid (W6 w.heap.size (.slice a0 bs.length k0) (.slice a1 ps.length k1) (.slice a2 hs.length k2) (.slice a3 ws.length k3) (.int .i64 x) (.int .i64 y) V1) := hid (by rw [hV1]; exact (HA.out.below hb1).far (by omega))
  have HB1 : Hid (Below w.heap.size w V1) := hid (by rw [hV1]; exact (bt HB.out hb1).setCell (by show w.heap.size ≤ w.heap.size + 1 + 1; omega) _)
  have HH1 : Hid (Half V1 G0 bs.length bs.length bs fH) := hid (by rw [hV1]; exact hH.set (by omega))
  have hG1 : G0 < V1.heap.size := by rw [hV1]; simp [World.setCell]; omega
  clear hb1 hH K0 x0 HO HR HA HB
  go_upto_region 3 with fail
  rw [← hV1]
  clear hV1 z0 z1
  have x0 := HA1.out.c1
  have K0 := hid (toIntS_calls V1 _ ps (HI.out.p.below HB1.out) hp)
  go_wp2_with fail
  refine K0.out.mono ?_
  rintro e w2 ⟨rfl, hO2, hb1⟩
  have z0 := (HO1.out.below hb1).c1
  have z1 := (HO1.out.below hb1).f1
  have hsz2 := hb1.size
  have hlt2 := hO2.lt
  obtain ⟨G1, hG1'⟩ : ∃ G, G = V1.heap.size := ⟨_, rfl⟩
  have hGa : G0 < G1 := by omega
  rw [← hG1'] at hO2 hsz2 hlt2 ⊢
  clear hG1'
  obtain ⟨V2, hV2⟩ : ∃ W, W = w2.setCell ⟨w.heap.size + 1 + 1, 1, none⟩ (.slice (some ⟨G1, 0, none⟩) ps.length ps.length) := ⟨_, rfl⟩
  have hVl2 : G1 < V2.heap.size := by rw [hV2]; simp [World.setCell]; omega
  have HO2 : Hid (W6 (w.heap.size + 1 + 1) (.slice (some ⟨G0, 0, none⟩) bs.length bs.length) (.slice (some ⟨G1, 0, none⟩) ps.length ps.length) (.slice none 0 0) (.slice none 0 0) (.int .i64 0) (.int .i64 0) V2) := hid (by rw [hV2]; exact (HO1.out.below hb1).set1 _)
  have HR2 : Hid (W6 (w.heap.size + 1) (.slice none 0 0) (.slice none 0 0) (.slice none 0 0) (.slice none 0 0) (.int .i64 0) (.int .i64 0) V2) := hid (by rw [hV2]; exact (HR1.out.below hb1).far (by omega))
  have HA2 : Hid (W6 w.heap.size (.slice a0 bs.length k0) (.slice a1 ps.length k1) (.slice a2 hs.length k2) (.slice a3 ws.length k3) (.int .i64 x) (.int .i64 y) V2) := hid (by rw [hV2]; exact (HA1.out.below hb1).far (by omega))
  have HB2 : Hid (Below w.heap.size w V2) := hid (by rw [hV2]; exact (bt HB1.out hb1).setCell (by show w.heap.size ≤ w.heap.size + 1 + 1; omega) _)
  have HH2 : Hid (Half V2 G0 bs.length bs.length bs fH) := hid (by rw [hV2]; exact (HH1.out.below (by omega) hb1).set (by omega))
  have HP2 : Hid (OwnI V2 G1 ps) := hid (by rw [hV2]; exact hO2.set (by omega))
  clear hb1 hO2 K0 x0 HO1 HR1 HA1 HB1 HH1
  go_upto_region 4 with fail
  rw [← hV2]
  clear hV2 z0 z1
  have x0 := HA2.out.c2
  have K0 := hid (toIntS_calls V2 _ hs (HI.out.h.below HB2.out) hh)
  go_wp2_with fail
  refine K0.out.mono ?_
  rintro e w3 ⟨rfl, hO2, hb1⟩
  have z0 := (HO2.out.below hb1).c2
  have z1 := (HO2.out.below hb1).f2
  have hsz3 := hb1.size
  have hlt3 := hO2.lt
  obtain ⟨G2, hG2'⟩ : ∃ G, G = V2.heap.size := ⟨_, rfl⟩
  have hGb : G1 < G2 := by omega
  rw [← hG2'] at hO2 hsz3 hlt3 ⊢
  clear hG2'
  obtain ⟨V3, hV3⟩ : ∃ W, W = w3.setCell ⟨w.heap.size + 1 + 1, 2, none⟩ (.slice (some ⟨G2, 0, none⟩) hs.length hs.length) := ⟨_, rfl⟩
  have hVl3 : G2 < V3.heap.size := by rw [hV3]; simp [World.setCell]; omega
  have HO3 : Hid (W6 (w.heap.size + 1 + 1) (.slice (some ⟨G0, 0, none⟩) bs.length bs.length) (.slice (some ⟨G1, 0, none⟩) ps.length ps.length) (.slice (some ⟨G2, 0, none⟩) hs.length hs.length) (.slice none 0 0) (.int .i64 0) (.int .i64 0) V3) := hid (by rw [hV3]; exact (HO2.out.below hb1).set2 _)
  have HR3 : Hid (W6 (w.heap.size + 1) (.slice none 0 0) (.slice none 0 0) (.slice none 0 0) (.slice none 0 0) (.int .i64 0) (.int .i64 0) V3) := hid (by rw [hV3]; exact (HR2.out.below hb1).far (by omega))
  have HA3 : Hid (W6 w.heap.size (.slice a0 bs.length k0) (.slice a1 ps.length k1) (.slice a2 hs.length k2) (.slice a3 ws.length k3) (.int .i64 x) (.int .i64 y) V3) := hid (by rw [hV3]; exact (HA2.out.below hb1).far (by omega))
  have HB3 : Hid (Below w.heap.size w V3) := hid (by rw [hV3]; exact (bt HB2.out hb1).setCell (by show w.heap.size ≤ w.heap.size + 1 + 1; omega) _)
  have HH3 : Hid (Half V3 G0 bs.length bs.length bs fH) := hid (by rw [hV3]; exact (HH2.out.below (by omega) hb1).set (by omega))
  have HP3 : Hid (OwnI V3 G1 ps) := hid (by rw [hV3]; exact (HP2.out.below hb1).set (by omega))
  have HQ3 : Hid (OwnI V3 G2 hs) := hid (by rw [hV3]; exact hO2.set (by omega))
  clear hb1 hO2 K0 x0 HO2 HR2 HA2 HB2 HH2 HP2
  go_upto_region 5 with fail
  rw [← hV3]
  clear hV3 z0 z1
  have x0 := HA3.out.c3
  have K0 := hid (toRatS_calls V3 _ ws (HI.out.d.below HB3.out) hw)
  go_wp2_with fail
  refine K0.out.mono ?_
  rintro e w4 ⟨rfl, hO2, hlt4, hb1⟩
  have z0 := (HO3.out.below hb1).c3
  have z1 := (HO3.out.below hb1).f3
  have hsz4 := hb1.size
  obtain ⟨G3, hG3'⟩ : ∃ G, G = V3.heap.size := ⟨_, rfl⟩
  have hGc : G2 < G3 := by omega
  rw [← hG3'] at hO2 hsz4 hlt4 ⊢
  clear hG3'
  obtain ⟨V4, hV4⟩ : ∃ W, W = w4.setCell ⟨w.heap.size + 1 + 1, 3, none⟩ (.slice (some ⟨G3, 0, none⟩) ws.length ws.length) := ⟨_, rfl⟩
  have hVl4 : G3 < V4.heap.size := by rw [hV4]; simp [World.setCell]; omega
  have HO4 : Hid (W6 (w.heap.size + 1 + 1) (.slice (some ⟨G0, 0, none⟩) bs.length bs.length) (.slice (some ⟨G1, 0, none⟩) ps.length ps.length) (.slice (some ⟨G2, 0, none⟩) hs.length hs.length) (.slice (some ⟨G3, 0, none⟩) ws.length ws.length) (.int .i64 0) (.int .i64 0) V4) := hid (by rw [hV4]; exact (HO3.out.below hb1).set3 _)
  have HR4 : Hid (W6 (w.heap.size + 1) (.slice none 0 0) (.slice none 0 0) (.slice none 0 0) (.slice none 0 0) (.int .i64 0) (.int .i64 0) V4) := hid (by rw [hV4]; exact (HR3.out.below hb1).far (by omega))
  have HA4 : Hid (W6 w.heap.size (.slice a0 bs.length k0) (.slice a1 ps.length k1) (.slice a2 hs.length k2) (.slice a3 ws.length k3) (.int .i64 x) (.int .i64 y) V4) := hid (by rw [hV4]; exact (HA3.out.below hb1).far (by omega))
  have HB4 : Hid (Below w.heap.size w V4) := hid (by rw [hV4]; exact (bt HB3.out hb1).setCell (by show w.heap.size ≤ w.heap.size + 1 + 1; omega) _)
  have HH4 : Hid (Half V4 G0 bs.length bs.length bs fH) := hid (by rw [hV4]; exact (HH3.out.below (by omega) hb1).set (by omega))
  have HP4 : Hid (OwnI V4 G1 ps) := hid (by rw [hV4]; exact (HP3.out.below hb1).set (by omega))
  have HQ4 : Hid (OwnI V4 G2 hs) := hid (by rw [hV4]; exact (HQ3.out.below hb1).set (by omega))
  have HD4 : Hid (IRb V4 G3 ws) := hid (by rw [hV4]; exact hO2.move (Below.heap_setCell _ _ _ _ (by show G3 ≠ w.heap.size + 1 + 1; omega)))
  clear hb1 hO2 K0 x0 HO3 HR3 HA3 HB3 HH3 HP3 HQ3
  go_upto_region 6 with fail
  rw [← hV4]
  clear hV4 z0 z1
  have x0 := HA4.out.c4
  have x1 := HA4.out.c5
  go_wp2_with fail
  refine (toRat_calls x y V4).mono ?_
  rintro e w5 ⟨rfl, hb1⟩
  have z0 := (HO4.out.below hb1).c4
  have z1 := (HO4.out.below hb1).f4
  have z2 := (HO4.out.below hb1).c5
  have z3 := (HO4.out.below hb1).f5
  have hsz5 := hb1.size
  have hVl5' : G3 < w5.heap.size := by omega
  obtain ⟨V5, hV5⟩ : ∃ W, W = (w5.setCell ⟨w.heap.size + 1 + 1, 4, none⟩ (.int .i64 x)).setCell ⟨w.heap.size + 1 + 1, 5, none⟩ (.int .i64 y) := ⟨_, rfl⟩
  have hVl5 : G3 < V5.heap.size := by rw [hV5]; simp only [World.size_setCell]; exact hVl5'
  have HO5 : Hid (W6 (w.heap.size + 1 + 1) (.slice (some ⟨G0, 0, none⟩) bs.length bs.length) (.slice (some ⟨G1, 0, none⟩) ps.length ps.length) (.slice (some ⟨G2, 0, none⟩) hs.length hs.length) (.slice (some ⟨G3, 0, none⟩) ws.length ws.length) (.int .i64 x) (.int .i64 y) V5) := hid (by rw [hV5]; exact ((HO4.out.below hb1).set4 _).set5 _)
  have HR5 : Hid (W6 (w.heap.size + 1) (.slice none 0 0) (.slice none 0 0) (.slice none 0 0) (.slice none 0 0) (.int .i64 0) (.int .i64 0) V5) := hid (by rw [hV5]; exact ((HR4.out.below hb1).far (by omega)).far (by omega))
  have HB5 : Hid (Below w.heap.size w V5) := hid (by rw [hV5]; exact ((bt HB4.out hb1).setCell (by show w.heap.size ≤ w.heap.size + 1 + 1; omega) _).setCell (by show w.heap.size ≤ w.heap.size + 1 + 1; omega) _)
  have HH5 : Hid (Half V5 G0 bs.length bs.length bs fH) := hid (by rw [hV5]; exact ((HH4.out.below (by omega) hb1).set (by omega)).set (by omega))
  have HP5 : Hid (OwnI V5 G1 ps) := hid (by rw [hV5]; exact ((HP4.out.below hb1).set (by omega)).set (by omega))
  have HQ5 : Hid (OwnI V5 G2 hs) := hid (by rw [hV5]; exact ((HQ4.out.below hb1).set (by omega)).set (by omega))
  have HD5 : Hid (IRb V5 G3 ws) := hid (by rw [hV5]; exact HD4.out.move (by rw [Below.heap_setCell _ _ _ _ (by show G3 ≠ w.heap.size + 1 + 1; omega), Below.heap_setCell _ _ _ _ (by show G3 ≠ w.heap.size + 1 + 1; omega)]; exact hb1.block G3 (by omega)))
  clear hb1 x0 x1 HO4 HR4 HA4 HB4 HH4 HP4 HQ4 HD4
  go_upto_region 7 with fail
  rw [← hV5]
  clear hV5 z0 z1 z2 z3
  have o0 := HO5.out.c0
  have o1 := HO5.out.c1
  have o2 := HO5.out.c2
  have o3 := HO5.out.c3
  have o4 := HO5.out.c4
  have o5 := HO5.out.c5
  have r0 := HR5.out.c0
  have r1 := HR5.out.c1
  have r2 := HR5.out.c2
  have r3 := HR5.out.c3
  have r4 := HR5.out.c4
  have r5 := HR5.out.c5
  have p0 := HR5.out.f0
  have p1 := HR5.out.f1
  have p2 := HR5.out.f2
  have p3 := HR5.out.f3
  have p4 := HR5.out.f4
  have p5 := HR5.out.f5
  have HF := hid ((((((HR5.out.set0 (.slice (some ⟨G0, 0, none⟩) bs.length bs.length)).set1 (.slice (some ⟨G1, 0, none⟩) ps.length ps.length)).set2 (.slice (some ⟨G2, 0, none⟩) hs.length hs.length)).set3 (.slice (some ⟨G3, 0, none⟩) ws.length ws.length)).set4 (.int .i64 x)).set5 (.int .i64 y))
  go_wp2
  have t0 := HF.out.c0
  have t1 := HF.out.c1
  have t2 := HF.out.c2
  have t3 := HF.out.c3
  have t4 := HF.out.c4
  have t5 := HF.out.c5
  refine bodyPost_ret (v := .agg #[.slice (some ⟨G0, 0, none⟩) bs.length bs.length, .slice (some ⟨G1, 0, none⟩) ps.length ps.length, .slice (some ⟨G2, 0, none⟩) hs.length hs.length, .slice (some ⟨G3, 0, none⟩) ws.length ws.length, .int .i64 x, .int .i64 y]) (by simp [results, Try.results25, go_sem, t0, t1, t2, t3, t4, t5]) rfl ⟨G0, G1, G2, G3, rfl, ⟨?_, ?_, ?_, ?_⟩, ?_, ?_, ?_, ?_, ?_⟩
  · exact ((((((HH5.out.set (by omega)).set (by omega)).set (by omega)).set (by omega)).set (by omega)).set (by omega)).iss rfl
  · exact ((((((HP5.out.set (by omega)).set (by omega)).set (by omega)).set (by omega)).set (by omega)).set (by omega)).is
  · exact ((((((HQ5.out.set (by omega)).set (by omega)).set (by omega)).set (by omega)).set (by omega)).set (by omega)).is
  · refine IRb.ir (HD5.out.move ?_)
    have hne : ∀ k, G3 ≠ (⟨w.heap.size + 1, k, none⟩ : Addr).block := fun k => by show G3 ≠ w.heap.size + 1; omega
    rw [Below.heap_setCell _ _ _ _ (hne 5), Below.heap_setCell _ _ _ _ (hne 4), Below.heap_setCell _ _ _ _ (hne 3), Below.heap_setCell _ _ _ _ (hne 2), Below.heap_setCell _ _ _ _ (hne 1), Below.heap_setCell _ _ _ _ (hne 0)]
  · have hle : ∀ k, w.heap.size ≤ (⟨w.heap.size + 1, k, none⟩ : Addr).block := fun k => by show w.heap.size ≤ w.heap.size + 1; omega
    exact (((((HB5.out.setCell (hle 0) _).setCell (hle 1) _).setCell (hle 2) _).setCell (hle 3) _).setCell (hle 4) _).setCell (hle 5) _
  · exact ((((((HH5.out.set (by omega)).set (by omega)).set (by omega)).set (by omega)).set (by omega)).set (by omega)).shss (by omega)
  · exact ((((((HP5.out.set (by omega)).set (by omega)).set (by omega)).set (by omega)).set (by omega)).set (by omega)).shE (by omega)
  · exact ((((((HQ5.out.set (by omega)).set (by omega)).set (by omega)).set (by omega)).set (by omega)).set (by omega)).shE (by omega)
  · refine IRb.sh (HD5.out.move ?_) (by omega) (by simp only [World.size_setCell]; exact hVl5)
    have hne : ∀ k, G3 ≠ (⟨w.heap.size + 1, k, none⟩ : Addr).block := fun k => by show G3 ≠ w.heap.size + 1; omega
    rw [Below.heap_setCell _ _ _ _ (hne 5), Below.heap_setCell _ _ _ _ (hne 4), Below.heap_setCell _ _ _ _ (hne 3), Below.heap_setCell _ _ _ _ (hne 2), Below.heap_setCell _ _ _ _ (hne 1), Below.heap_setCell _ _ _ _ (hne 0)]
theorem toPlan_calls (w : World) (v0 v1 v2 v3 : Value) (x y : Int) (bs : List (List Int)) (ps hs : List Int) (ws : List (Int × Int)) (h : IPl w v0 v1 v2 v3 bs ps hs ws) (hb : Short bs) (hp : ps.length ≤ 1099511627776) (hh : hs.length ≤ 1099511627776) (hw : ws.length ≤ 1048576) :
    Calls Try.prog 25 #[.agg #[v0, v1, v2, v3, .int .i64 x, .int .i64 y]] w fun e w' => ∃ g0 g1 g2 g3, e = .returned (.agg #[.slice (some ⟨g0, 0, none⟩) bs.length bs.length, .slice (some ⟨g1, 0, none⟩) ps.length ps.length, .slice (some ⟨g2, 0, none⟩) hs.length hs.length, .slice (some ⟨g3, 0, none⟩) ws.length ws.length, .int .i64 x, .int .i64 y]) ∧
      IPl w' (.slice (some ⟨g0, 0, none⟩) bs.length bs.length) (.slice (some ⟨g1, 0, none⟩) ps.length ps.length) (.slice (some ⟨g2, 0, none⟩) hs.length hs.length) (.slice (some ⟨g3, 0, none⟩) ws.length ws.length) bs ps hs ws ∧ Below w.heap.size w w' :=
  (toPlanX_calls w v0 v1 v2 v3 x y bs ps hs ws h hb hp hh hw).mono fun _ _ ⟨g0, g1, g2, g3, h1, h2, h3, _⟩ => ⟨g0, g1, g2, g3, h1, h2, h3⟩

end Go.Proofs.Ytnmcgbfhgmmcpaa
