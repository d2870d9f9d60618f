import Derived.Deep.RegionHeld3
import Derived.Test.YtnbbbbfamlmfpaaGreatJn08
/-
  Lists of tables in memory; laws.eqTableS.
-/
namespace Go.Proofs.YtnbbbbfamlmfpaaGreat
open Go.RowKit

theorem bclT {w w' : World} {a : Addr} {v : Value} (hb : Below w.heap.size w w') (h : w.cell? a = some v) : w'.cell? a = some v := (hb.cell (World.block_lt_of_cell? w _ h)).trans h
structure TbV where
  vs : List Int
  rows : List (List Int)
  ws : List Int
def noTv : TbV := ⟨[], [], []⟩
/-- small enough to be walked -/
structure TvS (t : TbV) : Prop where
  vs : t.vs.length ≤ 1099511627776
  rows : Short t.rows
  ws : t.ws.length ≤ 1099511627776
def TabAt (W : World) (b o : Nat) (t : TbV) : Prop := ∃ v0 v1 v2, W.cell? ⟨b, o, none⟩ = some v0 ∧ W.cell? ⟨b, o + 1, none⟩ = some v1 ∧ W.cell? ⟨b, o + 2, none⟩ = some v2 ∧ IT W v0 v1 v2 t.vs t.rows t.ws
theorem TabAt.below {W W' : World} {b o : Nat} {t : TbV} (h : TabAt W b o t) (hb : Below W.heap.size W W') : TabAt W' b o t := by
  obtain ⟨v0, v1, v2, c0, c1, c2, hi⟩ := h
  exact ⟨v0, v1, v2, bclT hb c0, bclT hb c1, bclT hb c2, hi.below hb⟩
def ITs (W : World) (v : Value) (tl : List TbV) : Prop := ∃ a cap, v = .slice a tl.length cap ∧ (tl.length = 0 ∨ ∃ b o, a = some ⟨b, o, none⟩ ∧ ∀ j, j < tl.length → TabAt W b (o + j * 3) (tl.getD j noTv))
theorem ITs.below {W W' : World} {v : Value} {tl : List TbV} (h : ITs W v tl) (hb : Below W.heap.size W W') : ITs W' v tl := by
  obtain ⟨a, cap, e, h⟩ := h
  refine ⟨a, cap, e, ?_⟩
  rcases h with h | ⟨b, o, ea, h⟩
  · exact Or.inl h
  · exact Or.inr ⟨b, o, ea, fun j hj => (h j hj).below hb⟩

theorem six_of {w5 W : World} {b o b' o' : Nat} {v0 v1 v2 u0 u1 u2 : Value}
    (h0 : w5.cell? ⟨b, o, none⟩ = some v0) (h1 : w5.cell? ⟨b, o + 1, none⟩ = some v1) (h2 : w5.cell? ⟨b, o + 2, none⟩ = some v2)
    (k0 : w5.cell? ⟨b', o', none⟩ = some u0) (k1 : w5.cell? ⟨b', o' + 1, none⟩ = some u1) (k2 : w5.cell? ⟨b', o' + 2, none⟩ = some u2) (hb : Below w5.heap.size w5 W) :
    W.cell? ⟨b, o, none⟩ = some v0 ∧ W.cell? ⟨b, o + 1, none⟩ = some v1 ∧ W.cell? ⟨b, o + 2, none⟩ = some v2 ∧ W.cell? ⟨b', o', none⟩ = some u0 ∧ W.cell? ⟨b', o' + 1, none⟩ = some u1 ∧ W.cell? ⟨b', o' + 2, none⟩ = some u2 ∧ Below w5.heap.size w5 W :=
  ⟨bclT hb h0, bclT hb h1, bclT hb h2, bclT hb k0, bclT hb k1, bclT hb k2, hb⟩

set_option maxHeartbeats 4000000 in
set_option maxRecDepth 1000000 in
theorem eqTableS_same (w : World) (v u : Value) (ds : List TbV) (h : ITs w v ds) (h' : ITs w u ds) (hl1 : ds.length ≤ 1048576) (hr : ∀ j, j < ds.length → TvS (ds.getD j noTv)) :
    Calls Tryz.prog 10 #[v, u] w fun e w' => e = .returned (.bool true) ∧ Below w.heap.size w w' := by
  obtain ⟨a, cap, rfl, hc⟩ := h
  obtain ⟨a', cap', rfl, hc'⟩ := h'
  have HR := hid hr
  obtain ⟨n, hn⟩ : ∃ n, n = ds.length := ⟨_, rfl⟩
  rw [← hn] at hc hc' hl1 HR ⊢
  have HC := hid hc
  have HC' := hid hc'
  clear hc hc' hn hr
  have hne : ((n : Int) != (n : Int)) = false := by simp
  go_enter Tryz.func10, Tryz.ntmps10
  go_wp2
  go_loopw [5] (fun t wr => ∃ j : Nat, j ≤ n ∧ t = .int .i64 j ∧ Hid (Below w.heap.size w wr)) (fun t _ => n - (intOf t).toNat)
  case atStart => exact ⟨0, Nat.zero_le _, rfl, hid (Below.refl _ _)⟩
  case round =>
    obtain ⟨j, hj, rfl, hB⟩ := hrel
    by_cases hjn : j < n
    · have i1 : (j : Int) < (n : Int) := by omega
      rcases HC.out with h0 | ⟨b, o, rfl, hrel⟩
      · omega
      · rcases HC'.out with h0 | ⟨b', o', rfl, hrel'⟩
        · omega
        · obtain ⟨v0, v1, v2, c0, c1, c2, hir⟩ := (hrel j hjn).below hB.out
          obtain ⟨u0, u1, u2, d0, d1, d2, hir'⟩ := (hrel' j hjn).below hB.out
          have hok := HR.out j hjn
          have HW : Hid (∀ W, (W.cell? ⟨b, o + j * 3, none⟩ = some v0 ∧ W.cell? ⟨b, o + j * 3 + 1, none⟩ = some v1 ∧ W.cell? ⟨b, o + j * 3 + 2, none⟩ = some v2 ∧ W.cell? ⟨b', o' + j * 3, none⟩ = some u0 ∧ W.cell? ⟨b', o' + j * 3 + 1, none⟩ = some u1 ∧ W.cell? ⟨b', o' + j * 3 + 2, none⟩ = some u2 ∧ Below wr.heap.size wr W) →
            Calls Tryz.prog 25 #[.agg #[v0, v1, v2], .agg #[u0, u1, u2]] W fun e w' => e = .returned (.bool true) ∧ Below W.heap.size W w') := hid (fun W hW =>
              eqTable_same W v0 v1 v2 u0 u1 u2 _ _ _ (hir.below hW.2.2.2.2.2.2) (hir'.below hW.2.2.2.2.2.2) hok.vs hok.rows hok.ws)
          have HBW : Hid (∀ W, (W.cell? ⟨b, o + j * 3, none⟩ = some v0 ∧ W.cell? ⟨b, o + j * 3 + 1, none⟩ = some v1 ∧ W.cell? ⟨b, o + j * 3 + 2, none⟩ = some v2 ∧ W.cell? ⟨b', o' + j * 3, none⟩ = some u0 ∧ W.cell? ⟨b', o' + j * 3 + 1, none⟩ = some u1 ∧ W.cell? ⟨b', o' + j * 3 + 2, none⟩ = some u2 ∧ Below wr.heap.size wr W) → Below wr.heap.size wr W) := hid (fun W hW => hW.2.2.2.2.2.2)
          obtain ⟨a0, k0, rfl, -⟩ := hir.vs
          obtain ⟨a1, k1, rfl, -⟩ := hir.rows
          obtain ⟨a2, k2, rfl, -⟩ := hir.ws
          obtain ⟨a3, k3, rfl, -⟩ := hir'.vs
          obtain ⟨a4, k4, rfl, -⟩ := hir'.rows
          obtain ⟨a5, k5, rfl, -⟩ := hir'.ws
          clear hir hir' hok hrel hrel'
          generalize (ds.getD j noTv).vs.length = n0 at *
          generalize (ds.getD j noTv).rows.length = n1 at *
          generalize (ds.getD j noTv).ws.length = n2 at *
          go_wp2_with fail
          go_region_held3 (fun W => W.cell? ⟨b, o + j * 3, none⟩ = some (.slice a0 n0 k0) ∧ W.cell? ⟨b, o + j * 3 + 1, none⟩ = some (.slice a1 n1 k1) ∧ W.cell? ⟨b, o + j * 3 + 2, none⟩ = some (.slice a2 n2 k2) ∧ W.cell? ⟨b', o' + j * 3, none⟩ = some (.slice a3 n0 k3) ∧ W.cell? ⟨b', o' + j * 3 + 1, none⟩ = some (.slice a4 n1 k4) ∧ W.cell? ⟨b', o' + j * 3 + 2, none⟩ = some (.slice a5 n2 k5) ∧ Below wr.heap.size wr W)
            (first | exact six_of c0 c1 c2 d0 d1 d2 (Below.refl _ _).drew | exact six_of c0 c1 c2 d0 d1 d2 (bt (Below.refl _ _).drew hb) | (refine six_of c0 c1 c2 d0 d1 d2 (bt (HBW.out _ ?_) hb); assumption))
            (first | (go_at_call 25; refine (HW.out _ ?_).mono ?_; assumption; rintro e w' ⟨rfl, hb⟩))
          go_wp2
          go_roundw
          case rel => exact ⟨j + 1, by omega, by go_num, hid (bt hB.out (HBW.out _ (by assumption)))⟩
          case measure => simp [intOf]; omega
    · obtain rfl : j = n := by omega
      have i1 : ¬ ((j : Int) < (j : Int)) := by omega
      go_wp2
      go_ret
      exact ⟨rfl, hB.out⟩


end Go.Proofs.YtnbbbbfamlmfpaaGreat
