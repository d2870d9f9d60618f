import Derived.Deep.RegionHeld3
import Derived.Test.YtegcpplkcahkhaaGreatB08
/-
  laws.FnExactTableOK, walked.
-/
namespace Go.Proofs.YtegcpplkcahkhaaGreat
open Go.RowKit

/-- a box of three cells at block s -/
structure B3 (s : Nat) (v0 v1 v2 : Value) (W : World) : Prop where
  c0 : W.cell? ⟨s, 0, none⟩ = some v0
  c1 : W.cell? ⟨s, 1, none⟩ = some v1
  c2 : W.cell? ⟨s, 2, none⟩ = some v2
  lt : s < W.heap.size

theorem B3.step {s : Nat} {v0 v1 v2 : Value} {W W' : World} (h : B3 s v0 v1 v2 W) (hb : Below W.heap.size W W') : B3 s v0 v1 v2 W' :=
  ⟨(hb.cell (p := ⟨s, 0, none⟩) h.lt).trans h.c0, (hb.cell (p := ⟨s, 1, none⟩) h.lt).trans h.c1, (hb.cell (p := ⟨s, 2, none⟩) h.lt).trans h.c2, Nat.lt_of_lt_of_le h.lt hb.size⟩
theorem B3.start (w : World) (v0 v1 v2 : Value) (t : TypeId) : B3 w.heap.size v0 v1 v2 (w.alloc (.cells #[v0, v1, v2] t)) :=
  ⟨by simp [go_sem], by simp [go_sem], by simp [go_sem], by simp⟩
theorem B3.alloc {s : Nat} {v0 v1 v2 : Value} {W : World} (h : B3 s v0 v1 v2 W) (o : Obj) : B3 s v0 v1 v2 (W.alloc o) := h.step ((Below.refl _ _).alloc (Nat.le_refl _) _)

theorem two_of {w5 W : World} {s X : Nat} {v0 v1 v2 x0 x1 x2 : Value} (h : B3 s v0 v1 v2 w5) (k : B3 X x0 x1 x2 w5) (hb : Below w5.heap.size w5 W) :
    W.cell? ⟨s, 0, none⟩ = some v0 ∧ W.cell? ⟨s, 1, none⟩ = some v1 ∧ W.cell? ⟨s, 2, none⟩ = some v2 ∧ W.cell? ⟨X, 0, none⟩ = some x0 ∧ W.cell? ⟨X, 1, none⟩ = some x1 ∧ W.cell? ⟨X, 2, none⟩ = some x2 ∧ Below w5.heap.size w5 W :=
  ⟨(h.step hb).c0, (h.step hb).c1, (h.step hb).c2, (k.step hb).c0, (k.step hb).c1, (k.step hb).c2, hb⟩

theorem two_bel {w5 W : World} {s X : Nat} {v0 v1 v2 x0 x1 x2 : Value} (h : W.cell? ⟨s, 0, none⟩ = some v0 ∧ W.cell? ⟨s, 1, none⟩ = some v1 ∧ W.cell? ⟨s, 2, none⟩ = some v2 ∧ W.cell? ⟨X, 0, none⟩ = some x0 ∧ W.cell? ⟨X, 1, none⟩ = some x1 ∧ W.cell? ⟨X, 2, none⟩ = some x2 ∧ Below w5.heap.size w5 W) : Below w5.heap.size w5 W := h.2.2.2.2.2.2

end Go.Proofs.YtegcpplkcahkhaaGreat

/-
  Lists of tables in memory; laws.eqTableS.
-/
namespace Go.Proofs.YtegcpplkcahkhaaGreat
open Go.RowKit

theorem bclT {w w' : World} {a : Addr} {v : Value} (hb : Below w.heap.size w w') (h : w.cell? a = some v) : w'.cell? a = some v := (hb.cell (World.block_lt_of_cell? w _ h)).trans h
structure TbV where
  vs : List Int
  rows : List (List Int)
  ws : List Int
def noTv : TbV := ⟨[], [], []⟩
/-- small enough to be walked -/
structure TvS (t : TbV) : Prop where
  vs : t.vs.length ≤ 1099511627776
  rows : Short t.rows
  ws : t.ws.length ≤ 1099511627776
def TabAt (W : World) (b o : Nat) (t : TbV) : Prop := ∃ v0 v1 v2, W.cell? ⟨b, o, none⟩ = some v0 ∧ W.cell? ⟨b, o + 1, none⟩ = some v1 ∧ W.cell? ⟨b, o + 2, none⟩ = some v2 ∧ IT W v0 v1 v2 t.vs t.rows t.ws
theorem TabAt.below {W W' : World} {b o : Nat} {t : TbV} (h : TabAt W b o t) (hb : Below W.heap.size W W') : TabAt W' b o t := by
  obtain ⟨v0, v1, v2, c0, c1, c2, hi⟩ := h
  exact ⟨v0, v1, v2, bclT hb c0, bclT hb c1, bclT hb c2, hi.below hb⟩
def ITs (W : World) (v : Value) (tl : List TbV) : Prop := ∃ a cap, v = .slice a tl.length cap ∧ (tl.length = 0 ∨ ∃ b o, a = some ⟨b, o, none⟩ ∧ ∀ j, j < tl.length → TabAt W b (o + j * 3) (tl.getD j noTv))
theorem ITs.below {W W' : World} {v : Value} {tl : List TbV} (h : ITs W v tl) (hb : Below W.heap.size W W') : ITs W' v tl := by
  obtain ⟨a, cap, e, h⟩ := h
  refine ⟨a, cap, e, ?_⟩
  rcases h with h | ⟨b, o, ea, h⟩
  · exact Or.inl h
  · exact Or.inr ⟨b, o, ea, fun j hj => (h j hj).below hb⟩

theorem get3 {α : Type} (c : α → List Value) (hc : ∀ x, (c x).length = 3) (ss : List α) : ∀ t, (ss.flatMap c)[t]? = (ss[t / 3]?).bind fun x => (c x)[t % 3]? := by
  induction ss with
  | nil => intro t; simp
  | cons x r ih =>
    intro t
    rw [List.flatMap_cons]
    by_cases h : t < 3
    · rw [List.getElem?_append_left (by rw [hc]; omega), Nat.div_eq_of_lt h, Nat.mod_eq_of_lt h]
      rfl
    · obtain ⟨s, rfl⟩ : ∃ s, t = s + 3 := ⟨t - 3, by omega⟩
      rw [List.getElem?_append_right (by rw [hc]; omega)]
      have e : s + 3 - (c x).length = s := by rw [hc]; omega
      rw [e, ih s, Nat.add_mod_right, Nat.add_div_right _ (by decide)]
      rfl
theorem own3 {α : Type} (c : α → List Value) (hc : ∀ x, (c x).length = 3) (d : α) {W : World} {B : Nat} {ty : TypeId} {v : Value} {tl : List α} (h : W.ownsRow B ty 3 v tl.length (tl.flatMap c)) :
    ∃ a cap, v = .slice a tl.length cap ∧ (tl.length = 0 ∨ ∃ g, a = some ⟨g, 0, none⟩ ∧ (∃ cur, W.heap[g]? = some (.cells cur ty (0, 0))) ∧ ∀ j q, j < tl.length → q < 3 → W.cell? ⟨g, j * 3 + q, none⟩ = (c (tl.getD j d))[q]?) := by
  rcases h.2 with ⟨rfl, hn⟩ | ⟨g, cap, cur, rfl, hb', hh, hn, -, -, ht⟩
  · exact ⟨none, 0, by rw [hn], Or.inl hn⟩
  · refine ⟨_, cap, rfl, Or.inr ⟨g, rfl, ⟨cur, hh⟩, fun j q hj hq => ?_⟩⟩
    rw [cell_of_row _ _ _ _ _ _ hh, ← Array.getElem?_toList, ← List.getElem?_take_of_lt (by omega : j * 3 + q < tl.length * 3), ht, get3 c hc, show (j * 3 + q) / 3 = j by omega, show (j * 3 + q) % 3 = q by omega, List.getD_eq_getElem?_getD, List.getElem?_eq_getElem hj]
    rfl

theorem six_of {w5 W : World} {b o b' o' : Nat} {v0 v1 v2 u0 u1 u2 : Value}
    (h0 : w5.cell? ⟨b, o, none⟩ = some v0) (h1 : w5.cell? ⟨b, o + 1, none⟩ = some v1) (h2 : w5.cell? ⟨b, o + 2, none⟩ = some v2)
    (k0 : w5.cell? ⟨b', o', none⟩ = some u0) (k1 : w5.cell? ⟨b', o' + 1, none⟩ = some u1) (k2 : w5.cell? ⟨b', o' + 2, none⟩ = some u2) (hb : Below w5.heap.size w5 W) :
    W.cell? ⟨b, o, none⟩ = some v0 ∧ W.cell? ⟨b, o + 1, none⟩ = some v1 ∧ W.cell? ⟨b, o + 2, none⟩ = some v2 ∧ W.cell? ⟨b', o', none⟩ = some u0 ∧ W.cell? ⟨b', o' + 1, none⟩ = some u1 ∧ W.cell? ⟨b', o' + 2, none⟩ = some u2 ∧ Below w5.heap.size w5 W :=
  ⟨bclT hb h0, bclT hb h1, bclT hb h2, bclT hb k0, bclT hb k1, bclT hb k2, hb⟩

set_option maxHeartbeats 4000000 in
set_option maxRecDepth 1000000 in
theorem eqTableS_same (w : World) (v u : Value) (ds : List TbV) (h : ITs w v ds) (h' : ITs w u ds) (hl1 : ds.length ≤ 1048576) (hr : ∀ j, j < ds.length → TvS (ds.getD j noTv)) :
    Calls Tryz.prog 10 #[v, u] w fun e w' => e = .returned (.bool true) ∧ Below w.heap.size w w' := by
  obtain ⟨a, cap, rfl, hc⟩ := h
  obtain ⟨a', cap', rfl, hc'⟩ := h'
  have HR := hid hr
  obtain ⟨n, hn⟩ : ∃ n, n = ds.length := ⟨_, rfl⟩
  rw [← hn] at hc hc' hl1 HR ⊢
  have HC := hid hc
  have HC' := hid hc'
  clear hc hc' hn hr
  have hne : ((n : Int) != (n : Int)) = false := by simp
  go_enter Tryz.func10, Tryz.ntmps10
  go_wp2
  go_loopw [5] (fun t wr => ∃ j : Nat, j ≤ n ∧ t = .int .i64 j ∧ Hid (Below w.heap.size w wr)) (fun t _ => n - (intOf t).toNat)
  case atStart => exact ⟨0, Nat.zero_le _, rfl, hid (Below.refl _ _)⟩
  case round =>
    obtain ⟨j, hj, rfl, hB⟩ := hrel
    by_cases hjn : j < n
    · have i1 : (j : Int) < (n : Int) := by omega
      rcases HC.out with h0 | ⟨b, o, rfl, hrel⟩
      · omega
      · rcases HC'.out with h0 | ⟨b', o', rfl, hrel'⟩
        · omega
        · obtain ⟨v0, v1, v2, c0, c1, c2, hir⟩ := (hrel j hjn).below hB.out
          obtain ⟨u0, u1, u2, d0, d1, d2, hir'⟩ := (hrel' j hjn).below hB.out
          have hok := HR.out j hjn
          have HW : Hid (∀ W, (W.cell? ⟨b, o + j * 3, none⟩ = some v0 ∧ W.cell? ⟨b, o + j * 3 + 1, none⟩ = some v1 ∧ W.cell? ⟨b, o + j * 3 + 2, none⟩ = some v2 ∧ W.cell? ⟨b', o' + j * 3, none⟩ = some u0 ∧ W.cell? ⟨b', o' + j * 3 + 1, none⟩ = some u1 ∧ W.cell? ⟨b', o' + j * 3 + 2, none⟩ = some u2 ∧ Below wr.heap.size wr W) →
            Calls Tryz.prog 33 #[.agg #[v0, v1, v2], .agg #[u0, u1, u2]] W fun e w' => e = .returned (.bool true) ∧ Below W.heap.size W w') := hid (fun W hW =>
              eqTable_same W v0 v1 v2 u0 u1 u2 _ _ _ (hir.below hW.2.2.2.2.2.2) (hir'.below hW.2.2.2.2.2.2) hok.vs hok.rows hok.ws)
          have HBW : Hid (∀ W, (W.cell? ⟨b, o + j * 3, none⟩ = some v0 ∧ W.cell? ⟨b, o + j * 3 + 1, none⟩ = some v1 ∧ W.cell? ⟨b, o + j * 3 + 2, none⟩ = some v2 ∧ W.cell? ⟨b', o' + j * 3, none⟩ = some u0 ∧ W.cell? ⟨b', o' + j * 3 + 1, none⟩ = some u1 ∧ W.cell? ⟨b', o' + j * 3 + 2, none⟩ = some u2 ∧ Below wr.heap.size wr W) → Below wr.heap.size wr W) := hid (fun W hW => hW.2.2.2.2.2.2)
          obtain ⟨a0, k0, rfl, -⟩ := hir.vs
          obtain ⟨a1, k1, rfl, -⟩ := hir.rows
          obtain ⟨a2, k2, rfl, -⟩ := hir.ws
          obtain ⟨a3, k3, rfl, -⟩ := hir'.vs
          obtain ⟨a4, k4, rfl, -⟩ := hir'.rows
          obtain ⟨a5, k5, rfl, -⟩ := hir'.ws
          clear hir hir' hok hrel hrel'
          generalize (ds.getD j noTv).vs.length = n0 at *
          generalize (ds.getD j noTv).rows.length = n1 at *
          generalize (ds.getD j noTv).ws.length = n2 at *
          go_wp2_with fail
          go_region_held3 (fun W => W.cell? ⟨b, o + j * 3, none⟩ = some (.slice a0 n0 k0) ∧ W.cell? ⟨b, o + j * 3 + 1, none⟩ = some (.slice a1 n1 k1) ∧ W.cell? ⟨b, o + j * 3 + 2, none⟩ = some (.slice a2 n2 k2) ∧ W.cell? ⟨b', o' + j * 3, none⟩ = some (.slice a3 n0 k3) ∧ W.cell? ⟨b', o' + j * 3 + 1, none⟩ = some (.slice a4 n1 k4) ∧ W.cell? ⟨b', o' + j * 3 + 2, none⟩ = some (.slice a5 n2 k5) ∧ Below wr.heap.size wr W)
            (first | exact six_of c0 c1 c2 d0 d1 d2 (Below.refl _ _).drew | exact six_of c0 c1 c2 d0 d1 d2 (bt (Below.refl _ _).drew hb) | (refine six_of c0 c1 c2 d0 d1 d2 (bt (HBW.out _ ?_) hb); assumption))
            (first | (go_at_call 33; refine (HW.out _ ?_).mono ?_; assumption; rintro e w' ⟨rfl, hb⟩))
          go_wp2
          go_roundw
          case rel => exact ⟨j + 1, by omega, by go_num, hid (bt hB.out (HBW.out _ (by assumption)))⟩
          case measure => simp [intOf]; omega
    · obtain rfl : j = n := by omega
      have i1 : ¬ ((j : Int) < (j : Int)) := by omega
      go_wp2
      go_ret
      exact ⟨rfl, hB.out⟩


end Go.Proofs.YtegcpplkcahkhaaGreat
