import Derived.BigQuiet
import Derived.Deep.AppendLies
import Derived.Deep.CutRange
import Derived.Deep.QuietTactic
import Derived.Deep.RegionLaw
import Derived.Test.YtnbbbbfamlmfpaaGreatJn05
import Derived.Test.YtnbbbbfamlmfpaaGreatJn08
import Derived.Test.YtnbbbbfamlmfpaaGreatJn09
import Derived.Test.YtnbbbbfamlmfpaaGreatJn10
/-
  spec.l2Sort.
-/
namespace Go.Proofs.YtnbbbbfamlmfpaaGreat
open Go.RowKit

/-- a slice's length is no more than its room -/
def CapOK (v : Value) : Prop := ∃ a n c, v = .slice a n c ∧ n ≤ c
/-- ints in a slice with room for them -/
def ISc (w : World) (v : Value) (l : List Int) : Prop := IS w v l ∧ CapOK v
theorem ISc.below {w w' : World} {v : Value} {l : List Int} (h : ISc w v l) (hb : Below w.heap.size w w') : ISc w' v l := ⟨h.1.below hb, h.2⟩
theorem own_cap {w : World} {B n s : Nat} {e : TypeId} {v : Value} {xs : List Value} (h : w.ownsRow B e s v n xs) : CapOK v := by
  rcases h.2 with ⟨rfl, hn⟩ | ⟨g, cap, cur, rfl, -, -, hn, -⟩
  · exact ⟨_, _, _, rfl, Nat.le_refl _⟩
  · exact ⟨_, _, _, rfl, hn⟩
/-- rows in slices with room for them -/
def ISSc (w : World) (v : Value) (ls : List (List Int)) : Prop := ∃ a cap, v = .slice a ls.length cap ∧ (ls.length = 0 ∨ ∃ b o, a = some ⟨b, o, none⟩ ∧ ∀ j, j < ls.length → ∃ u, w.cell? ⟨b, o + j, none⟩ = some u ∧ ISc w u (ls.getD j []))
theorem ISSc.iss {w : World} {v : Value} {ls : List (List Int)} (h : ISSc w v ls) : ISS w v ls := by
  obtain ⟨a, cap, rfl, h1⟩ := h
  refine ⟨a, cap, rfl, ?_⟩
  rcases h1 with h1 | ⟨b, o, rfl, h1⟩
  · exact Or.inl h1
  · exact Or.inr ⟨b, o, rfl, fun j hj => by obtain ⟨u, h2, h3⟩ := h1 j hj; exact ⟨u, h2, h3.1⟩⟩
theorem ISSc.below {w w' : World} {v : Value} {ls : List (List Int)} (h : ISSc w v ls) (hb : Below w.heap.size w w') : ISSc w' v ls := by
  obtain ⟨a, cap, rfl, h1⟩ := h
  refine ⟨a, cap, rfl, ?_⟩
  rcases h1 with h1 | ⟨b, o, rfl, h1⟩
  · exact Or.inl h1
  · exact Or.inr ⟨b, o, rfl, fun j hj => by obtain ⟨u, h2, h3⟩ := h1 j hj; exact ⟨u, (hb.cell (p := ⟨b, o + j, none⟩) (World.block_lt_of_cell? w _ h2)).trans h2, h3.below hb⟩⟩

/-- rows that lie ready in W0, listed in a slice of W -/
structure RS (W0 W : World) (v : Value) (us : List Value) (ls : List (List Int)) : Prop where
  sl : ∃ a cap, v = .slice a ls.length cap ∧ ls.length ≤ cap ∧ (ls.length = 0 ∨ ∃ b o, a = some ⟨b, o, none⟩ ∧ ∀ j, j < ls.length → W.cell? ⟨b, o + j, none⟩ = some (us.getD j undef))
  len : us.length = ls.length
  each : ∀ i, i < ls.length → ISc W0 (us.getD i undef) (ls.getD i [])
theorem RS.below {W0 W W' : World} {v : Value} {us : List Value} {ls : List (List Int)} (h : RS W0 W v us ls) (hb : Below W.heap.size W W') : RS W0 W' v us ls := by
  obtain ⟨⟨a, cap, rfl, hc, h1⟩, h2, h3⟩ := h
  refine ⟨⟨a, cap, rfl, hc, ?_⟩, h2, h3⟩
  rcases h1 with h1 | ⟨b, o, rfl, h1⟩
  · exact Or.inl h1
  · exact Or.inr ⟨b, o, rfl, fun j hj => (hb.cell (p := ⟨b, o + j, none⟩) (World.block_lt_of_cell? W _ (h1 j hj))).trans (h1 j hj)⟩
theorem RS.issc {W0 W : World} {v : Value} {us : List Value} {ls : List (List Int)} (h : RS W0 W v us ls) (hb : Below W0.heap.size W0 W) : ISSc W v ls := by
  obtain ⟨⟨a, cap, rfl, hc, h1⟩, h2, h3⟩ := h
  refine ⟨a, cap, rfl, ?_⟩
  rcases h1 with h1 | ⟨b, o, rfl, h1⟩
  · exact Or.inl h1
  · exact Or.inr ⟨b, o, rfl, fun j hj => ⟨_, h1 j hj, (h3 j hj).below hb⟩⟩
theorem RS.iss {W0 W : World} {v : Value} {us : List Value} {ls : List (List Int)} (h : RS W0 W v us ls) (hb : Below W0.heap.size W0 W) : ISS W v ls := (h.issc hb).iss
theorem getD_take {α : Type} {l : List α} {n i : Nat} {d : α} (h : i < n) : (l.take n).getD i d = l.getD i d := by
  rw [List.getD_eq_getElem?_getD, List.getElem?_take_of_lt h, ← List.getD_eq_getElem?_getD]
theorem getD_drop {α : Type} {l : List α} {n i : Nat} {d : α} : (l.drop n).getD i d = l.getD (n + i) d := by
  rw [List.getD_eq_getElem?_getD, List.getElem?_drop, ← List.getD_eq_getElem?_getD]
theorem RS.take {W0 W : World} {a : Option Addr} {n0 cap : Nat} {us : List Value} {ls : List (List Int)} (h : RS W0 W (.slice a n0 cap) us ls) {n : Nat} (hn : n ≤ ls.length) : RS W0 W (.slice a n cap) (us.take n) (ls.take n) := by
  obtain ⟨⟨a', cap', e, hc, h1⟩, h2, h3⟩ := h
  simp only [Value.slice.injEq] at e
  obtain ⟨rfl, rfl, rfl⟩ := e
  have hl : (ls.take n).length = n := by rw [List.length_take]; omega
  refine ⟨⟨a, cap, by rw [hl], by omega, ?_⟩, by rw [hl, List.length_take]; omega, fun i hi => ?_⟩
  · rcases h1 with h1 | ⟨b, o, rfl, h1⟩
    · exact Or.inl (by omega)
    · exact Or.inr ⟨b, o, rfl, fun j hj => by rw [getD_take (by omega)]; exact h1 j (by omega)⟩
  · rw [getD_take (by omega), getD_take (by omega)]; exact h3 i (by omega)
theorem RS.drop {W0 W : World} {b o n0 cap : Nat} {us : List Value} {ls : List (List Int)} (h : RS W0 W (.slice (some ⟨b, o, none⟩) n0 cap) us ls) {n : Nat} (hn : n ≤ ls.length) : RS W0 W (.slice (some ⟨b, o + n, none⟩) (n0 - n) (cap - n)) (us.drop n) (ls.drop n) := by
  obtain ⟨⟨a', cap', e, hc, h1⟩, h2, h3⟩ := h
  simp only [Value.slice.injEq] at e
  obtain ⟨rfl, rfl, rfl⟩ := e
  have hl : (ls.drop n).length = ls.length - n := List.length_drop ..
  refine ⟨⟨_, _, by rw [hl], by omega, ?_⟩, by rw [hl, List.length_drop]; omega, fun i hi => ?_⟩
  · rcases h1 with h1 | ⟨b', o', e', h1⟩
    · exact Or.inl (by omega)
    · simp only [Option.some.injEq, Addr.mk.injEq, and_true] at e'
      obtain ⟨rfl, rfl⟩ := e'
      exact Or.inr ⟨b, o + n, rfl, fun j hj => by rw [getD_drop, Nat.add_assoc]; exact h1 (n + j) (by omega)⟩
  · rw [getD_drop, getD_drop]; exact h3 (n + i) (by omega)

/-- rows being merged into a slice of the call's own -/
structure MS (W0 W wr : World) (v : Value) (us : List Value) (ls : List (List Int)) : Prop where
  bel : Below W.heap.size W wr
  own : wr.ownsRow W.heap.size 23 1 v ls.length us
  len : us.length = ls.length
  each : ∀ i, i < ls.length → ISc W0 (us.getD i undef) (ls.getD i [])
theorem MS.start (W0 W : World) : MS W0 W (W.alloc (.cells #[] 23)) (.slice (some ⟨W.heap.size, 0, none⟩) 0 0) [] [] :=
  ⟨(Below.refl _ _).alloc (Nat.le_refl _) _, World.ownsRow_made W #[] 0 (Nat.le_refl _) (by decide) rfl, rfl, fun i hi => by simp at hi⟩
theorem MS.drew {W0 W wr : World} {v : Value} {us : List Value} {ls : List (List Int)} (h : MS W0 W wr v us ls) : MS W0 W wr.drew v us ls := ⟨h.bel.drew, h.own, h.len, h.each⟩
theorem MS.push {W0 W wr w3 : World} {v v' u : Value} {us : List Value} {ls : List (List Int)} {l : List Int} {o : Obj} (h : MS W0 W wr v us ls) (hu : ISc W0 u l) (hown : w3.ownsRow W.heap.size 23 1 v' (ls.length + 1) (us ++ [u])) (hg : (wr.alloc o).grownBy w3 v.ownBlock) : MS W0 W w3 v' (us ++ [u]) (ls ++ [l]) := by
  refine ⟨(h.bel.alloc h.bel.size o).grown hg (by have := h.bel.size; simp; omega) (fun k hk => (h.own.lt k hk).1), by rw [List.length_append]; exact hown, by simp [h.len], fun i hi => ?_⟩
  rw [List.length_append, List.length_singleton] at hi
  by_cases e : i < ls.length
  · rw [List.getD_eq_getElem?_getD, List.getElem?_append_left (by rw [h.len]; exact e), List.getD_eq_getElem?_getD (l := ls ++ [l]), List.getElem?_append_left e, ← List.getD_eq_getElem?_getD, ← List.getD_eq_getElem?_getD]
    exact h.each i e
  · have e1 : (us ++ [u]).getD i undef = u := by rw [List.getD_eq_getElem?_getD, List.getElem?_append_right (by rw [h.len]; omega), show i - us.length = 0 by rw [h.len]; omega]; rfl
    have e2 : (ls ++ [l]).getD i [] = l := by rw [List.getD_eq_getElem?_getD, List.getElem?_append_right (by omega), show i - ls.length = 0 by omega]; rfl
    rw [e1, e2]; exact hu
theorem MS.rs {W0 W wr : World} {v : Value} {us : List Value} {ls : List (List Int)} (h : MS W0 W wr v us ls) : RS W0 wr v us ls := by
  refine ⟨?_, h.len, h.each⟩
  rcases h.own.2 with ⟨rfl, hn⟩ | ⟨g, cap, cur, rfl, hb', hc, hn, hcap, -, ht⟩
  · exact ⟨none, 0, by rw [hn], by omega, Or.inl hn⟩
  · refine ⟨_, cap, rfl, ?_, Or.inr ⟨g, 0, rfl, fun j hj => ?_⟩⟩
    · exact hn
    · have hlen := h.len
      rw [Nat.zero_add, cell_of_row _ _ _ _ _ _ hc, List.getD_eq_getElem?_getD, List.getElem?_eq_getElem (by omega), Option.getD_some, ← List.getElem?_eq_getElem (by omega : j < us.length), ← ht, List.getElem?_take_of_lt (by omega), Array.getElem?_toList]

end Go.Proofs.YtnbbbbfamlmfpaaGreat

/-
  spec.l2Sort, walked.
-/
namespace Go.Proofs.YtnbbbbfamlmfpaaGreat
open Go.RowKit

theorem drop_cons {l : List (List Int)} {j : Nat} (h : j < l.length) : l.drop j = l.getD j [] :: l.drop (j + 1) := by
  rw [List.getD_eq_getElem?_getD, List.getElem?_eq_getElem h]
  exact List.drop_eq_getElem_cons h
theorem MS.drewN {W0 W wr : World} {v : Value} {us : List Value} {ls : List (List Int)} (h : MS W0 W wr v us ls) (n : Nat) : MS W0 W (wr.drewN n) v us ls := ⟨⟨h.bel.os, h.bel.tape, h.bel.output, h.bel.size, h.bel.block⟩, h.own, h.len, h.each⟩
theorem drop_end {l : List (List Int)} {j : Nat} (h : ¬ j < l.length) : l.drop j = [] := List.drop_eq_nil_of_le (by omega)

/-- the same slice, or a new one -/
def NewOr (W : World) (v v' : Value) : Prop := v' = v ∨ ∀ g, v'.ownBlock = some g → W.heap.size ≤ g

end Go.Proofs.YtnbbbbfamlmfpaaGreat

/-
  spec: l2Value, l2Values.
-/
namespace Go.Proofs.YtnbbbbfamlmfpaaGreat
open Go.RowKit

/-- the value that a row gives to a variable -/
def vlF : List Int → List Int → Int → Int
  | [], _, _ => 0
  | x :: vs, r, v => if x = v then r.getD 0 0 else vlF vs (r.drop 1) v
def prjR (vs vars row : List Int) : List Int := vars.map (vlF vs row)
theorem prjR_len (vs vars row : List Int) : (prjR vs vars row).length = vars.length := by simp [prjR]
theorem vlF_hit {vs row : List Int} {v : Int} {j : Nat} (hj : j < vs.length) (h : vs.getD j 0 = v) : vlF (vs.drop j) (row.drop j) v = row.getD j 0 := by
  rw [drop_getD hj, vlF, if_pos h, getD_drop, Nat.add_zero]
theorem vlF_miss {vs row : List Int} {v : Int} {j : Nat} (hj : j < vs.length) (h : ¬ vs.getD j 0 = v) : vlF (vs.drop j) (row.drop j) v = vlF (vs.drop (j + 1)) (row.drop (j + 1)) v := by
  rw [drop_getD hj, vlF, if_neg h, List.drop_drop]

set_option maxHeartbeats 1000000 in
theorem l2Value_calls (w : World) (v0 v1 v2 vr : Value) (vs row : List Int) (n1 n2 : Nat) (h1 : ∃ a c, v1 = .slice a n1 c) (h2 : ∃ a c, v2 = .slice a n2 c) (h : IS w v0 vs) (hr : IS w vr row) (x : Int) (hl : vs.length ≤ 1099511627776) (hlr : row.length = vs.length) :
    Calls Tryz.prog 66 #[.agg #[v0, v1, v2], vr, .int .i64 x] w fun e w' => e = .returned (.int .i64 (vlF vs row x)) ∧ Below w.heap.size w w' := by
  obtain ⟨a1, c1, rfl⟩ := h1
  obtain ⟨a2, c2, rfl⟩ := h2
  obtain ⟨a, cap, rfl, hc⟩ := h
  obtain ⟨ar, capr, rfl, hcr⟩ := hr
  obtain ⟨W1, hW1⟩ : ∃ W1, W1 = w.alloc (.cells #[.slice a vs.length cap, .slice a1 n1 c1, .slice a2 n2 c2] 41) := ⟨_, rfl⟩
  have HB1 : Hid (Below w.heap.size w W1) := hid (by rw [hW1]; exact (Below.refl _ _).alloc (Nat.le_refl _) _)
  have d0 : W1.cell? ⟨w.heap.size, 0, none⟩ = some (.slice a vs.length cap) := by rw [hW1, World.cell?_alloc_at _ _ _ _ rfl]; rfl
  have HC : Hid (∀ j, j < vs.length → ∃ b o, a = some ⟨b, o, none⟩ ∧ W1.cell? ⟨b, o + j, none⟩ = some (.int .i64 (vs.getD j 0))) := hid fun j hj => by
    rcases hc with h0 | ⟨b, o, rfl, h⟩
    · omega
    · exact ⟨b, o, rfl, (HB1.out.cell (World.block_lt_of_cell? w _ (h j hj))).trans (h j hj)⟩
  have HCr : Hid (∀ j, j < vs.length → ∃ b o, ar = some ⟨b, o, none⟩ ∧ W1.cell? ⟨b, o + j, none⟩ = some (.int .i64 (row.getD j 0))) := hid fun j hj => by
    rcases hcr with h0 | ⟨b, o, rfl, h⟩
    · omega
    · exact ⟨b, o, rfl, (HB1.out.cell (World.block_lt_of_cell? w _ (h j (by omega)))).trans (h j (by omega))⟩
  have HH : Hid (∀ j, j < vs.length → vs.getD j 0 = x → vlF (vs.drop j) (row.drop j) x = row.getD j 0) := hid fun j hj e => vlF_hit hj e
  have HM : Hid (∀ j, j < vs.length → ¬ vs.getD j 0 = x → vlF (vs.drop j) (row.drop j) x = vlF (vs.drop (j + 1)) (row.drop (j + 1)) x) := hid fun j hj e => vlF_miss hj e
  have HE : Hid (vlF (vs.drop vs.length) (row.drop vs.length) x = 0) := hid (by rw [List.drop_length]; rfl)
  rw [hlr]
  clear hc hcr hlr
  obtain ⟨n, hn⟩ : ∃ n, n = vs.length := ⟨_, rfl⟩
  rw [← hn] at HC HCr HH HM HE hl d0 hW1 ⊢
  clear hn
  go_enter Tryz.func66, Tryz.ntmps66
  go_upto_region 1 with fail
  rw [← hW1]
  clear hW1
  go_wp2_with fail
  go_loop [12] (fun t => ∃ j : Nat, j ≤ n ∧ t = .int .i64 j ∧ Hid (vlF (vs.drop j) (row.drop j) x = vlF vs row x)) (fun t => n - (intOf t).toNat)
  case atStart => exact ⟨0, Nat.zero_le _, rfl, hid rfl⟩
  case round =>
    obtain ⟨j, hj, rfl, hok⟩ := hrel
    by_cases hjn : j < n
    · have i1 : (j : Int) < (n : Int) := by omega
      obtain ⟨b, o, ea, e1⟩ := HC.out j hjn
      subst ea
      by_cases hx : vs.getD j 0 = x
      · obtain ⟨b2, o2, ea, e2⟩ := HCr.out j hjn
        subst ea
        have hf := hid ((HH.out j hjn hx).symm.trans hok.out)
        rw [hx] at e1
        generalize row.getD j 0 = y at *
        clear hx
        go_wp2
        go_ret
        exact ⟨ret_int hf.out, HB1.out⟩
      · have hf := hid ((HM.out j hjn hx).symm.trans hok.out)
        generalize vs.getD j 0 = y at *
        go_wp2
        go_round
        case rel => exact ⟨j + 1, by omega, by go_num, hf⟩
        case measure => simp [intOf]; omega
    · obtain rfl : j = n := by omega
      have i1 : ¬ ((j : Int) < (j : Int)) := by omega
      have hf := hid (HE.out.symm.trans hok.out)
      go_wp2
      go_ret
      exact ⟨ret_int hf.out, HB1.out⟩

set_option maxHeartbeats 2000000 in
set_option maxRecDepth 1000000 in
theorem l2Values_calls (w : World) (v0 v1 v2 vr vv : Value) (vs row vars : List Int) (n1 n2 : Nat) (h1 : ∃ a c, v1 = .slice a n1 c) (h2 : ∃ a c, v2 = .slice a n2 c) (h : IS w v0 vs) (hr : IS w vr row) (hv : IS w vv vars) (hl : vs.length ≤ 1099511627776) (hlr : row.length = vs.length) (hlv : vars.length ≤ 1000) :
    Calls Tryz.prog 49 #[.agg #[v0, v1, v2], vr, vv] w fun e w' => ∃ v, e = .returned v ∧ w'.ownsRow w.heap.size 3 1 v (prjR vs vars row).length ((prjR vs vars row).map (Value.int .i64)) ∧ Below w.heap.size w w' := by
  obtain ⟨i0, hi, hz0, hz1, hz2⟩ := info_parts Tryz.infoInt
  have KV : Hid (∀ W x, Below w.heap.size w W → Calls Tryz.prog 66 #[.agg #[v0, v1, v2], vr, .int .i64 x] W fun e w' => e = .returned (.int .i64 (vlF vs row x)) ∧ Below W.heap.size W w') := hid fun W x hW => l2Value_calls W v0 v1 v2 vr vs row n1 n2 h1 h2 (h.below hW) (hr.below hW) x hl hlr
  obtain ⟨a1, c1, rfl⟩ := h1
  obtain ⟨a2, c2, rfl⟩ := h2
  obtain ⟨a, cap, rfl, -⟩ := h
  obtain ⟨ar, capr, rfl, -⟩ := hr
  obtain ⟨av, capv, rfl, hcv⟩ := hv
  obtain ⟨W1, hW1⟩ : ∃ W1, W1 = w.alloc (.cells #[.slice a vs.length cap, .slice a1 n1 c1, .slice a2 n2 c2] 41) := ⟨_, rfl⟩
  have hB1 : Below w.heap.size w W1 := by rw [hW1]; exact (Below.refl _ _).alloc (Nat.le_refl _) _
  have HBx : Hid (W1.heap[w.heap.size]? = some (.cells #[.slice a vs.length cap, .slice a1 n1 c1, .slice a2 n2 c2] 41 (0, 0))) := hid (by rw [hW1]; exact heap_alloc_new _ _)
  have hs1 : W1.heap.size = w.heap.size + 1 := by rw [hW1]; simp
  have HS0 : Hid (Below w.heap.size w (W1.alloc (.cells #[] 3)) ∧ (W1.alloc (.cells #[] 3)).ownsRow w.heap.size 3 1 (.slice (some ⟨w.heap.size + 1, 0, none⟩) 0 0) 0 [] ∧ (W1.alloc (.cells #[] 3)).heap[w.heap.size]? = some (.cells #[.slice a vs.length cap, .slice a1 n1 c1, .slice a2 n2 c2] 41 (0, 0))) := hid (by
    refine ⟨hB1.alloc hB1.size _, ?_, (Below.heap_alloc _ _ _ (by omega)).trans HBx.out⟩
    have := World.ownsRow_made W1 (e := 3) (size := 1) (base := w.heap.size) #[] 0 (by omega) (by decide) rfl
    rw [hs1] at this
    exact this)
  have HC : Hid (∀ W, Below w.heap.size w W → ∀ j, j < vars.length → ∃ b o, av = some ⟨b, o, none⟩ ∧ W.cell? ⟨b, o + j, none⟩ = some (.int .i64 (vars.getD j 0))) := hid fun W hW j hj => by
    rcases hcv with h0 | ⟨b, o, rfl, h⟩
    · omega
    · exact ⟨b, o, rfl, (hW.cell (World.block_lt_of_cell? w _ (h j hj))).trans (h j hj)⟩
  have HP : Hid (∀ j, j < vars.length → (prjR vs (vars.take (j + 1)) row).map (Value.int .i64) = (prjR vs (vars.take j) row).map (Value.int .i64) ++ [.int .i64 (vlF vs row (vars.getD j 0))]) := hid fun j hj => by
    unfold prjR
    rw [List.take_add_one, List.getElem?_eq_getElem hj, List.getD_eq_getElem?_getD, List.getElem?_eq_getElem hj, List.map_append, List.map_append]
    rfl
  have HP0 : Hid ((prjR vs (vars.take 0) row).map (Value.int .i64) = []) := hid rfl
  have HPn : Hid (prjR vs (vars.take vars.length) row = prjR vs vars row) := hid (by rw [List.take_length])
  rw [prjR_len]
  clear hcv hB1 HBx hlr hl
  obtain ⟨n, hn⟩ : ∃ n, n = vars.length := ⟨_, rfl⟩
  rw [← hn] at HC HP HPn hlv ⊢
  clear hn
  generalize vs.length = nv at *
  generalize row.length = nr at *
  go_enter Tryz.func49, Tryz.ntmps49
  go_upto_region 1 with fail
  rw [← hW1]
  clear hW1
  go_wp2_with fail
  generalize W1.alloc (.cells #[] 3) = W2 at *
  go_loopw [7, 13] (fun u t wr => ∃ (j : Nat) (vo : Value), j ≤ n ∧ t = .int .i64 j ∧ vo = u ∧ Hid (Below w.heap.size w wr ∧ wr.ownsRow w.heap.size 3 1 vo j ((prjR vs (vars.take j) row).map (Value.int .i64)) ∧ wr.heap[w.heap.size]? = some (.cells #[.slice a nv cap, .slice a1 n1 c1, .slice a2 n2 c2] 41 (0, 0)))) (fun _ t _ => n - (intOf t).toNat)
  case atStart => exact ⟨0, _, Nat.zero_le _, rfl, rfl, hid ⟨HS0.out.1, by rw [HP0.out]; exact HS0.out.2.1, HS0.out.2.2⟩⟩
  case round =>
    clear HS0 HP0
    obtain ⟨j, vo, hj, rfl, rfl, HT⟩ := hrel
    by_cases hjn : j < n
    · have i1 : (j : Int) < (n : Int) := by omega
      obtain ⟨b, o, ea, e1⟩ := HC.out wr HT.out.1 j hjn
      subst ea
      have d0 : wr.cell? ⟨w.heap.size, 0, none⟩ = some (.slice a nv cap) := by rw [cell_of_row _ _ _ _ _ _ HT.out.2.2]; rfl
      have d1 : wr.cell? ⟨w.heap.size, 1, none⟩ = some (.slice a1 n1 c1) := by rw [cell_of_row _ _ _ _ _ _ HT.out.2.2]; rfl
      have d2 : wr.cell? ⟨w.heap.size, 2, none⟩ = some (.slice a2 n2 c2) := by rw [cell_of_row _ _ _ _ _ _ HT.out.2.2]; rfl
      have KV1 := hid (KV.out wr (vars.getD j 0) HT.out.1)
      have HPj := hid (HP.out j hjn)
      generalize vlF vs row (vars.getD j 0) = y at *
      generalize vars.getD j 0 = x at *
      go_wp2_with fail
      refine KV1.out.mono ?_
      rintro e w3 ⟨rfl, hb3⟩
      have HN : Hid (Below w.heap.size w w3 ∧ w3.ownsRow w.heap.size 3 1 vo j ((prjR vs (vars.take j) row).map (Value.int .i64)) ∧ w3.heap[w.heap.size]? = some (.cells #[.slice a nv cap, .slice a1 n1 c1, .slice a2 n2 c2] 41 (0, 0))) := hid ⟨bt HT.out.1 hb3, own_below HT.out.2.1 hb3, (hb3.block _ (World.block_lt_of_cell? wr _ d0)).trans HT.out.2.2⟩
      clear HT hb3 KV1 d0 d1 d2 e1
      have hs3 := HN.out.1.size
      go_wp2_with (first | (at_builtin; refine wpList_append_lies _ rfl _ _ 23 rfl w.heap.size 3 i0 (.int .i64 0) 1 8 Tryz.underlying23 hi hz0 hz1 hz2 rfl (by decide) vo _ _ rfl (HN.out.2.1.alloc _) ⟨_, 0, none⟩ 1 1 [.int .i64 y] rfl rfl (new1_cell _ _ _) (fun u hu => by simp at hu; subst hu; rfl) (by decide) (by unfold maxLen; omega) (by omega) (by simp; omega) _ rfl ?_; intro g3 cp3 w4 hown4 hgrow4 hat4 hlt4) | fail)
      go_roundw
      case rel =>
        refine ⟨j + 1, _, by omega, by go_num, rfl, hid ⟨(HN.out.1.alloc hs3 _).grown hgrow4 (by simp; omega) (fun q hq => (HN.out.2.1.lt q hq).1), by rw [HPj.out]; exact hown4, ?_⟩⟩
        refine ((hgrow4.block _ (by simp; have := World.block_lt_of_cell? w3 ⟨w.heap.size, 0, none⟩ (by rw [cell_of_row _ _ _ _ _ _ HN.out.2.2]; rfl); simp at this; omega) (own_ne HN.out.2.1 ⟨_, HN.out.2.2⟩ (by decide))).trans (Below.heap_alloc _ _ _ ?_)).trans HN.out.2.2
        exact World.block_lt_of_cell? w3 ⟨w.heap.size, 0, none⟩ (by rw [cell_of_row _ _ _ _ _ _ HN.out.2.2]; rfl)
      case measure => simp [intOf]; omega
    · obtain rfl : j = n := by omega
      have i1 : ¬ ((j : Int) < (j : Int)) := by omega
      go_wp2_with fail
      go_ret
      have h2 := HT.out.2.1
      rw [HPn.out] at h2
      exact ⟨_, rfl, h2, HT.out.1⟩

end Go.Proofs.YtnbbbbfamlmfpaaGreat
