import Derived.Deep.RegionWith
import Derived.Test.YtcdfoephhjacdaaGreatDoorR00
namespace Go.Proofs.YtcdfoephhjacdaaGreatDoor
open Go.RowKit

end Go.Proofs.YtcdfoephhjacdaaGreatDoor

/-
  Sets of variables: impl.isVariableSet and spec.l1SetOK answer alike; membership.
-/
namespace Go.Proofs.YtcdfoephhjacdaaGreatDoor
open Go.RowKit

theorem ret_bool {a b : Bool} (h : a = b) : Ending.returned (.bool a) = .returned (.bool b) := by rw [h]

def okAt (l : List Int) (j : Nat) : Bool := decide (0 ≤ l.getD j 0) && decide (l.getD j 0 < 6) && (decide (j = 0) || decide (l.getD (j - 1) 0 < l.getD j 0))
def setB (l : List Int) : Bool := (List.range l.length).all (okAt l)

end Go.Proofs.YtcdfoephhjacdaaGreatDoor

/-
  Membership: spec.l1Has, slices.Index, slices.Contains.
-/
namespace Go.Proofs.YtcdfoephhjacdaaGreatDoor
open Go.RowKit

end Go.Proofs.YtcdfoephhjacdaaGreatDoor

/-
  impl.placesIn: the places of a bag whose variable lies in an edge; a slice that grows.
-/
namespace Go.Proofs.YtcdfoephhjacdaaGreatDoor
open Go.RowKit

theorem Tryz.infoInt : (Tryz.prog.info? 3).map (fun i => (i.zero, i.size, i.bytes)) = some (some (.int .i64 0), 1, 8) := by kernel_rfl

end Go.Proofs.YtcdfoephhjacdaaGreatDoor

/-
  Slices of slices of ints; impl.edgesWith.
-/
namespace Go.Proofs.YtcdfoephhjacdaaGreatDoor
open Go.RowKit

/-- a slice of slices of ints that can be read -/
def ISS (w : World) (v : Value) (ls : List (List Int)) : Prop := ∃ a cap, v = .slice a ls.length cap ∧ (ls.length = 0 ∨ ∃ b o, a = some ⟨b, o, none⟩ ∧ ∀ j, j < ls.length → ∃ u, w.cell? ⟨b, o + j, none⟩ = some u ∧ IS w u (ls.getD j []))

theorem ISS.below {w w' : World} {v : Value} {ls : List (List Int)} (h : ISS w v ls) (hb : Below w.heap.size w w') : ISS w' v ls := by
  obtain ⟨a, cap, rfl, h⟩ := h
  refine ⟨a, cap, rfl, ?_⟩
  rcases h with h | ⟨b, o, rfl, h⟩
  · exact Or.inl h
  · refine Or.inr ⟨b, o, rfl, fun j hj => ?_⟩
    obtain ⟨u, h1, h2⟩ := h j hj
    exact ⟨u, (hb.cell (p := ⟨b, o + j, none⟩) (World.block_lt_of_cell? w _ h1)).trans h1, h2.below hb⟩

/-- all of the lists are short -/
def Short (ls : List (List Int)) : Prop := ls.length ≤ 1099511627776 ∧ ∀ j, (ls.getD j []).length ≤ 1099511627776

end Go.Proofs.YtcdfoephhjacdaaGreatDoor

/-
  laws.szIntSS: how many cells a slice of slices takes.
-/
namespace Go.Proofs.YtcdfoephhjacdaaGreatDoor
open Go.RowKit


end Go.Proofs.YtcdfoephhjacdaaGreatDoor

/-
  laws.toIntSS: a copy of a slice of slices in new memory, every list in a block of its own.
-/
namespace Go.Proofs.YtcdfoephhjacdaaGreatDoor
open Go.RowKit

/-- the first j of n lists have been laid -/
structure Half (w : World) (G n j : Nat) (ls : List (List Int)) (f : Nat → Nat) : Prop where
  cell : ∀ i, i < n → w.cell? ⟨G, i, none⟩ = some (if i < j then .slice (some ⟨f i, 0, none⟩) (ls.getD i []).length (ls.getD i []).length else .slice none 0 0)
  free : ∀ i, i < n → w.frozen? ⟨G, i, none⟩ = false
  own : ∀ i, i < j → OwnI w (f i) (ls.getD i [])
  gt : ∀ i, i < j → G < f i
  up : ∀ i k, i < k → k < j → f i < f k

theorem Half.step {w w1 : World} {G n j : Nat} {ls : List (List Int)} {f : Nat → Nat} (h : Half w G n j ls f) (hj : j < n) (hG : G < w.heap.size)
    (ho : OwnI w1 w.heap.size (ls.getD j [])) (hb : Below w.heap.size w w1) :
    Half (w1.setCell ⟨G, j, none⟩ (.slice (some ⟨w.heap.size, 0, none⟩) (ls.getD j []).length (ls.getD j []).length)) G n (j + 1) ls (fun i => if i = j then w.heap.size else f i) := by
  have hc : ∀ i, i < n → w1.cell? ⟨G, i, none⟩ = some (if i < j then .slice (some ⟨f i, 0, none⟩) (ls.getD i []).length (ls.getD i []).length else .slice none 0 0) :=
    fun i hi => (hb.cell (p := ⟨G, i, none⟩) hG).trans (h.cell i hi)
  have hsz : ∀ (a : Addr) (v : Value), (w1.setCell a v).heap.size = w1.heap.size := fun a v => by simp [World.setCell]
  refine ⟨fun i hi => ?_, fun i hi => ?_, fun i hi => ?_, fun i hi => ?_, fun i k hik hk => ?_⟩
  · by_cases e : i = j
    · subst e
      rw [if_pos (by omega), if_pos rfl]
      exact World.cell?_setCell_same _ _ _ (hc i hi)
    · rw [World.cell?_setCell_other _ _ _ _ (by intro e2; simp only [Addr.mk.injEq] at e2; omega), hc i hi, if_neg e]
      by_cases e2 : i < j
      · rw [if_pos e2, if_pos (by omega)]
      · rw [if_neg e2, if_neg (by omega)]
  · rw [World.frozen?_setCell]
    exact (World.frozen?_of_block (w := w) (a := ⟨G, i, none⟩) (hb.block G hG)).trans (h.free i hi)
  · by_cases e : i = j
    · subst e
      rw [if_pos rfl]
      exact ho.move (Below.heap_setCell _ _ _ _ (by show w.heap.size ≠ G; omega)) (by rw [hsz]; exact Nat.le_refl _)
    · rw [if_neg e]
      have hgt := h.gt i (by omega)
      exact ((h.own i (by omega)).below hb).move (Below.heap_setCell _ _ _ _ (by show f i ≠ G; omega)) (by rw [hsz]; exact Nat.le_refl _)
  · show G < (if i = j then w.heap.size else f i)
    by_cases e : i = j
    · rw [if_pos e]; exact hG
    · rw [if_neg e]; exact h.gt i (by omega)
  · show (if i = j then w.heap.size else f i) < (if k = j then w.heap.size else f k)
    rw [if_neg (by omega)]
    by_cases e : k = j
    · rw [if_pos e]; exact (h.own i (by omega)).lt
    · rw [if_neg e]; exact h.up i k hik (by omega)

end Go.Proofs.YtcdfoephhjacdaaGreatDoor

/-
  laws.eqIntS, laws.eqIntSS at lists alike: they only draw.
-/
namespace Go.Proofs.YtcdfoephhjacdaaGreatDoor
open Go.RowKit

theorem drewN_step {w wr : World} (k : Nat) (h : ∃ m, wr = w.drewN m) : ∃ m, wr.drewN k = w.drewN m := by
  obtain ⟨m, rfl⟩ := h
  exact ⟨m + k, World.drewN_drewN _ _ _⟩

theorem IS.drewN {w : World} {v : Value} {l : List Int} (h : IS w v l) (m : Nat) : IS (w.drewN m) v l := h

end Go.Proofs.YtcdfoephhjacdaaGreatDoor

/-
  Lists in order: cmp.Compare, slices.Compare, spec.l2Compare.
-/
namespace Go.Proofs.YtcdfoephhjacdaaGreatDoor
open Go.RowKit

def cmpL : List Int → List Int → Int
  | [], [] => 0
  | [], _ :: _ => -1
  | _ :: _, [] => 1
  | x :: a, y :: b => if x < y then -1 else if y < x then 1 else cmpL a b

theorem drop_getD {l : List Int} {j : Nat} (h : j < l.length) : l.drop j = l.getD j 0 :: l.drop (j + 1) := by
  rw [List.getD_eq_getElem?_getD, List.getElem?_eq_getElem h]
  exact List.drop_eq_getElem_cons h

theorem cmpL_drop (a b : List Int) : ∀ j, j ≤ a.length → j ≤ b.length → (∀ i, i < j → a.getD i 0 = b.getD i 0) → cmpL a b = cmpL (a.drop j) (b.drop j) := by
  intro j
  induction j with
  | zero => intros; simp
  | succ j ih =>
    intro h1 h2 h3
    rw [ih (by omega) (by omega) (fun i hi => h3 i (by omega)), drop_getD (show j < a.length by omega), drop_getD (show j < b.length by omega), h3 j (by omega)]
    simp [cmpL]

theorem cmpL_lt {a b : List Int} {j : Nat} (h1 : j < a.length) (h2 : j < b.length) (h3 : ∀ i, i < j → a.getD i 0 = b.getD i 0) (h4 : a.getD j 0 < b.getD j 0) : cmpL a b = -1 := by
  rw [cmpL_drop a b j (by omega) (by omega) h3, drop_getD h1, drop_getD h2]
  simp only [cmpL]
  rw [if_pos h4]

theorem cmpL_gt {a b : List Int} {j : Nat} (h1 : j < a.length) (h2 : j < b.length) (h3 : ∀ i, i < j → a.getD i 0 = b.getD i 0) (h4 : b.getD j 0 < a.getD j 0) : cmpL a b = 1 := by
  rw [cmpL_drop a b j (by omega) (by omega) h3, drop_getD h1, drop_getD h2]
  simp only [cmpL]
  rw [if_neg (by omega), if_pos h4]

theorem cmpL_short {a b : List Int} (h2 : a.length < b.length) (h3 : ∀ i, i < a.length → a.getD i 0 = b.getD i 0) : cmpL a b = -1 := by
  rw [cmpL_drop a b a.length (by omega) (by omega) h3, drop_getD h2, List.drop_length]
  rfl

theorem cmpL_long {a b : List Int} (h2 : b.length < a.length) (h3 : ∀ i, i < b.length → a.getD i 0 = b.getD i 0) : cmpL a b = 1 := by
  rw [cmpL_drop a b b.length (by omega) (by omega) h3, drop_getD h2, List.drop_length]
  rfl

theorem cmpL_same {a b : List Int} (h2 : a.length = b.length) (h3 : ∀ i, i < a.length → a.getD i 0 = b.getD i 0) : cmpL a b = 0 := by
  rw [cmpL_drop a b a.length (by omega) (by omega) h3, List.drop_length, h2, List.drop_length]
  rfl

def cmpI (x y : Int) : Int := if x < y then -1 else if y < x then 1 else 0

set_option maxHeartbeats 400000 in
theorem cmpInt_calls (w : World) (x y : Int) :
    Calls Tryz.prog 120 #[.int .i64 x, .int .i64 y] w fun e w' => e = .returned (.int .i64 (cmpI x y)) ∧ w' = w := by
  have hx : (x != x) = false := by simp
  have hy : (y != y) = false := by simp
  unfold cmpI
  by_cases h1 : x < y
  · rw [if_pos h1]
    go_enter Tryz.func120, Tryz.ntmps120
    go_wp2
    go_ret
    exact ⟨rfl, rfl⟩
  · rw [if_neg h1]
    by_cases h2 : y < x
    · rw [if_pos h2]
      go_enter Tryz.func120, Tryz.ntmps120
      go_wp2
      go_ret
      exact ⟨rfl, rfl⟩
    · rw [if_neg h2]
      go_enter Tryz.func120, Tryz.ntmps120
      go_wp2
      go_ret
      exact ⟨rfl, rfl⟩

end Go.Proofs.YtcdfoephhjacdaaGreatDoor

/-
  Lists in order: slices.Compare, spec.l2Compare.
-/
namespace Go.Proofs.YtcdfoephhjacdaaGreatDoor
open Go.RowKit

theorem agree_step {la lb : List Int} {j : Nat} (h : ∀ i, i < j → la.getD i 0 = lb.getD i 0) (e : la.getD j 0 = lb.getD j 0) : ∀ i, i < j + 1 → la.getD i 0 = lb.getD i 0 := fun i hi => by
  by_cases e2 : i = j
  · rw [e2]; exact e
  · exact h i (by omega)

set_option maxHeartbeats 2000000 in
set_option maxRecDepth 1000000 in
theorem sCompare_calls (w : World) (va vb : Value) (la lb : List Int) (ha : IS w va la) (hb : IS w vb lb) (hl : la.length ≤ 1099511627776) (hl2 : lb.length ≤ 1099511627776) :
    Calls Tryz.prog 98 #[va, vb] w fun e w' => e = .returned (.int .i64 (cmpL la lb)) ∧ w' = w := by
  obtain ⟨a, cap, rfl, hc⟩ := ha
  obtain ⟨a', cap', rfl, hc'⟩ := hb
  obtain ⟨n, hn⟩ : ∃ n, n = la.length := ⟨_, rfl⟩
  obtain ⟨m, hm⟩ : ∃ m, m = lb.length := ⟨_, rfl⟩
  obtain ⟨res, hres⟩ : ∃ r, r = cmpL la lb := ⟨_, rfl⟩
  rw [← hres]
  rw [← hn] at hc hl ⊢
  rw [← hm] at hc' hl2 ⊢
  have HR := hid hres
  have HC := hid hc
  have HC' := hid hc'
  have HN := hid hn
  have HM := hid hm
  clear hc hc' hn hm hres
  go_enter Tryz.func98, Tryz.ntmps98
  go_wp2
  go_loop [11] (fun t => ∃ j : Nat, j ≤ n ∧ j ≤ m ∧ t = .int .i64 j ∧ Hid (∀ i, i < j → la.getD i 0 = lb.getD i 0)) (fun t => n - (intOf t).toNat)
  case atStart => exact ⟨0, Nat.zero_le _, Nat.zero_le _, rfl, hid (fun i hi => by omega)⟩
  case round =>
    obtain ⟨j, hj, hjm, rfl, hok⟩ := hrel
    by_cases hjn : j < n
    · have i1 : (j : Int) < (n : Int) := by omega
      rcases HC.out with h0 | ⟨b, o, rfl, hcell⟩
      · omega
      · have c1 : w.cell? ⟨b, o + j, none⟩ = some (.int .i64 (la.getD j 0)) := hcell j hjn
        by_cases hjm' : j < m
        · have i2 : ¬ ((m : Int) ≤ (j : Int)) := by omega
          rcases HC'.out with h0 | ⟨b', o', rfl, hcell'⟩
          · omega
          · have c2 : w.cell? ⟨b', o' + j, none⟩ = some (.int .i64 (lb.getD j 0)) := hcell' j hjm'
            have HK := hid (cmpInt_calls w (la.getD j 0) (lb.getD j 0))
            have f1 : la.getD j 0 < lb.getD j 0 → Hid (res = -1) := fun e => HR.out.trans (cmpL_lt (by rw [← HN.out]; exact hjn) (by rw [← HM.out]; exact hjm') hok.out e)
            have f2 : lb.getD j 0 < la.getD j 0 → Hid (res = 1) := fun e => HR.out.trans (cmpL_gt (by rw [← HN.out]; exact hjn) (by rw [← HM.out]; exact hjm') hok.out e)
            have f3 : la.getD j 0 = lb.getD j 0 → Hid (∀ i, i < j + 1 → la.getD i 0 = lb.getD i 0) := agree_step hok.out
            clear hcell hcell' hok
            unfold cmpI at HK
            generalize la.getD j 0 = x at *
            generalize lb.getD j 0 = y at *
            by_cases h1 : x < y
            · have hf := f1 h1
              rw [if_pos h1] at HK
              clear f1 f2 f3
              go_wp2_with (first | (go_at_call 120; refine HK.out.mono ?_; rintro e w' ⟨rfl, hw'⟩; subst w'))
              go_ret
              exact ⟨ret_int hf.out.symm, rfl⟩
            · by_cases h2 : y < x
              · have hf := f2 h2
                rw [if_neg h1, if_pos h2] at HK
                clear f1 f2 f3
                go_wp2_with (first | (go_at_call 120; refine HK.out.mono ?_; rintro e w' ⟨rfl, hw'⟩; subst w'))
                go_ret
                exact ⟨ret_int hf.out.symm, rfl⟩
              · have hf := f3 (by omega)
                rw [if_neg h1, if_neg h2] at HK
                clear f1 f2 f3
                go_wp2_with (first | (go_at_call 120; refine HK.out.mono ?_; rintro e w' ⟨rfl, hw'⟩; subst w'))
                go_round
                case rel => exact ⟨j + 1, by omega, by omega, by go_num, hf⟩
                case measure => simp [intOf]; omega
        · have i2 : (m : Int) ≤ (j : Int) := by omega
          obtain rfl : j = m := by omega
          have hf : Hid (res = 1) := HR.out.trans (cmpL_long (by rw [← HN.out, ← HM.out]; exact hjn) (by rw [← HM.out]; exact hok.out))
          clear hcell hok
          go_wp2
          go_ret
          exact ⟨ret_int hf.out.symm, rfl⟩
    · obtain rfl : j = n := by omega
      have i1 : ¬ ((j : Int) < (j : Int)) := by omega
      by_cases hjm' : j < m
      · have i2 : (j : Int) < (m : Int) := by omega
        have hf : Hid (res = -1) := HR.out.trans (cmpL_short (by rw [← HN.out, ← HM.out]; exact hjm') (by rw [← HN.out]; exact hok.out))
        clear hok
        go_wp2
        go_ret
        exact ⟨ret_int hf.out.symm, rfl⟩
      · have i2 : ¬ ((j : Int) < (m : Int)) := by omega
        have hf : Hid (res = 0) := HR.out.trans (cmpL_same (by rw [← HN.out, ← HM.out]; omega) (by rw [← HN.out]; exact hok.out))
        clear hok
        go_wp2
        go_ret
        exact ⟨ret_int hf.out.symm, rfl⟩

set_option maxHeartbeats 2000000 in
set_option maxRecDepth 1000000 in
theorem l2Compare_calls (w : World) (va vb : Value) (la lb : List Int) (ha : IS w va la) (hb : IS w vb lb) (hl : la.length ≤ 1099511627776) (hl2 : lb.length ≤ 1099511627776) :
    Calls Tryz.prog 87 #[va, vb] w fun e w' => e = .returned (.int .i64 (cmpL la lb)) ∧ ∃ q, w' = w.drewN q := by
  obtain ⟨a, cap, rfl, hc⟩ := ha
  obtain ⟨a', cap', rfl, hc'⟩ := hb
  obtain ⟨n, hn⟩ : ∃ n, n = la.length := ⟨_, rfl⟩
  obtain ⟨m, hm⟩ : ∃ m, m = lb.length := ⟨_, rfl⟩
  obtain ⟨res, hres⟩ : ∃ r, r = cmpL la lb := ⟨_, rfl⟩
  rw [← hres]
  rw [← hn] at hc hl ⊢
  rw [← hm] at hc' hl2 ⊢
  have HR := hid hres
  have HC := hid hc
  have HC' := hid hc'
  have HN := hid hn
  have HM := hid hm
  clear hc hc' hn hm hres
  go_enter Tryz.func87, Tryz.ntmps87
  go_wp2
  go_loopw [5] (fun t wr => ∃ j : Nat, j ≤ n ∧ j ≤ m ∧ t = .int .i64 j ∧ Hid (∃ q, wr = w.drewN q) ∧ Hid (∀ i, i < j → la.getD i 0 = lb.getD i 0)) (fun t _ => n - (intOf t).toNat)
  case atStart => exact ⟨0, Nat.zero_le _, Nat.zero_le _, rfl, hid ⟨0, rfl⟩, hid (fun i hi => by omega)⟩
  case round =>
    obtain ⟨j, hj, hjm, rfl, hB, hok⟩ := hrel
    by_cases hjn : j < n
    · have i1 : (j : Int) < (n : Int) := by omega
      by_cases hjm' : j < m
      · have i2 : (j : Int) < (m : Int) := by omega
        rcases HC.out with h0 | ⟨b, o, rfl, hcell⟩
        · omega
        · have c1 : wr.cell? ⟨b, o + j, none⟩ = some (.int .i64 (la.getD j 0)) := by obtain ⟨m, rfl⟩ := hB.out; exact hcell j hjn
          rcases HC'.out with h0 | ⟨b', o', rfl, hcell'⟩
          · omega
          · have c2 : wr.cell? ⟨b', o' + j, none⟩ = some (.int .i64 (lb.getD j 0)) := by obtain ⟨m, rfl⟩ := hB.out; exact hcell' j hjm'
            have f1 : la.getD j 0 < lb.getD j 0 → Hid (res = -1) := fun e => HR.out.trans (cmpL_lt (by rw [← HN.out]; exact hjn) (by rw [← HM.out]; exact hjm') hok.out e)
            have f2 : lb.getD j 0 < la.getD j 0 → Hid (res = 1) := fun e => HR.out.trans (cmpL_gt (by rw [← HN.out]; exact hjn) (by rw [← HM.out]; exact hjm') hok.out e)
            have f3 : la.getD j 0 = lb.getD j 0 → Hid (∀ i, i < j + 1 → la.getD i 0 = lb.getD i 0) := agree_step hok.out
            clear hcell hcell' hok
            generalize la.getD j 0 = x at *
            generalize lb.getD j 0 = y at *
            by_cases h1 : x < y
            · have hf := f1 h1
              clear f1 f2 f3
              go_wp2_with fail
              go_quiet (fail)
              go_wp2
              go_ret
              exact ⟨ret_int hf.out.symm, drewN_step _ hB.out⟩
            · by_cases h2 : y < x
              · have hf := f2 h2
                clear f1 f2 f3
                go_wp2_with fail
                go_quiet (fail)
                go_wp2_with fail
                go_quiet (fail)
                go_wp2
                go_ret
                exact ⟨ret_int hf.out.symm, drewN_step _ (drewN_step _ hB.out)⟩
              · have hf := f3 (by omega)
                clear f1 f2 f3
                go_wp2_with fail
                go_quiet (fail)
                go_wp2_with fail
                go_quiet (fail)
                go_wp2
                go_roundw
                case rel => exact ⟨j + 1, by omega, by omega, by go_num, hid (drewN_step _ hB.out), hf⟩
                case measure => simp [intOf]; omega
      · obtain rfl : j = m := by omega
        have i2 : ¬ ((j : Int) < (j : Int)) := by omega
        have i3 : ¬ ((n : Int) = (j : Int)) := by omega
        have i4 : ¬ ((n : Int) < (j : Int)) := by omega
        have hf : Hid (res = 1) := HR.out.trans (cmpL_long (by rw [← HN.out, ← HM.out]; exact hjn) (by rw [← HM.out]; exact hok.out))
        clear hok
        go_wp2
        go_ret
        exact ⟨ret_int hf.out.symm, hB.out⟩
    · obtain rfl : j = n := by omega
      have i1 : ¬ ((j : Int) < (j : Int)) := by omega
      by_cases hjm' : j < m
      · have i2 : (j : Int) < (m : Int) := by omega
        have i3 : ¬ ((j : Int) = (m : Int)) := by omega
        have hf : Hid (res = -1) := HR.out.trans (cmpL_short (by rw [← HN.out, ← HM.out]; exact hjm') (by rw [← HN.out]; exact hok.out))
        clear hok
        go_wp2
        go_ret
        exact ⟨ret_int hf.out.symm, hB.out⟩
      · obtain rfl : j = m := by omega
        have hf : Hid (res = 0) := HR.out.trans (cmpL_same (by rw [← HN.out, ← HM.out]) (by rw [← HN.out]; exact hok.out))
        clear hok
        go_wp2
        go_ret
        exact ⟨ret_int hf.out.symm, hB.out⟩

end Go.Proofs.YtcdfoephhjacdaaGreatDoor

/-
  Sorted rows: impl.areSortedRows, spec.l2SortedRows.
-/
namespace Go.Proofs.YtcdfoephhjacdaaGreatDoor
open Go.RowKit

def rowAt (rows : List (List Int)) (q : Int) (j : Nat) : Bool := decide (((rows.getD j []).length : Int) = q) && (decide (j = 0) || decide (cmpL (rows.getD (j - 1) []) (rows.getD j []) < 0))
def rowsB (rows : List (List Int)) (q : Int) : Bool := (List.range rows.length).all (rowAt rows q)

theorem rowsB_true {rows : List (List Int)} {q : Int} (h : ∀ i, i < rows.length → rowAt rows q i = true) : rowsB rows q = true := by
  unfold rowsB
  rw [List.all_eq_true]
  intro i hi
  exact h i (by simpa using hi)

theorem rowsB_false {rows : List (List Int)} {q : Int} {j : Nat} (hj : j < rows.length) (h : rowAt rows q j = false) : rowsB rows q = false := by
  unfold rowsB
  rw [List.all_eq_false]
  exact ⟨j, by simpa using hj, by rw [h]; decide⟩

theorem rowAt_cases (rows : List (List Int)) (q : Int) (j : Nat) :
    (((rows.getD j []).length : Int) ≠ q ∧ rowAt rows q j = false) ∨ (((rows.getD j []).length : Int) = q ∧ j = 0 ∧ rowAt rows q j = true) ∨
    (((rows.getD j []).length : Int) = q ∧ 0 < j ∧ 0 ≤ cmpL (rows.getD (j - 1) []) (rows.getD j []) ∧ rowAt rows q j = false) ∨ (((rows.getD j []).length : Int) = q ∧ 0 < j ∧ cmpL (rows.getD (j - 1) []) (rows.getD j []) < 0 ∧ rowAt rows q j = true) := by
  unfold rowAt
  generalize ((rows.getD j []).length : Int) = x
  generalize cmpL (rows.getD (j - 1) []) (rows.getD j []) = y
  by_cases h1 : x = q
  · right
    by_cases h3 : j = 0
    · left; refine ⟨h1, h3, ?_⟩; simp [h3, h1]
    · right
      by_cases h4 : y < 0
      · right; refine ⟨h1, by omega, h4, ?_⟩; simp [h1]; omega
      · left; refine ⟨h1, by omega, by omega, ?_⟩; simp [h1]; omega
  · left; exact ⟨h1, by simp [h1]⟩

set_option maxHeartbeats 2000000 in
set_option maxRecDepth 1000000 in
theorem areSortedRows_calls (w : World) (vr : Value) (rows : List (List Int)) (q : Int) (h : ISS w vr rows) (hl : Short rows) :
    Calls Tryz.prog 71 #[vr, .int .i64 q] w fun e w' => e = .returned (.bool (rowsB rows q)) ∧ w' = w := by
  obtain ⟨a, cap, rfl, hc⟩ := h
  obtain ⟨hl1, hl2⟩ := hl
  obtain ⟨n, hn⟩ : ∃ n, n = rows.length := ⟨_, rfl⟩
  obtain ⟨res, hres⟩ : ∃ r, r = rowsB rows q := ⟨_, rfl⟩
  rw [← hres]
  rw [← hn] at hc hl1 ⊢
  have HR := hid hres
  have HC := hid hc
  have HN := hid hn
  have HL := hid hl2
  clear hc hn hres hl2
  go_enter Tryz.func71, Tryz.ntmps71
  go_wp2
  go_loop [9] (fun t => ∃ j : Nat, j ≤ n ∧ t = .int .i64 j ∧ Hid (∀ i, i < j → rowAt rows q i = true)) (fun t => n - (intOf t).toNat)
  case atStart => exact ⟨0, Nat.zero_le _, rfl, hid (fun i hi => by omega)⟩
  case round =>
    obtain ⟨j, hj, rfl, hok⟩ := hrel
    by_cases hjn : j < n
    · have i1 : (j : Int) < (n : Int) := by omega
      rcases HC.out with h0 | ⟨b, o, rfl, hcell⟩
      · omega
      · obtain ⟨u, c1, hu⟩ := hcell j hjn
        have hcs := rowAt_cases rows q j
        have fin : rowAt rows q j = false → Hid (res = false) := fun e => HR.out.trans (rowsB_false (by rw [← HN.out]; exact hjn) e)
        have nxt : rowAt rows q j = true → Hid (∀ i, i < j + 1 → rowAt rows q i = true) := fun e i hi => by
          by_cases e2 : i = j
          · rw [e2]; exact e
          · exact hok.out i (by omega)
        have hp : 0 < j → ∃ u', w.cell? ⟨b, o + (j - 1), none⟩ = some u' ∧ IS w u' (rows.getD (j - 1) []) := fun e => hcell (j - 1) (by omega)
        have HU := hid hu
        have hm := HL.out j
        obtain ⟨a1, cap1, rfl, -⟩ := hu
        clear hcell hok
        rcases hcs with ⟨h1, h2⟩ | ⟨h1, h2, h3⟩ | ⟨h1, h2, h3, h4⟩ | ⟨h1, h2, h3, h4⟩
        · have hf := fin h2
          clear hp fin nxt h2
          generalize (rows.getD j []).length = m at *
          go_wp2
          go_ret
          exact ⟨ret_bool (by rw [hf.out]), rfl⟩
        · have hf := nxt h3
          subst h2
          have c1' : w.cell? ⟨b, o, none⟩ = some (.slice a1 (rows.getD 0 []).length cap1) := by simpa using c1
          clear hp fin nxt h3 HU
          generalize (rows.getD 0 []).length = m at *
          subst h1
          go_wp2
          go_round
          case rel => exact ⟨0 + 1, by omega, by go_num, hf⟩
          case measure => simp [intOf]; omega
        · have hf := fin h4
          obtain ⟨u', c2, hu'⟩ := hp h2
          have HK := hid (sCompare_calls w u' _ (rows.getD (j - 1) []) (rows.getD j []) hu' HU.out (HL.out (j - 1)) hm)
          obtain ⟨a2, cap2, rfl, -⟩ := hu'
          have i3 : (0 : Int) < (j : Int) := by omega
          have i4 : ((j : Int) - 1).toNat = j - 1 := by omega
          clear hp fin nxt h4 HU
          generalize cmpL (rows.getD (j - 1) []) (rows.getD j []) = y at *
          generalize (rows.getD j []).length = m at *
          generalize (rows.getD (j - 1) []).length = m' at *
          subst h1
          go_wp2_with (first | (go_at_call 98; refine HK.out.mono ?_; rintro e w' ⟨rfl, hw'⟩; subst w'))
          go_ret
          exact ⟨ret_bool (by rw [hf.out]), rfl⟩
        · have hf := nxt h4
          obtain ⟨u', c2, hu'⟩ := hp h2
          have HK := hid (sCompare_calls w u' _ (rows.getD (j - 1) []) (rows.getD j []) hu' HU.out (HL.out (j - 1)) hm)
          obtain ⟨a2, cap2, rfl, -⟩ := hu'
          have i3 : (0 : Int) < (j : Int) := by omega
          have i4 : ((j : Int) - 1).toNat = j - 1 := by omega
          clear hp fin nxt h4 HU
          generalize cmpL (rows.getD (j - 1) []) (rows.getD j []) = y at *
          generalize (rows.getD j []).length = m at *
          generalize (rows.getD (j - 1) []).length = m' at *
          subst h1
          have i5 : ¬ (0 ≤ y) := by omega
          go_wp2_with (first | (go_at_call 98; refine HK.out.mono ?_; rintro e w' ⟨rfl, hw'⟩; subst w'))
          go_round
          case rel => exact ⟨j + 1, by omega, by go_num, hf⟩
          case measure => simp [intOf]; omega
    · obtain rfl : j = n := by omega
      have hf : Hid (res = true) := HR.out.trans (rowsB_true (fun i hi => hok.out i (by rw [HN.out]; exact hi)))
      have i1 : ¬ ((j : Int) < (j : Int)) := by omega
      clear hok
      go_wp2
      go_ret
      exact ⟨ret_bool (by rw [hf.out]), rfl⟩

end Go.Proofs.YtcdfoephhjacdaaGreatDoor

/-
  impl.areEdges, impl.inEdges.
-/
namespace Go.Proofs.YtcdfoephhjacdaaGreatDoor
open Go.RowKit

theorem all_getD {α : Type} (p : α → Bool) (d : α) (l : List α) (h : ∀ i, i < l.length → p (l.getD i d) = true) : l.all p = true := by
  rw [List.all_eq_true]
  intro x hx
  obtain ⟨j, hj, e⟩ := List.getElem_of_mem hx
  have := h j hj
  rw [List.getD_eq_getElem?_getD, List.getElem?_eq_getElem hj] at this
  rw [← e]; exact this

theorem all_getD_false {α : Type} (p : α → Bool) (d : α) (l : List α) (j : Nat) (hj : j < l.length) (h : p (l.getD j d) = false) : l.all p = false := by
  rw [List.all_eq_false]
  rw [List.getD_eq_getElem?_getD, List.getElem?_eq_getElem hj] at h
  exact ⟨_, List.getElem_mem hj, by simpa using h⟩

end Go.Proofs.YtcdfoephhjacdaaGreatDoor

/-
  spec.l1Zeros: n zeros.
-/
namespace Go.Proofs.YtcdfoephhjacdaaGreatDoor
open Go.RowKit

def zs (k : Nat) : List Value := (List.replicate k [Value.int .i64 0, Value.int .i64 1]).flatten
end Go.Proofs.YtcdfoephhjacdaaGreatDoor

/-
  impl.ratsOf: fractions as Rats.
-/
namespace Go.Proofs.YtcdfoephhjacdaaGreatDoor
open Go.RowKit

theorem own_below {B n s : Nat} {e : TypeId} {w w' : World} {v : Value} {xs : List Value} (h : w.ownsRow B e s v n xs) (hb : Below w.heap.size w w') : w'.ownsRow B e s v n xs := by
  obtain ⟨h1, h2⟩ := h
  refine ⟨h1, ?_⟩
  rcases h2 with h2 | ⟨g, cap, cur, hv, hg, hc, hr⟩
  · exact Or.inl h2
  · refine Or.inr ⟨g, cap, cur, hv, hg, ?_, hr⟩
    rw [hb.block g (by
      rcases Nat.lt_or_ge g w.heap.size with h3 | h3
      · exact h3
      · rw [Array.getElem?_eq_none h3] at hc; cases hc)]
    exact hc

end Go.Proofs.YtcdfoephhjacdaaGreatDoor
