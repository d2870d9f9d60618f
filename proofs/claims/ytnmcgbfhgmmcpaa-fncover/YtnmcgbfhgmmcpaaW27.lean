import Derived.Deep.RegionLaw
import Derived.Test.YtnmcgbfhgmmcpaaW05
import Derived.Test.YtnmcgbfhgmmcpaaW26
namespace Go.Proofs.Ytnmcgbfhgmmcpaa
open Go.RowKit

theorem two_alloc (w : World) (x y : Int) (t : TypeId) : Two (w.alloc (.cells #[.int .i64 x, .int .i64 y] t)) w.heap.size x y :=
  ⟨by rw [World.cell?_alloc_at _ _ _ _ rfl]; rfl, by rw [World.cell?_alloc_at _ _ _ _ rfl]; rfl, World.frozen?_alloc_at _ _ _ _ rfl, World.frozen?_alloc_at _ _ _ _ rfl⟩

set_option maxHeartbeats 2000000 in
set_option maxRecDepth 100000 in
theorem l1Meets_calls (w : World) (vx u : Value) (n : Nat) (d : Dem) (x : Nat → Rat) (hx : IR w vx (prs n x)) (hu : IntsAt w u d.pl) (hd : DemOk n d) (hp : Parts n x) :
    Calls Try.prog 84 #[vx, .agg #[u, .bool d.up, .int .i64 d.bd]] w fun e w' => e = .returned (.bool (metB n d x)) ∧ Below w.heap.size w w' := by
  obtain ⟨a, cap, rfl, hcx⟩ := hx
  obtain ⟨a2, cap2, rfl, hcu⟩ := hu
  rw [prs_length] at hcx ⊢
  obtain ⟨m, hm⟩ : ∃ m, m = d.pl.length := ⟨_, rfl⟩
  have hm7 : m ≤ 7 := by rw [hm]; exact hd.len
  rw [← hm] at hcu ⊢
  have HCX := hid hcx
  have HCU := hid hcu
  have HD := hid hd
  have HP := hid hp
  have HM := hid hm
  have hbd : -1 ≤ d.bd ∧ d.bd ≤ 1 := by rcases hd.bd with h | h <;> omega
  have HL : Hid (lsum d.pl x m = d.dm.at n x) := hid (by rw [hm]; exact lsum_dm x hd)
  clear hcx hcu hd hp hm
  have hA0 : ArrAt (w.alloc (.cells #[.slice a2 m cap2, .bool d.up, .int .i64 d.bd] 71)) w.heap.size 3 (f3 (.slice a2 m cap2) (.bool d.up) (.int .i64 d.bd)) := arrAt_alloc w 3 (f3 (.slice a2 m cap2) (.bool d.up) (.int .i64 d.bd)) 71
  have hb0 : Below w.heap.size w (w.alloc (.cells #[.slice a2 m cap2, .bool d.up, .int .i64 d.bd] 71)) := (Below.refl _ _).alloc (Nat.le_refl _) _
  have hz0 : (w.alloc (.cells #[.slice a2 m cap2, .bool d.up, .int .i64 d.bd] 71)).heap.size = w.heap.size + 1 := by simp
  go_enter Try.func84, Try.ntmps84
  go_upto_region 2 with fail
  have hA1 := hA0.alloc (by omega) (.cells #[.int .i64 0, .int .i64 1] 28)
  have hb1 := hb0.alloc hb0.size (.cells #[.int .i64 0, .int .i64 1] 28)
  have ht1 := two_alloc (w.alloc (.cells #[.slice a2 m cap2, .bool d.up, .int .i64 d.bd] 71)) 0 1 28
  rw [hz0] at ht1
  generalize (w.alloc (.cells #[.slice a2 m cap2, .bool d.up, .int .i64 d.bd] 71)).alloc (.cells #[.int .i64 0, .int .i64 1] 28) = W at *
  obtain ⟨p0, p1, p2⟩ := hA1.three
  have HX := hid (And.intro hA1 (And.intro hb1 ht1))
  clear hA0 hb0 hz0 hA1 hb1 ht1
  go_wp2
  go_loopw [13] (fun t wr => ∃ k : Nat, k ≤ m ∧ t = .int .i64 k ∧ Hid (ArrAt wr w.heap.size 3 (f3 (.slice a2 m cap2) (.bool d.up) (.int .i64 d.bd)) ∧ Below w.heap.size w wr ∧ Two wr (w.heap.size + 1) (lsum d.pl x k).num (lsum d.pl x k).den)) (fun t _ => m - (intOf t).toNat)
  case atStart => exact ⟨0, Nat.zero_le _, rfl, HX⟩
  case round =>
    clear HX p0 p1 p2
    obtain ⟨k, hk, rfl, hH⟩ := hrel
    by_cases hkm : k < m
    · have i1 : (k : Int) < (m : Int) := by omega
      obtain ⟨b, o, rfl, hy⟩ := HCU.out k hkm
      have hkl : k < d.pl.length := by rw [← HM.out]; exact hkm
      have hmem : d.pl.getD k 0 ∈ d.pl := by
        rw [List.getD_eq_getElem?_getD, List.getElem?_eq_getElem hkl]
        exact List.getElem_mem _
      have hjn := HD.out.lt _ hmem
      have HS1 : Hid (Sm 36000 (lsum d.pl x k)) := hid (HP.out.lsum HD.out (by omega))
      have HSN : Hid (lsum d.pl x (k + 1) = lsum d.pl x k + x (d.pl.getD k 0)) := hid rfl
      obtain ⟨j, hj⟩ : ∃ j, j = d.pl.getD k 0 := ⟨_, rfl⟩
      rw [← hj] at hy hjn HSN
      have HS2 : Hid (Sm 5040 (x j)) := hid (HP.out.sm hjn)
      have cy : wr.cell? ⟨b, o + k, none⟩ = some (.int .i64 (j : Nat)) := (hH.out.2.1.cell (p := ⟨b, o + k, none⟩) (World.block_lt_of_cell? w _ hy)).trans hy
      rcases HCX.out with h0 | ⟨b2, o2, rfl, hcell⟩
      · omega
      · obtain ⟨e1, e2⟩ := hcell j hjn
        rw [prs_get hjn] at e1 e2
        have x1 : wr.cell? ⟨b2, o2 + j * 2, none⟩ = some (.int .i64 (x j).num) := (hH.out.2.1.cell (p := ⟨b2, o2 + j * 2, none⟩) (World.block_lt_of_cell? w _ e1)).trans e1
        have x2 : wr.cell? ⟨b2, o2 + j * 2 + 1, none⟩ = some (.int .i64 (x j).den) := (hH.out.2.1.cell (p := ⟨b2, o2 + j * 2 + 1, none⟩) (World.block_lt_of_cell? w _ e2)).trans e2
        obtain ⟨t1, t2, t3, t4⟩ := hH.out.2.2
        have HX := hH
        have j1 : (j : Int) < (n : Int) := by omega
        clear hH hy e1 e2 hcell hj
        generalize hq : lsum d.pl x k = q at *
        have hgl : w.heap.size + 1 < wr.heap.size := World.block_lt_of_cell? wr _ t1
        go_wp2_with fail
        go_region_law (first | (go_simp; go_at_call 86; refine (splusV q (x j) _ HS1.out HS2.out (by decide)).mono ?_; rintro e w2 ⟨rfl, hb'⟩; have hb := drew_below hb'; have hT := HX.out.2.2.below hgl hb; obtain ⟨s1, s2, s3, s4⟩ := hT))
        all_goals
          have HF : Hid (ArrAt ((w2.setCell ⟨w.heap.size + 1, 0, none⟩ (.int .i64 (q + x j).num)).setCell ⟨w.heap.size + 1, 1, none⟩ (.int .i64 (q + x j).den)) w.heap.size 3 (f3 (.slice (some ⟨b, o, none⟩) m cap2) (.bool d.up) (.int .i64 d.bd)) ∧ Below w.heap.size w ((w2.setCell ⟨w.heap.size + 1, 0, none⟩ (.int .i64 (q + x j).num)).setCell ⟨w.heap.size + 1, 1, none⟩ (.int .i64 (q + x j).den)) ∧ Two ((w2.setCell ⟨w.heap.size + 1, 0, none⟩ (.int .i64 (q + x j).num)).setCell ⟨w.heap.size + 1, 1, none⟩ (.int .i64 (q + x j).den)) (w.heap.size + 1) (lsum d.pl x (k + 1)).num (lsum d.pl x (k + 1)).den) := hid ⟨((HX.out.1.below (by omega) hb).move (Below.heap_setCell _ _ _ _ (by show w.heap.size ≠ w.heap.size + 1; omega))).move (Below.heap_setCell _ _ _ _ (by show w.heap.size ≠ w.heap.size + 1; omega)), ((bt HX.out.2.1 hb).setCell (by show w.heap.size ≤ w.heap.size + 1; omega) _).setCell (by show w.heap.size ≤ w.heap.size + 1; omega) _, by rw [HSN.out]; exact (HX.out.2.2.below hgl hb).set _ _⟩
          clear hb hb' s1 s2 s3 s4
          go_wp2
          go_roundw
          case rel => exact ⟨k + 1, by omega, by go_num, HF⟩
          case measure => simp [intOf]; omega
    · obtain rfl : k = m := by omega
      have i1 : ¬ ((k : Int) < (k : Int)) := by omega
      obtain ⟨p0, p1, p2⟩ := hH.out.1.three
      obtain ⟨t1, t2, -, -⟩ := hH.out.2.2
      rw [HL.out] at t1 t2
      have hS : Sm 36000 (d.dm.at n x) := by rw [← HL.out]; exact HP.out.lsum HD.out (by rw [← HM.out]; exact Nat.le_refl _)
      have HB := hid hH.out.2.1
      have hgl : w.heap.size + 1 < wr.heap.size := World.block_lt_of_cell? wr _ t1
      have hSb : Sm 36000 (((d.bd : Int) : Rat)) := ⟨by show d.bd.natAbs ≤ 36000; omega, by show 1 ≤ 36000; omega⟩
      have hg0 : w.heap.size < wr.heap.size := by omega
      clear hH
      cases hup : d.up
      · rw [hup] at p1
        have HR : Hid (metB n d x = !decide (d.dm.at n x < ((d.bd : Int) : Rat))) := hid (by unfold metB; rw [hup]; rfl)
        have KL : Hid (∀ W, Calls Try.prog 95 #[.agg #[.int .i64 (d.dm.at n x).num, .int .i64 (d.dm.at n x).den], .agg #[.int .i64 d.bd, .int .i64 1]] W fun e w' => e = .returned (.bool (decide (d.dm.at n x < ((d.bd : Int) : Rat)))) ∧ Below W.heap.size W w') := hid (fun W => slessV _ _ W hS hSb (by decide))
        generalize (d.dm.at n x).num = nu at *
        generalize (d.dm.at n x).den = de at *
        go_wp2_with (first | (go_at_call 95; refine (KL.out _).mono ?_; rintro e w2 ⟨rfl, hb'⟩))
        go_ret
        exact ⟨ret_bool HR.out.symm, bt (HB.out.alloc HB.out.size _) hb'⟩
      · rw [hup] at p1
        have HR : Hid (metB n d x = !decide (((d.bd : Int) : Rat) < d.dm.at n x)) := hid (by unfold metB; rw [hup]; rfl)
        have KL : Hid (∀ W, Calls Try.prog 95 #[.agg #[.int .i64 d.bd, .int .i64 1], .agg #[.int .i64 (d.dm.at n x).num, .int .i64 (d.dm.at n x).den]] W fun e w' => e = .returned (.bool (decide (((d.bd : Int) : Rat) < d.dm.at n x))) ∧ Below W.heap.size W w') := hid (fun W => slessV _ _ W hSb hS (by decide))
        generalize (d.dm.at n x).num = nu at *
        generalize (d.dm.at n x).den = de at *
        go_wp2_with (first | (go_at_call 95; refine (KL.out _).mono ?_; rintro e w2 ⟨rfl, hb'⟩))
        go_ret
        exact ⟨ret_bool HR.out.symm, bt (HB.out.alloc HB.out.size _) hb'⟩

end Go.Proofs.Ytnmcgbfhgmmcpaa

/-
  spec.l1Before.
-/
namespace Go.Proofs.Ytnmcgbfhgmmcpaa
open Go.RowKit

/-- strictly before, number by number from place k on; f places are left -/
def numB (x y : Nat → Rat) : Nat → Nat → Bool
  | 0, _ => false
  | f + 1, k => if x k < y k then true else if y k < x k then false else numB x y f (k + 1)

def befB (n : Nat) (most : Bool) (x y : Nat → Rat) : Bool := if Cov.sm n x < Cov.sm n y then !most else if Cov.sm n y < Cov.sm n x then most else numB x y n 0

theorem numB_lex {x y : Nat → Rat} : ∀ (f k : Nat), numB x y f k = true ↔ Cov.Lex ((List.range' k f).map x) ((List.range' k f).map y) ∧ ¬ Cov.Lex ((List.range' k f).map y) ((List.range' k f).map x)
  | 0, k => by
    constructor
    · intro h; cases h
    · rintro ⟨_, h⟩
      exact absurd trivial h
  | f + 1, k => by
    have ih := numB_lex (x := x) (y := y) f (k + 1)
    rw [List.range'_succ, List.map_cons, List.map_cons]
    show (if x k < y k then true else if y k < x k then false else numB x y f (k + 1)) = true ↔ (x k < y k ∨ (x k = y k ∧ Cov.Lex _ _)) ∧ ¬ (y k < x k ∨ (y k = x k ∧ Cov.Lex _ _))
    by_cases h1 : x k < y k
    · rw [if_pos h1]
      refine ⟨fun _ => ⟨Or.inl h1, ?_⟩, fun _ => rfl⟩
      rintro (h | ⟨h, _⟩) <;> grind
    · rw [if_neg h1]
      by_cases h2 : y k < x k
      · rw [if_pos h2]
        refine ⟨(fun h => by cases h), ?_⟩
        rintro ⟨h | ⟨h, _⟩, _⟩ <;> grind
      · rw [if_neg h2, ih]
        have e : x k = y k := by grind
        constructor
        · rintro ⟨h3, h4⟩
          refine ⟨Or.inr ⟨e, h3⟩, ?_⟩
          rintro (h | ⟨_, h⟩)
          · exact h2 h
          · exact h4 h
        · rintro ⟨h3, h4⟩
          refine ⟨?_, fun h => h4 (Or.inr ⟨e.symm, h⟩)⟩
          rcases h3 with h | ⟨_, h⟩
          · exact absurd h h1
          · exact h

def sgnOf (most : Bool) : Rat := if most then -1 else 1

theorem befB_lex {n : Nat} {most : Bool} {x y : Nat → Rat} : befB n most x y = true ↔ Cov.Lex (Cov.key (sgnOf most) n x) (Cov.key (sgnOf most) n y) ∧ ¬ Cov.Lex (Cov.key (sgnOf most) n y) (Cov.key (sgnOf most) n x) := by
  unfold Cov.key
  have hn := numB_lex (x := x) (y := y) n 0
  rw [← List.range_eq_range'] at hn
  show befB n most x y = true ↔ (sgnOf most * Cov.sm n x < sgnOf most * Cov.sm n y ∨ (sgnOf most * Cov.sm n x = sgnOf most * Cov.sm n y ∧ Cov.Lex _ _)) ∧ ¬ (sgnOf most * Cov.sm n y < sgnOf most * Cov.sm n x ∨ (sgnOf most * Cov.sm n y = sgnOf most * Cov.sm n x ∧ Cov.Lex _ _))
  unfold befB
  by_cases h1 : Cov.sm n x < Cov.sm n y
  · rw [if_pos h1]
    cases most
    · have : sgnOf false = 1 := rfl
      rw [this]
      refine ⟨fun _ => ⟨Or.inl (by grind), ?_⟩, fun _ => rfl⟩
      rintro (h | ⟨h, _⟩) <;> grind
    · have : sgnOf true = -1 := rfl
      rw [this]
      refine ⟨(fun h => by cases h), ?_⟩
      rintro ⟨h | ⟨h, _⟩, _⟩ <;> grind
  · rw [if_neg h1]
    by_cases h2 : Cov.sm n y < Cov.sm n x
    · rw [if_pos h2]
      cases most
      · have : sgnOf false = 1 := rfl
        rw [this]
        refine ⟨(fun h => by cases h), ?_⟩
        rintro ⟨h | ⟨h, _⟩, _⟩ <;> grind
      · have : sgnOf true = -1 := rfl
        rw [this]
        refine ⟨fun _ => ⟨Or.inl (by grind), ?_⟩, fun _ => rfl⟩
        rintro (h | ⟨h, _⟩) <;> grind
    · rw [if_neg h2, hn]
      have e : Cov.sm n x = Cov.sm n y := by grind
      rw [e]
      constructor
      · rintro ⟨h3, h4⟩
        refine ⟨Or.inr ⟨rfl, h3⟩, ?_⟩
        rintro (h | ⟨_, h⟩)
        · grind
        · exact h4 h
      · rintro ⟨h3, h4⟩
        refine ⟨?_, fun h => h4 (Or.inr ⟨rfl, h⟩)⟩
        rcases h3 with h | ⟨_, h⟩
        · grind
        · exact h

theorem ssum_best (w : World) (v : Value) (u : Nat) (x : Nat → Rat) (hu : u ≤ 7) (h : IR w v (prs u x)) (hp : Parts u x) :
    Calls Try.prog 40 #[v] w fun e w' => e = .returned (.agg #[.int .i64 (Cov.sm u x).num, .int .i64 (Cov.sm u x).den]) ∧ Below w.heap.size w w' := by
  have := l1Sum_calls w v (prs u x) h (by rw [prs_length]; omega) (fun k => ((Cov.sm k x).num, ((Cov.sm k x).den : Int))) rfl (fun k W hk => by
    rw [prs_length] at hk
    rw [prs_get hk]
    exact splusV (Cov.sm k x) (x k) W (hp.sum (by omega) hu) (hp.sm hk) (by decide))
  rw [prs_length] at this
  exact this

end Go.Proofs.Ytnmcgbfhgmmcpaa

/-
  Plain mathematics of spec.l1Solve and spec.l1Corner.
-/
namespace Go.Proofs.Ytnmcgbfhgmmcpaa
open Go.RowKit

/-- the first rows of the equations -/
def rows0 (n : Nat) (L : List Dem) : Nat → Nat → Rat := fun i j => if j = n then (((L.getD i dem0).bd : Int) : Rat) else if j ∈ (L.getD i dem0).pl then 1 else 0

theorem getD_mem' {α : Type} {l : List α} {i : Nat} {d : α} (h : i < l.length) : l.getD i d ∈ l := by
  rw [List.getD_eq_getElem?_getD, List.getElem?_eq_getElem h]
  exact List.getElem_mem _

theorem rows0_whole {n : Nat} {L : List Dem} (h : ∀ D ∈ L, DemOk n D) {r j : Nat} (hr : r < L.length) : Cov.Whole 1 (rows0 n L r j) := by
  unfold rows0
  split
  · refine ⟨_, rfl, ?_⟩
    rcases (h _ (getD_mem' (d := dem0) hr)).bd with e | e <;> rw [e] <;> decide
  · split
    · exact ⟨1, rfl, by decide⟩
    · exact ⟨0, rfl, by decide⟩

theorem rows0_at {n : Nat} {L : List Dem} (r : Nat) (x : Nat → Rat) : Cov.sm n (fun j => rows0 n L r j * x j) = (L.getD r dem0).dm.at n x :=
  Cov.sm_congr (fun j hj => by unfold rows0; rw [if_neg (by omega)]; rfl)

theorem rows0_bd {n : Nat} {L : List Dem} (r : Nat) : rows0 n L r n = (L.getD r dem0).dm.b := if_pos rfl

section
variable {n c : Nat} {R0 R T : Nat → Nat → Rat} {B s : Nat → Nat} {piv : Nat → Rat}

theorem gj_D (h : Cov.GJ n c R0 R T B s piv) (hw : ∀ j, j ≤ n → ∀ r, r < n → Cov.Whole 1 (R0 r j)) (hn : n ≤ 7) :
    ∃ D : Int, D ≠ 0 ∧ D.natAbs ≤ 5040 ∧ ∀ i, i < n → ∀ j, j ≤ n + n → Cov.Whole 5040 (T i j * D) := by
  obtain ⟨D, h0, hD, hW⟩ := h.inv.small (fun j hj r hr => by
    unfold Cov.solveA
    split
    · exact hw j (by omega) r hr
    · split
      · split
        · exact ⟨1, rfl, by decide⟩
        · exact ⟨0, rfl, by decide⟩
      · exact hw n (Nat.le_refl _) r hr)
  have hf := fac_le hn
  exact ⟨D, h0, by omega, fun i hi j hj => (hW i hi j hj).mono hf⟩

theorem cl_le {n j : Nat} (h : j ≤ n) : Cov.cl n j ≤ n + n := by
  unfold Cov.cl; split <;> omega

theorem gj_T (h : Cov.GJ n c R0 R T B s piv) (hw : ∀ j, j ≤ n → ∀ r, r < n → Cov.Whole 1 (R0 r j)) (hn : n ≤ 7) {i j : Nat} (hi : i < n) (hj : j ≤ n + n) : Sm 5040 (T i j) := by
  obtain ⟨D, h0, hD, hW⟩ := gj_D h hw hn
  exact sm_of_whole h0 hD (hW i hi j hj) (Nat.le_refl _)

theorem gj_piv (h : Cov.GJ n c R0 R T B s piv) (hn : n ≤ 7) {i : Nat} (hi : i < c) : Sm 5040 (piv i) := by
  obtain ⟨D, h0, hD, hW⟩ := h.pivsm i hi
  have hf := fac_le hn
  exact sm_of_whole h0 (by omega) hW hf

theorem gj_row (h : Cov.GJ n c R0 R T B s piv) (hw : ∀ j, j ≤ n → ∀ r, r < n → Cov.Whole 1 (R0 r j)) (hn : n ≤ 7) {p j : Nat} (hc : c ≤ p) (hp : p < n) (hj : j ≤ n) : Sm 5040 (R p j) := by
  rw [h.rowt p hc hp j hj]
  exact gj_T h hw hn (h.lt p hp) (cl_le hj)

theorem gj_all (h : Cov.GJ n c R0 R T B s piv) (hw : ∀ j, j ≤ n → ∀ r, r < n → Cov.Whole 1 (R0 r j)) (hn : n ≤ 7) {i j : Nat} (hi : i < n) (hj : j ≤ n) : Sm 25401600 (R i j) := by
  by_cases hic : i < c
  · rw [h.rowd i hic j hj]
    exact ((gj_piv h hn hic).mul (gj_T h hw hn (h.lt i hi) (cl_le hj))).mono (by decide)
  · exact (gj_row h hw hn (by omega) hi hj).mono (by decide)

theorem gj_f (h : Cov.GJ n c R0 R T B s piv) (hw : ∀ j, j ≤ n → ∀ r, r < n → Cov.Whole 1 (R0 r j)) (hn : n ≤ 7) {p k : Nat} (hcp : c ≤ p) (hp : p < n) (hne : R p c ≠ 0) (hk : k < n) : Sm 25401600 (R k c / R p c) := by
  obtain ⟨D, h0, hD, hW⟩ := gj_D h hw hn
  have hcl : Cov.cl n c = c := if_neg (by omega)
  have e1 : R p c = T (s p) c := by rw [h.rowt p hcp hp c (by omega), hcl]
  have hq : ∀ a, a < n → Sm 5040 (T a c / T (s p) c) := by
    intro a ha
    obtain ⟨z1, e2, b1⟩ := hW a ha c (by omega)
    obtain ⟨z2, e3, b2⟩ := hW (s p) (h.lt p hp) c (by omega)
    have hT : T (s p) c ≠ 0 := by rw [← e1]; exact hne
    have hD' : ((D : Int) : Rat) ≠ 0 := by
      intro e
      exact h0 (by exact_mod_cast e)
    have hz : z2 ≠ 0 := by
      intro e
      rw [e] at e3
      have : T (s p) c * ((D : Int) : Rat) = 0 := e3
      rcases Rat.mul_eq_zero.1 this with e4 | e4
      · exact hT e4
      · exact hD' e4
    refine sm_of_whole (D := z2) hz b2 (Z := 5040) ⟨z1, ?_, b1⟩ (Nat.le_refl _)
    rw [← e2, ← e3]
    grind
  rw [e1]
  by_cases hkc : k < c
  · rw [h.rowd k hkc c (by omega), hcl, show piv k * T (s k) c / T (s p) c = piv k * (T (s k) c / T (s p) c) by grind]
    exact ((gj_piv h hn hkc).mul (hq _ (h.lt k hk))).mono (by decide)
  · rw [h.rowt k (by omega) hk c (by omega), hcl]
    exact (hq _ (h.lt k hk)).mono (by decide)

theorem gj_parts (h : Cov.GJ n c R0 R T B s piv) (hw : ∀ j, j ≤ n → ∀ r, r < n → Cov.Whole 1 (R0 r j)) (hn : n ≤ 7) : Parts n (fun i => T (s i) (n + n)) := by
  obtain ⟨D, h0, hD, hW⟩ := gj_D h hw hn
  exact ⟨D, h0, hD, fun j hj => hW _ (h.lt j hj) _ (Nat.le_refl _)⟩
end

/-- the equations have at most the solution x -/
def Only (n : Nat) (L : List Dem) (x : Nat → Rat) : Prop := ∀ y, (∀ D ∈ L, D.dm.at n y = D.dm.b) → ∀ i, i < n → y i = x i

theorem mem_getD' {α : Type} {L : List α} {D d : α} (h : D ∈ L) : ∃ r, r < L.length ∧ L.getD r d = D := by
  obtain ⟨r, hr, e⟩ := List.mem_iff_getElem.1 h
  exact ⟨r, hr, by rw [List.getD_eq_getElem?_getD, List.getElem?_eq_getElem hr, ← e]; rfl⟩

theorem gj_only {n : Nat} {L : List Dem} {R T : Nat → Nat → Rat} {B s : Nat → Nat} {piv : Nat → Rat} (hL : L.length = n) (h : Cov.GJ n n (rows0 n L) R T B s piv) : Only n L (fun i => T (s i) (n + n)) := by
  intro y hy i hi
  refine (Cov.gj_end h).2 y (fun r hr => ?_) i hi
  rw [rows0_at, rows0_bd]
  exact hy _ (getD_mem' (by omega))

theorem gj_notKern {n c : Nat} {L : List Dem} {R T : Nat → Nat → Rat} {B s : Nat → Nat} {piv : Nat → Rat} (hL : L.length = n) (h : Cov.GJ n c (rows0 n L) R T B s piv) (hc : c < n) (hz : ∀ p, c ≤ p → p < n → R p c = 0) : ¬ Cov.Kern n (L.map Dem.dm) := by
  intro hk
  obtain ⟨d, h1, h2⟩ := Cov.gj_stuck h hc hz
  have := hk d (fun D hD => by
    obtain ⟨E, hE, rfl⟩ := List.mem_map.1 hD
    obtain ⟨r, hr, e⟩ := mem_getD' (d := dem0) hE
    have := h2 r (by omega)
    rw [rows0_at, e] at this
    exact this) c hc
  rw [h1] at this
  exact absurd this (by decide)

theorem gj_kern {n : Nat} {L : List Dem} {R T : Nat → Nat → Rat} {B s : Nat → Nat} {piv : Nat → Rat} (hL : L.length = n) (h : Cov.GJ n n (rows0 n L) R T B s piv) : Cov.Kern n (L.map Dem.dm) := by
  intro d hd i hi
  have hdl : ∀ i, i < n → ∀ j, j < n → T (s i) j = if i = j then 1 else 0 := by
    intro i hi j hj
    have := h.inv.unit (s i) (h.lt i hi) (s j) (h.lt j hj)
    rw [h.done j hj] at this
    rw [this]
    by_cases e : i = j
    · rw [if_pos e, if_pos (by rw [e])]
    · rw [if_neg e, if_neg (fun e2 => e (h.inj i hi j hj e2))]
  have hh : Cov.Hom n (n + n) (Cov.solveA n (rows0 n L)) (fun j => if j < n then d j else 0) := by
    intro r hr
    rw [Cov.sm_app]
    have e1 : Cov.sm n (fun j => (if j < n then d j else 0) * Cov.solveA n (rows0 n L) j r) = Cov.sm n (fun j => rows0 n L r j * d j) := Cov.sm_congr (fun j hj => by
      unfold Cov.solveA; rw [if_pos hj, if_pos hj]; grind)
    have e2 : Cov.sm n (fun i => (if n + i < n then d (n + i) else 0) * Cov.solveA n (rows0 n L) (n + i) r) = 0 := Cov.sm_zero (fun i _ => by rw [if_neg (by omega)]; grind)
    rw [e1, e2, rows0_at, hd _ (List.mem_map.2 ⟨_, getD_mem' (by omega), rfl⟩)]; grind
  have h1 := h.inv.hom_rows hh (s i) (h.lt i hi)
  rw [Cov.sm_app] at h1
  have e1 : Cov.sm n (fun j => T (s i) j * (if j < n then d j else 0)) = d i := by
    rw [Cov.sm_single (k := i) hi]
    · rw [hdl i hi i hi, if_pos rfl, if_pos hi]; grind
    · intro j hj hne
      rw [hdl i hi j hj, if_neg (fun e => hne e.symm)]; grind
  have e2 : Cov.sm n (fun k => T (s i) (n + k) * (if n + k < n then d (n + k) else 0)) = 0 := Cov.sm_zero (fun k _ => by rw [if_neg (by omega)]; grind)
  rw [e1, e2] at h1
  grind

/-! ### the corner -/

structure Star (n : Nat) (most : Bool) (all : List Dem) (x : Nat → Rat) : Prop where
  meets : ∀ D ∈ all, D.dm.meets n x
  least : ∀ y, (∀ D ∈ all, D.dm.meets n y) → Cov.Lex (Cov.key (sgnOf most) n x) (Cov.key (sgnOf most) n y)

def Compl (n : Nat) (all : List Dem) (x : Nat → Rat) (k : Nat) (ch : List Dem) : Prop :=
  ∃ S, S.Sublist (all.drop k) ∧ ch.length + S.length = n ∧ (∀ D ∈ ch ++ S, D.dm.at n x = D.dm.b) ∧ Cov.Kern n ((ch ++ S).map Dem.dm)

def InP (n : Nat) (all : List Dem) (b : Nat → Rat) : Prop := ∀ D ∈ all, D.dm.meets n b
def isStar (n : Nat) (x : Nat → Rat) : Option (Nat → Rat) → Prop
  | none => False
  | some b => ∀ i, i < n → b i = x i

theorem compl_start {n : Nat} {most : Bool} {all : List Dem} {x : Nat → Rat} (h : Star n most all x) : Compl n all x 0 [] := by
  obtain ⟨S, h1, h2, h3, h4⟩ := Cov.corner_exists (v := sgnOf most) (all.map Dem.dm) x (fun D hD => by
    obtain ⟨E, hE, rfl⟩ := List.mem_map.1 hD
    exact h.meets E hE) (fun y hy => h.least y (fun D hD => hy _ (List.mem_map.2 ⟨D, hD, rfl⟩)))
  obtain ⟨S', hs, rfl⟩ := List.sublist_map_iff.1 h1
  refine ⟨S', by rw [List.drop_zero]; exact hs, by simpa using h2, fun D hD => ?_, by simpa using h4⟩
  exact h3 _ (List.mem_map.2 ⟨D, by simpa using hD, rfl⟩)

theorem compl_step {n : Nat} {all : List Dem} {x : Nat → Rat} {k : Nat} {ch : List Dem} (hk : k < all.length) (h : Compl n all x k ch) :
    Compl n all x (k + 1) (ch ++ [all.getD k dem0]) ∨ Compl n all x (k + 1) ch := by
  obtain ⟨S, h1, h2, h3, h4⟩ := h
  rw [List.drop_eq_getElem_cons hk] at h1
  have e : all.getD k dem0 = all[k] := by rw [List.getD_eq_getElem?_getD, List.getElem?_eq_getElem hk]; rfl
  rw [e]
  rcases List.sublist_cons_iff.1 h1 with h5 | ⟨S', rfl, h5⟩
  · exact Or.inr ⟨S, h5, h2, h3, h4⟩
  · refine Or.inl ⟨S', h5, by simp at h2 ⊢; omega, fun D hD => h3 D (by simpa using hD), by simpa using h4⟩

theorem compl_none {n : Nat} {all : List Dem} {x : Nat → Rat} {k : Nat} {ch : List Dem} (h : Compl n all x k ch) (hk : all.length < k + n - ch.length) (hka : k ≤ all.length) : False := by
  obtain ⟨S, h1, h2, -, -⟩ := h
  have := h1.length_le
  rw [List.length_drop] at this
  omega

theorem compl_full {n : Nat} {all : List Dem} {x : Nat → Rat} {k : Nat} {ch : List Dem} (h : Compl n all x k ch) (hc : ch.length = n) : (∀ D ∈ ch, D.dm.at n x = D.dm.b) ∧ Cov.Kern n (ch.map Dem.dm) := by
  obtain ⟨S, h1, h2, h3, h4⟩ := h
  have : S = [] := List.length_eq_zero_iff.1 (by omega)
  subst this
  rw [List.append_nil] at h3 h4
  exact ⟨h3, h4⟩

theorem key_star {n : Nat} {v : Rat} {b x : Nat → Rat} (h : ∀ i, i < n → b i = x i) : Cov.key v n b = Cov.key v n x := Cov.key_congr h

/-- the leaf, where the solution meets all -/
theorem leaf_take {n : Nat} {most : Bool} {all : List Dem} {x y : Nat → Rat} (hs : Star n most all x) (hy : InP n all y) {b : Nat → Rat} (hbef : befB n most y b = true) (hb : isStar n x (some b)) : isStar n x (some y) := by
  have h1 := (befB_lex.1 hbef)
  have e := key_star (v := sgnOf most) hb
  rw [e] at h1
  exact absurd (hs.least y hy) h1.2

theorem leaf_keep {n : Nat} {most : Bool} {all : List Dem} {x y b : Nat → Rat} (hs : Star n most all x) (hb : InP n all b) (hbef : befB n most y b = false) (hy : ∀ i, i < n → y i = x i) : isStar n x (some b) := by
  have e := key_star (v := sgnOf most) hy
  have h1 : ¬ (Cov.Lex (Cov.key (sgnOf most) n y) (Cov.key (sgnOf most) n b) ∧ ¬ Cov.Lex (Cov.key (sgnOf most) n b) (Cov.key (sgnOf most) n y)) := fun h => by
    rw [befB_lex.2 h] at hbef
    cases hbef
  rw [e] at h1
  have h2 := hs.least b hb
  have h3 : Cov.Lex (Cov.key (sgnOf most) n b) (Cov.key (sgnOf most) n x) := Classical.byContradiction fun h => h1 ⟨h2, h⟩
  exact Cov.key_inj (Cov.Lex.antisymm h3 h2)

end Go.Proofs.Ytnmcgbfhgmmcpaa

/-
  Rows of rationals in memory, each in a block of its own.
-/
namespace Go.Proofs.Ytnmcgbfhgmmcpaa
open Go.RowKit

/-- block g begins with n cells of type t, none frozen, cell i holding f i -/
def RwIs (w : World) (g : Nat) (t : TypeId) (n : Nat) (f : Nat → Value) : Prop :=
  ∃ cur : Array Value, w.heap[g]? = some (.cells cur t (0, 0)) ∧ ∀ i, i < n → cur[i]? = some (f i)

section
variable {w w' : World} {g h n : Nat} {t t' : TypeId} {f f' : Nat → Value}

theorem RwIs.cell (H : RwIs w g t n f) {i : Nat} (hi : i < n) : w.cell? ⟨g, i, none⟩ = some (f i) := by
  obtain ⟨c, hb, hc⟩ := H
  simp [World.cell?, hb, hc i hi]
theorem RwIs.free (H : RwIs w g t n f) (i : Nat) : w.frozen? ⟨g, i, none⟩ = false := by
  obtain ⟨c, hb, _⟩ := H
  simp [World.frozen?, hb]
theorem RwIs.lt (H : RwIs w g t n f) : g < w.heap.size := by
  obtain ⟨c, hb, _⟩ := H
  obtain ⟨hlt, _⟩ := Array.getElem?_eq_some_iff.1 hb
  exact hlt
theorem RwIs.congr (H : RwIs w g t n f) (e : ∀ i, i < n → f i = f' i) : RwIs w g t n f' := by
  obtain ⟨c, hb, hc⟩ := H
  exact ⟨c, hb, fun i hi => by rw [hc i hi, e i hi]⟩
theorem RwIs.of_block (H : RwIs w g t n f) (e : w'.heap[g]? = w.heap[g]?) : RwIs w' g t n f := by
  obtain ⟨c, hb, hc⟩ := H
  exact ⟨c, e.trans hb, hc⟩
theorem RwIs.below (H : RwIs w g t n f) (hb : Below w.heap.size w w') : RwIs w' g t n f := H.of_block (hb.block g H.lt)
theorem RwIs.set (H : RwIs w g t n f) (i : Nat) (v : Value) : RwIs (w.setCell ⟨g, i, none⟩ v) g t n (fun j => if j = i then v else f j) := by
  obtain ⟨c, hb, hc⟩ := H
  refine ⟨c.setIfInBounds i v, ?_, fun j hj => ?_⟩
  · simp [World.setCell, Array.getElem?_modify, hb]
  · have hjc : j < c.size := by
      have := hc j hj
      exact (Array.getElem?_eq_some_iff.1 this).1
    rw [Array.getElem?_setIfInBounds]
    by_cases e : j = i
    · subst e
      simp [hjc]
    · rw [if_neg (fun h => e h.symm)]
      show c[j]? = some (if j = i then v else f j)
      rw [if_neg e]
      exact hc j hj
theorem RwIs.other (H : RwIs w g t n f) (hne : g ≠ h) (i : Nat) (v : Value) : RwIs (w.setCell ⟨h, i, none⟩ v) g t n f := H.of_block (Below.heap_setCell _ _ _ _ hne)
theorem RwIs.ne {m : Nat} (H : RwIs w g t n f) (K : RwIs w h t' m f') (ht : t ≠ t') : g ≠ h := by
  rintro rfl
  obtain ⟨c, hb, _⟩ := H
  obtain ⟨c', hb', _⟩ := K
  rw [hb] at hb'
  simp only [Option.some.injEq, Obj.cells.injEq] at hb'
  exact ht hb'.2.1
end

/-- a row of rationals, cell by cell -/
def ratF (r : Nat → Rat) : Nat → Value := fun k => if k % 2 = 0 then .int .i64 (r (k / 2)).num else .int .i64 (r (k / 2)).den

def RowAt (w : World) (g n : Nat) (r : Nat → Rat) : Prop := RwIs w g 28 ((n + 1) * 2) (ratF r)

section
variable {w w' : World} {g h n : Nat} {r : Nat → Rat}
theorem RowAt.num (H : RowAt w g n r) {j : Nat} (hj : j ≤ n) : w.cell? ⟨g, j * 2, none⟩ = some (.int .i64 (r j).num) := by
  rw [RwIs.cell H (by omega)]
  unfold ratF
  rw [if_pos (by omega), show j * 2 / 2 = j by omega]
theorem RowAt.den (H : RowAt w g n r) {j : Nat} (hj : j ≤ n) : w.cell? ⟨g, j * 2 + 1, none⟩ = some (.int .i64 (r j).den) := by
  rw [RwIs.cell H (by omega)]
  unfold ratF
  rw [if_neg (by omega), show (j * 2 + 1) / 2 = j by omega]
theorem RowAt.set (H : RowAt w g n r) (j : Nat) (q : Rat) : RowAt ((w.setCell ⟨g, j * 2, none⟩ (.int .i64 q.num)).setCell ⟨g, j * 2 + 1, none⟩ (.int .i64 q.den)) g n (fun i => if i = j then q else r i) := by
  refine RwIs.congr (RwIs.set (RwIs.set H (j * 2) _) (j * 2 + 1) _) (fun k hk => ?_)
  unfold ratF
  show _ = if k % 2 = 0 then Value.int IntKind.i64 (if k / 2 = j then q else r (k / 2)).num else Value.int IntKind.i64 (if k / 2 = j then q else r (k / 2)).den
  by_cases e1 : k = j * 2 + 1
  · rw [if_pos e1, if_neg (by omega), if_pos (by omega)]
  · rw [if_neg e1]
    by_cases e2 : k = j * 2
    · rw [if_pos e2, if_pos (by omega), if_pos (by omega)]
    · rw [if_neg e2, if_neg (show ¬ k / 2 = j by omega)]
theorem RowAt.other (H : RowAt w g n r) (hne : g ≠ h) (i k : Nat) (v u : Value) : RowAt ((w.setCell ⟨h, i, none⟩ v).setCell ⟨h, k, none⟩ u) g n r := RwIs.other (RwIs.other H hne i v) hne k u
theorem RowAt.congr {r' : Nat → Rat} (H : RowAt w g n r) (e : ∀ j, j ≤ n → r j = r' j) : RowAt w g n r' := by
  refine RwIs.congr H (fun k hk => ?_)
  unfold ratF
  rw [e (k / 2) (by omega)]

theorem zs_get (k : Nat) : ∀ j, j < k → (zs k)[j * 2]? = some (.int .i64 0) ∧ (zs k)[j * 2 + 1]? = some (.int .i64 1) := by
  induction k with
  | zero => intro j hj; omega
  | succ k ih =>
    intro j hj
    have hl : (zs k).length = k * 2 := by simp [zs]
    rw [zs_succ]
    by_cases e : j < k
    · rw [List.getElem?_append_left (by omega), List.getElem?_append_left (by omega)]
      exact ih j e
    · obtain rfl : j = k := by omega
      rw [List.getElem?_append_right (by omega), List.getElem?_append_right (by omega), hl]
      simp

theorem own_zero {B : Nat} {v : Value} (H : w.ownsRow B 28 2 v (n + 1) (zs (n + 1))) : ∃ g cap, v = .slice (some ⟨g, 0, none⟩) (n + 1) cap ∧ B ≤ g ∧ g < w.heap.size ∧ RowAt w g n (fun _ => 0) := by
  rcases H.2 with ⟨_, h⟩ | ⟨g, cap, cur, rfl, hb, hc, hn, -, -, ht⟩
  · omega
  · have hr : RowAt w g n (fun _ => 0) := by
      refine ⟨cur, hc, fun i hi => ?_⟩
      have e : cur[i]? = (zs (n + 1))[i]? := by
        rw [← ht, List.getElem?_take_of_lt hi, Array.getElem?_toList]
      rw [e]
      unfold ratF
      obtain ⟨h1, h2⟩ := zs_get (n + 1) (i / 2) (by omega)
      by_cases e2 : i % 2 = 0
      · rw [if_pos e2]
        rw [show i / 2 * 2 = i by omega] at h1
        exact h1
      · rw [if_neg e2]
        rw [show i / 2 * 2 + 1 = i by omega] at h2
        exact h2
    exact ⟨g, cap, rfl, hb, hr.lt, hr⟩
end

/-- the rows, one below another -/
structure Mat (w : World) (B G n : Nat) (g cp : Nat → Nat) (R : Nat → Nat → Rat) : Prop where
  top : RwIs w G 29 n (fun i => .slice (some ⟨g i, 0, none⟩) (n + 1) (cp i))
  row : ∀ i, i < n → RowAt w (g i) n (R i)
  inj : ∀ i, i < n → ∀ k, k < n → g i = g k → i = k
  base : B ≤ G ∧ ∀ i, i < n → B ≤ g i

section
variable {w w' : World} {B G n : Nat} {g cp : Nat → Nat} {R R' : Nat → Nat → Rat}
theorem Mat.ne (H : Mat w B G n g cp R) {i : Nat} (hi : i < n) : g i ≠ G := RwIs.ne (H.row i hi) H.top (by decide)
theorem Mat.below (H : Mat w B G n g cp R) (hb : Below w.heap.size w w') : Mat w' B G n g cp R := ⟨H.top.below hb, fun i hi => RwIs.below (H.row i hi) hb, H.inj, H.base⟩
theorem Mat.congr (H : Mat w B G n g cp R) (e : ∀ i, i < n → ∀ j, j ≤ n → R i j = R' i j) : Mat w B G n g cp R' := ⟨H.top, fun i hi => (H.row i hi).congr (e i hi), H.inj, H.base⟩
theorem Mat.head (H : Mat w B G n g cp R) {i : Nat} (hi : i < n) : w.cell? ⟨G, i, none⟩ = some (.slice (some ⟨g i, 0, none⟩) (n + 1) (cp i)) := H.top.cell hi
theorem Mat.swap (H : Mat w B G n g cp R) {c p : Nat} (hc : c < n) (hp : p < n) :
    Mat ((w.setCell ⟨G, p, none⟩ (.slice (some ⟨g c, 0, none⟩) (n + 1) (cp c))).setCell ⟨G, c, none⟩ (.slice (some ⟨g p, 0, none⟩) (n + 1) (cp p))) B G n (Cov.swp g c p) (Cov.swp cp c p) (Cov.swpR R c p) := by
  refine ⟨RwIs.congr ((H.top.set p _).set c _) (fun i _ => ?_), fun i hi => ?_, fun i hi k hk e => ?_, H.base.1, fun i hi => ?_⟩
  · unfold Cov.swp
    by_cases e1 : i = c
    · rw [if_pos e1, if_pos e1, if_pos e1]
    · rw [if_neg e1, if_neg e1, if_neg e1]
      by_cases e2 : i = p
      · rw [if_pos e2, if_pos e2, if_pos e2]
      · rw [if_neg e2, if_neg e2, if_neg e2]
  · have hk : ∀ k, k < n → RowAt ((w.setCell ⟨G, p, none⟩ (.slice (some ⟨g c, 0, none⟩) (n + 1) (cp c))).setCell ⟨G, c, none⟩ (.slice (some ⟨g p, 0, none⟩) (n + 1) (cp p))) (g k) n (R k) := fun k hk => (H.row k hk).other (H.ne hk) _ _ _ _
    unfold Cov.swp Cov.swpR
    split
    · exact hk p hp
    · split
      · exact hk c hc
      · exact hk i hi
  · have hinj := H.inj
    unfold Cov.swp at e
    by_cases a1 : i = c
    · by_cases b1 : k = c
      · omega
      · rw [if_pos a1, if_neg b1] at e
        by_cases b2 : k = p
        · rw [if_pos b2] at e
          have := hinj p hp c hc e
          omega
        · rw [if_neg b2] at e
          have := hinj p hp k hk e
          omega
    · rw [if_neg a1] at e
      by_cases a2 : i = p
      · rw [if_pos a2] at e
        by_cases b1 : k = c
        · rw [if_pos b1] at e
          have := hinj c hc p hp e
          omega
        · rw [if_neg b1] at e
          by_cases b2 : k = p
          · omega
          · rw [if_neg b2] at e
            have := hinj c hc k hk e
            omega
      · rw [if_neg a2] at e
        by_cases b1 : k = c
        · rw [if_pos b1] at e
          have := hinj i hi p hp e
          omega
        · rw [if_neg b1] at e
          by_cases b2 : k = p
          · rw [if_pos b2] at e
            have := hinj i hi c hc e
            omega
          · rw [if_neg b2] at e
            exact hinj i hi k hk e
  · unfold Cov.swp
    split
    · exact H.base.2 p hp
    · split
      · exact H.base.2 c hc
      · exact H.base.2 i hi
theorem Mat.set (H : Mat w B G n g cp R) {r : Nat} (hr : r < n) (j : Nat) (q : Rat) :
    Mat ((w.setCell ⟨g r, j * 2, none⟩ (.int .i64 q.num)).setCell ⟨g r, j * 2 + 1, none⟩ (.int .i64 q.den)) B G n g cp (fun i k => if i = r ∧ k = j then q else R i k) := by
  refine ⟨(H.top.other (fun e => H.ne hr e.symm) _ _).other (fun e => H.ne hr e.symm) _ _, fun i hi => ?_, H.inj, H.base⟩
  by_cases e : i = r
  · subst e
    exact ((H.row i hi).set j q).congr (fun k _ => by
      by_cases e : k = j
      · rw [if_pos e, if_pos ⟨rfl, e⟩]
      · rw [if_neg e, if_neg (fun h => e h.2)])
  · exact ((H.row i hi).other (fun h => e (H.inj i hi r hr h)) _ _ _ _).congr (fun k _ => by rw [if_neg (fun h => e h.1)])
end

/-- the first k rows, while they are laid -/
structure Rws (w : World) (B n k : Nat) (vr : Value) (vs : List Value) (g cp : Nat → Nat) (R : Nat → Nat → Rat) : Prop where
  own : w.ownsRow B 29 1 vr k vs
  len : vs.length = k
  val : ∀ i, i < k → vs.getD i undef = .slice (some ⟨g i, 0, none⟩) (n + 1) (cp i)
  row : ∀ i, i < k → RowAt w (g i) n (R i)
  inj : ∀ i, i < k → ∀ j, j < k → g i = g j → i = j
  base : ∀ i, i < k → B ≤ g i

section
variable {w w' : World} {B n k : Nat} {vr : Value} {vs : List Value} {g cp : Nat → Nat} {R : Nat → Nat → Rat}
theorem Rws.below (H : Rws w B n k vr vs g cp R) (hb : Below w.heap.size w w') : Rws w' B n k vr vs g cp R := ⟨own_below H.own hb, H.len, H.val, fun i hi => RwIs.below (H.row i hi) hb, H.inj, H.base⟩

theorem RwIs.typ {w : World} {g n : Nat} {t : TypeId} {f : Nat → Value} (H : RwIs w g t n f) : ∃ cur, w.heap[g]? = some (.cells cur t (0, 0)) := by
  obtain ⟨c, hb, _⟩ := H
  exact ⟨c, hb⟩

theorem Rws.other (H : Rws w B n k vr vs g cp R) {c m : Nat} {f : Nat → Value} (hc : RwIs w c 28 m f) (hne : ∀ i, i < k → g i ≠ c) (a : Nat) (v : Value) : Rws (w.setCell ⟨c, a, none⟩ v) B n k vr vs g cp R :=
  ⟨own_move H.own (fun q hq => Below.heap_setCell _ _ _ _ (fun e => own_ne H.own hc.typ (by decide) (by rw [hq]; exact congrArg some e.symm))), H.len, H.val, fun i hi => RwIs.other (H.row i hi) (hne i hi) _ _, H.inj, H.base⟩

theorem Rws.step {w3 : World} {o : Obj} {vr' : Value} {c cap : Nat} {r : Nat → Rat} (H : Rws w B n k vr vs g cp R) (hr : RowAt w c n r) (hcB : B ≤ c) (hne : ∀ i, i < k → g i ≠ c) (hR : ∀ j, j ≤ n → r j = R k j)
    (hown : w3.ownsRow B 29 1 vr' (k + 1) (vs ++ [.slice (some ⟨c, 0, none⟩) (n + 1) cap])) (hg : (w.alloc o).grownBy w3 vr.ownBlock) :
    Rws w3 B n (k + 1) vr' (vs ++ [.slice (some ⟨c, 0, none⟩) (n + 1) cap]) (fun i => if i = k then c else g i) (fun i => if i = k then cap else cp i) R := by
  have hsz : (w.alloc o).heap.size = w.heap.size + 1 := by simp
  have hk : ∀ b, b < w.heap.size → some b ≠ vr.ownBlock → w3.heap[b]? = w.heap[b]? := fun b hb hne => (hg.block b (by omega) hne).trans (Below.heap_alloc _ _ _ hb)
  have hrow : ∀ {q : Nat} {f : Nat → Rat}, RowAt w q n f → RowAt w3 q n f := fun h => RwIs.of_block h (hk _ h.lt (own_ne H.own h.typ (by decide)))
  refine ⟨hown, by rw [List.length_append, H.len]; rfl, fun i hi => ?_, fun i hi => ?_, fun i hi j hj e => ?_, fun i hi => ?_⟩
  · by_cases e : i = k
    · subst e
      rw [if_pos rfl, if_pos rfl, List.getD_eq_getElem?_getD, List.getElem?_append_right (by rw [H.len]; exact Nat.le_refl _), H.len]; simp
    · rw [if_neg e, if_neg e, List.getD_eq_getElem?_getD, List.getElem?_append_left (by rw [H.len]; omega), ← List.getD_eq_getElem?_getD]
      exact H.val i (by omega)
  · by_cases e : i = k
    · subst e
      rw [if_pos rfl]
      exact (hrow hr).congr hR
    · rw [if_neg e]
      exact hrow (H.row i (by omega))
  · by_cases e1 : i = k
    · by_cases e2 : j = k
      · omega
      · rw [if_pos e1, if_neg e2] at e
        exact absurd e.symm (hne j (by omega))
    · by_cases e2 : j = k
      · rw [if_neg e1, if_pos e2] at e
        exact absurd e (hne i (by omega))
      · rw [if_neg e1, if_neg e2] at e
        exact H.inj i (by omega) j (by omega) e
  · by_cases e : i = k
    · rw [if_pos e]; exact hcB
    · rw [if_neg e]; exact H.base i (by omega)

theorem Rws.mat (H : Rws w B n n vr vs g cp R) (hn : 0 < n) : ∃ G cap, vr = .slice (some ⟨G, 0, none⟩) n cap ∧ Mat w B G n g cp R := by
  rcases H.own.2 with ⟨_, h⟩ | ⟨G, cap, cur, rfl, hb, hc, -, -, -, ht⟩
  · omega
  · refine ⟨G, cap, rfl, ⟨cur, hc, fun i hi => ?_⟩, H.row, H.inj, hb, H.base⟩
    have e : cur[i]? = vs[i]? := by
      rw [← ht, List.getElem?_take_of_lt (by omega), Array.getElem?_toList]
    rw [e]
    have := H.val i hi
    rw [List.getD_eq_getElem?_getD, List.getElem?_eq_getElem (by rw [H.len]; exact hi)] at this
    rw [List.getElem?_eq_getElem (by rw [H.len]; exact hi)]
    simpa using this
end

end Go.Proofs.Ytnmcgbfhgmmcpaa
