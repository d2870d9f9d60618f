import Derived.Deep.CutBlock
import Derived.Deep.RegionHeld3
import Derived.Deep.RegionLaw
import Derived.Test.YtnmcgbfhgmmcpaaW28
/-
  spec.l1Solve.
-/
namespace Go.Proofs.Ytnmcgbfhgmmcpaa
open Go.RowKit

theorem Try.infoRS : (Try.prog.info? 29).map (fun i => (i.zero, i.size, i.bytes)) = some (some (.slice none 0 0), 1, 24) := by kernel_rfl

theorem wTk {P : Program} {ops : Array Oper} {Q : Exit → Act → World → Prop} {md : Region.Mode} {S : World → Prop} (i : Nat) {oi : Oper} {v : Value} {fuel : Nat} {listed : Array Bool} {a : Act} {w : World} (h : wpAnyH P md ops Q S fuel (listed.setIfInBounds i true) (a.put oi.dst v) w) (hi : ops[i]? = some oi := by exact rfl) (hs : Region.noSelect ops = true := by kernel_rfl) (hf : Region.free md ops listed i = true := by kernel_rfl) (hr : (Region.ready md ops listed).contains i = true := by kernel_rfl) (hQ : ∀ c a w, Q (.panic c) (a.put oi.dst v) w → Q (.panic c) a w := by exact fun _ _ _ h => h) (hy : YieldsIf P ops S oi v a := by refine Or.inl ⟨by rfl, ?_⟩; (intro w hSw; (try dsimp only at hSw); go_simp) <;> with_reducible rfl) (hS : S w := by assumption) : wpAnyH P md ops Q S (fuel + 1) listed a w := wpAnyH_take hi hs hf hr hQ hy hS h

/-- what l1Solve answers -/
def SolveIs (n : Nat) (L : List Dem) (e : Ending) (w' : World) : Prop :=
  (e = .returned (.tuple #[.slice none 0 0, .bool false]) ∧ ¬ Cov.Kern n (L.map Dem.dm)) ∨
  ∃ v x, e = .returned (.tuple #[v, .bool true]) ∧ IR w' v (prs n x) ∧ Parts n x ∧ Only n L x ∧ Cov.Kern n (L.map Dem.dm)

def takeR (pl : List Nat) (j : Nat) : Nat → Rat := fun i => if i ∈ pl.take j then 1 else 0

theorem takeR_succ {pl : List Nat} {j : Nat} (h : j < pl.length) : (fun i => if i = pl.getD j 0 then (1 : Rat) else takeR pl j i) = takeR pl (j + 1) := by
  funext i
  unfold takeR
  by_cases e : i = pl.getD j 0
  · rw [if_pos e, if_pos ((take_mem pl j h i).2 (Or.inr e))]
  · rw [if_neg e]
    by_cases e2 : i ∈ pl.take j
    · rw [if_pos e2, if_pos ((take_mem pl j h i).2 (Or.inl e2))]
    · rw [if_neg e2, if_neg (fun h3 => by rcases (take_mem pl j h i).1 h3 with h4 | h4; exact e2 h4; exact e h4)]

theorem row_done {n : Nat} {L : List Dem} {k : Nat} {d : Dem} (hd : L.getD k dem0 = d) : ∀ j, j ≤ n → (fun i => if i = n then ((d.bd : Int) : Rat) else takeR d.pl d.pl.length i) j = rows0 n L k j := by
  intro j hj
  unfold rows0 takeR
  rw [hd, List.take_length]

def mixR (R : Nat → Nat → Rat) (c r : Nat) : Nat → Nat → Rat := fun i k => if i < r then Cov.elim R c i k else R i k
def mixE (R : Nat → Nat → Rat) (c r j : Nat) : Nat → Nat → Rat := fun i k => if i < r ∨ (i = r ∧ k < j) then Cov.elim R c i k else R i k

theorem mixR_zero (R : Nat → Nat → Rat) (c i k : Nat) : R i k = mixR R c 0 i k := (if_neg (by omega)).symm
theorem mixR_same {R : Nat → Nat → Rat} {c r : Nat} (h : r = c ∨ R r c = 0) (i k : Nat) : mixR R c r i k = mixR R c (r + 1) i k := by
  unfold mixR
  by_cases e : i = r
  · subst e
    rw [if_neg (by omega), if_pos (by omega)]
    unfold Cov.elim
    rw [if_pos (by rcases h with h | h; exact Or.inl h; exact Or.inr (Or.inl h))]
  · by_cases e2 : i < r
    · rw [if_pos e2, if_pos (by omega)]
    · rw [if_neg e2, if_neg (by omega)]
theorem mixE_start (R : Nat → Nat → Rat) (c r i k : Nat) : mixR R c r i k = mixE R c r c i k := by
  unfold mixR mixE
  by_cases e : i < r
  · rw [if_pos e, if_pos (Or.inl e)]
  · rw [if_neg e]
    by_cases e2 : i = r ∧ k < c
    · rw [if_pos (Or.inr e2)]
      unfold Cov.elim
      rw [if_pos (Or.inr (Or.inr e2.2))]
    · rw [if_neg (fun h => by rcases h with h | h; exact e h; exact e2 h)]
theorem mixE_step {R : Nat → Nat → Rat} {c r j : Nat} (h1 : r ≠ c) (h2 : R r c ≠ 0) (h3 : c ≤ j) (i k : Nat) : (if i = r ∧ k = j then R r j - R r c / R c c * R c j else mixE R c r j i k) = mixE R c r (j + 1) i k := by
  unfold mixE
  by_cases e : i = r ∧ k = j
  · rw [if_pos e, if_pos (Or.inr ⟨e.1, by omega⟩)]
    unfold Cov.elim
    rw [e.1, e.2, if_neg (fun h => by rcases h with h | h | h; exact h1 h; exact h2 h; omega)]
  · rw [if_neg e]
    by_cases e2 : i < r ∨ (i = r ∧ k < j)
    · rw [if_pos e2, if_pos (by rcases e2 with h | h; exact Or.inl h; exact Or.inr ⟨h.1, by omega⟩)]
    · rw [if_neg e2, if_neg (fun h => by
        rcases h with h | h
        · exact e2 (Or.inl h)
        · by_cases e3 : k = j
          · exact e ⟨h.1, e3⟩
          · exact e2 (Or.inr ⟨h.1, by omega⟩))]
theorem mixE_end {R : Nat → Nat → Rat} {c r n i k : Nat} (hk : k ≤ n) : mixE R c r (n + 1) i k = mixR R c (r + 1) i k := by
  unfold mixE mixR
  by_cases e : i < r + 1
  · rw [if_pos e, if_pos (by by_cases e2 : i < r; exact Or.inl e2; exact Or.inr ⟨by omega, by omega⟩)]
  · rw [if_neg e, if_neg (fun h => by rcases h with h | h <;> omega)]
theorem mixE_piv (R : Nat → Nat → Rat) (c r j k : Nat) : mixE R c r j c k = R c k := by
  unfold mixE
  split
  · unfold Cov.elim
    rw [if_pos (Or.inl rfl)]
  · rfl
theorem mixE_cur (R : Nat → Nat → Rat) (c r j : Nat) : mixE R c r j r j = R r j := if_neg (fun h => by rcases h with h | h <;> omega)
theorem mixR_piv (R : Nat → Nat → Rat) (c r k : Nat) : mixR R c r c k = R c k := by
  unfold mixR
  split
  · unfold Cov.elim
    rw [if_pos (Or.inl rfl)]
  · rfl
theorem mixR_cur (R : Nat → Nat → Rat) (c r k : Nat) : mixR R c r r k = R r k := if_neg (by omega)

theorem swp_some {R : Nat → Nat → Rat} {n c p i : Nat} (hc : c < n) (hp : p < n) (hi : i < n) : ∃ k, k < n ∧ Cov.swpR R c p i = R k := by
  unfold Cov.swpR
  split
  · exact ⟨p, hp, rfl⟩
  · split
    · exact ⟨c, hc, rfl⟩
    · exact ⟨i, hi, rfl⟩
theorem swp_top (R : Nat → Nat → Rat) (c p : Nat) : Cov.swpR R c p c = R p := if_pos rfl

theorem prs_succ (k : Nat) (x : Nat → Rat) : prs (k + 1) x = prs k x ++ [((x k).num, ((x k).den : Int))] := by
  unfold prs
  rw [List.range_succ, List.map_append]; rfl
theorem rcs_prs_succ (k : Nat) (x : Nat → Rat) : rcs (prs (k + 1) x) = rcs (prs k x) ++ [.int .i64 (x k).num, .int .i64 (x k).den] := by
  rw [prs_succ]; simp [rcs]

section
variable {w W5 w6 : World} {G n : Nat} {g cp : Nat → Nat} {R : Nat → Nat → Rat}
theorem drew_alloc_below {o : Obj} (h : Below (W5.alloc o).drew.heap.size (W5.alloc o).drew w6) : Below W5.heap.size W5 w6 :=
  bt ((Below.refl _ _).alloc (Nat.le_refl _) o) (drew_below h)
theorem two_drew {x y : Int} {t : TypeId} (h : Below (W5.alloc (.cells #[.int .i64 x, .int .i64 y] t)).drew.heap.size (W5.alloc (.cells #[.int .i64 x, .int .i64 y] t)).drew w6) : Two w6 W5.heap.size x y :=
  (two_alloc W5 x y t).below (by simp) (drew_below h)
theorem over_late (hB5 : Below w.heap.size w W5) (hM5 : Mat W5 w.heap.size G n g cp R) (hBn : Below W5.heap.size W5 w6) (x y : Int) (t : TypeId) :
    Below w.heap.size w (w6.alloc (.cells #[.int .i64 x, .int .i64 y] t)) ∧ Mat (w6.alloc (.cells #[.int .i64 x, .int .i64 y] t)) w.heap.size G n g cp R ∧ Two (w6.alloc (.cells #[.int .i64 x, .int .i64 y] t)) w6.heap.size x y ∧ (∀ i, i < n → g i ≠ w6.heap.size) ∧ w.heap.size ≤ w6.heap.size := by
  have h1 := bt hB5 hBn
  have h2 := hM5.below hBn
  exact ⟨h1.alloc h1.size _, h2.below ((Below.refl _ _).alloc (Nat.le_refl _) _), two_alloc w6 x y t, fun i hi e => by have := (h2.row i hi).lt; omega, h1.size⟩
theorem over_early (hB5 : Below w.heap.size w W5) (hM5 : Mat W5 w.heap.size G n g cp R) {a b : Int} {t : TypeId} (h : Below (W5.alloc (.cells #[.int .i64 a, .int .i64 b] t)).drew.heap.size (W5.alloc (.cells #[.int .i64 a, .int .i64 b] t)).drew w6) (x y : Int) :
    Below w.heap.size w ((w6.setCell ⟨W5.heap.size, 0, none⟩ (.int .i64 x)).setCell ⟨W5.heap.size, 1, none⟩ (.int .i64 y)) ∧ Mat ((w6.setCell ⟨W5.heap.size, 0, none⟩ (.int .i64 x)).setCell ⟨W5.heap.size, 1, none⟩ (.int .i64 y)) w.heap.size G n g cp R ∧ Two ((w6.setCell ⟨W5.heap.size, 0, none⟩ (.int .i64 x)).setCell ⟨W5.heap.size, 1, none⟩ (.int .i64 y)) W5.heap.size x y ∧ (∀ i, i < n → g i ≠ W5.heap.size) ∧ w.heap.size ≤ W5.heap.size := by
  have hBn := drew_alloc_below h
  have h1 := bt hB5 hBn
  have h2 : Mat ((w6.setCell ⟨W5.heap.size, 0, none⟩ (.int .i64 x)).setCell ⟨W5.heap.size, 1, none⟩ (.int .i64 y)) w.heap.size G n g cp R := hM5.below ((hBn.setCell (Nat.le_refl _) _).setCell (Nat.le_refl _) _)
  have hs := hB5.size
  exact ⟨(h1.setCell hs _).setCell hs _, h2, (two_drew h).set x y, fun i hi e => by have := (hM5.row i hi).lt; omega, hs⟩
theorem mat_store {W7 w9 : World} {gf c r j : Nat} {Q : Nat → Nat → Rat} {f z : Rat} (hB7 : Below w.heap.size w W7) (hM7 : Mat W7 w.heap.size G n g cp (mixE Q c r j)) (hT7 : Two W7 gf f.num f.den) (hBn : Below W7.heap.size W7 w9) (hrn : r < n) (hne : ∀ i, i < n → g i ≠ gf) (hrc : r ≠ c) (hz0 : Q r c ≠ 0) (hcj : c ≤ j) (hz : z = Q r j - Q r c / Q c c * Q c j) :
    Below w.heap.size w ((w9.setCell ⟨g r, j * 2, none⟩ (.int .i64 z.num)).setCell ⟨g r, j * 2 + 1, none⟩ (.int .i64 z.den)) ∧ Mat ((w9.setCell ⟨g r, j * 2, none⟩ (.int .i64 z.num)).setCell ⟨g r, j * 2 + 1, none⟩ (.int .i64 z.den)) w.heap.size G n g cp (mixE Q c r (j + 1)) ∧ Two ((w9.setCell ⟨g r, j * 2, none⟩ (.int .i64 z.num)).setCell ⟨g r, j * 2 + 1, none⟩ (.int .i64 z.den)) gf f.num f.den := by
  have hM9 := hM7.below hBn
  have hb := hM9.base.2 r hrn
  refine ⟨((bt hB7 hBn).setCell hb _).setCell hb _, (hM9.set hrn j z).congr (fun i _ k _ => ?_), ?_⟩
  · rw [hz]; exact mixE_step hrc hz0 hcj i k
  · have ht := hT7.below (World.block_lt_of_cell? W7 _ hT7.1) hBn
    have hg : gf ≠ g r := fun e => hne r hrn e.symm
    have hq : ((w9.setCell ⟨g r, j * 2, none⟩ (.int .i64 z.num)).setCell ⟨g r, j * 2 + 1, none⟩ (.int .i64 z.den)).heap[gf]? = w9.heap[gf]? := (Below.heap_setCell _ _ _ _ hg).trans (Below.heap_setCell _ _ _ _ hg)
    exact ⟨(World.cell?_of_block (w := w9) (a := ⟨gf, 0, none⟩) hq).trans ht.1, (World.cell?_of_block (w := w9) (a := ⟨gf, 1, none⟩) hq).trans ht.2.1, (World.frozen?_of_block (w := w9) (a := ⟨gf, 0, none⟩) hq).trans ht.2.2.1, (World.frozen?_of_block (w := w9) (a := ⟨gf, 1, none⟩) hq).trans ht.2.2.2⟩
end

theorem new2_cell (w : World) (v u : Value) (t : TypeId) : ∀ j x, [v, u][j]? = some x → (w.alloc (.cells #[v, u] t)).cell? ((⟨w.heap.size, 0, none⟩ : Addr).add j) = some x := by
  intro j x hj
  match j, hj with
  | 0, hj => simp at hj; subst hj; simp [Addr.add]
  | 1, hj => simp at hj; subst hj; simp [Addr.add]

set_option maxHeartbeats 30000000 in
set_option maxRecDepth 100000 in
theorem l1Solve_calls (w : World) (vc : Value) (n : Nat) (ps : List (Value × Dem)) (hn1 : 1 ≤ n) (hn : n ≤ 7) (hl : ps.length = n) (hc : DP w vc ps) (hok : ∀ p ∈ ps, DemOk n p.2) :
    Calls Try.prog 83 #[.int .i64 n, vc] w fun e w' => SolveIs n (ps.map Prod.snd) e w' ∧ Below w.heap.size w w' := by
  obtain ⟨i0, hi, hz0, hz1, hz2⟩ := info_parts Try.infoRS
  obtain ⟨L, hL⟩ : ∃ L, L = ps.map Prod.snd := ⟨_, rfl⟩
  rw [← hL]
  have KZ : Hid (∀ W, Calls Try.prog 38 #[.int .i64 ((n : Int) + 1)] W fun e w' => ∃ v, e = .returned v ∧ w'.ownsRow W.heap.size 28 2 v (n + 1) (zs (n + 1)) ∧ Below W.heap.size W w') := hid (fun W => by
    have := l1Zeros_calls W (n + 1) (by omega)
    rw [show ((n + 1 : Nat) : Int) = (n : Int) + 1 by omega] at this
    exact this)
  obtain ⟨⟨a, cap, rfl, hcell⟩, heach⟩ := hc
  have hcell' : ∃ b o, a = some ⟨b, o, none⟩ ∧ ∀ j u, (dcs ps)[j]? = some u → w.cell? ⟨b, o + j, none⟩ = some u := by
    rcases hcell with h0 | h
    · omega
    · exact h
  obtain ⟨b, o, rfl, hcs⟩ := hcell'
  have HCS : Hid (∀ k, k < n → ∃ u d, L.getD k dem0 = d ∧ DemOk n d ∧ IntsAt w u d.pl ∧ w.cell? ⟨b, o + k * 3, none⟩ = some u ∧ w.cell? ⟨b, o + k * 3 + 1, none⟩ = some (.bool d.up) ∧ w.cell? ⟨b, o + k * 3 + 2, none⟩ = some (.int .i64 d.bd)) := hid (fun k hk => by
    have hm : ps.getD k pd0 ∈ ps := getD_mem' (by omega)
    obtain ⟨h1, h2, h3⟩ := dcs_get ps k (by omega)
    exact ⟨(ps.getD k pd0).1, (ps.getD k pd0).2, by rw [hL]; exact map_snd_get ps k, hok _ hm, heach _ hm, hcs _ _ h1, hcs _ _ h2, hcs _ _ h3⟩)
  have HLL : Hid (L.length = n ∧ ∀ D ∈ L, DemOk n D) := hid ⟨by rw [hL, List.length_map]; exact hl, fun D hD => by
    rw [hL] at hD
    obtain ⟨p, hp, rfl⟩ := List.mem_map.1 hD
    exact hok p hp⟩
  rw [hl]
  clear hcell hcs heach hok hL hl
  go_enter Try.func83, Try.ntmps83
  go_wp2
  go_loopw [6, 23] (fun v t wr => ∃ (k : Nat) (vr : Value), k ≤ n ∧ t = .int .i64 k ∧ vr = v ∧ Hid (Below w.heap.size w wr ∧ ∃ vs g cp, Rws wr w.heap.size n k vr vs g cp (rows0 n L))) (fun _ t _ => n - (intOf t).toNat)
  case atStart => exact ⟨0, _, Nat.zero_le _, rfl, rfl, hid ⟨(Below.refl _ _).alloc (Nat.le_refl _) _, [], fun _ => 0, fun _ => 0, World.ownsRow_made w #[] 0 (Nat.le_refl _) (by decide) rfl, rfl, fun i hi => by omega, fun i hi => by omega, fun i hi => by omega, fun i hi => by omega⟩⟩
  case round =>
    obtain ⟨k, vr, hk, rfl, rfl, hH⟩ := hrel
    obtain ⟨hBr, vs, g, cp, hR⟩ := hH.out
    have HBr := hid hBr
    have HR := hid hR
    by_cases hkn : k < n
    · have i1 : (k : Int) < (n : Int) := by omega
      obtain ⟨u, d, hd, hdk, hu, e1, e2, e3⟩ := HCS.out k hkn
      have c1 := (hBr.cell (p := ⟨b, o + k * 3, none⟩) (World.block_lt_of_cell? w _ e1)).trans e1
      have c2 := (hBr.cell (p := ⟨b, o + k * 3 + 1, none⟩) (World.block_lt_of_cell? w _ e2)).trans e2
      have c3 := (hBr.cell (p := ⟨b, o + k * 3 + 2, none⟩) (World.block_lt_of_cell? w _ e3)).trans e3
      have HD := hid hd
      have HDK := hid hdk
      have HU := hid hu
      obtain ⟨au, cu, rfl, hcu⟩ := hu
      have HCU := hid hcu
      obtain ⟨m, hm⟩ : ∃ m, m = d.pl.length := ⟨_, rfl⟩
      have HM := hid hm
      have hm7 : m ≤ 7 := by rw [hm]; exact hdk.len
      have hbd : -1 ≤ d.bd ∧ d.bd ≤ 1 := by rcases hdk.bd with h | h <;> omega
      rw [← hm] at c1
      clear hd hdk e1 e2 e3 hcu hm hBr hR hH HU
      go_upto_region 6 with (first | (go_at_call 38; refine (KZ.out _).mono ?_; rintro e w1 ⟨v1, rfl, hown1, hb1⟩))
      obtain ⟨c, cc, rfl, hc1, hc2, hrow⟩ := own_zero hown1
      have hA0 : ArrAt (wr.alloc (.cells #[.slice au m cu, .bool d.up, .int .i64 d.bd] 71)) wr.heap.size 3 (f3 (.slice au m cu) (.bool d.up) (.int .i64 d.bd)) := arrAt_alloc wr 3 (f3 (.slice au m cu) (.bool d.up) (.int .i64 d.bd)) 71
      have hA1 := hA0.below (by omega) hb1
      have hbx : Below wr.heap.size wr w1 := bt ((Below.refl _ _).alloc (Nat.le_refl _) _) hb1
      have hR1 := HR.out.below hbx
      have hne : ∀ i, i < k → g i ≠ c := fun i hi e => by
        have := (HR.out.row i hi).lt
        have h2 : wr.heap.size < (wr.alloc (.cells #[.slice au m cu, .bool d.up, .int .i64 d.bd] 71)).heap.size := by simp
        omega
      have hcd : wr.heap.size ≠ c := fun e => by
        have h2 : wr.heap.size < (wr.alloc (.cells #[.slice au m cu, .bool d.up, .int .i64 d.bd] 71)).heap.size := by simp
        omega
      have hcB : w.heap.size ≤ c := by
        have h2 : wr.heap.size < (wr.alloc (.cells #[.slice au m cu, .bool d.up, .int .i64 d.bd] 71)).heap.size := by simp
        have := HBr.out.size
        omega
      have hB1 := bt HBr.out hbx
      obtain ⟨gd, hgd⟩ : ∃ gd, gd = wr.heap.size := ⟨_, rfl⟩
      rw [← hgd] at hA1 hcd ⊢
      have HX : Hid (Below w.heap.size w w1 ∧ Rws w1 w.heap.size n k vr vs g cp (rows0 n L) ∧ ArrAt w1 gd 3 (f3 (.slice au m cu) (.bool d.up) (.int .i64 d.bd)) ∧ RowAt w1 c n (takeR d.pl 0)) := hid ⟨hB1, hR1, hA1, by
        have : takeR d.pl 0 = fun _ => 0 := by funext i; unfold takeR; rw [List.take_zero, if_neg (by simp)]
        rw [this]; exact hrow⟩
      have HNE := hid hne
      obtain ⟨p0, p1, p2⟩ := hA1.three
      clear hown1 hb1 hA0 hA1 hbx hR1 hne hB1 hrow hc1 hc2 hgd HR HBr c1 c2 c3
      go_wp2
      go_loopw [33] (fun t wr => ∃ j : Nat, j ≤ m ∧ t = .int .i64 j ∧ Hid (Below w.heap.size w wr ∧ Rws wr w.heap.size n k vr vs g cp (rows0 n L) ∧ ArrAt wr gd 3 (f3 (.slice au m cu) (.bool d.up) (.int .i64 d.bd)) ∧ RowAt wr c n (takeR d.pl j))) (fun t _ => m - (intOf t).toNat)
      case atStart => exact ⟨0, Nat.zero_le _, rfl, HX⟩
      case round =>
        obtain ⟨j, hj, rfl, hH⟩ := hrel
        clear HX p0 p1 p2
        by_cases hjm : j < m
        · have i2 : (j : Int) < (m : Int) := by omega
          obtain ⟨b3, o3, rfl, hy⟩ := HCU.out j (by rw [← HM.out]; exact hjm)
          have hjl : j < d.pl.length := by rw [← HM.out]; exact hjm
          have hmem : d.pl.getD j 0 ∈ d.pl := getD_mem' hjl
          have hin := HDK.out.lt _ hmem
          have HS : Hid ((fun i => if i = d.pl.getD j 0 then (1 : Rat) else takeR d.pl j i) = takeR d.pl (j + 1)) := hid (takeR_succ hjl)
          have y1 := (hH.out.1.cell (p := ⟨b3, o3 + j, none⟩) (World.block_lt_of_cell? w _ hy)).trans hy
          obtain ⟨q, hq⟩ : ∃ q, q = d.pl.getD j 0 := ⟨_, rfl⟩
          rw [← hq] at hin HS y1
          have i3 : (q : Int) < (n : Int) + 1 := by omega
          have f1 := RwIs.free hH.out.2.2.2 (q * 2)
          have f2 := RwIs.free hH.out.2.2.2 (q * 2 + 1)
          have t1 := hH.out.2.2.2.num (j := q) (by omega)
          have t2 := hH.out.2.2.2.den (j := q) (by omega)
          have HF : Hid (∀ W', W' = (wr.setCell ⟨c, q * 2, none⟩ (.int .i64 1)).setCell ⟨c, q * 2 + 1, none⟩ (.int .i64 1) → Below w.heap.size w W' ∧ Rws W' w.heap.size n k vr vs g cp (rows0 n L) ∧ ArrAt W' gd 3 (f3 (.slice (some ⟨b3, o3, none⟩) m cu) (.bool d.up) (.int .i64 d.bd)) ∧ RowAt W' c n (takeR d.pl (j + 1))) := hid (fun W' e => by
            subst e
            obtain ⟨h1, h2, h3, h4⟩ := hH.out
            refine ⟨(h1.setCell hcB _).setCell hcB _, (h2.other h4 HNE.out _ _).other (RwIs.set h4 _ _) HNE.out _ _, (h3.move (Below.heap_setCell _ _ _ _ hcd)).move (Below.heap_setCell _ _ _ _ hcd), ?_⟩
            rw [← HS.out]
            exact h4.set q 1)
          clear hy hq hmem hjl hH
          go_wp2
          go_roundw
          case rel => exact ⟨j + 1, by omega, by go_num, hid (HF.out _ rfl)⟩
          case measure => simp [intOf]; omega
        · obtain rfl : j = m := by omega
          have i2 : ¬ ((j : Int) < (j : Int)) := by omega
          have i3 : (n : Int) < (n : Int) + 1 := by omega
          obtain ⟨p0, p1, p2⟩ := hH.out.2.2.1.three
          have f1 := RwIs.free hH.out.2.2.2 (n * 2)
          have f2 := RwIs.free hH.out.2.2.2 (n * 2 + 1)
          have t1 := hH.out.2.2.2.num (j := n) (by omega)
          have t2 := hH.out.2.2.2.den (j := n) (by omega)
          have HF : Hid (∀ W', W' = (wr.setCell ⟨c, n * 2, none⟩ (.int .i64 d.bd)).setCell ⟨c, n * 2 + 1, none⟩ (.int .i64 1) → Below w.heap.size w W' ∧ Rws W' w.heap.size n k vr vs g cp (rows0 n L) ∧ ∃ r, RowAt W' c n r ∧ ∀ j, j ≤ n → r j = rows0 n L k j) := hid (fun W' e => by
            subst e
            obtain ⟨h1, h2, h3, h4⟩ := hH.out
            refine ⟨(h1.setCell hcB _).setCell hcB _, (h2.other h4 HNE.out _ _).other (RwIs.set h4 _ _) HNE.out _ _, _, h4.set n (((d.bd : Int) : Rat)), ?_⟩
            rw [HM.out]
            exact row_done HD.out)
          clear hH
          go_upto_region 12 with fail
          obtain ⟨W', hW'⟩ : ∃ W', W' = (wr.setCell ⟨c, n * 2, none⟩ (.int .i64 d.bd)).setCell ⟨c, n * 2 + 1, none⟩ (.int .i64 1) := ⟨_, rfl⟩
          obtain ⟨h1, h2, r, h4, h5⟩ := HF.out _ hW'
          rw [← hW']
          clear hW' HF p0 p1 p2 f1 f2 t1 t2
          have hown := h2.own
          go_wp2_with (first
            | (at_builtin; refine wpList_append_own _ rfl _ _ 142 rfl w.heap.size 29 i0 (.slice none 0 0) 1 24 Try.underlying142 hi hz0 hz1 hz2 rfl (by decide) _ _ _ rfl (hown.alloc _) ⟨W'.heap.size, 0, none⟩ 1 1 [.slice (some ⟨c, 0, none⟩) (n + 1) cc] rfl rfl ?c1 ?c2 ?c3 ?c4 ?c5 ?_))
          case c2 => rfl
          case c3 => unfold maxLen; omega
          case c4 => omega
          case c5 => have := h1.size; simp; omega
          intro v' w3 hown' hgrow _
          have hst := h2.step h4 hcB HNE.out h5 hown' hgrow
          have hbl := own_grow2 h1.size h2.own h1 hgrow
          have HF : Hid (Below w.heap.size w w3 ∧ ∃ vs g cp, Rws w3 w.heap.size n (k + 1) v' vs g cp (rows0 n L)) := hid ⟨hbl, _, _, _, hst⟩
          clear hst hbl hown hown' hgrow h1 h2 h4 h5
          go_wp2
          go_roundw
          case rel => exact ⟨k + 1, _, by omega, by go_num, rfl, HF⟩
          case measure => simp [intOf]; omega
    · obtain rfl : n = k := by omega
      have i1 : ¬ ((n : Int) < (n : Int)) := by omega
      obtain ⟨G, cG, hvr, hM0⟩ := HR.out.mat (by omega)
      subst hvr
      have HM0 : Hid (Below w.heap.size w wr ∧ ∃ g cp R T B s piv, Mat wr w.heap.size G n g cp R ∧ Cov.GJ n 0 (rows0 n L) R T B s piv) := hid ⟨HBr.out, g, cp, _, _, _, _, _, hM0, Cov.gj_start n _⟩
      have HW : Hid (∀ j, j ≤ n → ∀ r, r < n → Cov.Whole 1 (rows0 n L r j)) := hid (fun j _ r hr => rows0_whole HLL.out.2 (by rw [HLL.out.1]; exact hr))
      clear hM0 HR HBr hH hBr hR KZ HCS
      go_wp2
      go_loopw [12] (fun t wr => ∃ c : Nat, c ≤ n ∧ t = .int .i64 c ∧ Hid (Below w.heap.size w wr ∧ ∃ g cp R T B s piv, Mat wr w.heap.size G n g cp R ∧ Cov.GJ n c (rows0 n L) R T B s piv)) (fun t _ => n - (intOf t).toNat)
      case atStart => exact ⟨0, Nat.zero_le _, rfl, HM0⟩
      case round =>
        clear HM0 g cp vs
        obtain ⟨c, hc, rfl, hH⟩ := hrel
        obtain ⟨hBr, g, cp, R, T, B, s, piv, hM, hJ⟩ := hH.out
        generalize wr = W3 at *
        have HB := hid hBr
        have HM := hid hM
        have HJ := hid hJ
        clear hBr hM hJ hH
        by_cases hcn : c < n
        · have i2 : (c : Int) < (n : Int) := by omega
          have i4 : (c : Int) < (n : Int) + 1 := by omega
          go_wp2
          go_loopw [13] (fun t wr => ∃ p : Nat, c ≤ p ∧ p ≤ n ∧ t = .int .i64 p ∧ Hid (wr = W3 ∧ ∀ q, c ≤ q → q < p → R q c = 0)) (fun t _ => n - (intOf t).toNat)
          case atStart => exact ⟨c, Nat.le_refl _, hc, rfl, hid ⟨rfl, fun q h1 h2 => by omega⟩⟩
          case round =>
            obtain ⟨p, hcp, hpn, rfl, hP⟩ := hrel
            obtain rfl : W3 = wr := hP.out.1.symm
            have HZ := hid hP.out.2
            clear hP
            by_cases hpl : p < n
            · have i3 : (p : Int) < (n : Int) := by omega
              have e1 := HM.out.head hpl
              have e2 := (HM.out.row p hpl).num (j := c) (by omega)
              by_cases hz0 : R p c = 0
              · have hnum : (R p c).num = 0 := by rw [hz0]; rfl
                rw [hnum] at e2
                have HZ0 := hid hz0
                clear hnum hz0
                go_wp2
                go_roundw
                case rel => exact ⟨p + 1, by omega, by omega, by go_num, hid ⟨by trivial, fun q h1 h2 => by
                  by_cases e : q = p
                  · rw [e]; exact HZ0.out
                  · exact HZ.out q h1 (by omega)⟩⟩
                case measure => simp [intOf]; omega
              · have hnum : ¬ (R p c).num = 0 := num_ne hz0
                have hnb : ((R p c).num == 0) = false := by simp [hnum]
                have i5 : ¬ ((p : Int) = (n : Int)) := by omega
                have i6 : ((p : Int) == (n : Int)) = false := by simp; omega
                have e3 := HM.out.head hcn
                obtain ⟨u4, e4⟩ : ∃ u, (W3.setCell ⟨G, p, none⟩ (.slice (some ⟨g c, 0, none⟩) (n + 1) (cp c))).cell? ⟨G, c, none⟩ = some u := ⟨_, (HM.out.top.set p _).cell hcn⟩
                have f1 := HM.out.top.free p
                have f2 := HM.out.top.free c
                have hM4 := HM.out.swap hcn hpl
                have hB4 : Below w.heap.size w ((W3.setCell ⟨G, p, none⟩ (.slice (some ⟨g c, 0, none⟩) (n + 1) (cp c))).setCell ⟨G, c, none⟩ (.slice (some ⟨g p, 0, none⟩) (n + 1) (cp p))) := (HB.out.setCell HM.out.base.1 _).setCell HM.out.base.1 _
                have hQ1 : ∀ i, i < n → ∀ j, j ≤ n → Sm 25401600 (Cov.swpR R c p i j) := fun i hi j hj => by
                  obtain ⟨k, hk, e⟩ := swp_some (R := R) hcn hpl hi
                  rw [e]; exact gj_all HJ.out HW.out hn hk hj
                have hQ2 : ∀ j, j ≤ n → Sm 5040 (Cov.swpR R c p c j) := fun j hj => by
                  rw [swp_top]; exact gj_row HJ.out HW.out hn hcp hpl hj
                have hQ3 : ∀ i, i < n → Sm 25401600 (Cov.swpR R c p i c / Cov.swpR R c p c c) := fun i hi => by
                  obtain ⟨k, hk, e⟩ := swp_some (R := R) hcn hpl hi
                  rw [e, swp_top]; exact gj_f HJ.out HW.out hn hcp hpl hz0 hk
                have hQ4 : Cov.swpR R c p c c ≠ 0 := by rw [swp_top]; exact hz0
                have hJ' := Cov.gj_step HJ.out HW.out hcp hpl hz0
                have HQ1 := hid hQ1
                have HQ2 := hid hQ2
                have HQ3 := hid hQ3
                have HQ4 := hid hQ4
                have HJ' := hid hJ'
                have HM4 := hid hM4
                have HB4 := hid hB4
                clear hQ1 hQ2 hQ3 hQ4 hJ' hM4 hB4 hz0
                go_upto_region 25 with fail
                generalize (W3.setCell ⟨G, p, none⟩ (.slice (some ⟨g c, 0, none⟩) (n + 1) (cp c))).setCell ⟨G, c, none⟩ (.slice (some ⟨g p, 0, none⟩) (n + 1) (cp p)) = W4 at *
                generalize Cov.swpR R c p = Q at *
                generalize Cov.swp g c p = g' at *
                generalize Cov.swp cp c p = cp' at *
                clear e1 e2 e3 e4 f1 f2 HM HB HZ hnum hnb HJ
                go_wp2
                go_loopw [95] (fun t wr => ∃ r : Nat, r ≤ n ∧ t = .int .i64 r ∧ Hid (Below w.heap.size w wr ∧ Mat wr w.heap.size G n g' cp' (mixR Q c r))) (fun t _ => n - (intOf t).toNat)
                case atStart => exact ⟨0, Nat.zero_le _, rfl, hid ⟨HB4.out, HM4.out.congr (fun i _ j _ => mixR_zero Q c i j)⟩⟩
                case round =>
                  clear HM4 HB4
                  obtain ⟨r, hr, rfl, hH⟩ := hrel
                  by_cases hrn : r < n
                  · have i7 : (r : Int) < (n : Int) := by omega
                    generalize wr = W5 at *
                    by_cases hrc : r = c
                    · subst hrc
                      have HX := hH
                      clear hH
                      go_wp2
                      go_roundw
                      case rel => exact ⟨r + 1, by omega, by go_num, hid ⟨HX.out.1, HX.out.2.congr (fun i _ j _ => mixR_same (Or.inl rfl) i j)⟩⟩
                      case measure => simp [intOf]; omega
                    · have i8 : ¬ ((r : Int) = (c : Int)) := by omega
                      have i9 : ((r : Int) == (c : Int)) = false := by simp; omega
                      have HB5 := hid hH.out.1
                      have HM5 := hid hH.out.2
                      have e1 := hH.out.2.head hrn
                      have e2 := (hH.out.2.row r hrn).num (j := c) (by omega)
                      rw [mixR_cur] at e2
                      clear hH
                      by_cases hz0 : Q r c = 0
                      · have hnum : (Q r c).num = 0 := by rw [hz0]; rfl
                        rw [hnum] at e2
                        have HZ0 := hid hz0
                        clear hnum hz0
                        go_wp2
                        go_roundw
                        case rel => exact ⟨r + 1, by omega, by go_num, hid ⟨HB5.out, HM5.out.congr (fun i _ j _ => mixR_same (Or.inr HZ0.out) i j)⟩⟩
                        case measure => simp [intOf]; omega
                      · have hnum : ¬ (Q r c).num = 0 := num_ne hz0
                        have hnb : ((Q r c).num == 0) = false := by simp [hnum]
                        have HZ0 := hid hz0
                        have e3 := HM5.out.head hcn
                        have e4 := (HM5.out.row r hrn).den (j := c) (by omega)
                        have e5 := (HM5.out.row c hcn).num (j := c) (by omega)
                        have e6 := (HM5.out.row c hcn).den (j := c) (by omega)
                        rw [mixR_cur] at e4
                        rw [mixR_piv] at e5 e6
                        have KO : Hid (∀ W, Calls Try.prog 107 #[.agg #[.int .i64 (Q r c).num, .int .i64 (Q r c).den], .agg #[.int .i64 (Q c c).num, .int .i64 (Q c c).den]] W fun e w' => e = .returned (.agg #[.int .i64 (Q r c / Q c c).num, .int .i64 (Q r c / Q c c).den]) ∧ Below W.heap.size W w') := hid (fun W => soverV _ _ W (HQ1.out r hrn c (by omega)) (HQ2.out c (by omega)) (by decide) HQ4.out)
                        obtain ⟨f, hf⟩ : ∃ f, f = Q r c / Q c c := ⟨_, rfl⟩
                        rw [← hf] at KO
                        have HF := hid hf
                        clear hf hz0
                        go_upto_region 29 with fail
                        go_cut [16] (fun v wx => ∃ gf, v = .pointer (some ⟨gf, 0, none⟩) ∧ Hid (Below w.heap.size w wx ∧ Mat wx w.heap.size G n g' cp' (mixR Q c r) ∧ Two wx gf f.num f.den ∧ (∀ i, i < n → g' i ≠ gf) ∧ w.heap.size ≤ gf))
                        case first =>
                          have FX : Hid (∀ W, Below W5.heap.size W5 W → W.cell? ⟨G, r, none⟩ = some (.slice (some ⟨g' r, 0, none⟩) (n + 1) (cp' r)) ∧ W.cell? ⟨G, c, none⟩ = some (.slice (some ⟨g' c, 0, none⟩) (n + 1) (cp' c)) ∧ W.cell? ⟨g' r, c * 2, none⟩ = some (.int .i64 (Q r c).num) ∧ W.cell? ⟨g' r, c * 2 + 1, none⟩ = some (.int .i64 (Q r c).den) ∧ W.cell? ⟨g' c, c * 2, none⟩ = some (.int .i64 (Q c c).num) ∧ W.cell? ⟨g' c, c * 2 + 1, none⟩ = some (.int .i64 (Q c c).den)) := hid (fun W hW => by
                            have h := HM5.out.below hW
                            have a4 := (h.row r hrn).num (j := c) (by omega)
                            have a5 := (h.row r hrn).den (j := c) (by omega)
                            have a6 := (h.row c hcn).num (j := c) (by omega)
                            have a7 := (h.row c hcn).den (j := c) (by omega)
                            rw [mixR_cur] at a4 a5
                            rw [mixR_piv] at a6 a7
                            exact ⟨h.head hrn, h.head hcn, a4, a5, a6, a7⟩)
                          obtain ⟨l1, l2, l3, l4, l5, l6⟩ := FX.out (W5.alloc (.cells #[.int .i64 0, .int .i64 0] 28)) ((Below.refl _ _).alloc (Nat.le_refl _) _)
                          go_region_law (first
                            | (go_simp; go_at_call 107; refine (KO.out _).mono ?_; rintro e w6 ⟨rfl, hb6⟩; have hBn : Below W5.heap.size W5 w6 := drew_below hb6; obtain ⟨k1, k2, k3, k4, k5, k6⟩ := FX.out w6 hBn)
                            | (go_simp; go_at_call 107; refine (KO.out _).mono ?_; rintro e w6 ⟨rfl, hb6⟩; have hBn : Below W5.heap.size W5 w6 := drew_alloc_below hb6; obtain ⟨z1, z2, z3, z4⟩ := two_drew hb6; obtain ⟨k1, k2, k3, k4, k5, k6⟩ := FX.out w6 hBn))
                          all_goals
                            go_wp2_with fail
                            go_meet
                            first
                              | exact ⟨_, rfl, hid (over_late HB5.out HM5.out hBn _ _ _)⟩
                              | exact ⟨_, rfl, hid (over_early HB5.out HM5.out hb6 _ _)⟩
                        case rest =>
                          obtain ⟨gf, rfl, hX⟩ := hcut
                          clear e1 e2 e3 e4 e5 e6 KO HM5 HB5 hnum hnb
                          generalize wc = W6 at *
                          go_wp2
                          go_loopw [17] (fun t wr => ∃ j : Nat, c ≤ j ∧ j ≤ n + 1 ∧ t = .int .i64 j ∧ Hid (Below w.heap.size w wr ∧ Mat wr w.heap.size G n g' cp' (mixE Q c r j) ∧ Two wr gf f.num f.den)) (fun t _ => n + 1 - (intOf t).toNat)
                          case atStart => exact ⟨c, Nat.le_refl _, by omega, rfl, hid ⟨hX.out.1, hX.out.2.1.congr (fun i _ j _ => mixE_start Q c r i j), hX.out.2.2.1⟩⟩
                          case round =>
                            have HNE := hid hX.out.2.2.2.1
                            clear hX
                            obtain ⟨j, hcj, hjn, rfl, hH⟩ := hrel
                            by_cases hjl : j < n + 1
                            · have i10 : (j : Int) ≤ (n : Int) := by omega
                              have i11 : (j : Int) < (n : Int) + 1 := by omega
                              have HB7 := hid hH.out.1
                              have HM7 := hid hH.out.2.1
                              have HT7 := hid hH.out.2.2
                              clear hH
                              generalize wr = W7 at *
                              have FX : Hid (∀ W, Below W7.heap.size W7 W → (W.cell? ⟨G, r, none⟩ = some (.slice (some ⟨g' r, 0, none⟩) (n + 1) (cp' r)) ∧ W.cell? ⟨G, c, none⟩ = some (.slice (some ⟨g' c, 0, none⟩) (n + 1) (cp' c))) ∧ (W.cell? ⟨g' r, j * 2, none⟩ = some (.int .i64 (Q r j).num) ∧ W.cell? ⟨g' r, j * 2 + 1, none⟩ = some (.int .i64 (Q r j).den)) ∧ (W.cell? ⟨g' c, j * 2, none⟩ = some (.int .i64 (Q c j).num) ∧ W.cell? ⟨g' c, j * 2 + 1, none⟩ = some (.int .i64 (Q c j).den)) ∧ (W.cell? ⟨gf, 0, none⟩ = some (.int .i64 f.num) ∧ W.cell? ⟨gf, 1, none⟩ = some (.int .i64 f.den)) ∧ W.frozen? ⟨g' r, j * 2, none⟩ = false ∧ W.frozen? ⟨g' r, j * 2 + 1, none⟩ = false) := hid (fun W hW => by
                                have h := HM7.out.below hW
                                have a4 := (h.row r hrn).num (j := j) (by omega)
                                have a5 := (h.row r hrn).den (j := j) (by omega)
                                have a6 := (h.row c hcn).num (j := j) (by omega)
                                have a7 := (h.row c hcn).den (j := j) (by omega)
                                rw [mixE_cur] at a4 a5
                                rw [mixE_piv] at a6 a7
                                have ht := HT7.out.below (World.block_lt_of_cell? W7 _ HT7.out.1) hW
                                exact ⟨⟨h.head hrn, h.head hcn⟩, ⟨a4, a5⟩, ⟨a6, a7⟩, ⟨ht.1, ht.2.1⟩, RwIs.free (h.row r hrn) _, RwIs.free (h.row r hrn) _⟩)
                              have KT : Hid (∀ W, Calls Try.prog 109 #[.agg #[.int .i64 f.num, .int .i64 f.den], .agg #[.int .i64 (Q c j).num, .int .i64 (Q c j).den]] W fun e w' => e = .returned (.agg #[.int .i64 (f * Q c j).num, .int .i64 (f * Q c j).den]) ∧ Below W.heap.size W w') := hid (fun W => stimesV _ _ W (by rw [HF.out]; exact HQ3.out r hrn) (HQ2.out j (by omega)) (by decide))
                              have KN : Hid (∀ W, Calls Try.prog 108 #[.agg #[.int .i64 (Q r j).num, .int .i64 (Q r j).den], .agg #[.int .i64 (f * Q c j).num, .int .i64 (f * Q c j).den]] W fun e w' => e = .returned (.agg #[.int .i64 (Q r j - f * Q c j).num, .int .i64 (Q r j - f * Q c j).den]) ∧ Below W.heap.size W w') := hid (fun W => sminusV _ _ W (HQ1.out r hrn j (by omega)) ((show Sm 25401600 f by rw [HF.out]; exact HQ3.out r hrn).mul (HQ2.out j (by omega))) (by decide))
                              have HQQ : Hid (Q r j - f * Q c j = Q r j - Q r c / Q c c * Q c j) := hid (by rw [HF.out])
                              generalize Q r j - f * Q c j = z at *
                              generalize f * Q c j = y at *
                              have hBd : Below W7.heap.size W7 W7.drew := (Below.refl _ _).drew
                              have HZE : Hid (z = Q r j - Q r c / Q c c * Q c j) := HQQ
                              clear HQQ
                              go_upto_block 11 with fail
                              go_cut [17] (fun v wx => v = .int .i64 j ∧ Hid (Below w.heap.size w wx ∧ Mat wx w.heap.size G n g' cp' (mixE Q c r (j + 1)) ∧ Two wx gf f.num f.den))
                              case first =>
                                obtain ⟨⟨k1, k2⟩, ⟨k3, k4⟩, ⟨k5, k6⟩, ⟨k7, k8⟩, k9, k10⟩ := FX.out W7 (Below.refl _ _)
                                clear HQ1 HQ2 HQ3 HQ4 HJ' HLL HW
                                go_wp2_with fail
                                have KP : Hid (∀ W, Below W7.heap.size W7 W → W.cell? ⟨G, r, none⟩ = some (.slice (some ⟨g' r, 0, none⟩) (n + 1) (cp' r)) ∧ W.cell? ⟨G, c, none⟩ = some (.slice (some ⟨g' c, 0, none⟩) (n + 1) (cp' c)) ∧ W.cell? ⟨g' c, j * 2, none⟩ = some (.int .i64 (Q c j).num) ∧ W.cell? ⟨g' c, j * 2 + 1, none⟩ = some (.int .i64 (Q c j).den) ∧ W.cell? ⟨gf, 0, none⟩ = some (.int .i64 f.num) ∧ W.cell? ⟨gf, 1, none⟩ = some (.int .i64 f.den)) := hid (fun W hW => by
                                  obtain ⟨⟨m1, m2⟩, ⟨m3, m4⟩, ⟨m5, m6⟩, ⟨m7, m8⟩, m9, m10⟩ := FX.out W hW
                                  exact ⟨m1, m2, m5, m6, m7, m8⟩)
                                have KQ : Hid (∀ W, Below W7.heap.size W7 W → ((W.setCell ⟨g' r, j * 2, none⟩ (.int .i64 z.num)).setCell ⟨g' r, j * 2 + 1, none⟩ (.int .i64 z.den)).cell? ⟨G, r, none⟩ = some (.slice (some ⟨g' r, 0, none⟩) (n + 1) (cp' r)) ∧ ((W.setCell ⟨g' r, j * 2, none⟩ (.int .i64 z.num)).setCell ⟨g' r, j * 2 + 1, none⟩ (.int .i64 z.den)).cell? ⟨G, c, none⟩ = some (.slice (some ⟨g' c, 0, none⟩) (n + 1) (cp' c)) ∧ ((W.setCell ⟨g' r, j * 2, none⟩ (.int .i64 z.num)).setCell ⟨g' r, j * 2 + 1, none⟩ (.int .i64 z.den)).cell? ⟨g' c, j * 2, none⟩ = some (.int .i64 (Q c j).num) ∧ ((W.setCell ⟨g' r, j * 2, none⟩ (.int .i64 z.num)).setCell ⟨g' r, j * 2 + 1, none⟩ (.int .i64 z.den)).cell? ⟨g' c, j * 2 + 1, none⟩ = some (.int .i64 (Q c j).den) ∧ ((W.setCell ⟨g' r, j * 2, none⟩ (.int .i64 z.num)).setCell ⟨g' r, j * 2 + 1, none⟩ (.int .i64 z.den)).cell? ⟨gf, 0, none⟩ = some (.int .i64 f.num) ∧ ((W.setCell ⟨g' r, j * 2, none⟩ (.int .i64 z.num)).setCell ⟨g' r, j * 2 + 1, none⟩ (.int .i64 z.den)).cell? ⟨gf, 1, none⟩ = some (.int .i64 f.den)) := hid (fun W hW => by
                                  obtain ⟨h1, h2, h3⟩ := mat_store HB7.out HM7.out HT7.out hW hrn HNE.out hrc HZ0.out hcj HZE.out
                                  have a6 := (h2.row c hcn).num (j := j) (by omega)
                                  have a7 := (h2.row c hcn).den (j := j) (by omega)
                                  rw [mixE_piv] at a6 a7
                                  exact ⟨h2.head hrn, h2.head hcn, a6, a7, h3.1, h3.2.1⟩)
                                refine wp_region_held_drew (S := fun w' => w'.cell? ⟨G, r, none⟩ = some (.slice (some ⟨g' r, 0, none⟩) (n + 1) (cp' r)) ∧ w'.cell? ⟨G, c, none⟩ = some (.slice (some ⟨g' c, 0, none⟩) (n + 1) (cp' c)) ∧ w'.cell? ⟨g' c, j * 2, none⟩ = some (.int .i64 (Q c j).num) ∧ w'.cell? ⟨g' c, j * 2 + 1, none⟩ = some (.int .i64 (Q c j).den) ∧ w'.cell? ⟨gf, 0, none⟩ = some (.int .i64 f.num) ∧ w'.cell? ⟨gf, 1, none⟩ = some (.int .i64 f.den)) (by kernel_rfl) (KP.out _ hBd) (fun hHeld => ?_)
                                refine wTk 0 ?_
                                try simp only [Act.put, List.setIfInBounds_toArray]
                                refine wTk 1 ?_
                                try simp only [Act.put]
                                refine wTk 2 ?_
                                try simp only [Act.put]
                                refine wTk 3 ?_
                                try simp only [Act.put]
                                refine wTk 4 ?_
                                try simp only [Act.put]
                                refine wTk 5 ?_
                                try simp only [Act.put]
                                refine wTk 6 ?_
                                try simp only [Act.put]
                                refine wTk 7 ?_
                                try simp only [Act.put]
                                refine wTk 8 ?_
                                try simp only [Act.put]
                                refine wTk 9 ?_
                                try simp only [Act.put]
                                refine wTk 10 ?_
                                try simp only [Act.put]
                                refine wTk 12 ?_
                                try simp only [Act.put]
                                refine wTk 13 ?_
                                try simp only [Act.put]
                                refine wTk 14 ?_
                                try simp only [Act.put]
                                refine wTk 15 ?_
                                try simp only [Act.put]
                                refine wTk 16 ?_
                                try simp only [Act.put]
                                refine wTk 17 ?_
                                try simp only [Act.put]
                                refine wTk 18 ?_
                                try simp only [Act.put]
                                refine wTk 19 ?_
                                try simp only [Act.put]
                                refine wpAnyH_ready (rs := [11, 20]) (by kernel_rfl) (by simp) ?_
                                refine AllReadyH.cons rfl (fun K hK => ?_) (AllReadyH.cons rfl (fun K hK => ?_) AllReadyH.nil)
                                focus
                                  go_simp
                                  refine hK.out _ _ (KP.out _ hBd) (fun hHeld => ?_)
                                  clear hK K
                                  try simp only [Act.put, List.setIfInBounds_toArray, List.set_cons_zero, List.set_cons_succ]
                                  refine wpAnyH_ready (rs := [20]) (by kernel_rfl) (by simp) ?_
                                  refine AllReadyH.cons rfl (fun K hK => ?_) AllReadyH.nil
                                  go_simp
                                  go_at_call 109
                                  refine (KT.out _).mono ?_
                                  rintro e w8 ⟨rfl, hb8⟩
                                  have hB8 : Below W7.heap.size W7 w8 := bt hBd hb8
                                  obtain ⟨⟨m1, m2⟩, ⟨m3, m4⟩, ⟨m5, m6⟩, ⟨m7, m8⟩, m9, m10⟩ := FX.out w8 hB8
                                  go_wp2_with fail
                                  refine hK.out _ _ (KP.out _ hB8) (fun hHeld => ?_)
                                  clear hK K
                                  try simp only [Act.put, List.setIfInBounds_toArray, List.set_cons_zero, List.set_cons_succ]
                                rotate_left
                                focus
                                  go_simp
                                  go_at_call 109
                                  refine (KT.out _).mono ?_
                                  rintro e w8 ⟨rfl, hb8⟩
                                  have hB8 : Below W7.heap.size W7 w8 := bt hBd hb8
                                  obtain ⟨⟨m1, m2⟩, ⟨m3, m4⟩, ⟨m5, m6⟩, ⟨m7, m8⟩, m9, m10⟩ := FX.out w8 hB8
                                  go_wp2_with fail
                                  refine hK.out _ _ (KP.out _ hB8) (fun hHeld => ?_)
                                  clear hK K
                                  try simp only [Act.put, List.setIfInBounds_toArray, List.set_cons_zero, List.set_cons_succ]
                                  refine wpAnyH_ready (rs := [11]) (by kernel_rfl) (by simp) ?_
                                  refine AllReadyH.cons rfl (fun K hK => ?_) AllReadyH.nil
                                  go_simp
                                  refine hK.out _ _ (KP.out _ hB8) (fun hHeld => ?_)
                                  clear hK K
                                  try simp only [Act.put, List.setIfInBounds_toArray, List.set_cons_zero, List.set_cons_succ]
                                all_goals
                                  refine wpAnyH_ready (rs := [21]) (by kernel_rfl) (by simp) ?_
                                  refine AllReadyH.cons rfl (fun K hK => ?_) AllReadyH.nil
                                  go_simp
                                  go_at_call 108
                                  refine (KN.out _).mono ?_
                                  rintro e w9 ⟨rfl, hb9⟩
                                  have hB9 : Below W7.heap.size W7 w9 := bt hB8 hb9
                                  obtain ⟨⟨n1, n2⟩, ⟨n3, n4⟩, ⟨n5, n6⟩, ⟨n7, n8⟩, n9, n10⟩ := FX.out w9 hB9
                                  go_wp2_with fail
                                  refine hK.out _ _ (KP.out _ hB9) (fun hHeld => ?_)
                                  clear hK K
                                  try simp only [Act.put, List.setIfInBounds_toArray, List.set_cons_zero, List.set_cons_succ]
                                  refine wTk 22 ?_
                                  try simp only [Act.put, List.setIfInBounds_toArray]
                                  refine wpAnyH_ready (rs := [23]) (by kernel_rfl) (by simp) ?_
                                  refine AllReadyH.cons rfl (fun K hK => ?_) AllReadyH.nil
                                  go_simp
                                  refine hK.out _ _ (KQ.out _ hB9) (fun hHeld => ?_)
                                  clear hK K
                                  try simp only [Act.put, List.setIfInBounds_toArray, List.set_cons_zero, List.set_cons_succ]
                                  refine wpAnyH_done (by kernel_rfl) ?_ _
                                  go_wp2_with fail
                                  go_meet
                                  exact ⟨rfl, hid (mat_store HB7.out HM7.out HT7.out hB9 hrn HNE.out hrc HZ0.out hcj HZE.out)⟩
                              case rest =>
                                obtain ⟨rfl, hE⟩ := hcut
                                clear KT KN FX hBd
                                go_wp2
                                go_roundw
                                case rel => exact ⟨j + 1, by omega, by omega, by go_num, hE⟩
                                case measure => simp [intOf]; omega
                            · obtain rfl : j = n + 1 := by omega
                              have i10 : ¬ (((n + 1 : Nat) : Int) ≤ (n : Int)) := by omega
                              have HX := hH
                              clear hH
                              go_wp2
                              go_roundw
                              case rel => exact ⟨r + 1, by omega, by go_num, hid ⟨HX.out.1, HX.out.2.1.congr (fun i _ j hj => mixE_end hj)⟩⟩
                              case measure => simp [intOf]; omega
                  · obtain rfl : r = n := by omega
                    have i7 : ¬ ((r : Int) < (r : Int)) := by omega
                    have HX := hH
                    clear hH
                    go_wp2
                    go_roundw
                    case rel => exact ⟨c + 1, by omega, by go_num, hid ⟨HX.out.1, g', cp', _, _, _, _, _, HX.out.2.congr (fun i hi j _ => if_pos hi), HJ'.out⟩⟩
                    case measure => simp [intOf]; omega
            · obtain rfl : p = n := by omega
              have i3 : ¬ ((p : Int) < (p : Int)) := by omega
              have HN : Hid (¬ Cov.Kern p (L.map Dem.dm)) := hid (gj_notKern HLL.out.1 HJ.out hcn HZ.out)
              go_wp2
              go_ret2
              exact ⟨Or.inl ⟨rfl, HN.out⟩, HB.out⟩
        · obtain rfl : c = n := by omega
          have i2 : ¬ ((c : Int) < (c : Int)) := by omega
          obtain ⟨hG1, hG2⟩ := Cov.gj_end HJ.out
          obtain ⟨x, hx⟩ : ∃ x : Nat → Rat, x = fun i => T (s i) (c + c) := ⟨_, rfl⟩
          have HG : Hid (∀ i, i < c → R i i ≠ 0 ∧ R i c / R i i = x i) := hid (fun i hi => by rw [hx]; exact hG1 i hi)
          have HR : Hid (Parts c x ∧ Only c L x ∧ Cov.Kern c (L.map Dem.dm)) := hid (by
            rw [hx]
            exact ⟨gj_parts HJ.out HW.out hn, gj_only HLL.out.1 HJ.out, gj_kern HLL.out.1 HJ.out⟩)
          have HS1 : Hid (∀ i, i < c → ∀ j, j ≤ c → Sm 25401600 (R i j)) := hid (fun i hi j hj => gj_all HJ.out HW.out hn hi hj)
          clear hG1 hG2 hx HJ HW HLL
          obtain ⟨j0, hj, hy0, hy1, hy2⟩ := info_parts Try.infoRatS
          go_wp2
          go_loopw [18, 19] (fun v t wr => ∃ (k : Nat) (vx : Value), k ≤ c ∧ t = .int .i64 k ∧ vx = v ∧ Hid (Below W3.heap.size W3 wr ∧ wr.ownsRow W3.heap.size 28 2 vx k (rcs (prs k x)))) (fun _ t _ => c - (intOf t).toNat)
          case atStart => exact ⟨0, _, Nat.zero_le _, rfl, rfl, hid ⟨(Below.refl _ _).alloc (Nat.le_refl _) _, World.ownsRow_made W3 #[] 0 (Nat.le_refl _) (by decide) rfl⟩⟩
          case round =>
            obtain ⟨k, vx, hk, rfl, rfl, hH⟩ := hrel
            have HB8 := hid hH.out.1
            have hown := hH.out.2
            clear hH
            by_cases hkc : k < c
            · have i3 : (k : Int) < (c : Int) := by omega
              have i4 : (c : Int) < (c : Int) + 1 := by omega
              have i5 : (k : Int) < (c : Int) + 1 := by omega
              have KO : Hid (∀ W, Calls Try.prog 107 #[.agg #[.int .i64 (R k c).num, .int .i64 (R k c).den], .agg #[.int .i64 (R k k).num, .int .i64 (R k k).den]] W fun e w' => e = .returned (.agg #[.int .i64 (x k).num, .int .i64 (x k).den]) ∧ Below W.heap.size W w') := hid (fun W => by
                have := soverV (R k c) (R k k) W (HS1.out k hkc c (Nat.le_refl _)) (HS1.out k hkc k (by omega)) (by decide) (HG.out k hkc).1
                rw [(HG.out k hkc).2] at this
                exact this)
              have FX : Hid (∀ W, Below wr.heap.size wr W → W.cell? ⟨G, k, none⟩ = some (.slice (some ⟨g k, 0, none⟩) (c + 1) (cp k)) ∧ W.cell? ⟨g k, c * 2, none⟩ = some (.int .i64 (R k c).num) ∧ W.cell? ⟨g k, c * 2 + 1, none⟩ = some (.int .i64 (R k c).den) ∧ W.cell? ⟨g k, k * 2, none⟩ = some (.int .i64 (R k k).num) ∧ W.cell? ⟨g k, k * 2 + 1, none⟩ = some (.int .i64 (R k k).den)) := hid (fun W hW => by
                have h := HM.out.below (bt HB8.out hW)
                exact ⟨h.head hkc, (h.row k hkc).num (Nat.le_refl _), (h.row k hkc).den (Nat.le_refl _), (h.row k hkc).num (by omega), (h.row k hkc).den (by omega)⟩)
              obtain ⟨k1, k2, k3, k4, k5⟩ := FX.out wr (Below.refl _ _)
              have HSU : Hid (rcs (prs (k + 1) x) = rcs (prs k x) ++ [.int .i64 (x k).num, .int .i64 (x k).den]) := hid (rcs_prs_succ k x)
              generalize (x k).num = z1 at *
              generalize (x k).den = z2 at *
              have hBd : Below wr.heap.size wr wr.drew := (Below.refl _ _).drew
              have hs8 := HB8.out.size
              go_upto_region 39 with fail
              go_region_law (first
                | (refine step_append_lies _ (by rfl) _ _ _ (by rfl) W3.heap.size 28 j0 (.agg #[.int .i64 0, .int .i64 0]) 2 16 Try.underlying29 hj hy0 hy1 hy2 rfl (by decide) vx k (rcs (prs k x)) (by rfl) ((own_below hown hBn).alloc _) ⟨w9.heap.size, 0, none⟩ 1 1 [.int .i64 z1, .int .i64 z2] (by rfl) (by rfl) (new2_cell _ _ _ _) (fun u hu => by simp at hu; rcases hu with rfl | rfl <;> rfl) (by decide) (by unfold maxLen; omega) (by omega) (by have := hBn.size; simp; omega) (w9.heap.size + 1) (by simp) ?_; intro g3 cp3 w10 hown3 hgrow hat3 hlt3)
                | (go_simp; go_at_call 107; with_reducible refine (KO.out _).mono ?_; rintro e w9 ⟨rfl, hb9⟩; have hBn : Below wr.heap.size wr w9 := bt (by assumption) hb9; obtain ⟨m1, m2, m3, m4, m5⟩ := FX.out w9 hBn))
              all_goals
                have HE : Hid (Below W3.heap.size W3 w10 ∧ w10.ownsRow W3.heap.size 28 2 (.slice (some ⟨g3, 0, none⟩) (k + 1) cp3) (k + 1) (rcs (prs (k + 1) x))) := hid ⟨own_grow2 (by have := hBn.size; omega) (own_below hown hBn) (bt HB8.out hBn) hgrow, by rw [HSU.out]; exact hown3⟩
                clear hown3 hgrow hat3 hlt3
                go_wp2
                go_roundw
                case rel => exact ⟨k + 1, _, by omega, by go_num, rfl, HE⟩
                case measure => simp [intOf]; omega
            · obtain rfl : k = c := by omega
              have i3 : ¬ ((k : Int) < (k : Int)) := by omega
              have hir : IR wr vx (prs k x) := own_ir (B := W3.heap.size) (by rw [prs_length]; exact hown)
              have HIR := hid hir
              clear hown hir
              go_wp2
              go_ret2
              exact ⟨Or.inr ⟨_, x, rfl, HIR.out, HR.out⟩, bt HB.out HB8.out⟩

end Go.Proofs.Ytnmcgbfhgmmcpaa
