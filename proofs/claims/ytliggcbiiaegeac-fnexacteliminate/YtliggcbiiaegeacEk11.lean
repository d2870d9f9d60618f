import Derived.Test.YtliggcbiiaegeacEk10
namespace Go.Proofs.Ytliggcbiiaegeac
open Go.RowKit

/-- the costs that are left behind i rows -/
def part (cost : Nat → Int) (C : Nat → Nat → Rat) (B : Nat → Nat) (j i : Nat) : Rat := ((cost j : Int) : Rat) - Cov.sm i (fun i' => ((cost (B i') : Int) : Rat) * C i' j)

/-- row m below column j is priced -/
def priced (cost : Nat → Int) (C : Nat → Nat → Rat) (B : Nat → Nat) (m j : Nat) : Nat → Nat → Rat := fun a b => if a = m ∧ b < j then part cost C B b m else C a b

theorem part_skip {cost : Nat → Int} {C : Nat → Nat → Rat} {B : Nat → Nat} {j i : Nat} (h : cost (B i) = 0) : part cost C B j (i + 1) = part cost C B j i := by
  unfold part
  show _ - (Cov.sm i _ + ((cost (B i) : Int) : Rat) * C i j) = _
  rw [h]
  have : ((0 : Int) : Rat) = 0 := rfl
  rw [this]; grind

theorem part_next {cost : Nat → Int} {C : Nat → Nat → Rat} {B : Nat → Nat} {j i : Nat} : part cost C B j (i + 1) = part cost C B j i - C i j * ((cost (B i) : Int) : Rat) := by
  unfold part
  show _ - (Cov.sm i _ + ((cost (B i) : Int) : Rat) * C i j) = _
  grind

theorem sm_int {n : Int} (h : n.natAbs ≤ 1) : Sm 1 ((n : Int) : Rat) := by
  refine ⟨?_, ?_⟩
  · simpa using h
  · simp

theorem Kb.own {k : Nat} {w w' : World} (h : Kb k w w') {a : Nat} (ha : w.heap.size ≤ a) (o : Nat) (v : Value) : Kb k w (w'.setCell ⟨a, o, none⟩ v) :=
  ⟨h.os, h.tape, h.output, by simpa [World.setCell] using h.size, fun b hb hne => (Below.heap_setCell _ _ _ _ (by simp; omega)).trans (h.block b hb hne)⟩

theorem Kb.step {k : Nat} {w a b : World} (h : Kb k w a) (g : Below a.heap.size a b) : Kb k w b := h.trans (Kb.of_below g)

/-- a variable that holds q -/
structure RatAt (w : World) (p : Nat) (q : Rat) : Prop where
  num : w.cell? ⟨p, 0, none⟩ = some (.int .i64 q.num)
  den : w.cell? ⟨p, 1, none⟩ = some (.int .i64 q.den)
  f0 : w.frozen? ⟨p, 0, none⟩ = false
  f1 : w.frozen? ⟨p, 1, none⟩ = false

theorem RatAt.lt {w : World} {p : Nat} {q : Rat} (h : RatAt w p q) : p < w.heap.size := World.block_lt_of_cell? w _ h.num
theorem RatAt.move {w w' : World} {p : Nat} {q : Rat} (h : RatAt w p q) (hb : w'.heap[p]? = w.heap[p]?) : RatAt w' p q :=
  ⟨(World.cell?_of_block (w := w) (a := ⟨p, 0, none⟩) hb).trans h.num, (World.cell?_of_block (w := w) (a := ⟨p, 1, none⟩) hb).trans h.den, (World.frozen?_of_block (w := w) (a := ⟨p, 0, none⟩) hb).trans h.f0, (World.frozen?_of_block (w := w) (a := ⟨p, 1, none⟩) hb).trans h.f1⟩
theorem RatAt.below {w w' : World} {p : Nat} {q : Rat} (h : RatAt w p q) (hb : Below w.heap.size w w') : RatAt w' p q := h.move (hb.block p h.lt)
theorem RatAt.set {w : World} {p : Nat} {q : Rat} (h : RatAt w p q) (r : Rat) : RatAt ((w.setCell ⟨p, 0, none⟩ (.int .i64 r.num)).setCell ⟨p, 1, none⟩ (.int .i64 r.den)) p r :=
  ⟨by rw [World.cell?_setCell_other _ _ _ _ (by simp), World.cell?_setCell_same _ _ _ h.num], World.cell?_setCell_same _ _ _ (by rw [World.cell?_setCell_other _ _ _ _ (by simp)]; exact h.den),
    by rw [World.frozen?_setCell, World.frozen?_setCell]; exact h.f0, by rw [World.frozen?_setCell, World.frozen?_setCell]; exact h.f1⟩
theorem ratAt_alloc (w : World) (q : Rat) (t : TypeId) : RatAt (w.alloc (.cells #[.int .i64 q.num, .int .i64 q.den] t)) w.heap.size q :=
  ⟨by simp [go_sem], by simp [go_sem], by simp [go_sem], by simp [go_sem]⟩
theorem ArrAt.below {w w' : World} {k N : Nat} {f : Nat → Value} (h : ArrAt w k N f) (hN : 0 < N) (hb : Below w.heap.size w w') : ArrAt w' k N f := h.move (hb.block k (h.lt hN))

theorem ratAt_allocI (w : World) (c : Int) (t : TypeId) : RatAt (w.alloc (.cells #[.int .i64 c, .int .i64 1] t)) w.heap.size (c : Rat) := ratAt_alloc w (c : Rat) t

theorem numberI (n : Int) (w : World) :
    Calls Try.prog 178 #[.int .i64 n] w fun e w' => e = .returned (.agg #[.int .i64 n, .int .i64 1]) ∧ Below w.heap.size w w' := numberOf_calls n w

theorem timesI (p : Rat) (c : Int) (w : World) {B C : Nat} (hp : Sm B p) (hq : Sm C (c : Rat)) (h : B * C ≤ 4500000000000000000) :
    Calls Try.prog 207 #[.agg #[.int .i64 p.num, .int .i64 p.den], .agg #[.int .i64 c, .int .i64 1]] w fun e w' => e = .returned (.agg #[.int .i64 (p * (c : Rat)).num, .int .i64 (p * (c : Rat)).den]) ∧ Below w.heap.size w w' := timesV p (c : Rat) w hp hq h

/-- all that a round of price holds on to -/
structure PrC (w wr : World) (k m n : Nat) (C : Nat → Nat → Rat) (B : Nat → Nat) (bar : Nat → Bool) (cost : Nat → Int) : Prop where
  kb : Kb k w wr
  sx : SxAt wr k m n C B bar
  ar : ArrAt wr w.heap.size 20 (fun j => .int .i64 (cost j))

theorem PrC.below {w wr w' : World} {k m n : Nat} {C : Nat → Nat → Rat} {B : Nat → Nat} {bar : Nat → Bool} {cost : Nat → Int} (h : PrC w wr k m n C B bar cost) (hb : Below wr.heap.size wr w') : PrC w w' k m n C B bar cost :=
  ⟨h.kb.step hb, h.sx.below hb, h.ar.below (by omega) hb⟩
theorem PrC.alloc {w wr : World} {k m n : Nat} {C : Nat → Nat → Rat} {B : Nat → Nat} {bar : Nat → Bool} {cost : Nat → Int} (h : PrC w wr k m n C B bar cost) (o : Obj) : PrC w (wr.alloc o) k m n C B bar cost :=
  h.below ((Below.refl _ _).alloc (Nat.le_refl _) _)
theorem PrC.own {w wr : World} {k m n : Nat} {C : Nat → Nat → Rat} {B : Nat → Nat} {bar : Nat → Bool} {cost : Nat → Int} (h : PrC w wr k m n C B bar cost) {a o : Nat} (v : Value) (ha : w.heap.size < a) (hk : k < w.heap.size) : PrC w (wr.setCell ⟨a, o, none⟩ v) k m n C B bar cost :=
  ⟨h.kb.own (by omega) _ _, h.sx.far _ (by omega), h.ar.move (Below.heap_setCell _ _ _ _ (by simp; omega))⟩

set_option maxRecDepth 100000 in
set_option maxHeartbeats 6000000 in
theorem price_calls (w : World) (k m n : Nat) (C : Nat → Nat → Rat) (B : Nat → Nat) (bar : Nat → Bool) (h : SxAt w k m n C B bar) (cost : Nat → Int) (hcost : ∀ j, (cost j).natAbs ≤ 1) (hBn : ∀ i, i < m → B i < n)
    (hsm : ∀ a b, a ≤ m → b ≤ n → Sm 41000 (C a b)) (hpart : ∀ j i, j ≤ n → i ≤ m → Sm 41000 (part cost C B j i)) :
    Calls Try.prog 180 #[.pointer (some ⟨k, 0, none⟩), .agg (arrV 20 (fun j => .int .i64 (cost j))).toArray] w fun e w' => e = .returned (.tuple #[]) ∧ Kb k w w' ∧ SxAt w' k m n (priced cost C B m (n + 1)) B bar := by
  have hn := h.lay.nle
  have hm := h.lay.mle
  have hklt := h.lt
  have S1 := hid hsm
  have P1 := hid hpart
  have K1 := hid hcost
  have N1 := hid hBn
  clear hsm hpart hcost hBn
  go_enter Try.func180, Try.ntmps180
  go_upto_region 1 with fail
  have hP0 : PrC w (w.alloc (.cells (arrV 20 (fun j => .int .i64 (cost j))).toArray 214)) k m n C B bar cost := ⟨Kb.of_below ((Below.refl _ _).alloc (Nat.le_refl _) _), h.alloc _, arrAt_alloc w 20 _ _⟩
  generalize w.alloc (.cells (arrV 20 (fun j => .int .i64 (cost j))).toArray 214) = W at *
  have hcols : W.cell? ⟨k, 1, none⟩ = some (.int .i64 n) := hP0.sx.lay.cols
  go_wp2_with fail
  go_loopw [13] (fun t wr => ∃ j : Nat, j ≤ n + 1 ∧ t = .int .i64 j ∧ PrC w wr k m n (priced cost C B m j) B bar cost) (fun t _ => n + 1 - (intOf t).toNat)
  case atStart => exact ⟨0, Nat.zero_le _, rfl, hP0.kb, hP0.sx.congr (fun _ _ _ _ => if_neg (by omega)) (fun _ _ => rfl) (fun _ _ => rfl), hP0.ar⟩
  case round =>
    obtain ⟨j, hj, rfl, hP⟩ := hrel
    clear hP0 hcols
    by_cases hlt : j < n + 1
    · have i1 : (j : Int) < (n : Int) + 1 := by omega
      have i2 : (j : Int) < 20 := by omega
      have c1 : wr.cell? ⟨w.heap.size, j, none⟩ = some (.int .i64 (cost j)) := hP.ar.cell j (by omega)
      go_wp2_with fail
      refine (numberI (cost j) _).mono ?_
      rintro e w1 ⟨rfl, hb1⟩
      have hP1 := (hP.below hb1).alloc (.cells #[.int .i64 (cost j), .int .i64 1] 180)
      have hR1 := ratAt_allocI w1 (cost j) 180
      have hlt1 : w.heap.size < w1.heap.size := Nat.lt_of_lt_of_le (hP.ar.lt (by omega)) hb1.size
      clear hP c1
      go_upto_region 5 with fail
      generalize hp : w1.heap.size = p at *
      generalize w1.alloc (.cells #[.int .i64 (cost j), .int .i64 1] 180) = W1 at *
      clear hp hb1
      clear w1
      have hrows : W1.cell? ⟨k, 0, none⟩ = some (.int .i64 m) := hP1.sx.lay.rows
      obtain ⟨wo, rfl⟩ : ∃ wo : World, wo = W1 := ⟨_, rfl⟩
      go_wp2_with fail
      go_loopw [24] (fun t wi => ∃ i : Nat, i ≤ m ∧ t = .int .i64 i ∧ PrC w wi k m n (priced cost C B m j) B bar cost ∧ RatAt wi p (part cost C B j i)) (fun t _ => m - (intOf t).toNat)
      case atStart => exact ⟨0, Nat.zero_le _, rfl, hP1, by unfold part; rw [show ((cost j : Int) : Rat) - Cov.sm 0 (fun i' => ((cost (B i') : Int) : Rat) * C i' j) = ((cost j : Int) : Rat) by show _ - (0 : Rat) = _; grind]; exact hR1⟩
      case round =>
        obtain ⟨i, hi, rfl, hPi, hRi⟩ := hrel
        clear hP1 hR1 hrows
        by_cases hli : i < m
        · have i3 : (i : Int) < (m : Int) := by omega
          have i4 : (i : Int) < 8 := by omega
          have hBi : B i < n := N1.out i hli
          have i5 : ((B i : Nat) : Int) < 20 := by omega
          have b1 : wr.cell? ⟨k, 322 + i, none⟩ = some (.int .i64 (B i : Nat)) := hPi.sx.lay.bas i hli
          have b2 : wr.cell? ⟨w.heap.size, B i, none⟩ = some (.int .i64 (cost (B i))) := hPi.ar.cell (B i) (by omega)
          by_cases hz : cost (B i) = 0
          · have hz1 : (cost (B i) != 0) = false := by simpa using hz
            have HZ := hid hz
            clear hz
            go_wp2_with fail
            go_roundw
            case rel => exact ⟨i + 1, by omega, by go_num, hPi, by rw [part_skip HZ.out]; exact hRi⟩
            case measure => simp [intOf]; omega
          · have hz1 : (cost (B i) != 0) = true := by simpa using hz
            obtain ⟨r1, r2, r3, r4⟩ := hRi
            have a1 : wr.cell? ⟨k, 2 + i * 40 + j * 2, none⟩ = some (.int .i64 (priced cost C B m j i j).num) := hPi.sx.lay.num i j (by omega) (by omega)
            have a2 : wr.cell? ⟨k, 2 + i * 40 + j * 2 + 1, none⟩ = some (.int .i64 (priced cost C B m j i j).den) := hPi.sx.lay.den i j (by omega) (by omega)
            rw [show priced cost C B m j i j = C i j from if_neg (by omega)] at a1 a2
            have X1 := hid (S1.out i j (by omega) (by omega))
            have X2 := hid (sm_int (K1.out (B i)))
            have X3 := hid (X1.out.mul X2.out)
            have X4 := hid (P1.out j i (by omega) (by omega))
            have hk0 : k < wr.heap.size := hPi.sx.lt
            have hp0 : p < wr.heap.size := World.block_lt_of_cell? wr _ r1
            clear hz b1 b2
            have b1 : wr.cell? ⟨k, 322 + i, none⟩ = some (.int .i64 (B i : Nat)) := hPi.sx.lay.bas i hli
            have b2 : wr.cell? ⟨w.heap.size, B i, none⟩ = some (.int .i64 (cost (B i))) := hPi.ar.cell (B i) (by omega)
            go_upto_region 10 with fail
            clear b1 b2
            go_region_with (first | (go_at_call 178; refine (numberI (cost (B i)) _).mono ?_; rintro e wA ⟨rfl, hbA⟩; obtain ⟨hcA, hfA⟩ := bcell hbA; have hpA : p < wA.heap.size := Nat.lt_of_lt_of_le hp0 hbA.size; have sA1 : wA.cell? ⟨k, 2 + i * 40 + j * 2, none⟩ = some (.int .i64 (C i j).num) := (hcA k _ hk0).trans a1; have sA2 : wA.cell? ⟨k, 2 + i * 40 + j * 2 + 1, none⟩ = some (.int .i64 (C i j).den) := (hcA k _ hk0).trans a2; have tA0 : wA.cell? ⟨p, 0, none⟩ = some (.int .i64 (part cost C B j i).num) := (hcA p 0 hp0).trans r1; have tA1 : wA.cell? ⟨p, 1, none⟩ = some (.int .i64 (part cost C B j i).den) := (hcA p 1 hp0).trans r2; have tA2 : wA.frozen? ⟨p, 0, none⟩ = false := (hfA p 0 hp0).trans r3; have tA3 : wA.frozen? ⟨p, 1, none⟩ = false := (hfA p 1 hp0).trans r4; clear hcA hfA) | (go_at_call 207; refine (timesI (C i j) (cost (B i)) _ X1.out X2.out (by decide)).mono ?_; rintro e wB ⟨rfl, hbB⟩; obtain ⟨hcB, hfB⟩ := bcell hbB; have hpB : p < wB.heap.size := Nat.lt_of_lt_of_le hpA hbB.size; have tB0 : wB.cell? ⟨p, 0, none⟩ = some (.int .i64 (part cost C B j i).num) := (hcB p 0 hpA).trans tA0; have tB1 : wB.cell? ⟨p, 1, none⟩ = some (.int .i64 (part cost C B j i).den) := (hcB p 1 hpA).trans tA1; have tB2 : wB.frozen? ⟨p, 0, none⟩ = false := (hfB p 0 hpA).trans tA2; have tB3 : wB.frozen? ⟨p, 1, none⟩ = false := (hfB p 1 hpA).trans tA3; clear hcB hfB) | (go_at_call 166; refine (minusV (part cost C B j i) (C i j * ((cost (B i) : Int) : Rat)) _ X4.out X3.out (by decide)).mono ?_; rintro e wC ⟨rfl, hbC⟩; obtain ⟨hcC, hfC⟩ := bcell hbC; have q0 : wC.cell? ⟨p, 0, none⟩ = some (.int .i64 (part cost C B j i).num) := (hcC p 0 hpB).trans tB0; have q1 : wC.cell? ⟨p, 1, none⟩ = some (.int .i64 (part cost C B j i).den) := (hcC p 1 hpB).trans tB1; have q2 : wC.frozen? ⟨p, 0, none⟩ = false := (hfC p 0 hpB).trans tB2; have q3 : wC.frozen? ⟨p, 1, none⟩ = false := (hfC p 1 hpB).trans tB3; clear hcC hfC))
            all_goals
              have hbb : Below wr.heap.size wr wC := bt (bt ((Below.refl _ _).drew.trans hbA) hbB) hbC
              have hPn := ((hPi.below hbb).own (a := p) (o := 0) (.int .i64 (part cost C B j i - C i j * ((cost (B i) : Int) : Rat)).num) hlt1 hklt).own (a := p) (o := 1) (.int .i64 (part cost C B j i - C i j * ((cost (B i) : Int) : Rat)).den) hlt1 hklt
              have hRn := (RatAt.mk q0 q1 q2 q3).set (part cost C B j i - C i j * ((cost (B i) : Int) : Rat))
              go_wp2_with fail
              go_roundw
              case rel => exact ⟨i + 1, by omega, by go_num, hPn, by rw [part_next]; exact hRn⟩
              case measure => simp [intOf]; omega
        · obtain rfl : i = m := by omega
          have i3 : ¬ ((i : Int) < (i : Int)) := by omega
          have hrow : wr.cell? ⟨k, 0, none⟩ = some (.int .i64 i) := hPi.sx.lay.rows
          have a1 : wr.cell? ⟨k, 2 + i * 40 + j * 2, none⟩ = some (.int .i64 (priced cost C B i j i j).num) := hPi.sx.lay.num i j (by omega) (by omega)
          have a2 : wr.cell? ⟨k, 2 + i * 40 + j * 2 + 1, none⟩ = some (.int .i64 (priced cost C B i j i j).den) := hPi.sx.lay.den i j (by omega) (by omega)
          have g1 : wr.frozen? ⟨k, 2 + i * 40 + j * 2, none⟩ = false := hPi.sx.free _ (by omega)
          have g2 : wr.frozen? ⟨k, 2 + i * 40 + j * 2 + 1, none⟩ = false := hPi.sx.free _ (by omega)
          have i6 : (i : Int) < 8 := by omega
          have r1 := hRi.num
          have r2 := hRi.den
          go_upto_region 12 with fail
          go_region
          go_wp2_with fail
          go_roundw
          case rel =>
            refine ⟨j + 1, by omega, by go_num, ?_, ?_, ?_⟩
            · exact ((hPi.kb.set _ _).set _ _).drew
            · refine ((hPi.sx.setNum (Nat.le_refl _) (show j ≤ n by omega) (part cost C B j i)).congr (fun a b _ _ => ?_) (fun _ _ => rfl) (fun _ _ => rfl)).drew
              unfold priced
              by_cases e : a = i ∧ b = j
              · rw [if_pos e, if_pos (by omega), e.2]
              · rw [if_neg e]
                by_cases e2 : a = i ∧ b < j
                · rw [if_pos e2, if_pos (by omega)]
                · rw [if_neg e2, if_neg (by omega)]
            · exact hPi.ar.move (by show ((wr.setCell _ _).setCell _ _).heap[w.heap.size]? = _; rw [Below.heap_setCell _ _ _ _ (by simp; omega), Below.heap_setCell _ _ _ _ (by simp; omega)])
          case measure => simp [intOf]; omega
    · obtain rfl : j = n + 1 := by omega
      have i1 : ¬ ((n : Int) + 1 < (n : Int) + 1) := by omega
      go_wp2
      go_end0
      exact ⟨rfl, hP.kb, hP.sx⟩

end Go.Proofs.Ytliggcbiiaegeac
