import Derived.Deep.RegionLaw
import Derived.Test.YtliggcbiiaegeacEk22
import Derived.Test.YtliggcbiiaegeacEk25
/-
  impl: (graph).connect.
-/
namespace Go.Proofs.Ytliggcbiiaegeac
open Go.RowKit

/-- a graph in a block -/
structure GAt (W : World) (g : Nat) (G : Nat → Nat → Bool) : Prop where
  cell : ∀ a b, a < 6 → b < 6 → W.cell? ⟨g, a * 6 + b, none⟩ = some (.bool (G a b))
  free : ∀ a b, a < 6 → b < 6 → W.frozen? ⟨g, a * 6 + b, none⟩ = false
  lt : g < W.heap.size
  typ : ∃ cur, W.heap[g]? = some (.cells cur 150 (0, 0))

def upd2 (G : Nat → Nat → Bool) (a0 b0 : Nat) (z : Bool) : Nat → Nat → Bool := fun a b => if a = a0 ∧ b = b0 then z else G a b

section
variable {W W' : World} {g : Nat} {G : Nat → Nat → Bool}
theorem GAt.below (h : GAt W g G) (hb : Below W.heap.size W W') : GAt W' g G :=
  ⟨fun a b ha hb' => (hb.cell (p := ⟨g, a * 6 + b, none⟩) h.lt).trans (h.cell a b ha hb'), fun a b ha hb' => (hb.frozen (p := ⟨g, a * 6 + b, none⟩) h.lt).trans (h.free a b ha hb'), Nat.lt_of_lt_of_le h.lt hb.size, by obtain ⟨cur, hc⟩ := h.typ; exact ⟨cur, (hb.block g h.lt).trans hc⟩⟩
theorem GAt.set (h : GAt W g G) {a0 b0 : Nat} (ha0 : a0 < 6) (hb0 : b0 < 6) (z : Bool) : GAt (W.setCell ⟨g, a0 * 6 + b0, none⟩ (.bool z)) g (upd2 G a0 b0 z) :=
  ⟨fun a b ha hb => by
    by_cases e : a = a0 ∧ b = b0
    · obtain ⟨rfl, rfl⟩ := e
      rw [World.cell?_setCell_same _ _ _ (h.cell a b ha hb)]
      simp [upd2]
    · rw [World.cell?_setCell_other _ _ _ _ (by intro e2; simp only [Addr.mk.injEq, and_true, true_and] at e2; exact e (by omega)), h.cell a b ha hb]
      simp [upd2, e], fun a b ha hb => by rw [World.frozen?_setCell]; exact h.free a b ha hb, by rw [World.size_setCell]; exact h.lt, typ_set h.typ⟩
theorem GAt.congr {G' : Nat → Nat → Bool} (h : GAt W g G) (e : ∀ a b, a < 6 → b < 6 → G' a b = G a b) : GAt W g G' := ⟨fun a b ha hb => by rw [e a b ha hb]; exact h.cell a b ha hb, h.free, h.lt, h.typ⟩
end

def conG (G : Nat → Nat → Bool) (l : List Int) : Nat → Nat → Bool := fun a b => G a b || (decide ((a : Int) ∈ l) && decide ((b : Int) ∈ l))

/-- a part of the list is connected -/
structure Co (G : Nat → Nat → Bool) (l : List Int) (p q : Nat) (G' : Nat → Nat → Bool) : Prop where
  old : ∀ a b, G a b = true → G' a b = true
  new : ∀ a b, G' a b = true → G a b = true ∨ ((a : Int) ∈ l ∧ (b : Int) ∈ l)
  rows : ∀ p', p' < p → ∀ q', q' < l.length → G' (l.getD p' 0).toNat (l.getD q' 0).toNat = true
  row : ∀ q', q' < q → G' (l.getD p 0).toNat (l.getD q' 0).toNat = true
theorem Co.start (G : Nat → Nat → Bool) (l : List Int) : Co G l 0 0 G := ⟨fun _ _ h => h, fun _ _ h => Or.inl h, (fun p' h => by omega), fun q' h => by omega⟩
theorem Co.next {G G' : Nat → Nat → Bool} {l : List Int} {p : Nat} (h : Co G l p l.length G') : Co G l (p + 1) 0 G' := ⟨h.old, h.new, fun p' hp q' hq => by
  by_cases e : p' = p
  · subst e; exact h.row q' hq
  · exact h.rows p' (by omega) q' hq, fun q' h => by omega⟩
theorem Co.add {G G' : Nat → Nat → Bool} {l : List Int} {p q a0 b0 : Nat} (h : Co G l p q G') (ha : l.getD p 0 = (a0 : Int)) (hb : l.getD q 0 = (b0 : Int)) (hp : p < l.length) (hq : q < l.length) : Co G l p (q + 1) (upd2 G' a0 b0 true) := by
  have up : ∀ a b, G' a b = true → upd2 G' a0 b0 true a b = true := fun a b h => by unfold upd2; split; rfl; exact h
  refine ⟨fun a b h1 => up _ _ (h.old a b h1), fun a b h1 => ?_, fun p' hp' q' hq' => up _ _ (h.rows p' hp' q' hq'), fun q' hq' => ?_⟩
  · unfold upd2 at h1
    split at h1
    · rename_i e
      obtain ⟨rfl, rfl⟩ := e
      right
      rw [← ha, ← hb]
      refine ⟨?_, ?_⟩
      · rw [List.getD_eq_getElem?_getD, List.getElem?_eq_getElem hp]; exact List.getElem_mem _
      · rw [List.getD_eq_getElem?_getD, List.getElem?_eq_getElem hq]; exact List.getElem_mem _
    · exact h.new a b h1
  · by_cases e : q' = q
    · subst e
      rw [ha, hb]
      simp [upd2]
    · exact up _ _ (h.row q' (by omega))
theorem Co.fin {G G' : Nat → Nat → Bool} {l : List Int} (h : Co G l l.length 0 G') (a b : Nat) : conG G l a b = G' a b := by
  rw [Bool.eq_iff_iff]
  unfold conG
  rw [Bool.or_eq_true, Bool.and_eq_true, decide_eq_true_eq, decide_eq_true_eq]
  constructor
  · rintro (h1 | ⟨h1, h2⟩)
    · exact h.old a b h1
    · obtain ⟨p, hp, e1⟩ := getD_mem h1
      obtain ⟨q, hq, e2⟩ := getD_mem h2
      have := h.rows p hp q hq
      rw [e1, e2] at this
      simpa using this
  · exact h.new a b

theorem Kb.cell {k : Nat} {w w' : World} (h : Kb k w w') {p : Addr} (hp : p.block < w.heap.size) (hk : p.block ≠ k) : w'.cell? p = w.cell? p := World.cell?_of_block (w := w) (h.block p.block hp hk)

set_option maxHeartbeats 4000000 in
set_option maxRecDepth 1000000 in
theorem connect_calls (w : World) (g : Nat) (G : Nat → Nat → Bool) (v : Value) (l : List Int) (hG : GAt w g G) (hl : IS w v l) (hll : l.length ≤ 1099511627776) (hr : ∀ x ∈ l, 0 ≤ x ∧ x < 6) (hne : 0 < l.length → ∀ a n c, v = .slice (some a) n c → a.block ≠ g) :
    Calls Try.prog 146 #[.pointer (some ⟨g, 0, none⟩), v] w fun e w' => e = .returned (.tuple #[]) ∧ Kb g w w' ∧ GAt w' g (conG G l) := by
  obtain ⟨a, cap, rfl, hc⟩ := hl
  have HX : Hid (∀ p, p < l.length → ∃ xn : Nat, l.getD p 0 = (xn : Int) ∧ xn < 6) := hid fun p hp => by
    have hm : l.getD p 0 ∈ l := by rw [List.getD_eq_getElem?_getD, List.getElem?_eq_getElem hp]; exact List.getElem_mem _
    have := hr _ hm
    exact ⟨(l.getD p 0).toNat, by omega, by omega⟩
  have HC : Hid (∀ W, Kb g w W → ∀ p, p < l.length → ∃ b of, a = some ⟨b, of, none⟩ ∧ W.cell? ⟨b, of + p, none⟩ = some (.int .i64 (l.getD p 0))) := hid fun W hK p hp => by
    rcases hc with h0 | ⟨b, of, rfl, h⟩
    · omega
    · exact ⟨b, of, rfl, (hK.cell (World.block_lt_of_cell? w _ (h p hp)) (hne (by omega) ⟨b, of, none⟩ _ _ rfl)).trans (h p hp)⟩
  have HFin : Hid (∀ W G', GAt W g G' → Co G l l.length 0 G' → GAt W g (conG G l)) := hid fun W G' h1 h2 => h1.congr fun a b _ _ => h2.fin a b
  have HAdd : Hid (∀ G' p q a0 b0, Co G l p q G' → l.getD p 0 = ((a0 : Nat) : Int) → l.getD q 0 = ((b0 : Nat) : Int) → p < l.length → q < l.length → Co G l p (q + 1) (upd2 G' a0 b0 true)) := hid fun G' p q a0 b0 h h1 h2 h3 h4 => h.add h1 h2 h3 h4
  have HNx : Hid (∀ G' p, Co G l p l.length G' → Co G l (p + 1) 0 G') := hid fun G' p h => h.next
  have HG := hid hG
  clear hc hr hne hG
  obtain ⟨n, hn⟩ : ∃ n, n = l.length := ⟨_, rfl⟩
  rw [← hn] at HX HC HFin HAdd HNx hll ⊢
  clear hn
  go_enter Try.func146, Try.ntmps146
  go_wp2_with fail
  go_loopw [10] (fun t wr => ∃ (p : Nat), p ≤ n ∧ t = .int .i64 p ∧ Hid (∃ G', Kb g w wr ∧ GAt wr g G' ∧ Co G l p 0 G')) (fun t _ => n - (intOf t).toNat)
  case atStart => exact ⟨0, Nat.zero_le _, rfl, hid ⟨G, Kb.refl _ _, HG.out, Co.start G l⟩⟩
  case round =>
    clear HG
    obtain ⟨p, hp, rfl, HT⟩ := hrel
    by_cases hpn : p < n
    · have i1 : (p : Int) < (n : Int) := by omega
      obtain ⟨G1, hK, hG1, hCo⟩ := HT.out
      obtain ⟨b, of, ea, c1⟩ := HC.out wr hK p hpn
      subst ea
      obtain ⟨xa, ex, hxa⟩ := HX.out p hpn
      rw [ex] at c1
      have EX := hid ex
      clear ex hK hG1 hCo
      generalize wr = W2 at *
      go_wp2_with fail
      clear c1
      go_loopw [16] (fun t wr => ∃ (q : Nat), q ≤ n ∧ t = .int .i64 q ∧ Hid (∃ G', Kb g w wr ∧ GAt wr g G' ∧ Co G l p q G')) (fun t _ => n - (intOf t).toNat)
      case atStart => exact ⟨0, Nat.zero_le _, rfl, HT⟩
      case round =>
        clear HT
        obtain ⟨q, hq, rfl, HT⟩ := hrel
        by_cases hqn : q < n
        · have i2 : (q : Int) < (n : Int) := by omega
          obtain ⟨G1, hK, hG1, hCo⟩ := HT.out
          obtain ⟨b1, of1, ea, c2⟩ := HC.out wr hK q hqn
          simp only [Option.some.injEq, Addr.mk.injEq, and_true] at ea
          obtain ⟨rfl, rfl⟩ := ea
          obtain ⟨xb, ex, hxb⟩ := HX.out q hqn
          rw [ex] at c2
          have c3 := hG1.cell xa xb hxa hxb
          have f3 := hG1.free xa xb hxa hxb
          have HN : Hid (∃ G', Kb g w (wr.setCell ⟨g, xa * 6 + xb, none⟩ (.bool true)) ∧ GAt (wr.setCell ⟨g, xa * 6 + xb, none⟩ (.bool true)) g G' ∧ Co G l p (q + 1) G') := hid ⟨_, hK.set _ _, hG1.set hxa hxb true, HAdd.out _ _ _ _ _ hCo EX.out ex hpn hqn⟩
          have i3 : (xa : Int) < 6 := by omega
          have i4 : (xb : Int) < 6 := by omega
          clear ex hK hG1 hCo HT
          go_wp2_with fail
          go_roundw
          case rel => exact ⟨q + 1, by omega, by go_num, HN⟩
          case measure => simp [intOf]; omega
        · obtain rfl : q = n := by omega
          have i2 : ¬ ((q : Int) < (q : Int)) := by omega
          have HN : Hid (∃ G', Kb g w wr ∧ GAt wr g G' ∧ Co G l (p + 1) 0 G') := hid (by
            obtain ⟨G1, hK, hG1, hCo⟩ := HT.out
            exact ⟨G1, hK, hG1, HNx.out _ _ hCo⟩)
          clear HT
          go_wp2_with fail
          go_roundw
          case rel => exact ⟨p + 1, by omega, by go_num, HN⟩
          case measure => simp [intOf]; omega
    · obtain rfl : p = n := by omega
      have i1 : ¬ ((p : Int) < (p : Int)) := by omega
      go_wp2_with fail
      go_end0
      obtain ⟨G1, hK, hG1, hCo⟩ := HT.out
      exact ⟨rfl, hK, HFin.out _ _ hG1 hCo⟩

end Go.Proofs.Ytliggcbiiaegeac

namespace Go.Proofs.Ytliggcbiiaegeac
open Go.RowKit

set_option maxHeartbeats 2000000 in
set_option maxRecDepth 100000 in
theorem l1Before_calls (w : World) (vx vy : Value) (n : Nat) (most : Bool) (x y : Nat → Rat) (hn : n ≤ 7) (hx : IR w vx (prs n x)) (hy : IR w vy (prs n y)) (px : Parts n x) (py : Parts n y) :
    Calls Try.prog 158 #[vx, vy, .bool most] w fun e w' => e = .returned (.bool (befB n most x y)) ∧ Below w.heap.size w w' := by
  have hsx := px.sum (Nat.le_refl n) hn
  have hsy := py.sum (Nat.le_refl n) hn
  have KX : Hid (∀ W, Below w.heap.size w W → Calls Try.prog 134 #[vx] W fun e w' => e = .returned (.agg #[.int .i64 (Cov.sm n x).num, .int .i64 (Cov.sm n x).den]) ∧ Below W.heap.size W w') := hid (fun W hW => ssum_best W vx n x hn (hx.below hW) px)
  have KY : Hid (∀ W, Below w.heap.size w W → Calls Try.prog 134 #[vy] W fun e w' => e = .returned (.agg #[.int .i64 (Cov.sm n y).num, .int .i64 (Cov.sm n y).den]) ∧ Below W.heap.size W w') := hid (fun W hW => ssum_best W vy n y hn (hy.below hW) py)
  have K1 : Hid (∀ W, Calls Try.prog 102 #[.agg #[.int .i64 (Cov.sm n x).num, .int .i64 (Cov.sm n x).den], .agg #[.int .i64 (Cov.sm n y).num, .int .i64 (Cov.sm n y).den]] W fun e w' => e = .returned (.bool (decide (Cov.sm n x < Cov.sm n y))) ∧ Below W.heap.size W w') := hid (fun W => slessV _ _ W hsx hsy (by decide))
  have K2 : Hid (∀ W, Calls Try.prog 102 #[.agg #[.int .i64 (Cov.sm n y).num, .int .i64 (Cov.sm n y).den], .agg #[.int .i64 (Cov.sm n x).num, .int .i64 (Cov.sm n x).den]] W fun e w' => e = .returned (.bool (decide (Cov.sm n y < Cov.sm n x))) ∧ Below W.heap.size W w') := hid (fun W => slessV _ _ W hsy hsx (by decide))
  have HR : Hid (befB n most x y = if decide (Cov.sm n x < Cov.sm n y) = true then !most else if decide (Cov.sm n y < Cov.sm n x) = true then most else numB x y n 0) := hid (by unfold befB; simp only [decide_eq_true_eq])
  generalize decide (Cov.sm n x < Cov.sm n y) = b1 at *
  generalize decide (Cov.sm n y < Cov.sm n x) = b2 at *
  generalize befB n most x y = R at *
  generalize (Cov.sm n x).num = p1 at *
  generalize (Cov.sm n x).den = p2 at *
  generalize (Cov.sm n y).num = q1 at *
  generalize (Cov.sm n y).den = q2 at *
  clear hsx hsy
  obtain ⟨a, cap, rfl, hcx⟩ := hx
  obtain ⟨a2, cap2, rfl, hcy⟩ := hy
  rw [prs_length] at hcx hcy
  have HCX := hid hcx
  have HCY := hid hcy
  have HPX := hid px
  have HPY := hid py
  clear hcx hcy px py
  simp only [prs_length] at *
  go_enter Try.func158, Try.ntmps158
  go_upto_region 2 with (first | (go_at_call 134; refine (KX.out _ (Below.refl _ _)).mono ?_; rintro e w1 ⟨rfl, hb1⟩))
  have hT := two_alloc w1 p1 p2 49
  have hB : Below w.heap.size w (w1.alloc (.cells #[.int .i64 p1, .int .i64 p2] 49)) := hb1.alloc hb1.size _
  have hg1 : w1.heap.size < (w1.alloc (.cells #[.int .i64 p1, .int .i64 p2] 49)).heap.size := by simp
  generalize w1.alloc (.cells #[.int .i64 p1, .int .i64 p2] 49) = W1 at *
  generalize w1.heap.size = g1 at *
  clear hb1 KX
  go_upto_region 3 with (first | (go_at_call 134; refine (KY.out _ hB).mono ?_; rintro e w2 ⟨rfl, hb2⟩))
  have hT1 := (hT.below hg1 hb2)
  have hg2 : g1 < w2.heap.size := Nat.lt_of_lt_of_le hg1 hb2.size
  have hT2 := two_alloc w2 q1 q2 49
  have hT3 : Two (w2.alloc (.cells #[.int .i64 q1, .int .i64 q2] 49)) g1 p1 p2 := hT1.below hg2 ((Below.refl _ _).alloc (Nat.le_refl _) _)
  have hB2 : Below w.heap.size w (w2.alloc (.cells #[.int .i64 q1, .int .i64 q2] 49)) := (bt hB hb2).alloc (bt hB hb2).size _
  have hg3 : w2.heap.size < (w2.alloc (.cells #[.int .i64 q1, .int .i64 q2] 49)).heap.size := by simp
  generalize w2.alloc (.cells #[.int .i64 q1, .int .i64 q2] 49) = W2 at *
  generalize w2.heap.size = g2 at *
  have hg4 : g1 < W2.heap.size := by omega
  clear hT hT1 hb2 hB KY
  have HB := hid hB2
  have HT1 := hid hT3
  have HT2 := hid hT2
  clear hB2
  obtain ⟨s1, s2, -, -⟩ := hT3
  obtain ⟨u1, u2, -, -⟩ := hT2
  cases b1
  case true =>
    go_wp2_with (first | (go_at_call 102; refine (K1.out _).mono ?_; rintro e w3 ⟨rfl, hb3⟩))
    go_ret
    exact ⟨ret_bool (by rw [HR.out]; rfl), bt HB.out hb3⟩
  case false =>
    go_upto_region 5 with (first | (go_at_call 102; refine (K1.out _).mono ?_; rintro e w3 ⟨rfl, hb3⟩))
    obtain ⟨s1', s2', -, -⟩ := HT1.out.below hg4 hb3
    obtain ⟨u1', u2', -, -⟩ := HT2.out.below hg3 hb3
    have HB3 := hid (bt HB.out hb3)
    clear s1 s2 u1 u2 hb3 HB HT1 HT2 K1
    cases b2
    case true =>
      go_wp2_with (first | (go_at_call 102; refine (K2.out _).mono ?_; rintro e w4 ⟨rfl, hb4⟩))
      go_ret
      exact ⟨ret_bool (by rw [HR.out]; rfl), bt HB3.out hb4⟩
    case false =>
      go_upto_region 7 with (first | (go_at_call 102; refine (K2.out _).mono ?_; rintro e w4 ⟨rfl, hb4⟩))
      have HB4 := hid (bt HB3.out hb4)
      have HR2 : Hid (R = numB x y n 0) := hid (by rw [HR.out]; rfl)
      clear HB3 hb4 HR K2 s1' s2' u1' u2'
      go_wp2
      go_loopw [25] (fun t wr => ∃ k : Nat, k ≤ n ∧ t = .int .i64 k ∧ Hid (Below w.heap.size w wr ∧ R = numB x y (n - k) k)) (fun t _ => n - (intOf t).toNat)
      case atStart => exact ⟨0, Nat.zero_le _, rfl, hid ⟨HB4.out, HR2.out⟩⟩
      case round =>
        obtain ⟨k, hk, rfl, hH⟩ := hrel
        by_cases hkn : k < n
        · have i1 : (k : Int) < (n : Int) := by omega
          have HRk : Hid (R = if x k < y k then true else if y k < x k then false else numB x y (n - (k + 1)) (k + 1)) := hid (by
            rw [hH.out.2, show n - k = (n - (k + 1)) + 1 by omega]; rfl)
          have HBk := hid hH.out.1
          have hsx := HPX.out.sm hkn
          have hsy := HPY.out.sm hkn
          rcases HCX.out with h0 | ⟨b, o, rfl, hcell⟩
          · omega
          rcases HCY.out with h0 | ⟨b', o', rfl, hcell'⟩
          · omega
          obtain ⟨e1, e2⟩ := hcell k hkn
          obtain ⟨e3, e4⟩ := hcell' k hkn
          rw [prs_get hkn] at e1 e2 e3 e4
          have HC : Hid (∀ W, Below w.heap.size w W → W.cell? ⟨b, o + k * 2, none⟩ = some (.int .i64 (x k).num) ∧ W.cell? ⟨b, o + k * 2 + 1, none⟩ = some (.int .i64 (x k).den) ∧ W.cell? ⟨b', o' + k * 2, none⟩ = some (.int .i64 (y k).num) ∧ W.cell? ⟨b', o' + k * 2 + 1, none⟩ = some (.int .i64 (y k).den)) := hid (fun W hW => ⟨(hW.cell (p := ⟨b, o + k * 2, none⟩) (World.block_lt_of_cell? w _ e1)).trans e1, (hW.cell (p := ⟨b, o + k * 2 + 1, none⟩) (World.block_lt_of_cell? w _ e2)).trans e2, (hW.cell (p := ⟨b', o' + k * 2, none⟩) (World.block_lt_of_cell? w _ e3)).trans e3, (hW.cell (p := ⟨b', o' + k * 2 + 1, none⟩) (World.block_lt_of_cell? w _ e4)).trans e4⟩)
          have KA : Hid (∀ W, Calls Try.prog 102 #[.agg #[.int .i64 (x k).num, .int .i64 (x k).den], .agg #[.int .i64 (y k).num, .int .i64 (y k).den]] W fun e w' => e = .returned (.bool (decide (x k < y k))) ∧ Below W.heap.size W w') := hid (fun W => slessV _ _ W hsx hsy (by decide))
          have KB : Hid (∀ W, Calls Try.prog 102 #[.agg #[.int .i64 (y k).num, .int .i64 (y k).den], .agg #[.int .i64 (x k).num, .int .i64 (x k).den]] W fun e w' => e = .returned (.bool (decide (y k < x k))) ∧ Below W.heap.size W w') := hid (fun W => slessV _ _ W hsy hsx (by decide))
          rw [show (if x k < y k then true else if y k < x k then false else numB x y (n - (k + 1)) (k + 1)) = (if decide (x k < y k) = true then true else if decide (y k < x k) = true then false else numB x y (n - (k + 1)) (k + 1)) by simp only [decide_eq_true_eq]] at HRk
          generalize decide (x k < y k) = b3 at *
          generalize decide (y k < x k) = b4 at *
          generalize (x k).num = x1 at *
          generalize (x k).den = x2 at *
          generalize (y k).num = y1 at *
          generalize (y k).den = y2 at *
          obtain ⟨c1, c2, c3, c4⟩ := HC.out wr HBk.out
          clear hcell hcell' e1 e2 e3 e4 hH hsx hsy
          cases b3
          case true =>
            go_wp2_with fail
            go_region_law (first | (go_simp; go_at_call 102; refine (KA.out _).mono ?_; rintro e w5 ⟨rfl, hb'⟩; have hb5 := drew_below hb'))
            all_goals
              go_wp2
              go_ret
              exact ⟨ret_bool (by rw [HRk.out]; rfl), bt HBk.out hb5⟩
          case false =>
            go_wp2_with fail
            go_region_law (first | (go_simp; go_at_call 102; refine (KA.out _).mono ?_; rintro e w5 ⟨rfl, hb'⟩; have hb5 := drew_below hb'))
            all_goals
              have HB5 := hid (bt HBk.out hb5)
              obtain ⟨f1, f2, f3, f4⟩ := HC.out w5 HB5.out
              clear c1 c2 c3 c4 hb' hb5 HBk
              cases b4
              case true =>
                go_wp2_with fail
                go_region_law (first | (go_simp; go_at_call 102; refine (KB.out _).mono ?_; rintro e w6 ⟨rfl, hb'⟩; have hb6 := drew_below hb'))
                all_goals
                  go_wp2
                  go_ret
                  exact ⟨ret_bool (by rw [HRk.out]; rfl), bt HB5.out hb6⟩
              case false =>
                go_wp2_with fail
                go_region_law (first | (go_simp; go_at_call 102; refine (KB.out _).mono ?_; rintro e w6 ⟨rfl, hb'⟩; have hb6 := drew_below hb'))
                all_goals
                  have HF : Hid (Below w.heap.size w w6 ∧ R = numB x y (n - (k + 1)) (k + 1)) := hid ⟨bt HB5.out hb6, by rw [HRk.out]; rfl⟩
                  clear hb' hb6
                  go_wp2
                  go_roundw
                  case rel => exact ⟨k + 1, by omega, by go_num, HF⟩
                  case measure => simp [intOf]; omega
        · obtain rfl : k = n := by omega
          have i1 : ¬ ((k : Int) < (k : Int)) := by omega
          have HX := hH
          clear hH
          go_wp2
          go_ret
          refine ⟨ret_bool ?_, HX.out.1⟩
          rw [HX.out.2, Nat.sub_self]
          rfl

end Go.Proofs.Ytliggcbiiaegeac
