import Derived.Test.YtcdfoephhjacdaaDoorQ65
import Derived.Test.YtcdfoephhjacdaaDoorQ67
import Derived.Test.YtcdfoephhjacdaaDoorQ69
import Derived.Test.YtcdfoephhjacdaaDoorQ84
/-
  laws.FnExactParseQuery, walked.
-/
namespace Go.Proofs.YtcdfoephhjacdaaDoor
open Go.RowKit

theorem PqE.all {w w' : World} {s : ByteArray} {e : Ending} (h : PqE w s e w') : ∃ a1 c1 a2 c2 us, e = .returned (.tuple #[.agg #[.string (pqQ s).name, .slice a1 (pqQ s).head.length c1, .int .i64 (pqQ s).ring, .slice a2 (pqQ s).atoms.length c2], .int .i64 (pqA s).2.1, .int .i64 ((pqA s).2.2 : Int)]) ∧ QyR w.heap.size w' (.slice a1 (pqQ s).head.length c1) (pqQ s).head (.slice a2 (pqQ s).atoms.length c2) us ∧ us.map uAt = (pqQ s).atoms ∧ Below w.heap.size w w' := by
  obtain ⟨nm, x, hd, r, y, us, rfl, hq, hb, e⟩ := h
  obtain ⟨a1, c1, rfl⟩ := own_shapeT2 hq.own1
  obtain ⟨a2, c2, rfl⟩ := own_shapeT2 hq.own2
  have el : (us.map uAt).length = us.length := List.length_map _
  rw [e]
  refine ⟨a1, c1, a2, c2, us, ?_, ?_, rfl, hb⟩
  · show _ = Ending.returned (.tuple #[.agg #[.string nm, .slice a1 hd.length c1, .int .i64 r, .slice a2 (us.map uAt).length c2], _, _])
    rw [el]
  · show QyR w.heap.size w' (.slice a1 hd.length c1) hd (.slice a2 (us.map uAt).length c2) us
    rw [el]
    exact hq
theorem QyR.isq {B : Nat} {W : World} {x y : Value} {us : List UV} {q : QV} (h : QyR B W x q.head y us) (hu : us.map uAt = q.atoms) : IQ W x y q := by
  have := h.is (nm := q.name) (r := q.ring)
  rw [hu] at this
  exact this
theorem query_marks (w : World) (B : Nat) (q : QV) (x y : Value) (us : List UV) (h : QyR B w x q.head y us) (hu : us.map uAt = q.atoms) (hf : QFit 3000 q) (hB : B ≤ w.heap.size) :
    Calls Tryd.prog 13 #[.agg #[.string q.name, x, .int .i64 q.ring, y], .int .i64 1] w fun e w' => ∃ m : Nat, e = .returned (.int .i64 (m : Int)) ∧ Below B w w' ∧ KeepQ w w' ∧ ∀ W, Below w'.heap.size w' W → Calls Tryd.prog 14 #[.agg #[.string q.name, x, .int .i64 q.ring, y], .int .i64 1] W fun e w'' => e = .returned (.int .i64 (m : Int)) ∧ Below W.heap.size W w'' := by
  have hl : us.length ≤ 3000 := by
    have := hf.alen
    rw [← hu, List.length_map] at this
    exact this
  have ht : ∀ j, j < us.length → (us.getD j noU).2.2.length ≤ 3000 := fun j hj => by
    have := (hf.atoms (uAt (us.getD j noU)) (by rw [← hu]; exact List.mem_map.2 ⟨_, getU hj, rfl⟩)).2.1
    exact this
  have hh := hf.head.1
  have hk : ∀ j, j ≤ us.length → kAq us (1 + q.head.length) j ≤ 576460752303423000 := fun j hj => by
    have := kA_le (k := 1 + q.head.length) ht j hj
    omega
  refine (markQuery_own w B q.name x y q.head q.ring us h hB (by omega) (by omega) (fun j hj => by have := ht j hj; omega) hk).mono ?_
  rintro e w' ⟨rfl, hb, hm, hkp⟩
  refine ⟨_, rfl, hb, hkp, fun W hW => ?_⟩
  exact heldQuery_own W q.name x y q.head.length q.ring us (hm.below hW) (own_form h.own1) (own_shapeT2 h.own2) (fun j hj => own_form (h.tms _ (getU hj))) (by omega) (by omega) (fun j hj => by have := ht j hj; omega) hk

/-- a query's box -/
def QBx (W : World) (g : Nat) (a b c d : Value) : Prop := W.heap[g]? = some (.cells #[a, b, c, d] 33 (0, 0))
theorem QBx.lt {W : World} {g : Nat} {a b c d : Value} (h : QBx W g a b c d) : g < W.heap.size := lt_of_block h
theorem QBx.below {W W' : World} {g : Nat} {a b c d : Value} (h : QBx W g a b c d) (hb : Below W.heap.size W W') : QBx W' g a b c d := (hb.block g h.lt).trans h
theorem QBx.keep {W W' : World} {g : Nat} {a b c d : Value} (h : QBx W g a b c d) (hk : KeepQ W W') : QBx W' g a b c d := (hk g _ h).trans h
theorem QBx.cells {W : World} {g : Nat} {a b c d : Value} (h : QBx W g a b c d) : W.cell? ⟨g, 0, none⟩ = some a ∧ W.cell? ⟨g, 1, none⟩ = some b ∧ W.cell? ⟨g, 2, none⟩ = some c ∧ W.cell? ⟨g, 3, none⟩ = some d :=
  ⟨cell_of_row _ _ _ _ _ _ h, cell_of_row _ _ _ _ _ _ h, cell_of_row _ _ _ _ _ _ h, cell_of_row _ _ _ _ _ _ h⟩
theorem QBx.new (w : World) (a b c d : Value) : QBx (w.alloc (.cells #[a, b, c, d] 33)) w.heap.size a b c d := heap_alloc_new _ _

set_option maxHeartbeats 8000000 in
set_option maxRecDepth 1000000 in
theorem parseQuery_walk (w : World) (s : ByteArray) (hs : s.size ≤ 9223372036854775807) (hsy : SyV w) (hrg : RgV w) (her : ErrQ w) :
    Calls Tryd.prog 4 #[.string s] w fun e w' => e = .returned (.bool true) ∧ Below w.heap.size w w' := by
  by_cases hbig : 1048576 < s.size
  · have q1 : (1048576 : Int) < (s.size : Int) := by omega
    go_enter Tryd.func4, Tryd.ntmps4
    go_wp2_with fail
    go_ret
    exact ⟨rfl, Below.refl _ _⟩
  have q1 : ¬ ((1048576 : Int) < (s.size : Int)) := by omega
  have K1 := hid ((sParse_of rQuery_calls w s (by omega)).mono fun e w' h => h.all)
  have KI : Hid (∀ W, Below w.heap.size w W → _) := hid fun W hW => (iParseQ_calls W s (by omega) (hsy.below hW) (hrg.below hW) (her.below hW)).mono fun e w' h => h.all
  have HF := hid (pqQ_fit s)
  clear hsy hrg her hs hbig
  generalize pqQ s = q at *
  generalize (pqA s).2.1 = c at *
  generalize ((pqA s).2.2 : Int) = o at *
  go_enter Tryd.func4, Tryd.ntmps4
  go_wp2_with fail
  refine K1.out.mono ?_
  rintro e w1 ⟨a1, k1, a2, k2, us, rfl, hq1, hu1, hb1⟩
  obtain ⟨W1, hW1⟩ : ∃ W1, W1 = w1.alloc (.cells #[.string q.name, .slice a1 q.head.length k1, .int .i64 q.ring, .slice a2 q.atoms.length k2] 33) := ⟨_, rfl⟩
  have hB1 : Below w1.heap.size w1 W1 := by rw [hW1]; exact (Below.refl _ _).alloc (Nat.le_refl _) _
  have HX1 : Hid (QBx W1 w1.heap.size (.string q.name) (.slice a1 q.head.length k1) (.int .i64 q.ring) (.slice a2 q.atoms.length k2)) := hid (by rw [hW1]; exact QBx.new _ _ _ _ _)
  have HI1 := hid ((hq1.below hB1).isq hu1)
  have HB1 := hid (bt hb1 hB1)
  clear hq1 hu1 hb1 hB1 K1
  go_upto_region 4 with fail
  rw [← hW1]
  clear hW1
  obtain ⟨P1, hP1⟩ : ∃ P1, P1 = w1.heap.size := ⟨_, rfl⟩
  rw [← hP1] at HX1 ⊢
  clear hP1
  go_wp2_with fail
  refine (KI.out W1 HB1.out).mono ?_
  rintro e w2 ⟨b1, l1, b2, l2, us2, rfl, hq2, hu2, hb2⟩
  obtain ⟨W2, hW2⟩ : ∃ W2, W2 = w2.alloc (.cells #[.string q.name, .slice b1 q.head.length l1, .int .i64 q.ring, .slice b2 q.atoms.length l2] 33) := ⟨_, rfl⟩
  have hB2 : Below w2.heap.size w2 W2 := by rw [hW2]; exact (Below.refl _ _).alloc (Nat.le_refl _) _
  have HX2 : Hid (QBx W2 w2.heap.size (.string q.name) (.slice b1 q.head.length l1) (.int .i64 q.ring) (.slice b2 q.atoms.length l2)) := hid (by rw [hW2]; exact QBx.new _ _ _ _ _)
  have HB2 := hid (bt hb2 hB2)
  have HQ2 := hid (hq2.below hB2)
  have HU2 := hid hu2
  have HX12 := hid (HX1.out.below HB2.out)
  clear hq2 hu2 hb2 hB2
  go_upto_region 5 with fail
  rw [← hW2]
  clear hW2
  obtain ⟨P2, hP2⟩ : ∃ P2, P2 = w2.heap.size := ⟨_, rfl⟩
  rw [← hP2] at HX2 ⊢
  clear hP2
  obtain ⟨x0, x1, x2, x3⟩ := HX12.out.cells
  obtain ⟨y0, y1, y2, y3⟩ := HX2.out.cells
  have KE := hid (eqQuery_same W2 _ _ _ _ q (HQ2.out.isq HU2.out) (HI1.out.below HB2.out) HF.out.ok)
  have KM : Hid (∀ W, Below W2.heap.size W2 W → _) := hid fun W hW => query_marks W W1.heap.size q _ _ us2 (HQ2.out.below hW) HU2.out HF.out (bt HB2.out hW).size
  have KE3 : Hid (∀ W vh va B us', QyR B W vh q.head va us' → us'.map uAt = q.atoms → Below W1.heap.size W1 W → _) := hid fun W vh va B us' h1 h2 h3 => eqQuery_same W vh va _ _ q (h1.isq h2) (HI1.out.below h3) HF.out.ok
  have qc : (c != c) = false := by simp
  have qo : (o != o) = false := by simp
  clear HQ2 HU2 HF HI1
  generalize q.head.length = hn at *
  generalize q.atoms.length = an at *
  generalize q.name = nm at *
  generalize q.ring = rg at *
  go_upto_region 8 with (first | (go_at_call 12; refine KE.out.mono ?_; rintro e w3 ⟨rfl, hb3⟩; have HB3 := hid hb3; clear hb3) | fail)
  have HX23 := hid (HX2.out.below HB3.out)
  have HX13 := hid (HX12.out.below HB3.out)
  have HB23 := hid (bt HB2.out HB3.out)
  have KMk := hid (KM.out w3 HB3.out)
  clear x0 x1 x2 x3 y0 y1 y2 y3 KE HX2 HX12 HB3 KM
  obtain ⟨y0, y1, y2, y3⟩ := HX23.out.cells
  go_wp2_with fail
  refine KMk.out.mono ?_
  rintro e w4 ⟨mm, rfl, hb4, hk4, hh4⟩
  have HX24 := hid (HX23.out.keep hk4)
  have HX14 := hid (HX13.out.keep hk4)
  have KH := hid (hh4 w4 (Below.refl _ _))
  have HB4 : Hid (Below W1.heap.size W1 w4) := hid (HB23.out.trans hb4)
  have g1 : ¬ ((mm : Int) < 0) := by omega
  have g2 : ((mm : Int) != (mm : Int)) = false := by simp
  clear y0 y1 y2 y3 HX23 HX13 HB23 KMk hb4 hk4 hh4 HB2
  obtain ⟨y0, y1, y2, y3⟩ := HX24.out.cells
  go_upto_region 15 with (first | (go_at_call 14; refine KH.out.mono ?_; rintro e w5 ⟨rfl, hb5⟩; have HB5 := hid (bt HB4.out hb5); have HX15 := hid (HX14.out.below hb5); clear hb5) | fail)
  clear KH y0 y1 y2 y3 HX14 HX24 HB4
  go_wp2_with fail
  refine (KI.out w5 (bt HB1.out HB5.out)).mono ?_
  rintro e w6 ⟨d1, m1, d2, m2, us6, rfl, hq6, hu6, hb6⟩
  obtain ⟨W6, hW6⟩ : ∃ W6, W6 = w6.alloc (.cells #[.string nm, .slice d1 hn m1, .int .i64 rg, .slice d2 an m2] 33) := ⟨_, rfl⟩
  have hB6 : Below w6.heap.size w6 W6 := by rw [hW6]; exact (Below.refl _ _).alloc (Nat.le_refl _) _
  have HX6 : Hid (QBx W6 w6.heap.size (.string nm) (.slice d1 hn m1) (.int .i64 rg) (.slice d2 an m2)) := hid (by rw [hW6]; exact QBx.new _ _ _ _ _)
  have HX16 := hid (HX15.out.below (bt hb6 hB6))
  have HB6 := hid (bt HB5.out (bt hb6 hB6))
  have KE := hid (KE3.out W6 _ _ _ us6 (hq6.below hB6) hu6 HB6.out)
  clear hq6 hu6 hb6 hB6 HX15 HB5 KI KE3
  go_upto_region 16 with fail
  rw [← hW6]
  clear hW6
  obtain ⟨P6, hP6⟩ : ∃ P6, P6 = w6.heap.size := ⟨_, rfl⟩
  rw [← hP6] at HX6 ⊢
  clear hP6
  obtain ⟨x0, x1, x2, x3⟩ := HX16.out.cells
  obtain ⟨y0, y1, y2, y3⟩ := HX6.out.cells
  go_wp2_with (first | (go_at_call 12; refine KE.out.mono ?_; rintro e w7 ⟨rfl, hb7⟩; have HB7 := hid (bt (bt HB1.out HB6.out) hb7); clear hb7) | fail)
  go_ret
  exact ⟨rfl, HB7.out⟩

end Go.Proofs.YtcdfoephhjacdaaDoor
