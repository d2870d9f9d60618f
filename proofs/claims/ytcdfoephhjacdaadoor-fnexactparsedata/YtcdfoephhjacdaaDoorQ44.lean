import Derived.Test.YtcdfoephhjacdaaDoorQ02
import Derived.Test.YtcdfoephhjacdaaDoorQ25
/-
  spec.DataOK.
-/
namespace Go.Proofs.YtcdfoephhjacdaaDoor
open Go.RowKit

structure RB (w : World) (dB rB : Nat) (vd v0 v1 v2 v3 : Value) (W : World) : Prop where
  d0 : W.cell? ⟨dB, 0, none⟩ = some vd
  r0 : W.cell? ⟨rB, 0, none⟩ = some v0
  r1 : W.cell? ⟨rB, 1, none⟩ = some v1
  r2 : W.cell? ⟨rB, 2, none⟩ = some v2
  r3 : W.cell? ⟨rB, 3, none⟩ = some v3
  dl : dB < W.heap.size
  rl : rB < W.heap.size
  below : Below dB w W

theorem RB.step {w W W' : World} {dB rB : Nat} {vd v0 v1 v2 v3 : Value} (h : RB w dB rB vd v0 v1 v2 v3 W) (hb : Below W.heap.size W W') : RB w dB rB vd v0 v1 v2 v3 W' where
  d0 := (hb.cell (p := ⟨dB, 0, none⟩) h.dl).trans h.d0
  r0 := (hb.cell (p := ⟨rB, 0, none⟩) h.rl).trans h.r0
  r1 := (hb.cell (p := ⟨rB, 1, none⟩) h.rl).trans h.r1
  r2 := (hb.cell (p := ⟨rB, 2, none⟩) h.rl).trans h.r2
  r3 := (hb.cell (p := ⟨rB, 3, none⟩) h.rl).trans h.r3
  dl := Nat.lt_of_lt_of_le h.dl hb.size
  rl := Nat.lt_of_lt_of_le h.rl hb.size
  below := h.below.trans (hb.mono (Nat.le_of_lt h.dl))

theorem RB.drewN {w W : World} {dB rB : Nat} {vd v0 v1 v2 v3 : Value} (h : RB w dB rB vd v0 v1 v2 v3 W) (d : Nat) : RB w dB rB vd v0 v1 v2 v3 (W.drewN d) := h.step (below_drewN (Below.refl _ _) d)

theorem between_val (w : World) (x lo hi : Int) : Calls Tryd.prog 68 #[.int .i64 x, .int .i64 lo, .int .i64 hi] w fun e w' => e = .returned (.bool (decide (lo ≤ x) && decide (x ≤ hi))) ∧ w' = w := by
  by_cases h1 : lo ≤ x
  · by_cases h2 : x ≤ hi
    · rw [decide_eq_true h1, decide_eq_true h2]; exact between_yes x lo hi w h1 h2
    · rw [decide_eq_true h1, decide_eq_false h2]; exact between_no2 x lo hi w h1 (by omega)
  · rw [decide_eq_false h1]; exact between_no1 x lo hi w (by omega)

theorem named_hit {ds : List RelV} {k i : Nat} {s : ByteArray} (hi : i < k) (h : (ds.getD i noRel).name = s) : namedB ds k s = true :=
  List.any_eq_true.2 ⟨i, by simpa using hi, decide_eq_true h⟩
theorem named_miss {ds : List RelV} {k : Nat} {s : ByteArray} (h : ∀ i, i < k → (ds.getD i noRel).name ≠ s) : namedB ds k s = false :=
  List.any_eq_false.2 fun i hi => by simpa using h i (by simpa using hi)

theorem beq_names (a b : ByteArray) : (a.toList == b.toList) = decide (a = b) := by
  rw [ByteArray.toList_eq, ByteArray.toList_eq]
  by_cases h : a = b
  · subst h; simp
  · rw [decide_eq_false h]
    simp only [beq_eq_false_iff_ne, ne_eq]
    exact fun e => h (WideShapes.bytes_inj e)

end Go.Proofs.YtcdfoephhjacdaaDoor

/-
  Copies of relations: laws.toRelation.
-/
namespace Go.Proofs.YtcdfoephhjacdaaDoor
open Go.RowKit

/-- a relation's two lists in blocks of the copy's own -/
def OwnRel (w : World) (B : Nat) (ur uw : Value) (r : RelV) : Prop := ∃ g1 g2 f, ur = .slice (some ⟨g1, 0, none⟩) r.rows.length r.rows.length ∧ uw = .slice (some ⟨g2, 0, none⟩) r.ws.length r.ws.length ∧ Half w g1 r.rows.length r.rows.length r.rows f ∧ OwnI w g2 r.ws ∧ B ≤ g1 ∧ g1 < g2

theorem OwnRel.irel {w : World} {B : Nat} {ur uw : Value} {r : RelV} (h : OwnRel w B ur uw r) : IRel w ur uw r := by
  obtain ⟨g1, g2, f, rfl, rfl, h1, h2, _, _⟩ := h
  exact ⟨h1.iss rfl, h2.is⟩
theorem OwnRel.below {w w' : World} {B : Nat} {ur uw : Value} {r : RelV} (h : OwnRel w B ur uw r) (hb : Below w.heap.size w w') : OwnRel w' B ur uw r := by
  obtain ⟨g1, g2, f, rfl, rfl, h1, h2, h3, h4⟩ := h
  exact ⟨g1, g2, f, rfl, rfl, h1.below (Nat.lt_trans h4 h2.lt) hb, h2.below hb, h3, h4⟩
theorem OwnRel.set {w : World} {B c o : Nat} {ur uw v : Value} {r : RelV} (h : OwnRel w B ur uw r) (hc : c < B) : OwnRel (w.setCell ⟨c, o, none⟩ v) B ur uw r := by
  obtain ⟨g1, g2, f, rfl, rfl, h1, h2, h3, h4⟩ := h
  exact ⟨g1, g2, f, rfl, rfl, h1.set (by omega), h2.set (by omega), h3, h4⟩
theorem OwnRel.mono {w : World} {B B' : Nat} {ur uw : Value} {r : RelV} (h : OwnRel w B ur uw r) (hc : B' ≤ B) : OwnRel w B' ur uw r := by
  obtain ⟨g1, g2, f, rfl, rfl, h1, h2, h3, h4⟩ := h
  exact ⟨g1, g2, f, rfl, rfl, h1, h2, Nat.le_trans hc h3, h4⟩

end Go.Proofs.YtcdfoephhjacdaaDoor
