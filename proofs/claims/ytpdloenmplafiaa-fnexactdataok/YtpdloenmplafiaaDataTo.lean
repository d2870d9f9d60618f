import Derived.Test.YtpdloenmplafiaaDataOk
import Derived.Test.YtpdloenmplafiaaBoxes4
/-
  Copies of relations: laws.toRelation.
-/
namespace Go.Proofs.Ytpdloenmplafiaa
open Go.RowKit

/-- a relation's two lists in blocks of the copy's own -/
def OwnRel (w : World) (B : Nat) (ur uw : Value) (r : RelV) : Prop := ∃ g1 g2 f, ur = .slice (some ⟨g1, 0, none⟩) r.rows.length r.rows.length ∧ uw = .slice (some ⟨g2, 0, none⟩) r.ws.length r.ws.length ∧ Half w g1 r.rows.length r.rows.length r.rows f ∧ OwnI w g2 r.ws ∧ B ≤ g1 ∧ g1 < g2

theorem OwnRel.irel {w : World} {B : Nat} {ur uw : Value} {r : RelV} (h : OwnRel w B ur uw r) : IRel w ur uw r := by
  obtain ⟨g1, g2, f, rfl, rfl, h1, h2, _, _⟩ := h
  exact ⟨h1.iss rfl, h2.is⟩
theorem OwnRel.below {w w' : World} {B : Nat} {ur uw : Value} {r : RelV} (h : OwnRel w B ur uw r) (hb : Below w.heap.size w w') : OwnRel w' B ur uw r := by
  obtain ⟨g1, g2, f, rfl, rfl, h1, h2, h3, h4⟩ := h
  exact ⟨g1, g2, f, rfl, rfl, h1.below (Nat.lt_trans h4 h2.lt) hb, h2.below hb, h3, h4⟩
theorem OwnRel.set {w : World} {B c o : Nat} {ur uw v : Value} {r : RelV} (h : OwnRel w B ur uw r) (hc : c < B) : OwnRel (w.setCell ⟨c, o, none⟩ v) B ur uw r := by
  obtain ⟨g1, g2, f, rfl, rfl, h1, h2, h3, h4⟩ := h
  exact ⟨g1, g2, f, rfl, rfl, h1.set (by omega), h2.set (by omega), h3, h4⟩
theorem OwnRel.mono {w : World} {B B' : Nat} {ur uw : Value} {r : RelV} (h : OwnRel w B ur uw r) (hc : B' ≤ B) : OwnRel w B' ur uw r := by
  obtain ⟨g1, g2, f, rfl, rfl, h1, h2, h3, h4⟩ := h
  exact ⟨g1, g2, f, rfl, rfl, h1, h2, Nat.le_trans hc h3, h4⟩

set_option maxHeartbeats 4000000 in
set_option maxRecDepth 1000000 in
theorem toRelation_calls (w : World) (v1 v2 : Value) (r : RelV) (h : IRel w v1 v2 r) (hr : OkRel r) :
    Calls Try.prog 111 #[.agg #[.string r.name, .int .i64 r.ar, v1, v2]] w fun e w' => ∃ ur uw, e = .returned (.agg #[.string r.name, .int .i64 r.ar, ur, uw]) ∧ OwnRel w' (w.heap.size + 3) ur uw r ∧ Below w.heap.size w w' := by
  have H1 := hid h.rows
  have H2 := hid h.ws
  have HR := hid hr.rows
  have hw := hr.ws
  obtain ⟨a1, k1, rfl, -⟩ := h.rows
  obtain ⟨a2, k2, rfl, -⟩ := h.ws
  clear h hr
  unfold OwnRel
  generalize r.rows = rows at *
  generalize r.ws = ws at *
  generalize r.name = nm at *
  generalize r.ar = ar at *
  have HT0 := hid (TB4.start w 145 97 97 (.string nm) (.int .i64 ar) (.slice a1 rows.length k1) (.slice a2 ws.length k2) (.string ⟨#[]⟩) (.int .i64 0) (.slice none 0 0) (.slice none 0 0) (.string nm) (.int .i64 ar) (.slice none 0 0) (.slice none 0 0))
  go_enter Try.func111, Try.ntmps111
  go_wp2_with fail
  refine (toIntSS_calls _ _ rows (H1.out.below HT0.out.below) HR.out).mono ?_
  rintro e w2 ⟨rfl, ⟨f, ho1⟩, hlt1, hb0⟩
  have HT1 := hid (HT0.out.step hb0)
  have y1 := HT1.out.a3
  have y2 := HT1.out.o2
  have y3 := HT1.out.fo2
  have HO1 : Hid (Half w2 (w.heap.size + 1 + 1 + 1) rows.length rows.length rows f) := hid (by simpa using ho1)
  have HL1 : Hid (w.heap.size + 1 + 1 + 1 < w2.heap.size) := hid (by simpa using hlt1)
  clear ho1 hb0 hlt1
  go_wp2_with fail
  have HT2 := hid (HT1.out.set2 (.slice (some ⟨w.heap.size + 1 + 1 + 1, 0, none⟩) rows.length rows.length))
  refine (toIntS_calls _ _ ws (H2.out.below HT2.out.below) hw).mono ?_
  rintro e w3 ⟨rfl, ho2, hb1⟩
  have HT3 := hid (HT2.out.step hb1)
  have z0 := HT3.out.o0
  have z1 := HT3.out.o1
  have z2 := HT3.out.o2
  have z3 := HT3.out.o3
  have z4 := HT3.out.fo3
  have z5 := HT3.out.r0
  have z6 := HT3.out.r1
  have z7 := HT3.out.r2
  have z8 := HT3.out.r3
  have z9 := HT3.out.fr0
  have z10 := HT3.out.fr1
  have z11 := HT3.out.fr2
  have z12 := HT3.out.fr3
  have hsz : (w2.setCell ⟨w.heap.size + 1 + 1, 2, none⟩ (.slice (some ⟨w.heap.size + 1 + 1 + 1, 0, none⟩) rows.length rows.length)).heap.size = w2.heap.size := by simp [World.setCell]
  have HO3 : Hid (Half w3 (w.heap.size + 1 + 1 + 1) rows.length rows.length rows f) := hid ((HO1.out.set (by omega)).below (by rw [hsz]; exact HL1.out) hb1)
  have hg : w.heap.size + 1 + 1 + 1 < (w2.setCell ⟨w.heap.size + 1 + 1, 2, none⟩ (.slice (some ⟨w.heap.size + 1 + 1 + 1, 0, none⟩) rows.length rows.length)).heap.size := by rw [hsz]; exact HL1.out
  have HO4 := hid ho2
  generalize (w2.setCell ⟨w.heap.size + 1 + 1, 2, none⟩ (.slice (some ⟨w.heap.size + 1 + 1 + 1, 0, none⟩) rows.length rows.length)).heap.size = g2 at *
  clear ho2 hb1 hsz y1 y2 y3 HO1 HL1
  go_wp2
  refine bodyPost_ret (v := .agg #[.string nm, .int .i64 ar, .slice (some ⟨w.heap.size + 1 + 1 + 1, 0, none⟩) rows.length rows.length, .slice (some ⟨g2, 0, none⟩) ws.length ws.length]) (by simp [results, Try.results111, go_sem, z5, z6, z7, z8]) rfl
    ⟨_, _, rfl, ⟨_, _, f, rfl, rfl, (((((HO3.out.set (by omega)).set (by omega)).set (by omega)).set (by omega)).set (by omega)), (((((HO4.out.set (by omega)).set (by omega)).set (by omega)).set (by omega)).set (by omega)), by omega, hg⟩,
    ((((HT3.out.below.setCell (by show w.heap.size ≤ w.heap.size + 1 + 1; omega) _).setCell (by show w.heap.size ≤ w.heap.size + 1; omega) _).setCell (by show w.heap.size ≤ w.heap.size + 1; omega) _).setCell (by show w.heap.size ≤ w.heap.size + 1; omega) _).setCell (by show w.heap.size ≤ w.heap.size + 1; omega) _⟩

end Go.Proofs.Ytpdloenmplafiaa
