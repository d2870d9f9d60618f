import Derived.Test.YtpdloenmplafiaaTerms2
import Derived.Deep.Cut
/-
  Atoms and lists of atoms: laws.szAtom(S), toAtom(S), eqAtom(S).
-/
namespace Go.Proofs.Ytpdloenmplafiaa
open Go.RowKit

abbrev AtomV := ByteArray × List TermV
def noAt : AtomV := (noTx, [])

/-- one atom's cells -/
def AtAt (w : World) (b o : Nat) (x : AtomV) : Prop := ∃ u, w.cell? ⟨b, o, none⟩ = some (.string x.1) ∧ w.cell? ⟨b, o + 1, none⟩ = some u ∧ ITm w u x.2

theorem AtAt.below {w w' : World} {b o : Nat} {x : AtomV} (h : AtAt w b o x) (hb : Below w.heap.size w w') : AtAt w' b o x := by
  obtain ⟨u, h0, h1, h2⟩ := h
  exact ⟨u, (hb.cell (p := ⟨b, o, none⟩) (World.block_lt_of_cell? w _ h0)).trans h0, (hb.cell (p := ⟨b, o + 1, none⟩) (World.block_lt_of_cell? w _ h1)).trans h1, h2.below hb⟩

/-- a list of atoms, read only -/
def IAt (w : World) (v : Value) (l : List AtomV) : Prop := ∃ a cap, v = .slice a l.length cap ∧ (l.length = 0 ∨ ∃ b o, a = some ⟨b, o, none⟩ ∧ ∀ j, j < l.length → AtAt w b (o + j * 2) (l.getD j noAt))

theorem IAt.below {w w' : World} {v : Value} {l : List AtomV} (h : IAt w v l) (hb : Below w.heap.size w w') : IAt w' v l := by
  obtain ⟨a, cap, rfl, h⟩ := h
  refine ⟨a, cap, rfl, ?_⟩
  rcases h with h | ⟨b, o, rfl, h⟩
  · exact Or.inl h
  · exact Or.inr ⟨b, o, rfl, fun j hj => (h j hj).below hb⟩

/-- what the size of an atom may be -/
structure FitAt (x : AtomV) : Prop where
  rel : x.1.size ≤ 9223372036854775807
  len : x.2.length ≤ 9223372036854775807
  tx : ∀ j, (x.2.getD j noTm).1.size ≤ 9223372036854775807
/-- small enough to be copied -/
structure OkAt (x : AtomV) : Prop where
  rel : x.1.size ≤ 1048576
  len : x.2.length ≤ 1048576
  tx : ∀ j, j < x.2.length → (x.2.getD j noTm).1.size ≤ 1048576

theorem heap_set_ne {w : World} {g c o : Nat} {v : Value} (h : g ≠ c) : (w.setCell ⟨c, o, none⟩ v).heap[g]? = w.heap[g]? := Below.heap_setCell _ _ _ _ h

set_option maxHeartbeats 4000000 in
set_option maxRecDepth 1000000 in
theorem toAtom_calls (w : World) (s : ByteArray) (v : Value) (l : List TermV) (h : ITm w v l) (hl : l.length ≤ 1048576) :
    Calls Try.prog 128 #[.agg #[.string s, v]] w fun e w' => ∃ gt, e = .returned (.agg #[.string s, .slice (some ⟨gt, 0, none⟩) l.length l.length]) ∧ OwnTm w' gt l ∧ w.heap.size + 3 ≤ gt ∧ Below w.heap.size w w' := by
  have HI := hid h
  obtain ⟨a, cap, rfl, -⟩ := h
  go_enter Try.func128, Try.ntmps128
  go_upto_region 3 with fail
  obtain ⟨WX, hWX⟩ : ∃ W, W = (((w.alloc (.cells #[.string s, .slice a l.length cap] 163)).alloc (.cells #[.string ⟨#[]⟩, .slice none 0 0] 166)).alloc (.cells #[.string s, .slice none 0 0] 166)) := ⟨_, rfl⟩
  have a1 : WX.cell? ⟨w.heap.size, 1, none⟩ = some (.slice a l.length cap) := by rw [hWX, World.cell?_alloc_past _ _ _ (by simp; omega), World.cell?_alloc_past _ _ _ (by simp), World.cell?_alloc_at _ _ _ _ rfl]; rfl
  have r0 : WX.cell? ⟨w.heap.size + 1, 0, none⟩ = some (.string ⟨#[]⟩) := by rw [hWX, World.cell?_alloc_past _ _ _ (by simp), World.cell?_alloc_at _ _ _ _ (by simp)]; rfl
  have r1 : WX.cell? ⟨w.heap.size + 1, 1, none⟩ = some (.slice none 0 0) := by rw [hWX, World.cell?_alloc_past _ _ _ (by simp), World.cell?_alloc_at _ _ _ _ (by simp)]; rfl
  have o0 : WX.cell? ⟨w.heap.size + 1 + 1, 0, none⟩ = some (.string s) := by rw [hWX, World.cell?_alloc_at _ _ _ _ (by simp)]; rfl
  have o1 : WX.cell? ⟨w.heap.size + 1 + 1, 1, none⟩ = some (.slice none 0 0) := by rw [hWX, World.cell?_alloc_at _ _ _ _ (by simp)]; rfl
  have f0 : WX.frozen? ⟨w.heap.size + 1, 0, none⟩ = false := by rw [hWX, World.frozen?_alloc_past _ _ _ (by simp)]; exact World.frozen?_alloc_at _ _ _ _ (by simp)
  have f1 : WX.frozen? ⟨w.heap.size + 1, 1, none⟩ = false := by rw [hWX, World.frozen?_alloc_past _ _ _ (by simp)]; exact World.frozen?_alloc_at _ _ _ _ (by simp)
  have f2 : WX.frozen? ⟨w.heap.size + 1 + 1, 1, none⟩ = false := by rw [hWX]; exact World.frozen?_alloc_at _ _ _ _ (by simp)
  have hsz : WX.heap.size = w.heap.size + 3 := by rw [hWX]; simp
  have HB : Hid (Below w.heap.size w WX) := hid (by rw [hWX]; exact (((Below.refl _ _).alloc (Nat.le_refl _) _).alloc (by simp) _).alloc (by simp; omega) _)
  rw [← hWX]
  clear hWX
  go_wp2_with fail
  refine (toTermS_calls WX _ l (HI.out.below HB.out) hl).mono ?_
  rintro e w2 ⟨rfl, hO, hb2⟩
  have r0' := (hb2.cell (p := ⟨w.heap.size + 1, 0, none⟩) (by show w.heap.size + 1 < _; omega)).trans r0
  have r1' := (hb2.cell (p := ⟨w.heap.size + 1, 1, none⟩) (by show w.heap.size + 1 < _; omega)).trans r1
  have o0' := (hb2.cell (p := ⟨w.heap.size + 1 + 1, 0, none⟩) (by show w.heap.size + 1 + 1 < _; omega)).trans o0
  have o1' := (hb2.cell (p := ⟨w.heap.size + 1 + 1, 1, none⟩) (by show w.heap.size + 1 + 1 < _; omega)).trans o1
  have f0' := (hb2.frozen (p := ⟨w.heap.size + 1, 0, none⟩) (by show w.heap.size + 1 < _; omega)).trans f0
  have f1' := (hb2.frozen (p := ⟨w.heap.size + 1, 1, none⟩) (by show w.heap.size + 1 < _; omega)).trans f1
  have f2' := (hb2.frozen (p := ⟨w.heap.size + 1 + 1, 1, none⟩) (by show w.heap.size + 1 + 1 < _; omega)).trans f2
  have HO := hid hO
  have HB2 := hid (bt HB.out hb2)
  have hlt := hO.lt
  clear a1 r0 r1 o0 o1 f0 f1 f2 hb2 hO HB
  rw [hsz] at *
  clear hsz
  go_wp2
  have e0 : ∀ (X : World) (u v : Value), (∃ z, X.cell? ⟨w.heap.size + 1, 0, none⟩ = some z) → ((X.setCell ⟨w.heap.size + 1, 0, none⟩ u).setCell ⟨w.heap.size + 1, 1, none⟩ v).cell? ⟨w.heap.size + 1, 0, none⟩ = some u := fun X u v ⟨z, hz⟩ =>
    (World.cell?_setCell_other _ _ _ _ (by simp)).trans (World.cell?_setCell_same _ _ _ hz)
  have e1 : ∀ (X : World) (u v : Value), (∃ z, X.cell? ⟨w.heap.size + 1, 1, none⟩ = some z) → ((X.setCell ⟨w.heap.size + 1, 0, none⟩ u).setCell ⟨w.heap.size + 1, 1, none⟩ v).cell? ⟨w.heap.size + 1, 1, none⟩ = some v := fun X u v ⟨z, hz⟩ =>
    World.cell?_setCell_same _ _ _ ((World.cell?_setCell_other _ _ _ _ (by simp)).trans hz)
  have g0 := e0 (w2.setCell ⟨w.heap.size + 1 + 1, 1, none⟩ (.slice (some ⟨w.heap.size + 3, 0, none⟩) l.length l.length)) (.string s) (.slice (some ⟨w.heap.size + 3, 0, none⟩) l.length l.length) ⟨_, (World.cell?_setCell_other _ _ _ _ (by simp)).trans r0'⟩
  have g1 := e1 (w2.setCell ⟨w.heap.size + 1 + 1, 1, none⟩ (.slice (some ⟨w.heap.size + 3, 0, none⟩) l.length l.length)) (.string s) (.slice (some ⟨w.heap.size + 3, 0, none⟩) l.length l.length) ⟨_, (World.cell?_setCell_other _ _ _ _ (by simp)).trans r1'⟩
  refine bodyPost_ret (v := .agg #[.string s, .slice (some ⟨w.heap.size + 3, 0, none⟩) l.length l.length]) (by simp [results, Try.results128, go_sem, g0, g1]) rfl ⟨_, rfl, HO.out.move ?_ (by simp [World.setCell]), Nat.le_refl _, ?_⟩
  · rw [heap_set_ne (by omega), heap_set_ne (by omega), heap_set_ne (by omega)]
  · exact ((HB2.out.setCell (by show w.heap.size ≤ w.heap.size + 1 + 1; omega) _).setCell (by show w.heap.size ≤ w.heap.size + 1; omega) _).setCell (by show w.heap.size ≤ w.heap.size + 1; omega) _

end Go.Proofs.Ytpdloenmplafiaa
