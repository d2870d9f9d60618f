import Derived.Test.YtajelomllfcmiabRatLaws
import Derived.Deep.RegionHeld3
import Derived.Deep.DeepCutAuto
namespace Go.Proofs.Ytajelomllfcmiab
open Go.RowKit

set_option maxHeartbeats 400000 in
theorem toRat_exact (n d : Int) (w : World) :
    Calls Try.prog 16 #[.agg #[.int .i64 n, .int .i64 d]] w fun e w' => e = .returned (.agg #[.int .i64 n, .int .i64 d]) ∧ w' = ((w.alloc (.cells #[.int .i64 n, .int .i64 d] 27)).alloc (.cells #[.int .i64 n, .int .i64 d] 23)).alloc (.cells #[.int .i64 n, .int .i64 d] 23) := by
  go_enter Try.func16, Try.ntmps16
  go_wp2
  exact bodyPost_ret (v := .agg #[.int .i64 n, .int .i64 d]) (by simp [results, Try.results16, go_sem]) rfl ⟨rfl, rfl⟩

theorem four_alloc {w v : World} {a b c d : Int} (o : Obj) (h : v.cell? ⟨w.heap.size, 0, none⟩ = some (.int .i64 a) ∧ v.cell? ⟨w.heap.size, 1, none⟩ = some (.int .i64 b) ∧ v.cell? ⟨w.heap.size + 1, 0, none⟩ = some (.int .i64 c) ∧ v.cell? ⟨w.heap.size + 1, 1, none⟩ = some (.int .i64 d)) : (v.alloc o).cell? ⟨w.heap.size, 0, none⟩ = some (.int .i64 a) ∧ (v.alloc o).cell? ⟨w.heap.size, 1, none⟩ = some (.int .i64 b) ∧ (v.alloc o).cell? ⟨w.heap.size + 1, 0, none⟩ = some (.int .i64 c) ∧ (v.alloc o).cell? ⟨w.heap.size + 1, 1, none⟩ = some (.int .i64 d) :=
  ⟨(World.cell?_alloc_some _ _ _ (by rw [h.1]; rfl)).trans h.1, (World.cell?_alloc_some _ _ _ (by rw [h.2.1]; rfl)).trans h.2.1, (World.cell?_alloc_some _ _ _ (by rw [h.2.2.1]; rfl)).trans h.2.2.1, (World.cell?_alloc_some _ _ _ (by rw [h.2.2.2]; rfl)).trans h.2.2.2⟩

theorem four_set2 {w v : World} {a b c d : Int} (k : Nat) (x y : Value) (hk : w.heap.size + 1 < k) (h : v.cell? ⟨w.heap.size, 0, none⟩ = some (.int .i64 a) ∧ v.cell? ⟨w.heap.size, 1, none⟩ = some (.int .i64 b) ∧ v.cell? ⟨w.heap.size + 1, 0, none⟩ = some (.int .i64 c) ∧ v.cell? ⟨w.heap.size + 1, 1, none⟩ = some (.int .i64 d)) : ((v.setCell ⟨k, 0, none⟩ x).setCell ⟨k, 1, none⟩ y).cell? ⟨w.heap.size, 0, none⟩ = some (.int .i64 a) ∧ ((v.setCell ⟨k, 0, none⟩ x).setCell ⟨k, 1, none⟩ y).cell? ⟨w.heap.size, 1, none⟩ = some (.int .i64 b) ∧ ((v.setCell ⟨k, 0, none⟩ x).setCell ⟨k, 1, none⟩ y).cell? ⟨w.heap.size + 1, 0, none⟩ = some (.int .i64 c) ∧ ((v.setCell ⟨k, 0, none⟩ x).setCell ⟨k, 1, none⟩ y).cell? ⟨w.heap.size + 1, 1, none⟩ = some (.int .i64 d) := by
  refine ⟨?_, ?_, ?_, ?_⟩
  · rw [World.cell?_setCell_far _ _ _ _ (by simp; omega), World.cell?_setCell_far _ _ _ _ (by simp; omega)]; exact h.1
  · rw [World.cell?_setCell_far _ _ _ _ (by simp; omega), World.cell?_setCell_far _ _ _ _ (by simp; omega)]; exact h.2.1
  · rw [World.cell?_setCell_far _ _ _ _ (by simp; omega), World.cell?_setCell_far _ _ _ _ (by simp; omega)]; exact h.2.2.1
  · rw [World.cell?_setCell_far _ _ _ _ (by simp; omega), World.cell?_setCell_far _ _ _ _ (by simp; omega)]; exact h.2.2.2

theorem four_drew {w v : World} {a b c d : Int} (h : v.cell? ⟨w.heap.size, 0, none⟩ = some (.int .i64 a) ∧ v.cell? ⟨w.heap.size, 1, none⟩ = some (.int .i64 b) ∧ v.cell? ⟨w.heap.size + 1, 0, none⟩ = some (.int .i64 c) ∧ v.cell? ⟨w.heap.size + 1, 1, none⟩ = some (.int .i64 d)) : v.drew.cell? ⟨w.heap.size, 0, none⟩ = some (.int .i64 a) ∧ v.drew.cell? ⟨w.heap.size, 1, none⟩ = some (.int .i64 b) ∧ v.drew.cell? ⟨w.heap.size + 1, 0, none⟩ = some (.int .i64 c) ∧ v.drew.cell? ⟨w.heap.size + 1, 1, none⟩ = some (.int .i64 d) := h

theorem four_below {w v w' : World} {a b c d : Int} (hb : Below v.heap.size v w') (hs : w.heap.size + 1 < v.heap.size) (h : v.cell? ⟨w.heap.size, 0, none⟩ = some (.int .i64 a) ∧ v.cell? ⟨w.heap.size, 1, none⟩ = some (.int .i64 b) ∧ v.cell? ⟨w.heap.size + 1, 0, none⟩ = some (.int .i64 c) ∧ v.cell? ⟨w.heap.size + 1, 1, none⟩ = some (.int .i64 d)) : w'.cell? ⟨w.heap.size, 0, none⟩ = some (.int .i64 a) ∧ w'.cell? ⟨w.heap.size, 1, none⟩ = some (.int .i64 b) ∧ w'.cell? ⟨w.heap.size + 1, 0, none⟩ = some (.int .i64 c) ∧ w'.cell? ⟨w.heap.size + 1, 1, none⟩ = some (.int .i64 d) :=
  ⟨(hb.cell (p := ⟨w.heap.size, 0, none⟩) (by simp; omega)).trans h.1, (hb.cell (p := ⟨w.heap.size, 1, none⟩) (by simp; omega)).trans h.2.1, (hb.cell (p := ⟨w.heap.size + 1, 0, none⟩) (by simpa using hs)).trans h.2.2.1, (hb.cell (p := ⟨w.heap.size + 1, 1, none⟩) (by simpa using hs)).trans h.2.2.2⟩

theorem rel2_alloc {w wc w' : World} {t : TypeId} {k : Nat} {x y : Int} (hw : Below w.heap.size w wc) (h : Below wc.heap.size wc w') (hk : k < wc.heap.size) (k0 : wc.cell? ⟨k, 0, none⟩ = some (.int .i64 x)) (k1 : wc.cell? ⟨k, 1, none⟩ = some (.int .i64 y)) :
    ∃ k2, Value.pointer (some ⟨w'.heap.size, 0, none⟩) = .pointer (some ⟨k2, 0, none⟩) ∧ (w'.alloc (.cells #[.int .i64 x, .int .i64 y] t)).cell? ⟨k2, 0, none⟩ = some (.int .i64 x) ∧ (w'.alloc (.cells #[.int .i64 x, .int .i64 y] t)).cell? ⟨k2, 1, none⟩ = some (.int .i64 y) ∧ (w'.alloc (.cells #[.int .i64 x, .int .i64 y] t)).cell? ⟨k, 0, none⟩ = some (.int .i64 x) ∧ (w'.alloc (.cells #[.int .i64 x, .int .i64 y] t)).cell? ⟨k, 1, none⟩ = some (.int .i64 y) ∧ Below w.heap.size w (w'.alloc (.cells #[.int .i64 x, .int .i64 y] t)) := by
  have hz := h.size
  have hz' := hw.size
  have e0 := (h.cell (p := ⟨k, 0, none⟩) hk).trans k0
  have e1 := (h.cell (p := ⟨k, 1, none⟩) hk).trans k1
  exact ⟨w'.heap.size, rfl, by simp [go_sem], by simp [go_sem], (World.cell?_alloc_some _ _ _ (by rw [e0]; rfl)).trans e0, (World.cell?_alloc_some _ _ _ (by rw [e1]; rfl)).trans e1, (bt hw h).alloc (by omega) _⟩

theorem rel2_set {w wc w' : World} {k j : Nat} {x y : Int} {u v : Value} (hw : Below w.heap.size w wc) (h : Below wc.heap.size wc w') (hk : k < wc.heap.size) (k0 : wc.cell? ⟨k, 0, none⟩ = some (.int .i64 x)) (k1 : wc.cell? ⟨k, 1, none⟩ = some (.int .i64 y)) (hj : wc.heap.size ≤ j) (h0 : w'.cell? ⟨j, 0, none⟩ = some u) (h1 : w'.cell? ⟨j, 1, none⟩ = some v) :
    ∃ k2, Value.pointer (some ⟨j, 0, none⟩) = .pointer (some ⟨k2, 0, none⟩) ∧ ((w'.setCell ⟨j, 0, none⟩ (.int .i64 x)).setCell ⟨j, 1, none⟩ (.int .i64 y)).cell? ⟨k2, 0, none⟩ = some (.int .i64 x) ∧ ((w'.setCell ⟨j, 0, none⟩ (.int .i64 x)).setCell ⟨j, 1, none⟩ (.int .i64 y)).cell? ⟨k2, 1, none⟩ = some (.int .i64 y) ∧ ((w'.setCell ⟨j, 0, none⟩ (.int .i64 x)).setCell ⟨j, 1, none⟩ (.int .i64 y)).cell? ⟨k, 0, none⟩ = some (.int .i64 x) ∧ ((w'.setCell ⟨j, 0, none⟩ (.int .i64 x)).setCell ⟨j, 1, none⟩ (.int .i64 y)).cell? ⟨k, 1, none⟩ = some (.int .i64 y) ∧ Below w.heap.size w ((w'.setCell ⟨j, 0, none⟩ (.int .i64 x)).setCell ⟨j, 1, none⟩ (.int .i64 y)) := by
  have hz := h.size
  have hz' := hw.size
  have e0 := (h.cell (p := ⟨k, 0, none⟩) hk).trans k0
  have e1 := (h.cell (p := ⟨k, 1, none⟩) hk).trans k1
  refine ⟨j, rfl, ?_, ?_, ?_, ?_, ((bt hw h).setCell (by simp; omega) _).setCell (by simp; omega) _⟩
  · rw [World.cell?_setCell_other _ _ _ _ (by simp), World.cell?_setCell_same _ _ _ h0]
  · exact World.cell?_setCell_same _ _ _ (by rw [World.cell?_setCell_other _ _ _ _ (by simp)]; exact h1)
  · rw [World.cell?_setCell_far _ _ _ _ (by simp; omega), World.cell?_setCell_far _ _ _ _ (by simp; omega)]; exact e0
  · rw [World.cell?_setCell_far _ _ _ _ (by simp; omega), World.cell?_setCell_far _ _ _ _ (by simp; omega)]; exact e1

theorem rel_alloc {w w' : World} {t u : TypeId} {a b c d x y : Int} (h : Below (w.heap.size + 1 + 1) ((w.alloc (.cells #[.int .i64 a, .int .i64 b] t)).alloc (.cells #[.int .i64 c, .int .i64 d] t)) w') :
    ∃ k, Value.pointer (some ⟨w'.heap.size, 0, none⟩) = .pointer (some ⟨k, 0, none⟩) ∧ (w'.alloc (.cells #[.int .i64 x, .int .i64 y] u)).cell? ⟨k, 0, none⟩ = some (.int .i64 x) ∧ (w'.alloc (.cells #[.int .i64 x, .int .i64 y] u)).cell? ⟨k, 1, none⟩ = some (.int .i64 y) ∧ w.heap.size + 1 < k ∧ k < (w'.alloc (.cells #[.int .i64 x, .int .i64 y] u)).heap.size ∧ Below (w.heap.size + 1 + 1) ((w.alloc (.cells #[.int .i64 a, .int .i64 b] t)).alloc (.cells #[.int .i64 c, .int .i64 d] t)) (w'.alloc (.cells #[.int .i64 x, .int .i64 y] u)) := by
  have hz := h.size
  simp at hz
  exact ⟨w'.heap.size, rfl, by simp [go_sem], by simp [go_sem], by omega, by simp, h.alloc (by omega) _⟩

theorem rel_set {w w' : World} {t : TypeId} {a b c d x y : Int} {k : Nat} {u v : Value} (h : Below (w.heap.size + 1 + 1) ((w.alloc (.cells #[.int .i64 a, .int .i64 b] t)).alloc (.cells #[.int .i64 c, .int .i64 d] t)) w') (hk : w.heap.size + 1 < k) (hk' : k < w'.heap.size) (h0 : w'.cell? ⟨k, 0, none⟩ = some u) (h1 : w'.cell? ⟨k, 1, none⟩ = some v) :
    ∃ k', Value.pointer (some ⟨k, 0, none⟩) = .pointer (some ⟨k', 0, none⟩) ∧ ((w'.setCell ⟨k, 0, none⟩ (.int .i64 x)).setCell ⟨k, 1, none⟩ (.int .i64 y)).cell? ⟨k', 0, none⟩ = some (.int .i64 x) ∧ ((w'.setCell ⟨k, 0, none⟩ (.int .i64 x)).setCell ⟨k, 1, none⟩ (.int .i64 y)).cell? ⟨k', 1, none⟩ = some (.int .i64 y) ∧ w.heap.size + 1 < k' ∧ k' < ((w'.setCell ⟨k, 0, none⟩ (.int .i64 x)).setCell ⟨k, 1, none⟩ (.int .i64 y)).heap.size ∧ Below (w.heap.size + 1 + 1) ((w.alloc (.cells #[.int .i64 a, .int .i64 b] t)).alloc (.cells #[.int .i64 c, .int .i64 d] t)) ((w'.setCell ⟨k, 0, none⟩ (.int .i64 x)).setCell ⟨k, 1, none⟩ (.int .i64 y)) := by
  refine ⟨k, rfl, ?_, ?_, hk, by simpa using hk', (h.setCell (by simp; omega) _).setCell (by simp; omega) _⟩
  · rw [World.cell?_setCell_other _ _ _ _ (by simp), World.cell?_setCell_same _ _ _ h0]
  · exact World.cell?_setCell_same _ _ _ (by rw [World.cell?_setCell_other _ _ _ _ (by simp)]; exact h1)

set_option maxHeartbeats 800000 in
theorem addRat_walk (a b c d : Int) (w : World) :
    Calls Try.prog 4 #[.agg #[.int .i64 a, .int .i64 b], .agg #[.int .i64 c, .int .i64 d]] w fun e w' => e = .returned (.bool true) ∧ Below w.heap.size w w' := by
  obtain ⟨x, y, hh⟩ := addRat_both a b c d
  have H := hid hh
  clear hh
  go_enter Try.func4, Try.ntmps4
  go_wp2_with fail
  go_cut [5] (fun v wc => ∃ k, v = .pointer (some ⟨k, 0, none⟩) ∧ wc.cell? ⟨k, 0, none⟩ = some (.int .i64 x) ∧ wc.cell? ⟨k, 1, none⟩ = some (.int .i64 y) ∧ w.heap.size + 1 < k ∧ k < wc.heap.size ∧ Below (w.heap.size + 1 + 1) ((w.alloc (.cells #[.int .i64 a, .int .i64 b] 27)).alloc (.cells #[.int .i64 c, .int .i64 d] 27)) wc)
  case first =>
    have HQ : Hid (((w.alloc (.cells #[.int .i64 a, .int .i64 b] 27)).alloc (.cells #[.int .i64 c, .int .i64 d] 27)).cell? ⟨w.heap.size, 0, none⟩ = some (.int .i64 a) ∧ ((w.alloc (.cells #[.int .i64 a, .int .i64 b] 27)).alloc (.cells #[.int .i64 c, .int .i64 d] 27)).cell? ⟨w.heap.size, 1, none⟩ = some (.int .i64 b) ∧ ((w.alloc (.cells #[.int .i64 a, .int .i64 b] 27)).alloc (.cells #[.int .i64 c, .int .i64 d] 27)).cell? ⟨w.heap.size + 1, 0, none⟩ = some (.int .i64 c) ∧ ((w.alloc (.cells #[.int .i64 a, .int .i64 b] 27)).alloc (.cells #[.int .i64 c, .int .i64 d] 27)).cell? ⟨w.heap.size + 1, 1, none⟩ = some (.int .i64 d)) := by refine ⟨?_, ?_, ?_, ?_⟩ <;> simp [go_sem]
    go_region_held3 (fun w' => w'.cell? ⟨w.heap.size, 0, none⟩ = some (.int .i64 a) ∧ w'.cell? ⟨w.heap.size, 1, none⟩ = some (.int .i64 b) ∧ w'.cell? ⟨w.heap.size + 1, 0, none⟩ = some (.int .i64 c) ∧ w'.cell? ⟨w.heap.size + 1, 1, none⟩ = some (.int .i64 d)) (repeat' (first | with_reducible exact HQ.out | with_reducible refine four_drew ?_ | with_reducible refine four_alloc _ ?_ | (refine four_set2 _ _ _ ?_ ?_) | refine four_below hb ?_ ?_ | (simp; done) | (simp; omega) | omega))
      (first | (go_at_call 16; refine (toRat_exact _ _ _).mono ?_; rintro e w' ⟨rfl, rfl⟩) | (go_at_call 15; refine (H.out _).1.mono ?_; rintro e w' ⟨rfl, hb⟩; obtain ⟨hc, hf⟩ := bcell hb; have hz := hb.size; simp at hz))
    all_goals (go_wp2_with fail; go_meet)
    all_goals have hX : Below (w.heap.size + 1 + 1) ((w.alloc (.cells #[.int .i64 a, .int .i64 b] 27)).alloc (.cells #[.int .i64 c, .int .i64 d] 27)) w' := (by refine Below.trans (b := _) ?_ (hb.mono ?_); (go_grown))
    all_goals first
      | exact rel_alloc hX
      | exact rel_set (u := .int .i64 0) (v := .int .i64 0) hX (by omega) (by omega) (by simp [hc, go_sem]) (by simp [hc, go_sem])
  case rest =>
    obtain ⟨k, rfl, k0, k1, hk, hk', hX⟩ := hcut
    obtain ⟨s0, s1, s2, s3, _⟩ := boxes_of hX
    have HQ := hid (And.intro s0 (And.intro s1 (And.intro s2 s3)))
    have hz0 := hX.size
    simp at hz0
    have hw : Below w.heap.size w wc := (((Below.refl _ _).alloc (Nat.le_refl _) _).alloc (by simp) _).trans (hX.mono (by omega))
    clear hX
    go_wp2_with fail
    go_cut [6] (fun v wd => ∃ k2, v = .pointer (some ⟨k2, 0, none⟩) ∧ wd.cell? ⟨k2, 0, none⟩ = some (.int .i64 x) ∧ wd.cell? ⟨k2, 1, none⟩ = some (.int .i64 y) ∧ wd.cell? ⟨k, 0, none⟩ = some (.int .i64 x) ∧ wd.cell? ⟨k, 1, none⟩ = some (.int .i64 y) ∧ Below w.heap.size w wd)
    case first =>
      go_region_held3 (fun w' => w'.cell? ⟨w.heap.size, 0, none⟩ = some (.int .i64 a) ∧ w'.cell? ⟨w.heap.size, 1, none⟩ = some (.int .i64 b) ∧ w'.cell? ⟨w.heap.size + 1, 0, none⟩ = some (.int .i64 c) ∧ w'.cell? ⟨w.heap.size + 1, 1, none⟩ = some (.int .i64 d)) (repeat' (first | with_reducible exact HQ.out | with_reducible refine four_drew ?_ | with_reducible refine four_alloc _ ?_ | (refine four_set2 _ _ _ ?_ ?_) | refine four_below hb ?_ ?_ | (simp; done) | (simp; omega) | omega))
        (first | (go_at_call 16; refine (toRat_exact _ _ _).mono ?_; rintro e w' ⟨rfl, rfl⟩) | (go_at_call 17; refine (H.out _).2.mono ?_; rintro e w' ⟨rfl, hb⟩; obtain ⟨hc, hf⟩ := bcell hb; have hz := hb.size; simp at hz))
      all_goals (go_wp2_with fail; go_meet)
      all_goals have hX : Below wc.heap.size wc w' := (by refine Below.trans (b := _) ?_ (hb.mono ?_); (go_grown))
      all_goals first
        | exact rel2_alloc hw hX hk' k0 k1
        | exact rel2_set (u := .int .i64 0) (v := .int .i64 0) hw hX hk' k0 k1 (by omega) (by simp [hc, go_sem]) (by simp [hc, go_sem])
    case rest =>
      rename_i wd hcut
      obtain ⟨k2, rfl, j0, j1, j2, j3, hB⟩ := hcut
      go_wp2_with fail
      refine (eqRat_same x y _).mono ?_
      rintro e w3 ⟨rfl, hb3⟩
      go_wp2
      go_ret
      exact ⟨rfl, bt hB hb3⟩

end Go.Proofs.Ytajelomllfcmiab
