import Derived.Shelf.SlSortCmp.KitK
import Derived.Test.YtcgboccdffgkfaaDoorPa05
import Derived.Test.YtcgboccdffgkfaaDoorPa09
/-
  impl.compareTuples.
-/
namespace Go.Proofs.YtcgboccdffgkfaaDoor
open Go.RowKit Go.Shelf Go.Lib Go.Sort

theorem is_box (W : World) (x : T3) (n : Nat) (hn : n ≤ 3) (c : Nat) : IS (W.alloc (.cells #[.int .i64 x.a, .int .i64 x.b, .int .i64 x.c] 102)) (.slice (some ⟨W.heap.size, 0, none⟩) n c) ((tl x).take n) := by
  have hl : ((tl x).take n).length = n := by simp [tl]; omega
  refine ⟨_, c, by rw [hl], Or.inr ⟨W.heap.size, 0, rfl, fun j hj => ?_⟩⟩
  rw [hl] at hj
  rw [Nat.zero_add, World.cell?_alloc_at _ _ _ _ rfl, List.getD_eq_getElem?_getD, List.getElem?_take_of_lt hj]
  obtain rfl | rfl | rfl : j = 0 ∨ j = 1 ∨ j = 2 := by omega
  all_goals rfl

set_option maxHeartbeats 2000000 in
set_option maxRecDepth 1000000 in
theorem cmpT_calls (W : World) (x y : T3) : Calls Tryd.prog 68 #[tv x, tv y] W fun e w' => e = .returned (.int .i64 (cmpL (tl x) (tl y))) ∧ ∃ q os', w' = grow (W.drewN q) os' := by
  have K : Hid (∀ d, Calls Tryd.prog 94 #[.slice (some ⟨W.heap.size, 0, none⟩) 3 3, .slice (some ⟨W.heap.size + 1, 0, none⟩) 3 3] (((W.alloc (.cells #[.int .i64 x.a, .int .i64 x.b, .int .i64 x.c] 102)).alloc (.cells #[.int .i64 y.a, .int .i64 y.b, .int .i64 y.c] 102)).drewN d) fun e w' => e = .returned (.int .i64 (cmpL (tl x) (tl y))) ∧ w' = (((W.alloc (.cells #[.int .i64 x.a, .int .i64 x.b, .int .i64 x.c] 102)).alloc (.cells #[.int .i64 y.a, .int .i64 y.b, .int .i64 y.c] 102)).drewN d)) := hid fun d => by
    have h1 := (is_box W x 3 (Nat.le_refl _) 3).below ((Below.refl _ _).alloc (Nat.le_refl _) (.cells #[.int .i64 y.a, .int .i64 y.b, .int .i64 y.c] 102))
    have h2 := is_box (W.alloc (.cells #[.int .i64 x.a, .int .i64 x.b, .int .i64 x.c] 102)) y 3 (Nat.le_refl _) 3
    rw [World.size_alloc] at h2
    have h1' := h1.below (below_drewN (Below.refl _ _) d)
    have h2' := h2.below (below_drewN (Below.refl _ _) d)
    exact sCompare_calls _ _ _ (tl x) (tl y) h1' h2' (by simp [tl]) (by simp [tl])
  generalize cmpL (tl x) (tl y) = r at *
  simp only [tv]
  go_enter Tryd.func68, Tryd.ntmps68
  go_wp2_with fail
  go_quiet (first | (go_at_call 94; exact Calls.quiet_of_same (K.out _)) | fail)
  go_wp2
  go_ret
  exact ⟨rfl, nq, _, by rw [alloc_eq_grow, alloc_eq_grow, grow_grow]; rfl⟩

theorem cmpLaysT (blk off size : Nat) (w : World) : CmpLays Tryd.prog 68 #[] tc 3 (fun x y => cmpL (tl x) (tl y)) blk off size w :=
  fun _ _ _ _ x y => cmpT_calls _ x y

end Go.Proofs.YtcgboccdffgkfaaDoor
