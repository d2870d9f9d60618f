import Derived.Ground.SlsfProg
import Derived.Shelf.SlGeneric
import Derived.Shelf.SlLaysF0
import Derived.Shelf.SlSortCmp.KitK
import Derived.Test.YtcdfoephhjacdaaDoorProg
import Derived.Test.YtcdfoephhjacdaaDoorQ06
import Derived.Test.YtcdfoephhjacdaaDoorQ10
/-
  impl.compareTuples.
-/
namespace Go.Proofs.YtcdfoephhjacdaaDoor
open Go.RowKit Go.Shelf Go.Lib Go.Sort

theorem is_box (W : World) (x : T3) (n : Nat) (hn : n ≤ 3) (c : Nat) : IS (W.alloc (.cells #[.int .i64 x.a, .int .i64 x.b, .int .i64 x.c] 132)) (.slice (some ⟨W.heap.size, 0, none⟩) n c) ((tl x).take n) := by
  have hl : ((tl x).take n).length = n := by simp [tl]; omega
  refine ⟨_, c, by rw [hl], Or.inr ⟨W.heap.size, 0, rfl, fun j hj => ?_⟩⟩
  rw [hl] at hj
  rw [Nat.zero_add, World.cell?_alloc_at _ _ _ _ rfl, List.getD_eq_getElem?_getD, List.getElem?_take_of_lt hj]
  obtain rfl | rfl | rfl : j = 0 ∨ j = 1 ∨ j = 2 := by omega
  all_goals rfl

set_option maxHeartbeats 2000000 in
set_option maxRecDepth 1000000 in
theorem cmpT_calls (W : World) (x y : T3) : Calls Tryd.prog 80 #[tv x, tv y] W fun e w' => e = .returned (.int .i64 (cmpL (tl x) (tl y))) ∧ ∃ q os', w' = grow (W.drewN q) os' := by
  have K : Hid (∀ d, Calls Tryd.prog 106 #[.slice (some ⟨W.heap.size, 0, none⟩) 3 3, .slice (some ⟨W.heap.size + 1, 0, none⟩) 3 3] (((W.alloc (.cells #[.int .i64 x.a, .int .i64 x.b, .int .i64 x.c] 132)).alloc (.cells #[.int .i64 y.a, .int .i64 y.b, .int .i64 y.c] 132)).drewN d) fun e w' => e = .returned (.int .i64 (cmpL (tl x) (tl y))) ∧ w' = (((W.alloc (.cells #[.int .i64 x.a, .int .i64 x.b, .int .i64 x.c] 132)).alloc (.cells #[.int .i64 y.a, .int .i64 y.b, .int .i64 y.c] 132)).drewN d)) := hid fun d => by
    have h1 := (is_box W x 3 (Nat.le_refl _) 3).below ((Below.refl _ _).alloc (Nat.le_refl _) (.cells #[.int .i64 y.a, .int .i64 y.b, .int .i64 y.c] 132))
    have h2 := is_box (W.alloc (.cells #[.int .i64 x.a, .int .i64 x.b, .int .i64 x.c] 132)) y 3 (Nat.le_refl _) 3
    rw [World.size_alloc] at h2
    have h1' := h1.below (below_drewN (Below.refl _ _) d)
    have h2' := h2.below (below_drewN (Below.refl _ _) d)
    exact sCompare_calls _ _ _ (tl x) (tl y) h1' h2' (by simp [tl]) (by simp [tl])
  generalize cmpL (tl x) (tl y) = r at *
  simp only [tv]
  go_enter Tryd.func80, Tryd.ntmps80
  go_wp2_with fail
  go_quiet (first | (go_at_call 106; exact Calls.quiet_of_same (K.out _)) | fail)
  go_wp2
  go_ret
  exact ⟨rfl, nq, _, by rw [alloc_eq_grow, alloc_eq_grow, grow_grow]; rfl⟩

theorem cmpLaysT [Inhabited T3] (blk off size : Nat) (w : World) : CmpLays Tryd.prog 80 #[] tc 3 (fun x y => cmpL (tl x) (tl y)) blk off size w :=
  fun _ _ _ _ x y => cmpT_calls _ x y

end Go.Proofs.YtcdfoephhjacdaaDoor

namespace Go.Proofs
open Go.Shelf
def Tryd.sortT_ren : Go.Shelf.Ren := ⟨fun | 6 => 104 | 15 => 124 | 14 => 123 | 28 => 142 | 29 => 143 | 20 => 134 | 21 => 135 | 22 => 136 | 23 => 137 | 24 => 138 | 25 => 139 | 26 => 140 | 27 => 141 | 46 => 148 | 47 => 149 | 48 => 150 | 49 => 151 | 50 => 152 | 57 => 154 | n => n, fun | 22 => 134 | 24 => 132 | 25 => 139 | 3 => 3 | 39 => 191 | 0 => 0 | 53 => 210 | 55 => 222 | 4 => 4 | 46 => 215 | 45 => 214 | 50 => 72 | 5 => 5 | 9 => 9 | 66 => 226 | 70 => 230 | 76 => 233 | 77 => 234 | n => n, fun | n => n⟩
theorem Tryd.sortT : Go.Proofs.SlLaysF0.n6 Tryd.prog Tryd.sortT_ren := {
  mixed := by kernel_rfl
  f6 := ⟨Tryd.f104.name, by decide, Tryd.func104.trans (congrArg some (by kernel_rfl))⟩
  f14 := ⟨Tryd.f123.name, by decide, Tryd.func123.trans (congrArg some (by kernel_rfl))⟩
  f15 := Tryd.func124.trans (congrArg some (by kernel_rfl))
  f20 := ⟨Tryd.f134.name, by decide, Tryd.func134.trans (congrArg some (by kernel_rfl))⟩
  f21 := ⟨Tryd.f135.name, by decide, Tryd.func135.trans (congrArg some (by kernel_rfl))⟩
  f22 := ⟨Tryd.f136.name, by decide, Tryd.func136.trans (congrArg some (by kernel_rfl))⟩
  f23 := ⟨Tryd.f137.name, by decide, Tryd.func137.trans (congrArg some (by kernel_rfl))⟩
  f24 := ⟨Tryd.f138.name, by decide, Tryd.func138.trans (congrArg some (by kernel_rfl))⟩
  f25 := ⟨Tryd.f139.name, by decide, Tryd.func139.trans (congrArg some (by kernel_rfl))⟩
  f26 := ⟨Tryd.f140.name, by decide, Tryd.func140.trans (congrArg some (by kernel_rfl))⟩
  f27 := ⟨Tryd.f141.name, by decide, Tryd.func141.trans (congrArg some (by kernel_rfl))⟩
  f28 := Tryd.func142.trans (congrArg some (by kernel_rfl))
  f29 := Tryd.func143.trans (congrArg some (by kernel_rfl))
  f46 := ⟨Tryd.f148.name, by decide, Tryd.func148.trans (congrArg some (by kernel_rfl))⟩
  f47 := Tryd.func149.trans (congrArg some (by kernel_rfl))
  f48 := Tryd.func150.trans (congrArg some (by kernel_rfl))
  f49 := ⟨Tryd.f151.name, by decide, Tryd.func151.trans (congrArg some (by kernel_rfl))⟩
  f50 := ⟨Tryd.f152.name, by decide, Tryd.func152.trans (congrArg some (by kernel_rfl))⟩
  f57 := ⟨Tryd.f154.name, by decide, Tryd.func154.trans (congrArg some (by kernel_rfl))⟩
  t0 := Tryd.underlying0
  a0 := Tryd.isAgg0
  z0 := Tryd.sizeOf0
  v0 := Tryd.zeroValue0
  t3 := Tryd.underlying3
  a3 := Tryd.isAgg3
  z3 := Tryd.sizeOf3
  v3 := Tryd.zeroValue3
  t4 := Tryd.underlying4
  a4 := Tryd.isAgg4
  z4 := Tryd.sizeOf4
  v4 := Tryd.zeroValue4
  t5 := Tryd.underlying5
  a5 := Tryd.isAgg5
  z5 := Tryd.sizeOf5
  v5 := Tryd.zeroValue5
  t9 := Tryd.underlying9
  a9 := Tryd.isAgg9
  z9 := Tryd.sizeOf9
  v9 := Tryd.zeroValue9
  t22 := Tryd.underlying134
  a22 := Tryd.isAgg134
  z22 := Tryd.sizeOf134
  v22 := Tryd.zeroValue134
  t25 := Tryd.underlying139
  a25 := Tryd.isAgg139
  z25 := Tryd.sizeOf139
  v25 := Tryd.zeroValue139
  t39 := Tryd.underlying191
  a39 := Tryd.isAgg191
  z39 := Tryd.sizeOf191
  v39 := Tryd.zeroValue191
  t45 := Tryd.underlying214
  a45 := Tryd.isAgg214
  z45 := Tryd.sizeOf214
  v45 := Tryd.zeroValue214
  t46 := Tryd.underlying215
  a46 := Tryd.isAgg215
  z46 := Tryd.sizeOf215
  v46 := Tryd.zeroValue215
  t50 := Tryd.underlying72
  a50 := Tryd.isAgg72
  z50 := Tryd.sizeOf72
  v50 := Tryd.zeroValue72
  t53 := Tryd.underlying210
  a53 := Tryd.isAgg210
  z53 := Tryd.sizeOf210
  v53 := Tryd.zeroValue210
  t55 := Tryd.underlying222
  a55 := Tryd.isAgg222
  z55 := Tryd.sizeOf222
  v55 := Tryd.zeroValue222
  t66 := Tryd.underlying226
  a66 := Tryd.isAgg226
  z66 := Tryd.sizeOf226
  v66 := Tryd.zeroValue226
  t70 := Tryd.underlying230
  a70 := Tryd.isAgg230
  z70 := Tryd.sizeOf230
  v70 := Tryd.zeroValue230
  t76 := Tryd.underlying233
  a76 := Tryd.isAgg233
  z76 := Tryd.sizeOf233
  v76 := Tryd.zeroValue233
  t77 := Tryd.underlying234
  a77 := Tryd.isAgg234
  z77 := Tryd.sizeOf234
  v77 := Tryd.zeroValue234 }
end Go.Proofs
