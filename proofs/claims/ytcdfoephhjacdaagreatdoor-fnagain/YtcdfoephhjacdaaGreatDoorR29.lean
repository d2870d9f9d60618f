import Derived.Ground.SlsfProg
import Derived.Maps.AppendAt
import Derived.Maps.OwnIn
import Derived.RangeFuncBox
import Derived.Shelf.SlGeneric
import Derived.Shelf.SlLaysF0
import Derived.Shelf.SlSortCmp.KitK
import Derived.Shelf.SlSortCmp.WholeK
import Derived.Test.YtcdfoephhjacdaaGreatDoorProg
import Derived.Test.YtcdfoephhjacdaaGreatDoorR01
import Derived.Test.YtcdfoephhjacdaaGreatDoorR05
import Derived.Test.YtcdfoephhjacdaaGreatDoorR28
/-
  slices.AppendSeq, slices.Collect of tuples.
-/
namespace Go.Proofs.YtcdfoephhjacdaaGreatDoor
open Go.RowKit Go.Maps Go.Shelf
attribute [local go_sem] Oper.semAt_some

def tc (x : T3) : List Value := [.int .i64 x.a, .int .i64 x.b, .int .i64 x.c]
theorem tc_len (ss : List T3) : (ss.flatMap tc).length = ss.length * 3 := by
  induction ss with
  | nil => rfl
  | cons x r ih => rw [List.flatMap_cons, List.length_append, ih, List.length_cons]; simp only [tc, List.length_cons, List.length_nil]; omega
theorem cell_three_new (w : World) (x y z : Value) (t : TypeId) : ∀ j u, [x, y, z][j]? = some u → (w.alloc (.cells #[x, y, z] t)).cell? ((⟨w.heap.size, 0, none⟩ : Addr).add j) = some u := by
  intro j u hj
  have hlt : j < 3 := by
    have := (List.getElem?_eq_some_iff.1 hj).1
    simpa using this
  have e : (⟨w.heap.size, 0, none⟩ : Addr).add j = ⟨w.heap.size, j, none⟩ := by simp [Addr.add]; omega
  rw [e, World.cell?_alloc_at _ _ _ _ rfl, ← hj]
  obtain rfl | rfl | rfl : j = 0 ∨ j = 1 ∨ j = 2 := by omega
  all_goals rfl
theorem Tryz.infoTu : (Tryz.prog.info? 139).map (fun i => (i.zero, i.size, i.bytes)) = some (some (.agg #[.int .i64 0, .int .i64 0, .int .i64 0]), 3, 24) := by kernel_rfl

set_option maxRecDepth 1000000 in
set_option maxHeartbeats 4000000 in
theorem appendT_in (F : Fence) (n : Nat) (h11 : F.fn 117) (hro : F.round = none) (hn : 2 ≤ n) (g : Nat) (lb : Array Value) (hFg : F.fn g) (eg : ∀ args w, (callFunc g args).run Tryz.prog w = .ok (.enter g args) w)
    (S : List T3 → Prop) (N : Nat) (hN : N ≤ 1000000) (w : World) (hseq : SeqStops F (n - 1) Tryz.prog g lb tv S (fun _ => True) N w) :
    CallsIn F n Tryz.prog 117 #[.slice none 0 0, .func (.func g) #[] lb] w fun e w' => ∃ (v : Value) (ss : List T3), e = .returned v ∧ S ss ∧ ss.length ≤ N ∧ w'.ownsRow w.heap.size 139 3 v ss.length (ss.flatMap tc) ∧ (v = .slice none 0 0 ↔ ss = []) ∧ Below w.heap.size w w' := by
  have h1 : 1 ≤ n := by omega
  obtain ⟨i0, hi, hz0, hz1, hz2⟩ := info_parts Tryz.infoTu
  refine callsIn_of_wp_marks Tryz.func117 rfl h11 ?_ hro
  simp only [Tryz.ntmps117, List.size_toArray, List.length_cons, List.length_nil, Nat.reduceAdd, Nat.reduceSub, Array.replicate_succ, Array.replicate_zero, List.push_toArray, List.append_toArray, List.nil_append, List.cons_append]
  gi_wp2
  have hb0 : Below w.heap.size w (w.alloc (.cells #[.slice none 0 0] 141)) := (Below.refl _ w).alloc (Nat.le_refl _) _
  refine wpIn_rangeFunc_ownH hro h1 (gf := g) (lb := lb) rfl hFg eg
    (show SeqStopsK F (n - 1) Tryz.prog g lb (fun x => #[tv x]) KeepsWalks S (fun _ => True) N w from hseq) walksK_t walksK_b hb0 (fun _ => rfl)
    (fun pre W => ((∃ v, Boxed W w.heap.size 141 v ∧ W.ownsRow w.heap.size 139 3 v pre.length (pre.flatMap tc) ∧ (v = .slice none 0 0 ↔ pre = [])) ∧ pre.length ≤ N) ∧ Below w.heap.size w W)
    (fun _ _ _ => False)
    (OwnFrom.and (OwnFrom.and (Own.from (holdsRow_own w.heap.size w.heap.size 141 139 3 (fun pre : List T3 => pre.length) (fun pre => pre.flatMap tc) (fun pre v => v = .slice none 0 0 ↔ pre = [])) _) (fun _ _ _ _ h _ _ => h)) (ownFrom_below (Nat.le_refl _) (by simp)))
    (fun _ _ _ _ _ hs _ _ => hs)
    ⟨⟨⟨_, Boxed.new w _ _, World.ownsRow_nil _ _ _ _, by simp⟩, Nat.zero_le _⟩, hb0⟩
    (fun x a' W => ∃ Bx, W.heap[Bx]? = some (.cells #[.int .i64 x.a, .int .i64 x.b, .int .i64 x.c] 139 (0, 0)) ∧ a' = { tmps := #[.slice none 0 0, .func (.func g) #[] lb, .pointer (some ⟨w.heap.size, 0, none⟩), undef, .slice none 0 0, .pointer (some ⟨Bx, 0, none⟩), .func (.func g) #[] lb, tv x, undef, undef, undef, undef, undef], defers := [] })
    ?hAx ?assign ?body ?done ?stop
  case hAx =>
    rintro x a' s W W' row ⟨Bx, hB, rfl⟩ hg hr
    refine ⟨Bx, (hg.block Bx (Array.getElem?_eq_some_iff.1 hB).1 (fun e => ?_)).trans hB, rfl⟩
    obtain ⟨-, o, ho, hc⟩ := hr Bx e.symm
    rw [hB] at ho; cases ho; cases hc
  case assign =>
    rintro l pre x W K ⟨⟨⟨v, hv, hrow, hnil⟩, hlN⟩, hB⟩ hK
    simp only [tv]
    gi_wp2
    exact hK _ _ ((KeepsOthers.alloc _ _).from _) (KeepsWalks.alloc _ _) ⟨⟨⟨v, hv.alloc _, hrow.alloc _, hnil⟩, hlN⟩, hB.alloc hB.size _⟩ ⟨W.heap.size, World.alloc_heap_new _ _, rfl⟩
  case body =>
    rintro l pre x a' W hl ⟨r, hr⟩ ⟨⟨⟨v, hv, hrow, hnil⟩, hlN⟩, hB⟩ ⟨Bx, hBx, rfl⟩ hlt
    have hc0 := hv.cell
    have x0 : W.cell? ⟨Bx, 0, none⟩ = some (.int .i64 x.a) := by simp [World.cell?, hBx]
    have x1 : W.cell? ⟨Bx, 1, none⟩ = some (.int .i64 x.b) := by simp [World.cell?, hBx]
    have x2 : W.cell? ⟨Bx, 2, none⟩ = some (.int .i64 x.c) := by simp [World.cell?, hBx]
    gi_wp2_with (first
      | (gi_at_builtin; refine wpListIn_append_own _ rfl _ _ 141 rfl w.heap.size 139 i0 (.agg #[.int .i64 0, .int .i64 0, .int .i64 0]) 3 24 Tryz.underlying141 hi hz0 hz1 hz2 rfl (by decide) _ _ _ rfl (hrow.alloc _) ⟨W.heap.size, 0, none⟩ 1 1 (tc x) rfl rfl (cell_three_new _ _ _ _ _) (by simp [Value.oneCell', tc]) (by unfold maxLen; omega) (by omega) (by have := hB.size; simp; omega) ?_; intro v' w1 hown' hgrow hnil'; obtain ⟨g', cap', rfl⟩ := ownsRow_succ hown'; obtain ⟨hv1, hv2, hr2, hk2, hb2⟩ := hv.appended (by decide) hrow hB.size (Nat.le_refl _) hown' hgrow; have hc1 := hv1.cell; have hf1 := hv1.frozen)
      | gi_in)
    exact ⟨hk2.from _, hk2.walks, ⟨⟨⟨_, hv2, by rw [List.flatMap_append, List.flatMap_singleton, List.length_append]; exact hr2, by simp⟩, by rw [List.length_append]; simp; omega⟩, hB.trans hb2⟩⟩
  case done =>
    rintro D ys W hD hS ⟨⟨⟨v, hv, hrow, hnil⟩, hlN⟩, hB⟩ hK
    have hc0 := hv.cell
    gi_wp2
    refine ⟨by simp, .inl ⟨_, _, rfl, run_takeDeferred hK, ?_⟩⟩
    exact ⟨_, results_tmp rfl _ _ _, v, ys, rfl, hS, hlN, ownsRow_putObj hrow _ hK rfl, hnil, hB.trans (belowK_b (w := w) (Nat.le_refl _) W D _ _ (by simp at hD; omega) hK rfl rfl)⟩
  case stop =>
    rintro D c pre W _ _ h _
    exact h.elim

set_option maxHeartbeats 1000000 in
theorem collectT_in (F : Fence) (n : Nat) (h8 : F.fn 95) (h11 : F.fn 117) (hro : F.round = none) (hn : 3 ≤ n) (g : Nat) (lb : Array Value) (hFg : F.fn g) (eg : ∀ args w, (callFunc g args).run Tryz.prog w = .ok (.enter g args) w)
    (S : List T3 → Prop) (N : Nat) (hN : N ≤ 1000000) (w : World) (hseq : SeqStops F (n - 1 - 1) Tryz.prog g lb tv S (fun _ => True) N w) :
    CallsIn F n Tryz.prog 95 #[.func (.func g) #[] lb] w fun e w' => ∃ (v : Value) (ss : List T3), e = .returned v ∧ S ss ∧ ss.length ≤ N ∧ w'.ownsRow w.heap.size 139 3 v ss.length (ss.flatMap tc) ∧ (v = .slice none 0 0 ↔ ss = []) ∧ Below w.heap.size w w' := by
  have h1 : 1 ≤ n := by omega
  refine callsIn_of_wp Tryz.func95 rfl h8 ?_ hro
  simp only [Tryz.ntmps95, List.size_toArray, List.length_cons, List.length_nil, Nat.reduceAdd, Nat.reduceSub, Array.replicate_succ, Array.replicate_zero, List.push_toArray, List.append_toArray, List.nil_append, List.cons_append]
  gi_wp2_with (gi_at_call 117; refine (appendT_in F (n - 1) h11 hro (by omega) g lb hFg eg S N hN _ hseq).mono ?_; rintro e w' ⟨v, ss, rfl, hS, hlN, hrow, hnil, hb⟩)
  go_ret
  exact ⟨v, ss, rfl, hS, hlN, hrow, hnil, hb⟩

end Go.Proofs.YtcdfoephhjacdaaGreatDoor

/-
  impl.compareTuples.
-/
namespace Go.Proofs.YtcdfoephhjacdaaGreatDoor
open Go.RowKit Go.Shelf Go.Lib Go.Sort

theorem is_box (W : World) (x : T3) (n : Nat) (hn : n ≤ 3) (c : Nat) : IS (W.alloc (.cells #[.int .i64 x.a, .int .i64 x.b, .int .i64 x.c] 139)) (.slice (some ⟨W.heap.size, 0, none⟩) n c) ((tl x).take n) := by
  have hl : ((tl x).take n).length = n := by simp [tl]; omega
  refine ⟨_, c, by rw [hl], Or.inr ⟨W.heap.size, 0, rfl, fun j hj => ?_⟩⟩
  rw [hl] at hj
  rw [Nat.zero_add, World.cell?_alloc_at _ _ _ _ rfl, List.getD_eq_getElem?_getD, List.getElem?_take_of_lt hj]
  obtain rfl | rfl | rfl : j = 0 ∨ j = 1 ∨ j = 2 := by omega
  all_goals rfl

set_option maxHeartbeats 2000000 in
set_option maxRecDepth 1000000 in
theorem cmpT_calls (W : World) (x y : T3) : Calls Tryz.prog 69 #[tv x, tv y] W fun e w' => e = .returned (.int .i64 (cmpL (tl x) (tl y))) ∧ ∃ q os', w' = grow (W.drewN q) os' := by
  have K : Hid (∀ d, Calls Tryz.prog 98 #[.slice (some ⟨W.heap.size, 0, none⟩) 3 3, .slice (some ⟨W.heap.size + 1, 0, none⟩) 3 3] (((W.alloc (.cells #[.int .i64 x.a, .int .i64 x.b, .int .i64 x.c] 139)).alloc (.cells #[.int .i64 y.a, .int .i64 y.b, .int .i64 y.c] 139)).drewN d) fun e w' => e = .returned (.int .i64 (cmpL (tl x) (tl y))) ∧ w' = (((W.alloc (.cells #[.int .i64 x.a, .int .i64 x.b, .int .i64 x.c] 139)).alloc (.cells #[.int .i64 y.a, .int .i64 y.b, .int .i64 y.c] 139)).drewN d)) := hid fun d => by
    have h1 := (is_box W x 3 (Nat.le_refl _) 3).below ((Below.refl _ _).alloc (Nat.le_refl _) (.cells #[.int .i64 y.a, .int .i64 y.b, .int .i64 y.c] 139))
    have h2 := is_box (W.alloc (.cells #[.int .i64 x.a, .int .i64 x.b, .int .i64 x.c] 139)) y 3 (Nat.le_refl _) 3
    rw [World.size_alloc] at h2
    have h1' := h1.below (below_drewN (Below.refl _ _) d)
    have h2' := h2.below (below_drewN (Below.refl _ _) d)
    exact sCompare_calls _ _ _ (tl x) (tl y) h1' h2' (by simp [tl]) (by simp [tl])
  generalize cmpL (tl x) (tl y) = r at *
  simp only [tv]
  go_enter Tryz.func69, Tryz.ntmps69
  go_wp2_with fail
  go_quiet (first | (go_at_call 98; exact Calls.quiet_of_same (K.out _)) | fail)
  go_wp2
  go_ret
  exact ⟨rfl, nq, _, by rw [alloc_eq_grow, alloc_eq_grow, grow_grow]; rfl⟩

theorem cmpLaysT [Inhabited T3] (blk off size : Nat) (w : World) : CmpLays Tryz.prog 69 #[] tc 3 (fun x y => cmpL (tl x) (tl y)) blk off size w :=
  fun _ _ _ _ x y => cmpT_calls _ x y

end Go.Proofs.YtcdfoephhjacdaaGreatDoor

namespace Go.Proofs
open Go.Shelf
def Tryz.sortT_ren : Go.Shelf.Ren := ⟨fun | 6 => 96 | 15 => 119 | 14 => 118 | 28 => 142 | 29 => 122 | 20 => 134 | 21 => 135 | 22 => 136 | 23 => 137 | 24 => 138 | 25 => 139 | 26 => 140 | 27 => 141 | 46 => 149 | 47 => 150 | 48 => 151 | 49 => 152 | 50 => 153 | 57 => 155 | n => n, fun | 22 => 141 | 24 => 139 | 25 => 146 | 3 => 3 | 39 => 204 | 0 => 0 | 53 => 211 | 55 => 191 | 4 => 4 | 46 => 229 | 45 => 228 | 50 => 97 | 5 => 5 | 9 => 9 | 66 => 236 | 70 => 240 | 76 => 245 | 77 => 246 | n => n, fun | n => n⟩
theorem Tryz.sortT : Go.Proofs.SlLaysF0.n6 Tryz.prog Tryz.sortT_ren := {
  mixed := by kernel_rfl
  f6 := ⟨Tryz.f96.name, by decide, Tryz.func96.trans (congrArg some (by kernel_rfl))⟩
  f14 := ⟨Tryz.f118.name, by decide, Tryz.func118.trans (congrArg some (by kernel_rfl))⟩
  f15 := Tryz.func119.trans (congrArg some (by kernel_rfl))
  f20 := ⟨Tryz.f134.name, by decide, Tryz.func134.trans (congrArg some (by kernel_rfl))⟩
  f21 := ⟨Tryz.f135.name, by decide, Tryz.func135.trans (congrArg some (by kernel_rfl))⟩
  f22 := ⟨Tryz.f136.name, by decide, Tryz.func136.trans (congrArg some (by kernel_rfl))⟩
  f23 := ⟨Tryz.f137.name, by decide, Tryz.func137.trans (congrArg some (by kernel_rfl))⟩
  f24 := ⟨Tryz.f138.name, by decide, Tryz.func138.trans (congrArg some (by kernel_rfl))⟩
  f25 := ⟨Tryz.f139.name, by decide, Tryz.func139.trans (congrArg some (by kernel_rfl))⟩
  f26 := ⟨Tryz.f140.name, by decide, Tryz.func140.trans (congrArg some (by kernel_rfl))⟩
  f27 := ⟨Tryz.f141.name, by decide, Tryz.func141.trans (congrArg some (by kernel_rfl))⟩
  f28 := Tryz.func142.trans (congrArg some (by kernel_rfl))
  f29 := Tryz.func122.trans (congrArg some (by kernel_rfl))
  f46 := ⟨Tryz.f149.name, by decide, Tryz.func149.trans (congrArg some (by kernel_rfl))⟩
  f47 := Tryz.func150.trans (congrArg some (by kernel_rfl))
  f48 := Tryz.func151.trans (congrArg some (by kernel_rfl))
  f49 := ⟨Tryz.f152.name, by decide, Tryz.func152.trans (congrArg some (by kernel_rfl))⟩
  f50 := ⟨Tryz.f153.name, by decide, Tryz.func153.trans (congrArg some (by kernel_rfl))⟩
  f57 := ⟨Tryz.f155.name, by decide, Tryz.func155.trans (congrArg some (by kernel_rfl))⟩
  t0 := Tryz.underlying0
  a0 := Tryz.isAgg0
  z0 := Tryz.sizeOf0
  v0 := Tryz.zeroValue0
  t3 := Tryz.underlying3
  a3 := Tryz.isAgg3
  z3 := Tryz.sizeOf3
  v3 := Tryz.zeroValue3
  t4 := Tryz.underlying4
  a4 := Tryz.isAgg4
  z4 := Tryz.sizeOf4
  v4 := Tryz.zeroValue4
  t5 := Tryz.underlying5
  a5 := Tryz.isAgg5
  z5 := Tryz.sizeOf5
  v5 := Tryz.zeroValue5
  t9 := Tryz.underlying9
  a9 := Tryz.isAgg9
  z9 := Tryz.sizeOf9
  v9 := Tryz.zeroValue9
  t22 := Tryz.underlying141
  a22 := Tryz.isAgg141
  z22 := Tryz.sizeOf141
  v22 := Tryz.zeroValue141
  t25 := Tryz.underlying146
  a25 := Tryz.isAgg146
  z25 := Tryz.sizeOf146
  v25 := Tryz.zeroValue146
  t39 := Tryz.underlying204
  a39 := Tryz.isAgg204
  z39 := Tryz.sizeOf204
  v39 := Tryz.zeroValue204
  t45 := Tryz.underlying228
  a45 := Tryz.isAgg228
  z45 := Tryz.sizeOf228
  v45 := Tryz.zeroValue228
  t46 := Tryz.underlying229
  a46 := Tryz.isAgg229
  z46 := Tryz.sizeOf229
  v46 := Tryz.zeroValue229
  t50 := Tryz.underlying97
  a50 := Tryz.isAgg97
  z50 := Tryz.sizeOf97
  v50 := Tryz.zeroValue97
  t53 := Tryz.underlying211
  a53 := Tryz.isAgg211
  z53 := Tryz.sizeOf211
  v53 := Tryz.zeroValue211
  t55 := Tryz.underlying191
  a55 := Tryz.isAgg191
  z55 := Tryz.sizeOf191
  v55 := Tryz.zeroValue191
  t66 := Tryz.underlying236
  a66 := Tryz.isAgg236
  z66 := Tryz.sizeOf236
  v66 := Tryz.zeroValue236
  t70 := Tryz.underlying240
  a70 := Tryz.isAgg240
  z70 := Tryz.sizeOf240
  v70 := Tryz.zeroValue240
  t76 := Tryz.underlying245
  a76 := Tryz.isAgg245
  z76 := Tryz.sizeOf245
  v76 := Tryz.zeroValue245
  t77 := Tryz.underlying246
  a77 := Tryz.isAgg246
  z77 := Tryz.sizeOf246
  v77 := Tryz.zeroValue246 }
end Go.Proofs

/-
  slices.SortFunc over tuples.
-/
namespace Go.Proofs.YtcdfoephhjacdaaGreatDoor
open Go.RowKit Go.Shelf Go.Lib Go.Sort

theorem swo_cmpT : Sort.SWO (ltOf fun (a b : T3) => cmpL (tl a) (tl b)) where
  irrefl x := by simp [ltOf, cmpL_self]
  trans x y z h1 h2 := by
    simp only [ltOf, decide_eq_true_eq] at *
    exact cmpL_trans h1 h2
  ntrans x y z h1 h2 := by
    simp only [ltOf, decide_eq_false_iff_not] at *
    intro h3
    have e1 := cmpL_neg (tl x) (tl y)
    have e2 := cmpL_neg (tl y) (tl z)
    rcases Int.lt_trichotomy (cmpL (tl y) (tl x)) 0 with a | a | a
    · exact h2 (cmpL_trans a h3)
    · rw [← cmpL_eq a] at h3; exact h2 h3
    · omega

theorem get_tc (ss : List T3) : ∀ t, (ss.flatMap tc)[t]? = (ss[t / 3]?).bind fun x => (tc x)[t % 3]? := by
  induction ss with
  | nil => intro t; simp
  | cons x r ih =>
    intro t
    rw [List.flatMap_cons]
    by_cases h : t < 3
    · rw [List.getElem?_append_left (by simp only [tc, List.length_cons, List.length_nil]; omega), Nat.div_eq_of_lt h, Nat.mod_eq_of_lt h]
      rfl
    · obtain ⟨s, rfl⟩ : ∃ s, t = s + 3 := ⟨t - 3, by omega⟩
      rw [List.getElem?_append_right (by simp only [tc, List.length_cons, List.length_nil]; omega)]
      have e : s + 3 - (tc x).length = s := by simp only [tc, List.length_cons, List.length_nil]; omega
      rw [e, ih s, Nat.add_mod_right, Nat.add_div_right _ (by decide)]
      rfl
theorem flat_tc [Inhabited T3] (d : Array T3) : (flatK tc 3 d).toList = d.toList.flatMap tc := by
  refine List.ext_getElem? fun t => ?_
  rw [get_tc, Array.getElem?_toList]
  by_cases h : t < d.size * 3
  · have h3 : t / 3 < d.size := by omega
    have h4 : t % 3 < (tc d[t / 3]).length := by simp only [tc, List.length_cons, List.length_nil]; omega
    have e := get_flatK tc 3 d t h
    rw [getElem!_pos _ t (by simpa using h), getElem!_pos d _ h3, getElem!_pos (tc d[t / 3]) _ h4] at e
    rw [Array.getElem?_eq_getElem (by simpa using h), e, Array.getElem?_toList, Array.getElem?_eq_getElem h3, Option.bind_some, List.getElem?_eq_getElem h4]
  · rw [Array.getElem?_eq_none (by simp; omega), Array.getElem?_toList, Array.getElem?_eq_none (by omega)]
    rfl

theorem Tryz.aggT (w : World) : (isAgg 139).run Tryz.prog w = .ok true w := Tryz.isAgg139 w
theorem Tryz.sizeT (w : World) : (Go.sizeOf 139).run Tryz.prog w = .ok 3 w := Tryz.sizeOf139 w

theorem swk_heap [Inhabited T3] (w : World) (blk off m : Nat) (dk : Array T3) (os : Array Obj) {b : Nat} (hb : b < w.heap.size) (hne : b ≠ blk) : (sortWorldK tc 3 w blk off m dk os).heap[b]? = w.heap[b]? := by
  show (((w.heap.modify blk _) ++ os)[b]?) = _
  rw [Array.getElem?_append_left (by simpa using hb), Array.getElem?_modify, if_neg (Ne.symm hne)]
theorem swk_blk [Inhabited T3] (w : World) (blk off m : Nat) (dk : Array T3) (os : Array Obj) {cur : Array Value} {e : TypeId} {fr : Nat × Nat} (h : w.heap[blk]? = some (.cells cur e fr)) : (sortWorldK tc 3 w blk off m dk os).heap[blk]? = some (.cells (Sort.putCells id off (flatK tc 3 dk) cur) e fr) := by
  have hb : blk < w.heap.size := by
    rcases Nat.lt_or_ge blk w.heap.size with h1 | h1
    · exact h1
    · rw [Array.getElem?_eq_none h1] at h; cases h
  show (((w.heap.modify blk _) ++ os)[blk]?) = _
  rw [Array.getElem?_append_left (by simpa using hb), Array.getElem?_modify, if_pos rfl, h]
  rfl
theorem swk_size [Inhabited T3] (w : World) (blk off m : Nat) (dk : Array T3) (os : Array Obj) : w.heap.size ≤ (sortWorldK tc 3 w blk off m dk os).heap.size := by
  show w.heap.size ≤ ((w.heap.modify blk _) ++ os).size
  simp

theorem sortT_calls (w : World) (B g cap : Nat) (ss : List T3) (h : w.ownsRow B 139 3 (.slice (some ⟨g, 0, none⟩) ss.length cap) ss.length (ss.flatMap tc)) (hn : ss.length ≤ 1000000) :
    Calls Tryz.prog 96 #[.slice (some ⟨g, 0, none⟩) ss.length cap, .func (.func 69) #[] #[]] w fun e w' => e = .returned (.tuple #[]) ∧ ∃ ss' : List T3, ss'.Perm ss ∧ (ss'.Pairwise fun a b => ¬ cmpL (tl b) (tl a) < 0) ∧ w'.ownsRow B 139 3 (.slice (some ⟨g, 0, none⟩) ss.length cap) ss.length (ss'.flatMap tc) ∧ Below B w w' := by
  have inh : Inhabited T3 := ⟨⟨(0, 0, 0), by decide⟩⟩
  obtain ⟨hB, cur, hcur, hcap, hmax, hcs, htk⟩ : B ≤ g ∧ ∃ cur, w.heap[g]? = some (.cells cur 139 (0, 0)) ∧ ss.length ≤ cap ∧ cap ≤ maxLen ∧ cur.size = cap * 3 ∧ cur.toList.take (ss.length * 3) = ss.flatMap tc := by
    rcases h.2 with ⟨e, -⟩ | ⟨g', cap', cur, e, hb', hc, h1, h2, h3, h4⟩
    · cases e
    · simp only [Value.slice.injEq, Option.some.injEq, Addr.mk.injEq, true_and, and_true] at e
      obtain ⟨rfl, rfl⟩ := e
      exact ⟨hb', cur, hc, h1, h2, h3, h4⟩
  have hlt : g < w.heap.size := by
    rcases Nat.lt_or_ge g w.heap.size with h1 | h1
    · exact h1
    · rw [Array.getElem?_eq_none h1] at hcur; cases hcur
  have hfl : (flatK tc 3 ss.toArray).toList = ss.flatMap tc := flat_tc ss.toArray
  have hH : HoldsK tc 3 w g 0 ss.toArray := fun j hj => by
    have hj' : j < ss.length * 3 := by simpa using hj
    have e1 : cur[j]? = some (flatK tc 3 ss.toArray)[j]! := by
      rw [← Array.getElem?_toList, ← List.getElem?_take_of_lt hj', htk, ← hfl, Array.getElem?_toList, getElem!_pos _ j hj, Array.getElem?_eq_getElem hj]
    refine ⟨?_, ?_⟩
    · rw [Nat.zero_add, cell_of_row _ _ _ _ _ _ hcur]; exact e1
    · unfold World.frozen?
      rw [hcur]
      simp
  have eg : ∀ args w, (callFunc 69 args).run Tryz.prog w = .ok (.enter 69 args) w := enters_of Tryz.func69 (by kernel_rfl) rfl
  have hcon := AnyQ.slices_SortFunc Tryz.sortT 3 Tryz.aggT Tryz.sizeT tc (fun _ => rfl) (fun x v hv => by simp [tc] at hv; rcases hv with rfl | rfl | rfl <;> rfl) (fun x y => cmpL (tl x) (tl y)) swo_cmpT 69 #[] g 0 cap ss.toArray w eg (cmpLaysT g 0 _ w) hH hlt (by simp; omega)
  refine hcon.mono ?_
  rintro e w' ⟨rfl, d', m, os, ⟨p1, -, p3⟩, hs, rfl⟩
  have hsz' : d'.size = ss.length := by simpa using p1
  have hperm : d'.toList.Perm ss := by
    have e1 : d'.extract 0 ss.toArray.size = d' := by rw [← p1]; exact Array.extract_size ..
    have e2 : ss.toArray.extract 0 ss.toArray.size = ss.toArray := Array.extract_size ..
    rw [e1, e2] at p3
    exact p3
  refine ⟨rfl, d'.toList, hperm, ?_, ⟨by rw [tc_len, hperm.length_eq], Or.inr ⟨g, cap, _, rfl, hB, swk_blk _ _ _ _ _ _ hcur, hcap, hmax, ?_, ?_⟩⟩, ?_⟩
  · rw [List.pairwise_iff_getElem]
    intro i j hi hj hij
    simp only [Array.length_toList] at hi hj
    have := hs i j (Nat.zero_le _) hij (by simp; omega)
    rw [getElem!_pos d' i (by omega), getElem!_pos d' j (by omega)] at this
    rw [Array.getElem_toList, Array.getElem_toList]
    simpa [ltOf] using this
  · unfold Sort.putCells; simp [hcs]
  · rw [← flat_tc]
    refine List.ext_getElem? fun i => ?_
    by_cases hi : i < ss.length * 3
    · rw [List.getElem?_take_of_lt hi, Array.getElem?_toList]
      unfold Sort.putCells
      have hs3 : i < (flatK tc 3 d').size := by simp [hsz']; omega
      rw [Array.getElem?_mapIdx, Array.getElem?_eq_getElem (by omega), Option.map_some, if_pos ⟨Nat.zero_le _, by omega⟩, Array.getElem?_toList, Array.getElem?_eq_getElem hs3, Nat.sub_zero, getElem!_pos _ i hs3]
      rfl
    · rw [List.getElem?_eq_none (by rw [List.length_take]; omega), List.getElem?_eq_none (by simp [hsz']; omega)]
  · exact ⟨rfl, rfl, rfl, swk_size _ _ _ _ _ _, fun b hb => swk_heap _ _ _ _ _ _ (by omega) (by omega)⟩

end Go.Proofs.YtcdfoephhjacdaaGreatDoor
