import Derived.Test.YtliggcbiiaegeacEk03
import Derived.Test.YtliggcbiiaegeacEk13
import Derived.Test.YtliggcbiiaegeacEk14
import Derived.Test.YtliggcbiiaegeacEk15
import Derived.Test.YtliggcbiiaegeacEk18
import Derived.Test.YtliggcbiiaegeacEk19
import Derived.Test.YtliggcbiiaegeacEk20
/-
  impl.aims: the costs that are made least, one after another.
-/
namespace Go.Proofs.Ytliggcbiiaegeac
open Go.RowKit

def zC : Value := .agg #[.int .i64 0, .int .i64 0, .int .i64 0, .int .i64 0, .int .i64 0, .int .i64 0, .int .i64 0, .int .i64 0, .int .i64 0, .int .i64 0, .int .i64 0, .int .i64 0, .int .i64 0, .int .i64 0, .int .i64 0, .int .i64 0, .int .i64 0, .int .i64 0, .int .i64 0, .int .i64 0]
theorem zC_size : zC.cells.size = 20 := rfl
theorem Try.infoCs : (Try.prog.info? 214).map (fun i => (i.zero, i.size, i.bytes)) = some (some zC, 20, 160) := by kernel_rfl

theorem run_bs1 (a b : Nat) (v : Int) (w : World) : (Instr.buildSlice 211 1 #[(0, .agg (costV a b v).toArray)]).run Try.prog w = .ok (.slice (some ⟨w.heap.size, 0, none⟩) 1 1) (w.alloc (.cells (costV a b v).toArray 214)) := by kernel_rfl
theorem run_bs2 (a b c d : Nat) (v v' : Int) (w : World) : (Instr.buildSlice 211 2 #[(0, .agg (costV a b v).toArray), (1, .agg (costV c d v').toArray)]).run Try.prog w = .ok (.slice (some ⟨w.heap.size, 0, none⟩) 2 2) (w.alloc (.cells (costV a b v ++ costV c d v').toArray 214)) := by kernel_rfl

theorem costV_one (a b : Nat) (v : Int) : ∀ u ∈ costV a b v, u.oneCell' = true := by
  intro u hu
  unfold costV arrV at hu
  obtain ⟨j, -, rfl⟩ := List.mem_map.1 hu
  rfl

theorem costV_length (a b : Nat) (v : Int) : (costV a b v).length = 20 := arrV_length _ _

/-- the aims as first, end, each -/
def firstAims (u m n : Nat) (below : Bool) : List (Nat × Nat × Int) := if below then [(n - m, n, 1), (0, u, 1)] else [(0, u, -1)]
def aimsL (u m n : Nat) (below : Bool) (k : Nat) : List (Nat × Nat × Int) := firstAims u m n below ++ (List.range k).map fun j => (j, j + 1, 1)
def aimV (l : List (Nat × Nat × Int)) : List Value := l.flatMap fun t => costV t.1 t.2.1 t.2.2

theorem aimsL_succ (u m n : Nat) (below : Bool) (k : Nat) : aimsL u m n below (k + 1) = aimsL u m n below k ++ [(k, k + 1, 1)] := by
  unfold aimsL
  rw [List.range_succ, List.map_append, ← List.append_assoc]
  rfl
theorem aimsL_length (u m n : Nat) (below : Bool) (k : Nat) : (aimsL u m n below k).length = k + (if below then 2 else 1) := by
  unfold aimsL firstAims
  cases below <;> simp
theorem aimV_snoc (l : List (Nat × Nat × Int)) (t : Nat × Nat × Int) : aimV (l ++ [t]) = aimV l ++ costV t.1 t.2.1 t.2.2 := by
  unfold aimV
  rw [List.flatMap_append]; simp

theorem cells_new (w : World) (xs : List Value) (t : TypeId) : ∀ j u, xs[j]? = some u → (w.alloc (.cells xs.toArray t)).cell? ((⟨w.heap.size, 0, none⟩ : Addr).add j) = some u := by
  have := World.news_of_block (heap_alloc_new w (.cells xs.toArray t))
  simpa using this

theorem fold_two (a b c d : Nat) (v v' : Int) : ∃ Z : Array Value, List.foldl (fun (cs : Array Value) (x : Value × Nat) => cs.setIfInBounds x.snd x.fst) #[.int .i64 0, .int .i64 0, .int .i64 0, .int .i64 0, .int .i64 0, .int .i64 0, .int .i64 0, .int .i64 0, .int .i64 0, .int .i64 0, .int .i64 0, .int .i64 0, .int .i64 0, .int .i64 0, .int .i64 0, .int .i64 0, .int .i64 0, .int .i64 0, .int .i64 0, .int .i64 0, .int .i64 0, .int .i64 0, .int .i64 0, .int .i64 0, .int .i64 0, .int .i64 0, .int .i64 0, .int .i64 0, .int .i64 0, .int .i64 0, .int .i64 0, .int .i64 0, .int .i64 0, .int .i64 0, .int .i64 0, .int .i64 0, .int .i64 0, .int .i64 0, .int .i64 0, .int .i64 0] (costV a b v).zipIdx = Z ∧ Z.size = 40 ∧ List.foldl (fun (cs : Array Value) (x : Value × Nat) => cs.setIfInBounds (20 + x.snd) x.fst) Z (costV c d v').zipIdx = (costV a b v ++ costV c d v').toArray := ⟨_, rfl, by kernel_rfl, by kernel_rfl⟩

theorem wp_bs1 {op : Oper} {act : Act} {w : World} {K : Act → World → Prop} {Q : Exit → Act → World → Prop} (x : Operand) (a b : Nat) (v : Int) (ho : op.op = .buildSlice 211 1 #[(0, x)]) (hx : act.eval x = .agg (costV a b v).toArray)
    (h : K (act.put op.dst (.slice (some ⟨w.heap.size, 0, none⟩) 1 1)) (w.alloc (.cells (costV a b v).toArray 214))) : op.wp Try.prog act w K Q := by
  have e : (#[(0, x)] : Array (Nat × Operand)).map (fun p => (p.1, act.eval p.2)) = #[(0, .agg (costV a b v).toArray)] := by simp [hx]
  unfold Oper.wp execOp
  simp only [ho, Sem.run_bind, Sem.run_pure]
  rw [e, run_bs1]
  exact h

theorem wpList_bs1 {ops : Array Oper} {rest : List Oper} {op : Oper} {act : Act} {w : World} {Q : Exit → Act → World → Prop} (hgd : op.guard = none) (x : Operand) (a b : Nat) (v : Int) (ho : op.op = .buildSlice 211 1 #[(0, x)]) (hx : act.eval x = .agg (costV a b v).toArray)
    (h : wpList Try.prog ops Q rest (act.put op.dst (.slice (some ⟨w.heap.size, 0, none⟩) 1 1)) (w.alloc (.cells (costV a b v).toArray 214))) : wpList Try.prog ops Q (op :: rest) act w :=
  wpList_plain hgd fun _ hK => wp_bs1 x a b v ho hx (hK _ _ h)

theorem step_bs2 {ops : Array Oper} {op : Oper} {act : Act} {w : World} {K : Act → World → Prop} {Q : Exit → Act → World → Prop} {E : Prop} (hgd : op.guard = none) (x y : Operand) (a b c d : Nat) (v v' : Int) (ho : op.op = .buildSlice 211 2 #[(0, x), (1, y)])
    (hx : act.eval x = .agg (costV a b v).toArray) (hy : act.eval y = .agg (costV c d v').toArray)
    (h : K (act.put op.dst (.slice (some ⟨w.heap.size, 0, none⟩) 2 2)) (w.alloc (.cells (costV a b v ++ costV c d v').toArray 214))) : if Region.wanted op (yielded ops act.tmps) = true then op.wp Try.prog act w K Q else E := by
  have hw : Region.wanted op (yielded ops act.tmps) = true := by simp [Region.wanted, hgd]
  rw [if_pos hw]
  have e : (#[(0, x), (1, y)] : Array (Nat × Operand)).map (fun p => (p.1, act.eval p.2)) = #[(0, .agg (costV a b v).toArray), (1, .agg (costV c d v').toArray)] := by simp [hx, hy]
  unfold Oper.wp execOp
  simp only [ho, Sem.run_bind, Sem.run_pure]
  rw [e, run_bs2]
  exact h

set_option maxHeartbeats 4000000 in
set_option maxRecDepth 1000000 in
theorem aims_false (w : World) (u m : Nat) (a : Option Addr) (cap : Nat) (hu : u ≤ 7) :
    Calls Try.prog 161 #[.agg #[.int .i64 u, .slice a m cap, .bool false]] w fun e w' => ∃ v, e = .returned v ∧ w'.ownsRow w.heap.size 214 20 v (u + 1) (aimV (aimsL u m (u + m) false u)) ∧ Below w.heap.size w w' := by
  obtain ⟨i0, hi, hz0, hz1, hz2⟩ := info_parts Try.infoCs
  have hbx : Below w.heap.size w (w.alloc (.cells #[.int .i64 u, .slice a m cap, .bool false] 182)) := (Below.refl _ _).alloc (Nat.le_refl _) _
  have hc0 : (w.alloc (.cells #[.int .i64 u, .slice a m cap, .bool false] 182)).cell? ⟨w.heap.size, 0, none⟩ = some (.int .i64 u) := by simp [go_sem]
  have hsx : w.heap.size < (w.alloc (.cells #[.int .i64 u, .slice a m cap, .bool false] 182)).heap.size := by simp
  have HX := hid (And.intro hbx (And.intro hc0 hsx))
  clear hbx hc0 hsx
  go_enter Try.func161, Try.ntmps161
  go_wp2_with (first | (go_at_call 179; refine (costsFrom_calls _ 0 u (-1) (by omega)).mono ?_; rintro e w2 ⟨rfl, hb⟩) | (refine wpList_bs1 rfl _ 0 u (-1) rfl (by rfl) ?_) | (at_builtin; refine wpList_append_own _ rfl _ _ 211 rfl w.heap.size 214 i0 zC 20 160 Try.underlying211 hi hz0 hz1 hz2 zC_size (by decide) _ _ _ rfl (World.ownsRow_nil _ _ _ _) ⟨w2.heap.size, 0, none⟩ 1 1 (costV 0 u (-1)) rfl ?c0 ?c1 ?c2 ?c3 ?c4 ?c5 ?_))
  case c0 => rw [costV_length]
  case c1 => exact cells_new w2 (costV 0 u (-1)) 214
  case c2 => exact costV_one _ _ _
  case c3 => unfold maxLen; omega
  case c4 => omega
  case c5 => have := hb.size; simp at this ⊢; omega
  intro v1 w3 hown hgrow _
  have hB3 : Below w.heap.size w w3 := by
    have hb2 : Below w.heap.size w w2 := bt HX.out.1 hb
    exact (hb2.alloc hb2.size _).grown hgrow (by have := hb2.size; simp; omega) (fun j hj => by cases hj)
  have hown0 : w3.ownsRow w.heap.size 214 20 v1 1 (aimV (aimsL u m (u + m) false 0)) := by
    have : aimV (aimsL u m (u + m) false 0) = [] ++ costV 0 u (-1) := by simp [aimV, aimsL, firstAims]
    rw [this]; exact hown
  have c3 : w3.cell? ⟨w.heap.size, 0, none⟩ = some (.int .i64 u) := by
    have h1 := HX.out.2.2
    have h2 := hb.size
    have e1 : w3.heap[w.heap.size]? = w2.heap[w.heap.size]? := (hgrow.block _ (by simp at h1 h2 ⊢; omega) (by simp [Value.ownBlock])).trans (Below.heap_alloc _ _ _ (by omega))
    exact (World.cell?_of_block (w := w2) (a := ⟨w.heap.size, 0, none⟩) e1).trans ((hb.cell (p := ⟨w.heap.size, 0, none⟩) h1).trans HX.out.2.1)
  clear hown hgrow hb HX
  go_wp2
  go_loopw [3, 32] (fun v t wr => ∃ k : Nat, k ≤ u ∧ t = .int .i64 k ∧ wr.ownsRow w.heap.size 214 20 v (k + 1) (aimV (aimsL u m (u + m) false k)) ∧ Below w.heap.size w wr) (fun _ t _ => u - (intOf t).toNat)
  case atStart => exact ⟨0, Nat.zero_le _, rfl, hown0, hB3⟩
  case round =>
    clear c3 hown0 hB3
    obtain ⟨k, hk, rfl, hown, hnx⟩ := hrel
    have hns := hnx.size
    by_cases hku : k < u
    · have i1 : (k : Int) < (u : Int) := by omega
      have HS : Hid (aimV (aimsL u m (u + m) false (k + 1)) = aimV (aimsL u m (u + m) false k) ++ costV k (k + 1) 1) := hid (by rw [aimsL_succ, aimV_snoc])
      have K1 : Hid (∀ W, Calls Try.prog 179 #[.int .i64 (k : Nat), .int .i64 ((k : Int) + 1), .int .i64 1] W fun e w' => e = .returned (.agg (costV k (k + 1) 1).toArray) ∧ Below W.heap.size W w') := hid (fun W => costsFrom_calls W k (k + 1) 1 (by omega))
      go_wp2_with (first | (go_at_call 179; refine (K1.out _).mono ?_; rintro e w2 ⟨rfl, hb⟩; have hown2 := own_below hown hb; have hB2 := bt hnx hb; have hs2 := hB2.size) | (refine wpList_bs1 rfl _ k (k + 1) 1 rfl (by rfl) ?_) | (at_builtin; refine wpList_append_own _ rfl _ _ 211 rfl w.heap.size 214 i0 zC 20 160 Try.underlying211 hi hz0 hz1 hz2 zC_size (by decide) _ _ _ rfl (hown2.alloc _) ⟨w2.heap.size, 0, none⟩ 1 1 (costV k (k + 1) 1) rfl ?c0 ?c1 ?c2 ?c3 ?c4 ?c5 ?_))
      case c0 => rw [costV_length]
      case c1 => exact cells_new w2 (costV k (k + 1) 1) 214
      case c2 => exact costV_one _ _ _
      case c3 => unfold maxLen; omega
      case c4 => omega
      case c5 => simp; omega
      intro v' w1 hown' hgrow _
      have hB1 := own_grow2 hs2 hown2 hB2 hgrow
      rw [← HS.out] at hown'
      clear hgrow hown hown2 hb hB2 hnx
      go_wp2
      go_roundw
      case rel => exact ⟨k + 1, by omega, by go_num, hown', hB1⟩
      case measure => simp [intOf]; omega
    · obtain rfl : k = u := by omega
      have i1 : ¬ ((k : Int) < (k : Int)) := by omega
      go_wp2
      go_ret
      exact ⟨_, rfl, hown, hnx⟩

set_option maxHeartbeats 4000000 in
set_option maxRecDepth 1000000 in
theorem aims_true (w : World) (u m : Nat) (a : Option Addr) (cap : Nat) (hu : u ≤ 7) (hm : m ≤ 6) :
    Calls Try.prog 161 #[.agg #[.int .i64 u, .slice a m cap, .bool true]] w fun e w' => ∃ v, e = .returned v ∧ w'.ownsRow w.heap.size 214 20 v (u + 2) (aimV (aimsL u m (u + m + m) true u)) ∧ Below w.heap.size w w' := by
  obtain ⟨i0, hi, hz0, hz1, hz2⟩ := info_parts Try.infoCs
  have hcol : Hid (∀ wx, Calls Try.prog 177 #[.agg #[.int .i64 u, .slice a m cap, .bool true]] wx fun e w' => e = .returned (.int .i64 ((u + m + m : Nat) : Int)) ∧ Below wx.heap.size wx w') := hid (fun wx => columns_calls wx u a m cap true hu (by omega))
  have hA0 : ArrAt (w.alloc (.cells #[.int .i64 u, .slice a m cap, .bool true] 182)) w.heap.size 3 (f3 (.int .i64 u) (.slice a m cap) (.bool true)) := arrAt_alloc w 3 (f3 (.int .i64 u) (.slice a m cap) (.bool true)) 182
  have hbx : Below w.heap.size w (w.alloc (.cells #[.int .i64 u, .slice a m cap, .bool true] 182)) := (Below.refl _ _).alloc (Nat.le_refl _) _
  have hsx : w.heap.size < (w.alloc (.cells #[.int .i64 u, .slice a m cap, .bool true] 182)).heap.size := by simp
  obtain ⟨nn, hnn⟩ : ∃ nn : Nat, nn = u + m + m := ⟨_, rfl⟩
  rw [← hnn] at hcol ⊢
  obtain ⟨nm, hnm⟩ : ∃ nm : Nat, nm = nn - m := ⟨_, rfl⟩
  have hn19 : nn ≤ 19 := by omega
  have hle : (m : Int) ≤ (nn : Int) := by omega
  have HSUB : Hid ((nn : Int) - (m : Int) = (nm : Int)) := hid (by omega)
  have HNM := hid hnm
  clear hnn hnm
  go_enter Try.func161, Try.ntmps161
  go_upto_region 3 with fail
  generalize w.alloc (.cells #[.int .i64 u, .slice a m cap, .bool true] 182) = W at *
  obtain ⟨e0, e1, e2⟩ := hA0.three
  go_cut [4] (fun v wc => v = .int .i64 nm ∧ Below w.heap.size w wc ∧ ArrAt wc w.heap.size 3 (f3 (.int .i64 u) (.slice a m cap) (.bool true)))
  case first =>
    go_region_law (first | (go_simp; go_at_call 177; refine (hcol.out _).mono ?_; rintro e w' ⟨rfl, hb⟩; have r1 : w'.cell? ⟨w.heap.size, 1, none⟩ = some (.slice a m cap) := (hb.cell (p := ⟨w.heap.size, 1, none⟩) hsx).trans e1))
    all_goals
      go_wp2_with fail
      go_meet
      exact ⟨by rw [HSUB.out, wrap_small nm (by have := HNM.out; omega)], bt hbx (drew_below hb), hA0.below (by omega) (drew_below hb)⟩
  case rest =>
    obtain ⟨rfl, hBc, hAc⟩ := hcut
    have hA1 := hid hAc
    obtain ⟨d0, d1, d2⟩ := hAc.three
    have hwc : w.heap.size < wc.heap.size := World.block_lt_of_cell? wc _ d0
    have K1 : Hid (∀ W, Calls Try.prog 179 #[.int .i64 (nm : Nat), .int .i64 (nn : Nat), .int .i64 1] W fun e w' => e = .returned (.agg (costV nm nn 1).toArray) ∧ Below W.heap.size W w') := hid (fun W => costsFrom_calls W nm nn 1 (by omega))
    have K2 : Hid (∀ W, Calls Try.prog 179 #[.int .i64 0, .int .i64 (u : Nat), .int .i64 1] W fun e w' => e = .returned (.agg (costV 0 u 1).toArray) ∧ Below W.heap.size W w') := hid (fun W => costsFrom_calls W 0 u 1 (by omega))
    have hBd : Below wc.heap.size wc wc.drew := (Below.refl _ _).drew
    have L1 : (costV nm nn 1).length = 20 := costV_length _ _ _
    have L2 : (costV 0 u 1).length = 20 := costV_length _ _ _
    obtain ⟨Z1, L3, L4⟩ := fold_two nm nn 0 u 1 1
    have L5 : Z1.size = 40 := L4.1
    clear hsx hbx hA0 e0 e1 e2
    go_upto_region 4 with fail
    go_cut [3] (fun v wx => wx.ownsRow w.heap.size 214 20 v 2 (aimV (aimsL u m nn true 0)) ∧ Below w.heap.size w wx ∧ wx.cell? ⟨w.heap.size, 0, none⟩ = some (.int .i64 u))
    case first =>
      go_region_law (first
        | (refine step_append_lies _ (by rfl) _ _ _ (by rfl) w.heap.size 214 i0 zC 20 160 Try.underlying211 hi hz0 hz1 hz2 zC_size (by decide) (.slice none 0 0) 0 [] (by rfl) (World.ownsRow_nil _ _ _ _) ⟨_, 0, none⟩ 2 2 (costV nm nn 1 ++ costV 0 u 1) (by rfl) (by rw [List.length_append, costV_length, costV_length]) (cells_new _ (costV nm nn 1 ++ costV 0 u 1) 214) (fun x hx => by rcases List.mem_append.1 hx with h | h; exact costV_one _ _ _ x h; exact costV_one _ _ _ x h) (by decide) (by unfold maxLen; omega) (by omega) (by have := hBn.size; simp at this ⊢; omega) _ rfl ?_; intro g3 cp3 w4 hown4 hgrow hat4 hlt4)
        | (go_simp; go_at_call 177; with_reducible refine (hcol.out _).mono ?_; rintro e w1 ⟨rfl, hb1⟩; have hBn : Below wc.heap.size wc w1 := bt (by assumption) hb1; have hAn := hAc.below (by omega) hBn; obtain ⟨g0, g1, g2⟩ := hAn.three)
        | (go_simp; go_at_call 179; with_reducible refine (K1.out _).mono ?_; rintro e w2 ⟨rfl, hb2⟩; have hBn : Below wc.heap.size wc w2 := bt (by assumption) hb2; have hAn := hAc.below (by omega) hBn; obtain ⟨g0, g1, g2⟩ := hAn.three)
        | (go_simp; go_at_call 179; with_reducible refine (K2.out _).mono ?_; rintro e w3 ⟨rfl, hb3⟩; have hBn : Below wc.heap.size wc w3 := bt (by assumption) hb3; have hAn := hAc.below (by omega) hBn; obtain ⟨g0, g1, g2⟩ := hAn.three))
      all_goals
        go_wp2_with fail
        go_meet
        have hBt : Below w.heap.size w _ := bt hBc hBn
        refine ⟨?_, (hBt.alloc hBt.size _).grown hgrow (by have := hBt.size; simp; omega) (fun j hj => by cases hj), ?_⟩
        · have : aimV (aimsL u m nn true 0) = [] ++ (costV nm nn 1 ++ costV 0 u 1) := by simp [aimV, aimsL, firstAims, HNM.out]
          rw [this]; exact hown4
        · exact (World.cell?_of_block (a := ⟨w.heap.size, 0, none⟩) ((hgrow.block _ (by have := hBn.size; show w.heap.size < _; simp; omega) (by simp [Value.ownBlock])).trans (Below.heap_alloc _ _ _ (by have := hBn.size; show w.heap.size < _; omega)))).trans g0
    case rest =>
      obtain ⟨hown0, hB3, c3⟩ := hcut
      clear hA1 d0 d1 d2 hwc hBd K1 K2 hBc hAc
      go_wp2
      go_loopw [3, 32] (fun v t wr => ∃ k : Nat, k ≤ u ∧ t = .int .i64 k ∧ wr.ownsRow w.heap.size 214 20 v (k + 2) (aimV (aimsL u m nn true k)) ∧ Below w.heap.size w wr) (fun _ t _ => u - (intOf t).toNat)
      case atStart => exact ⟨0, Nat.zero_le _, rfl, hown0, hB3⟩
      case round =>
        clear c3 hown0 hB3
        obtain ⟨k, hk, rfl, hown, hnx⟩ := hrel
        have hns := hnx.size
        by_cases hku : k < u
        · have i1 : (k : Int) < (u : Int) := by omega
          have HS : Hid (aimV (aimsL u m nn true (k + 1)) = aimV (aimsL u m nn true k) ++ costV k (k + 1) 1) := hid (by rw [aimsL_succ, aimV_snoc])
          have K1 : Hid (∀ W, Calls Try.prog 179 #[.int .i64 (k : Nat), .int .i64 ((k : Int) + 1), .int .i64 1] W fun e w' => e = .returned (.agg (costV k (k + 1) 1).toArray) ∧ Below W.heap.size W w') := hid (fun W => costsFrom_calls W k (k + 1) 1 (by omega))
          go_wp2_with (first | (go_at_call 179; refine (K1.out _).mono ?_; rintro e w2 ⟨rfl, hb⟩; have hown2 := own_below hown hb; have hB2 := bt hnx hb; have hs2 := hB2.size) | (refine wpList_bs1 rfl _ k (k + 1) 1 rfl (by rfl) ?_) | (at_builtin; refine wpList_append_own _ rfl _ _ 211 rfl w.heap.size 214 i0 zC 20 160 Try.underlying211 hi hz0 hz1 hz2 zC_size (by decide) _ _ _ rfl (hown2.alloc _) ⟨w2.heap.size, 0, none⟩ 1 1 (costV k (k + 1) 1) rfl ?c0 ?c1 ?c2 ?c3 ?c4 ?c5 ?_))
          case c0 => rw [costV_length]
          case c1 => exact cells_new w2 (costV k (k + 1) 1) 214
          case c2 => exact costV_one _ _ _
          case c3 => unfold maxLen; omega
          case c4 => omega
          case c5 => simp; omega
          intro v' w1 hown' hgrow _
          have hB1 := own_grow2 hs2 hown2 hB2 hgrow
          rw [← HS.out] at hown'
          clear hgrow hown hown2 hb hB2 hnx
          go_wp2
          go_roundw
          case rel => exact ⟨k + 1, by omega, by go_num, hown', hB1⟩
          case measure => simp [intOf]; omega
        · obtain rfl : k = u := by omega
          have i1 : ¬ ((k : Int) < (k : Int)) := by omega
          go_wp2
          go_ret
          exact ⟨_, rfl, hown, hnx⟩

end Go.Proofs.Ytliggcbiiaegeac

/-
  Plain mathematics between the walks and the simplex.
-/
namespace Go.Proofs.Ytliggcbiiaegeac
open Go.RowKit

/-- which unknowns stand in which row -/
def inc (L : List (List Nat)) (r e : Nat) : Rat := if e ∈ L.getD r [] then 1 else 0

theorem contains_mem (l : List Nat) (x : Nat) : (l.contains x = true) = (x ∈ l) := by simp

theorem startC_pack (u : Nat) (L : List (List Nat)) (i j : Nat) (hi : i < L.length) (hj : j ≤ u + L.length) : startC u L false i j = Cov.packA L.length u (inc L) j i := by
  unfold startC Cov.packA inc
  simp only [Bool.false_eq_true, if_false, contains_mem, false_and]
  rw [if_pos hi]
  by_cases h1 : j = u + L.length
  · rw [if_pos h1, if_neg (by omega), if_neg (by omega)]
  · rw [if_neg h1]
    by_cases h2 : j < u
    · rw [if_pos h2, if_pos h2]
    · rw [if_neg h2, if_neg h2, if_pos (show j < u + L.length by omega)]
      by_cases h3 : j - u = i
      · rw [if_pos h3, if_pos (by omega)]
      · rw [if_neg h3, if_neg (by omega)]

theorem startC_cover (u : Nat) (L : List (List Nat)) (i j : Nat) (hi : i < L.length) (hj : j ≤ u + L.length + L.length) : startC u L true i j = Cov.coverA L.length u (inc L) j i := by
  unfold startC Cov.coverA inc
  simp only [if_true, contains_mem, true_and]
  rw [if_pos hi]
  by_cases h1 : j = u + L.length + L.length
  · rw [if_pos h1, if_neg (by omega), if_neg (by omega), if_neg (by omega)]
  · rw [if_neg h1]
    by_cases h2 : j < u
    · rw [if_pos h2, if_pos h2]
    · rw [if_neg h2, if_neg h2]
      by_cases h4 : j < u + L.length
      · rw [if_pos h4, if_neg (by omega)]
        by_cases h3 : j - u = i
        · rw [if_pos h3, if_pos (by omega)]
        · rw [if_neg h3, if_neg (by omega)]
      · rw [if_neg h4, if_pos (show j < u + L.length + L.length by omega)]
        by_cases h3 : j - u - L.length = i
        · rw [if_pos h3, if_pos (by omega)]
        · rw [if_neg h3, if_neg (by omega), if_neg (by omega)]

theorem aims_snoc {m n : Nat} : ∀ {l : List (Nat → Rat)} {c : Nat → Rat} {bar b1 bar' : Nat → Bool} {s s1 s' : Cov.Sx}, Cov.Aims m n l bar s b1 s1 → Cov.Aim m n c b1 s1 bar' s' → Cov.Aims m n (l ++ [c]) bar s bar' s'
  | [], _, _, _, _, _, _, _, h, h2 => by
    obtain ⟨rfl, rfl⟩ := h
    exact ⟨_, _, h2, rfl, rfl⟩
  | _ :: _, _, _, _, _, _, _, _, h, h2 => by
    obtain ⟨b, s, h0, h1⟩ := h
    exact ⟨b, s, h0, aims_snoc h1 h2⟩

theorem good_aim {m n : Nat} {A : Nat → Nat → Rat} {cost : Nat → Rat} {bar bar' : Nat → Bool} {s s' : Cov.Sx} (h : Cov.Good m n A bar s) (ha : Cov.Aim m n cost bar s bar' s') : Cov.Good m n A bar' s' ∧ Cov.Good m n A bar s' := by
  obtain ⟨k, h1, _, h3, h4⟩ := ha
  have hg : Cov.Good m n A bar s' := by rw [h3]; exact h.it k
  refine ⟨⟨hg.inv, hg.feas, fun i hi => ?_⟩, hg⟩
  rw [h4]
  unfold Cov.narrowed
  rw [hg.open' i hi, hg.inv.red_basic cost hi]
  simp

theorem rc_costF (a b : Nat) (v : Int) : rc (costF a b v) = Cov.cf a b ((v : Int) : Rat) := by
  funext j
  unfold rc costF Cov.cf
  split <;> rfl

/-- the costs of the aims -/
def aimC (l : List (Nat × Nat × Int)) : List (Nat → Rat) := l.map fun t => rc (costF t.1 t.2.1 t.2.2)

theorem aimC_pack (u m n : Nat) : aimC (aimsL u m n false u) = Cov.cf 0 u (-1) :: Cov.units u := by
  unfold aimC aimsL firstAims Cov.units
  simp only [Bool.false_eq_true, if_false, List.map_cons, List.map_map, List.cons_append, List.nil_append, rc_costF]
  congr 1

theorem aimC_cover (u m : Nat) : aimC (aimsL u m (u + m + m) true u) = Cov.cf (u + m) (u + m + m) 1 :: Cov.cf 0 u 1 :: Cov.units u := by
  unfold aimC aimsL firstAims Cov.units
  simp only [if_true, List.map_cons, List.map_map, List.cons_append, List.nil_append, rc_costF]
  rw [show u + m + m - m = u + m by omega]
  congr 1

theorem costF_abs (a b : Nat) (v : Int) (hv : v.natAbs ≤ 1) (j : Nat) : (costF a b v j).natAbs ≤ 1 := by
  unfold costF
  split
  · exact hv
  · simp

theorem aimsL_abs (u m n : Nat) (below : Bool) (k : Nat) : ∀ t ∈ aimsL u m n below k, t.2.2.natAbs ≤ 1 := by
  intro t ht
  unfold aimsL firstAims at ht
  rcases List.mem_append.1 ht with h | h
  · cases below
    · simp at h; subst h; simp
    · simp at h; rcases h with rfl | rfl <;> simp
  · obtain ⟨j, -, rfl⟩ := List.mem_map.1 h
    simp

/-- the value of an unknown, line by line or as a sum -/
theorem valF_val {C : Nat → Nat → Rat} {B : Nat → Nat} {n : Nat} : ∀ {m : Nat}, (∀ i, i < m → ∀ k, k < m → B i = B k → i = k) → ∀ j, valF C B n m j = Cov.val m (fun i => C i n) B j
  | 0, _, _ => rfl
  | m + 1, hB, j => by
    have ih := valF_val (C := C) (B := B) (n := n) (m := m) (fun i hi k hk e => hB i (by omega) k (by omega) e) j
    show (if B m = j then C m n else valF C B n m j) = Cov.sm m (fun i => if B i = j then C i n else 0) + (if B m = j then C m n else 0)
    rw [ih]
    unfold Cov.val
    by_cases e : B m = j
    · have hz : Cov.sm m (fun i => if B i = j then C i n else 0) = 0 := Cov.sm_zero (fun i hi => if_neg (fun e2 => by
        have := hB i (by omega) m (by omega) (e2.trans e.symm)
        omega))
      simp only [hz, if_pos e]; grind
    · simp only [if_neg e]; grind

theorem inc_whole (L : List (List Nat)) (r e : Nat) : Cov.Whole 1 (inc L r e) := by
  unfold inc
  split
  · exact ⟨1, rfl, by decide⟩
  · exact ⟨0, rfl, by decide⟩

theorem whole_pack (m u : Nat) (L : List (List Nat)) (j r : Nat) : Cov.Whole 1 (Cov.packA m u (inc L) j r) := by
  unfold Cov.packA
  repeat' split
  · exact inc_whole L r j
  · exact ⟨1, rfl, by decide⟩
  · exact ⟨0, rfl, by decide⟩
  · exact ⟨1, rfl, by decide⟩

theorem whole_cover (m u : Nat) (L : List (List Nat)) (j r : Nat) : Cov.Whole 1 (Cov.coverA m u (inc L) j r) := by
  unfold Cov.coverA
  repeat' split
  · exact inc_whole L r j
  · exact ⟨-1, rfl, by decide⟩
  · exact ⟨0, rfl, by decide⟩
  · exact ⟨1, rfl, by decide⟩
  · exact ⟨0, rfl, by decide⟩
  · exact ⟨1, rfl, by decide⟩

end Go.Proofs.Ytliggcbiiaegeac

/-
  impl.leastSolution.
-/
namespace Go.Proofs.Ytliggcbiiaegeac
open Go.RowKit

theorem aims_calls (w : World) (u m n : Nat) (a : Option Addr) (cap : Nat) (below : Bool) (hu : u ≤ 7) (hb : below = true → m ≤ 6) (hn : n = if below then u + m + m else u + m) :
    Calls Try.prog 161 #[.agg #[.int .i64 u, .slice a m cap, .bool below]] w fun e w' => ∃ v, e = .returned v ∧ w'.ownsRow w.heap.size 214 20 v (aimsL u m n below u).length (aimV (aimsL u m n below u)) ∧ Below w.heap.size w w' := by
  rw [aimsL_length]
  cases below
  · have := aims_false w u m a cap hu
    rw [hn]; exact this
  · have := aims_true w u m a cap hu (hb rfl)
    rw [hn]; exact this

theorem aimV_get : ∀ (l : List (Nat × Nat × Int)) (i j : Nat), i < l.length → j < 20 → (aimV l)[i * 20 + j]? = (costV (l.getD i (0, 0, 0)).1 (l.getD i (0, 0, 0)).2.1 (l.getD i (0, 0, 0)).2.2)[j]?
  | [], i, _, h, _ => by simp at h
  | t :: l, 0, j, _, hj => by
    show (costV t.1 t.2.1 t.2.2 ++ aimV l)[0 * 20 + j]? = (costV t.1 t.2.1 t.2.2)[j]?
    rw [List.getElem?_append_left (by rw [costV_length]; omega), show 0 * 20 + j = j by omega]
  | t :: l, i + 1, j, h, hj => by
    show (costV t.1 t.2.1 t.2.2 ++ aimV l)[(i + 1) * 20 + j]? = _
    rw [List.getElem?_append_right (by rw [costV_length]; omega), costV_length, show (i + 1) * 20 + j - 20 = i * 20 + j by omega]
    exact aimV_get l i j (by simpa using h) hj

/-- an aim out of the list -/
theorem own_aim {w : World} {B g cap : Nat} {l : List (Nat × Nat × Int)} (h : w.ownsRow B 214 20 (.slice (some ⟨g, 0, none⟩) l.length cap) l.length (aimV l)) {i : Nat} (hi : i < l.length) :
    w.rangeAt g (i * 20) (costV (l.getD i (0, 0, 0)).1 (l.getD i (0, 0, 0)).2.1 (l.getD i (0, 0, 0)).2.2) := by
  rcases h.2 with ⟨h1, _⟩ | ⟨g', cap', cur, hv, -, hc, -, -, -, ht⟩
  · cases h1
  · simp only [Value.slice.injEq, Option.some.injEq, Addr.mk.injEq] at hv
    obtain ⟨⟨rfl, -⟩, -, -⟩ := hv
    intro j v hj
    have hj20 : j < 20 := by
      rcases Nat.lt_or_ge j 20 with h1 | h1
      · exact h1
      · rw [List.getElem?_eq_none (by rw [costV_length]; exact h1)] at hj; cases hj
    rw [cell_of_row _ _ _ _ _ _ hc, ← Array.getElem?_toList]
    have := aimV_get l i j hi hj20
    rw [← ht, List.getElem?_take_of_lt (by omega)] at this
    rw [this]; exact hj

/-- where the loop stands -/
structure LS (w wr : World) (k g cap u m n : Nat) (A : Nat → Nat → Rat) (l : List (Nat × Nat × Int)) (F : Nat → Value) (s0 : Cov.Sx) (i : Nat) (bar : Nat → Bool) (s : Cov.Sx) (C : Nat → Nat → Rat) : Prop where
  aims : Cov.Aims m n (aimC (l.take i)) (fun _ => false) s0 bar s
  good : Cov.Good m n A bar s
  sx : SxAt wr k m n C s.B bar
  rows : ∀ a, a < m → ∀ j, j ≤ n → C a j = s.T a j
  last : ∀ j, j ≤ n → Sm 41000 (C m j)
  bel : Below w.heap.size w wr
  own : wr.ownsRow (k + 1) 214 20 (.slice (some ⟨g, 0, none⟩) l.length cap) l.length (aimV l)
  arg : ArrAt wr w.heap.size 3 F

theorem aimC_succ (l : List (Nat × Nat × Int)) (i : Nat) (h : i < l.length) : aimC (l.take (i + 1)) = aimC (l.take i) ++ [rc (costF (l.getD i (0, 0, 0)).1 (l.getD i (0, 0, 0)).2.1 (l.getD i (0, 0, 0)).2.2)] := by
  unfold aimC
  rw [List.take_add_one, List.getElem?_eq_getElem h, List.getD_eq_getElem?_getD, List.getElem?_eq_getElem h]
  simp only [Option.toList_some, List.map_append, List.map_cons, List.map_nil, Option.getD_some]

theorem own_gt {w : World} {B g n s cap : Nat} {e : TypeId} {xs : List Value} (h : w.ownsRow B e s (.slice (some ⟨g, 0, none⟩) n cap) n xs) : B ≤ g ∧ g < w.heap.size := h.lt g rfl

/-- one aim more, after leastBy -/
theorem LS.step {w wr wx w' : World} {k g cap u m n : Nat} {A : Nat → Nat → Rat} {l : List (Nat × Nat × Int)} {F : Nat → Value} {s0 : Cov.Sx} {i : Nat} {bar bar' : Nat → Bool} {s s' : Cov.Sx} {C : Nat → Nat → Rat}
    (h : LS w wr k g cap u m n A l F s0 i bar s C) (hi : i < l.length) (hm : m ≤ 7) (hW : ∀ j, j ≤ n → ∀ r, r < m → Cov.Whole 1 (A j r)) (habs : ∀ t ∈ l, t.2.2.natAbs ≤ 1) (hk : w.heap.size < k) (hx : Below wr.heap.size wr wx) (hK : Kb k wx w')
    (ha : Cov.Aim m n (rc (costF (l.getD i (0, 0, 0)).1 (l.getD i (0, 0, 0)).2.1 (l.getD i (0, 0, 0)).2.2)) bar s bar' s')
    (hs : SxAt w' k m n (full m (costF (l.getD i (0, 0, 0)).1 (l.getD i (0, 0, 0)).2.1 (l.getD i (0, 0, 0)).2.2) s') s'.B bar') :
    LS w w' k g cap u m n A l F s0 (i + 1) bar' s' (full m (costF (l.getD i (0, 0, 0)).1 (l.getD i (0, 0, 0)).2.1 (l.getD i (0, 0, 0)).2.2) s') := by
  have hmem : l.getD i (0, 0, 0) ∈ l := by
    rw [List.getD_eq_getElem?_getD, List.getElem?_eq_getElem hi]
    exact List.getElem_mem _
  have hg := good_aim h.good ha
  have hwp := whole_part hg.1.inv hW hm (costF (l.getD i (0, 0, 0)).1 (l.getD i (0, 0, 0)).2.1 (l.getD i (0, 0, 0)).2.2) (costF_abs _ _ _ (habs _ hmem))
  have hown := own_below h.own hx
  have hgt := own_gt hown
  have hargx := h.arg.below (by omega) hx
  refine ⟨?_, hg.1, hs, fun a ha' j _ => ?_, fun j hj => ?_, ?_, ?_, ?_⟩
  · rw [aimC_succ l i hi]; exact aims_snoc h.aims ha
  · unfold full; rw [if_neg (by omega)]
  · unfold full; rw [if_pos rfl]; exact hwp.2 j hj m (Nat.le_refl _)
  · exact Below.trans (bt h.bel hx) (hK.below (bt h.bel hx).size (by omega))
  · exact own_move hown (fun b hb => by
      simp only [Value.ownBlock, Option.some.injEq] at hb
      subst hb
      exact hK.block g hgt.2 (by omega))
  · exact hargx.move (hK.block _ (hargx.lt (by omega)) (by omega))

end Go.Proofs.Ytliggcbiiaegeac

namespace Go.Proofs.Ytliggcbiiaegeac
open Go.RowKit

set_option maxRecDepth 100000 in
set_option maxHeartbeats 2000000 in
theorem leastSolution_calls (w : World) (u n : Nat) (vr : Value) (L : List (List Nat)) (below : Bool) (hu : u ≤ 7) (hL : L.length ≤ 7) (hb6 : below = true → L.length ≤ 6) (hn : n = if below then u + L.length + L.length else u + L.length) (hn19 : n ≤ 19)
    (hr : RowsAt w vr L) (hlen : ∀ i, i < L.length → (L.getD i []).length ≤ 7) (hin : ∀ i, i < L.length → ∀ j ∈ L.getD i [], j < u)
    (A : Nat → Nat → Rat) (hA : ∀ i, i < L.length → ∀ j, j ≤ n → startC u L below i j = A j i) (hW : ∀ j, j ≤ n → ∀ r, r < L.length → Cov.Whole 1 (A j r)) (hG : Cov.Good L.length n A (fun _ => false) ⟨fun i j => A j i, fun i => n - L.length + i⟩) :
    Calls Try.prog 139 #[.agg #[.int .i64 u, vr, .bool below]] w fun e w' => ∃ g bar' s', e = .returned (.slice (some ⟨g, 0, none⟩) u u) ∧ FrAt w' g u (Cov.xb L.length n s') ∧
      Cov.Aims L.length n (aimC (aimsL u L.length n below u)) (fun _ => false) ⟨fun i j => A j i, fun i => n - L.length + i⟩ bar' s' ∧ Cov.Good L.length n A bar' s' ∧ w.heap.size ≤ g ∧ g < w'.heap.size ∧ Below w.heap.size w w' := by
  have KS : Hid (∀ W, RowsAt W vr L → Calls Try.prog 160 #[.agg #[.int .i64 u, vr, .bool below]] W fun e w' => ∃ V, e = .returned (.agg V) ∧ IsSx V L.length n (startC u L below) (fun i => n - L.length + i) (fun _ => false) ∧ Below W.heap.size W w') := hid (fun W hW' => by
    have := startOf_calls W u vr L below hu hL (by rw [← hn]; exact hn19) hW' hlen hin
    rw [← hn] at this; exact this)
  obtain ⟨a, cap, hvr, -⟩ := id hr
  have KA : Hid (∀ W, Calls Try.prog 161 #[.agg #[.int .i64 u, vr, .bool below]] W fun e w' => ∃ v, e = .returned v ∧ w'.ownsRow W.heap.size 214 20 v (aimsL u L.length n below u).length (aimV (aimsL u L.length n below u)) ∧ Below W.heap.size W w') := hid (fun W => by rw [hvr]; exact aims_calls W u L.length n a cap below hu hb6 hn)
  have HR := hid hr
  have hun : u ≤ n := by rw [hn]; split <;> omega
  obtain ⟨m, hm⟩ : ∃ m, m = L.length := ⟨_, rfl⟩
  obtain ⟨l, hl⟩ : ∃ l, l = aimsL u m n below u := ⟨_, rfl⟩
  have hll : l.length ≤ 9 := by rw [hl, aimsL_length]; split <;> omega
  have hlp : 0 < l.length := by rw [hl, aimsL_length]; split <;> omega
  have HABS : Hid (∀ t ∈ l, t.2.2.natAbs ≤ 1) := hid (by rw [hl]; exact aimsL_abs u m n below u)
  rw [← hm] at KS KA hL hA hW hG ⊢
  rw [← hl] at KA ⊢
  obtain ⟨ln, hln⟩ : ∃ ln, ln = l.length := ⟨_, rfl⟩
  rw [← hln] at KA hll hlp
  have HA := hid hA
  have HW := hid hW
  have HG := hid hG
  have HM := hid hm
  have HLN := hid hln
  clear hA hW hG hm hl hln hb6 hn hlen hin hr hvr
  have hb0 : Below w.heap.size w (w.alloc (.cells #[.int .i64 u, vr, .bool below] 182)) := (Below.refl _ _).alloc (Nat.le_refl _) _
  have hA0 : ArrAt (w.alloc (.cells #[.int .i64 u, vr, .bool below] 182)) w.heap.size 3 (f3 (.int .i64 u) vr (.bool below)) := arrAt_alloc w 3 (f3 (.int .i64 u) vr (.bool below)) 182
  have hz0 : (w.alloc (.cells #[.int .i64 u, vr, .bool below] 182)).heap.size = w.heap.size + 1 := by simp
  go_enter Try.func139, Try.ntmps139
  go_upto_region 1 with fail
  generalize w.alloc (.cells #[.int .i64 u, vr, .bool below] 182) = W at *
  obtain ⟨p0, p1, p2⟩ := hA0.three
  go_upto_region 2 with (first | (go_at_call 160; refine (KS.out _ (HR.out.below hb0)).mono ?_; rintro e w2 ⟨V, rfl, hV, hb2⟩; have HV := hid hV; have HT : Hid ((w2.alloc (.cells zSx 209)).there w2.heap.size 0 V.size) := hid (by rw [hV.1]; exact there_zSx w2 _); have HI : Hid ((Try.prog.info? 209).map (·.size) = some V.size) := hid (by rw [hV.1]; exact infoSx); have HO := hid hV.one; have HSX := hid (hV.stored (there_zSx w2 209)); clear hV) | (refine wpList_alloc_sx rfl rfl ?_) | (refine wpList_store_mid rfl 209 _ _ rfl _ 0 V (by rfl) (by rfl) (by exact HT.out) (by exact HI.out) (by exact HO.out) ?_))
  have hb02 : Below w.heap.size w w2 := bt hb0 hb2
  have hs02 := hb02.size
  have hs2 := hb2.size
  have hb3 : Below w.heap.size w ((w2.alloc (.cells zSx 209)).setCells w2.heap.size 0 V.toList) := below_setCells hs02 _ _ _ (hb02.alloc hs02 _)
  have hA3 : ArrAt ((w2.alloc (.cells zSx 209)).setCells w2.heap.size 0 V.toList) w.heap.size 3 (f3 (.int .i64 u) vr (.bool below)) := ((hA0.below (by omega) hb2).alloc (by omega) _).move (setCells_heap _ _ _ _ _ (by omega))
  have hk1 : w.heap.size < w2.heap.size := by omega
  obtain ⟨k, hk⟩ : ∃ k, k = w2.heap.size := ⟨_, rfl⟩
  rw [← hk] at hb3 hA3 hk1 HSX ⊢
  generalize (w2.alloc (.cells zSx 209)).setCells k 0 V.toList = w3 at *
  have hklt : k < w3.heap.size := HSX.out.lt
  clear HT HI HO HV hb2 hb0 hA0 p0 p1 p2 hb02 hs02 hs2 hk hz0
  obtain ⟨p0, p1, p2⟩ := hA3.three
  go_wp2_with (first | (go_at_call 161; refine (KA.out _).mono ?_; rintro e w4 ⟨v, rfl, hown, hb4⟩; obtain ⟨g, gc, rfl, hg1, hg2⟩ := hown.form hlp))
  have HL0 : Hid (LS w w4 k g gc u m n A l (f3 (.int .i64 u) vr (.bool below)) ⟨fun i j => A j i, fun i => n - m + i⟩ 0 (fun _ => false) ⟨fun i j => A j i, fun i => n - m + i⟩ (startC u L below)) := hid
    { aims := ⟨rfl, rfl⟩
      good := HG.out
      sx := HSX.out.below hb4
      rows := HA.out
      last := fun j _ => by rw [show startC u L below m j = 0 from if_neg (by rw [HM.out]; omega)]; exact ⟨by decide, by decide⟩
      bel := bt hb3 hb4
      own := by rw [← HLN.out]; exact own_base hown (by omega)
      arg := hA3.below (by omega) hb4 }
  clear HSX hown hb4 hb3 hA3 p0 p1 p2 KS KA HR HG HA
  go_loopw [11] (fun t wr => ∃ i : Nat, i ≤ ln ∧ t = .int .i64 i ∧ Hid (∃ bar s C, LS w wr k g gc u m n A l (f3 (.int .i64 u) vr (.bool below)) ⟨fun i j => A j i, fun i => n - m + i⟩ i bar s C)) (fun t _ => ln - (intOf t).toNat)
  case atStart => exact ⟨0, Nat.zero_le _, rfl, hid ⟨_, _, _, HL0.out⟩⟩
  case round =>
    clear HL0
    obtain ⟨i, hi, rfl, hH⟩ := hrel
    obtain ⟨bar, s, C, hLS⟩ := hH.out
    by_cases hil : i < ln
    · have i1 : (i : Int) < (ln : Int) := by omega
      have hil2 : i < l.length := by rw [← HLN.out]; exact hil
      obtain ⟨cs, hcs⟩ : ∃ cs, cs = costV (l.getD i (0, 0, 0)).1 (l.getD i (0, 0, 0)).2.1 (l.getD i (0, 0, 0)).2.2 := ⟨_, rfl⟩
      have HRG : Hid (wr.rangeAt g (i * 20) cs) := hid (by rw [hcs]; exact own_aim hLS.own hil2)
      have HCL : Hid (cs.length = 20) := hid (by rw [hcs]; exact costV_length _ _ _)
      have HCI : Hid ((Try.prog.info? 214).map (·.size) = some cs.length) := hid (by rw [HCL.out]; exact infoC)
      have HCJ : Hid ((Try.prog.info? 214).map (·.size) = some cs.toArray.size) := hid (by rw [show cs.toArray.size = 20 by simpa using HCL.out]; exact infoC)
      have HCO : Hid (cs.toArray.all (·.oneCell') = true) := hid (all_oneCell_toArray (by rw [hcs]; exact costV_one _ _ _))
      have HTh : Hid ((wr.alloc (.cells (arrV 20 (fun _ => .int .i64 0)).toArray 214)).there wr.heap.size 0 cs.toArray.size) := hid (by rw [show cs.toArray.size = 20 by simpa using HCL.out]; exact (arrAt_alloc wr 20 (fun _ => .int .i64 0) 214).there)
      have HR2 : Hid (((wr.alloc (.cells (arrV 20 (fun _ => .int .i64 0)).toArray 214)).setCells wr.heap.size 0 cs.toArray.toList).rangeAt wr.heap.size 0 cs) := hid (by
        have := World.rangeAt_setCells_same (wr.alloc (.cells (arrV 20 (fun _ => .int .i64 0)).toArray 214)) wr.heap.size 0 cs.toArray.toList (by have := HTh.out; simpa using this)
        simpa using this)
      have hbx : Below wr.heap.size wr ((wr.alloc (.cells (arrV 20 (fun _ => .int .i64 0)).toArray 214)).setCells wr.heap.size 0 cs.toArray.toList) := below_setCells (Nat.le_refl _) _ _ _ ((Below.refl _ _).alloc (Nat.le_refl _) _)
      have HBX := hid hbx
      have HLS := hid hLS
      have HCS := hid hcs
      have KL : Hid (∀ W, SxAt W k m n C s.B bar → Calls Try.prog 162 #[.pointer (some ⟨k, 0, none⟩), .agg cs.toArray] W fun e w' => e = .returned (.tuple #[]) ∧ Kb k W w' ∧ ∃ bar' s', Cov.Aim m n (rc (costF (l.getD i (0, 0, 0)).1 (l.getD i (0, 0, 0)).2.1 (l.getD i (0, 0, 0)).2.2)) bar s bar' s' ∧ SxAt w' k m n (full m (costF (l.getD i (0, 0, 0)).1 (l.getD i (0, 0, 0)).2.1 (l.getD i (0, 0, 0)).2.2) s') s'.B bar') := hid (fun W hS => by
        rw [hcs]
        refine leastBy_calls W k m n A C s bar hS hLS.rows hLS.last hLS.good HW.out _ (costF_abs _ _ _ (HABS.out _ ?_))
        rw [List.getD_eq_getElem?_getD, List.getElem?_eq_getElem hil2]
        exact List.getElem_mem _)
      clear hH hLS hcs hbx
      go_wp2_with (first | (refine wpList_load_mid rfl 214 _ rfl g (i * 20) (by rfl) cs _ (by exact HRG.out) Try.underlying214 (by rfl) (by exact HCI.out) ?_) | (refine wpList_alloc_c rfl rfl ?_) | (refine wpList_store_mid rfl 214 _ _ rfl wr.heap.size 0 cs.toArray (by rfl) (by rfl) (by exact HTh.out) (by exact HCJ.out) (by exact HCO.out) ?_) | (refine wpList_load_mid rfl 214 _ rfl wr.heap.size 0 (by rfl) cs _ (by exact HR2.out) Try.underlying214 (by rfl) (by exact HCI.out) ?_) | (go_at_call 162; refine (KL.out _ (HLS.out.sx.below HBX.out)).mono ?_; rintro e w5 ⟨rfl, hK, bar', s', ha, hS'⟩))
      go_roundw
      case rel => exact ⟨i + 1, by omega, by go_num, hid ⟨_, _, _, HLS.out.step hil2 hL HW.out HABS.out hk1 HBX.out hK ha hS'⟩⟩
      case measure => simp [intOf]; omega
    · obtain rfl : i = ln := by omega
      have i1 : ¬ ((i : Int) < (i : Int)) := by omega
      obtain ⟨p0, -, -⟩ := hLS.arg.three
      have KV : Hid (Calls Try.prog 163 #[.pointer (some ⟨k, 0, none⟩), .int .i64 u] wr fun e w' => e = .returned (.slice (some ⟨wr.heap.size, 0, none⟩) u u) ∧ FrAt w' wr.heap.size u (valF C s.B n m) ∧ wr.heap.size < w'.heap.size ∧ Below wr.heap.size wr w') := hid (values_calls wr k m n u C s.B bar hLS.sx (by omega) hun)
      have HLS := hid hLS
      clear hH hLS
      go_wp2_with (first | (go_at_call 163; refine KV.out.mono ?_; rintro e w5 ⟨rfl, hF, hlt, hb5⟩))
      go_ret
      have hLS := HLS.out
      have hwr := hLS.bel.size
      refine ⟨_, bar, s, rfl, ⟨fun j hj => ?_, fun j hj => ?_, hF.free⟩, ?_, hLS.good, hwr, hlt, bt hLS.bel hb5⟩
      · rw [hF.num j hj]
        have : valF C s.B n m j = Cov.xb m n s j := (valF_val (fun a ha b hb e => hLS.good.inv.inj ha hb e) j).trans (Cov.sm_congr (fun a ha => by show (if s.B a = j then C a n else 0) = if s.B a = j then s.T a n else 0; rw [hLS.rows a ha n (Nat.le_refl _)]))
        rw [this]
      · rw [hF.den j hj]
        have : valF C s.B n m j = Cov.xb m n s j := (valF_val (fun a ha b hb e => hLS.good.inv.inj ha hb e) j).trans (Cov.sm_congr (fun a ha => by show (if s.B a = j then C a n else 0) = if s.B a = j then s.T a n else 0; rw [hLS.rows a ha n (Nat.le_refl _)]))
        rw [this]
      · have := hLS.aims
        rw [HLN.out, List.take_length] at this
        exact this

end Go.Proofs.Ytliggcbiiaegeac

/-
  The cover's and the packing's numbers.
-/
namespace Go.Proofs.Ytliggcbiiaegeac
open Go.RowKit

def plN (p : Nat → Bool) (k : Nat) : List Nat := (List.range k).filter p
theorem plc_plN (p : Nat → Bool) (k : Nat) : plc p k = (plN p k).map Int.ofNat := rfl

def coverL (bag : List Int) (es : List (List Int)) : List (List Nat) := bag.map fun x => plN (fun i => decide (x ∈ es.getD i [])) es.length
def packL (bag : List Int) (es : List (List Int)) : List (List Nat) := es.map fun e => plN (fun i => decide (bag.getD i 0 ∈ e)) bag.length

theorem coverRows_L (bag : List Int) (es : List (List Int)) : coverRows bag es = (coverL bag es).map (fun l => l.map Int.ofNat) := by
  unfold coverRows coverL
  rw [List.map_map]; rfl
theorem packRows_L (bag : List Int) (es : List (List Int)) : packRows bag es = (packL bag es).map (fun l => l.map Int.ofNat) := by
  unfold packRows packL
  rw [List.map_map]; rfl

theorem pr_rows {W : World} {B pB : Nat} {u : Int} {bel : Bool} {vr : Value} {vs : List Value} {L : List (List Nat)} (h : PR W B pB u bel vr vs (L.map (fun l => l.map Int.ofNat))) : RowsAt W vr L := by
  have hown := h.own
  have hlen := h.len
  rw [List.length_map] at hown hlen
  rcases hown.2 with ⟨rfl, h2⟩ | ⟨g, cap, cur, rfl, hb', hc, hn, -, -, ht⟩
  · exact ⟨none, 0, by rw [h2], fun i hi => by omega⟩
  · refine ⟨_, cap, rfl, fun i hi => ⟨g, 0, vs.getD i undef, rfl, ?_, ?_⟩⟩
    · rw [cell_of_row _ _ _ _ _ _ hc, Nat.zero_add, ← Array.getElem?_toList]
      have : (cur.toList.take (L.length * 1))[i]? = vs[i]? := by rw [ht]
      rw [List.getElem?_take_of_lt (by omega)] at this
      rw [this, List.getD_eq_getElem?_getD, List.getElem?_eq_getElem (by omega)]
      rfl
    · have he := h.each i (by rw [List.length_map]; exact hi)
      have hg : (L.map (fun l => l.map Int.ofNat)).getD i [] = (L.getD i []).map Int.ofNat := by
        rw [List.getD_eq_getElem?_getD, List.getElem?_map, List.getD_eq_getElem?_getD, List.getElem?_eq_getElem hi]
        rfl
      rw [hg] at he
      obtain ⟨a, cp, e, hi2⟩ := own_is he
      rw [List.length_map] at e hi2
      refine ⟨a, cp, e, fun j hj => ?_⟩
      rcases hi2 with h0 | ⟨b, o, ea, hcell⟩
      · omega
      · refine ⟨b, o, ea, (hcell j hj).trans ?_⟩
        generalize L.getD i [] = q at hj ⊢
        rw [List.getD_eq_getElem?_getD, List.getElem?_map, List.getD_eq_getElem?_getD, List.getElem?_eq_getElem hj]
        rfl

/-- the best cover | packing -/
def CoverBest (m u : Nat) (M : Nat → Nat → Rat) (x : Nat → Rat) : Prop := Cov.Cover m u M x ∧ ∀ y, Cov.Cover m u M y → Cov.Lex (Cov.key 1 u x) (Cov.key 1 u y)
def PackBest (m u : Nat) (M : Nat → Nat → Rat) (x : Nat → Rat) : Prop := Cov.Pack m u M x ∧ ∀ y, Cov.Pack m u M y → Cov.Lex (Cov.key (-1) u x) (Cov.key (-1) u y)
/-- one small denominator for all -/
def Parts (u : Nat) (x : Nat → Rat) : Prop := ∃ D : Int, D ≠ 0 ∧ D.natAbs ≤ 5040 ∧ ∀ j, j < u → Cov.Whole 5040 (x j * ((D : Int) : Rat))

theorem parts_xb {m n : Nat} {A : Nat → Nat → Rat} {bar : Nat → Bool} {s : Cov.Sx} (h : Cov.Good m n A bar s) (hm : m ≤ 7) (hA : ∀ j, j ≤ n → ∀ r, r < m → Cov.Whole 1 (A j r)) (u : Nat) : Parts u (Cov.xb m n s) := by
  obtain ⟨D, h0, hD, hw⟩ := h.inv.small hA
  have hf := fac_le hm
  refine ⟨D, h0, by omega, fun j _ => ?_⟩
  by_cases hj : ∃ i, i < m ∧ s.B i = j
  · obtain ⟨i, hi, rfl⟩ := hj
    unfold Cov.xb
    rw [h.inv.val_basic _ hi]
    exact (hw i hi n (Nat.le_refl _)).mono hf
  · unfold Cov.xb
    rw [Cov.val_not (fun i hi e => hj ⟨i, hi, e⟩)]
    exact ⟨0, by simp, by simp⟩

theorem Parts.sm {u : Nat} {x : Nat → Rat} (h : Parts u x) {j : Nat} (hj : j < u) : Sm 5040 (x j) := by
  obtain ⟨D, h0, hD, hw⟩ := h
  exact sm_of_whole h0 hD (hw j hj) (Nat.le_refl _)

theorem Parts.sum {u : Nat} {x : Nat → Rat} (h : Parts u x) {k : Nat} (hk : k ≤ u) (hu : u ≤ 7) : Sm 36000 (Cov.sm k x) := by
  obtain ⟨D, h0, hD, hw⟩ := h
  refine sm_of_whole (D := D) (Z := k * 5040) h0 (by omega) ?_ ?_
  · have : Cov.sm k x * ((D : Int) : Rat) = Cov.sm k (fun j => x j * ((D : Int) : Rat)) := by
      rw [show (fun j => x j * ((D : Int) : Rat)) = (fun j => ((D : Int) : Rat) * x j) from funext fun j => by grind, Cov.sm_mul]; grind
    rw [this]
    exact Cov.whole_sm k (fun j hj => hw j (by omega))
  · have : k * 5040 ≤ 7 * 5040 := Nat.mul_le_mul (by omega) (Nat.le_refl _)
    omega

theorem inc_nonneg (L : List (List Nat)) (r e : Nat) : 0 ≤ inc L r e := by
  unfold inc
  split
  · decide
  · exact Rat.le_refl

set_option maxHeartbeats 1000000 in
theorem solve_cover (w : World) (u : Nat) (vr : Value) (L : List (List Nat)) (hu : u ≤ 7) (hL : L.length ≤ 6) (hr : RowsAt w vr L) (hlen : ∀ i, i < L.length → (L.getD i []).length ≤ 7) (hin : ∀ i, i < L.length → ∀ j ∈ L.getD i [], j < u)
    (hne : ∀ r, r < L.length → ∃ e, e < u ∧ inc L r e = 1) :
    Calls Try.prog 139 #[.agg #[.int .i64 u, vr, .bool true]] w fun e w' => ∃ g x, e = .returned (.slice (some ⟨g, 0, none⟩) u u) ∧ FrAt w' g u x ∧ CoverBest L.length u (inc L) x ∧ Parts u x ∧ w.heap.size ≤ g ∧ g < w'.heap.size ∧ Below w.heap.size w w' := by
  have hg := Cov.cover_good (m := L.length) (u := u) (M := inc L)
  have eB : (fun i => u + L.length + L.length - L.length + i) = fun i => u + L.length + i := funext fun i => by omega
  refine (leastSolution_calls w u (u + L.length + L.length) vr L true hu (by omega) (fun _ => hL) rfl (by omega) hr hlen hin (Cov.coverA L.length u (inc L)) (fun i hi j hj => startC_cover u L i j hi hj) (fun j _ r _ => whole_cover _ _ _ _ _) (by rw [eB]; exact hg)).mono ?_
  rintro e w' ⟨g, bar', s', rfl, hF, ha, hG, h1, h2, hb⟩
  rw [aimC_cover, eB] at ha
  obtain ⟨g1, g2, g3⟩ := Cov.cover_least (fun r _ e _ => inc_nonneg L r e) hne ha
  exact ⟨g, _, rfl, hF, ⟨g2, g3⟩, parts_xb hG (by omega) (fun j _ r _ => whole_cover _ _ _ _ _) u, h1, h2, hb⟩

set_option maxHeartbeats 1000000 in
theorem solve_pack (w : World) (u : Nat) (vr : Value) (L : List (List Nat)) (hu : u ≤ 6) (hL : L.length ≤ 7) (hr : RowsAt w vr L) (hlen : ∀ i, i < L.length → (L.getD i []).length ≤ 7) (hin : ∀ i, i < L.length → ∀ j ∈ L.getD i [], j < u)
    (hne : ∀ e, e < u → ∃ r, r < L.length ∧ inc L r e = 1) :
    Calls Try.prog 139 #[.agg #[.int .i64 u, vr, .bool false]] w fun e w' => ∃ g x, e = .returned (.slice (some ⟨g, 0, none⟩) u u) ∧ FrAt w' g u x ∧ PackBest L.length u (inc L) x ∧ Parts u x ∧ w.heap.size ≤ g ∧ g < w'.heap.size ∧ Below w.heap.size w w' := by
  have hg := Cov.pack_good (m := L.length) (u := u) (M := inc L)
  have eB : (fun i => u + L.length - L.length + i) = fun i => u + i := funext fun i => by omega
  refine (leastSolution_calls w u (u + L.length) vr L false (by omega) (by omega) (fun h => by cases h) rfl (by omega) hr hlen hin (Cov.packA L.length u (inc L)) (fun i hi j hj => startC_pack u L i j hi hj) (fun j _ r _ => whole_pack _ _ _ _ _) (by rw [eB]; exact hg)).mono ?_
  rintro e w' ⟨g, bar', s', rfl, hF, ha, hG, h1, h2, hb⟩
  rw [aimC_pack, eB] at ha
  obtain ⟨g1, g2, g3⟩ := Cov.pack_least (fun r _ e _ => inc_nonneg L r e) hne ha
  exact ⟨g, _, rfl, hF, ⟨g2, g3⟩, parts_xb hG (by omega) (fun j _ r _ => whole_pack _ _ _ _ _) u, h1, h2, hb⟩

/-- numbers as pairs -/
def prs (u : Nat) (x : Nat → Rat) : List (Int × Int) := (List.range u).map fun j => ((x j).num, ((x j).den : Int))
theorem prs_length (u : Nat) (x : Nat → Rat) : (prs u x).length = u := by simp [prs]
theorem prs_get {u : Nat} {x : Nat → Rat} {j : Nat} (h : j < u) : (prs u x).getD j (0, 0) = ((x j).num, ((x j).den : Int)) := by
  unfold prs
  rw [List.getD_eq_getElem?_getD, List.getElem?_map, List.getElem?_range h]
  rfl

theorem frAt_ir {w : World} {g u : Nat} {x : Nat → Rat} (h : FrAt w g u x) : IR w (.slice (some ⟨g, 0, none⟩) u u) (prs u x) := by
  refine ⟨_, u, by rw [prs_length], Or.inr ⟨g, 0, rfl, fun j hj => ?_⟩⟩
  rw [prs_length] at hj
  rw [prs_get hj, Nat.zero_add]
  exact ⟨h.num j hj, h.den j hj⟩

theorem rats_best (w : World) (v : Value) (u : Nat) (x : Nat → Rat) (hu : u ≤ 7) (h : IR w v (prs u x)) (hp : Parts u x) :
    Calls Try.prog 138 #[v] w fun e w' => ∃ v, e = .returned v ∧ w'.ownsRow w.heap.size 49 2 v (prs u x).length (rcs (prs u x)) ∧ Below w.heap.size w w' := by
  refine ratsOf_calls w v (prs u x) h (by rw [prs_length]; omega) (fun j hj => ?_)
  rw [prs_length] at hj
  rw [prs_get hj]
  have := hp.sm hj
  have h1 := this.1
  have h2 := this.2
  refine ⟨⟨?_, ?_⟩, ?_, ?_⟩ <;> simp only <;> omega

theorem okR_of {q : Rat} (h : Sm 1000000 q) : OkR q.num q.den := by
  have h1 := h.1
  have h2 := h.2
  have h3 := q.den_pos
  refine ⟨by omega, by omega, by omega, by omega, ?_⟩
  have := q.reduced
  unfold Nat.Coprime at this
  rw [Int.gcd, Int.natAbs_natCast]
  exact this

theorem addR (p q : Rat) (w : World) (hp : Sm 1000000 p) (hq : Sm 1000000 q) (hs : Sm 1000000 (p + q)) :
    Calls Try.prog 164 #[.agg #[.int .i64 p.num, .int .i64 p.den], .agg #[.int .i64 q.num, .int .i64 q.den]] w fun e w' => e = .returned (.agg #[.int .i64 (p + q).num, .int .i64 (p + q).den]) ∧ Below w.heap.size w w' := by
  have hne : (p.den : Int) * (q.den : Int) ≠ 0 := Int.mul_ne_zero (by have := p.den_nz; omega) (by have := q.den_nz; omega)
  have e : p + q = Rat.divInt (p.num * q.den + q.num * p.den) (p.den * q.den) := by
    rw [← Rat.divInt_add_divInt _ _ (by have := p.den_nz; omega) (by have := q.den_nz; omega), Rat.num_divInt_den, Rat.num_divInt_den]
  obtain ⟨f1, f2⟩ := fr_rat (p.num * q.den + q.num * p.den) (p.den * q.den) hne
  rw [← e] at f1 f2
  have := iAdd_yes p.num p.den q.num q.den w (okR_of hp) (okR_of hq) (by rw [f1, f2]; exact okR_of hs)
  rw [f1, f2] at this
  exact this

theorem sum_best (w : World) (v : Value) (u : Nat) (x : Nat → Rat) (hu : u ≤ 7) (h : IR w v (prs u x)) (hp : Parts u x) :
    Calls Try.prog 142 #[v] w fun e w' => e = .returned (.agg #[.int .i64 (Cov.sm u x).num, .int .i64 (Cov.sm u x).den]) ∧ Below w.heap.size w w' := by
  have := sumOf_calls w v (prs u x) h (by rw [prs_length]; omega) (fun k => ((Cov.sm k x).num, ((Cov.sm k x).den : Int))) rfl (fun k W hk => by
    rw [prs_length] at hk
    rw [prs_get hk]
    exact addR (Cov.sm k x) (x k) W ((hp.sum (by omega) hu).mono (by omega)) ((hp.sm hk).mono (by omega)) ((hp.sum (k := k + 1) (by omega) hu).mono (by omega)))
  rw [prs_length] at this
  exact this

end Go.Proofs.Ytliggcbiiaegeac
