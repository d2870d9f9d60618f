import Derived.Test.YtnmcgbfhgmmcpaaW04
import Derived.Test.YtnmcgbfhgmmcpaaW15
import Derived.Test.YtnmcgbfhgmmcpaaW20
import Derived.Test.YtnmcgbfhgmmcpaaW21
/-
  impl.aims: the costs that are made least, one after another.
-/
namespace Go.Proofs.Ytnmcgbfhgmmcpaa
open Go.RowKit

def zC : Value := .agg #[.int .i64 0, .int .i64 0, .int .i64 0, .int .i64 0, .int .i64 0, .int .i64 0, .int .i64 0, .int .i64 0, .int .i64 0, .int .i64 0, .int .i64 0, .int .i64 0, .int .i64 0, .int .i64 0, .int .i64 0, .int .i64 0, .int .i64 0, .int .i64 0, .int .i64 0, .int .i64 0]
theorem zC_size : zC.cells.size = 20 := rfl
theorem Try.infoCs : (Try.prog.info? 125).map (fun i => (i.zero, i.size, i.bytes)) = some (some zC, 20, 160) := by kernel_rfl

theorem run_bs1 (a b : Nat) (v : Int) (w : World) : (Instr.buildSlice 122 1 #[(0, .agg (costV a b v).toArray)]).run Try.prog w = .ok (.slice (some ⟨w.heap.size, 0, none⟩) 1 1) (w.alloc (.cells (costV a b v).toArray 125)) := by kernel_rfl
theorem run_bs2 (a b c d : Nat) (v v' : Int) (w : World) : (Instr.buildSlice 122 2 #[(0, .agg (costV a b v).toArray), (1, .agg (costV c d v').toArray)]).run Try.prog w = .ok (.slice (some ⟨w.heap.size, 0, none⟩) 2 2) (w.alloc (.cells (costV a b v ++ costV c d v').toArray 125)) := by kernel_rfl

theorem costV_one (a b : Nat) (v : Int) : ∀ u ∈ costV a b v, u.oneCell' = true := by
  intro u hu
  unfold costV arrV at hu
  obtain ⟨j, -, rfl⟩ := List.mem_map.1 hu
  rfl

theorem costV_length (a b : Nat) (v : Int) : (costV a b v).length = 20 := arrV_length _ _

/-- the aims as first, end, each -/
def firstAims (u m n : Nat) (below : Bool) : List (Nat × Nat × Int) := if below then [(n - m, n, 1), (0, u, 1)] else [(0, u, -1)]
def aimsL (u m n : Nat) (below : Bool) (k : Nat) : List (Nat × Nat × Int) := firstAims u m n below ++ (List.range k).map fun j => (j, j + 1, 1)
def aimV (l : List (Nat × Nat × Int)) : List Value := l.flatMap fun t => costV t.1 t.2.1 t.2.2

theorem aimsL_succ (u m n : Nat) (below : Bool) (k : Nat) : aimsL u m n below (k + 1) = aimsL u m n below k ++ [(k, k + 1, 1)] := by
  unfold aimsL
  rw [List.range_succ, List.map_append, ← List.append_assoc]
  rfl
theorem aimsL_length (u m n : Nat) (below : Bool) (k : Nat) : (aimsL u m n below k).length = k + (if below then 2 else 1) := by
  unfold aimsL firstAims
  cases below <;> simp
theorem aimV_snoc (l : List (Nat × Nat × Int)) (t : Nat × Nat × Int) : aimV (l ++ [t]) = aimV l ++ costV t.1 t.2.1 t.2.2 := by
  unfold aimV
  rw [List.flatMap_append]; simp

theorem cells_new (w : World) (xs : List Value) (t : TypeId) : ∀ j u, xs[j]? = some u → (w.alloc (.cells xs.toArray t)).cell? ((⟨w.heap.size, 0, none⟩ : Addr).add j) = some u := by
  have := World.news_of_block (heap_alloc_new w (.cells xs.toArray t))
  simpa using this

theorem fold_two (a b c d : Nat) (v v' : Int) : ∃ Z : Array Value, List.foldl (fun (cs : Array Value) (x : Value × Nat) => cs.setIfInBounds x.snd x.fst) #[.int .i64 0, .int .i64 0, .int .i64 0, .int .i64 0, .int .i64 0, .int .i64 0, .int .i64 0, .int .i64 0, .int .i64 0, .int .i64 0, .int .i64 0, .int .i64 0, .int .i64 0, .int .i64 0, .int .i64 0, .int .i64 0, .int .i64 0, .int .i64 0, .int .i64 0, .int .i64 0, .int .i64 0, .int .i64 0, .int .i64 0, .int .i64 0, .int .i64 0, .int .i64 0, .int .i64 0, .int .i64 0, .int .i64 0, .int .i64 0, .int .i64 0, .int .i64 0, .int .i64 0, .int .i64 0, .int .i64 0, .int .i64 0, .int .i64 0, .int .i64 0, .int .i64 0, .int .i64 0] (costV a b v).zipIdx = Z ∧ Z.size = 40 ∧ List.foldl (fun (cs : Array Value) (x : Value × Nat) => cs.setIfInBounds (20 + x.snd) x.fst) Z (costV c d v').zipIdx = (costV a b v ++ costV c d v').toArray := ⟨_, rfl, by kernel_rfl, by kernel_rfl⟩

theorem wp_bs1 {op : Oper} {act : Act} {w : World} {K : Act → World → Prop} {Q : Exit → Act → World → Prop} (x : Operand) (a b : Nat) (v : Int) (ho : op.op = .buildSlice 122 1 #[(0, x)]) (hx : act.eval x = .agg (costV a b v).toArray)
    (h : K (act.put op.dst (.slice (some ⟨w.heap.size, 0, none⟩) 1 1)) (w.alloc (.cells (costV a b v).toArray 125))) : op.wp Try.prog act w K Q := by
  have e : (#[(0, x)] : Array (Nat × Operand)).map (fun p => (p.1, act.eval p.2)) = #[(0, .agg (costV a b v).toArray)] := by simp [hx]
  unfold Oper.wp execOp
  simp only [ho, Sem.run_bind, Sem.run_pure]
  rw [e, run_bs1]
  exact h

theorem wpList_bs1 {ops : Array Oper} {rest : List Oper} {op : Oper} {act : Act} {w : World} {Q : Exit → Act → World → Prop} (hgd : op.guard = none) (x : Operand) (a b : Nat) (v : Int) (ho : op.op = .buildSlice 122 1 #[(0, x)]) (hx : act.eval x = .agg (costV a b v).toArray)
    (h : wpList Try.prog ops Q rest (act.put op.dst (.slice (some ⟨w.heap.size, 0, none⟩) 1 1)) (w.alloc (.cells (costV a b v).toArray 125))) : wpList Try.prog ops Q (op :: rest) act w :=
  wpList_plain hgd fun _ hK => wp_bs1 x a b v ho hx (hK _ _ h)

theorem step_bs2 {ops : Array Oper} {op : Oper} {act : Act} {w : World} {K : Act → World → Prop} {Q : Exit → Act → World → Prop} {E : Prop} (hgd : op.guard = none) (x y : Operand) (a b c d : Nat) (v v' : Int) (ho : op.op = .buildSlice 122 2 #[(0, x), (1, y)])
    (hx : act.eval x = .agg (costV a b v).toArray) (hy : act.eval y = .agg (costV c d v').toArray)
    (h : K (act.put op.dst (.slice (some ⟨w.heap.size, 0, none⟩) 2 2)) (w.alloc (.cells (costV a b v ++ costV c d v').toArray 125))) : if Region.wanted op (yielded ops act.tmps) = true then op.wp Try.prog act w K Q else E := by
  have hw : Region.wanted op (yielded ops act.tmps) = true := by simp [Region.wanted, hgd]
  rw [if_pos hw]
  have e : (#[(0, x), (1, y)] : Array (Nat × Operand)).map (fun p => (p.1, act.eval p.2)) = #[(0, .agg (costV a b v).toArray), (1, .agg (costV c d v').toArray)] := by simp [hx, hy]
  unfold Oper.wp execOp
  simp only [ho, Sem.run_bind, Sem.run_pure]
  rw [e, run_bs2]
  exact h

set_option maxHeartbeats 4000000 in
set_option maxRecDepth 1000000 in
theorem aims_false (w : World) (u m : Nat) (a : Option Addr) (cap : Nat) (hu : u ≤ 7) :
    Calls Try.prog 89 #[.agg #[.int .i64 u, .slice a m cap, .bool false]] w fun e w' => ∃ v, e = .returned v ∧ w'.ownsRow w.heap.size 125 20 v (u + 1) (aimV (aimsL u m (u + m) false u)) ∧ Below w.heap.size w w' := by
  obtain ⟨i0, hi, hz0, hz1, hz2⟩ := info_parts Try.infoCs
  have hbx : Below w.heap.size w (w.alloc (.cells #[.int .i64 u, .slice a m cap, .bool false] 82)) := (Below.refl _ _).alloc (Nat.le_refl _) _
  have hc0 : (w.alloc (.cells #[.int .i64 u, .slice a m cap, .bool false] 82)).cell? ⟨w.heap.size, 0, none⟩ = some (.int .i64 u) := by simp [go_sem]
  have hsx : w.heap.size < (w.alloc (.cells #[.int .i64 u, .slice a m cap, .bool false] 82)).heap.size := by simp
  have HX := hid (And.intro hbx (And.intro hc0 hsx))
  clear hbx hc0 hsx
  go_enter Try.func89, Try.ntmps89
  go_wp2_with (first | (go_at_call 113; refine (costsFrom_calls _ 0 u (-1) (by omega)).mono ?_; rintro e w2 ⟨rfl, hb⟩) | (refine wpList_bs1 rfl _ 0 u (-1) rfl (by rfl) ?_) | (at_builtin; refine wpList_append_own _ rfl _ _ 122 rfl w.heap.size 125 i0 zC 20 160 Try.underlying122 hi hz0 hz1 hz2 zC_size (by decide) _ _ _ rfl (World.ownsRow_nil _ _ _ _) ⟨w2.heap.size, 0, none⟩ 1 1 (costV 0 u (-1)) rfl ?c0 ?c1 ?c2 ?c3 ?c4 ?c5 ?_))
  case c0 => rw [costV_length]
  case c1 => exact cells_new w2 (costV 0 u (-1)) 125
  case c2 => exact costV_one _ _ _
  case c3 => unfold maxLen; omega
  case c4 => omega
  case c5 => have := hb.size; simp at this ⊢; omega
  intro v1 w3 hown hgrow _
  have hB3 : Below w.heap.size w w3 := by
    have hb2 : Below w.heap.size w w2 := bt HX.out.1 hb
    exact (hb2.alloc hb2.size _).grown hgrow (by have := hb2.size; simp; omega) (fun j hj => by cases hj)
  have hown0 : w3.ownsRow w.heap.size 125 20 v1 1 (aimV (aimsL u m (u + m) false 0)) := by
    have : aimV (aimsL u m (u + m) false 0) = [] ++ costV 0 u (-1) := by simp [aimV, aimsL, firstAims]
    rw [this]; exact hown
  have c3 : w3.cell? ⟨w.heap.size, 0, none⟩ = some (.int .i64 u) := by
    have h1 := HX.out.2.2
    have h2 := hb.size
    have e1 : w3.heap[w.heap.size]? = w2.heap[w.heap.size]? := (hgrow.block _ (by simp at h1 h2 ⊢; omega) (by simp [Value.ownBlock])).trans (Below.heap_alloc _ _ _ (by omega))
    exact (World.cell?_of_block (w := w2) (a := ⟨w.heap.size, 0, none⟩) e1).trans ((hb.cell (p := ⟨w.heap.size, 0, none⟩) h1).trans HX.out.2.1)
  clear hown hgrow hb HX
  go_wp2
  go_loopw [3, 32] (fun v t wr => ∃ k : Nat, k ≤ u ∧ t = .int .i64 k ∧ wr.ownsRow w.heap.size 125 20 v (k + 1) (aimV (aimsL u m (u + m) false k)) ∧ Below w.heap.size w wr) (fun _ t _ => u - (intOf t).toNat)
  case atStart => exact ⟨0, Nat.zero_le _, rfl, hown0, hB3⟩
  case round =>
    clear c3 hown0 hB3
    obtain ⟨k, hk, rfl, hown, hnx⟩ := hrel
    have hns := hnx.size
    by_cases hku : k < u
    · have i1 : (k : Int) < (u : Int) := by omega
      have HS : Hid (aimV (aimsL u m (u + m) false (k + 1)) = aimV (aimsL u m (u + m) false k) ++ costV k (k + 1) 1) := hid (by rw [aimsL_succ, aimV_snoc])
      have K1 : Hid (∀ W, Calls Try.prog 113 #[.int .i64 (k : Nat), .int .i64 ((k : Int) + 1), .int .i64 1] W fun e w' => e = .returned (.agg (costV k (k + 1) 1).toArray) ∧ Below W.heap.size W w') := hid (fun W => costsFrom_calls W k (k + 1) 1 (by omega))
      go_wp2_with (first | (go_at_call 113; refine (K1.out _).mono ?_; rintro e w2 ⟨rfl, hb⟩; have hown2 := own_below hown hb; have hB2 := bt hnx hb; have hs2 := hB2.size) | (refine wpList_bs1 rfl _ k (k + 1) 1 rfl (by rfl) ?_) | (at_builtin; refine wpList_append_own _ rfl _ _ 122 rfl w.heap.size 125 i0 zC 20 160 Try.underlying122 hi hz0 hz1 hz2 zC_size (by decide) _ _ _ rfl (hown2.alloc _) ⟨w2.heap.size, 0, none⟩ 1 1 (costV k (k + 1) 1) rfl ?c0 ?c1 ?c2 ?c3 ?c4 ?c5 ?_))
      case c0 => rw [costV_length]
      case c1 => exact cells_new w2 (costV k (k + 1) 1) 125
      case c2 => exact costV_one _ _ _
      case c3 => unfold maxLen; omega
      case c4 => omega
      case c5 => simp; omega
      intro v' w1 hown' hgrow _
      have hB1 := own_grow2 hs2 hown2 hB2 hgrow
      rw [← HS.out] at hown'
      clear hgrow hown hown2 hb hB2 hnx
      go_wp2
      go_roundw
      case rel => exact ⟨k + 1, by omega, by go_num, hown', hB1⟩
      case measure => simp [intOf]; omega
    · obtain rfl : k = u := by omega
      have i1 : ¬ ((k : Int) < (k : Int)) := by omega
      go_wp2
      go_ret
      exact ⟨_, rfl, hown, hnx⟩

set_option maxHeartbeats 4000000 in
set_option maxRecDepth 1000000 in
theorem aims_true (w : World) (u m : Nat) (a : Option Addr) (cap : Nat) (hu : u ≤ 7) (hm : m ≤ 6) :
    Calls Try.prog 89 #[.agg #[.int .i64 u, .slice a m cap, .bool true]] w fun e w' => ∃ v, e = .returned v ∧ w'.ownsRow w.heap.size 125 20 v (u + 2) (aimV (aimsL u m (u + m + m) true u)) ∧ Below w.heap.size w w' := by
  obtain ⟨i0, hi, hz0, hz1, hz2⟩ := info_parts Try.infoCs
  have hcol : Hid (∀ wx, Calls Try.prog 111 #[.agg #[.int .i64 u, .slice a m cap, .bool true]] wx fun e w' => e = .returned (.int .i64 ((u + m + m : Nat) : Int)) ∧ Below wx.heap.size wx w') := hid (fun wx => columns_calls wx u a m cap true hu (by omega))
  have hA0 : ArrAt (w.alloc (.cells #[.int .i64 u, .slice a m cap, .bool true] 82)) w.heap.size 3 (f3 (.int .i64 u) (.slice a m cap) (.bool true)) := arrAt_alloc w 3 (f3 (.int .i64 u) (.slice a m cap) (.bool true)) 82
  have hbx : Below w.heap.size w (w.alloc (.cells #[.int .i64 u, .slice a m cap, .bool true] 82)) := (Below.refl _ _).alloc (Nat.le_refl _) _
  have hsx : w.heap.size < (w.alloc (.cells #[.int .i64 u, .slice a m cap, .bool true] 82)).heap.size := by simp
  obtain ⟨nn, hnn⟩ : ∃ nn : Nat, nn = u + m + m := ⟨_, rfl⟩
  rw [← hnn] at hcol ⊢
  obtain ⟨nm, hnm⟩ : ∃ nm : Nat, nm = nn - m := ⟨_, rfl⟩
  have hn19 : nn ≤ 19 := by omega
  have hle : (m : Int) ≤ (nn : Int) := by omega
  have HSUB : Hid ((nn : Int) - (m : Int) = (nm : Int)) := hid (by omega)
  have HNM := hid hnm
  clear hnn hnm
  go_enter Try.func89, Try.ntmps89
  go_upto_region 3 with fail
  generalize w.alloc (.cells #[.int .i64 u, .slice a m cap, .bool true] 82) = W at *
  obtain ⟨e0, e1, e2⟩ := hA0.three
  go_cut [4] (fun v wc => v = .int .i64 nm ∧ Below w.heap.size w wc ∧ ArrAt wc w.heap.size 3 (f3 (.int .i64 u) (.slice a m cap) (.bool true)))
  case first =>
    go_region_law (first | (go_simp; go_at_call 111; refine (hcol.out _).mono ?_; rintro e w' ⟨rfl, hb⟩; have r1 : w'.cell? ⟨w.heap.size, 1, none⟩ = some (.slice a m cap) := (hb.cell (p := ⟨w.heap.size, 1, none⟩) hsx).trans e1))
    all_goals
      go_wp2_with fail
      go_meet
      exact ⟨by rw [HSUB.out, wrap_small nm (by have := HNM.out; omega)], bt hbx (drew_below hb), hA0.below (by omega) (drew_below hb)⟩
  case rest =>
    obtain ⟨rfl, hBc, hAc⟩ := hcut
    have hA1 := hid hAc
    obtain ⟨d0, d1, d2⟩ := hAc.three
    have hwc : w.heap.size < wc.heap.size := World.block_lt_of_cell? wc _ d0
    have K1 : Hid (∀ W, Calls Try.prog 113 #[.int .i64 (nm : Nat), .int .i64 (nn : Nat), .int .i64 1] W fun e w' => e = .returned (.agg (costV nm nn 1).toArray) ∧ Below W.heap.size W w') := hid (fun W => costsFrom_calls W nm nn 1 (by omega))
    have K2 : Hid (∀ W, Calls Try.prog 113 #[.int .i64 0, .int .i64 (u : Nat), .int .i64 1] W fun e w' => e = .returned (.agg (costV 0 u 1).toArray) ∧ Below W.heap.size W w') := hid (fun W => costsFrom_calls W 0 u 1 (by omega))
    have hBd : Below wc.heap.size wc wc.drew := (Below.refl _ _).drew
    have L1 : (costV nm nn 1).length = 20 := costV_length _ _ _
    have L2 : (costV 0 u 1).length = 20 := costV_length _ _ _
    obtain ⟨Z1, L3, L4⟩ := fold_two nm nn 0 u 1 1
    have L5 : Z1.size = 40 := L4.1
    clear hsx hbx hA0 e0 e1 e2
    go_upto_region 4 with fail
    go_cut [3] (fun v wx => wx.ownsRow w.heap.size 125 20 v 2 (aimV (aimsL u m nn true 0)) ∧ Below w.heap.size w wx ∧ wx.cell? ⟨w.heap.size, 0, none⟩ = some (.int .i64 u))
    case first =>
      go_region_law (first
        | (refine step_append_lies _ (by rfl) _ _ _ (by rfl) w.heap.size 125 i0 zC 20 160 Try.underlying122 hi hz0 hz1 hz2 zC_size (by decide) (.slice none 0 0) 0 [] (by rfl) (World.ownsRow_nil _ _ _ _) ⟨_, 0, none⟩ 2 2 (costV nm nn 1 ++ costV 0 u 1) (by rfl) (by rw [List.length_append, costV_length, costV_length]) (cells_new _ (costV nm nn 1 ++ costV 0 u 1) 125) (fun x hx => by rcases List.mem_append.1 hx with h | h; exact costV_one _ _ _ x h; exact costV_one _ _ _ x h) (by decide) (by unfold maxLen; omega) (by omega) (by have := hBn.size; simp at this ⊢; omega) _ rfl ?_; intro g3 cp3 w4 hown4 hgrow hat4 hlt4)
        | (go_simp; go_at_call 111; with_reducible refine (hcol.out _).mono ?_; rintro e w1 ⟨rfl, hb1⟩; have hBn : Below wc.heap.size wc w1 := bt (by assumption) hb1; have hAn := hAc.below (by omega) hBn; obtain ⟨g0, g1, g2⟩ := hAn.three)
        | (go_simp; go_at_call 113; with_reducible refine (K1.out _).mono ?_; rintro e w2 ⟨rfl, hb2⟩; have hBn : Below wc.heap.size wc w2 := bt (by assumption) hb2; have hAn := hAc.below (by omega) hBn; obtain ⟨g0, g1, g2⟩ := hAn.three)
        | (go_simp; go_at_call 113; with_reducible refine (K2.out _).mono ?_; rintro e w3 ⟨rfl, hb3⟩; have hBn : Below wc.heap.size wc w3 := bt (by assumption) hb3; have hAn := hAc.below (by omega) hBn; obtain ⟨g0, g1, g2⟩ := hAn.three))
      all_goals
        go_wp2_with fail
        go_meet
        have hBt : Below w.heap.size w _ := bt hBc hBn
        refine ⟨?_, (hBt.alloc hBt.size _).grown hgrow (by have := hBt.size; simp; omega) (fun j hj => by cases hj), ?_⟩
        · have : aimV (aimsL u m nn true 0) = [] ++ (costV nm nn 1 ++ costV 0 u 1) := by simp [aimV, aimsL, firstAims, HNM.out]
          rw [this]; exact hown4
        · exact (World.cell?_of_block (a := ⟨w.heap.size, 0, none⟩) ((hgrow.block _ (by have := hBn.size; show w.heap.size < _; simp; omega) (by simp [Value.ownBlock])).trans (Below.heap_alloc _ _ _ (by have := hBn.size; show w.heap.size < _; omega)))).trans g0
    case rest =>
      obtain ⟨hown0, hB3, c3⟩ := hcut
      clear hA1 d0 d1 d2 hwc hBd K1 K2 hBc hAc
      go_wp2
      go_loopw [3, 32] (fun v t wr => ∃ k : Nat, k ≤ u ∧ t = .int .i64 k ∧ wr.ownsRow w.heap.size 125 20 v (k + 2) (aimV (aimsL u m nn true k)) ∧ Below w.heap.size w wr) (fun _ t _ => u - (intOf t).toNat)
      case atStart => exact ⟨0, Nat.zero_le _, rfl, hown0, hB3⟩
      case round =>
        clear c3 hown0 hB3
        obtain ⟨k, hk, rfl, hown, hnx⟩ := hrel
        have hns := hnx.size
        by_cases hku : k < u
        · have i1 : (k : Int) < (u : Int) := by omega
          have HS : Hid (aimV (aimsL u m nn true (k + 1)) = aimV (aimsL u m nn true k) ++ costV k (k + 1) 1) := hid (by rw [aimsL_succ, aimV_snoc])
          have K1 : Hid (∀ W, Calls Try.prog 113 #[.int .i64 (k : Nat), .int .i64 ((k : Int) + 1), .int .i64 1] W fun e w' => e = .returned (.agg (costV k (k + 1) 1).toArray) ∧ Below W.heap.size W w') := hid (fun W => costsFrom_calls W k (k + 1) 1 (by omega))
          go_wp2_with (first | (go_at_call 113; refine (K1.out _).mono ?_; rintro e w2 ⟨rfl, hb⟩; have hown2 := own_below hown hb; have hB2 := bt hnx hb; have hs2 := hB2.size) | (refine wpList_bs1 rfl _ k (k + 1) 1 rfl (by rfl) ?_) | (at_builtin; refine wpList_append_own _ rfl _ _ 122 rfl w.heap.size 125 i0 zC 20 160 Try.underlying122 hi hz0 hz1 hz2 zC_size (by decide) _ _ _ rfl (hown2.alloc _) ⟨w2.heap.size, 0, none⟩ 1 1 (costV k (k + 1) 1) rfl ?c0 ?c1 ?c2 ?c3 ?c4 ?c5 ?_))
          case c0 => rw [costV_length]
          case c1 => exact cells_new w2 (costV k (k + 1) 1) 125
          case c2 => exact costV_one _ _ _
          case c3 => unfold maxLen; omega
          case c4 => omega
          case c5 => simp; omega
          intro v' w1 hown' hgrow _
          have hB1 := own_grow2 hs2 hown2 hB2 hgrow
          rw [← HS.out] at hown'
          clear hgrow hown hown2 hb hB2 hnx
          go_wp2
          go_roundw
          case rel => exact ⟨k + 1, by omega, by go_num, hown', hB1⟩
          case measure => simp [intOf]; omega
        · obtain rfl : k = u := by omega
          have i1 : ¬ ((k : Int) < (k : Int)) := by omega
          go_wp2
          go_ret
          exact ⟨_, rfl, hown, hnx⟩

end Go.Proofs.Ytnmcgbfhgmmcpaa

/-
  Plain mathematics between the walks and the simplex.
-/
namespace Go.Proofs.Ytnmcgbfhgmmcpaa
open Go.RowKit

/-- which unknowns stand in which row -/
def inc (L : List (List Nat)) (r e : Nat) : Rat := if e ∈ L.getD r [] then 1 else 0

theorem contains_mem (l : List Nat) (x : Nat) : (l.contains x = true) = (x ∈ l) := by simp

theorem startC_pack (u : Nat) (L : List (List Nat)) (i j : Nat) (hi : i < L.length) (hj : j ≤ u + L.length) : startC u L false i j = Cov.packA L.length u (inc L) j i := by
  unfold startC Cov.packA inc
  simp only [Bool.false_eq_true, if_false, contains_mem, false_and]
  rw [if_pos hi]
  by_cases h1 : j = u + L.length
  · rw [if_pos h1, if_neg (by omega), if_neg (by omega)]
  · rw [if_neg h1]
    by_cases h2 : j < u
    · rw [if_pos h2, if_pos h2]
    · rw [if_neg h2, if_neg h2, if_pos (show j < u + L.length by omega)]
      by_cases h3 : j - u = i
      · rw [if_pos h3, if_pos (by omega)]
      · rw [if_neg h3, if_neg (by omega)]

theorem startC_cover (u : Nat) (L : List (List Nat)) (i j : Nat) (hi : i < L.length) (hj : j ≤ u + L.length + L.length) : startC u L true i j = Cov.coverA L.length u (inc L) j i := by
  unfold startC Cov.coverA inc
  simp only [if_true, contains_mem, true_and]
  rw [if_pos hi]
  by_cases h1 : j = u + L.length + L.length
  · rw [if_pos h1, if_neg (by omega), if_neg (by omega), if_neg (by omega)]
  · rw [if_neg h1]
    by_cases h2 : j < u
    · rw [if_pos h2, if_pos h2]
    · rw [if_neg h2, if_neg h2]
      by_cases h4 : j < u + L.length
      · rw [if_pos h4, if_neg (by omega)]
        by_cases h3 : j - u = i
        · rw [if_pos h3, if_pos (by omega)]
        · rw [if_neg h3, if_neg (by omega)]
      · rw [if_neg h4, if_pos (show j < u + L.length + L.length by omega)]
        by_cases h3 : j - u - L.length = i
        · rw [if_pos h3, if_pos (by omega)]
        · rw [if_neg h3, if_neg (by omega), if_neg (by omega)]

theorem aims_snoc {m n : Nat} : ∀ {l : List (Nat → Rat)} {c : Nat → Rat} {bar b1 bar' : Nat → Bool} {s s1 s' : Cov.Sx}, Cov.Aims m n l bar s b1 s1 → Cov.Aim m n c b1 s1 bar' s' → Cov.Aims m n (l ++ [c]) bar s bar' s'
  | [], _, _, _, _, _, _, _, h, h2 => by
    obtain ⟨rfl, rfl⟩ := h
    exact ⟨_, _, h2, rfl, rfl⟩
  | _ :: _, _, _, _, _, _, _, _, h, h2 => by
    obtain ⟨b, s, h0, h1⟩ := h
    exact ⟨b, s, h0, aims_snoc h1 h2⟩

theorem good_aim {m n : Nat} {A : Nat → Nat → Rat} {cost : Nat → Rat} {bar bar' : Nat → Bool} {s s' : Cov.Sx} (h : Cov.Good m n A bar s) (ha : Cov.Aim m n cost bar s bar' s') : Cov.Good m n A bar' s' ∧ Cov.Good m n A bar s' := by
  obtain ⟨k, h1, _, h3, h4⟩ := ha
  have hg : Cov.Good m n A bar s' := by rw [h3]; exact h.it k
  refine ⟨⟨hg.inv, hg.feas, fun i hi => ?_⟩, hg⟩
  rw [h4]
  unfold Cov.narrowed
  rw [hg.open' i hi, hg.inv.red_basic cost hi]
  simp

theorem rc_costF (a b : Nat) (v : Int) : rc (costF a b v) = Cov.cf a b ((v : Int) : Rat) := by
  funext j
  unfold rc costF Cov.cf
  split <;> rfl

/-- the costs of the aims -/
def aimC (l : List (Nat × Nat × Int)) : List (Nat → Rat) := l.map fun t => rc (costF t.1 t.2.1 t.2.2)

theorem aimC_pack (u m n : Nat) : aimC (aimsL u m n false u) = Cov.cf 0 u (-1) :: Cov.units u := by
  unfold aimC aimsL firstAims Cov.units
  simp only [Bool.false_eq_true, if_false, List.map_cons, List.map_map, List.cons_append, List.nil_append, rc_costF]
  congr 1

theorem aimC_cover (u m : Nat) : aimC (aimsL u m (u + m + m) true u) = Cov.cf (u + m) (u + m + m) 1 :: Cov.cf 0 u 1 :: Cov.units u := by
  unfold aimC aimsL firstAims Cov.units
  simp only [if_true, List.map_cons, List.map_map, List.cons_append, List.nil_append, rc_costF]
  rw [show u + m + m - m = u + m by omega]
  congr 1

theorem costF_abs (a b : Nat) (v : Int) (hv : v.natAbs ≤ 1) (j : Nat) : (costF a b v j).natAbs ≤ 1 := by
  unfold costF
  split
  · exact hv
  · simp

theorem aimsL_abs (u m n : Nat) (below : Bool) (k : Nat) : ∀ t ∈ aimsL u m n below k, t.2.2.natAbs ≤ 1 := by
  intro t ht
  unfold aimsL firstAims at ht
  rcases List.mem_append.1 ht with h | h
  · cases below
    · simp at h; subst h; simp
    · simp at h; rcases h with rfl | rfl <;> simp
  · obtain ⟨j, -, rfl⟩ := List.mem_map.1 h
    simp

/-- the value of an unknown, line by line or as a sum -/
theorem valF_val {C : Nat → Nat → Rat} {B : Nat → Nat} {n : Nat} : ∀ {m : Nat}, (∀ i, i < m → ∀ k, k < m → B i = B k → i = k) → ∀ j, valF C B n m j = Cov.val m (fun i => C i n) B j
  | 0, _, _ => rfl
  | m + 1, hB, j => by
    have ih := valF_val (C := C) (B := B) (n := n) (m := m) (fun i hi k hk e => hB i (by omega) k (by omega) e) j
    show (if B m = j then C m n else valF C B n m j) = Cov.sm m (fun i => if B i = j then C i n else 0) + (if B m = j then C m n else 0)
    rw [ih]
    unfold Cov.val
    by_cases e : B m = j
    · have hz : Cov.sm m (fun i => if B i = j then C i n else 0) = 0 := Cov.sm_zero (fun i hi => if_neg (fun e2 => by
        have := hB i (by omega) m (by omega) (e2.trans e.symm)
        omega))
      simp only [hz, if_pos e]; grind
    · simp only [if_neg e]; grind

theorem inc_whole (L : List (List Nat)) (r e : Nat) : Cov.Whole 1 (inc L r e) := by
  unfold inc
  split
  · exact ⟨1, rfl, by decide⟩
  · exact ⟨0, rfl, by decide⟩

theorem whole_pack (m u : Nat) (L : List (List Nat)) (j r : Nat) : Cov.Whole 1 (Cov.packA m u (inc L) j r) := by
  unfold Cov.packA
  repeat' split
  · exact inc_whole L r j
  · exact ⟨1, rfl, by decide⟩
  · exact ⟨0, rfl, by decide⟩
  · exact ⟨1, rfl, by decide⟩

theorem whole_cover (m u : Nat) (L : List (List Nat)) (j r : Nat) : Cov.Whole 1 (Cov.coverA m u (inc L) j r) := by
  unfold Cov.coverA
  repeat' split
  · exact inc_whole L r j
  · exact ⟨-1, rfl, by decide⟩
  · exact ⟨0, rfl, by decide⟩
  · exact ⟨1, rfl, by decide⟩
  · exact ⟨0, rfl, by decide⟩
  · exact ⟨1, rfl, by decide⟩

end Go.Proofs.Ytnmcgbfhgmmcpaa

/-
  impl.leastSolution.
-/
namespace Go.Proofs.Ytnmcgbfhgmmcpaa
open Go.RowKit

theorem aims_calls (w : World) (u m n : Nat) (a : Option Addr) (cap : Nat) (below : Bool) (hu : u ≤ 7) (hb : below = true → m ≤ 6) (hn : n = if below then u + m + m else u + m) :
    Calls Try.prog 89 #[.agg #[.int .i64 u, .slice a m cap, .bool below]] w fun e w' => ∃ v, e = .returned v ∧ w'.ownsRow w.heap.size 125 20 v (aimsL u m n below u).length (aimV (aimsL u m n below u)) ∧ Below w.heap.size w w' := by
  rw [aimsL_length]
  cases below
  · have := aims_false w u m a cap hu
    rw [hn]; exact this
  · have := aims_true w u m a cap hu (hb rfl)
    rw [hn]; exact this

theorem aimV_get : ∀ (l : List (Nat × Nat × Int)) (i j : Nat), i < l.length → j < 20 → (aimV l)[i * 20 + j]? = (costV (l.getD i (0, 0, 0)).1 (l.getD i (0, 0, 0)).2.1 (l.getD i (0, 0, 0)).2.2)[j]?
  | [], i, _, h, _ => by simp at h
  | t :: l, 0, j, _, hj => by
    show (costV t.1 t.2.1 t.2.2 ++ aimV l)[0 * 20 + j]? = (costV t.1 t.2.1 t.2.2)[j]?
    rw [List.getElem?_append_left (by rw [costV_length]; omega), show 0 * 20 + j = j by omega]
  | t :: l, i + 1, j, h, hj => by
    show (costV t.1 t.2.1 t.2.2 ++ aimV l)[(i + 1) * 20 + j]? = _
    rw [List.getElem?_append_right (by rw [costV_length]; omega), costV_length, show (i + 1) * 20 + j - 20 = i * 20 + j by omega]
    exact aimV_get l i j (by simpa using h) hj

/-- an aim out of the list -/
theorem own_aim {w : World} {B g cap : Nat} {l : List (Nat × Nat × Int)} (h : w.ownsRow B 125 20 (.slice (some ⟨g, 0, none⟩) l.length cap) l.length (aimV l)) {i : Nat} (hi : i < l.length) :
    w.rangeAt g (i * 20) (costV (l.getD i (0, 0, 0)).1 (l.getD i (0, 0, 0)).2.1 (l.getD i (0, 0, 0)).2.2) := by
  rcases h.2 with ⟨h1, _⟩ | ⟨g', cap', cur, hv, -, hc, -, -, -, ht⟩
  · cases h1
  · simp only [Value.slice.injEq, Option.some.injEq, Addr.mk.injEq] at hv
    obtain ⟨⟨rfl, -⟩, -, -⟩ := hv
    intro j v hj
    have hj20 : j < 20 := by
      rcases Nat.lt_or_ge j 20 with h1 | h1
      · exact h1
      · rw [List.getElem?_eq_none (by rw [costV_length]; exact h1)] at hj; cases hj
    rw [cell_of_row _ _ _ _ _ _ hc, ← Array.getElem?_toList]
    have := aimV_get l i j hi hj20
    rw [← ht, List.getElem?_take_of_lt (by omega)] at this
    rw [this]; exact hj

/-- where the loop stands -/
structure LS (w wr : World) (k g cap u m n : Nat) (A : Nat → Nat → Rat) (l : List (Nat × Nat × Int)) (F : Nat → Value) (s0 : Cov.Sx) (i : Nat) (bar : Nat → Bool) (s : Cov.Sx) (C : Nat → Nat → Rat) : Prop where
  aims : Cov.Aims m n (aimC (l.take i)) (fun _ => false) s0 bar s
  good : Cov.Good m n A bar s
  sx : SxAt wr k m n C s.B bar
  rows : ∀ a, a < m → ∀ j, j ≤ n → C a j = s.T a j
  last : ∀ j, j ≤ n → Sm 41000 (C m j)
  bel : Below w.heap.size w wr
  own : wr.ownsRow (k + 1) 125 20 (.slice (some ⟨g, 0, none⟩) l.length cap) l.length (aimV l)
  arg : ArrAt wr w.heap.size 3 F

theorem aimC_succ (l : List (Nat × Nat × Int)) (i : Nat) (h : i < l.length) : aimC (l.take (i + 1)) = aimC (l.take i) ++ [rc (costF (l.getD i (0, 0, 0)).1 (l.getD i (0, 0, 0)).2.1 (l.getD i (0, 0, 0)).2.2)] := by
  unfold aimC
  rw [List.take_add_one, List.getElem?_eq_getElem h, List.getD_eq_getElem?_getD, List.getElem?_eq_getElem h]
  simp only [Option.toList_some, List.map_append, List.map_cons, List.map_nil, Option.getD_some]

theorem own_gt {w : World} {B g n s cap : Nat} {e : TypeId} {xs : List Value} (h : w.ownsRow B e s (.slice (some ⟨g, 0, none⟩) n cap) n xs) : B ≤ g ∧ g < w.heap.size := h.lt g rfl

/-- one aim more, after leastBy -/
theorem LS.step {w wr wx w' : World} {k g cap u m n : Nat} {A : Nat → Nat → Rat} {l : List (Nat × Nat × Int)} {F : Nat → Value} {s0 : Cov.Sx} {i : Nat} {bar bar' : Nat → Bool} {s s' : Cov.Sx} {C : Nat → Nat → Rat}
    (h : LS w wr k g cap u m n A l F s0 i bar s C) (hi : i < l.length) (hm : m ≤ 7) (hW : ∀ j, j ≤ n → ∀ r, r < m → Cov.Whole 1 (A j r)) (habs : ∀ t ∈ l, t.2.2.natAbs ≤ 1) (hk : w.heap.size < k) (hx : Below wr.heap.size wr wx) (hK : Kb k wx w')
    (ha : Cov.Aim m n (rc (costF (l.getD i (0, 0, 0)).1 (l.getD i (0, 0, 0)).2.1 (l.getD i (0, 0, 0)).2.2)) bar s bar' s')
    (hs : SxAt w' k m n (full m (costF (l.getD i (0, 0, 0)).1 (l.getD i (0, 0, 0)).2.1 (l.getD i (0, 0, 0)).2.2) s') s'.B bar') :
    LS w w' k g cap u m n A l F s0 (i + 1) bar' s' (full m (costF (l.getD i (0, 0, 0)).1 (l.getD i (0, 0, 0)).2.1 (l.getD i (0, 0, 0)).2.2) s') := by
  have hmem : l.getD i (0, 0, 0) ∈ l := by
    rw [List.getD_eq_getElem?_getD, List.getElem?_eq_getElem hi]
    exact List.getElem_mem _
  have hg := good_aim h.good ha
  have hwp := whole_part hg.1.inv hW hm (costF (l.getD i (0, 0, 0)).1 (l.getD i (0, 0, 0)).2.1 (l.getD i (0, 0, 0)).2.2) (costF_abs _ _ _ (habs _ hmem))
  have hown := own_below h.own hx
  have hgt := own_gt hown
  have hargx := h.arg.below (by omega) hx
  refine ⟨?_, hg.1, hs, fun a ha' j _ => ?_, fun j hj => ?_, ?_, ?_, ?_⟩
  · rw [aimC_succ l i hi]; exact aims_snoc h.aims ha
  · unfold full; rw [if_neg (by omega)]
  · unfold full; rw [if_pos rfl]; exact hwp.2 j hj m (Nat.le_refl _)
  · exact Below.trans (bt h.bel hx) (hK.below (bt h.bel hx).size (by omega))
  · exact own_move hown (fun b hb => by
      simp only [Value.ownBlock, Option.some.injEq] at hb
      subst hb
      exact hK.block g hgt.2 (by omega))
  · exact hargx.move (hK.block _ (hargx.lt (by omega)) (by omega))

end Go.Proofs.Ytnmcgbfhgmmcpaa
