import Derived.Test.YtnmcgbfhgmmcpaaW10
namespace Go.Proofs.Ytnmcgbfhgmmcpaa
open Go.RowKit

set_option maxHeartbeats 400000 in
theorem numberOf_calls (n : Int) (w : World) :
    Calls Try.prog 112 #[.int .i64 n] w fun e w' => e = .returned (.agg #[.int .i64 (n : Rat).num, .int .i64 (n : Rat).den]) ∧ Below w.heap.size w w' := by
  go_enter Try.func112, Try.ntmps112
  go_wp2_with fail
  refine (wholeV 0 0 n _).mono ?_
  rintro e w1 ⟨rfl, hb⟩
  obtain ⟨hc, hf⟩ := bcell hb
  have c0 : w1.cell? ⟨w.heap.size, 0, none⟩ = some (.int .i64 0) := (hc _ 0 (by simp; omega)).trans (by simp [go_sem])
  have c1 : w1.cell? ⟨w.heap.size, 1, none⟩ = some (.int .i64 0) := (hc _ 1 (by simp; omega)).trans (by simp [go_sem])
  have f0 : w1.frozen? ⟨w.heap.size, 0, none⟩ = false := (hf _ 0 (by simp; omega)).trans (by simp [go_sem])
  have f1 : w1.frozen? ⟨w.heap.size, 1, none⟩ = false := (hf _ 1 (by simp; omega)).trans (by simp [go_sem])
  go_wp2
  refine bodyPost_ret (v := .agg #[.int .i64 (n : Rat).num, .int .i64 (n : Rat).den]) (by simp [results, Try.results112, go_sem, c0, c1]) rfl ⟨rfl, ?_⟩
  exact ((below_alloc2 hb).setCell (Nat.le_refl _) _).setCell (Nat.le_refl _) _

/-! ### arrays of their own -/

/-- N cells of block k, from its head on -/
structure ArrAt (w : World) (k N : Nat) (f : Nat → Value) : Prop where
  cell : ∀ j, j < N → w.cell? ⟨k, j, none⟩ = some (f j)
  free : ∀ j, j < N → w.frozen? ⟨k, j, none⟩ = false

def arrV (N : Nat) (f : Nat → Value) : List Value := (List.range N).map f
theorem arrV_length (N : Nat) (f : Nat → Value) : (arrV N f).length = N := by simp [arrV]
theorem arrV_get {N : Nat} {f : Nat → Value} {j : Nat} (hj : j < N) : (arrV N f)[j]? = some (f j) := by
  unfold arrV
  rw [List.getElem?_map, List.getElem?_range hj]; rfl

theorem ArrAt.range {w : World} {k N : Nat} {f : Nat → Value} (h : ArrAt w k N f) : w.rangeAt k 0 (arrV N f) := by
  intro j v hv
  have hj : j < N := by rw [← arrV_length N f]; exact (List.getElem?_eq_some_iff.1 hv).1
  rw [arrV_get hj] at hv
  simp only [Option.some.injEq] at hv
  rw [Nat.zero_add, h.cell j hj, hv]

theorem ArrAt.there {w : World} {k N : Nat} {f : Nat → Value} (h : ArrAt w k N f) : w.there k 0 N := by
  intro j hj
  rw [Nat.zero_add, h.cell j hj]
  exact ⟨rfl, h.free j hj⟩

theorem ArrAt.set {w : World} {k N : Nat} {f : Nat → Value} (h : ArrAt w k N f) {i : Nat} (hi : i < N) (v : Value) : ArrAt (w.setCell ⟨k, i, none⟩ v) k N (fun j => if j = i then v else f j) := by
  refine ⟨fun j hj => ?_, fun j hj => by rw [World.frozen?_setCell]; exact h.free j hj⟩
  by_cases e : j = i
  · subst e; rw [if_pos rfl]; exact World.cell?_setCell_same _ _ _ (h.cell j hj)
  · rw [if_neg e, World.cell?_setCell_other _ _ _ _ (by intro e2; simp only [Addr.mk.injEq] at e2; omega)]; exact h.cell j hj

theorem ArrAt.lt {w : World} {k N : Nat} {f : Nat → Value} (h : ArrAt w k N f) (hN : 0 < N) : k < w.heap.size := World.block_lt_of_cell? w _ (h.cell 0 hN)

theorem ArrAt.move {w w' : World} {k N : Nat} {f : Nat → Value} (h : ArrAt w k N f) (hb : w'.heap[k]? = w.heap[k]?) : ArrAt w' k N f :=
  ⟨fun j hj => (World.cell?_of_block (w := w) (a := ⟨k, j, none⟩) hb).trans (h.cell j hj), fun j hj => (World.frozen?_of_block (w := w) (a := ⟨k, j, none⟩) hb).trans (h.free j hj)⟩

theorem ArrAt.stored {w : World} {k N : Nat} (f : Nat → Value) (ht : w.there k 0 N) : ArrAt (w.setCells k 0 (arrV N f)) k N f := by
  have hr := World.rangeAt_setCells_same w k 0 (arrV N f) (by rw [arrV_length]; exact ht)
  refine ⟨fun j hj => ?_, fun j hj => ?_⟩
  · have := hr j _ (arrV_get hj)
    rwa [Nat.zero_add] at this
  · have := (World.there_setCells ht k 0 (arrV N f) j hj).2
    rwa [Nat.zero_add] at this

theorem arrAt_alloc (w : World) (N : Nat) (f : Nat → Value) (t : TypeId) : ArrAt (w.alloc (.cells (arrV N f).toArray t)) w.heap.size N f := by
  have hb := heap_alloc_new w (.cells (arrV N f).toArray t)
  refine ⟨fun j hj => ?_, fun j hj => ?_⟩
  · rw [cell_of_row _ _ _ _ _ _ hb]
    simpa using arrV_get hj
  · unfold World.frozen?
    rw [hb]
    simp

/-! ### costs -/

def costF (a b : Nat) (v : Int) (j : Nat) : Int := if a ≤ j ∧ j < b then v else 0
def costV (a b : Nat) (v : Int) : List Value := arrV 20 (fun j => .int .i64 (costF a b v j))

theorem infoC : (Try.prog.info? 125).map (·.size) = some 20 := by kernel_rfl

theorem run_alloc_c (w : World) : (Instr.alloc 125 true (.tuple #[])).run Try.prog w = .ok (.pointer (some ⟨w.heap.size, 0, none⟩)) (w.alloc (.cells (arrV 20 (fun _ => .int .i64 0)).toArray 125)) := by kernel_rfl

theorem wp_alloc_c {op : Oper} {a : Act} {w : World} {K : Act → World → Prop} {Q : Exit → Act → World → Prop} (ho : op.op = .alloc 125)
    (h : K (a.put op.dst (.pointer (some ⟨w.heap.size, 0, none⟩))) (w.alloc (.cells (arrV 20 (fun _ => .int .i64 0)).toArray 125))) : op.wp Try.prog a w K Q := by
  unfold Oper.wp execOp
  simp only [ho, Sem.run_bind, Sem.run_pure, Result.andThen_ok, run_alloc_c]
  exact h

theorem wpList_alloc_c {ops : Array Oper} {rest : List Oper} {op : Oper} {a : Act} {w : World} {Q : Exit → Act → World → Prop} (hgd : op.guard = none) (ho : op.op = .alloc 125)
    (h : wpList Try.prog ops Q rest (a.put op.dst (.pointer (some ⟨w.heap.size, 0, none⟩))) (w.alloc (.cells (arrV 20 (fun _ => .int .i64 0)).toArray 125))) : wpList Try.prog ops Q (op :: rest) a w :=
  wpList_plain hgd fun _ hK => wp_alloc_c ho (hK _ _ h)

end Go.Proofs.Ytnmcgbfhgmmcpaa

namespace Go.Proofs.Ytnmcgbfhgmmcpaa
open Go.RowKit

section
variable {w : World} {k m n : Nat} {C : Nat → Nat → Rat} {B : Nat → Nat} {bar : Nat → Bool}

/-- the simplex as one value -/
def cellsOf (w : World) (k : Nat) : List Value := (List.range 350).map fun o => (w.cell? ⟨k, o, none⟩).getD undef

theorem cellsOf_length (w : World) (k : Nat) : (cellsOf w k).length = 350 := by simp [cellsOf]

theorem cellsOf_get (h : SxAt w k m n C B bar) {o : Nat} (ho : o < 350) : (cellsOf w k)[o]? = w.cell? ⟨k, o, none⟩ := by
  obtain ⟨v, h1, _⟩ := h.lay.one o ho
  have h1' : w.cell? ⟨k, o, none⟩ = some v := h1
  unfold cellsOf
  rw [List.getElem?_map, List.getElem?_range ho]
  simp [h1']

theorem cellsOf_range (h : SxAt w k m n C B bar) : w.rangeAt k 0 (cellsOf w k) := by
  intro j v hv
  have hj : j < 350 := by rw [← cellsOf_length w k]; exact (List.getElem?_eq_some_iff.1 hv).1
  rw [cellsOf_get h hj] at hv
  rw [Nat.zero_add]; exact hv

theorem cellsOf_one (h : SxAt w k m n C B bar) : ∀ v ∈ cellsOf w k, v.oneCell' = true := by
  intro v hv
  obtain ⟨j, hj, e⟩ := List.mem_iff_getElem.1 hv
  have hj' : j < 350 := by rw [← cellsOf_length w k]; exact hj
  obtain ⟨u, h1, h2⟩ := h.lay.one j hj'
  have h3 := cellsOf_get h hj'
  rw [List.getElem?_eq_getElem hj, e] at h3
  have h1' : w.cell? ⟨k, j, none⟩ = some u := h1
  rw [h1'] at h3
  simp only [Option.some.injEq] at h3
  rw [h3]; exact h2

/-- a value that is a simplex -/
def IsSx (V : Array Value) (m n : Nat) (C : Nat → Nat → Rat) (B : Nat → Nat) (bar : Nat → Bool) : Prop := V.size = 350 ∧ Lay (fun o => V[o]?) m n C B bar

theorem isSx_of (h : SxAt w k m n C B bar) : IsSx (cellsOf w k).toArray m n C B bar := by
  have hg : ∀ o, o < 350 → (cellsOf w k).toArray[o]? = w.cell? ⟨k, o, none⟩ := fun o ho => by simpa using cellsOf_get h ho
  have hm := h.lay.mle
  have hn := h.lay.nle
  refine ⟨by simp [cellsOf_length], ⟨?_, ?_, fun i j hi hj => ?_, fun i j hi hj => ?_, fun i hi => ?_, fun j hj => ?_, fun o ho => ?_, hm, hn⟩⟩
  · show _ = _; rw [hg 0 (by omega)]; exact h.lay.rows
  · show _ = _; rw [hg 1 (by omega)]; exact h.lay.cols
  · show _ = _; rw [hg _ (by omega)]; exact h.lay.num i j hi hj
  · show _ = _; rw [hg _ (by omega)]; exact h.lay.den i j hi hj
  · show _ = _; rw [hg _ (by omega)]; exact h.lay.bas i hi
  · show _ = _; rw [hg _ (by omega)]; exact h.lay.bars j hj
  · obtain ⟨v, h1, h2⟩ := h.lay.one o ho
    exact ⟨v, (hg o ho).trans h1, h2⟩

theorem IsSx.one {V : Array Value} (h : IsSx V m n C B bar) : V.all (·.oneCell') = true := by
  rw [Array.all_eq_true_iff_forall_mem]
  intro v hv
  obtain ⟨j, hj, e⟩ := Array.mem_iff_getElem.1 hv
  have hj' : j < 350 := by rw [← h.1]; exact hj
  obtain ⟨u, h1, h2⟩ := h.2.one j hj'
  have h1' : V[j]? = some u := h1
  rw [Array.getElem?_eq_getElem hj, e] at h1'
  simp only [Option.some.injEq] at h1'
  rw [h1']; exact h2

/-- stored whole into a block of that size -/
theorem IsSx.stored {V : Array Value} {b : Nat} (h : IsSx V m n C B bar) (ht : w.there b 0 350) : SxAt (w.setCells b 0 V.toList) b m n C B bar := by
  have hl : V.toList.length = 350 := by simpa using h.1
  have hr := World.rangeAt_setCells_same w b 0 V.toList (by rw [hl]; exact ht)
  have hg : ∀ o, o < 350 → ∀ v, V[o]? = some v → (w.setCells b 0 V.toList).cell? ⟨b, o, none⟩ = some v := fun o _ v hv => by
    have := hr o v (by simpa using hv)
    rwa [Nat.zero_add] at this
  have hm := h.2.mle
  have hn := h.2.nle
  refine ⟨⟨hg 0 (by omega) _ h.2.rows, hg 1 (by omega) _ h.2.cols, fun i j hi hj => hg _ (by omega) _ (h.2.num i j hi hj), fun i j hi hj => hg _ (by omega) _ (h.2.den i j hi hj), fun i hi => hg _ (by omega) _ (h.2.bas i hi), fun j hj => hg _ (by omega) _ (h.2.bars j hj), fun o ho => ?_, hm, hn⟩, fun o ho => ?_⟩
  · obtain ⟨v, h1, h2⟩ := h.2.one o ho
    exact ⟨v, hg o ho v h1, h2⟩
  · have := (World.there_setCells ht b 0 V.toList o ho).2
    rwa [Nat.zero_add] at this

theorem SxAt.setBas (h : SxAt w k m n C B bar) {i : Nat} (hi : i < m) (b : Nat) : SxAt (w.setCell ⟨k, 322 + i, none⟩ (.int .i64 (b : Nat))) k m n C (fun i' => if i' = i then b else B i') bar := by
  have hn := h.lay.nle
  have hm := h.lay.mle
  have hother : ∀ o, o ≠ 322 + i → (w.setCell ⟨k, 322 + i, none⟩ (.int .i64 (b : Nat))).cell? ⟨k, o, none⟩ = w.cell? ⟨k, o, none⟩ := fun o ho =>
    World.cell?_setCell_other _ _ _ _ (by intro e; simp only [Addr.mk.injEq] at e; omega)
  have hsame : (w.setCell ⟨k, 322 + i, none⟩ (.int .i64 (b : Nat))).cell? ⟨k, 322 + i, none⟩ = some (.int .i64 (b : Nat)) := World.cell?_setCell_same _ _ _ (h.lay.bas i hi)
  refine ⟨⟨?_, ?_, fun i' j' hi' hj' => ?_, fun i' j' hi' hj' => ?_, fun i' hi' => ?_, fun j' hj' => ?_, fun o ho => ?_, hm, hn⟩, fun o ho => by rw [World.frozen?_setCell]; exact h.free o ho⟩
  · show World.cell? _ ⟨k, 0, none⟩ = _; rw [hother 0 (by omega)]; exact h.lay.rows
  · show World.cell? _ ⟨k, 1, none⟩ = _; rw [hother 1 (by omega)]; exact h.lay.cols
  · show World.cell? _ ⟨k, 2 + i' * 40 + j' * 2, none⟩ = _; rw [hother _ (by omega)]; exact h.lay.num i' j' hi' hj'
  · show World.cell? _ ⟨k, 2 + i' * 40 + j' * 2 + 1, none⟩ = _; rw [hother _ (by omega)]; exact h.lay.den i' j' hi' hj'
  · show World.cell? _ ⟨k, 322 + i', none⟩ = _
    by_cases e : i' = i
    · subst e; rw [hsame, if_pos rfl]
    · rw [hother _ (by omega), if_neg e]; exact h.lay.bas i' hi'
  · show World.cell? _ ⟨k, 330 + j', none⟩ = _; rw [hother _ (by omega)]; exact h.lay.bars j' hj'
  · by_cases e : o = 322 + i
    · subst e; exact ⟨_, hsame, rfl⟩
    · obtain ⟨v, h1, h2⟩ := h.lay.one o ho
      exact ⟨v, (hother o e).trans h1, h2⟩
end

end Go.Proofs.Ytnmcgbfhgmmcpaa

namespace Go.Proofs.Ytnmcgbfhgmmcpaa
open Go.RowKit

theorem below_setCells' {N : Nat} {a : World} {b : Nat} (hb : N ≤ b) : ∀ (vs : List Value) (o : Nat) (w : World), Below N a w → Below N a (w.setCells b o vs)
  | [], _, _, h => h
  | v :: r, o, w, h => by
    rw [World.setCells]
    exact below_setCells' hb r (o + 1) _ (h.setCell hb v)

theorem results_cell_mid' {P : Program} {fn : Func} {p : Tmp} {ty : TypeId} (h : fn.results = #[.cell p ty]) (tmps : Array Value) (w : World) (g : Nat) (cs : List Value) (d : TypeDesc)
    (hp : tmps.getD p undef = .pointer (some ⟨g, 0, none⟩)) (hr : w.rangeAt g 0 cs) (hu : P.underlying ty = some d) (hd : d.isRow = true) (hi : (P.info? ty).map (·.size) = some cs.length) :
    (results fn tmps).run P w = .ok (.agg cs.toArray) w := by
  have hp' : tmps[p]?.getD undef = .pointer (some ⟨g, 0, none⟩) := by simpa using hp
  simp [results, h, hp', asAddr, run_loadVar_mid w g 0 ty cs d hr hu hd hi]

set_option maxRecDepth 100000 in
set_option maxHeartbeats 2000000 in
theorem costsFrom_calls (w : World) (a b : Nat) (v : Int) (hb : b ≤ 20) :
    Calls Try.prog 113 #[.int .i64 a, .int .i64 b, .int .i64 v] w fun e w' => e = .returned (.agg (costV a b v).toArray) ∧ Below w.heap.size w w' := by
  go_enter Try.func113, Try.ntmps113
  go_wp2_with (first | (refine wpList_alloc_c rfl rfl ?_))
  have h0 := arrAt_alloc w 20 (fun _ => .int .i64 0) 125
  have h1 := arrAt_alloc (w.alloc (.cells (arrV 20 (fun _ => .int .i64 0)).toArray 125)) 20 (fun _ => .int .i64 0) 125
  have ht0 : ((w.alloc (.cells (arrV 20 (fun _ => .int .i64 0)).toArray 125)).alloc (.cells (arrV 20 (fun _ => .int .i64 0)).toArray 125)).there w.heap.size 0 20 := World.there_alloc h0.there _
  rw [show (w.alloc (.cells (arrV 20 (fun _ => .int .i64 0)).toArray 125)).heap.size = w.heap.size + 1 by simp] at h1
  have hB0 : Below w.heap.size w ((w.alloc (.cells (arrV 20 (fun _ => .int .i64 0)).toArray 125)).alloc (.cells (arrV 20 (fun _ => .int .i64 0)).toArray 125)) := ((Below.refl _ _).alloc (Nat.le_refl _) _).alloc (by simp) _
  generalize (w.alloc (.cells (arrV 20 (fun _ => .int .i64 0)).toArray 125)).alloc (.cells (arrV 20 (fun _ => .int .i64 0)).toArray 125) = W at *
  clear h0
  go_loopw [8] (fun t wr => ∃ j : Nat, a ≤ j ∧ (j ≤ b ∨ j = a) ∧ t = .int .i64 j ∧ Below w.heap.size w wr ∧ wr.there w.heap.size 0 20 ∧ ArrAt wr (w.heap.size + 1) 20 (fun i => .int .i64 (costF a j v i))) (fun t _ => b - (intOf t).toNat)
  case atStart => exact ⟨a, Nat.le_refl _, Or.inr rfl, rfl, hB0, ht0, ⟨fun j hj => (h1.cell j hj).trans (by unfold costF; rw [if_neg (by omega)]), h1.free⟩⟩
  case round =>
    obtain ⟨j, hj, hjb, rfl, hBr, hTr, hAr⟩ := hrel
    clear hB0 ht0 h1
    by_cases hlt : j < b
    · have i1 : (j : Int) < (b : Int) := by omega
      have i2 : (j : Int) < 20 := by omega
      have c1 : wr.cell? ⟨w.heap.size + 1, j, none⟩ = some (.int .i64 (costF a j v j)) := hAr.cell j (by omega)
      have f1 : wr.frozen? ⟨w.heap.size + 1, j, none⟩ = false := hAr.free j (by omega)
      go_wp2_with fail
      go_roundw
      case rel =>
        refine ⟨j + 1, by omega, by omega, by go_num, hBr.setCell (by simp) _, World.there_setCells hTr (w.heap.size + 1) j [.int .i64 v], ⟨fun i hi => ((hAr.set (by omega) _).cell i hi).trans ?_, (hAr.set (by omega) _).free⟩⟩
        unfold costF
        by_cases e : i = j
        · rw [if_pos e, if_pos (by omega)]
        · rw [if_neg e]
          by_cases e2 : a ≤ i ∧ i < j
          · rw [if_pos e2, if_pos (by omega)]
          · rw [if_neg e2, if_neg (by omega)]
      case measure => simp [intOf]; omega
    · have i1 : ¬ ((j : Int) < (b : Int)) := by omega
      have hcost : (arrV 20 (fun i => .int .i64 (costF a j v i))) = costV a b v := by
        unfold costV arrV
        refine List.map_congr_left (fun i hi => ?_)
        unfold costF
        by_cases e : a ≤ i ∧ i < j
        · rw [if_pos e, if_pos (by omega)]
        · rw [if_neg e, if_neg (by omega)]
      have HR : Hid (wr.rangeAt (w.heap.size + 1) 0 (costV a b v)) := by rw [← hcost]; exact hAr.range
      have hlen : (costV a b v).length = 20 := arrV_length _ _
      have HT : Hid (wr.there w.heap.size 0 (costV a b v).toArray.size) := by
        rw [show (costV a b v).toArray.size = 20 by simpa using hlen]; exact hTr
      have HI : Hid ((Try.prog.info? 125).map (·.size) = some (costV a b v).length) := by
        show _ = _
        rw [hlen]; exact infoC
      have HJ : Hid ((Try.prog.info? 125).map (·.size) = some (costV a b v).toArray.size) := by
        show _ = _
        rw [show (costV a b v).toArray.size = 20 by simpa using hlen]; exact infoC
      have HO : Hid ((costV a b v).toArray.all (·.oneCell') = true) := all_oneCell_toArray (fun u hu => by
        obtain ⟨i, _, rfl⟩ := List.mem_map.1 hu
        rfl)
      clear hcost
      generalize hcz : costV a b v = cz at *
      go_wp2_with (first | (refine wpList_load_mid rfl 125 _ rfl (w.heap.size + 1) 0 (by rfl) cz _ (by exact HR.out) Try.underlying125 (by rfl) (by exact HI.out) ?_) | (refine wpList_store_mid rfl 125 _ _ rfl w.heap.size 0 cz.toArray (by rfl) (by rfl) (by exact HT.out) (by exact HJ.out) (by exact HO.out) ?_))
      have hr6 : (wr.setCells w.heap.size 0 cz.toArray.toList).rangeAt w.heap.size 0 cz := by
        have := World.rangeAt_setCells_same wr w.heap.size 0 cz.toArray.toList (by have := HT.out; simpa using this)
        simpa using this
      refine bodyPost_ret (v := .agg cz.toArray) (results_cell_mid' Try.results113 _ _ w.heap.size cz _ (by rfl) hr6 Try.underlying125 (by rfl) HI.out) rfl ⟨rfl, below_setCells' (Nat.le_refl _) _ _ _ hBr⟩

end Go.Proofs.Ytnmcgbfhgmmcpaa

namespace Go.Proofs.Ytnmcgbfhgmmcpaa
open Go.RowKit

/-- the costs that are left behind i rows -/
def part (cost : Nat → Int) (C : Nat → Nat → Rat) (B : Nat → Nat) (j i : Nat) : Rat := ((cost j : Int) : Rat) - Cov.sm i (fun i' => ((cost (B i') : Int) : Rat) * C i' j)

/-- row m below column j is priced -/
def priced (cost : Nat → Int) (C : Nat → Nat → Rat) (B : Nat → Nat) (m j : Nat) : Nat → Nat → Rat := fun a b => if a = m ∧ b < j then part cost C B b m else C a b

theorem part_skip {cost : Nat → Int} {C : Nat → Nat → Rat} {B : Nat → Nat} {j i : Nat} (h : cost (B i) = 0) : part cost C B j (i + 1) = part cost C B j i := by
  unfold part
  show _ - (Cov.sm i _ + ((cost (B i) : Int) : Rat) * C i j) = _
  rw [h]
  have : ((0 : Int) : Rat) = 0 := rfl
  rw [this]; grind

theorem part_next {cost : Nat → Int} {C : Nat → Nat → Rat} {B : Nat → Nat} {j i : Nat} : part cost C B j (i + 1) = part cost C B j i - C i j * ((cost (B i) : Int) : Rat) := by
  unfold part
  show _ - (Cov.sm i _ + ((cost (B i) : Int) : Rat) * C i j) = _
  grind

theorem sm_int {n : Int} (h : n.natAbs ≤ 1) : Sm 1 ((n : Int) : Rat) := by
  refine ⟨?_, ?_⟩
  · simpa using h
  · simp

theorem Kb.own {k : Nat} {w w' : World} (h : Kb k w w') {a : Nat} (ha : w.heap.size ≤ a) (o : Nat) (v : Value) : Kb k w (w'.setCell ⟨a, o, none⟩ v) :=
  ⟨h.os, h.tape, h.output, by simpa [World.setCell] using h.size, fun b hb hne => (Below.heap_setCell _ _ _ _ (by simp; omega)).trans (h.block b hb hne)⟩

theorem Kb.step {k : Nat} {w a b : World} (h : Kb k w a) (g : Below a.heap.size a b) : Kb k w b := h.trans (Kb.of_below g)

/-- a variable that holds q -/
structure RatAt (w : World) (p : Nat) (q : Rat) : Prop where
  num : w.cell? ⟨p, 0, none⟩ = some (.int .i64 q.num)
  den : w.cell? ⟨p, 1, none⟩ = some (.int .i64 q.den)
  f0 : w.frozen? ⟨p, 0, none⟩ = false
  f1 : w.frozen? ⟨p, 1, none⟩ = false

theorem RatAt.lt {w : World} {p : Nat} {q : Rat} (h : RatAt w p q) : p < w.heap.size := World.block_lt_of_cell? w _ h.num
theorem RatAt.move {w w' : World} {p : Nat} {q : Rat} (h : RatAt w p q) (hb : w'.heap[p]? = w.heap[p]?) : RatAt w' p q :=
  ⟨(World.cell?_of_block (w := w) (a := ⟨p, 0, none⟩) hb).trans h.num, (World.cell?_of_block (w := w) (a := ⟨p, 1, none⟩) hb).trans h.den, (World.frozen?_of_block (w := w) (a := ⟨p, 0, none⟩) hb).trans h.f0, (World.frozen?_of_block (w := w) (a := ⟨p, 1, none⟩) hb).trans h.f1⟩
theorem RatAt.below {w w' : World} {p : Nat} {q : Rat} (h : RatAt w p q) (hb : Below w.heap.size w w') : RatAt w' p q := h.move (hb.block p h.lt)
theorem RatAt.set {w : World} {p : Nat} {q : Rat} (h : RatAt w p q) (r : Rat) : RatAt ((w.setCell ⟨p, 0, none⟩ (.int .i64 r.num)).setCell ⟨p, 1, none⟩ (.int .i64 r.den)) p r :=
  ⟨by rw [World.cell?_setCell_other _ _ _ _ (by simp), World.cell?_setCell_same _ _ _ h.num], World.cell?_setCell_same _ _ _ (by rw [World.cell?_setCell_other _ _ _ _ (by simp)]; exact h.den),
    by rw [World.frozen?_setCell, World.frozen?_setCell]; exact h.f0, by rw [World.frozen?_setCell, World.frozen?_setCell]; exact h.f1⟩
theorem ratAt_alloc (w : World) (q : Rat) (t : TypeId) : RatAt (w.alloc (.cells #[.int .i64 q.num, .int .i64 q.den] t)) w.heap.size q :=
  ⟨by simp [go_sem], by simp [go_sem], by simp [go_sem], by simp [go_sem]⟩
theorem ArrAt.below {w w' : World} {k N : Nat} {f : Nat → Value} (h : ArrAt w k N f) (hN : 0 < N) (hb : Below w.heap.size w w') : ArrAt w' k N f := h.move (hb.block k (h.lt hN))

theorem ratAt_allocI (w : World) (c : Int) (t : TypeId) : RatAt (w.alloc (.cells #[.int .i64 c, .int .i64 1] t)) w.heap.size (c : Rat) := ratAt_alloc w (c : Rat) t

theorem numberI (n : Int) (w : World) :
    Calls Try.prog 112 #[.int .i64 n] w fun e w' => e = .returned (.agg #[.int .i64 n, .int .i64 1]) ∧ Below w.heap.size w w' := numberOf_calls n w

theorem timesI (p : Rat) (c : Int) (w : World) {B C : Nat} (hp : Sm B p) (hq : Sm C (c : Rat)) (h : B * C ≤ 4500000000000000000) :
    Calls Try.prog 142 #[.agg #[.int .i64 p.num, .int .i64 p.den], .agg #[.int .i64 c, .int .i64 1]] w fun e w' => e = .returned (.agg #[.int .i64 (p * (c : Rat)).num, .int .i64 (p * (c : Rat)).den]) ∧ Below w.heap.size w w' := timesV p (c : Rat) w hp hq h

/-- all that a round of price holds on to -/
structure PrC (w wr : World) (k m n : Nat) (C : Nat → Nat → Rat) (B : Nat → Nat) (bar : Nat → Bool) (cost : Nat → Int) : Prop where
  kb : Kb k w wr
  sx : SxAt wr k m n C B bar
  ar : ArrAt wr w.heap.size 20 (fun j => .int .i64 (cost j))

theorem PrC.below {w wr w' : World} {k m n : Nat} {C : Nat → Nat → Rat} {B : Nat → Nat} {bar : Nat → Bool} {cost : Nat → Int} (h : PrC w wr k m n C B bar cost) (hb : Below wr.heap.size wr w') : PrC w w' k m n C B bar cost :=
  ⟨h.kb.step hb, h.sx.below hb, h.ar.below (by omega) hb⟩
theorem PrC.alloc {w wr : World} {k m n : Nat} {C : Nat → Nat → Rat} {B : Nat → Nat} {bar : Nat → Bool} {cost : Nat → Int} (h : PrC w wr k m n C B bar cost) (o : Obj) : PrC w (wr.alloc o) k m n C B bar cost :=
  h.below ((Below.refl _ _).alloc (Nat.le_refl _) _)
theorem PrC.own {w wr : World} {k m n : Nat} {C : Nat → Nat → Rat} {B : Nat → Nat} {bar : Nat → Bool} {cost : Nat → Int} (h : PrC w wr k m n C B bar cost) {a o : Nat} (v : Value) (ha : w.heap.size < a) (hk : k < w.heap.size) : PrC w (wr.setCell ⟨a, o, none⟩ v) k m n C B bar cost :=
  ⟨h.kb.own (by omega) _ _, h.sx.far _ (by omega), h.ar.move (Below.heap_setCell _ _ _ _ (by simp; omega))⟩

set_option maxRecDepth 100000 in
set_option maxHeartbeats 6000000 in
theorem price_calls (w : World) (k m n : Nat) (C : Nat → Nat → Rat) (B : Nat → Nat) (bar : Nat → Bool) (h : SxAt w k m n C B bar) (cost : Nat → Int) (hcost : ∀ j, (cost j).natAbs ≤ 1) (hBn : ∀ i, i < m → B i < n)
    (hsm : ∀ a b, a ≤ m → b ≤ n → Sm 41000 (C a b)) (hpart : ∀ j i, j ≤ n → i ≤ m → Sm 41000 (part cost C B j i)) :
    Calls Try.prog 114 #[.pointer (some ⟨k, 0, none⟩), .agg (arrV 20 (fun j => .int .i64 (cost j))).toArray] w fun e w' => e = .returned (.tuple #[]) ∧ Kb k w w' ∧ SxAt w' k m n (priced cost C B m (n + 1)) B bar := by
  have hn := h.lay.nle
  have hm := h.lay.mle
  have hklt := h.lt
  have S1 := hid hsm
  have P1 := hid hpart
  have K1 := hid hcost
  have N1 := hid hBn
  clear hsm hpart hcost hBn
  go_enter Try.func114, Try.ntmps114
  go_upto_region 1 with fail
  have hP0 : PrC w (w.alloc (.cells (arrV 20 (fun j => .int .i64 (cost j))).toArray 125)) k m n C B bar cost := ⟨Kb.of_below ((Below.refl _ _).alloc (Nat.le_refl _) _), h.alloc _, arrAt_alloc w 20 _ _⟩
  generalize w.alloc (.cells (arrV 20 (fun j => .int .i64 (cost j))).toArray 125) = W at *
  have hcols : W.cell? ⟨k, 1, none⟩ = some (.int .i64 n) := hP0.sx.lay.cols
  go_wp2_with fail
  go_loopw [13] (fun t wr => ∃ j : Nat, j ≤ n + 1 ∧ t = .int .i64 j ∧ PrC w wr k m n (priced cost C B m j) B bar cost) (fun t _ => n + 1 - (intOf t).toNat)
  case atStart => exact ⟨0, Nat.zero_le _, rfl, hP0.kb, hP0.sx.congr (fun _ _ _ _ => if_neg (by omega)) (fun _ _ => rfl) (fun _ _ => rfl), hP0.ar⟩
  case round =>
    obtain ⟨j, hj, rfl, hP⟩ := hrel
    clear hP0 hcols
    by_cases hlt : j < n + 1
    · have i1 : (j : Int) < (n : Int) + 1 := by omega
      have i2 : (j : Int) < 20 := by omega
      have c1 : wr.cell? ⟨w.heap.size, j, none⟩ = some (.int .i64 (cost j)) := hP.ar.cell j (by omega)
      go_wp2_with fail
      refine (numberI (cost j) _).mono ?_
      rintro e w1 ⟨rfl, hb1⟩
      have hP1 := (hP.below hb1).alloc (.cells #[.int .i64 (cost j), .int .i64 1] 80)
      have hR1 := ratAt_allocI w1 (cost j) 80
      have hlt1 : w.heap.size < w1.heap.size := Nat.lt_of_lt_of_le (hP.ar.lt (by omega)) hb1.size
      clear hP c1
      go_upto_region 5 with fail
      generalize hp : w1.heap.size = p at *
      generalize w1.alloc (.cells #[.int .i64 (cost j), .int .i64 1] 80) = W1 at *
      clear hp hb1
      clear w1
      have hrows : W1.cell? ⟨k, 0, none⟩ = some (.int .i64 m) := hP1.sx.lay.rows
      obtain ⟨wo, rfl⟩ : ∃ wo : World, wo = W1 := ⟨_, rfl⟩
      go_wp2_with fail
      go_loopw [24] (fun t wi => ∃ i : Nat, i ≤ m ∧ t = .int .i64 i ∧ PrC w wi k m n (priced cost C B m j) B bar cost ∧ RatAt wi p (part cost C B j i)) (fun t _ => m - (intOf t).toNat)
      case atStart => exact ⟨0, Nat.zero_le _, rfl, hP1, by unfold part; rw [show ((cost j : Int) : Rat) - Cov.sm 0 (fun i' => ((cost (B i') : Int) : Rat) * C i' j) = ((cost j : Int) : Rat) by show _ - (0 : Rat) = _; grind]; exact hR1⟩
      case round =>
        obtain ⟨i, hi, rfl, hPi, hRi⟩ := hrel
        clear hP1 hR1 hrows
        by_cases hli : i < m
        · have i3 : (i : Int) < (m : Int) := by omega
          have i4 : (i : Int) < 8 := by omega
          have hBi : B i < n := N1.out i hli
          have i5 : ((B i : Nat) : Int) < 20 := by omega
          have b1 : wr.cell? ⟨k, 322 + i, none⟩ = some (.int .i64 (B i : Nat)) := hPi.sx.lay.bas i hli
          have b2 : wr.cell? ⟨w.heap.size, B i, none⟩ = some (.int .i64 (cost (B i))) := hPi.ar.cell (B i) (by omega)
          by_cases hz : cost (B i) = 0
          · have hz1 : (cost (B i) != 0) = false := by simpa using hz
            have HZ := hid hz
            clear hz
            go_wp2_with fail
            go_roundw
            case rel => exact ⟨i + 1, by omega, by go_num, hPi, by rw [part_skip HZ.out]; exact hRi⟩
            case measure => simp [intOf]; omega
          · have hz1 : (cost (B i) != 0) = true := by simpa using hz
            obtain ⟨r1, r2, r3, r4⟩ := hRi
            have a1 : wr.cell? ⟨k, 2 + i * 40 + j * 2, none⟩ = some (.int .i64 (priced cost C B m j i j).num) := hPi.sx.lay.num i j (by omega) (by omega)
            have a2 : wr.cell? ⟨k, 2 + i * 40 + j * 2 + 1, none⟩ = some (.int .i64 (priced cost C B m j i j).den) := hPi.sx.lay.den i j (by omega) (by omega)
            rw [show priced cost C B m j i j = C i j from if_neg (by omega)] at a1 a2
            have X1 := hid (S1.out i j (by omega) (by omega))
            have X2 := hid (sm_int (K1.out (B i)))
            have X3 := hid (X1.out.mul X2.out)
            have X4 := hid (P1.out j i (by omega) (by omega))
            have hk0 : k < wr.heap.size := hPi.sx.lt
            have hp0 : p < wr.heap.size := World.block_lt_of_cell? wr _ r1
            clear hz b1 b2
            have b1 : wr.cell? ⟨k, 322 + i, none⟩ = some (.int .i64 (B i : Nat)) := hPi.sx.lay.bas i hli
            have b2 : wr.cell? ⟨w.heap.size, B i, none⟩ = some (.int .i64 (cost (B i))) := hPi.ar.cell (B i) (by omega)
            go_upto_region 10 with fail
            clear b1 b2
            go_region_with (first | (go_at_call 112; refine (numberI (cost (B i)) _).mono ?_; rintro e wA ⟨rfl, hbA⟩; obtain ⟨hcA, hfA⟩ := bcell hbA; have hpA : p < wA.heap.size := Nat.lt_of_lt_of_le hp0 hbA.size; have sA1 : wA.cell? ⟨k, 2 + i * 40 + j * 2, none⟩ = some (.int .i64 (C i j).num) := (hcA k _ hk0).trans a1; have sA2 : wA.cell? ⟨k, 2 + i * 40 + j * 2 + 1, none⟩ = some (.int .i64 (C i j).den) := (hcA k _ hk0).trans a2; have tA0 : wA.cell? ⟨p, 0, none⟩ = some (.int .i64 (part cost C B j i).num) := (hcA p 0 hp0).trans r1; have tA1 : wA.cell? ⟨p, 1, none⟩ = some (.int .i64 (part cost C B j i).den) := (hcA p 1 hp0).trans r2; have tA2 : wA.frozen? ⟨p, 0, none⟩ = false := (hfA p 0 hp0).trans r3; have tA3 : wA.frozen? ⟨p, 1, none⟩ = false := (hfA p 1 hp0).trans r4; clear hcA hfA) | (go_at_call 142; refine (timesI (C i j) (cost (B i)) _ X1.out X2.out (by decide)).mono ?_; rintro e wB ⟨rfl, hbB⟩; obtain ⟨hcB, hfB⟩ := bcell hbB; have hpB : p < wB.heap.size := Nat.lt_of_lt_of_le hpA hbB.size; have tB0 : wB.cell? ⟨p, 0, none⟩ = some (.int .i64 (part cost C B j i).num) := (hcB p 0 hpA).trans tA0; have tB1 : wB.cell? ⟨p, 1, none⟩ = some (.int .i64 (part cost C B j i).den) := (hcB p 1 hpA).trans tA1; have tB2 : wB.frozen? ⟨p, 0, none⟩ = false := (hfB p 0 hpA).trans tA2; have tB3 : wB.frozen? ⟨p, 1, none⟩ = false := (hfB p 1 hpA).trans tA3; clear hcB hfB) | (go_at_call 53; refine (minusV (part cost C B j i) (C i j * ((cost (B i) : Int) : Rat)) _ X4.out X3.out (by decide)).mono ?_; rintro e wC ⟨rfl, hbC⟩; obtain ⟨hcC, hfC⟩ := bcell hbC; have q0 : wC.cell? ⟨p, 0, none⟩ = some (.int .i64 (part cost C B j i).num) := (hcC p 0 hpB).trans tB0; have q1 : wC.cell? ⟨p, 1, none⟩ = some (.int .i64 (part cost C B j i).den) := (hcC p 1 hpB).trans tB1; have q2 : wC.frozen? ⟨p, 0, none⟩ = false := (hfC p 0 hpB).trans tB2; have q3 : wC.frozen? ⟨p, 1, none⟩ = false := (hfC p 1 hpB).trans tB3; clear hcC hfC))
            all_goals
              have hbb : Below wr.heap.size wr wC := bt (bt ((Below.refl _ _).drew.trans hbA) hbB) hbC
              have hPn := ((hPi.below hbb).own (a := p) (o := 0) (.int .i64 (part cost C B j i - C i j * ((cost (B i) : Int) : Rat)).num) hlt1 hklt).own (a := p) (o := 1) (.int .i64 (part cost C B j i - C i j * ((cost (B i) : Int) : Rat)).den) hlt1 hklt
              have hRn := (RatAt.mk q0 q1 q2 q3).set (part cost C B j i - C i j * ((cost (B i) : Int) : Rat))
              go_wp2_with fail
              go_roundw
              case rel => exact ⟨i + 1, by omega, by go_num, hPn, by rw [part_next]; exact hRn⟩
              case measure => simp [intOf]; omega
        · obtain rfl : i = m := by omega
          have i3 : ¬ ((i : Int) < (i : Int)) := by omega
          have hrow : wr.cell? ⟨k, 0, none⟩ = some (.int .i64 i) := hPi.sx.lay.rows
          have a1 : wr.cell? ⟨k, 2 + i * 40 + j * 2, none⟩ = some (.int .i64 (priced cost C B i j i j).num) := hPi.sx.lay.num i j (by omega) (by omega)
          have a2 : wr.cell? ⟨k, 2 + i * 40 + j * 2 + 1, none⟩ = some (.int .i64 (priced cost C B i j i j).den) := hPi.sx.lay.den i j (by omega) (by omega)
          have g1 : wr.frozen? ⟨k, 2 + i * 40 + j * 2, none⟩ = false := hPi.sx.free _ (by omega)
          have g2 : wr.frozen? ⟨k, 2 + i * 40 + j * 2 + 1, none⟩ = false := hPi.sx.free _ (by omega)
          have i6 : (i : Int) < 8 := by omega
          have r1 := hRi.num
          have r2 := hRi.den
          go_upto_region 12 with fail
          go_region
          go_wp2_with fail
          go_roundw
          case rel =>
            refine ⟨j + 1, by omega, by go_num, ?_, ?_, ?_⟩
            · exact ((hPi.kb.set _ _).set _ _).drew
            · refine ((hPi.sx.setNum (Nat.le_refl _) (show j ≤ n by omega) (part cost C B j i)).congr (fun a b _ _ => ?_) (fun _ _ => rfl) (fun _ _ => rfl)).drew
              unfold priced
              by_cases e : a = i ∧ b = j
              · rw [if_pos e, if_pos (by omega), e.2]
              · rw [if_neg e]
                by_cases e2 : a = i ∧ b < j
                · rw [if_pos e2, if_pos (by omega)]
                · rw [if_neg e2, if_neg (by omega)]
            · exact hPi.ar.move (by show ((wr.setCell _ _).setCell _ _).heap[w.heap.size]? = _; rw [Below.heap_setCell _ _ _ _ (by simp; omega), Below.heap_setCell _ _ _ _ (by simp; omega)])
          case measure => simp [intOf]; omega
    · obtain rfl : j = n + 1 := by omega
      have i1 : ¬ ((n : Int) + 1 < (n : Int) + 1) := by omega
      go_wp2
      go_end0
      exact ⟨rfl, hP.kb, hP.sx⟩

end Go.Proofs.Ytnmcgbfhgmmcpaa
