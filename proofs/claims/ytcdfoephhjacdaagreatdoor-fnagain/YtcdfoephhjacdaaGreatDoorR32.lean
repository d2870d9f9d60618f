import Derived.Laws.Tables
import Derived.Lib.BufferWrite
import Derived.Lib.UnsafeStr
import Derived.Test.YtcdfoephhjacdaaGreatDoorR02
import Derived.Test.YtcdfoephhjacdaaGreatDoorR31
/-
  strings.Clone: the same text.
-/
namespace Go.Proofs.YtcdfoephhjacdaaGreatDoor
open Go.RowKit

theorem Tryz.cellsU8P : Tryz.prog.cellsOf 5 = 1 := by kernel_rfl
theorem Tryz.sizeU8P : (Tryz.prog.info? 5).map (·.size) = some 1 := by kernel_rfl

/-- the row that a text is copied into, and what it holds then -/
theorem copied_rowP (w : World) (s : ByteArray) : ∃ Y : Array Value,
    (Builtin.copy_ #[22, 9] 3 #[.slice (some ⟨w.heap.size, 0, none⟩) s.size s.size, .string s]).run Tryz.prog (w.alloc (.cells (madeCells #[.int .u8 0] s.size) 5)) = .ok (goInt s.size) ((w.alloc (.cells (madeCells #[.int .u8 0] s.size) 5)).setRow w.heap.size Y) ∧
    Y.size = s.size ∧ Y.toList = Lib.byteCells s.data.toList ∧ ((w.alloc (.cells (madeCells #[.int .u8 0] s.size) 5)).setRow w.heap.size Y).heap[w.heap.size]? = some (.cells Y 5 (0, 0)) := by
  have hl : (madeCells #[Value.int .u8 0] s.size).size = s.size := by rw [size_madeCells]
  refine ⟨_, Lib.run_copy_row_string (P := Tryz.prog) _ 22 9 3 5 w.heap.size 0 s.size s.size s _ 5 Tryz.underlying22 Tryz.sizeU8P (heap_alloc_new w _) (Nat.le_refl _) (by omega), ?_, ?_, setRow_heap _ _ _ _ 5 (0, 0) (heap_alloc_new w _)⟩
  · simp [Lib.byteCells_length, hl]
  · simp [hl]

set_option maxHeartbeats 4000000 in
set_option maxRecDepth 100000 in
theorem sliteCloneP_calls (s : ByteArray) (w : World) (hs : s.size ≤ 281474976710656) :
    Calls Tryz.prog 92 #[.string s] w fun e w' => e = .returned (.string s) ∧ Below w.heap.size w w' := by
  by_cases h0 : s.size = 0
  · obtain rfl : s = ⟨#[]⟩ := ByteArray.ext (Array.eq_empty_of_size_eq_zero h0)
    go_enter Tryz.func92, Tryz.ntmps92
    go_wp2
    go_ret
    exact ⟨rfl, Below.refl _ _⟩
  · have i0 : ¬ ((s.size : Int) = 0) := by omega
    have i1 : (0 : Int) < (s.size : Int) := by omega
    have hmk := run_make_row' (P := Tryz.prog) 22 5 (.int .u8 0) 1 Tryz.underlying22 (by kernel_rfl) rfl .i64 .i64 s.size (by omega) (by omega)
    obtain ⟨Y, hcp, hYs, hYl, hgY⟩ := copied_rowP w s
    have hne : s.data.toList ≠ [] := fun e => h0 (by rw [Lib.size_eq, e]; rfl)
    have hus := Lib.run_unsafeString_row (P := Tryz.prog) ((w.alloc (.cells (madeCells #[.int .u8 0] s.size) 5)).setRow w.heap.size Y) 104 3 9 5 Tryz.underlying104 Tryz.cellsU8P w.heap.size Y.size (by unfold World.shape?; rw [hgY]) s.data.toList hne (by rw [← Lib.size_eq]; omega) (by rw [← Lib.size_eq]; omega)
      (fun j x hx => Lib.cells_of_row hgY Y.size j _ (by rw [List.take_of_length_le (by rw [Array.length_toList]; exact Nat.le_refl _), hYl]; simp [Lib.byteCells, hx]))
    rw [← Lib.size_eq] at hus
    have hb1 : Below w.heap.size w (w.alloc (.cells (madeCells #[.int .u8 0] s.size) 5)) := (Below.refl _ w).alloc (Nat.le_refl _) _
    have hb2 : Below w.heap.size (w.alloc (.cells (madeCells #[.int .u8 0] s.size) 5)) ((w.alloc (.cells (madeCells #[.int .u8 0] s.size) 5)).setRow w.heap.size Y) := ⟨rfl, rfl, rfl, by simp, fun k hk => setRow_other _ _ _ _ (by omega)⟩
    have HB := hid (Lib.below_freeze (hb1.trans hb2) (p := ⟨w.heap.size, 0, none⟩) (Nat.le_refl _) s.size)
    clear hb1 hb2
    clear hYs hYl hgY
    go_enter Tryz.func92, Tryz.ntmps92
    go_wp2
    go_ret
    exact ⟨rfl, HB.out⟩

theorem cloneTx_calls (s : ByteArray) (w : World) (hs : s.size ≤ 281474976710656) :
    Calls Tryz.prog 62 #[.string s] w fun e w' => e = .returned (.string s) ∧ Below w.heap.size w w' := by
  have K := hid (sliteCloneP_calls s w hs)
  go_enter Tryz.func62, Tryz.ntmps62
  go_wp2_with (first | (go_at_call 92; refine K.out.mono ?_; rintro e w' ⟨rfl, hb⟩) | fail)
  go_ret
  exact ⟨rfl, hb⟩

end Go.Proofs.YtcdfoephhjacdaaGreatDoor

/-
  One relation more.
-/
namespace Go.Proofs.YtcdfoephhjacdaaGreatDoor
open Go.RowKit Go.Maps

/-- blocks of texts stand -/
def KeepS (W W' : World) : Prop := ∀ (k : Nat) (cur : Array Value), W.heap[k]? = some (.cells cur 9 (0, 0)) → W'.heap[k]? = W.heap[k]?
theorem KeepS.of {W W' : World} (h : ∀ k, k < W.heap.size → W'.heap[k]? = W.heap[k]?) : KeepS W W' := fun k _ hk => h k (heap_lt hk)
theorem KeepS.below {W W' : World} (h : Below W.heap.size W W') : KeepS W W' := KeepS.of fun k hk => h.block k hk
theorem KeepS.trans {a b c : World} (h : KeepS a b) (k : KeepS b c) : KeepS a c := fun j cur hj => by
  have h1 := h j cur hj
  exact (k j cur (h1.trans hj)).trans h1

section
variable {W0 W1 w4 : World} {B R bP : Nat} {st : List RdV} {vR v' : Value} {rb mb : Nat → Nat} {DD : Nat → DataW Unit} {nm : ByteArray} {ar : Nat} {o : Obj}
theorem RdI.add (h : RdI W0 B R st vR bP rb mb DD) (hg : W0.grownBy W1 (some bP)) (hp : PlcM W1 bP (st.map RdV.nm ++ [nm]))
    (hown : w4.ownsRow B 98 1 v' (st.length + 1) ((List.range st.length).map (fun i => .pointer (some ⟨rb i, 0, none⟩)) ++ [.pointer (some ⟨W1.heap.size + 1, 0, none⟩)]))
    (hg4 : (((W1.alloc (.map #[] 0)).alloc (.cells #[.string nm, .int .i64 (ar : Int), .map (some W1.heap.size)] 137)).alloc o).grownBy w4 vR.ownBlock) :
    RdI (w4.setCell ⟨R, 0, none⟩ v') B R (st ++ [⟨nm, ar, []⟩]) v' bP (fun i => if i = st.length then W1.heap.size + 1 else rb i) (fun i => if i = st.length then W1.heap.size else mb i) (fun i => if i = st.length then .map [] else DD i) ∧ Below B W0 (w4.setCell ⟨R, 0, none⟩ v') := by
  obtain ⟨esP, cP, hbP⟩ := h.num.blk
  have hB0 : B ≤ W0.heap.size := Nat.le_trans h.lo.1 (Nat.le_of_lt (heap_lt h.blk))
  have hs1 := hg.size
  have hk1 : ∀ k, k < W0.heap.size → k ≠ bP → W1.heap[k]? = W0.heap[k]? := fun k hk hne => hg.block k hk (fun e => hne (Option.some.inj e))
  have hown1 : W1.ownsRow B 98 1 vR st.length ((List.range st.length).map fun i => .pointer (some ⟨rb i, 0, none⟩)) := own_keepH h.own fun g ⟨cur, hc⟩ => hk1 g (heap_lt hc) (fun e => by rw [e, hbP] at hc; cases hc)
  have hk4 : ∀ k, k < W1.heap.size → some k ≠ vR.ownBlock → w4.heap[k]? = W1.heap[k]? := fun k hk hne => by
    rw [hg4.block k (by simp; omega) hne, Below.heap_alloc _ _ k (by simp; omega), Below.heap_alloc _ _ k (by simp; omega), Below.heap_alloc _ _ k hk]
  have hne1 : ∀ {k : Nat} {ob : Obj}, W1.heap[k]? = some ob → (∀ cur, ob ≠ .cells cur 98 (0, 0)) → some k ≠ vR.ownBlock := fun {k ob} hk hno e => by
    obtain ⟨cur, hc⟩ := own_typ hown1 e.symm
    rw [hk] at hc
    exact hno cur (Option.some.inj hc)
  have hR1 : W1.heap[R]? = some (.cells #[vR, .map (some bP)] 62 (0, 0)) := (hk1 R (heap_lt h.blk) (fun e => by have hb := h.blk; rw [e, hbP] at hb; cases hb)).trans h.blk
  have hR4 : w4.heap[R]? = some (.cells #[vR, .map (some bP)] 62 (0, 0)) := (hk4 R (heap_lt hR1) (hne1 hR1 (fun cur e => by simp only [Obj.cells.injEq] at e; exact absurd e.2.1 (by decide)))).trans hR1
  have hset : ∀ k, k ≠ R → (w4.setCell ⟨R, 0, none⟩ v').heap[k]? = w4.heap[k]? := fun k hk => Below.heap_setCell _ _ _ _ hk
  have hmap4 : ∀ {k : Nat} {es : Array MapEntry} {c : Nat}, W1.heap[k]? = some (.map es c) → (w4.setCell ⟨R, 0, none⟩ v').heap[k]? = some (.map es c) := fun {k es c} hk => by
    rw [hset k (fun e => by rw [e, hR1] at hk; cases hk), hk4 k (heap_lt hk) (hne1 hk (fun cur e => by cases e)), hk]
  have hnew : w4.heap[W1.heap.size]? = some (.map #[] 0) := by
    have e0 : (W1.alloc (.map #[] 0)).heap[W1.heap.size]? = some (.map #[] 0) := World.alloc_heap_new _ _
    rw [hg4.block _ (by simp; omega) (fun e => ?_), Below.heap_alloc _ _ _ (by simp; omega), Below.heap_alloc _ _ _ (by simp), e0]
    have := (hown1.lt _ e.symm).2
    omega
  have hnew2 : w4.heap[W1.heap.size + 1]? = some (.cells #[.string nm, .int .i64 (ar : Int), .map (some W1.heap.size)] 137 (0, 0)) := by
    have e0 := World.alloc_heap_new (W1.alloc (.map #[] 0)) (.cells #[.string nm, .int .i64 (ar : Int), .map (some W1.heap.size)] 137)
    rw [World.size_alloc] at e0
    rw [hg4.block _ (by simp) (fun e => ?_), Below.heap_alloc _ _ _ (by simp), e0]
    have := (hown1.lt _ e.symm).2
    omega
  have hRlt := heap_lt hR1
  have hne2 : R ≠ W1.heap.size ∧ R ≠ W1.heap.size + 1 := by omega
  have hlen : (st ++ [(⟨nm, ar, []⟩ : RdV)]).length = st.length + 1 := by simp
  have hget : ∀ i, i < st.length → (st ++ [(⟨nm, ar, []⟩ : RdV)]).getD i noRd = st.getD i noRd := fun i hi => by rw [List.getD_eq_getElem?_getD, List.getElem?_append_left hi, ← List.getD_eq_getElem?_getD]
  have hgetn : (st ++ [(⟨nm, ar, []⟩ : RdV)]).getD st.length noRd = ⟨nm, ar, []⟩ := by simp [List.getD_eq_getElem?_getD]
  have hmlt : ∀ i, i < st.length → mb i < W0.heap.size := fun i hi => by obtain ⟨es, c, hb⟩ := (h.tps i hi).blk; exact heap_lt hb
  refine ⟨⟨?_, ?_, ?_, fun i hi => ?_, fun i hi => ?_, ⟨h.lo.1, h.lo.2.1, fun i hi => ?_⟩, fun i hi => ⟨?_, fun j hj hne => ?_⟩⟩, ?_⟩
  · rw [heap_setCell_same _ _ _ _ _ _ hR4]; rfl
  · rw [hlen]
    have e : (List.range (st.length + 1)).map (fun i => Value.pointer (some ⟨if i = st.length then W1.heap.size + 1 else rb i, 0, none⟩)) = (List.range st.length).map (fun i => Value.pointer (some ⟨rb i, 0, none⟩)) ++ [.pointer (some ⟨W1.heap.size + 1, 0, none⟩)] := by
      rw [List.range_succ, List.map_append]
      congr 1
      · refine List.map_congr_left fun i hi => ?_
        rw [if_neg (by have := List.mem_range.1 hi; omega)]
      · simp
    rw [e]
    exact own_keepR hown ⟨_, hR4⟩ (by decide)
  · rw [List.map_append]
    obtain ⟨D, ⟨es, c, hb, hr⟩, h2⟩ := hp
    exact ⟨D, ⟨es, c, hmap4 hb, hr⟩, h2⟩
  · rw [hlen] at hi
    by_cases e : i = st.length
    · subst e
      rw [hgetn, if_pos rfl, if_pos rfl, hset _ (Ne.symm hne2.2)]
      exact hnew2
    · have hi' : i < st.length := by omega
      rw [hget i hi', if_neg e, if_neg e]
      have hc := h.rel i hi'
      have hc1 : W1.heap[rb i]? = _ := (hk1 _ (heap_lt hc) (fun e => by rw [e, hbP] at hc; cases hc)).trans hc
      rw [hset _ (fun e => by rw [e, hR1] at hc1; simp only [Option.some.injEq, Obj.cells.injEq] at hc1; exact absurd hc1.2.1 (by decide)), hk4 _ (heap_lt hc1) (hne1 hc1 (fun cur e => by simp only [Obj.cells.injEq] at e; exact absurd e.2.1 (by decide))), hc1]
  · rw [hlen] at hi
    by_cases e : i = st.length
    · subst e
      rw [hgetn, if_pos rfl, if_pos rfl]
      have h0 := Tps.start W1
      exact h0.keep (by rw [hset _ (Ne.symm hne2.1), hnew]; exact (World.alloc_heap_new _ _).symm)
    · have hi' : i < st.length := by omega
      rw [hget i hi', if_neg e, if_neg e]
      obtain ⟨es, c, hb⟩ := (h.tps i hi').blk
      have hb1 : W1.heap[mb i]? = some (.map es c) := (hk1 _ (heap_lt hb) (h.ne i hi').1).trans hb
      exact (h.tps i hi').keep ((hmap4 hb1).trans hb.symm)
  · rw [hlen] at hi
    by_cases e : i = st.length
    · rw [if_pos e, if_pos e]; omega
    · rw [if_neg e, if_neg e]; exact h.lo.2.2 i (by omega)
  · rw [hlen] at hi
    have hbl := heap_lt hbP
    by_cases e : i = st.length
    · rw [if_pos e]; omega
    · rw [if_neg e]; exact (h.ne i (by omega)).1
  · rw [hlen] at hi hj
    by_cases e : i = st.length
    · rw [if_pos e, if_neg (by omega)]
      have := hmlt j (by omega)
      omega
    · rw [if_neg e]
      by_cases e2 : j = st.length
      · rw [if_pos e2]
        have := hmlt i (by omega)
        omega
      · rw [if_neg e2]; exact (h.ne i (by omega)).2 j (by omega) hne
  · have b1 : Below B W0 W1 := (Below.refl B W0).grown hg hB0 (fun k e => by cases e; exact h.lo.2.1)
    have b2 : Below B W0 (((W1.alloc (.map #[] 0)).alloc (.cells #[.string nm, .int .i64 (ar : Int), .map (some W1.heap.size)] 137)).alloc o) := ((b1.alloc (by omega) _).alloc (by simp; omega) _).alloc (by simp; omega) _
    exact (b2.grown hg4 (by simp; omega) (fun k e => (hown1.lt k e).1)).setCell h.lo.1 _
theorem RdI.add_keep (h : RdI W0 B R st vR bP rb mb DD) (hg : W0.grownBy W1 (some bP))
    (hg4 : (((W1.alloc (.map #[] 0)).alloc (.cells #[.string nm, .int .i64 (ar : Int), .map (some W1.heap.size)] 137)).alloc o).grownBy w4 vR.ownBlock) : KeepS W0 (w4.setCell ⟨R, 0, none⟩ v') := by
  obtain ⟨esP, cP, hbP⟩ := h.num.blk
  intro k cur hk
  have hs1 := hg.size
  have hkl := heap_lt hk
  have h1 : W1.heap[k]? = W0.heap[k]? := hg.block k hkl (fun e => by rw [← Option.some.inj e, hk] at hbP; cases hbP)
  have hne : some k ≠ vR.ownBlock := own_ne h.own ⟨_, hk⟩ (by decide)
  have hkR : k ≠ R := fun e => by
    have hb := h.blk
    rw [← e, hk] at hb
    simp only [Option.some.injEq, Obj.cells.injEq] at hb
    exact absurd hb.2.1 (by decide)
  rw [Below.heap_setCell _ _ _ _ hkR, hg4.block k (by simp; omega) hne, Below.heap_alloc _ _ k (by simp; omega), Below.heap_alloc _ _ k (by simp; omega), Below.heap_alloc _ _ k (by omega), h1]
end

end Go.Proofs.YtcdfoephhjacdaaGreatDoor
