import Derived.Laws.Tables
import Derived.Lib.BufferWrite
import Derived.Lib.UnsafeStr
import Derived.Test.YtcdfoephhjacdaaDoorQ76
/-
  strings.Clone: the same text.
-/
namespace Go.Proofs.YtcdfoephhjacdaaDoor
open Go.RowKit

theorem Tryd.cellsU8 : Tryd.prog.cellsOf 5 = 1 := by kernel_rfl
theorem Tryd.sizeU8 : (Tryd.prog.info? 5).map (·.size) = some 1 := by kernel_rfl

/-- the row that a text is copied into, and what it holds then -/
theorem copied_row (w : World) (s : ByteArray) : ∃ Y : Array Value,
    (Builtin.copy_ #[143, 9] 3 #[.slice (some ⟨w.heap.size, 0, none⟩) s.size s.size, .string s]).run Tryd.prog (w.alloc (.cells (madeCells #[.int .u8 0] s.size) 5)) = .ok (goInt s.size) ((w.alloc (.cells (madeCells #[.int .u8 0] s.size) 5)).setRow w.heap.size Y) ∧
    Y.size = s.size ∧ Y.toList = Lib.byteCells s.data.toList ∧ ((w.alloc (.cells (madeCells #[.int .u8 0] s.size) 5)).setRow w.heap.size Y).heap[w.heap.size]? = some (.cells Y 5 (0, 0)) := by
  have hl : (madeCells #[Value.int .u8 0] s.size).size = s.size := by rw [size_madeCells]
  refine ⟨_, Lib.run_copy_row_string (P := Tryd.prog) _ 143 9 3 5 w.heap.size 0 s.size s.size s _ 5 Tryd.underlying143 Tryd.sizeU8 (heap_alloc_new w _) (Nat.le_refl _) (by omega), ?_, ?_, setRow_heap _ _ _ _ 5 (0, 0) (heap_alloc_new w _)⟩
  · simp [Lib.byteCells_length, hl]
  · simp [hl]

set_option maxHeartbeats 4000000 in
set_option maxRecDepth 100000 in
theorem sliteClone_calls (s : ByteArray) (w : World) (hs : s.size ≤ 281474976710656) :
    Calls Tryd.prog 99 #[.string s] w fun e w' => e = .returned (.string s) ∧ Below w.heap.size w w' := by
  by_cases h0 : s.size = 0
  · obtain rfl : s = ⟨#[]⟩ := ByteArray.ext (Array.eq_empty_of_size_eq_zero h0)
    go_enter Tryd.func99, Tryd.ntmps99
    go_wp2
    go_ret
    exact ⟨rfl, Below.refl _ _⟩
  · have i0 : ¬ ((s.size : Int) = 0) := by omega
    have i1 : (0 : Int) < (s.size : Int) := by omega
    have hmk := run_make_row' (P := Tryd.prog) 143 5 (.int .u8 0) 1 Tryd.underlying143 (by kernel_rfl) rfl .i64 .i64 s.size (by omega) (by omega)
    obtain ⟨Y, hcp, hYs, hYl, hgY⟩ := copied_row w s
    have hne : s.data.toList ≠ [] := fun e => h0 (by rw [Lib.size_eq, e]; rfl)
    have hus := Lib.run_unsafeString_row (P := Tryd.prog) ((w.alloc (.cells (madeCells #[.int .u8 0] s.size) 5)).setRow w.heap.size Y) 192 3 9 5 Tryd.underlying192 Tryd.cellsU8 w.heap.size Y.size (by unfold World.shape?; rw [hgY]) s.data.toList hne (by rw [← Lib.size_eq]; omega) (by rw [← Lib.size_eq]; omega)
      (fun j x hx => Lib.cells_of_row hgY Y.size j _ (by rw [List.take_of_length_le (by rw [Array.length_toList]; exact Nat.le_refl _), hYl]; simp [Lib.byteCells, hx]))
    rw [← Lib.size_eq] at hus
    have hb1 : Below w.heap.size w (w.alloc (.cells (madeCells #[.int .u8 0] s.size) 5)) := (Below.refl _ w).alloc (Nat.le_refl _) _
    have hb2 : Below w.heap.size (w.alloc (.cells (madeCells #[.int .u8 0] s.size) 5)) ((w.alloc (.cells (madeCells #[.int .u8 0] s.size) 5)).setRow w.heap.size Y) := ⟨rfl, rfl, rfl, by simp, fun k hk => setRow_other _ _ _ _ (by omega)⟩
    have HB := hid (Lib.below_freeze (hb1.trans hb2) (p := ⟨w.heap.size, 0, none⟩) (Nat.le_refl _) s.size)
    clear hb1 hb2
    clear hYs hYl hgY
    go_enter Tryd.func99, Tryd.ntmps99
    go_wp2
    go_ret
    exact ⟨rfl, HB.out⟩

theorem clone_calls (s : ByteArray) (w : World) (hs : s.size ≤ 281474976710656) :
    Calls Tryd.prog 73 #[.string s] w fun e w' => e = .returned (.string s) ∧ Below w.heap.size w w' := by
  have K := hid (sliteClone_calls s w hs)
  go_enter Tryd.func73, Tryd.ntmps73
  go_wp2_with (first | (go_at_call 99; refine K.out.mono ?_; rintro e w' ⟨rfl, hb⟩) | fail)
  go_ret
  exact ⟨rfl, hb⟩

end Go.Proofs.YtcdfoephhjacdaaDoor
