import Derived.Test.YtpdloenmplafiaaVars3
import Derived.Lib.UnsafeStr
import Derived.Lib.BufferWrite
import Derived.Laws.Tables
/-
  strings.Clone: the same text.
-/
namespace Go.Proofs.Ytpdloenmplafiaa
open Go.RowKit

theorem Try.cellsU8 : Try.prog.cellsOf 5 = 1 := by kernel_rfl
theorem Try.sizeU8 : (Try.prog.info? 5).map (·.size) = some 1 := by kernel_rfl

/-- the row that a text is copied into, and what it holds then -/
theorem copied_row (w : World) (s : ByteArray) : ∃ Y : Array Value,
    (Builtin.copy_ #[174, 9] 3 #[.slice (some ⟨w.heap.size, 0, none⟩) s.size s.size, .string s]).run Try.prog (w.alloc (.cells (madeCells #[.int .u8 0] s.size) 5)) = .ok (goInt s.size) ((w.alloc (.cells (madeCells #[.int .u8 0] s.size) 5)).setRow w.heap.size Y) ∧
    Y.size = s.size ∧ Y.toList = Lib.byteCells s.data.toList ∧ ((w.alloc (.cells (madeCells #[.int .u8 0] s.size) 5)).setRow w.heap.size Y).heap[w.heap.size]? = some (.cells Y 5 (0, 0)) := by
  have hl : (madeCells #[Value.int .u8 0] s.size).size = s.size := by rw [size_madeCells]
  refine ⟨_, Lib.run_copy_row_string (P := Try.prog) _ 174 9 3 5 w.heap.size 0 s.size s.size s _ 5 Try.underlying174 Try.sizeU8 (heap_alloc_new w _) (Nat.le_refl _) (by omega), ?_, ?_, setRow_heap _ _ _ _ 5 (0, 0) (heap_alloc_new w _)⟩
  · simp [Lib.byteCells_length, hl]
  · simp [hl]

set_option maxHeartbeats 4000000 in
set_option maxRecDepth 100000 in
theorem sliteClone_calls (s : ByteArray) (w : World) (hs : s.size ≤ 281474976710656) :
    Calls Try.prog 131 #[.string s] w fun e w' => e = .returned (.string s) ∧ Below w.heap.size w w' := by
  by_cases h0 : s.size = 0
  · obtain rfl : s = ⟨#[]⟩ := ByteArray.ext (Array.eq_empty_of_size_eq_zero h0)
    go_enter Try.func131, Try.ntmps131
    go_wp2
    go_ret
    exact ⟨rfl, Below.refl _ _⟩
  · have i0 : ¬ ((s.size : Int) = 0) := by omega
    have i1 : (0 : Int) < (s.size : Int) := by omega
    have hmk := run_make_row' (P := Try.prog) 174 5 (.int .u8 0) 1 Try.underlying174 (by kernel_rfl) rfl .i64 .i64 s.size (by omega) (by omega)
    obtain ⟨Y, hcp, hYs, hYl, hgY⟩ := copied_row w s
    have hne : s.data.toList ≠ [] := fun e => h0 (by rw [Lib.size_eq, e]; rfl)
    have hus := Lib.run_unsafeString_row (P := Try.prog) ((w.alloc (.cells (madeCells #[.int .u8 0] s.size) 5)).setRow w.heap.size Y) 197 3 9 5 Try.underlying197 Try.cellsU8 w.heap.size Y.size (by unfold World.shape?; rw [hgY]) s.data.toList hne (by rw [← Lib.size_eq]; omega) (by rw [← Lib.size_eq]; omega)
      (fun j x hx => Lib.cells_of_row hgY Y.size j _ (by rw [List.take_of_length_le (by rw [Array.length_toList]; exact Nat.le_refl _), hYl]; simp [Lib.byteCells, hx]))
    rw [← Lib.size_eq] at hus
    have hb1 : Below w.heap.size w (w.alloc (.cells (madeCells #[.int .u8 0] s.size) 5)) := (Below.refl _ w).alloc (Nat.le_refl _) _
    have hb2 : Below w.heap.size (w.alloc (.cells (madeCells #[.int .u8 0] s.size) 5)) ((w.alloc (.cells (madeCells #[.int .u8 0] s.size) 5)).setRow w.heap.size Y) := ⟨rfl, rfl, rfl, by simp, fun k hk => setRow_other _ _ _ _ (by omega)⟩
    have HB := hid (Lib.below_freeze (hb1.trans hb2) (p := ⟨w.heap.size, 0, none⟩) (Nat.le_refl _) s.size)
    clear hb1 hb2
    clear hYs hYl hgY
    go_enter Try.func131, Try.ntmps131
    go_wp2
    go_ret
    exact ⟨rfl, HB.out⟩

theorem clone_calls (s : ByteArray) (w : World) (hs : s.size ≤ 281474976710656) :
    Calls Try.prog 92 #[.string s] w fun e w' => e = .returned (.string s) ∧ Below w.heap.size w w' := by
  have K := hid (sliteClone_calls s w hs)
  go_enter Try.func92, Try.ntmps92
  go_wp2_with (first | (go_at_call 131; refine K.out.mono ?_; rintro e w' ⟨rfl, hb⟩) | fail)
  go_ret
  exact ⟨rfl, hb⟩

end Go.Proofs.Ytpdloenmplafiaa
