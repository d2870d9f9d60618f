import Derived.Test.YtfjchjhakjghcaaDoorD58
namespace Go.Proofs.YtfjchjhakjghcaaDoor
open Go.RowKit Go.Extern.Stop Go.Stop Go.Extern

set_option maxHeartbeats 8000000 in
set_option maxRecDepth 1000000 in
theorem as_within (part : ByteArray) (c p : Int) (B : Nat) (o0 o1 : Value) (w : World) (hg : w.cell? ⟨1, 0, none⟩ = some (.iface 148 (.agg #[.pointer (some ⟨6, 89, none⟩)])))
    (h0 : w.cell? ⟨B, 0, none⟩ = some o0) (h1 : w.cell? ⟨B, 1, none⟩ = some o1) (f0 : w.frozen? ⟨B, 0, none⟩ = false) (f1 : w.frozen? ⟨B, 1, none⟩ = false) :
    Calls Tryd.prog 44 #[.iface 129 (.agg #[.string part, .iface 86 (.agg #[.int .i64 c, .int .i64 p])]), .iface 91 (.pointer (some ⟨B, 0, none⟩))] w fun ev w' => ev = .returned (.bool true) ∧ GotE w B c p w' := by
  have x59 := @run_callFunc_extern Tryd.prog 62 _ (fun args => ReflectliteValue.unpack (args.getD 0 (.tuple #[]))) Tryd.func62 (by kernel_rfl) (by kernel_rfl) (by kernel_rfl) (by kernel_rfl)
  have x60 := @run_callFunc_extern Tryd.prog 63 _ (ReflectliteValue.methodAny (ReflectliteValue.valueError "reflectlite.Value.Type" 0) (fun t _ _ _ => ReflectliteType.toType t)) Tryd.func63 (by kernel_rfl) (by kernel_rfl) (by kernel_rfl) (by kernel_rfl)
  have x61 := @run_callFunc_extern Tryd.prog 64 _ (ReflectliteValue.method (ReflectliteValue.valueError "reflectlite.Value.IsNil" 0) ReflectliteValue.isNil) Tryd.func64 (by kernel_rfl) (by kernel_rfl) (by kernel_rfl) (by kernel_rfl)
  have xk := @run_callFunc_extern Tryd.prog 133 _ (ReflectliteType.abiMethod fun t => do pure (.int .u8 (← Rtype.kind t))) Tryd.func133 (by kernel_rfl) (by kernel_rfl) (by kernel_rfl) (by kernel_rfl)
  have xe := @run_callFunc_extern Tryd.prog 146 _ (ReflectliteType.method ReflectliteType.elem) Tryd.func146 (by kernel_rfl) (by kernel_rfl) (by kernel_rfl) (by kernel_rfl)
  have xi := @run_callFunc_extern Tryd.prog 147 _ (ReflectliteType.relation "Implements" ReflectliteType.implements_) Tryd.func147 (by kernel_rfl) (by kernel_rfl) (by kernel_rfl) (by kernel_rfl)
  have xt := @run_callFunc_extern Tryd.prog 91 _ ReflectliteType.typeOf Tryd.func91 (by kernel_rfl) (by kernel_rfl) (by kernel_rfl) (by kernel_rfl)
  have xa := @run_callFunc_extern Tryd.prog 144 _ (ReflectliteType.relation "AssignableTo" ReflectliteType.assignableTo) Tryd.func144 (by kernel_rfl) (by kernel_rfl) (by kernel_rfl) (by kernel_rfl)
  have xv := @run_callFunc_extern Tryd.prog 92 _ (ReflectliteValue.method (ReflectliteValue.valueError "reflectlite.Value.Elem" 0) ReflectliteValue.elem) Tryd.func92 (by kernel_rfl) (by kernel_rfl) (by kernel_rfl) (by kernel_rfl)
  have xs := @run_callFunc_extern Tryd.prog 93 _ ReflectliteValue.set Tryd.func93 (by kernel_rfl) (by kernel_rfl) (by kernel_rfl) (by kernel_rfl)
  have y1 := Tryd.rValueOfP
  have y2 := Tryd.rTypeP
  have y3 := Tryd.rMethodKind
  have y4 := Tryd.rMethodElem
  have y5 := Tryd.rMethodImplements
  have y6 := Tryd.rKindP
  have y7 := Tryd.rKindF
  have y8 := Tryd.rElemP
  have y9 := Tryd.rImplementsF
  have z1 := Tryd.rTypeOfF
  have z2 := Tryd.rMethodAssignableTo
  have z3 := Tryd.rAssignableF
  have z4 := Tryd.rValueOfF
  have z5 := Tryd.rTypeOfW
  have z6 := Tryd.rAssignableW
  have a1 := run_typeAssert_lacksB (P := Tryd.prog) (t := 129) (z := .nilIface) Tryd.underlying153 (by kernel_rfl) (by kernel_rfl)
  have a2 := run_typeAssert_hasB (P := Tryd.prog) (t := 129) Tryd.underlying156 (by kernel_rfl)
  obtain ⟨W1, hW1⟩ : ∃ W, W = w.alloc (.cells #[.pointer (some ⟨B, 0, none⟩)] 91) := ⟨_, rfl⟩
  obtain ⟨W2, hW2⟩ : ∃ W, W = W1.alloc (.cells #[.pointer (some ⟨6, 91, none⟩), .pointer (some ⟨w.heap.size, 0, none⟩), .int .u64 150] 117) := ⟨_, rfl⟩
  obtain ⟨W3, hW3⟩ : ∃ W, W = W2.alloc (.cells #[.pointer (some ⟨6, 91, none⟩), .pointer (some ⟨w.heap.size, 0, none⟩), .int .u64 150] 117) := ⟨_, rfl⟩
  obtain ⟨W4, hW4⟩ : ∃ W, W = W3.alloc (.cells #[.string part, .iface 86 (.agg #[.int .i64 c, .int .i64 p])] 129) := ⟨_, rfl⟩
  obtain ⟨W5, hW5⟩ : ∃ W, W = W4.alloc (.cells #[.int .i64 c, .int .i64 p] 86) := ⟨_, rfl⟩
  have ptr1 : W1.cell? ⟨w.heap.size, 0, none⟩ = some (.pointer (some ⟨B, 0, none⟩)) := by rw [hW1, World.cell?_alloc_at _ _ _ _ rfl]; rfl
  have ptr2 : W2.cell? ⟨w.heap.size, 0, none⟩ = some (.pointer (some ⟨B, 0, none⟩)) := by rw [hW2]; exact cell_up _ ptr1
  have ptr3 : W3.cell? ⟨w.heap.size, 0, none⟩ = some (.pointer (some ⟨B, 0, none⟩)) := by rw [hW3]; exact cell_up _ ptr2
  have ptr4 : W4.cell? ⟨w.heap.size, 0, none⟩ = some (.pointer (some ⟨B, 0, none⟩)) := by rw [hW4]; exact cell_up _ ptr3
  have n8 := Tryd.rIsNilP ⟨w.heap.size, 0, none⟩ ⟨B, 0, none⟩ W2 ptr2
  have el := Tryd.rElemV ⟨w.heap.size, 0, none⟩ ⟨B, 0, none⟩ W4 ptr4
  have g2 : W2.cell? ⟨1, 0, none⟩ = some (.iface 148 (.agg #[.pointer (some ⟨6, 89, none⟩)])) := by rw [hW2, hW1]; exact cell_up _ (cell_up _ hg)
  have st := Tryd.rSetF B W4.heap.size c p o0 o1 W5 (by rw [hW5, World.cell?_alloc_at _ _ _ _ rfl]; rfl) (by rw [hW5, World.cell?_alloc_at _ _ _ _ rfl]; rfl)
    (by rw [hW5, hW4, hW3, hW2, hW1]; exact cell_up _ (cell_up _ (cell_up _ (cell_up _ (cell_up _ h0))))) (by rw [hW5, hW4, hW3, hW2, hW1]; exact cell_up _ (cell_up _ (cell_up _ (cell_up _ (cell_up _ h1)))))
    (by rw [hW5, hW4, hW3, hW2, hW1]; exact free_up _ (cell_up _ (cell_up _ (cell_up _ (cell_up _ h0)))) (free_up _ (cell_up _ (cell_up _ (cell_up _ h0))) (free_up _ (cell_up _ (cell_up _ h0)) (free_up _ (cell_up _ h0) (free_up _ h0 f0)))))
    (by rw [hW5, hW4, hW3, hW2, hW1]; exact free_up _ (cell_up _ (cell_up _ (cell_up _ (cell_up _ h1)))) (free_up _ (cell_up _ (cell_up _ (cell_up _ h1))) (free_up _ (cell_up _ (cell_up _ h1)) (free_up _ (cell_up _ h1) (free_up _ h1 f1)))))
  have HBB : Hid (Below w.heap.size w W5) := hid (by
    rw [hW5, hW4, hW3, hW2, hW1]
    exact (((((Below.refl _ _).alloc (Nat.le_refl _) _).alloc (by simp) _).alloc (by simp; omega) _).alloc (by simp; omega) _).alloc (by simp; omega) _)
  have q3 : W4.cell? ⟨w.heap.size + 1 + 1, 0, none⟩ = some (.pointer (some ⟨6, 91, none⟩)) ∧ W4.cell? ⟨w.heap.size + 1 + 1, 1, none⟩ = some (.pointer (some ⟨w.heap.size, 0, none⟩)) ∧ W4.cell? ⟨w.heap.size + 1 + 1, 2, none⟩ = some (.int .u64 150) := by
    have hs : W2.heap.size = w.heap.size + 1 + 1 := by rw [hW2, hW1]; simp
    refine ⟨?_, ?_, ?_⟩
    · rw [hW4]; refine cell_up _ ?_; rw [hW3, World.cell?_alloc_at _ _ _ _ hs.symm]; rfl
    · rw [hW4]; refine cell_up _ ?_; rw [hW3, World.cell?_alloc_at _ _ _ _ hs.symm]; rfl
    · rw [hW4]; refine cell_up _ ?_; rw [hW3, World.cell?_alloc_at _ _ _ _ hs.symm]; rfl
  obtain ⟨q3a, q3b, q3c⟩ := q3
  have hs4 : W4.heap.size = w.heap.size + 1 + 1 + 1 + 1 := by rw [hW4, hW3, hW2, hW1]; simp
  rw [hs4] at st
  rw [hW5] at st HBB
  rw [hW2, hW1] at n8 g2
  have z4' := z4 (.int .i64 c) (.int .i64 p) W4
  rw [hs4] at z4'
  have HW4 := hid hW4
  rw [hW3, hW2, hW1] at HW4
  clear hW5 hW4 hW3 hW2 hW1 ptr1 ptr2 ptr3 ptr4
  go_enter Tryd.func44, Tryd.ntmps44
  go_wp2
  refine wp_loop_rounds 2 ?_
  rw [rounds_succ]
  go_wp2
  rw [← HW4.out]
  clear z4
  rw [rounds_succ]
  go_wp2
  go_ret
  exact ⟨rfl, _, HBB.out, rfl⟩

end Go.Proofs.YtfjchjhakjghcaaDoor
