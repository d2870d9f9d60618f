import Derived.Stop.Asserts
import Derived.Test.YtcdfoephhjacdaaDoorQ82
/-
  errors.Is: a fault, a fault within a part, held against a fault.
-/
namespace Go.Proofs.YtcdfoephhjacdaaDoor
open Go.RowKit Go.Extern.Stop Go.Stop Go.Extern

theorem Tryd.isComp : (Tryd.prog.info? 63).map (·.comparable) = some true := by kernel_rfl
theorem Tryd.eqFlt (W : World) (a b c d : Int) : (binOp .eql 59 (.iface 63 (.agg #[.int .i64 a, .int .i64 b])) (.iface 63 (.agg #[.int .i64 c, .int .i64 d]))).run Tryd.prog W = .ok (.bool (decide (a = c ∧ b = d))) W := by
  obtain ⟨i, hi, hcmp⟩ := Option.map_eq_some_iff.1 Tryd.isComp
  have h : (Op.equalIn 10000 59 (.iface 63 (.agg #[.int .i64 a, .int .i64 b])) (.iface 63 (.agg #[.int .i64 c, .int .i64 d]))).run Tryd.prog W = .ok (decide (a = c ∧ b = d)) W := by
    rw [show (10000 : Nat) = 9999 + 1 from rfl, Op.equalIn]
    simp only [Sem.run_bind, run_underlying Tryd.underlying59, Result.andThen]
    simp [typeInfo, hi, hcmp, go_sem]
    by_cases h1 : a = c <;> by_cases h2 : b = d <;> simp [h1, h2]
  simp only [binOp]
  simp [Op.equal, Op.maxDepth]
  rw [h]
  simp [Result.andThen]
theorem Tryd.rMethodComparable (h : Value) (w : World) : (Go.method 363 158 (.agg #[h]) "Comparable").run Tryd.prog w = .ok (181, .agg #[h]) w := by kernel_rfl
theorem Tryd.rCallComparable (w : World) : (callFunc 181 #[.agg #[.pointer (some ⟨6, 63, none⟩)]]).run Tryd.prog w = .ok (.value (.bool true)) w := by
  rw [@run_callFunc_extern Tryd.prog 181 _ (ReflectliteType.method fun t => do Rtype.noPackHeld "Comparable" t; pure (.bool (← typeInfo t).comparable)) Tryd.func181 (by kernel_rfl) (by kernel_rfl) (by kernel_rfl) (by kernel_rfl)]
  kernel_rfl
theorem Tryd.rMethodUnwrapW (v : Value) (w : World) : (Go.method 363 102 v "Unwrap").run Tryd.prog w = .ok (175, v) w := by kernel_rfl

set_option maxHeartbeats 4000000 in
set_option maxRecDepth 1000000 in
theorem is_fault (c p : Int) (w : World) :
    Calls Tryd.prog 27 #[.iface 63 (.agg #[.int .i64 c, .int .i64 p]), .iface 63 (.agg #[.int .i64 3, .int .i64 (-1)])] w fun e w' => e = .returned (.bool (decide (c = 3 ∧ p = -1))) ∧ Below w.heap.size w w' := by
  have xt := @run_callFunc_extern Tryd.prog 62 _ ReflectliteType.typeOf Tryd.func62 (by kernel_rfl) (by kernel_rfl) (by kernel_rfl) (by kernel_rfl)
  have z1 := Tryd.rTypeOfF
  have mC := Tryd.rMethodComparable
  have cC := Tryd.rCallComparable
  have heq := fun W => Tryd.eqFlt W c p 3 (-1)
  have a1 := run_typeAssert_lacksB (P := Tryd.prog) (t := 63) (z := .nilIface) Tryd.underlying170 (by kernel_rfl) (by kernel_rfl)
  have a2 := run_typeAssert_lacksB (P := Tryd.prog) (t := 63) (z := .nilIface) Tryd.underlying165 (by kernel_rfl) (by kernel_rfl)
  have a3 := run_typeAssert_lacksB (P := Tryd.prog) (t := 63) (z := .nilIface) Tryd.underlying167 (by kernel_rfl) (by kernel_rfl)
  cases hd : decide (c = 3 ∧ p = -1)
  all_goals
    rw [hd] at heq
    clear hd
    go_enter Tryd.func27, Tryd.ntmps27
    go_wp2
    refine wp_loop_rounds 1 ?_
    rw [rounds_succ]
    go_wp2
    go_ret
    exact ⟨rfl, Below.refl _ _⟩

set_option maxHeartbeats 4000000 in
set_option maxRecDepth 1000000 in
theorem is_within (part : ByteArray) (c p : Int) (w : World) :
    Calls Tryd.prog 27 #[.iface 102 (.agg #[.string part, .iface 63 (.agg #[.int .i64 c, .int .i64 p])]), .iface 63 (.agg #[.int .i64 3, .int .i64 (-1)])] w fun e w' => e = .returned (.bool (decide (c = 3 ∧ p = -1))) ∧ Below w.heap.size w w' := by
  have xt := @run_callFunc_extern Tryd.prog 62 _ ReflectliteType.typeOf Tryd.func62 (by kernel_rfl) (by kernel_rfl) (by kernel_rfl) (by kernel_rfl)
  have z1 := Tryd.rTypeOfF
  have mC := Tryd.rMethodComparable
  have cC := Tryd.rCallComparable
  have mU := Tryd.rMethodUnwrapW
  have heq := fun W => Tryd.eqFlt W c p 3 (-1)
  have hty := fun W => run_eql_iface_types (P := Tryd.prog) 102 63 (.agg #[.string part, .iface 63 (.agg #[.int .i64 c, .int .i64 p])]) (.agg #[.int .i64 3, .int .i64 (-1)]) Tryd.underlying59 (by decide) W
  have a1 := run_typeAssert_lacksB (P := Tryd.prog) (t := 63) (z := .nilIface) Tryd.underlying170 (by kernel_rfl) (by kernel_rfl)
  have a2 := run_typeAssert_lacksB (P := Tryd.prog) (t := 63) (z := .nilIface) Tryd.underlying165 (by kernel_rfl) (by kernel_rfl)
  have a3 := run_typeAssert_lacksB (P := Tryd.prog) (t := 63) (z := .nilIface) Tryd.underlying167 (by kernel_rfl) (by kernel_rfl)
  have b1 := run_typeAssert_lacksB (P := Tryd.prog) (t := 102) (z := .nilIface) Tryd.underlying170 (by kernel_rfl) (by kernel_rfl)
  have b2 := run_typeAssert_hasB (P := Tryd.prog) (t := 102) Tryd.underlying165 (by kernel_rfl)
  cases hd : decide (c = 3 ∧ p = -1)
  all_goals
    rw [hd] at heq
    clear hd
    go_enter Tryd.func27, Tryd.ntmps27
    go_wp2
    refine wp_loop_rounds 2 ?_
    rw [rounds_succ]
    go_wp2
    rw [rounds_succ]
    go_wp2
    go_ret
    first | exact ⟨rfl, Below.refl _ _⟩ | exact ⟨rfl, (Below.refl _ _).alloc (Nat.le_refl _) _⟩

end Go.Proofs.YtcdfoephhjacdaaDoor
