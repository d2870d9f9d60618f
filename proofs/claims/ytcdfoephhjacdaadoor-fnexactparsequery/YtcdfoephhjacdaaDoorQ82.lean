import Derived.LaidEql
import Derived.RowKitTokens
import Derived.Stop.Asserts
import Derived.WalkKit
import Derived.Test.YtcdfoephhjacdaaDoorQ01
/-
  errors.As at a target of type *fault: nil; a fault; a fault within a part.
-/
namespace Go.Proofs.YtcdfoephhjacdaaDoor
open Go.RowKit Go.Extern.Stop Go.Stop Go.Extern

theorem as_nil (t : Value) (w : World) :
    Calls Tryd.prog 26 #[.nilIface, t] w fun e w' => e = .returned (.bool false) ∧ w' = w := by
  go_enter Tryd.func26, Tryd.ntmps26
  go_wp2
  go_ret
  exact ⟨rfl, rfl⟩

theorem Tryd.rValueOfP (t : Addr) (w : World) : (ReflectliteValue.unpack (.iface 65 (.pointer (some t)))).run Tryd.prog w
    = .ok (.agg #[.pointer (some ⟨6, 65, none⟩), .pointer (some ⟨w.heap.size, 0, none⟩), .int .u64 150]) (w.alloc (.cells #[.pointer (some t)] 65)) := by kernel_rfl
theorem Tryd.rTypeP (a : Addr) (w : World) : (ReflectliteValue.methodAny (ReflectliteValue.valueError "reflectlite.Value.Type" 0) (fun t _ _ _ => ReflectliteType.toType t) #[.agg #[.pointer (some ⟨6, 65, none⟩), .pointer (some a), .int .u64 150]]).run Tryd.prog w
    = .ok (.iface 158 (.agg #[.pointer (some ⟨6, 65, none⟩)])) w := by kernel_rfl
theorem Tryd.rMethodKind (h : Value) (w : World) : (Go.method 363 158 (.agg #[h]) "Kind").run Tryd.prog w = .ok (170, h) w := by kernel_rfl
theorem Tryd.rKindP (w : World) : ((ReflectliteType.abiMethod fun t => (fun a : Nat => Value.int IntKind.u8 (a : Int)) <$> Rtype.kind t) #[.pointer (some ⟨6, 65, none⟩)]).run Tryd.prog w = .ok (.int .u8 22) w := by kernel_rfl
theorem Tryd.rKindF (w : World) : ((ReflectliteType.abiMethod fun t => (fun a : Nat => Value.int IntKind.u8 (a : Int)) <$> Rtype.kind t) #[.pointer (some ⟨6, 63, none⟩)]).run Tryd.prog w = .ok (.int .u8 25) w := by kernel_rfl

theorem rlm (z : Sem Value) (f : TypeId → Addr → Nat → Nat → Sem Value) (v : Value) :
    ReflectliteValue.method z f #[v] = (do match ← ReflectliteValue.parts v with | none => z | some (t, a, fl) => f t a fl (fl % 32)) := rfl
theorem Tryd.rPartsP (a : Addr) (w : World) : (ReflectliteValue.parts (.agg #[.pointer (some ⟨6, 65, none⟩), .pointer (some a), .int .u64 150])).run Tryd.prog w = .ok (some (65, a, 150)) w := by kernel_rfl
theorem Tryd.rIsNilP (a p : Addr) (W : World) (ha : W.cell? a = some (.pointer (some p))) :
    (ReflectliteValue.method (ReflectliteValue.valueError "reflectlite.Value.IsNil" 0) ReflectliteValue.isNil #[.agg #[.pointer (some ⟨6, 65, none⟩), .pointer (some a), .int .u64 150]]).run Tryd.prog W = .ok (.bool false) W := by
  rw [rlm]
  simp only [Sem.run_bind, Tryd.rPartsP, Result.andThen]
  simp [ReflectliteValue.isNil, loadVar, isAgg, underlying, Tryd.underlying65, ha, Result.andThen]

theorem Tryd.rMethodElem (h : Value) (w : World) : (Go.method 363 158 (.agg #[h]) "Elem").run Tryd.prog w = .ok (182, .agg #[h]) w := by kernel_rfl
theorem Tryd.rMethodImplements (h : Value) (w : World) : (Go.method 363 158 (.agg #[h]) "Implements").run Tryd.prog w = .ok (183, .agg #[h]) w := by kernel_rfl
theorem Tryd.rMethodAssignableTo (h : Value) (w : World) : (Go.method 363 158 (.agg #[h]) "AssignableTo").run Tryd.prog w = .ok (180, .agg #[h]) w := by kernel_rfl
theorem Tryd.rElemP (w : World) : (ReflectliteType.method ReflectliteType.elem #[.agg #[.pointer (some ⟨6, 65, none⟩)]]).run Tryd.prog w = .ok (.iface 158 (.agg #[.pointer (some ⟨6, 63, none⟩)])) w := by kernel_rfl
theorem Tryd.rImplementsF (w : World) : (ReflectliteType.relation "Implements" ReflectliteType.implements_ #[.agg #[.pointer (some ⟨6, 63, none⟩)], .iface 158 (.agg #[.pointer (some ⟨6, 59, none⟩)])]).run Tryd.prog w = .ok (.bool true) w := by kernel_rfl
theorem Tryd.rTypeOfF (v : Value) (w : World) : (ReflectliteType.typeOf #[.iface 63 v]).run Tryd.prog w = .ok (.iface 158 (.agg #[.pointer (some ⟨6, 63, none⟩)])) w := by kernel_rfl
theorem Tryd.rTypeOfW (v : Value) (w : World) : (ReflectliteType.typeOf #[.iface 102 v]).run Tryd.prog w = .ok (.iface 158 (.agg #[.pointer (some ⟨6, 102, none⟩)])) w := by kernel_rfl
theorem Tryd.rAssignableF (w : World) : (ReflectliteType.relation "AssignableTo" ReflectliteType.assignableTo #[.agg #[.pointer (some ⟨6, 63, none⟩)], .iface 158 (.agg #[.pointer (some ⟨6, 63, none⟩)])]).run Tryd.prog w = .ok (.bool true) w := by kernel_rfl
theorem Tryd.rAssignableW (w : World) : (ReflectliteType.relation "AssignableTo" ReflectliteType.assignableTo #[.agg #[.pointer (some ⟨6, 102, none⟩)], .iface 158 (.agg #[.pointer (some ⟨6, 63, none⟩)])]).run Tryd.prog w = .ok (.bool false) w := by kernel_rfl
theorem Tryd.rValueOfF (c p : Value) (w : World) : (ReflectliteValue.unpack (.iface 63 (.agg #[c, p]))).run Tryd.prog w
    = .ok (.agg #[.pointer (some ⟨6, 63, none⟩), .pointer (some ⟨w.heap.size, 0, none⟩), .int .u64 153]) (w.alloc (.cells #[c, p] 63)) := by kernel_rfl
theorem Tryd.rElemOfP (w : World) : (Rtype.elem? 65).run Tryd.prog w = .ok (some 63) w := by kernel_rfl
theorem Tryd.rMkF (p : Addr) (w : World) : (ReflectliteValue.mk 63 p ReflectliteValue.flagAddr).run Tryd.prog w = .ok (.agg #[.pointer (some ⟨6, 63, none⟩), .pointer (some p), .int .u64 409]) w := by kernel_rfl
theorem Tryd.rElemV (a p : Addr) (W : World) (ha : W.cell? a = some (.pointer (some p))) :
    (ReflectliteValue.method (ReflectliteValue.valueError "reflectlite.Value.Elem" 0) ReflectliteValue.elem #[.agg #[.pointer (some ⟨6, 65, none⟩), .pointer (some a), .int .u64 150]]).run Tryd.prog W
      = .ok (.agg #[.pointer (some ⟨6, 63, none⟩), .pointer (some p), .int .u64 409]) W := by
  rw [rlm]
  simp only [Sem.run_bind, Tryd.rPartsP, Result.andThen]
  simp [ReflectliteValue.elem, loadVar, isAgg, underlying, Tryd.underlying65, ha, Result.andThen, Tryd.rElemOfP, Tryd.rMkF]
theorem rls (v x : Value) : ReflectliteValue.set #[v, x] = (do
    let (some (dst, a, fl), some (src, b, _)) := (← ReflectliteValue.parts v, ← ReflectliteValue.parts x)
      | unsupported (.noEntry "extern/(internal/reflectlite.Value).Set.zeroValue")
    if fl / ReflectliteValue.flagAddr % 2 == 0 then unsupported (.noEntry "extern/(internal/reflectlite.Value).Set.unaddressable")
    let val ← loadVar src b
    if ← Rtype.directlyAssignable dst src then storeVar dst a val
    else if ← Rtype.implements dst src then
      if (← Rtype.kind src) == 20 then
        match val with
        | .nilIface => unsupported (.noEntry "extern/reflectlite: a nil value of one interface type handed on as a value of another")
        | _ => storeVar dst a val
      else storeVar dst a (.iface src val)
    else panicString ("reflectlite.Set: value of type " ++ (← Rtype.spelt src) ++ " is not assignable to type " ++ (← Rtype.spelt dst))
    pure (.tuple #[])) := rfl
theorem Tryd.rPartsFa (a : Addr) (w : World) : (ReflectliteValue.parts (.agg #[.pointer (some ⟨6, 63, none⟩), .pointer (some a), .int .u64 409])).run Tryd.prog w = .ok (some (63, a, 409)) w := by kernel_rfl
theorem Tryd.rPartsF (a : Addr) (w : World) : (ReflectliteValue.parts (.agg #[.pointer (some ⟨6, 63, none⟩), .pointer (some a), .int .u64 153])).run Tryd.prog w = .ok (some (63, a, 153)) w := by kernel_rfl
theorem Tryd.rDirectF (w : World) : (Rtype.directlyAssignable 63 63).run Tryd.prog w = .ok true w := by kernel_rfl

end Go.Proofs.YtcdfoephhjacdaaDoor

/-
  errors.As: a fault; a fault within a part.
-/
namespace Go.Proofs.YtcdfoephhjacdaaDoor
open Go.RowKit Go.Extern.Stop Go.Stop Go.Extern

theorem Tryd.rSizeF (w : World) : (sizeOf 63).run Tryd.prog w = .ok 2 w := by kernel_rfl
theorem Tryd.rAggF (w : World) : (isAgg 63).run Tryd.prog w = .ok true w := by kernel_rfl
theorem Tryd.rLoadF (B : Nat) (c p : Value) (W : World) (h0 : W.cell? ⟨B, 0, none⟩ = some c) (h1 : W.cell? ⟨B, 1, none⟩ = some p) : (loadVar 63 ⟨B, 0, none⟩).run Tryd.prog W = .ok (.agg #[c, p]) W := by
  unfold loadVar
  simp only [Sem.run_bind, Tryd.rAggF, Result.andThen, if_true, Tryd.rSizeF]
  simp [loadCells, loadCellsFrom, Addr.add, h0, h1, Result.andThen]
theorem Tryd.rStoreF (B : Nat) (c p : Int) (o0 o1 : Value) (W : World) (h0 : W.cell? ⟨B, 0, none⟩ = some o0) (h1 : W.cell? ⟨B, 1, none⟩ = some o1) (f0 : W.frozen? ⟨B, 0, none⟩ = false) (f1 : W.frozen? ⟨B, 1, none⟩ = false) :
    (storeVar 63 ⟨B, 0, none⟩ (.agg #[.int .i64 c, .int .i64 p])).run Tryd.prog W = .ok () ((W.setCell ⟨B, 0, none⟩ (.int .i64 c)).setCell ⟨B, 1, none⟩ (.int .i64 p)) := by
  have g1 : (W.setCell ⟨B, 0, none⟩ (.int .i64 c)).cell? ⟨B, 1, none⟩ = some o1 := (World.cell?_setCell_other _ _ _ _ (by simp)).trans h1
  have g2 : (W.setCell ⟨B, 0, none⟩ (.int .i64 c)).frozen? ⟨B, 1, none⟩ = false := by rw [World.frozen?_setCell]; exact f1
  unfold storeVar
  simp only [Sem.run_bind, Tryd.rSizeF, Result.andThen]
  simp [Value.cells, storeCells, Addr.add]
  rw [run_store Tryd.prog W ⟨B, 0, none⟩ _ _ (by rfl)]
  simp only [h0, f0, Bool.false_eq_true, if_false, Result.andThen]
  rw [run_store Tryd.prog _ ⟨B, 1, none⟩ _ _ (by rfl)]
  simp [g1, g2]
theorem Tryd.rSetF (B b : Nat) (c p : Int) (o0 o1 : Value) (W : World) (hb0 : W.cell? ⟨b, 0, none⟩ = some (.int .i64 c)) (hb1 : W.cell? ⟨b, 1, none⟩ = some (.int .i64 p)) (h0 : W.cell? ⟨B, 0, none⟩ = some o0) (h1 : W.cell? ⟨B, 1, none⟩ = some o1) (f0 : W.frozen? ⟨B, 0, none⟩ = false) (f1 : W.frozen? ⟨B, 1, none⟩ = false) :
    (ReflectliteValue.set #[.agg #[.pointer (some ⟨6, 63, none⟩), .pointer (some ⟨B, 0, none⟩), .int .u64 409], .agg #[.pointer (some ⟨6, 63, none⟩), .pointer (some ⟨b, 0, none⟩), .int .u64 153]]).run Tryd.prog W
      = .ok (.tuple #[]) ((W.setCell ⟨B, 0, none⟩ (.int .i64 c)).setCell ⟨B, 1, none⟩ (.int .i64 p)) := by
  rw [rls]
  simp only [Sem.run_bind, Tryd.rPartsFa, Tryd.rPartsF, Result.andThen]
  simp [ReflectliteValue.flagAddr, Result.andThen, Tryd.rLoadF b _ _ W hb0 hb1, Tryd.rDirectF, Tryd.rStoreF B c p o0 o1 W h0 h1 f0 f1]

/-- what errors.as does with a fault: the target gets it -/
def GotE (w : World) (B : Nat) (c p : Int) (w' : World) : Prop := ∃ w1, Below w.heap.size w w1 ∧ w' = (w1.setCell ⟨B, 0, none⟩ (.int .i64 c)).setCell ⟨B, 1, none⟩ (.int .i64 p)

theorem cell_up {W : World} {a : Addr} {v : Value} (o : Obj) (h : W.cell? a = some v) : (W.alloc o).cell? a = some v :=
  (World.cell?_alloc_lt _ _ a (World.block_lt_of_cell? W _ h)).trans h
theorem free_up {W : World} {a : Addr} {v : Value} (o : Obj) (h : W.cell? a = some v) (hf : W.frozen? a = false) : (W.alloc o).frozen? a = false :=
  (World.frozen?_alloc_old _ _ a (Nat.ne_of_lt (World.block_lt_of_cell? W _ h))).trans hf

set_option maxHeartbeats 8000000 in
set_option maxRecDepth 1000000 in
theorem as_fault (c p : Int) (B : Nat) (o0 o1 : Value) (w : World) (hg : w.cell? ⟨0, 0, none⟩ = some (.iface 158 (.agg #[.pointer (some ⟨6, 59, none⟩)])))
    (h0 : w.cell? ⟨B, 0, none⟩ = some o0) (h1 : w.cell? ⟨B, 1, none⟩ = some o1) (f0 : w.frozen? ⟨B, 0, none⟩ = false) (f1 : w.frozen? ⟨B, 1, none⟩ = false) :
    Calls Tryd.prog 26 #[.iface 63 (.agg #[.int .i64 c, .int .i64 p]), .iface 65 (.pointer (some ⟨B, 0, none⟩))] w fun ev w' => ev = .returned (.bool true) ∧ GotE w B c p w' := by
  have x59 := @run_callFunc_extern Tryd.prog 58 _ (fun args => ReflectliteValue.unpack (args.getD 0 (.tuple #[]))) Tryd.func58 (by kernel_rfl) (by kernel_rfl) (by kernel_rfl) (by kernel_rfl)
  have x60 := @run_callFunc_extern Tryd.prog 59 _ (ReflectliteValue.methodAny (ReflectliteValue.valueError "reflectlite.Value.Type" 0) (fun t _ _ _ => ReflectliteType.toType t)) Tryd.func59 (by kernel_rfl) (by kernel_rfl) (by kernel_rfl) (by kernel_rfl)
  have x61 := @run_callFunc_extern Tryd.prog 60 _ (ReflectliteValue.method (ReflectliteValue.valueError "reflectlite.Value.IsNil" 0) ReflectliteValue.isNil) Tryd.func60 (by kernel_rfl) (by kernel_rfl) (by kernel_rfl) (by kernel_rfl)
  have xk := @run_callFunc_extern Tryd.prog 170 _ (ReflectliteType.abiMethod fun t => do pure (.int .u8 (← Rtype.kind t))) Tryd.func170 (by kernel_rfl) (by kernel_rfl) (by kernel_rfl) (by kernel_rfl)
  have xe := @run_callFunc_extern Tryd.prog 182 _ (ReflectliteType.method ReflectliteType.elem) Tryd.func182 (by kernel_rfl) (by kernel_rfl) (by kernel_rfl) (by kernel_rfl)
  have xi := @run_callFunc_extern Tryd.prog 183 _ (ReflectliteType.relation "Implements" ReflectliteType.implements_) Tryd.func183 (by kernel_rfl) (by kernel_rfl) (by kernel_rfl) (by kernel_rfl)
  have xt := @run_callFunc_extern Tryd.prog 62 _ ReflectliteType.typeOf Tryd.func62 (by kernel_rfl) (by kernel_rfl) (by kernel_rfl) (by kernel_rfl)
  have xa := @run_callFunc_extern Tryd.prog 180 _ (ReflectliteType.relation "AssignableTo" ReflectliteType.assignableTo) Tryd.func180 (by kernel_rfl) (by kernel_rfl) (by kernel_rfl) (by kernel_rfl)
  have xv := @run_callFunc_extern Tryd.prog 91 _ (ReflectliteValue.method (ReflectliteValue.valueError "reflectlite.Value.Elem" 0) ReflectliteValue.elem) Tryd.func91 (by kernel_rfl) (by kernel_rfl) (by kernel_rfl) (by kernel_rfl)
  have xs := @run_callFunc_extern Tryd.prog 92 _ ReflectliteValue.set Tryd.func92 (by kernel_rfl) (by kernel_rfl) (by kernel_rfl) (by kernel_rfl)
  have y1 := Tryd.rValueOfP
  have y2 := Tryd.rTypeP
  have y3 := Tryd.rMethodKind
  have y4 := Tryd.rMethodElem
  have y5 := Tryd.rMethodImplements
  have y6 := Tryd.rKindP
  have y7 := Tryd.rKindF
  have y8 := Tryd.rElemP
  have y9 := Tryd.rImplementsF
  have z1 := Tryd.rTypeOfF
  have z2 := Tryd.rMethodAssignableTo
  have z3 := Tryd.rAssignableF
  have z4 := Tryd.rValueOfF
  obtain ⟨W1, hW1⟩ : ∃ W, W = w.alloc (.cells #[.pointer (some ⟨B, 0, none⟩)] 65) := ⟨_, rfl⟩
  obtain ⟨W2, hW2⟩ : ∃ W, W = W1.alloc (.cells #[.pointer (some ⟨6, 65, none⟩), .pointer (some ⟨w.heap.size, 0, none⟩), .int .u64 150] 107) := ⟨_, rfl⟩
  obtain ⟨W3, hW3⟩ : ∃ W, W = W2.alloc (.cells #[.pointer (some ⟨6, 65, none⟩), .pointer (some ⟨w.heap.size, 0, none⟩), .int .u64 150] 107) := ⟨_, rfl⟩
  obtain ⟨W4, hW4⟩ : ∃ W, W = W3.alloc (.cells #[.int .i64 c, .int .i64 p] 63) := ⟨_, rfl⟩
  have ptr1 : W1.cell? ⟨w.heap.size, 0, none⟩ = some (.pointer (some ⟨B, 0, none⟩)) := by rw [hW1, World.cell?_alloc_at _ _ _ _ rfl]; rfl
  have ptr2 : W2.cell? ⟨w.heap.size, 0, none⟩ = some (.pointer (some ⟨B, 0, none⟩)) := by rw [hW2]; exact cell_up _ ptr1
  have ptr3 : W3.cell? ⟨w.heap.size, 0, none⟩ = some (.pointer (some ⟨B, 0, none⟩)) := by rw [hW3]; exact cell_up _ ptr2
  have n8 := Tryd.rIsNilP ⟨w.heap.size, 0, none⟩ ⟨B, 0, none⟩ W2 ptr2
  have el := Tryd.rElemV ⟨w.heap.size, 0, none⟩ ⟨B, 0, none⟩ W3 ptr3
  have g2 : W2.cell? ⟨0, 0, none⟩ = some (.iface 158 (.agg #[.pointer (some ⟨6, 59, none⟩)])) := by rw [hW2, hW1]; exact cell_up _ (cell_up _ hg)
  have st := Tryd.rSetF B W3.heap.size c p o0 o1 W4 (by rw [hW4, World.cell?_alloc_at _ _ _ _ rfl]; rfl) (by rw [hW4, World.cell?_alloc_at _ _ _ _ rfl]; rfl)
    (by rw [hW4, hW3, hW2, hW1]; exact cell_up _ (cell_up _ (cell_up _ (cell_up _ h0)))) (by rw [hW4, hW3, hW2, hW1]; exact cell_up _ (cell_up _ (cell_up _ (cell_up _ h1))))
    (by rw [hW4, hW3, hW2, hW1]; exact free_up _ (cell_up _ (cell_up _ (cell_up _ h0))) (free_up _ (cell_up _ (cell_up _ h0)) (free_up _ (cell_up _ h0) (free_up _ h0 f0))))
    (by rw [hW4, hW3, hW2, hW1]; exact free_up _ (cell_up _ (cell_up _ (cell_up _ h1))) (free_up _ (cell_up _ (cell_up _ h1)) (free_up _ (cell_up _ h1) (free_up _ h1 f1))))
  have HBB : Hid (Below w.heap.size w W4) := hid (by
    rw [hW4, hW3, hW2, hW1]
    exact ((((Below.refl _ _).alloc (Nat.le_refl _) _).alloc (by simp) _).alloc (by simp; omega) _).alloc (by simp; omega) _)
  rw [hW4, hW3, hW2, hW1] at st
  rw [hW3, hW2, hW1] at el
  rw [hW2, hW1] at n8 g2
  simp only [World.size_alloc] at st
  rw [hW4, hW3, hW2, hW1] at HBB
  clear hW4 hW3 hW2 hW1 ptr1 ptr2 ptr3
  go_enter Tryd.func26, Tryd.ntmps26
  go_wp2
  refine wp_loop_rounds 1 ?_
  rw [rounds_succ]
  go_wp2
  go_ret
  exact ⟨rfl, _, HBB.out, rfl⟩

end Go.Proofs.YtcdfoephhjacdaaDoor

namespace Go.Proofs.YtcdfoephhjacdaaDoor
open Go.RowKit Go.Extern.Stop Go.Stop Go.Extern

set_option maxHeartbeats 8000000 in
set_option maxRecDepth 1000000 in
theorem as_within (part : ByteArray) (c p : Int) (B : Nat) (o0 o1 : Value) (w : World) (hg : w.cell? ⟨0, 0, none⟩ = some (.iface 158 (.agg #[.pointer (some ⟨6, 59, none⟩)])))
    (h0 : w.cell? ⟨B, 0, none⟩ = some o0) (h1 : w.cell? ⟨B, 1, none⟩ = some o1) (f0 : w.frozen? ⟨B, 0, none⟩ = false) (f1 : w.frozen? ⟨B, 1, none⟩ = false) :
    Calls Tryd.prog 26 #[.iface 102 (.agg #[.string part, .iface 63 (.agg #[.int .i64 c, .int .i64 p])]), .iface 65 (.pointer (some ⟨B, 0, none⟩))] w fun ev w' => ev = .returned (.bool true) ∧ GotE w B c p w' := by
  have x59 := @run_callFunc_extern Tryd.prog 58 _ (fun args => ReflectliteValue.unpack (args.getD 0 (.tuple #[]))) Tryd.func58 (by kernel_rfl) (by kernel_rfl) (by kernel_rfl) (by kernel_rfl)
  have x60 := @run_callFunc_extern Tryd.prog 59 _ (ReflectliteValue.methodAny (ReflectliteValue.valueError "reflectlite.Value.Type" 0) (fun t _ _ _ => ReflectliteType.toType t)) Tryd.func59 (by kernel_rfl) (by kernel_rfl) (by kernel_rfl) (by kernel_rfl)
  have x61 := @run_callFunc_extern Tryd.prog 60 _ (ReflectliteValue.method (ReflectliteValue.valueError "reflectlite.Value.IsNil" 0) ReflectliteValue.isNil) Tryd.func60 (by kernel_rfl) (by kernel_rfl) (by kernel_rfl) (by kernel_rfl)
  have xk := @run_callFunc_extern Tryd.prog 170 _ (ReflectliteType.abiMethod fun t => do pure (.int .u8 (← Rtype.kind t))) Tryd.func170 (by kernel_rfl) (by kernel_rfl) (by kernel_rfl) (by kernel_rfl)
  have xe := @run_callFunc_extern Tryd.prog 182 _ (ReflectliteType.method ReflectliteType.elem) Tryd.func182 (by kernel_rfl) (by kernel_rfl) (by kernel_rfl) (by kernel_rfl)
  have xi := @run_callFunc_extern Tryd.prog 183 _ (ReflectliteType.relation "Implements" ReflectliteType.implements_) Tryd.func183 (by kernel_rfl) (by kernel_rfl) (by kernel_rfl) (by kernel_rfl)
  have xt := @run_callFunc_extern Tryd.prog 62 _ ReflectliteType.typeOf Tryd.func62 (by kernel_rfl) (by kernel_rfl) (by kernel_rfl) (by kernel_rfl)
  have xa := @run_callFunc_extern Tryd.prog 180 _ (ReflectliteType.relation "AssignableTo" ReflectliteType.assignableTo) Tryd.func180 (by kernel_rfl) (by kernel_rfl) (by kernel_rfl) (by kernel_rfl)
  have xv := @run_callFunc_extern Tryd.prog 91 _ (ReflectliteValue.method (ReflectliteValue.valueError "reflectlite.Value.Elem" 0) ReflectliteValue.elem) Tryd.func91 (by kernel_rfl) (by kernel_rfl) (by kernel_rfl) (by kernel_rfl)
  have xs := @run_callFunc_extern Tryd.prog 92 _ ReflectliteValue.set Tryd.func92 (by kernel_rfl) (by kernel_rfl) (by kernel_rfl) (by kernel_rfl)
  have y1 := Tryd.rValueOfP
  have y2 := Tryd.rTypeP
  have y3 := Tryd.rMethodKind
  have y4 := Tryd.rMethodElem
  have y5 := Tryd.rMethodImplements
  have y6 := Tryd.rKindP
  have y7 := Tryd.rKindF
  have y8 := Tryd.rElemP
  have y9 := Tryd.rImplementsF
  have z1 := Tryd.rTypeOfF
  have z2 := Tryd.rMethodAssignableTo
  have z3 := Tryd.rAssignableF
  have z4 := Tryd.rValueOfF
  have z5 := Tryd.rTypeOfW
  have z6 := Tryd.rAssignableW
  have a1 := run_typeAssert_lacksB (P := Tryd.prog) (t := 102) (z := .nilIface) Tryd.underlying162 (by kernel_rfl) (by kernel_rfl)
  have a2 := run_typeAssert_hasB (P := Tryd.prog) (t := 102) Tryd.underlying165 (by kernel_rfl)
  obtain ⟨W1, hW1⟩ : ∃ W, W = w.alloc (.cells #[.pointer (some ⟨B, 0, none⟩)] 65) := ⟨_, rfl⟩
  obtain ⟨W2, hW2⟩ : ∃ W, W = W1.alloc (.cells #[.pointer (some ⟨6, 65, none⟩), .pointer (some ⟨w.heap.size, 0, none⟩), .int .u64 150] 107) := ⟨_, rfl⟩
  obtain ⟨W3, hW3⟩ : ∃ W, W = W2.alloc (.cells #[.pointer (some ⟨6, 65, none⟩), .pointer (some ⟨w.heap.size, 0, none⟩), .int .u64 150] 107) := ⟨_, rfl⟩
  obtain ⟨W4, hW4⟩ : ∃ W, W = W3.alloc (.cells #[.string part, .iface 63 (.agg #[.int .i64 c, .int .i64 p])] 102) := ⟨_, rfl⟩
  obtain ⟨W5, hW5⟩ : ∃ W, W = W4.alloc (.cells #[.int .i64 c, .int .i64 p] 63) := ⟨_, rfl⟩
  have ptr1 : W1.cell? ⟨w.heap.size, 0, none⟩ = some (.pointer (some ⟨B, 0, none⟩)) := by rw [hW1, World.cell?_alloc_at _ _ _ _ rfl]; rfl
  have ptr2 : W2.cell? ⟨w.heap.size, 0, none⟩ = some (.pointer (some ⟨B, 0, none⟩)) := by rw [hW2]; exact cell_up _ ptr1
  have ptr3 : W3.cell? ⟨w.heap.size, 0, none⟩ = some (.pointer (some ⟨B, 0, none⟩)) := by rw [hW3]; exact cell_up _ ptr2
  have ptr4 : W4.cell? ⟨w.heap.size, 0, none⟩ = some (.pointer (some ⟨B, 0, none⟩)) := by rw [hW4]; exact cell_up _ ptr3
  have n8 := Tryd.rIsNilP ⟨w.heap.size, 0, none⟩ ⟨B, 0, none⟩ W2 ptr2
  have el := Tryd.rElemV ⟨w.heap.size, 0, none⟩ ⟨B, 0, none⟩ W4 ptr4
  have g2 : W2.cell? ⟨0, 0, none⟩ = some (.iface 158 (.agg #[.pointer (some ⟨6, 59, none⟩)])) := by rw [hW2, hW1]; exact cell_up _ (cell_up _ hg)
  have st := Tryd.rSetF B W4.heap.size c p o0 o1 W5 (by rw [hW5, World.cell?_alloc_at _ _ _ _ rfl]; rfl) (by rw [hW5, World.cell?_alloc_at _ _ _ _ rfl]; rfl)
    (by rw [hW5, hW4, hW3, hW2, hW1]; exact cell_up _ (cell_up _ (cell_up _ (cell_up _ (cell_up _ h0))))) (by rw [hW5, hW4, hW3, hW2, hW1]; exact cell_up _ (cell_up _ (cell_up _ (cell_up _ (cell_up _ h1)))))
    (by rw [hW5, hW4, hW3, hW2, hW1]; exact free_up _ (cell_up _ (cell_up _ (cell_up _ (cell_up _ h0)))) (free_up _ (cell_up _ (cell_up _ (cell_up _ h0))) (free_up _ (cell_up _ (cell_up _ h0)) (free_up _ (cell_up _ h0) (free_up _ h0 f0)))))
    (by rw [hW5, hW4, hW3, hW2, hW1]; exact free_up _ (cell_up _ (cell_up _ (cell_up _ (cell_up _ h1)))) (free_up _ (cell_up _ (cell_up _ (cell_up _ h1))) (free_up _ (cell_up _ (cell_up _ h1)) (free_up _ (cell_up _ h1) (free_up _ h1 f1)))))
  have HBB : Hid (Below w.heap.size w W5) := hid (by
    rw [hW5, hW4, hW3, hW2, hW1]
    exact (((((Below.refl _ _).alloc (Nat.le_refl _) _).alloc (by simp) _).alloc (by simp; omega) _).alloc (by simp; omega) _).alloc (by simp; omega) _)
  have q3 : W4.cell? ⟨w.heap.size + 1 + 1, 0, none⟩ = some (.pointer (some ⟨6, 65, none⟩)) ∧ W4.cell? ⟨w.heap.size + 1 + 1, 1, none⟩ = some (.pointer (some ⟨w.heap.size, 0, none⟩)) ∧ W4.cell? ⟨w.heap.size + 1 + 1, 2, none⟩ = some (.int .u64 150) := by
    have hs : W2.heap.size = w.heap.size + 1 + 1 := by rw [hW2, hW1]; simp
    refine ⟨?_, ?_, ?_⟩
    · rw [hW4]; refine cell_up _ ?_; rw [hW3, World.cell?_alloc_at _ _ _ _ hs.symm]; rfl
    · rw [hW4]; refine cell_up _ ?_; rw [hW3, World.cell?_alloc_at _ _ _ _ hs.symm]; rfl
    · rw [hW4]; refine cell_up _ ?_; rw [hW3, World.cell?_alloc_at _ _ _ _ hs.symm]; rfl
  obtain ⟨q3a, q3b, q3c⟩ := q3
  have hs4 : W4.heap.size = w.heap.size + 1 + 1 + 1 + 1 := by rw [hW4, hW3, hW2, hW1]; simp
  rw [hs4] at st
  rw [hW5] at st HBB
  rw [hW2, hW1] at n8 g2
  have z4' := z4 (.int .i64 c) (.int .i64 p) W4
  rw [hs4] at z4'
  have HW4 := hid hW4
  rw [hW3, hW2, hW1] at HW4
  clear hW5 hW4 hW3 hW2 hW1 ptr1 ptr2 ptr3 ptr4
  go_enter Tryd.func26, Tryd.ntmps26
  go_wp2
  refine wp_loop_rounds 2 ?_
  rw [rounds_succ]
  go_wp2
  rw [← HW4.out]
  clear z4
  rw [rounds_succ]
  go_wp2
  go_ret
  exact ⟨rfl, _, HBB.out, rfl⟩

end Go.Proofs.YtcdfoephhjacdaaDoor
