import Derived.LaidEql
import Derived.RowKitTokens
import Derived.Stop.Asserts
import Derived.WalkKit
import Derived.Test.YtcdfoephhjacdaaGreatDoorR00
/-
  errors.As at a target of type *fault: nil; a fault; a fault within a part.
-/
namespace Go.Proofs.YtcdfoephhjacdaaGreatDoor
open Go.RowKit Go.Extern.Stop Go.Stop Go.Extern

theorem as_nil (t : Value) (w : World) :
    Calls Tryz.prog 28 #[.nilIface, t] w fun e w' => e = .returned (.bool false) ∧ w' = w := by
  go_enter Tryz.func28, Tryz.ntmps28
  go_wp2
  go_ret
  exact ⟨rfl, rfl⟩

theorem Tryz.rValueOfP (t : Addr) (w : World) : (ReflectliteValue.unpack (.iface 80 (.pointer (some t)))).run Tryz.prog w
    = .ok (.agg #[.pointer (some ⟨9, 80, none⟩), .pointer (some ⟨w.heap.size, 0, none⟩), .int .u64 150]) (w.alloc (.cells #[.pointer (some t)] 80)) := by kernel_rfl
theorem Tryz.rTypeP (a : Addr) (w : World) : (ReflectliteValue.methodAny (ReflectliteValue.valueError "reflectlite.Value.Type" 0) (fun t _ _ _ => ReflectliteType.toType t) #[.agg #[.pointer (some ⟨9, 80, none⟩), .pointer (some a), .int .u64 150]]).run Tryz.prog w
    = .ok (.iface 164 (.agg #[.pointer (some ⟨9, 80, none⟩)])) w := by kernel_rfl
theorem Tryz.rMethodKind (h : Value) (w : World) : (Go.method 375 164 (.agg #[h]) "Kind").run Tryz.prog w = .ok (171, h) w := by kernel_rfl
theorem Tryz.rKindP (w : World) : ((ReflectliteType.abiMethod fun t => (fun a : Nat => Value.int IntKind.u8 (a : Int)) <$> Rtype.kind t) #[.pointer (some ⟨9, 80, none⟩)]).run Tryz.prog w = .ok (.int .u8 22) w := by kernel_rfl
theorem Tryz.rKindF (w : World) : ((ReflectliteType.abiMethod fun t => (fun a : Nat => Value.int IntKind.u8 (a : Int)) <$> Rtype.kind t) #[.pointer (some ⟨9, 78, none⟩)]).run Tryz.prog w = .ok (.int .u8 25) w := by kernel_rfl

theorem rlm (z : Sem Value) (f : TypeId → Addr → Nat → Nat → Sem Value) (v : Value) :
    ReflectliteValue.method z f #[v] = (do match ← ReflectliteValue.parts v with | none => z | some (t, a, fl) => f t a fl (fl % 32)) := rfl
theorem Tryz.rPartsP (a : Addr) (w : World) : (ReflectliteValue.parts (.agg #[.pointer (some ⟨9, 80, none⟩), .pointer (some a), .int .u64 150])).run Tryz.prog w = .ok (some (80, a, 150)) w := by kernel_rfl
theorem Tryz.rIsNilP (a p : Addr) (W : World) (ha : W.cell? a = some (.pointer (some p))) :
    (ReflectliteValue.method (ReflectliteValue.valueError "reflectlite.Value.IsNil" 0) ReflectliteValue.isNil #[.agg #[.pointer (some ⟨9, 80, none⟩), .pointer (some a), .int .u64 150]]).run Tryz.prog W = .ok (.bool false) W := by
  rw [rlm]
  simp only [Sem.run_bind, Tryz.rPartsP, Result.andThen]
  simp [ReflectliteValue.isNil, loadVar, isAgg, underlying, Tryz.underlying80, ha, Result.andThen]

theorem Tryz.rMethodElem (h : Value) (w : World) : (Go.method 375 164 (.agg #[h]) "Elem").run Tryz.prog w = .ok (184, .agg #[h]) w := by kernel_rfl
theorem Tryz.rMethodImplements (h : Value) (w : World) : (Go.method 375 164 (.agg #[h]) "Implements").run Tryz.prog w = .ok (185, .agg #[h]) w := by kernel_rfl
theorem Tryz.rMethodAssignableTo (h : Value) (w : World) : (Go.method 375 164 (.agg #[h]) "AssignableTo").run Tryz.prog w = .ok (182, .agg #[h]) w := by kernel_rfl
theorem Tryz.rElemP (w : World) : (ReflectliteType.method ReflectliteType.elem #[.agg #[.pointer (some ⟨9, 80, none⟩)]]).run Tryz.prog w = .ok (.iface 164 (.agg #[.pointer (some ⟨9, 78, none⟩)])) w := by kernel_rfl
theorem Tryz.rImplementsF (w : World) : (ReflectliteType.relation "Implements" ReflectliteType.implements_ #[.agg #[.pointer (some ⟨9, 78, none⟩)], .iface 164 (.agg #[.pointer (some ⟨9, 74, none⟩)])]).run Tryz.prog w = .ok (.bool true) w := by kernel_rfl
theorem Tryz.rTypeOfF (v : Value) (w : World) : (ReflectliteType.typeOf #[.iface 78 v]).run Tryz.prog w = .ok (.iface 164 (.agg #[.pointer (some ⟨9, 78, none⟩)])) w := by kernel_rfl
theorem Tryz.rTypeOfW (v : Value) (w : World) : (ReflectliteType.typeOf #[.iface 109 v]).run Tryz.prog w = .ok (.iface 164 (.agg #[.pointer (some ⟨9, 109, none⟩)])) w := by kernel_rfl
theorem Tryz.rAssignableF (w : World) : (ReflectliteType.relation "AssignableTo" ReflectliteType.assignableTo #[.agg #[.pointer (some ⟨9, 78, none⟩)], .iface 164 (.agg #[.pointer (some ⟨9, 78, none⟩)])]).run Tryz.prog w = .ok (.bool true) w := by kernel_rfl
theorem Tryz.rAssignableW (w : World) : (ReflectliteType.relation "AssignableTo" ReflectliteType.assignableTo #[.agg #[.pointer (some ⟨9, 109, none⟩)], .iface 164 (.agg #[.pointer (some ⟨9, 78, none⟩)])]).run Tryz.prog w = .ok (.bool false) w := by kernel_rfl
theorem Tryz.rValueOfF (c p : Value) (w : World) : (ReflectliteValue.unpack (.iface 78 (.agg #[c, p]))).run Tryz.prog w
    = .ok (.agg #[.pointer (some ⟨9, 78, none⟩), .pointer (some ⟨w.heap.size, 0, none⟩), .int .u64 153]) (w.alloc (.cells #[c, p] 78)) := by kernel_rfl
theorem Tryz.rElemOfP (w : World) : (Rtype.elem? 80).run Tryz.prog w = .ok (some 78) w := by kernel_rfl
theorem Tryz.rMkF (p : Addr) (w : World) : (ReflectliteValue.mk 78 p ReflectliteValue.flagAddr).run Tryz.prog w = .ok (.agg #[.pointer (some ⟨9, 78, none⟩), .pointer (some p), .int .u64 409]) w := by kernel_rfl
theorem Tryz.rElemV (a p : Addr) (W : World) (ha : W.cell? a = some (.pointer (some p))) :
    (ReflectliteValue.method (ReflectliteValue.valueError "reflectlite.Value.Elem" 0) ReflectliteValue.elem #[.agg #[.pointer (some ⟨9, 80, none⟩), .pointer (some a), .int .u64 150]]).run Tryz.prog W
      = .ok (.agg #[.pointer (some ⟨9, 78, none⟩), .pointer (some p), .int .u64 409]) W := by
  rw [rlm]
  simp only [Sem.run_bind, Tryz.rPartsP, Result.andThen]
  simp [ReflectliteValue.elem, loadVar, isAgg, underlying, Tryz.underlying80, ha, Result.andThen, Tryz.rElemOfP, Tryz.rMkF]
theorem rls (v x : Value) : ReflectliteValue.set #[v, x] = (do
    let (some (dst, a, fl), some (src, b, _)) := (← ReflectliteValue.parts v, ← ReflectliteValue.parts x)
      | unsupported (.noEntry "extern/(internal/reflectlite.Value).Set.zeroValue")
    if fl / ReflectliteValue.flagAddr % 2 == 0 then unsupported (.noEntry "extern/(internal/reflectlite.Value).Set.unaddressable")
    let val ← loadVar src b
    if ← Rtype.directlyAssignable dst src then storeVar dst a val
    else if ← Rtype.implements dst src then
      if (← Rtype.kind src) == 20 then
        match val with
        | .nilIface => unsupported (.noEntry "extern/reflectlite: a nil value of one interface type handed on as a value of another")
        | _ => storeVar dst a val
      else storeVar dst a (.iface src val)
    else panicString ("reflectlite.Set: value of type " ++ (← Rtype.spelt src) ++ " is not assignable to type " ++ (← Rtype.spelt dst))
    pure (.tuple #[])) := rfl
theorem Tryz.rPartsFa (a : Addr) (w : World) : (ReflectliteValue.parts (.agg #[.pointer (some ⟨9, 78, none⟩), .pointer (some a), .int .u64 409])).run Tryz.prog w = .ok (some (78, a, 409)) w := by kernel_rfl
theorem Tryz.rPartsF (a : Addr) (w : World) : (ReflectliteValue.parts (.agg #[.pointer (some ⟨9, 78, none⟩), .pointer (some a), .int .u64 153])).run Tryz.prog w = .ok (some (78, a, 153)) w := by kernel_rfl
theorem Tryz.rDirectF (w : World) : (Rtype.directlyAssignable 78 78).run Tryz.prog w = .ok true w := by kernel_rfl

end Go.Proofs.YtcdfoephhjacdaaGreatDoor

/-
  errors.As: a fault; a fault within a part.
-/
namespace Go.Proofs.YtcdfoephhjacdaaGreatDoor
open Go.RowKit Go.Extern.Stop Go.Stop Go.Extern

theorem Tryz.rSizeF (w : World) : (sizeOf 78).run Tryz.prog w = .ok 2 w := by kernel_rfl
theorem Tryz.rAggF (w : World) : (isAgg 78).run Tryz.prog w = .ok true w := by kernel_rfl
theorem Tryz.rLoadF (B : Nat) (c p : Value) (W : World) (h0 : W.cell? ⟨B, 0, none⟩ = some c) (h1 : W.cell? ⟨B, 1, none⟩ = some p) : (loadVar 78 ⟨B, 0, none⟩).run Tryz.prog W = .ok (.agg #[c, p]) W := by
  unfold loadVar
  simp only [Sem.run_bind, Tryz.rAggF, Result.andThen, if_true, Tryz.rSizeF]
  simp [loadCells, loadCellsFrom, Addr.add, h0, h1, Result.andThen]
theorem Tryz.rStoreF (B : Nat) (c p : Int) (o0 o1 : Value) (W : World) (h0 : W.cell? ⟨B, 0, none⟩ = some o0) (h1 : W.cell? ⟨B, 1, none⟩ = some o1) (f0 : W.frozen? ⟨B, 0, none⟩ = false) (f1 : W.frozen? ⟨B, 1, none⟩ = false) :
    (storeVar 78 ⟨B, 0, none⟩ (.agg #[.int .i64 c, .int .i64 p])).run Tryz.prog W = .ok () ((W.setCell ⟨B, 0, none⟩ (.int .i64 c)).setCell ⟨B, 1, none⟩ (.int .i64 p)) := by
  have g1 : (W.setCell ⟨B, 0, none⟩ (.int .i64 c)).cell? ⟨B, 1, none⟩ = some o1 := (World.cell?_setCell_other _ _ _ _ (by simp)).trans h1
  have g2 : (W.setCell ⟨B, 0, none⟩ (.int .i64 c)).frozen? ⟨B, 1, none⟩ = false := by rw [World.frozen?_setCell]; exact f1
  unfold storeVar
  simp only [Sem.run_bind, Tryz.rSizeF, Result.andThen]
  simp [Value.cells, storeCells, Addr.add]
  rw [run_store Tryz.prog W ⟨B, 0, none⟩ _ _ (by rfl)]
  simp only [h0, f0, Bool.false_eq_true, if_false, Result.andThen]
  rw [run_store Tryz.prog _ ⟨B, 1, none⟩ _ _ (by rfl)]
  simp [g1, g2]
theorem Tryz.rSetF (B b : Nat) (c p : Int) (o0 o1 : Value) (W : World) (hb0 : W.cell? ⟨b, 0, none⟩ = some (.int .i64 c)) (hb1 : W.cell? ⟨b, 1, none⟩ = some (.int .i64 p)) (h0 : W.cell? ⟨B, 0, none⟩ = some o0) (h1 : W.cell? ⟨B, 1, none⟩ = some o1) (f0 : W.frozen? ⟨B, 0, none⟩ = false) (f1 : W.frozen? ⟨B, 1, none⟩ = false) :
    (ReflectliteValue.set #[.agg #[.pointer (some ⟨9, 78, none⟩), .pointer (some ⟨B, 0, none⟩), .int .u64 409], .agg #[.pointer (some ⟨9, 78, none⟩), .pointer (some ⟨b, 0, none⟩), .int .u64 153]]).run Tryz.prog W
      = .ok (.tuple #[]) ((W.setCell ⟨B, 0, none⟩ (.int .i64 c)).setCell ⟨B, 1, none⟩ (.int .i64 p)) := by
  rw [rls]
  simp only [Sem.run_bind, Tryz.rPartsFa, Tryz.rPartsF, Result.andThen]
  simp [ReflectliteValue.flagAddr, Result.andThen, Tryz.rLoadF b _ _ W hb0 hb1, Tryz.rDirectF, Tryz.rStoreF B c p o0 o1 W h0 h1 f0 f1]

/-- what errors.as does with a fault: the target gets it -/
def GotE (w : World) (B : Nat) (c p : Int) (w' : World) : Prop := ∃ w1, Below w.heap.size w w1 ∧ w' = (w1.setCell ⟨B, 0, none⟩ (.int .i64 c)).setCell ⟨B, 1, none⟩ (.int .i64 p)

theorem cell_up {W : World} {a : Addr} {v : Value} (o : Obj) (h : W.cell? a = some v) : (W.alloc o).cell? a = some v :=
  (World.cell?_alloc_lt _ _ a (World.block_lt_of_cell? W _ h)).trans h
theorem free_up {W : World} {a : Addr} {v : Value} (o : Obj) (h : W.cell? a = some v) (hf : W.frozen? a = false) : (W.alloc o).frozen? a = false :=
  (World.frozen?_alloc_old _ _ a (Nat.ne_of_lt (World.block_lt_of_cell? W _ h))).trans hf

set_option maxHeartbeats 8000000 in
set_option maxRecDepth 1000000 in
theorem as_fault (c p : Int) (B : Nat) (o0 o1 : Value) (w : World) (hg : w.cell? ⟨1, 0, none⟩ = some (.iface 164 (.agg #[.pointer (some ⟨9, 74, none⟩)])))
    (h0 : w.cell? ⟨B, 0, none⟩ = some o0) (h1 : w.cell? ⟨B, 1, none⟩ = some o1) (f0 : w.frozen? ⟨B, 0, none⟩ = false) (f1 : w.frozen? ⟨B, 1, none⟩ = false) :
    Calls Tryz.prog 28 #[.iface 78 (.agg #[.int .i64 c, .int .i64 p]), .iface 80 (.pointer (some ⟨B, 0, none⟩))] w fun ev w' => ev = .returned (.bool true) ∧ GotE w B c p w' := by
  have x59 := @run_callFunc_extern Tryz.prog 48 _ (fun args => ReflectliteValue.unpack (args.getD 0 (.tuple #[]))) Tryz.func48 (by kernel_rfl) (by kernel_rfl) (by kernel_rfl) (by kernel_rfl)
  have x60 := @run_callFunc_extern Tryz.prog 49 _ (ReflectliteValue.methodAny (ReflectliteValue.valueError "reflectlite.Value.Type" 0) (fun t _ _ _ => ReflectliteType.toType t)) Tryz.func49 (by kernel_rfl) (by kernel_rfl) (by kernel_rfl) (by kernel_rfl)
  have x61 := @run_callFunc_extern Tryz.prog 50 _ (ReflectliteValue.method (ReflectliteValue.valueError "reflectlite.Value.IsNil" 0) ReflectliteValue.isNil) Tryz.func50 (by kernel_rfl) (by kernel_rfl) (by kernel_rfl) (by kernel_rfl)
  have xk := @run_callFunc_extern Tryz.prog 171 _ (ReflectliteType.abiMethod fun t => do pure (.int .u8 (← Rtype.kind t))) Tryz.func171 (by kernel_rfl) (by kernel_rfl) (by kernel_rfl) (by kernel_rfl)
  have xe := @run_callFunc_extern Tryz.prog 184 _ (ReflectliteType.method ReflectliteType.elem) Tryz.func184 (by kernel_rfl) (by kernel_rfl) (by kernel_rfl) (by kernel_rfl)
  have xi := @run_callFunc_extern Tryz.prog 185 _ (ReflectliteType.relation "Implements" ReflectliteType.implements_) Tryz.func185 (by kernel_rfl) (by kernel_rfl) (by kernel_rfl) (by kernel_rfl)
  have xt := @run_callFunc_extern Tryz.prog 52 _ ReflectliteType.typeOf Tryz.func52 (by kernel_rfl) (by kernel_rfl) (by kernel_rfl) (by kernel_rfl)
  have xa := @run_callFunc_extern Tryz.prog 182 _ (ReflectliteType.relation "AssignableTo" ReflectliteType.assignableTo) Tryz.func182 (by kernel_rfl) (by kernel_rfl) (by kernel_rfl) (by kernel_rfl)
  have xv := @run_callFunc_extern Tryz.prog 82 _ (ReflectliteValue.method (ReflectliteValue.valueError "reflectlite.Value.Elem" 0) ReflectliteValue.elem) Tryz.func82 (by kernel_rfl) (by kernel_rfl) (by kernel_rfl) (by kernel_rfl)
  have xs := @run_callFunc_extern Tryz.prog 83 _ ReflectliteValue.set Tryz.func83 (by kernel_rfl) (by kernel_rfl) (by kernel_rfl) (by kernel_rfl)
  have y1 := Tryz.rValueOfP
  have y2 := Tryz.rTypeP
  have y3 := Tryz.rMethodKind
  have y4 := Tryz.rMethodElem
  have y5 := Tryz.rMethodImplements
  have y6 := Tryz.rKindP
  have y7 := Tryz.rKindF
  have y8 := Tryz.rElemP
  have y9 := Tryz.rImplementsF
  have z1 := Tryz.rTypeOfF
  have z2 := Tryz.rMethodAssignableTo
  have z3 := Tryz.rAssignableF
  have z4 := Tryz.rValueOfF
  obtain ⟨W1, hW1⟩ : ∃ W, W = w.alloc (.cells #[.pointer (some ⟨B, 0, none⟩)] 80) := ⟨_, rfl⟩
  obtain ⟨W2, hW2⟩ : ∃ W, W = W1.alloc (.cells #[.pointer (some ⟨9, 80, none⟩), .pointer (some ⟨w.heap.size, 0, none⟩), .int .u64 150] 114) := ⟨_, rfl⟩
  obtain ⟨W3, hW3⟩ : ∃ W, W = W2.alloc (.cells #[.pointer (some ⟨9, 80, none⟩), .pointer (some ⟨w.heap.size, 0, none⟩), .int .u64 150] 114) := ⟨_, rfl⟩
  obtain ⟨W4, hW4⟩ : ∃ W, W = W3.alloc (.cells #[.int .i64 c, .int .i64 p] 78) := ⟨_, rfl⟩
  have ptr1 : W1.cell? ⟨w.heap.size, 0, none⟩ = some (.pointer (some ⟨B, 0, none⟩)) := by rw [hW1, World.cell?_alloc_at _ _ _ _ rfl]; rfl
  have ptr2 : W2.cell? ⟨w.heap.size, 0, none⟩ = some (.pointer (some ⟨B, 0, none⟩)) := by rw [hW2]; exact cell_up _ ptr1
  have ptr3 : W3.cell? ⟨w.heap.size, 0, none⟩ = some (.pointer (some ⟨B, 0, none⟩)) := by rw [hW3]; exact cell_up _ ptr2
  have n8 := Tryz.rIsNilP ⟨w.heap.size, 0, none⟩ ⟨B, 0, none⟩ W2 ptr2
  have el := Tryz.rElemV ⟨w.heap.size, 0, none⟩ ⟨B, 0, none⟩ W3 ptr3
  have g2 : W2.cell? ⟨1, 0, none⟩ = some (.iface 164 (.agg #[.pointer (some ⟨9, 74, none⟩)])) := by rw [hW2, hW1]; exact cell_up _ (cell_up _ hg)
  have st := Tryz.rSetF B W3.heap.size c p o0 o1 W4 (by rw [hW4, World.cell?_alloc_at _ _ _ _ rfl]; rfl) (by rw [hW4, World.cell?_alloc_at _ _ _ _ rfl]; rfl)
    (by rw [hW4, hW3, hW2, hW1]; exact cell_up _ (cell_up _ (cell_up _ (cell_up _ h0)))) (by rw [hW4, hW3, hW2, hW1]; exact cell_up _ (cell_up _ (cell_up _ (cell_up _ h1))))
    (by rw [hW4, hW3, hW2, hW1]; exact free_up _ (cell_up _ (cell_up _ (cell_up _ h0))) (free_up _ (cell_up _ (cell_up _ h0)) (free_up _ (cell_up _ h0) (free_up _ h0 f0))))
    (by rw [hW4, hW3, hW2, hW1]; exact free_up _ (cell_up _ (cell_up _ (cell_up _ h1))) (free_up _ (cell_up _ (cell_up _ h1)) (free_up _ (cell_up _ h1) (free_up _ h1 f1))))
  have HBB : Hid (Below w.heap.size w W4) := hid (by
    rw [hW4, hW3, hW2, hW1]
    exact ((((Below.refl _ _).alloc (Nat.le_refl _) _).alloc (by simp) _).alloc (by simp; omega) _).alloc (by simp; omega) _)
  rw [hW4, hW3, hW2, hW1] at st
  rw [hW3, hW2, hW1] at el
  rw [hW2, hW1] at n8 g2
  simp only [World.size_alloc] at st
  rw [hW4, hW3, hW2, hW1] at HBB
  clear hW4 hW3 hW2 hW1 ptr1 ptr2 ptr3
  go_enter Tryz.func28, Tryz.ntmps28
  go_wp2
  refine wp_loop_rounds 1 ?_
  rw [rounds_succ]
  go_wp2
  go_ret
  exact ⟨rfl, _, HBB.out, rfl⟩

end Go.Proofs.YtcdfoephhjacdaaGreatDoor

namespace Go.Proofs.YtcdfoephhjacdaaGreatDoor
open Go.RowKit Go.Extern.Stop Go.Stop Go.Extern

set_option maxHeartbeats 8000000 in
set_option maxRecDepth 1000000 in
theorem as_within (part : ByteArray) (c p : Int) (B : Nat) (o0 o1 : Value) (w : World) (hg : w.cell? ⟨1, 0, none⟩ = some (.iface 164 (.agg #[.pointer (some ⟨9, 74, none⟩)])))
    (h0 : w.cell? ⟨B, 0, none⟩ = some o0) (h1 : w.cell? ⟨B, 1, none⟩ = some o1) (f0 : w.frozen? ⟨B, 0, none⟩ = false) (f1 : w.frozen? ⟨B, 1, none⟩ = false) :
    Calls Tryz.prog 28 #[.iface 109 (.agg #[.string part, .iface 78 (.agg #[.int .i64 c, .int .i64 p])]), .iface 80 (.pointer (some ⟨B, 0, none⟩))] w fun ev w' => ev = .returned (.bool true) ∧ GotE w B c p w' := by
  have x59 := @run_callFunc_extern Tryz.prog 48 _ (fun args => ReflectliteValue.unpack (args.getD 0 (.tuple #[]))) Tryz.func48 (by kernel_rfl) (by kernel_rfl) (by kernel_rfl) (by kernel_rfl)
  have x60 := @run_callFunc_extern Tryz.prog 49 _ (ReflectliteValue.methodAny (ReflectliteValue.valueError "reflectlite.Value.Type" 0) (fun t _ _ _ => ReflectliteType.toType t)) Tryz.func49 (by kernel_rfl) (by kernel_rfl) (by kernel_rfl) (by kernel_rfl)
  have x61 := @run_callFunc_extern Tryz.prog 50 _ (ReflectliteValue.method (ReflectliteValue.valueError "reflectlite.Value.IsNil" 0) ReflectliteValue.isNil) Tryz.func50 (by kernel_rfl) (by kernel_rfl) (by kernel_rfl) (by kernel_rfl)
  have xk := @run_callFunc_extern Tryz.prog 171 _ (ReflectliteType.abiMethod fun t => do pure (.int .u8 (← Rtype.kind t))) Tryz.func171 (by kernel_rfl) (by kernel_rfl) (by kernel_rfl) (by kernel_rfl)
  have xe := @run_callFunc_extern Tryz.prog 184 _ (ReflectliteType.method ReflectliteType.elem) Tryz.func184 (by kernel_rfl) (by kernel_rfl) (by kernel_rfl) (by kernel_rfl)
  have xi := @run_callFunc_extern Tryz.prog 185 _ (ReflectliteType.relation "Implements" ReflectliteType.implements_) Tryz.func185 (by kernel_rfl) (by kernel_rfl) (by kernel_rfl) (by kernel_rfl)
  have xt := @run_callFunc_extern Tryz.prog 52 _ ReflectliteType.typeOf Tryz.func52 (by kernel_rfl) (by kernel_rfl) (by kernel_rfl) (by kernel_rfl)
  have xa := @run_callFunc_extern Tryz.prog 182 _ (ReflectliteType.relation "AssignableTo" ReflectliteType.assignableTo) Tryz.func182 (by kernel_rfl) (by kernel_rfl) (by kernel_rfl) (by kernel_rfl)
  have xv := @run_callFunc_extern Tryz.prog 82 _ (ReflectliteValue.method (ReflectliteValue.valueError "reflectlite.Value.Elem" 0) ReflectliteValue.elem) Tryz.func82 (by kernel_rfl) (by kernel_rfl) (by kernel_rfl) (by kernel_rfl)
  have xs := @run_callFunc_extern Tryz.prog 83 _ ReflectliteValue.set Tryz.func83 (by kernel_rfl) (by kernel_rfl) (by kernel_rfl) (by kernel_rfl)
  have y1 := Tryz.rValueOfP
  have y2 := Tryz.rTypeP
  have y3 := Tryz.rMethodKind
  have y4 := Tryz.rMethodElem
  have y5 := Tryz.rMethodImplements
  have y6 := Tryz.rKindP
  have y7 := Tryz.rKindF
  have y8 := Tryz.rElemP
  have y9 := Tryz.rImplementsF
  have z1 := Tryz.rTypeOfF
  have z2 := Tryz.rMethodAssignableTo
  have z3 := Tryz.rAssignableF
  have z4 := Tryz.rValueOfF
  have z5 := Tryz.rTypeOfW
  have z6 := Tryz.rAssignableW
  have a1 := run_typeAssert_lacksB (P := Tryz.prog) (t := 109) (z := .nilIface) Tryz.underlying168 (by kernel_rfl) (by kernel_rfl)
  have a2 := run_typeAssert_hasB (P := Tryz.prog) (t := 109) Tryz.underlying171 (by kernel_rfl)
  obtain ⟨W1, hW1⟩ : ∃ W, W = w.alloc (.cells #[.pointer (some ⟨B, 0, none⟩)] 80) := ⟨_, rfl⟩
  obtain ⟨W2, hW2⟩ : ∃ W, W = W1.alloc (.cells #[.pointer (some ⟨9, 80, none⟩), .pointer (some ⟨w.heap.size, 0, none⟩), .int .u64 150] 114) := ⟨_, rfl⟩
  obtain ⟨W3, hW3⟩ : ∃ W, W = W2.alloc (.cells #[.pointer (some ⟨9, 80, none⟩), .pointer (some ⟨w.heap.size, 0, none⟩), .int .u64 150] 114) := ⟨_, rfl⟩
  obtain ⟨W4, hW4⟩ : ∃ W, W = W3.alloc (.cells #[.string part, .iface 78 (.agg #[.int .i64 c, .int .i64 p])] 109) := ⟨_, rfl⟩
  obtain ⟨W5, hW5⟩ : ∃ W, W = W4.alloc (.cells #[.int .i64 c, .int .i64 p] 78) := ⟨_, rfl⟩
  have ptr1 : W1.cell? ⟨w.heap.size, 0, none⟩ = some (.pointer (some ⟨B, 0, none⟩)) := by rw [hW1, World.cell?_alloc_at _ _ _ _ rfl]; rfl
  have ptr2 : W2.cell? ⟨w.heap.size, 0, none⟩ = some (.pointer (some ⟨B, 0, none⟩)) := by rw [hW2]; exact cell_up _ ptr1
  have ptr3 : W3.cell? ⟨w.heap.size, 0, none⟩ = some (.pointer (some ⟨B, 0, none⟩)) := by rw [hW3]; exact cell_up _ ptr2
  have ptr4 : W4.cell? ⟨w.heap.size, 0, none⟩ = some (.pointer (some ⟨B, 0, none⟩)) := by rw [hW4]; exact cell_up _ ptr3
  have n8 := Tryz.rIsNilP ⟨w.heap.size, 0, none⟩ ⟨B, 0, none⟩ W2 ptr2
  have el := Tryz.rElemV ⟨w.heap.size, 0, none⟩ ⟨B, 0, none⟩ W4 ptr4
  have g2 : W2.cell? ⟨1, 0, none⟩ = some (.iface 164 (.agg #[.pointer (some ⟨9, 74, none⟩)])) := by rw [hW2, hW1]; exact cell_up _ (cell_up _ hg)
  have st := Tryz.rSetF B W4.heap.size c p o0 o1 W5 (by rw [hW5, World.cell?_alloc_at _ _ _ _ rfl]; rfl) (by rw [hW5, World.cell?_alloc_at _ _ _ _ rfl]; rfl)
    (by rw [hW5, hW4, hW3, hW2, hW1]; exact cell_up _ (cell_up _ (cell_up _ (cell_up _ (cell_up _ h0))))) (by rw [hW5, hW4, hW3, hW2, hW1]; exact cell_up _ (cell_up _ (cell_up _ (cell_up _ (cell_up _ h1)))))
    (by rw [hW5, hW4, hW3, hW2, hW1]; exact free_up _ (cell_up _ (cell_up _ (cell_up _ (cell_up _ h0)))) (free_up _ (cell_up _ (cell_up _ (cell_up _ h0))) (free_up _ (cell_up _ (cell_up _ h0)) (free_up _ (cell_up _ h0) (free_up _ h0 f0)))))
    (by rw [hW5, hW4, hW3, hW2, hW1]; exact free_up _ (cell_up _ (cell_up _ (cell_up _ (cell_up _ h1)))) (free_up _ (cell_up _ (cell_up _ (cell_up _ h1))) (free_up _ (cell_up _ (cell_up _ h1)) (free_up _ (cell_up _ h1) (free_up _ h1 f1)))))
  have HBB : Hid (Below w.heap.size w W5) := hid (by
    rw [hW5, hW4, hW3, hW2, hW1]
    exact (((((Below.refl _ _).alloc (Nat.le_refl _) _).alloc (by simp) _).alloc (by simp; omega) _).alloc (by simp; omega) _).alloc (by simp; omega) _)
  have q3 : W4.cell? ⟨w.heap.size + 1 + 1, 0, none⟩ = some (.pointer (some ⟨9, 80, none⟩)) ∧ W4.cell? ⟨w.heap.size + 1 + 1, 1, none⟩ = some (.pointer (some ⟨w.heap.size, 0, none⟩)) ∧ W4.cell? ⟨w.heap.size + 1 + 1, 2, none⟩ = some (.int .u64 150) := by
    have hs : W2.heap.size = w.heap.size + 1 + 1 := by rw [hW2, hW1]; simp
    refine ⟨?_, ?_, ?_⟩
    · rw [hW4]; refine cell_up _ ?_; rw [hW3, World.cell?_alloc_at _ _ _ _ hs.symm]; rfl
    · rw [hW4]; refine cell_up _ ?_; rw [hW3, World.cell?_alloc_at _ _ _ _ hs.symm]; rfl
    · rw [hW4]; refine cell_up _ ?_; rw [hW3, World.cell?_alloc_at _ _ _ _ hs.symm]; rfl
  obtain ⟨q3a, q3b, q3c⟩ := q3
  have hs4 : W4.heap.size = w.heap.size + 1 + 1 + 1 + 1 := by rw [hW4, hW3, hW2, hW1]; simp
  rw [hs4] at st
  rw [hW5] at st HBB
  rw [hW2, hW1] at n8 g2
  have z4' := z4 (.int .i64 c) (.int .i64 p) W4
  rw [hs4] at z4'
  have HW4 := hid hW4
  rw [hW3, hW2, hW1] at HW4
  clear hW5 hW4 hW3 hW2 hW1 ptr1 ptr2 ptr3 ptr4
  go_enter Tryz.func28, Tryz.ntmps28
  go_wp2
  refine wp_loop_rounds 2 ?_
  rw [rounds_succ]
  go_wp2
  rw [← HW4.out]
  clear z4
  rw [rounds_succ]
  go_wp2
  go_ret
  exact ⟨rfl, _, HBB.out, rfl⟩

end Go.Proofs.YtcdfoephhjacdaaGreatDoor

/-
  errors.Is: a fault, a fault within a part, held against a fault.
-/
namespace Go.Proofs.YtcdfoephhjacdaaGreatDoor
open Go.RowKit Go.Extern.Stop Go.Stop Go.Extern

theorem Tryz.isComp : (Tryz.prog.info? 78).map (·.comparable) = some true := by kernel_rfl
theorem Tryz.eqFlt (W : World) (a b c d : Int) : (binOp .eql 74 (.iface 78 (.agg #[.int .i64 a, .int .i64 b])) (.iface 78 (.agg #[.int .i64 c, .int .i64 d]))).run Tryz.prog W = .ok (.bool (decide (a = c ∧ b = d))) W := by
  obtain ⟨i, hi, hcmp⟩ := Option.map_eq_some_iff.1 Tryz.isComp
  have h : (Op.equalIn 10000 74 (.iface 78 (.agg #[.int .i64 a, .int .i64 b])) (.iface 78 (.agg #[.int .i64 c, .int .i64 d]))).run Tryz.prog W = .ok (decide (a = c ∧ b = d)) W := by
    rw [show (10000 : Nat) = 9999 + 1 from rfl, Op.equalIn]
    simp only [Sem.run_bind, run_underlying Tryz.underlying74, Result.andThen]
    simp [typeInfo, hi, hcmp, go_sem]
    by_cases h1 : a = c <;> by_cases h2 : b = d <;> simp [h1, h2]
  simp only [binOp]
  simp [Op.equal, Op.maxDepth]
  rw [h]
  simp [Result.andThen]
theorem Tryz.rMethodComparable (h : Value) (w : World) : (Go.method 375 164 (.agg #[h]) "Comparable").run Tryz.prog w = .ok (183, .agg #[h]) w := by kernel_rfl
theorem Tryz.rCallComparable (w : World) : (callFunc 183 #[.agg #[.pointer (some ⟨9, 78, none⟩)]]).run Tryz.prog w = .ok (.value (.bool true)) w := by
  rw [@run_callFunc_extern Tryz.prog 183 _ (ReflectliteType.method fun t => do Rtype.noPackHeld "Comparable" t; pure (.bool (← typeInfo t).comparable)) Tryz.func183 (by kernel_rfl) (by kernel_rfl) (by kernel_rfl) (by kernel_rfl)]
  kernel_rfl
theorem Tryz.rMethodUnwrapW (v : Value) (w : World) : (Go.method 375 109 v "Unwrap").run Tryz.prog w = .ok (177, v) w := by kernel_rfl

set_option maxHeartbeats 4000000 in
set_option maxRecDepth 1000000 in
theorem is_fault (c p : Int) (w : World) :
    Calls Tryz.prog 29 #[.iface 78 (.agg #[.int .i64 c, .int .i64 p]), .iface 78 (.agg #[.int .i64 3, .int .i64 (-1)])] w fun e w' => e = .returned (.bool (decide (c = 3 ∧ p = -1))) ∧ Below w.heap.size w w' := by
  have xt := @run_callFunc_extern Tryz.prog 52 _ ReflectliteType.typeOf Tryz.func52 (by kernel_rfl) (by kernel_rfl) (by kernel_rfl) (by kernel_rfl)
  have z1 := Tryz.rTypeOfF
  have mC := Tryz.rMethodComparable
  have cC := Tryz.rCallComparable
  have heq := fun W => Tryz.eqFlt W c p 3 (-1)
  have a1 := run_typeAssert_lacksB (P := Tryz.prog) (t := 78) (z := .nilIface) Tryz.underlying176 (by kernel_rfl) (by kernel_rfl)
  have a2 := run_typeAssert_lacksB (P := Tryz.prog) (t := 78) (z := .nilIface) Tryz.underlying171 (by kernel_rfl) (by kernel_rfl)
  have a3 := run_typeAssert_lacksB (P := Tryz.prog) (t := 78) (z := .nilIface) Tryz.underlying173 (by kernel_rfl) (by kernel_rfl)
  cases hd : decide (c = 3 ∧ p = -1)
  all_goals
    rw [hd] at heq
    clear hd
    go_enter Tryz.func29, Tryz.ntmps29
    go_wp2
    refine wp_loop_rounds 1 ?_
    rw [rounds_succ]
    go_wp2
    go_ret
    exact ⟨rfl, Below.refl _ _⟩

set_option maxHeartbeats 4000000 in
set_option maxRecDepth 1000000 in
theorem is_within (part : ByteArray) (c p : Int) (w : World) :
    Calls Tryz.prog 29 #[.iface 109 (.agg #[.string part, .iface 78 (.agg #[.int .i64 c, .int .i64 p])]), .iface 78 (.agg #[.int .i64 3, .int .i64 (-1)])] w fun e w' => e = .returned (.bool (decide (c = 3 ∧ p = -1))) ∧ Below w.heap.size w w' := by
  have xt := @run_callFunc_extern Tryz.prog 52 _ ReflectliteType.typeOf Tryz.func52 (by kernel_rfl) (by kernel_rfl) (by kernel_rfl) (by kernel_rfl)
  have z1 := Tryz.rTypeOfF
  have mC := Tryz.rMethodComparable
  have cC := Tryz.rCallComparable
  have mU := Tryz.rMethodUnwrapW
  have heq := fun W => Tryz.eqFlt W c p 3 (-1)
  have hty := fun W => run_eql_iface_types (P := Tryz.prog) 109 78 (.agg #[.string part, .iface 78 (.agg #[.int .i64 c, .int .i64 p])]) (.agg #[.int .i64 3, .int .i64 (-1)]) Tryz.underlying74 (by decide) W
  have a1 := run_typeAssert_lacksB (P := Tryz.prog) (t := 78) (z := .nilIface) Tryz.underlying176 (by kernel_rfl) (by kernel_rfl)
  have a2 := run_typeAssert_lacksB (P := Tryz.prog) (t := 78) (z := .nilIface) Tryz.underlying171 (by kernel_rfl) (by kernel_rfl)
  have a3 := run_typeAssert_lacksB (P := Tryz.prog) (t := 78) (z := .nilIface) Tryz.underlying173 (by kernel_rfl) (by kernel_rfl)
  have b1 := run_typeAssert_lacksB (P := Tryz.prog) (t := 109) (z := .nilIface) Tryz.underlying176 (by kernel_rfl) (by kernel_rfl)
  have b2 := run_typeAssert_hasB (P := Tryz.prog) (t := 109) Tryz.underlying171 (by kernel_rfl)
  cases hd : decide (c = 3 ∧ p = -1)
  all_goals
    rw [hd] at heq
    clear hd
    go_enter Tryz.func29, Tryz.ntmps29
    go_wp2
    refine wp_loop_rounds 2 ?_
    rw [rounds_succ]
    go_wp2
    rw [rounds_succ]
    go_wp2
    go_ret
    first | exact ⟨rfl, Below.refl _ _⟩ | exact ⟨rfl, (Below.refl _ _).alloc (Nat.le_refl _) _⟩

end Go.Proofs.YtcdfoephhjacdaaGreatDoor
