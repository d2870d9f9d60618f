/-
  No cell of these rows narrows 'for every input' (looked for: loops, veiled, ifaces, maps, wideKeys, modest, calm, conditions, laid).
  DERIVED. THE GIVEN ROWS OF THIS SEAT. 5 by the template 'for every input the law returns true; each argument reads behind the call as it read before'; 0 by the template 'total and deterministic' (their statements: YtliggcbiiaegeacTotals.lean).
  GIVEN WITH THE SEED: the statements are not yours to turn. If you find one false, say at which input.
  Laid BY PROGRAM, IN A SANDBOX (cutbox-rows.mjs): the forced cells as the released guide's own fill.sh prints them over the translation ca3ed4a71fc458f1… (all of the seat's roots in one cut). By AI agents, Wed Nov 11 2026. No macro, syntax, notation, axiom, sorry.
-/
import Derived.Test.YtliggcbiiaegeacChecked
import GoSem.Claim
import GoSem.ClaimJoined
import GoSem.ClaimMapViews
import Derived.JoinedTies
import Derived.KernelRfl
namespace Go.Proofs.Ytliggcbiiaegeac
/- THE CELL 'sum', in the pinned program and in every row, IS THE sha256 OF THE DUMP (.gsa) THAT YtliggcbiiaegeacProg.lean LOADS. Nothing in Lean hashes anything: it is a label: what it is worth is what the hold of that sum in a sandbox is worth. -/
noncomputable def Try.pinned : Pinned := { name := "ytliggcbiiaegeac", sum := "ca3ed4a71fc458f1bb5806ac4587ef122e8d674990ab6b4902ff8972d456c7fe", checked := Try.checked }
namespace Rows
def none {H : Type} : Left H := { results := [], args := [] }

/-- 'laws.FnExactVariables': WHATEVER THE INPUT: true; the input reads as it did. -/
def fnExactVariablesSpec : ChangeSpec := { name := "fnExactVariables", fn := fun _ => fun
  | [d] => { results := [.lit (.bool true)], args := [d] }
  | _ => none }
def fnExactVariablesRow : OpenClaim := { program := "ytliggcbiiaegeac", sum := "ca3ed4a71fc458f1bb5806ac4587ef122e8d674990ab6b4902ff8972d456c7fe", func := "loop.example/s01205/laws.FnExactVariables", spec := "fnExactVariables", plainKeys := false, apart := false }
def FnExactVariablesSaid : Prop := fnExactVariablesRow.holds Try.pinned (OpenSpec.ofChange fnExactVariablesSpec)

/-- ITS FALSE NEIGHBOUR: 'it returns false'. Refute it at one input. -/
def fnExactVariablesWrong : ChangeSpec := { name := "fnExactVariables", fn := fun _ => fun
  | [d] => { results := [.lit (.bool false)], args := [d] }
  | _ => none }
def FnExactVariablesWrongFalsely : Prop := fnExactVariablesRow.holds Try.pinned (OpenSpec.ofChange fnExactVariablesWrong)

/-- 'laws.FnExactPlanOK': WHATEVER THE INPUT: true; the input reads as it did. -/
def fnExactPlanOKSpec : ChangeSpec := { name := "fnExactPlanOK", fn := fun _ => fun
  | [d1, d2, d3] => { results := [.lit (.bool true)], args := [d1, d2, d3] }
  | _ => none }
def fnExactPlanOKRow : OpenClaim := { program := "ytliggcbiiaegeac", sum := "ca3ed4a71fc458f1bb5806ac4587ef122e8d674990ab6b4902ff8972d456c7fe", func := "loop.example/s01205/laws.FnExactPlanOK", spec := "fnExactPlanOK", unfollowed := true, recurses := true, plainKeys := false, apart := false }
def FnExactPlanOKSaid : Prop := fnExactPlanOKRow.holds Try.pinned (OpenSpec.ofChange fnExactPlanOKSpec)

/-- ITS FALSE NEIGHBOUR: 'it returns false'. Refute it at one input. -/
def fnExactPlanOKWrong : ChangeSpec := { name := "fnExactPlanOK", fn := fun _ => fun
  | [d1, d2, d3] => { results := [.lit (.bool false)], args := [d1, d2, d3] }
  | _ => none }
def FnExactPlanOKWrongFalsely : Prop := fnExactPlanOKRow.holds Try.pinned (OpenSpec.ofChange fnExactPlanOKWrong)

/-- 'laws.FnExactEliminate': WHATEVER THE INPUT: true; the input reads as it did. -/
def fnExactEliminateSpec : ChangeSpec := { name := "fnExactEliminate", fn := fun _ => fun
  | [d1, d2, d3] => { results := [.lit (.bool true)], args := [d1, d2, d3] }
  | _ => none }
def fnExactEliminateRow : OpenClaim := { program := "ytliggcbiiaegeac", sum := "ca3ed4a71fc458f1bb5806ac4587ef122e8d674990ab6b4902ff8972d456c7fe", func := "loop.example/s01205/laws.FnExactEliminate", spec := "fnExactEliminate", unfollowed := true, recurses := true, plainKeys := false, apart := false }
def FnExactEliminateSaid : Prop := fnExactEliminateRow.holds Try.pinned (OpenSpec.ofChange fnExactEliminateSpec)

/-- ITS FALSE NEIGHBOUR: 'it returns false'. Refute it at one input. -/
def fnExactEliminateWrong : ChangeSpec := { name := "fnExactEliminate", fn := fun _ => fun
  | [d1, d2, d3] => { results := [.lit (.bool false)], args := [d1, d2, d3] }
  | _ => none }
def FnExactEliminateWrongFalsely : Prop := fnExactEliminateRow.holds Try.pinned (OpenSpec.ofChange fnExactEliminateWrong)

/-- 'laws.FnExactReduce': WHATEVER THE INPUT: true; the input reads as it did. -/
def fnExactReduceSpec : ChangeSpec := { name := "fnExactReduce", fn := fun _ => fun
  | [d1, d2, d3] => { results := [.lit (.bool true)], args := [d1, d2, d3] }
  | _ => none }
def fnExactReduceRow : OpenClaim := { program := "ytliggcbiiaegeac", sum := "ca3ed4a71fc458f1bb5806ac4587ef122e8d674990ab6b4902ff8972d456c7fe", func := "loop.example/s01205/laws.FnExactReduce", spec := "fnExactReduce", recurses := true, plainKeys := false, apart := false }
def FnExactReduceSaid : Prop := fnExactReduceRow.holds Try.pinned (OpenSpec.ofChange fnExactReduceSpec)

/-- ITS FALSE NEIGHBOUR: 'it returns false'. Refute it at one input. -/
def fnExactReduceWrong : ChangeSpec := { name := "fnExactReduce", fn := fun _ => fun
  | [d1, d2, d3] => { results := [.lit (.bool false)], args := [d1, d2, d3] }
  | _ => none }
def FnExactReduceWrongFalsely : Prop := fnExactReduceRow.holds Try.pinned (OpenSpec.ofChange fnExactReduceWrong)

/-- 'laws.FnExactEnumerate': WHATEVER THE INPUT: true; the input reads as it did. -/
def fnExactEnumerateSpec : ChangeSpec := { name := "fnExactEnumerate", fn := fun _ => fun
  | [d1, d2, d3, d4] => { results := [.lit (.bool true)], args := [d1, d2, d3, d4] }
  | _ => none }
def fnExactEnumerateRow : OpenClaim := { program := "ytliggcbiiaegeac", sum := "ca3ed4a71fc458f1bb5806ac4587ef122e8d674990ab6b4902ff8972d456c7fe", func := "loop.example/s01205/laws.FnExactEnumerate", spec := "fnExactEnumerate", recurses := true, plainKeys := false, apart := false }
def FnExactEnumerateSaid : Prop := fnExactEnumerateRow.holds Try.pinned (OpenSpec.ofChange fnExactEnumerateSpec)

/-- ITS FALSE NEIGHBOUR: 'it returns false'. Refute it at one input. -/
def fnExactEnumerateWrong : ChangeSpec := { name := "fnExactEnumerate", fn := fun _ => fun
  | [d1, d2, d3, d4] => { results := [.lit (.bool false)], args := [d1, d2, d3, d4] }
  | _ => none }
def FnExactEnumerateWrongFalsely : Prop := fnExactEnumerateRow.holds Try.pinned (OpenSpec.ofChange fnExactEnumerateWrong)

/- THE SECOND FORM. 'bulk': how many values and letters a reading holds, each counted each time it is reached (what is shared counts as often as it is met; a slice's spare places count too). A statement '..UptoSaid' is the law's where the arguments, and the package variables that the reading takes, are together of bulk at most 1048576: NARROWER than '..Said'. Prove '..Said' where nothing that the law and all that it calls make is longer than what came in: it says more and counts as full. Else prove '..UptoSaid'. A law counts once. -/
mutual
def uptoBulk {H : Type} : DataW H → Nat
  | .lit (.string bytes) => bytes.length + 1
  | .lit _ => 1
  | .nil => 1
  | .ptr d => uptoBulk d + 1
  | .slice elems spare => uptoBulkAll elems + uptoBulkAll spare + 1
  | .agg parts => uptoBulkAll parts + 1
  | .iface _ d => uptoBulk d + 1
  | .map entries => uptoBulkEntries entries + 1
  | .held _ => 1
def uptoBulkAll {H : Type} : List (DataW H) → Nat
  | [] => 0
  | d :: r => uptoBulk d + uptoBulkAll r
def uptoBulkEntries {H : Type} : List (Lit × DataW H) → Nat
  | [] => 0
  | x :: r => uptoBulkEntry x + uptoBulkEntries r
def uptoBulkEntry {H : Type} : Lit × DataW H → Nat
  | (.string bytes, d) => bytes.length + uptoBulk d + 1
  | (_, d) => uptoBulk d + 1
 end
def uptoSmall : (H : Type) → List (DataW H) → Bool := fun _ ds => decide (uptoBulkAll ds ≤ 1048576)
def OpenSpec.upto (s : _root_.Go.ChangeSpec) : _root_.Go.OpenSpec := { _root_.Go.OpenSpec.ofChange s with cond := some uptoSmall }

/-- 'laws.FnExactVariables', WHERE WHAT IT READS IS OF BULK AT MOST 1048576: true; the input reads as it did. -/
def fnExactVariablesUptoRow : OpenClaim := { program := "ytliggcbiiaegeac", sum := "ca3ed4a71fc458f1bb5806ac4587ef122e8d674990ab6b4902ff8972d456c7fe", func := "loop.example/s01205/laws.FnExactVariables", spec := "fnExactVariables", plainKeys := false, apart := false, narrowed := true }
def FnExactVariablesUptoSaid : Prop := fnExactVariablesUptoRow.holds Try.pinned (OpenSpec.upto fnExactVariablesSpec)

/-- 'laws.FnExactPlanOK', WHERE WHAT IT READS IS OF BULK AT MOST 1048576: true; the input reads as it did. -/
def fnExactPlanOKUptoRow : OpenClaim := { program := "ytliggcbiiaegeac", sum := "ca3ed4a71fc458f1bb5806ac4587ef122e8d674990ab6b4902ff8972d456c7fe", func := "loop.example/s01205/laws.FnExactPlanOK", spec := "fnExactPlanOK", unfollowed := true, recurses := true, plainKeys := false, apart := false, narrowed := true }
def FnExactPlanOKUptoSaid : Prop := fnExactPlanOKUptoRow.holds Try.pinned (OpenSpec.upto fnExactPlanOKSpec)

/-- 'laws.FnExactEliminate', WHERE WHAT IT READS IS OF BULK AT MOST 1048576: true; the input reads as it did. -/
def fnExactEliminateUptoRow : OpenClaim := { program := "ytliggcbiiaegeac", sum := "ca3ed4a71fc458f1bb5806ac4587ef122e8d674990ab6b4902ff8972d456c7fe", func := "loop.example/s01205/laws.FnExactEliminate", spec := "fnExactEliminate", unfollowed := true, recurses := true, plainKeys := false, apart := false, narrowed := true }
def FnExactEliminateUptoSaid : Prop := fnExactEliminateUptoRow.holds Try.pinned (OpenSpec.upto fnExactEliminateSpec)

/-- 'laws.FnExactReduce', WHERE WHAT IT READS IS OF BULK AT MOST 1048576: true; the input reads as it did. -/
def fnExactReduceUptoRow : OpenClaim := { program := "ytliggcbiiaegeac", sum := "ca3ed4a71fc458f1bb5806ac4587ef122e8d674990ab6b4902ff8972d456c7fe", func := "loop.example/s01205/laws.FnExactReduce", spec := "fnExactReduce", recurses := true, plainKeys := false, apart := false, narrowed := true }
def FnExactReduceUptoSaid : Prop := fnExactReduceUptoRow.holds Try.pinned (OpenSpec.upto fnExactReduceSpec)

/-- 'laws.FnExactEnumerate', WHERE WHAT IT READS IS OF BULK AT MOST 1048576: true; the input reads as it did. -/
def fnExactEnumerateUptoRow : OpenClaim := { program := "ytliggcbiiaegeac", sum := "ca3ed4a71fc458f1bb5806ac4587ef122e8d674990ab6b4902ff8972d456c7fe", func := "loop.example/s01205/laws.FnExactEnumerate", spec := "fnExactEnumerate", recurses := true, plainKeys := false, apart := false, narrowed := true }
def FnExactEnumerateUptoSaid : Prop := fnExactEnumerateUptoRow.holds Try.pinned (OpenSpec.upto fnExactEnumerateSpec)

end Rows
end Go.Proofs.Ytliggcbiiaegeac
