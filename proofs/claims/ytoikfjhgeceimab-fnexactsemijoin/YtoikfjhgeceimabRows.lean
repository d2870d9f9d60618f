/-
  No cell of these rows narrows 'for every input' (looked for: loops, veiled, ifaces, maps, wideKeys, modest, calm, conditions, laid).
  DERIVED. THE GIVEN ROWS OF THIS SEAT. 9 by the template 'for every input the law returns true; each argument reads behind the call as it read before'; 0 by the template 'total and deterministic' (their statements: YtoikfjhgeceimabTotals.lean).
  GIVEN WITH THE SEED: the statements are not yours to turn. If you find one false, say at which input.
  Laid BY PROGRAM, IN A SANDBOX (cutbox-rows.mjs): the forced cells as the released guide's own fill.sh prints them over the translation cca969aefe7d8b7a… (all of the seat's roots in one cut). By AI agents, Wed Nov 11 2026. No macro, syntax, notation, axiom, sorry.
-/
import Derived.Test.YtoikfjhgeceimabChecked
import GoSem.Claim
import GoSem.ClaimJoined
import GoSem.ClaimMapViews
import Derived.JoinedTies
import Derived.KernelRfl
namespace Go.Proofs.Ytoikfjhgeceimab
/- THE CELL 'sum', in the pinned program and in every row, IS THE sha256 OF THE DUMP (.gsa) THAT YtoikfjhgeceimabProg.lean LOADS. Nothing in Lean hashes anything: it is a label: what it is worth is what the hold of that sum in a sandbox is worth. -/
noncomputable def Try.pinned : Pinned := { name := "ytoikfjhgeceimab", sum := "cca969aefe7d8b7aba66fa200b5c081a68ae5a3ac8c41067e6c096e850f45ee7", checked := Try.checked }
namespace Rows
def none {H : Type} : Left H := { results := [], args := [] }

/-- 'laws.FnExactMakeRat': WHATEVER THE INPUT: true; the input reads as it did. -/
def fnExactMakeRatSpec : ChangeSpec := { name := "fnExactMakeRat", fn := fun _ => fun
  | [d1, d2] => { results := [.lit (.bool true)], args := [d1, d2] }
  | _ => none }
def fnExactMakeRatRow : OpenClaim := { program := "ytoikfjhgeceimab", sum := "cca969aefe7d8b7aba66fa200b5c081a68ae5a3ac8c41067e6c096e850f45ee7", func := "loop.example/s01205/laws.FnExactMakeRat", spec := "fnExactMakeRat", recurses := true, apart := false }
def FnExactMakeRatSaid : Prop := fnExactMakeRatRow.holds Try.pinned (OpenSpec.ofChange fnExactMakeRatSpec)

/-- ITS FALSE NEIGHBOUR: 'it returns false'. Refute it at one input. -/
def fnExactMakeRatWrong : ChangeSpec := { name := "fnExactMakeRat", fn := fun _ => fun
  | [d1, d2] => { results := [.lit (.bool false)], args := [d1, d2] }
  | _ => none }
def FnExactMakeRatWrongFalsely : Prop := fnExactMakeRatRow.holds Try.pinned (OpenSpec.ofChange fnExactMakeRatWrong)

/-- 'laws.FnExactAddRat': WHATEVER THE INPUT: true; the input reads as it did. -/
def fnExactAddRatSpec : ChangeSpec := { name := "fnExactAddRat", fn := fun _ => fun
  | [d1, d2] => { results := [.lit (.bool true)], args := [d1, d2] }
  | _ => none }
def fnExactAddRatRow : OpenClaim := { program := "ytoikfjhgeceimab", sum := "cca969aefe7d8b7aba66fa200b5c081a68ae5a3ac8c41067e6c096e850f45ee7", func := "loop.example/s01205/laws.FnExactAddRat", spec := "fnExactAddRat", recurses := true, apart := false }
def FnExactAddRatSaid : Prop := fnExactAddRatRow.holds Try.pinned (OpenSpec.ofChange fnExactAddRatSpec)

/-- ITS FALSE NEIGHBOUR: 'it returns false'. Refute it at one input. -/
def fnExactAddRatWrong : ChangeSpec := { name := "fnExactAddRat", fn := fun _ => fun
  | [d1, d2] => { results := [.lit (.bool false)], args := [d1, d2] }
  | _ => none }
def FnExactAddRatWrongFalsely : Prop := fnExactAddRatRow.holds Try.pinned (OpenSpec.ofChange fnExactAddRatWrong)

/-- 'laws.FnExactCompareRat': WHATEVER THE INPUT: true; the input reads as it did. -/
def fnExactCompareRatSpec : ChangeSpec := { name := "fnExactCompareRat", fn := fun _ => fun
  | [d1, d2] => { results := [.lit (.bool true)], args := [d1, d2] }
  | _ => none }
def fnExactCompareRatRow : OpenClaim := { program := "ytoikfjhgeceimab", sum := "cca969aefe7d8b7aba66fa200b5c081a68ae5a3ac8c41067e6c096e850f45ee7", func := "loop.example/s01205/laws.FnExactCompareRat", spec := "fnExactCompareRat", recurses := true, apart := false }
def FnExactCompareRatSaid : Prop := fnExactCompareRatRow.holds Try.pinned (OpenSpec.ofChange fnExactCompareRatSpec)

/-- ITS FALSE NEIGHBOUR: 'it returns false'. Refute it at one input. -/
def fnExactCompareRatWrong : ChangeSpec := { name := "fnExactCompareRat", fn := fun _ => fun
  | [d1, d2] => { results := [.lit (.bool false)], args := [d1, d2] }
  | _ => none }
def FnExactCompareRatWrongFalsely : Prop := fnExactCompareRatRow.holds Try.pinned (OpenSpec.ofChange fnExactCompareRatWrong)

/-- 'laws.FnExactCoverOf': WHATEVER THE INPUT: true; the input reads as it did. -/
def fnExactCoverOfSpec : ChangeSpec := { name := "fnExactCoverOf", fn := fun _ => fun
  | [d1, d2] => { results := [.lit (.bool true)], args := [d1, d2] }
  | _ => none }
def fnExactCoverOfRow : OpenClaim := { program := "ytoikfjhgeceimab", sum := "cca969aefe7d8b7aba66fa200b5c081a68ae5a3ac8c41067e6c096e850f45ee7", func := "loop.example/s01205/laws.FnExactCoverOf", spec := "fnExactCoverOf", unfollowed := true, recurses := true, apart := false }
def FnExactCoverOfSaid : Prop := fnExactCoverOfRow.holds Try.pinned (OpenSpec.ofChange fnExactCoverOfSpec)

/-- ITS FALSE NEIGHBOUR: 'it returns false'. Refute it at one input. -/
def fnExactCoverOfWrong : ChangeSpec := { name := "fnExactCoverOf", fn := fun _ => fun
  | [d1, d2] => { results := [.lit (.bool false)], args := [d1, d2] }
  | _ => none }
def FnExactCoverOfWrongFalsely : Prop := fnExactCoverOfRow.holds Try.pinned (OpenSpec.ofChange fnExactCoverOfWrong)

/-- 'laws.FnExactDataOK': WHATEVER THE INPUT: true; the input reads as it did. -/
def fnExactDataOKSpec : ChangeSpec := { name := "fnExactDataOK", fn := fun _ => fun
  | [d] => { results := [.lit (.bool true)], args := [d] }
  | _ => none }
def fnExactDataOKRow : OpenClaim := { program := "ytoikfjhgeceimab", sum := "cca969aefe7d8b7aba66fa200b5c081a68ae5a3ac8c41067e6c096e850f45ee7", func := "loop.example/s01205/laws.FnExactDataOK", spec := "fnExactDataOK", apart := false }
def FnExactDataOKSaid : Prop := fnExactDataOKRow.holds Try.pinned (OpenSpec.ofChange fnExactDataOKSpec)

/-- ITS FALSE NEIGHBOUR: 'it returns false'. Refute it at one input. -/
def fnExactDataOKWrong : ChangeSpec := { name := "fnExactDataOK", fn := fun _ => fun
  | [d] => { results := [.lit (.bool false)], args := [d] }
  | _ => none }
def FnExactDataOKWrongFalsely : Prop := fnExactDataOKRow.holds Try.pinned (OpenSpec.ofChange fnExactDataOKWrong)

/-- 'laws.FnExactTableOK': WHATEVER THE INPUT: true; the input reads as it did. -/
def fnExactTableOKSpec : ChangeSpec := { name := "fnExactTableOK", fn := fun _ => fun
  | [d] => { results := [.lit (.bool true)], args := [d] }
  | _ => none }
def fnExactTableOKRow : OpenClaim := { program := "ytoikfjhgeceimab", sum := "cca969aefe7d8b7aba66fa200b5c081a68ae5a3ac8c41067e6c096e850f45ee7", func := "loop.example/s01205/laws.FnExactTableOK", spec := "fnExactTableOK", apart := false }
def FnExactTableOKSaid : Prop := fnExactTableOKRow.holds Try.pinned (OpenSpec.ofChange fnExactTableOKSpec)

/-- ITS FALSE NEIGHBOUR: 'it returns false'. Refute it at one input. -/
def fnExactTableOKWrong : ChangeSpec := { name := "fnExactTableOK", fn := fun _ => fun
  | [d] => { results := [.lit (.bool false)], args := [d] }
  | _ => none }
def FnExactTableOKWrongFalsely : Prop := fnExactTableOKRow.holds Try.pinned (OpenSpec.ofChange fnExactTableOKWrong)

/-- 'laws.FnExactProject': WHATEVER THE INPUT: true; the input reads as it did. -/
def fnExactProjectSpec : ChangeSpec := { name := "fnExactProject", fn := fun _ => fun
  | [d1, d2] => { results := [.lit (.bool true)], args := [d1, d2] }
  | _ => none }
def fnExactProjectRow : OpenClaim := { program := "ytoikfjhgeceimab", sum := "cca969aefe7d8b7aba66fa200b5c081a68ae5a3ac8c41067e6c096e850f45ee7", func := "loop.example/s01205/laws.FnExactProject", spec := "fnExactProject", unfollowed := true, recurses := true, apart := false }
def FnExactProjectSaid : Prop := fnExactProjectRow.holds Try.pinned (OpenSpec.ofChange fnExactProjectSpec)

/-- ITS FALSE NEIGHBOUR: 'it returns false'. Refute it at one input. -/
def fnExactProjectWrong : ChangeSpec := { name := "fnExactProject", fn := fun _ => fun
  | [d1, d2] => { results := [.lit (.bool false)], args := [d1, d2] }
  | _ => none }
def FnExactProjectWrongFalsely : Prop := fnExactProjectRow.holds Try.pinned (OpenSpec.ofChange fnExactProjectWrong)

/-- 'laws.FnExactSemijoin': WHATEVER THE INPUT: true; the input reads as it did. -/
def fnExactSemijoinSpec : ChangeSpec := { name := "fnExactSemijoin", fn := fun _ => fun
  | [d1, d2] => { results := [.lit (.bool true)], args := [d1, d2] }
  | _ => none }
def fnExactSemijoinRow : OpenClaim := { program := "ytoikfjhgeceimab", sum := "cca969aefe7d8b7aba66fa200b5c081a68ae5a3ac8c41067e6c096e850f45ee7", func := "loop.example/s01205/laws.FnExactSemijoin", spec := "fnExactSemijoin", unfollowed := true, recurses := true, apart := false }
def FnExactSemijoinSaid : Prop := fnExactSemijoinRow.holds Try.pinned (OpenSpec.ofChange fnExactSemijoinSpec)

/-- ITS FALSE NEIGHBOUR: 'it returns false'. Refute it at one input. -/
def fnExactSemijoinWrong : ChangeSpec := { name := "fnExactSemijoin", fn := fun _ => fun
  | [d1, d2] => { results := [.lit (.bool false)], args := [d1, d2] }
  | _ => none }
def FnExactSemijoinWrongFalsely : Prop := fnExactSemijoinRow.holds Try.pinned (OpenSpec.ofChange fnExactSemijoinWrong)

/-- 'laws.FnExactIntersect': WHATEVER THE INPUT: true; the input reads as it did. -/
def fnExactIntersectSpec : ChangeSpec := { name := "fnExactIntersect", fn := fun _ => fun
  | [d] => { results := [.lit (.bool true)], args := [d] }
  | _ => none }
def fnExactIntersectRow : OpenClaim := { program := "ytoikfjhgeceimab", sum := "cca969aefe7d8b7aba66fa200b5c081a68ae5a3ac8c41067e6c096e850f45ee7", func := "loop.example/s01205/laws.FnExactIntersect", spec := "fnExactIntersect", apart := false }
def FnExactIntersectSaid : Prop := fnExactIntersectRow.holds Try.pinned (OpenSpec.ofChange fnExactIntersectSpec)

/-- ITS FALSE NEIGHBOUR: 'it returns false'. Refute it at one input. -/
def fnExactIntersectWrong : ChangeSpec := { name := "fnExactIntersect", fn := fun _ => fun
  | [d] => { results := [.lit (.bool false)], args := [d] }
  | _ => none }
def FnExactIntersectWrongFalsely : Prop := fnExactIntersectRow.holds Try.pinned (OpenSpec.ofChange fnExactIntersectWrong)

/- THE SECOND FORM. 'bulk': how many values and letters a reading holds, each counted each time it is reached (what is shared counts as often as it is met; a slice's spare places count too). A statement '..UptoSaid' is the law's where the arguments, and the package variables that the reading takes, are together of bulk at most 1048576: NARROWER than '..Said'. Prove '..Said' where nothing that the law and all that it calls make is longer than what came in: it says more and counts as full. Else prove '..UptoSaid'. A law counts once. -/
mutual
def uptoBulk {H : Type} : DataW H → Nat
  | .lit (.string bytes) => bytes.length + 1
  | .lit _ => 1
  | .nil => 1
  | .ptr d => uptoBulk d + 1
  | .slice elems spare => uptoBulkAll elems + uptoBulkAll spare + 1
  | .agg parts => uptoBulkAll parts + 1
  | .iface _ d => uptoBulk d + 1
  | .map entries => uptoBulkEntries entries + 1
  | .held _ => 1
def uptoBulkAll {H : Type} : List (DataW H) → Nat
  | [] => 0
  | d :: r => uptoBulk d + uptoBulkAll r
def uptoBulkEntries {H : Type} : List (Lit × DataW H) → Nat
  | [] => 0
  | x :: r => uptoBulkEntry x + uptoBulkEntries r
def uptoBulkEntry {H : Type} : Lit × DataW H → Nat
  | (.string bytes, d) => bytes.length + uptoBulk d + 1
  | (_, d) => uptoBulk d + 1
 end
def uptoSmall : (H : Type) → List (DataW H) → Bool := fun _ ds => decide (uptoBulkAll ds ≤ 1048576)
def OpenSpec.upto (s : _root_.Go.ChangeSpec) : _root_.Go.OpenSpec := { _root_.Go.OpenSpec.ofChange s with cond := some uptoSmall }

/-- 'laws.FnExactMakeRat', WHERE WHAT IT READS IS OF BULK AT MOST 1048576: true; the input reads as it did. -/
def fnExactMakeRatUptoRow : OpenClaim := { program := "ytoikfjhgeceimab", sum := "cca969aefe7d8b7aba66fa200b5c081a68ae5a3ac8c41067e6c096e850f45ee7", func := "loop.example/s01205/laws.FnExactMakeRat", spec := "fnExactMakeRat", recurses := true, apart := false, narrowed := true }
def FnExactMakeRatUptoSaid : Prop := fnExactMakeRatUptoRow.holds Try.pinned (OpenSpec.upto fnExactMakeRatSpec)

/-- 'laws.FnExactAddRat', WHERE WHAT IT READS IS OF BULK AT MOST 1048576: true; the input reads as it did. -/
def fnExactAddRatUptoRow : OpenClaim := { program := "ytoikfjhgeceimab", sum := "cca969aefe7d8b7aba66fa200b5c081a68ae5a3ac8c41067e6c096e850f45ee7", func := "loop.example/s01205/laws.FnExactAddRat", spec := "fnExactAddRat", recurses := true, apart := false, narrowed := true }
def FnExactAddRatUptoSaid : Prop := fnExactAddRatUptoRow.holds Try.pinned (OpenSpec.upto fnExactAddRatSpec)

/-- 'laws.FnExactCompareRat', WHERE WHAT IT READS IS OF BULK AT MOST 1048576: true; the input reads as it did. -/
def fnExactCompareRatUptoRow : OpenClaim := { program := "ytoikfjhgeceimab", sum := "cca969aefe7d8b7aba66fa200b5c081a68ae5a3ac8c41067e6c096e850f45ee7", func := "loop.example/s01205/laws.FnExactCompareRat", spec := "fnExactCompareRat", recurses := true, apart := false, narrowed := true }
def FnExactCompareRatUptoSaid : Prop := fnExactCompareRatUptoRow.holds Try.pinned (OpenSpec.upto fnExactCompareRatSpec)

/-- 'laws.FnExactCoverOf', WHERE WHAT IT READS IS OF BULK AT MOST 1048576: true; the input reads as it did. -/
def fnExactCoverOfUptoRow : OpenClaim := { program := "ytoikfjhgeceimab", sum := "cca969aefe7d8b7aba66fa200b5c081a68ae5a3ac8c41067e6c096e850f45ee7", func := "loop.example/s01205/laws.FnExactCoverOf", spec := "fnExactCoverOf", unfollowed := true, recurses := true, apart := false, narrowed := true }
def FnExactCoverOfUptoSaid : Prop := fnExactCoverOfUptoRow.holds Try.pinned (OpenSpec.upto fnExactCoverOfSpec)

/-- 'laws.FnExactDataOK', WHERE WHAT IT READS IS OF BULK AT MOST 1048576: true; the input reads as it did. -/
def fnExactDataOKUptoRow : OpenClaim := { program := "ytoikfjhgeceimab", sum := "cca969aefe7d8b7aba66fa200b5c081a68ae5a3ac8c41067e6c096e850f45ee7", func := "loop.example/s01205/laws.FnExactDataOK", spec := "fnExactDataOK", apart := false, narrowed := true }
def FnExactDataOKUptoSaid : Prop := fnExactDataOKUptoRow.holds Try.pinned (OpenSpec.upto fnExactDataOKSpec)

/-- 'laws.FnExactTableOK', WHERE WHAT IT READS IS OF BULK AT MOST 1048576: true; the input reads as it did. -/
def fnExactTableOKUptoRow : OpenClaim := { program := "ytoikfjhgeceimab", sum := "cca969aefe7d8b7aba66fa200b5c081a68ae5a3ac8c41067e6c096e850f45ee7", func := "loop.example/s01205/laws.FnExactTableOK", spec := "fnExactTableOK", apart := false, narrowed := true }
def FnExactTableOKUptoSaid : Prop := fnExactTableOKUptoRow.holds Try.pinned (OpenSpec.upto fnExactTableOKSpec)

/-- 'laws.FnExactProject', WHERE WHAT IT READS IS OF BULK AT MOST 1048576: true; the input reads as it did. -/
def fnExactProjectUptoRow : OpenClaim := { program := "ytoikfjhgeceimab", sum := "cca969aefe7d8b7aba66fa200b5c081a68ae5a3ac8c41067e6c096e850f45ee7", func := "loop.example/s01205/laws.FnExactProject", spec := "fnExactProject", unfollowed := true, recurses := true, apart := false, narrowed := true }
def FnExactProjectUptoSaid : Prop := fnExactProjectUptoRow.holds Try.pinned (OpenSpec.upto fnExactProjectSpec)

/-- 'laws.FnExactSemijoin', WHERE WHAT IT READS IS OF BULK AT MOST 1048576: true; the input reads as it did. -/
def fnExactSemijoinUptoRow : OpenClaim := { program := "ytoikfjhgeceimab", sum := "cca969aefe7d8b7aba66fa200b5c081a68ae5a3ac8c41067e6c096e850f45ee7", func := "loop.example/s01205/laws.FnExactSemijoin", spec := "fnExactSemijoin", unfollowed := true, recurses := true, apart := false, narrowed := true }
def FnExactSemijoinUptoSaid : Prop := fnExactSemijoinUptoRow.holds Try.pinned (OpenSpec.upto fnExactSemijoinSpec)

/-- 'laws.FnExactIntersect', WHERE WHAT IT READS IS OF BULK AT MOST 1048576: true; the input reads as it did. -/
def fnExactIntersectUptoRow : OpenClaim := { program := "ytoikfjhgeceimab", sum := "cca969aefe7d8b7aba66fa200b5c081a68ae5a3ac8c41067e6c096e850f45ee7", func := "loop.example/s01205/laws.FnExactIntersect", spec := "fnExactIntersect", apart := false, narrowed := true }
def FnExactIntersectUptoSaid : Prop := fnExactIntersectUptoRow.holds Try.pinned (OpenSpec.upto fnExactIntersectSpec)

end Rows
end Go.Proofs.Ytoikfjhgeceimab
