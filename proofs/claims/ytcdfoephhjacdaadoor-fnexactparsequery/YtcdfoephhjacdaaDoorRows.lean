/-
  NARROWER THAN 'FOR EVERY INPUT', by the rows' own cells (each row's printed sentence says how): FnExactParseData: laid · FnExactParseQuery: laid.
  DERIVED. THE GIVEN ROWS OF THIS SEAT. 2 by the template 'for every input the law returns true; each argument reads behind the call as it read before'; 0 by the template 'total and deterministic' (their statements: YtcdfoephhjacdaaDoorTotals.lean).
  GIVEN WITH THE SEED: the statements are not yours to turn. If you find one false, say at which input.
  Laid BY PROGRAM, IN A SANDBOX (cutbox-rows.mjs): the forced cells as the released guide's own fill.sh prints them over the translation e3892aa5fe2a7b97… (all of the seat's roots in one cut). By AI agents, Wed Nov 11 2026. No macro, syntax, notation, axiom, sorry.
-/
import Derived.Test.YtcdfoephhjacdaaDoorChecked
import GoSem.PinnedTables
import GoSem.Claim
import GoSem.ClaimJoined
import GoSem.ClaimMapViews
import Derived.JoinedTies
import Derived.KernelRfl
namespace Go.Proofs.YtcdfoephhjacdaaDoor
/- THE CELL 'sum', in the pinned program and in every row, IS THE sha256 OF THE DUMP (.gsa) THAT YtcdfoephhjacdaaDoorProg.lean LOADS. Nothing in Lean hashes anything: it is a label: what it is worth is what the hold of that sum in a sandbox is worth. -/
noncomputable def Tryd.pinned : Pinned := { name := "ytcdfoephhjacdaadoor", sum := "e3892aa5fe2a7b978cb31c941f2c6ee81eed184277636a5abab147b2fad106e7", checked := Tryd.checked }
namespace Rows
def none {H : Type} : Left H := { results := [], args := [] }

/- WHAT THE LISTED PACKAGE-LEVEL VARIABLES READ AS WHEN THE CALL BEGINS. Each datum BY PROGRAM (the guide's laid-datum.mjs) off the statement by which the dump's own 'gosem.cut.vars' lays the variable. In a bare row this is a premise. The card (YtcdfoephhjacdaaDoorCards.lean) ties it to the program's text. -/
def laid_unicode_utf8_acceptRanges {H : Type} : DataW H := .agg [.agg [.lit (.int .u8 128), .lit (.int .u8 191)], .agg [.lit (.int .u8 160), .lit (.int .u8 191)], .agg [.lit (.int .u8 128), .lit (.int .u8 159)], .agg [.lit (.int .u8 144), .lit (.int .u8 191)], .agg [.lit (.int .u8 128), .lit (.int .u8 143)], .agg [.lit (.int .u8 0), .lit (.int .u8 0)], .agg [.lit (.int .u8 0), .lit (.int .u8 0)], .agg [.lit (.int .u8 0), .lit (.int .u8 0)], .agg [.lit (.int .u8 0), .lit (.int .u8 0)], .agg [.lit (.int .u8 0), .lit (.int .u8 0)], .agg [.lit (.int .u8 0), .lit (.int .u8 0)], .agg [.lit (.int .u8 0), .lit (.int .u8 0)], .agg [.lit (.int .u8 0), .lit (.int .u8 0)], .agg [.lit (.int .u8 0), .lit (.int .u8 0)], .agg [.lit (.int .u8 0), .lit (.int .u8 0)], .agg [.lit (.int .u8 0), .lit (.int .u8 0)]]
/-- One of Go's own tables, pinned by name: the form's constant. -/
def laid_unicode_utf8_first : DataW Unit := Go.Pinned.utf8First
def laid_errors_errorType {H : Type} : DataW H := .iface "internal/reflectlite.rtype" (.agg [.ptr (.lit (.string [101, 114, 114, 111, 114]))])
def laid_loop_example_s01205_impl_symbols {H : Type} : DataW H := .agg [.lit (.string [40]), .lit (.string [41]), .lit (.string [44]), .lit (.string [59]), .lit (.string [46]), .lit (.string [58, 45])]
def laid_loop_example_s01205_impl_ringWords {H : Type} : DataW H := .agg [.lit (.string []), .lit (.string [99, 111, 117, 110, 116]), .lit (.string [115, 117, 109]), .lit (.string [109, 105, 110])]

/-- 'laws.FnExactParseData': WHATEVER THE INPUT: true; the input reads as it did. -/
def fnExactParseDataSpec : ChangeSpec := { name := "fnExactParseData", fn := fun _ => fun
  | [d] => { results := [.lit (.bool true)], args := [d] }
  | _ => none }
def fnExactParseDataRow : OpenClaim := { program := "ytcdfoephhjacdaadoor", sum := "e3892aa5fe2a7b978cb31c941f2c6ee81eed184277636a5abab147b2fad106e7", func := "loop.example/s01205/laws.FnExactParseData", spec := "fnExactParseData", inPlace := ["internal/bytealg.CountString", "internal/bytealg.IndexByteString", "internal/bytealg.IndexString"], unfollowed := true, recurses := true, named := ["unicode/utf8.first", "unicode/utf8.acceptRanges", "internal/bytealg.MaxLen"], plainKeys := false, apart := false, laid := [("unicode/utf8.acceptRanges", laid_unicode_utf8_acceptRanges), ("unicode/utf8.first", laid_unicode_utf8_first)] }
def FnExactParseDataSaid : Prop := fnExactParseDataRow.holds Tryd.pinned (OpenSpec.ofChange fnExactParseDataSpec)

/-- ITS FALSE NEIGHBOUR: 'it returns false'. Refute it at one input. -/
def fnExactParseDataWrong : ChangeSpec := { name := "fnExactParseData", fn := fun _ => fun
  | [d] => { results := [.lit (.bool false)], args := [d] }
  | _ => none }
def FnExactParseDataWrongFalsely : Prop := fnExactParseDataRow.holds Tryd.pinned (OpenSpec.ofChange fnExactParseDataWrong)

/-- 'laws.FnExactParseQuery': WHATEVER THE INPUT: true; the input reads as it did. -/
def fnExactParseQuerySpec : ChangeSpec := { name := "fnExactParseQuery", vars := ["loop.example/s01205/impl.symbols", "loop.example/s01205/impl.ringWords"], fn := fun _ => fun
  | [d, g1, g2] => { results := [.lit (.bool true)], args := [d], vars := [g1, g2] }
  | _ => none }
def fnExactParseQueryRow : OpenClaim := { program := "ytcdfoephhjacdaadoor", sum := "e3892aa5fe2a7b978cb31c941f2c6ee81eed184277636a5abab147b2fad106e7", func := "loop.example/s01205/laws.FnExactParseQuery", spec := "fnExactParseQuery", inPlace := ["internal/bytealg.IndexByteString", "internal/bytealg.IndexString", "internal/reflectlite.ValueOf", "(internal/reflectlite.Value).Type", "(internal/reflectlite.Value).IsNil", "internal/reflectlite.TypeOf", "(internal/reflectlite.Value).Elem", "(internal/reflectlite.Value).Set"], unfollowed := true, recurses := true, named := ["loop.example/s01205/impl.symbols", "unicode/utf8.first", "unicode/utf8.acceptRanges", "loop.example/s01205/impl.ringWords", "errors.errorType", "internal/bytealg.MaxLen"], plainKeys := false, apart := false, laid := [("unicode/utf8.acceptRanges", laid_unicode_utf8_acceptRanges), ("errors.errorType", laid_errors_errorType), ("loop.example/s01205/impl.symbols", laid_loop_example_s01205_impl_symbols), ("loop.example/s01205/impl.ringWords", laid_loop_example_s01205_impl_ringWords), ("unicode/utf8.first", laid_unicode_utf8_first)] }
def FnExactParseQuerySaid : Prop := fnExactParseQueryRow.holds Tryd.pinned (OpenSpec.ofChange fnExactParseQuerySpec)

/-- ITS FALSE NEIGHBOUR: 'it returns false'. Refute it at one input. -/
def fnExactParseQueryWrong : ChangeSpec := { name := "fnExactParseQuery", vars := ["loop.example/s01205/impl.symbols", "loop.example/s01205/impl.ringWords"], fn := fun _ => fun
  | [d, g1, g2] => { results := [.lit (.bool false)], args := [d], vars := [g1, g2] }
  | _ => none }
def FnExactParseQueryWrongFalsely : Prop := fnExactParseQueryRow.holds Tryd.pinned (OpenSpec.ofChange fnExactParseQueryWrong)

/- THE SECOND FORM. 'bulk': how many values and letters a reading holds, each counted each time it is reached (what is shared counts as often as it is met; a slice's spare places count too). A statement '..UptoSaid' is the law's where the arguments, and the package variables that the reading takes, are together of bulk at most 1048576: NARROWER than '..Said'. Prove '..Said' where nothing that the law and all that it calls make is longer than what came in: it says more and counts as full. Else prove '..UptoSaid'. A law counts once. -/
mutual
def uptoBulk {H : Type} : DataW H → Nat
  | .lit (.string bytes) => bytes.length + 1
  | .lit _ => 1
  | .nil => 1
  | .ptr d => uptoBulk d + 1
  | .slice elems spare => uptoBulkAll elems + uptoBulkAll spare + 1
  | .agg parts => uptoBulkAll parts + 1
  | .iface _ d => uptoBulk d + 1
  | .map entries => uptoBulkEntries entries + 1
  | .held _ => 1
def uptoBulkAll {H : Type} : List (DataW H) → Nat
  | [] => 0
  | d :: r => uptoBulk d + uptoBulkAll r
def uptoBulkEntries {H : Type} : List (Lit × DataW H) → Nat
  | [] => 0
  | x :: r => uptoBulkEntry x + uptoBulkEntries r
def uptoBulkEntry {H : Type} : Lit × DataW H → Nat
  | (.string bytes, d) => bytes.length + uptoBulk d + 1
  | (_, d) => uptoBulk d + 1
 end
def uptoSmall : (H : Type) → List (DataW H) → Bool := fun _ ds => decide (uptoBulkAll ds ≤ 1048576)
def OpenSpec.upto (s : _root_.Go.ChangeSpec) : _root_.Go.OpenSpec := { _root_.Go.OpenSpec.ofChange s with cond := some uptoSmall }

/-- 'laws.FnExactParseData', WHERE WHAT IT READS IS OF BULK AT MOST 1048576: true; the input reads as it did. -/
def fnExactParseDataUptoRow : OpenClaim := { program := "ytcdfoephhjacdaadoor", sum := "e3892aa5fe2a7b978cb31c941f2c6ee81eed184277636a5abab147b2fad106e7", func := "loop.example/s01205/laws.FnExactParseData", spec := "fnExactParseData", inPlace := ["internal/bytealg.CountString", "internal/bytealg.IndexByteString", "internal/bytealg.IndexString"], unfollowed := true, recurses := true, named := ["unicode/utf8.first", "unicode/utf8.acceptRanges", "internal/bytealg.MaxLen"], plainKeys := false, apart := false, laid := [("unicode/utf8.acceptRanges", laid_unicode_utf8_acceptRanges), ("unicode/utf8.first", laid_unicode_utf8_first)], narrowed := true }
def FnExactParseDataUptoSaid : Prop := fnExactParseDataUptoRow.holds Tryd.pinned (OpenSpec.upto fnExactParseDataSpec)

/-- 'laws.FnExactParseQuery', WHERE WHAT IT READS IS OF BULK AT MOST 1048576: true; the input reads as it did. -/
def fnExactParseQueryUptoRow : OpenClaim := { program := "ytcdfoephhjacdaadoor", sum := "e3892aa5fe2a7b978cb31c941f2c6ee81eed184277636a5abab147b2fad106e7", func := "loop.example/s01205/laws.FnExactParseQuery", spec := "fnExactParseQuery", inPlace := ["internal/bytealg.IndexByteString", "internal/bytealg.IndexString", "internal/reflectlite.ValueOf", "(internal/reflectlite.Value).Type", "(internal/reflectlite.Value).IsNil", "internal/reflectlite.TypeOf", "(internal/reflectlite.Value).Elem", "(internal/reflectlite.Value).Set"], unfollowed := true, recurses := true, named := ["loop.example/s01205/impl.symbols", "unicode/utf8.first", "unicode/utf8.acceptRanges", "loop.example/s01205/impl.ringWords", "errors.errorType", "internal/bytealg.MaxLen"], plainKeys := false, apart := false, laid := [("unicode/utf8.acceptRanges", laid_unicode_utf8_acceptRanges), ("errors.errorType", laid_errors_errorType), ("loop.example/s01205/impl.symbols", laid_loop_example_s01205_impl_symbols), ("loop.example/s01205/impl.ringWords", laid_loop_example_s01205_impl_ringWords), ("unicode/utf8.first", laid_unicode_utf8_first)], narrowed := true }
def FnExactParseQueryUptoSaid : Prop := fnExactParseQueryUptoRow.holds Tryd.pinned (OpenSpec.upto fnExactParseQuerySpec)

end Rows
end Go.Proofs.YtcdfoephhjacdaaDoor
