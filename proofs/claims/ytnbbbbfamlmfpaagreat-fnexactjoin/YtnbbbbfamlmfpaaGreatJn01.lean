import Derived.BigQuiet
import Derived.Deep.QuietTactic
import Derived.Handy
import Derived.Test.YtnbbbbfamlmfpaaGreatProg
import Derived.WalkKit
import Derived.WalkLawsBesides
import Derived.WalkSpells
import Derived.Test.YtnbbbbfamlmfpaaGreatJn00
namespace Go.Proofs.YtnbbbbfamlmfpaaGreat
open Go.RowKit

theorem hid {p : Prop} (h : p) : Hid p := h
theorem ret_int {k : IntKind} {a b : Int} (h : a = b) : Ending.returned (.int k a) = .returned (.int k b) := by rw [h]

end Go.Proofs.YtnbbbbfamlmfpaaGreat

namespace Go.Proofs.YtnbbbbfamlmfpaaGreat
open Go.RowKit

end Go.Proofs.YtnbbbbfamlmfpaaGreat

namespace Go.Proofs.YtnbbbbfamlmfpaaGreat
open Go.RowKit

theorem between_yes (x lo hi : Int) (w : World) (h1 : lo ≤ x) (h2 : x ≤ hi) :
    Calls Tryz.prog 46 #[.int .i64 x, .int .i64 lo, .int .i64 hi] w fun e w' => e = .returned (.bool true) ∧ w' = w := by
  go_enter Tryz.func46, Tryz.ntmps46
  go_wp2
  go_ret
  exact ⟨rfl, rfl⟩

theorem bt {a b c : World} (h : Below a.heap.size a b) (k : Below b.heap.size b c) : Below a.heap.size a c := h.trans (k.mono h.size)

end Go.Proofs.YtnbbbbfamlmfpaaGreat

namespace Go.Proofs.YtnbbbbfamlmfpaaGreat
open Go.RowKit

end Go.Proofs.YtnbbbbfamlmfpaaGreat
