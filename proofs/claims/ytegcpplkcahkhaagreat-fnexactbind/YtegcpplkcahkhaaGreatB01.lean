import Derived.BigQuiet
import Derived.Deep.QuietTactic
import Derived.Handy
import Derived.Test.YtegcpplkcahkhaaGreatProg
import Derived.WalkKit
import Derived.WalkLawsBesides
import Derived.WalkSpells
import Derived.Test.YtegcpplkcahkhaaGreatB00
namespace Go.Proofs.YtegcpplkcahkhaaGreat
open Go.RowKit

theorem hid {p : Prop} (h : p) : Hid p := h
theorem ret_int {k : IntKind} {a b : Int} (h : a = b) : Ending.returned (.int k a) = .returned (.int k b) := by rw [h]

theorem bcell {W w1 : World} (hb : Below W.heap.size W w1) : (∀ b o, b < W.heap.size → w1.cell? ⟨b, o, none⟩ = W.cell? ⟨b, o, none⟩) ∧ (∀ b o, b < W.heap.size → w1.frozen? ⟨b, o, none⟩ = W.frozen? ⟨b, o, none⟩) :=
  ⟨fun b o h => hb.cell (p := ⟨b, o, none⟩) h, fun b o h => hb.frozen (p := ⟨b, o, none⟩) h⟩

theorem below_alloc1 {w w' : World} {o : Obj} (hb : Below (w.alloc o).heap.size (w.alloc o) w') : Below w.heap.size w w' :=
  ((Below.refl _ _).alloc (Nat.le_refl _) _).trans (hb.mono (by simp))

theorem tdiv_bd (n g : Int) (hn : -9000000000000000000 ≤ n) (hn' : n ≤ 9000000000000000000) : -9000000000000000000 ≤ n.tdiv g ∧ n.tdiv g ≤ 9000000000000000000 := by
  have := RatM.tdiv_abs_le n g
  omega

end Go.Proofs.YtegcpplkcahkhaaGreat

namespace Go.Proofs.YtegcpplkcahkhaaGreat
open Go.RowKit

def RatArgs (n d : Int) : Prop := d ≠ 0 ∧ -1000000 ≤ n ∧ n ≤ 1000000 ∧ -1000000 ≤ d ∧ d ≤ 1000000

theorem bad_cases {n d : Int} (h : ¬ RatArgs n d) :
    d = 0 ∨ (d ≠ 0 ∧ n < -1000000) ∨ (d ≠ 0 ∧ -1000000 ≤ n ∧ 1000000 < n) ∨ (d ≠ 0 ∧ -1000000 ≤ n ∧ n ≤ 1000000 ∧ d < -1000000) ∨ (d ≠ 0 ∧ -1000000 ≤ n ∧ n ≤ 1000000 ∧ -1000000 ≤ d ∧ 1000000 < d) := by
  unfold RatArgs at h
  omega

end Go.Proofs.YtegcpplkcahkhaaGreat

namespace Go.Proofs.YtegcpplkcahkhaaGreat
open Go.RowKit

theorem between_yes (x lo hi : Int) (w : World) (h1 : lo ≤ x) (h2 : x ≤ hi) :
    Calls Tryz.prog 74 #[.int .i64 x, .int .i64 lo, .int .i64 hi] w fun e w' => e = .returned (.bool true) ∧ w' = w := by
  go_enter Tryz.func74, Tryz.ntmps74
  go_wp2
  go_ret
  exact ⟨rfl, rfl⟩

theorem bt {a b c : World} (h : Below a.heap.size a b) (k : Below b.heap.size b c) : Below a.heap.size a c := h.trans (k.mono h.size)

end Go.Proofs.YtegcpplkcahkhaaGreat
