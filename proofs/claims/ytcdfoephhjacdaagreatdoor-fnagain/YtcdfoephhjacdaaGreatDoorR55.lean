import Derived.Below
import Derived.Carry
import Derived.ChangeSame
import Derived.ChangeVars
import Derived.Deep.DeepLaidRun
import Derived.Deep.Slices
import Derived.HandedShaped
import Derived.JoinedOf
import Derived.LaidHandle
import Derived.LaidLaws
import Derived.Lib.LaidTab
import Derived.Lib.SmallJoins
import Derived.OpenShut
import Derived.OpenVars
import Derived.ProofKit
import Derived.RowKit
import Derived.RowKitTokens
import Derived.SevenTiedAt
import Derived.Shelf.Vars
import Derived.Stop.Joined
import Derived.Stop.LaidErr
import Derived.Test.YtcdfoephhjacdaaGreatDoorCards
import Derived.Test.YtcdfoephhjacdaaGreatDoorRows
import Derived.Test.YtcdfoephhjacdaaGreatDoorTie
import Derived.Test.YtcdfoephhjacdaaGreatDoorR27
import Derived.Test.YtcdfoephhjacdaaGreatDoorR54
namespace Go.Proofs.YtcdfoephhjacdaaGreatDoor.FAgain
open Go.ChangeShapes Go.WideShapes Go.ChangeAt Go.RowKit Go.Joins

theorem ownKP : ownKnob Tryz.prog.godebug = none := by kernel_rfl
theorem laidP : laidOutB Tryz.prog = true := by kernel_rfl
theorem pow10 : (Rows.laid_internal_strconv_uint64pow10 : DataW Unit) = Lib.tabData .u64 Lib.pow10Tab := by kernel_rfl
theorem gN : Tryz.prog.globalNamed "internal/strconv.uint64pow10" = some 4 := by kernel_rfl
theorem gT : (Tryz.prog.globals[4]?).map (·.type) = some 210 := by kernel_rfl
theorem cE : Tryz.prog.cellsOf 191 = 1 := by kernel_rfl
theorem cT : Tryz.prog.cellsOf 210 = 20 := by kernel_rfl
theorem cellsU : Tryz.prog.cellsOf 5 = 1 := by kernel_rfl

theorem tab_of_laid {W : World} (h : laidMetH Tryz.prog Rows.fnAgainRow.laid W) : Lib.TabIs Tryz.prog W "internal/strconv.uint64pow10" .u64 Lib.pow10Tab := by
  have h' : laidMet Tryz.prog [("math/bits.deBruijn32tab", Rows.laid_math_bits_deBruijn32tab), ("math/bits.deBruijn64tab", Rows.laid_math_bits_deBruijn64tab), ("internal/strconv.uint64pow10", Rows.laid_internal_strconv_uint64pow10), ("unicode/utf8.acceptRanges", Rows.laid_unicode_utf8_acceptRanges), ("unicode/utf8.first", Rows.laid_unicode_utf8_first)] W := by first | exact h | exact h.1
  have h0 := laidMet.tail (laidMet.tail h')
  rw [pow10] at h0
  exact Lib.tabIs_of_head gN gT Tryz.underlying210 Tryz.underlying191 cE cT h0

def lit1 : DataW Unit → List Value
  | .lit (.int k z) => [Value.int k z]
  | .lit (.string z) => [Value.string ⟨z.toArray⟩]
  | _ => []
def lit2 : DataW Unit → List Value
  | .agg l => l.flatMap lit1
  | d => lit1 d
def litVals : DataW Unit → Array Value
  | .agg l => (l.flatMap lit2).toArray
  | _ => #[]
def laidWorld (w0 : World) : World :=
  let put (h : Array Obj) (g : Nat) (cs : Array Value) : Array Obj := h.modify g fun
    | .cells _ t frozen => .cells cs t frozen
    | o => o
  { w0 with heap := put (put (put (put (put w0.heap 7 (litVals Rows.laid_math_bits_deBruijn32tab)) 8 (litVals Rows.laid_math_bits_deBruijn64tab)) 4 (litVals Rows.laid_internal_strconv_uint64pow10)) 6 (litVals Rows.laid_unicode_utf8_acceptRanges)) 5 (litVals Rows.laid_unicode_utf8_first) }
theorem laidWorld_met (os : Os) (args : Array Value) : laidMetH Tryz.prog Rows.fnAgainRow.laid ((laidWorld (World.holding Tryz.prog os ⟨#[], #[], []⟩)).forCall (fun _ _ => 0) ⟨#[], args, []⟩).memory :=
  laidMetH_of_parts (laidMet_of_run3 (l := [("math/bits.deBruijn32tab", Rows.laid_math_bits_deBruijn32tab), ("math/bits.deBruijn64tab", Rows.laid_math_bits_deBruijn64tab), ("internal/strconv.uint64pow10", Rows.laid_internal_strconv_uint64pow10), ("unicode/utf8.acceptRanges", Rows.laid_unicode_utf8_acceptRanges), ("unicode/utf8.first", Rows.laid_unicode_utf8_first)]) 10 (by kernel_rfl) (by kernel_rfl) (by kernel_rfl)) (by kernel_rfl)

theorem wit (os : Os) (H : Type) (enc : TypeId × Value → H) : ∃ (w : World) (tape : Tape) (i : Input), w.os = os ∧ (w.forCall tape i).Shaped Tryz.checked.prog ∧ i.vars = [] ∧ Input.okWide Tryz.checked.prog (w.forCall tape i) .any w.heap.size 4 i ∧
      ((Rows.fnAgainSpec.pre enc Tryz.checked.prog Tryz.f4 [] false (w.forCall tape i).memory i.args ∧ laidMetH Tryz.prog Rows.fnAgainRow.laid (w.forCall tape i).memory) ∧ sizedMet enc Tryz.checked.prog Tryz.f4 (OpenSpec.ofChange Rows.fnAgainSpec) false (w.forCall tape i).memory i.args) ∧ ({} : Assume).holds Tryz.checked.prog (lone (Frame.enter Tryz.checked.prog 4 i.args .normal) [] (w.forCall tape i)) :=
  ChangeSpec.witness_at (enc := enc) (C := Tryz.checked) (os := os) (X := fun w _ => laidMetH Tryz.prog Rows.fnAgainRow.laid w) false (laidWorld (World.holding Tryz.prog os ⟨#[], #[], []⟩)) #[.slice none 0 0, .slice none 0 0] 8 rfl (by kernel_rfl) (by kernel_rfl) (by kernel_rfl) (by kernel_rfl) (by kernel_rfl) (laidWorld_met os _)

theorem maxLenCell {w : World} (h : w.ShapedOpen Tryz.prog) : ∃ m, w.cell? ⟨3, 0, none⟩ = some (.int .i64 m) :=
  cell_of_shapedOpen_int (zero := #[.int .i64 0]) h (of_decide_eq_true (by kernel_rfl)) (by kernel_rfl) rfl (by kernel_rfl) (by kernel_rfl) Tryz.underlying3
theorem addP (b o j : Nat) : (⟨b, o, none⟩ : Addr).add j = ⟨b, o + j, none⟩ := by unfold Addr.add; split <;> simp_all
theorem bytes_of_trod {H : Type} {enc : TypeId × Value → H} {W : World} {fuel : Nat} {a : Option Addr} {n cap : Nat} {x : DataW H × List MemPlace} (h : DataW.trod enc Tryz.prog W 0 (fun _ => true) true fuel 22 [.slice a n cap] = some x) :
    (∃ L : Nat → Int, Cod W a L n) ∧ n ≤ 9223372036854775807 := by
  rcases Go.Deep.open_slice1 Tryz.underlying22 cellsU h with ⟨hcs, _⟩ | ⟨a', len, cap', m, n', V, D, Pl, hcs, _, hl, hm, hmm, _, hV⟩
  · simp only [List.cons.injEq, and_true, Value.slice.injEq] at hcs
    obtain ⟨rfl, rfl, rfl⟩ := hcs
    exact ⟨⟨fun _ => 0, fun j hj => by omega⟩, by omega⟩
  · simp only [List.cons.injEq, and_true, Value.slice.injEq] at hcs
    obtain ⟨rfl, rfl, rfl⟩ := hcs
    rw [if_pos rfl] at hmm
    refine ⟨?_, by unfold maxLen at hm; omega⟩
    by_cases hn0 : n = 0
    · exact ⟨fun _ => 0, fun j hj => by omega⟩
    obtain ⟨b, o, spot⟩ := a'
    have hs : spot = none := World.cell?_spot (hV 0 (by omega)).1
    subst hs
    have hz : ∀ j, ∃ z : Int, j < n → W.cell? ⟨b, o + j, none⟩ = some (.int .u8 z) ∧ 0 ≤ z ∧ z < 256 := fun j => by
      by_cases hj : j < n
      · obtain ⟨h1, h2⟩ := hV j (by omega)
        obtain ⟨z, e0, _, hw⟩ := DataW.trod_int Tryz.underlying5 h2
        have ez : V j = .int .u8 z := by simpa using e0
        refine ⟨z, fun _ => ⟨?_, ?_⟩⟩
        · rw [← addP, h1, ez]
        · unfold Lit.wf at hw
          simp only [Bool.and_eq_true, decide_eq_true_eq] at hw
          have m0 : IntKind.min .u8 = 0 := by decide
          have m1 : IntKind.max .u8 = 255 := by decide
          omega
      · exact ⟨0, fun h => absurd h hj⟩
    refine ⟨fun j => (hz j).choose, fun j hj => ?_⟩
    obtain ⟨h1, h2⟩ := (hz j).choose_spec hj
    exact ⟨b, o, rfl, h1, h2⟩

set_option maxHeartbeats 8000000 in
set_option maxRecDepth 100000 in
theorem lifted (os : Os) (started : os.Started) (H : Type) (enc : TypeId × Value → H) :
    ReturnsInHanded {} Tryz.checked os 4 .any (fun w args => (Rows.fnAgainSpec.pre enc Tryz.prog Tryz.f4 [] false w args ∧ laidMetH Tryz.prog Rows.fnAgainRow.laid w) ∧ sizedMet enc Tryz.prog Tryz.f4 (OpenSpec.ofChange Rows.fnAgainSpec) false w args)
      (Rows.fnAgainSpec.post enc Tryz.prog Tryz.f4 false true false false) := by
  refine returnsInHanded_of_calls (C := Tryz.checked) ownKP started (by kernel_rfl) (wit os H enc) ?_
  intro w tape i _ hsh _ hok hpre _
  obtain ⟨_, _, _, fn', hfn', _, _, _, _, hval0⟩ := hok
  obtain rfl : fn' = Tryz.f4 := (Option.some.inj (Tryz.func4.symm.trans hfn')).symm
  obtain ⟨⟨⟨ds, gs, before, hw, _⟩, hL0⟩, _⟩ := hpre
  have hW := DataW.Whole.of_heap (w' := w.forCall tape i) (by rfl) hw
  obtain ⟨m, hm⟩ := maxLenCell hsh
  have hL : laidMetH Tryz.prog Rows.fnAgainRow.laid (w.forCall tape i) := laidMetH.of_heap (by rfl) hL0
  have hTb := tab_of_laid hL
  clear hL hL0
  refine Calls.mono (R := fun e W' => ∃ v, e = .returned v ∧ Rows.fnAgainSpec.post enc Tryz.prog Tryz.f4 false true false false (w.forCall tape i) i.args v W') ?_ fun e W' ⟨v, he, hp⟩ => by
    subst he
    exact ChangeSpec.post_blind hp
  generalize w.forCall tape i = W at *
  generalize i.args = args at *
  have hW' := hW
  obtain ⟨p, q, hA0, hV, rfl, _, _⟩ := hW
  have hA : DataW.TrodAll enc Tryz.prog W 0 (fun _ => true) true Tryz.f4.params.toList args.toList ds p := hA0
  rw [Tryz.params4] at hA
  obtain ⟨v0, vs0, d0, ds0, p0, q0, hargs, rfl, rfl, h0, r0⟩ := trodAll_cons hA
  obtain ⟨v1, vs1, d1, ds1, p1, q1, rfl, rfl, rfl, h1, r1⟩ := trodAll_cons r0
  obtain ⟨rfl, rfl, rfl⟩ := trodAll_nil r1
  obtain rfl : args = #[v0, v1] := Array.ext' hargs
  obtain ⟨rfl, rfl⟩ := trodVars_none hV
  have k0 := h0
  have k1 := h1
  have lt0 : ∀ x ∈ p0, x.block < W.heap.size := by obtain ⟨m, hm⟩ := k0; exact DataW.trod_lt m _ _ _ hm
  have lt1 : ∀ x ∈ p1, x.block < W.heap.size := by obtain ⟨m, hm⟩ := k1; exact DataW.trod_lt m _ _ _ hm
  have ho : Value.okWide Tryz.prog W .any w.heap.size 22 v0 := hval0 0 22 v0 (by rw [Tryz.params4]; rfl) rfl
  have ho1 : Value.okWide Tryz.prog W .any w.heap.size 22 v1 := hval0 1 22 v1 (by rw [Tryz.params4]; rfl) rfl
  obtain ⟨a0, len0, cap0, rfl⟩ := okWide_slice Tryz.underlying22 ho
  obtain ⟨a1, len1, cap1, rfl⟩ := okWide_slice Tryz.underlying22 ho1
  obtain ⟨⟨L, i0⟩, f0⟩ := (by
    obtain ⟨fuel, hf⟩ := h0
    exact bytes_of_trod (by simpa [Value.cells] using hf) : (∃ L : Nat → Int, Cod W a0 L len0) ∧ len0 ≤ 9223372036854775807)
  obtain ⟨⟨L2, i1⟩, f1⟩ := (by
    obtain ⟨fuel, hf⟩ := h1
    exact bytes_of_trod (by simpa [Value.cells] using hf) : (∃ L : Nat → Int, Cod W a1 L len1) ∧ len1 ≤ 9223372036854775807)
  refine (fnAgain_walk drwCA W a0 len0 cap0 L a1 len1 cap1 L2 f0 f1 i0 i1 hTb m hm).mono fun e W' ⟨he, bel⟩ => ?_
  subst he
  exact ⟨_, rfl, _, _, _, [], _, [], hW', trodAll_mk1 (shut_bool Tryz.underlying4 _), (trodAll_cons_mk (Below.trod laidP (by kernel_rfl) (of_decide_eq_true (by kernel_rfl)) k0 bel lt0) (trodAll_cons_mk (Below.trod laidP (by kernel_rfl) (of_decide_eq_true (by kernel_rfl)) k1 bel lt1) trodAll_mk0)), rfl, bel.frame _, fun h => by cases h⟩

theorem row_holds : Rows.FnAgainSaid :=
  OpenClaim.holds_of_wide 4 Tryz.f4 rfl rfl rfl rfl rfl rfl rfl ⟨rfl, rfl, rfl, rfl, rfl⟩ rfl rfl rfl rfl rfl (by kernel_rfl) Tryz.func4 (by kernel_rfl)
    (of_decide_eq_true (by kernel_rfl)) (by unfold Func.isWrapper; first | (rw [if_pos (by decide +kernel)]; kernel_rfl) | (rw [if_neg (by decide +kernel)]; exact ⟨rfl, rfl⟩))
    (fun os started H enc _ => lifted os started H enc)
end Go.Proofs.YtcdfoephhjacdaaGreatDoor.FAgain
namespace Go.Proofs.YtcdfoephhjacdaaGreatDoor
theorem fnAgain_card_holds : Rows.FnAgainCardSaid :=
  Claim7.holds_tied_plain_at .later [] [.data, .data, .data, .data, .pinned] true Rows.fnAgainCard.stood.harness true
    FAgain.row_holds (fun _ h => by cases h) (by kernel_rfl) (fun _ h => by cases h) fnAgain_row_tie rfl ⟨rfl, rfl⟩ (by kernel_rfl) rfl
    (fun f fn hf hfn => by
      obtain rfl : f = 4 := Option.some.inj ((show Tryz.prog.funcNamed "loop.example/s01205/laws.FnAgain" = some 4 by kernel_rfl).symm.trans hf) |>.symm
      obtain rfl : fn = Tryz.f4 := (Option.some.inj (Tryz.func4.symm.trans hfn)).symm
      exact ⟨by kernel_rfl, fun j t ht => by
        rw [Tryz.params4] at ht
        have h3 : t = 22 := by
          rcases j with _ | _ | j
          · simpa using ht.symm
          · simpa using ht.symm
          · simp at ht
        subst h3
        exact (show Tryz.prog.wantsStandIn 22 = false by kernel_rfl)⟩)
    (by kernel_rfl)
#print axioms fnAgain_card_holds
end Go.Proofs.YtcdfoephhjacdaaGreatDoor
