import Derived.Below
import Derived.Carry
import Derived.ChangeSame
import Derived.ChangeVars
import Derived.Deep.DeepLaidRun
import Derived.Deep.Slices
import Derived.HandedShaped
import Derived.JoinedOf
import Derived.LaidHandle
import Derived.LaidLaws
import Derived.Lib.LaidTab
import Derived.Lib.SmallJoins
import Derived.OpenShut
import Derived.OpenVars
import Derived.ProofKit
import Derived.RowKit
import Derived.RowKitTokens
import Derived.SevenTiedAt
import Derived.Shelf.Vars
import Derived.Stop.Joined
import Derived.Stop.LaidErr
import Derived.Test.YtcdfoephhjacdaaGreatDoorCards
import Derived.Test.YtcdfoephhjacdaaGreatDoorRows
import Derived.Test.YtcdfoephhjacdaaGreatDoorTie
import Derived.Test.YtcdfoephhjacdaaGreatDoorR27
import Derived.Test.YtcdfoephhjacdaaGreatDoorR51
namespace Go.Proofs.YtcdfoephhjacdaaGreatDoor.FRound
open Go.ChangeShapes Go.WideShapes Go.ChangeAt Go.RowKit Go.Joins

theorem ownKP : ownKnob Tryz.prog.godebug = none := by kernel_rfl
theorem laidP : laidOutB Tryz.prog = true := by kernel_rfl
theorem et : Tryz.prog.globalNamed "errors.errorType" = some 1 := by kernel_rfl
theorem rt : (Tryz.prog.cutTypes.find? (·.1 == "internal/reflectlite.rtype")).map (·.2) = some 164 := by kernel_rfl
theorem oneRow : ((List.range 275).filter fun t => Tryz.prog.rowNamed t [101, 114, 114, 111, 114]) = [74] := by kernel_rfl
theorem tsize : Tryz.prog.types.size = 275 := by kernel_rfl
theorem rN : Tryz.prog.globalNamed "loop.example/s01205/impl.ringWords" = some 0 := by kernel_rfl
theorem rT : (Tryz.prog.globals[0]?).map (·.type) = some 84 := by kernel_rfl
theorem sN : Tryz.prog.globalNamed "loop.example/s01205/impl.symbols" = some 2 := by kernel_rfl
theorem sT : (Tryz.prog.globals[2]?).map (·.type) = some 153 := by kernel_rfl
theorem rE : Tryz.prog.cellsOf 9 = 1 := by kernel_rfl
theorem rC : Tryz.prog.cellsOf 84 = 4 := by kernel_rfl
theorem sC : Tryz.prog.cellsOf 153 = 6 := by kernel_rfl
theorem pow10 : (Rows.laid_internal_strconv_uint64pow10 : DataW Unit) = Lib.tabData .u64 Lib.pow10Tab := by kernel_rfl
theorem gN : Tryz.prog.globalNamed "internal/strconv.uint64pow10" = some 4 := by kernel_rfl
theorem gT : (Tryz.prog.globals[4]?).map (·.type) = some 210 := by kernel_rfl
theorem cE : Tryz.prog.cellsOf 191 = 1 := by kernel_rfl
theorem cT : Tryz.prog.cellsOf 210 = 20 := by kernel_rfl
theorem cellsU : Tryz.prog.cellsOf 5 = 1 := by kernel_rfl

theorem cells_of_strs {H : Type} {enc : TypeId × Value → H} {P : Program} {w : World} {base : Nat} {sp : Nat → Bool} {held : Bool} {fuel : Nat} {t e : TypeId} {n : Nat} {cs : List Value} {zs : List (List UInt8)} {p : List MemPlace}
    (ht : P.underlying t = some (.array n e)) (he : P.underlying e = some .string) (hce : P.cellsOf e = 1) (hct : P.cellsOf t = n)
    (h : DataW.trod enc P w base sp held fuel t cs = some (.agg (zs.map fun z => .lit (.string z)), p)) : cs = zs.map fun z => Value.string ⟨z.toArray⟩ := by
  cases fuel with
  | zero => simp [DataW.trod] at h
  | succ fuel =>
    simp only [DataW.trod, ht, hce, hct, Nat.mul_one] at h
    split at h
    · rename_i hl
      obtain ⟨xs, hm, hx⟩ := Option.map_eq_some_iff.1 h
      have hxs : xs.map (·.1) = zs.map fun z => (DataW.lit (.string z) : DataW H) := by
        have := congrArg Prod.fst hx
        simpa using this
      have hxl : xs.length = n := by simpa using Lib.mapM_length hm
      have hzl : zs.length = n := by
        have := congrArg List.length hxs
        simp at this
        omega
      apply List.ext_getElem?
      intro i
      by_cases hi : i < n
      · obtain ⟨b, hb, hf⟩ := Lib.mapM_at hm i i (by simp [hi])
        obtain ⟨s, hc, rfl, _⟩ := DataW.trod_string he hf
        have h1 : cs[i]? = some (.string s) := by
          have := congrArg (·[0]?) hc
          simpa [List.getElem?_take, List.getElem?_drop] using this
        have h2 : (xs.map (·.1))[i]? = some (DataW.lit (.string s.data.toList) : DataW H) := by simp [hb]
        rw [hxs] at h2
        simp only [List.getElem?_map, Option.map_eq_some_iff, DataW.lit.injEq, Lit.string.injEq] at h2
        obtain ⟨z', hz', rfl⟩ := h2
        simp [h1, hz']
      · rw [List.getElem?_eq_none (by omega), List.getElem?_eq_none (by simp; omega)]
    · cases h

theorem rg_of : ∀ k : Nat, k < 4 → ([[], [99, 111, 117, 110, 116], [115, 117, 109], [109, 105, 110]].map fun z : List UInt8 => Value.string ⟨z.toArray⟩)[k]? = some (.string (rgT k))
  | 0, _ => rfl
  | 1, _ => rfl
  | 2, _ => rfl
  | 3, _ => rfl
  | k + 4, h => by omega
theorem sy_of : ∀ k : Nat, k < 6 → ([[40], [41], [44], [59], [46], [58, 45]].map fun z : List UInt8 => Value.string ⟨z.toArray⟩)[k]? = some (.string (syT k))
  | 0, _ => rfl
  | 1, _ => rfl
  | 2, _ => rfl
  | 3, _ => rfl
  | 4, _ => rfl
  | 5, _ => rfl
  | k + 6, h => by omega
theorem rgw_of {W : World} (h : RgV W) : RgW W := fun k h1 h3 => by
  have := h k (by omega)
  rw [this]
  obtain rfl | rfl | rfl : k = 1 ∨ k = 2 ∨ k = 3 := by omega
  · rfl
  · rfl
  · rfl
theorem vars_of_laid {W : World} (h : laidMetH Tryz.prog Rows.fnRoundRow.laid W) : Lib.TabIs Tryz.prog W "internal/strconv.uint64pow10" .u64 Lib.pow10Tab ∧ SyV W ∧ RgV W ∧ ErrQ W := by
  have h' : laidMet Tryz.prog [("math/bits.deBruijn32tab", Rows.laid_math_bits_deBruijn32tab), ("math/bits.deBruijn64tab", Rows.laid_math_bits_deBruijn64tab), ("internal/strconv.uint64pow10", Rows.laid_internal_strconv_uint64pow10), ("unicode/utf8.acceptRanges", Rows.laid_unicode_utf8_acceptRanges), ("loop.example/s01205/impl.symbols", Rows.laid_loop_example_s01205_impl_symbols), ("loop.example/s01205/impl.ringWords", Rows.laid_loop_example_s01205_impl_ringWords), ("unicode/utf8.first", Rows.laid_unicode_utf8_first)] W ∧ handlesMet Tryz.prog [("errors.errorType", Rows.laid_errors_errorType)] W := h
  have h0 := laidMet.tail (laidMet.tail h'.1)
  have h2 := laidMet.tail (laidMet.tail h0)
  have h3 := laidMet.tail h2
  refine ⟨?_, ?_, ?_, ?_⟩
  · rw [pow10] at h0
    exact Lib.tabIs_of_head gN gT Tryz.underlying210 Tryz.underlying191 cE cT h0
  · obtain ⟨ps, ⟨g', t', cs, fuel, p, q, hg', ht', hvar, hd, _, _⟩, _⟩ := h2
    obtain rfl := Option.some.inj (sN.symm.trans hg')
    obtain rfl := Option.some.inj (sT.symm.trans ht')
    have hcs := cells_of_strs (zs := [[40], [41], [44], [59], [46], [58, 45]]) Tryz.underlying153 Tryz.underlying9 rE sC hd
    intro k hk6
    have hk := World.var?_cell sN hvar k
    rw [← Array.getElem?_toList, hcs] at hk
    exact hk.trans (sy_of k hk6)
  · obtain ⟨ps, ⟨g', t', cs, fuel, p, q, hg', ht', hvar, hd, _, _⟩, _⟩ := h3
    obtain rfl := Option.some.inj (rN.symm.trans hg')
    obtain rfl := Option.some.inj (rT.symm.trans ht')
    have hcs := cells_of_strs (zs := [[], [99, 111, 117, 110, 116], [115, 117, 109], [109, 105, 110]]) Tryz.underlying84 Tryz.underlying9 rE rC hd
    intro k hk4
    have hk := World.var?_cell rN hvar k
    rw [← Array.getElem?_toList, hcs] at hk
    exact hk.trans (rg_of k hk4)
  · obtain ⟨name, u, ty, e1, e2, e3, e4, e5⟩ := h'.2 _ (List.mem_singleton.2 rfl)
    have en : name = [101, 114, 114, 111, 114] := (Option.some.inj e1).symm
    subst en
    obtain rfl := Option.some.inj (rt.symm.trans e2)
    have hm : ty ∈ (List.range 275).filter fun t => Tryz.prog.rowNamed t [101, 114, 114, 111, 114] := List.mem_filter.2 ⟨List.mem_range.2 (by rw [← tsize]; exact e3), e4⟩
    rw [oneRow] at hm
    obtain rfl := List.mem_singleton.1 hm
    have hh : typeHandle Tryz.prog 74 = .pointer (some ⟨9, 74, none⟩) := by kernel_rfl
    rw [hh] at e5
    unfold ErrQ
    simpa using World.var?_cell et e5 0

def lit1 : DataW Unit → List Value
  | .lit (.int k z) => [Value.int k z]
  | .lit (.string z) => [Value.string ⟨z.toArray⟩]
  | _ => []
def lit2 : DataW Unit → List Value
  | .agg l => l.flatMap lit1
  | d => lit1 d
def litVals : DataW Unit → Array Value
  | .agg l => (l.flatMap lit2).toArray
  | _ => #[]
def laidWorld (w0 : World) : World :=
  let put (h : Array Obj) (g : Nat) (cs : Array Value) : Array Obj := h.modify g fun
    | .cells _ t frozen => .cells cs t frozen
    | o => o
  { w0 with heap := put (put (put (put (put (put (put (put w0.heap 7 (litVals Rows.laid_math_bits_deBruijn32tab)) 8 (litVals Rows.laid_math_bits_deBruijn64tab)) 4 (litVals Rows.laid_internal_strconv_uint64pow10)) 6 (litVals Rows.laid_unicode_utf8_acceptRanges)) 5 (litVals Rows.laid_unicode_utf8_first)) 2 (litVals Rows.laid_loop_example_s01205_impl_symbols)) 0 (litVals Rows.laid_loop_example_s01205_impl_ringWords)) 1 #[.iface 164 (.agg #[.pointer (some ⟨9, 74, none⟩)])] }
theorem laidWorld_met (os : Os) (args : Array Value) : laidMetH Tryz.prog Rows.fnRoundRow.laid ((laidWorld (World.holding Tryz.prog os ⟨#[], #[], []⟩)).forCall (fun _ _ => 0) ⟨#[], args, []⟩).memory :=
  laidMetH_of_parts (laidMet_of_run3 (l := [("math/bits.deBruijn32tab", Rows.laid_math_bits_deBruijn32tab), ("math/bits.deBruijn64tab", Rows.laid_math_bits_deBruijn64tab), ("internal/strconv.uint64pow10", Rows.laid_internal_strconv_uint64pow10), ("unicode/utf8.acceptRanges", Rows.laid_unicode_utf8_acceptRanges), ("loop.example/s01205/impl.symbols", Rows.laid_loop_example_s01205_impl_symbols), ("loop.example/s01205/impl.ringWords", Rows.laid_loop_example_s01205_impl_ringWords), ("unicode/utf8.first", Rows.laid_unicode_utf8_first)]) 10 (by kernel_rfl) (by kernel_rfl) (by kernel_rfl)) (by kernel_rfl)

theorem wit (os : Os) (H : Type) (enc : TypeId × Value → H) : ∃ (w : World) (tape : Tape) (i : Input), w.os = os ∧ (w.forCall tape i).Shaped Tryz.checked.prog ∧ i.vars = [] ∧ Input.okWide Tryz.checked.prog (w.forCall tape i) .any w.heap.size 3 i ∧
      ((Rows.fnRoundSpec.pre enc Tryz.checked.prog Tryz.f3 [] false (w.forCall tape i).memory i.args ∧ laidMetH Tryz.prog Rows.fnRoundRow.laid (w.forCall tape i).memory) ∧ sizedMet enc Tryz.checked.prog Tryz.f3 (OpenSpec.ofChange Rows.fnRoundSpec) false (w.forCall tape i).memory i.args) ∧ ({} : Assume).holds Tryz.checked.prog (lone (Frame.enter Tryz.checked.prog 3 i.args .normal) [] (w.forCall tape i)) :=
  ChangeSpec.witness_at (enc := enc) (C := Tryz.checked) (os := os) (X := fun w _ => laidMetH Tryz.prog Rows.fnRoundRow.laid w) false (laidWorld (World.holding Tryz.prog os ⟨#[], #[], []⟩)) #[.slice none 0 0] 8 rfl (by kernel_rfl) (by kernel_rfl) (by kernel_rfl) (by kernel_rfl) (by kernel_rfl) (laidWorld_met os _)

theorem maxLenCell {w : World} (h : w.ShapedOpen Tryz.prog) : ∃ m, w.cell? ⟨3, 0, none⟩ = some (.int .i64 m) :=
  cell_of_shapedOpen_int (zero := #[.int .i64 0]) h (of_decide_eq_true (by kernel_rfl)) (by kernel_rfl) rfl (by kernel_rfl) (by kernel_rfl) Tryz.underlying3
theorem addP (b o j : Nat) : (⟨b, o, none⟩ : Addr).add j = ⟨b, o + j, none⟩ := by unfold Addr.add; split <;> simp_all
theorem bytes_of_trod {H : Type} {enc : TypeId × Value → H} {W : World} {fuel : Nat} {a : Option Addr} {n cap : Nat} {x : DataW H × List MemPlace} (h : DataW.trod enc Tryz.prog W 0 (fun _ => true) true fuel 22 [.slice a n cap] = some x) :
    (∃ L : Nat → Int, Cod W a L n) ∧ n ≤ 9223372036854775807 := by
  rcases Go.Deep.open_slice1 Tryz.underlying22 cellsU h with ⟨hcs, _⟩ | ⟨a', len, cap', m, n', V, D, Pl, hcs, _, hl, hm, hmm, _, hV⟩
  · simp only [List.cons.injEq, and_true, Value.slice.injEq] at hcs
    obtain ⟨rfl, rfl, rfl⟩ := hcs
    exact ⟨⟨fun _ => 0, fun j hj => by omega⟩, by omega⟩
  · simp only [List.cons.injEq, and_true, Value.slice.injEq] at hcs
    obtain ⟨rfl, rfl, rfl⟩ := hcs
    rw [if_pos rfl] at hmm
    refine ⟨?_, by unfold maxLen at hm; omega⟩
    by_cases hn0 : n = 0
    · exact ⟨fun _ => 0, fun j hj => by omega⟩
    obtain ⟨b, o, spot⟩ := a'
    have hs : spot = none := World.cell?_spot (hV 0 (by omega)).1
    subst hs
    have hz : ∀ j, ∃ z : Int, j < n → W.cell? ⟨b, o + j, none⟩ = some (.int .u8 z) ∧ 0 ≤ z ∧ z < 256 := fun j => by
      by_cases hj : j < n
      · obtain ⟨h1, h2⟩ := hV j (by omega)
        obtain ⟨z, e0, _, hw⟩ := DataW.trod_int Tryz.underlying5 h2
        have ez : V j = .int .u8 z := by simpa using e0
        refine ⟨z, fun _ => ⟨?_, ?_⟩⟩
        · rw [← addP, h1, ez]
        · unfold Lit.wf at hw
          simp only [Bool.and_eq_true, decide_eq_true_eq] at hw
          have m0 : IntKind.min .u8 = 0 := by decide
          have m1 : IntKind.max .u8 = 255 := by decide
          omega
      · exact ⟨0, fun h => absurd h hj⟩
    refine ⟨fun j => (hz j).choose, fun j hj => ?_⟩
    obtain ⟨h1, h2⟩ := (hz j).choose_spec hj
    exact ⟨b, o, rfl, h1, h2⟩

set_option maxHeartbeats 8000000 in
set_option maxRecDepth 100000 in
theorem lifted (os : Os) (started : os.Started) (H : Type) (enc : TypeId × Value → H) :
    ReturnsInHanded {} Tryz.checked os 3 .any (fun w args => (Rows.fnRoundSpec.pre enc Tryz.prog Tryz.f3 [] false w args ∧ laidMetH Tryz.prog Rows.fnRoundRow.laid w) ∧ sizedMet enc Tryz.prog Tryz.f3 (OpenSpec.ofChange Rows.fnRoundSpec) false w args)
      (Rows.fnRoundSpec.post enc Tryz.prog Tryz.f3 false true false false) := by
  refine returnsInHanded_of_calls (C := Tryz.checked) ownKP started (by kernel_rfl) (wit os H enc) ?_
  intro w tape i _ hsh _ hok hpre _
  obtain ⟨_, _, _, fn', hfn', _, _, _, _, hval0⟩ := hok
  obtain rfl : fn' = Tryz.f3 := (Option.some.inj (Tryz.func3.symm.trans hfn')).symm
  obtain ⟨⟨⟨ds, gs, before, hw, _⟩, hL0⟩, _⟩ := hpre
  have hW := DataW.Whole.of_heap (w' := w.forCall tape i) (by rfl) hw
  obtain ⟨m, hm⟩ := maxLenCell hsh
  have hL : laidMetH Tryz.prog Rows.fnRoundRow.laid (w.forCall tape i) := laidMetH.of_heap (by rfl) hL0
  obtain ⟨hTb, hSy, hRg, hEr⟩ := vars_of_laid hL
  clear hL hL0
  refine Calls.mono (R := fun e W' => ∃ v, e = .returned v ∧ Rows.fnRoundSpec.post enc Tryz.prog Tryz.f3 false true false false (w.forCall tape i) i.args v W') ?_ fun e W' ⟨v, he, hp⟩ => by
    subst he
    exact ChangeSpec.post_blind hp
  generalize w.forCall tape i = W at *
  generalize i.args = args at *
  have hW' := hW
  obtain ⟨p, q, hA0, hV0, rfl, _, _⟩ := hW
  have hA : DataW.TrodAll enc Tryz.prog W 0 (fun _ => true) true Tryz.f3.params.toList args.toList ds p := hA0
  have hV : DataW.TrodVars enc Tryz.prog W (fun _ => true) ["loop.example/s01205/impl.ringWords", "loop.example/s01205/impl.symbols"] gs q := hV0
  rw [Tryz.params3] at hA
  obtain ⟨v0, vs0, d0, ds0, p0, q0, hargs, rfl, rfl, h0, r0⟩ := trodAll_cons hA
  obtain ⟨rfl, rfl, rfl⟩ := trodAll_nil r0
  obtain rfl : args = #[v0] := Array.ext' hargs
  obtain ⟨_, _, _, _, dv, _, _, _, _, _, dv1, _, rfl, -⟩ := trodVars_two hV
  have k0 := h0
  have lt0 : ∀ x ∈ p0, x.block < W.heap.size := by obtain ⟨m, hm⟩ := k0; exact DataW.trod_lt m _ _ _ hm
  have ho : Value.okWide Tryz.prog W .any w.heap.size 22 v0 := hval0 0 22 v0 (by rw [Tryz.params3]; rfl) rfl
  obtain ⟨a0, len0, cap0, rfl⟩ := okWide_slice Tryz.underlying22 ho
  obtain ⟨⟨L, i0⟩, f0⟩ := (by
    obtain ⟨fuel, hf⟩ := h0
    exact bytes_of_trod (by simpa [Value.cells] using hf) : (∃ L : Nat → Int, Cod W a0 L len0) ∧ len0 ≤ 9223372036854775807)
  refine (fnRound_walk drwC W a0 len0 cap0 L f0 (fun _ => i0) hTb (rgw_of hRg) hRg hSy hEr m hm).mono fun e W' ⟨he, bel⟩ => ?_
  subst he
  exact ⟨_, rfl, _, _, _, [], _, _, hW', trodAll_mk1 (shut_bool Tryz.underlying4 _), (trodAll_cons_mk (Below.trod laidP (by kernel_rfl) (of_decide_eq_true (by kernel_rfl)) k0 bel lt0) trodAll_mk0), Below.trodVars laidP bel (by kernel_rfl) hV, bel.frame _, fun h => by cases h⟩

theorem row_holds : Rows.FnRoundSaid :=
  OpenClaim.holds_of_wide 3 Tryz.f3 rfl rfl rfl rfl rfl rfl rfl ⟨rfl, rfl, rfl, rfl, rfl⟩ rfl rfl rfl rfl rfl (by kernel_rfl) Tryz.func3 (by kernel_rfl)
    (of_decide_eq_true (by kernel_rfl)) (by unfold Func.isWrapper; first | (rw [if_pos (by decide +kernel)]; kernel_rfl) | (rw [if_neg (by decide +kernel)]; exact ⟨rfl, rfl⟩))
    (fun os started H enc _ => lifted os started H enc)
end Go.Proofs.YtcdfoephhjacdaaGreatDoor.FRound
namespace Go.Proofs.YtcdfoephhjacdaaGreatDoor
theorem fnRound_card_holds : Rows.FnRoundCardSaid :=
  Claim7.holds_tied_plain_at .later [] [.data, .data, .data, .data, .handle, .data, .data, .pinned] true Rows.fnRoundCard.stood.harness true
    FRound.row_holds (fun _ h => by cases h) (by kernel_rfl) (fun _ h => by cases h) fnRound_row_tie rfl ⟨rfl, rfl⟩ (by kernel_rfl) rfl
    (fun f fn hf hfn => by
      obtain rfl : f = 3 := Option.some.inj ((show Tryz.prog.funcNamed "loop.example/s01205/laws.FnRound" = some 3 by kernel_rfl).symm.trans hf) |>.symm
      obtain rfl : fn = Tryz.f3 := (Option.some.inj (Tryz.func3.symm.trans hfn)).symm
      exact ⟨by kernel_rfl, fun j t ht => by
        rw [Tryz.params3] at ht
        have h3 : t = 22 := by
          rcases j with _ | j
          · simpa using ht.symm
          · simp at ht
        subst h3
        exact (show Tryz.prog.wantsStandIn 22 = false by kernel_rfl)⟩)
    (by kernel_rfl)
#print axioms fnRound_card_holds
end Go.Proofs.YtcdfoephhjacdaaGreatDoor
