import Derived.Below
import Derived.Carry
import Derived.ChangeSame
import Derived.ChangeVars
import Derived.Deep.DeepLaidRun
import Derived.Deep.Slices
import Derived.JoinedOf
import Derived.LaidHandle
import Derived.LaidLaws
import Derived.Lib.LaidTab
import Derived.Lib.SmallJoins
import Derived.OpenShut
import Derived.OpenVars
import Derived.ProofKit
import Derived.RowKit
import Derived.RowKitTokens
import Derived.SevenTiedAt
import Derived.Stop.Joined
import Derived.Stop.LaidErr
import Derived.Test.YtcdfoephhjacdaaDoorCards
import Derived.Test.YtcdfoephhjacdaaDoorRows
import Derived.Test.YtcdfoephhjacdaaDoorTie
import Derived.Test.YtcdfoephhjacdaaDoorQ85
namespace Go.Proofs.YtcdfoephhjacdaaDoor.FParseQuery
open Go.ChangeShapes Go.WideShapes Go.ChangeAt Go.RowKit Go.Joins

theorem ownKP : ownKnob Tryd.prog.godebug = none := by kernel_rfl
theorem laidP : laidOutB Tryd.prog = true := by kernel_rfl
theorem et : Tryd.prog.globalNamed "errors.errorType" = some 0 := by kernel_rfl
theorem rt : (Tryd.prog.cutTypes.find? (·.1 == "internal/reflectlite.rtype")).map (·.2) = some 158 := by kernel_rfl
theorem oneRow : ((List.range 263).filter fun t => Tryd.prog.rowNamed t [101, 114, 114, 111, 114]) = [59] := by kernel_rfl
theorem tsize : Tryd.prog.types.size = 263 := by kernel_rfl
theorem rN : Tryd.prog.globalNamed "loop.example/s01205/impl.ringWords" = some 5 := by kernel_rfl
theorem rT : (Tryd.prog.globals[5]?).map (·.type) = some 225 := by kernel_rfl
theorem sN : Tryd.prog.globalNamed "loop.example/s01205/impl.symbols" = some 1 := by kernel_rfl
theorem sT : (Tryd.prog.globals[1]?).map (·.type) = some 148 := by kernel_rfl
theorem rE : Tryd.prog.cellsOf 9 = 1 := by kernel_rfl
theorem rC : Tryd.prog.cellsOf 225 = 4 := by kernel_rfl
theorem sC : Tryd.prog.cellsOf 148 = 6 := by kernel_rfl

theorem cells_of_strs {H : Type} {enc : TypeId × Value → H} {P : Program} {w : World} {base : Nat} {sp : Nat → Bool} {held : Bool} {fuel : Nat} {t e : TypeId} {n : Nat} {cs : List Value} {zs : List (List UInt8)} {p : List MemPlace}
    (ht : P.underlying t = some (.array n e)) (he : P.underlying e = some .string) (hce : P.cellsOf e = 1) (hct : P.cellsOf t = n)
    (h : DataW.trod enc P w base sp held fuel t cs = some (.agg (zs.map fun z => .lit (.string z)), p)) : cs = zs.map fun z => Value.string ⟨z.toArray⟩ := by
  cases fuel with
  | zero => simp [DataW.trod] at h
  | succ fuel =>
    simp only [DataW.trod, ht, hce, hct, Nat.mul_one] at h
    split at h
    · rename_i hl
      obtain ⟨xs, hm, hx⟩ := Option.map_eq_some_iff.1 h
      have hxs : xs.map (·.1) = zs.map fun z => (DataW.lit (.string z) : DataW H) := by
        have := congrArg Prod.fst hx
        simpa using this
      have hxl : xs.length = n := by simpa using Lib.mapM_length hm
      have hzl : zs.length = n := by
        have := congrArg List.length hxs
        simp at this
        omega
      apply List.ext_getElem?
      intro i
      by_cases hi : i < n
      · obtain ⟨b, hb, hf⟩ := Lib.mapM_at hm i i (by simp [hi])
        obtain ⟨s, hc, rfl, _⟩ := DataW.trod_string he hf
        have h1 : cs[i]? = some (.string s) := by
          have := congrArg (·[0]?) hc
          simpa [List.getElem?_take, List.getElem?_drop] using this
        have h2 : (xs.map (·.1))[i]? = some (DataW.lit (.string s.data.toList) : DataW H) := by simp [hb]
        rw [hxs] at h2
        simp only [List.getElem?_map, Option.map_eq_some_iff, DataW.lit.injEq, Lit.string.injEq] at h2
        obtain ⟨z', hz', rfl⟩ := h2
        simp [h1, hz']
      · rw [List.getElem?_eq_none (by omega), List.getElem?_eq_none (by simp; omega)]
    · cases h

theorem rg_of : ∀ k : Nat, k < 4 → ([[], [99, 111, 117, 110, 116], [115, 117, 109], [109, 105, 110]].map fun z : List UInt8 => Value.string ⟨z.toArray⟩)[k]? = some (.string (rgT k))
  | 0, _ => rfl
  | 1, _ => rfl
  | 2, _ => rfl
  | 3, _ => rfl
  | k + 4, h => by omega
theorem sy_of : ∀ k : Nat, k < 6 → ([[40], [41], [44], [59], [46], [58, 45]].map fun z : List UInt8 => Value.string ⟨z.toArray⟩)[k]? = some (.string (syT k))
  | 0, _ => rfl
  | 1, _ => rfl
  | 2, _ => rfl
  | 3, _ => rfl
  | 4, _ => rfl
  | 5, _ => rfl
  | k + 6, h => by omega
theorem vars_of_laid {W : World} (h : laidMetH Tryd.prog Rows.fnExactParseQueryRow.laid W) : SyV W ∧ RgV W ∧ ErrQ W := by
  have h' : laidMet Tryd.prog [("unicode/utf8.acceptRanges", Rows.laid_unicode_utf8_acceptRanges), ("loop.example/s01205/impl.symbols", Rows.laid_loop_example_s01205_impl_symbols), ("loop.example/s01205/impl.ringWords", Rows.laid_loop_example_s01205_impl_ringWords), ("unicode/utf8.first", Rows.laid_unicode_utf8_first)] W ∧ handlesMet Tryd.prog [("errors.errorType", Rows.laid_errors_errorType)] W := h
  have h2 := laidMet.tail h'.1
  have h3 := laidMet.tail h2
  refine ⟨?_, ?_, ?_⟩
  · obtain ⟨ps, ⟨g', t', cs, fuel, p, q, hg', ht', hvar, hd, _, _⟩, _⟩ := h2
    obtain rfl := Option.some.inj (sN.symm.trans hg')
    obtain rfl := Option.some.inj (sT.symm.trans ht')
    have hcs := cells_of_strs (zs := [[40], [41], [44], [59], [46], [58, 45]]) Tryd.underlying148 Tryd.underlying9 rE sC hd
    intro k hk6
    have hk := World.var?_cell sN hvar k
    rw [← Array.getElem?_toList, hcs] at hk
    exact hk.trans (sy_of k hk6)
  · obtain ⟨ps, ⟨g', t', cs, fuel, p, q, hg', ht', hvar, hd, _, _⟩, _⟩ := h3
    obtain rfl := Option.some.inj (rN.symm.trans hg')
    obtain rfl := Option.some.inj (rT.symm.trans ht')
    have hcs := cells_of_strs (zs := [[], [99, 111, 117, 110, 116], [115, 117, 109], [109, 105, 110]]) Tryd.underlying225 Tryd.underlying9 rE rC hd
    intro k hk4
    have hk := World.var?_cell rN hvar k
    rw [← Array.getElem?_toList, hcs] at hk
    exact hk.trans (rg_of k hk4)
  · obtain ⟨name, u, ty, e1, e2, e3, e4, e5⟩ := h'.2 _ (List.mem_singleton.2 rfl)
    have en : name = [101, 114, 114, 111, 114] := (Option.some.inj e1).symm
    subst en
    obtain rfl := Option.some.inj (rt.symm.trans e2)
    have hm : ty ∈ (List.range 263).filter fun t => Tryd.prog.rowNamed t [101, 114, 114, 111, 114] := List.mem_filter.2 ⟨List.mem_range.2 (by rw [← tsize]; exact e3), e4⟩
    rw [oneRow] at hm
    obtain rfl := List.mem_singleton.1 hm
    have hh : typeHandle Tryd.prog 59 = .pointer (some ⟨6, 59, none⟩) := by kernel_rfl
    rw [hh] at e5
    unfold ErrQ
    simpa using World.var?_cell et e5 0

def lit1 : DataW Unit → List Value
  | .lit (.int k z) => [Value.int k z]
  | .lit (.string z) => [Value.string ⟨z.toArray⟩]
  | _ => []
def lit2 : DataW Unit → List Value
  | .agg l => l.flatMap lit1
  | d => lit1 d
def litVals : DataW Unit → Array Value
  | .agg l => (l.flatMap lit2).toArray
  | _ => #[]
def laidWorld (w0 : World) : World :=
  let put (h : Array Obj) (g : Nat) (cs : Array Value) : Array Obj := h.modify g fun
    | .cells _ t frozen => .cells cs t frozen
    | o => o
  { w0 with heap := put (put (put (put (put w0.heap 4 (litVals Rows.laid_unicode_utf8_acceptRanges)) 3 (litVals Rows.laid_unicode_utf8_first)) 1 (litVals Rows.laid_loop_example_s01205_impl_symbols)) 5 (litVals Rows.laid_loop_example_s01205_impl_ringWords)) 0 #[.iface 158 (.agg #[.pointer (some ⟨6, 59, none⟩)])] }
theorem laidWorld_met (os : Os) (args : Array Value) : laidMetH Tryd.prog Rows.fnExactParseQueryRow.laid ((laidWorld (World.holding Tryd.prog os ⟨#[], #[], []⟩)).forCall (fun _ _ => 0) ⟨#[], args, []⟩).memory :=
  laidMetH_of_parts (laidMet_of_run3 (l := [("unicode/utf8.acceptRanges", Rows.laid_unicode_utf8_acceptRanges), ("loop.example/s01205/impl.symbols", Rows.laid_loop_example_s01205_impl_symbols), ("loop.example/s01205/impl.ringWords", Rows.laid_loop_example_s01205_impl_ringWords), ("unicode/utf8.first", Rows.laid_unicode_utf8_first)]) 10 (by kernel_rfl) (by kernel_rfl) (by kernel_rfl)) (by kernel_rfl)

theorem wit (os : Os) (H : Type) (enc : TypeId × Value → H) : ∃ (w : World) (tape : Tape) (i : Input), w.os = os ∧ (w.forCall tape i).Shaped Tryd.checked.prog ∧ i.vars = [] ∧ Input.okWide Tryd.checked.prog (w.forCall tape i) .any w.heap.size 4 i ∧
      ((Rows.fnExactParseQuerySpec.pre enc Tryd.checked.prog Tryd.f4 [] false (w.forCall tape i).memory i.args ∧ laidMetH Tryd.prog Rows.fnExactParseQueryRow.laid (w.forCall tape i).memory) ∧ sizedMet enc Tryd.checked.prog Tryd.f4 (OpenSpec.ofChange Rows.fnExactParseQuerySpec) false (w.forCall tape i).memory i.args) ∧ ({} : Assume).holds Tryd.checked.prog (lone (Frame.enter Tryd.checked.prog 4 i.args .normal) [] (w.forCall tape i)) :=
  ChangeSpec.witness_at (enc := enc) (C := Tryd.checked) (os := os) (X := fun w _ => laidMetH Tryd.prog Rows.fnExactParseQueryRow.laid w) false (laidWorld (World.holding Tryd.prog os ⟨#[], #[], []⟩)) #[.string ⟨#[]⟩] 8 rfl (by kernel_rfl) (by kernel_rfl) (by kernel_rfl) (by kernel_rfl) (by kernel_rfl) (laidWorld_met os _)

set_option maxHeartbeats 8000000 in
set_option maxRecDepth 100000 in
theorem lifted (os : Os) (started : os.Started) (H : Type) (enc : TypeId × Value → H) :
    ReturnsInHanded {} Tryd.checked os 4 .any (fun w args => (Rows.fnExactParseQuerySpec.pre enc Tryd.prog Tryd.f4 [] false w args ∧ laidMetH Tryd.prog Rows.fnExactParseQueryRow.laid w) ∧ sizedMet enc Tryd.prog Tryd.f4 (OpenSpec.ofChange Rows.fnExactParseQuerySpec) false w args)
      (Rows.fnExactParseQuerySpec.post enc Tryd.prog Tryd.f4 false true false false) := by
  refine returnsInHanded_of_change_and (C := Tryd.checked) (X := fun w _ => laidMetH Tryd.prog Rows.fnExactParseQueryRow.laid w) (fun _ _ _ hh h => h.of_heap hh) ownKP started (by kernel_rfl) Tryd.func4
    (wit os H enc) ?_
  intro W base args ds gs before hval0 hW _ _ hL _
  obtain ⟨hSy, hRg, hEr⟩ := vars_of_laid hL
  clear hL
  have hval : ∀ (j : Nat) t v, Tryd.f4.params[j]? = some t → args[j]? = some v → Value.okWide Tryd.prog W .any base t v := hval0
  have hW' := hW
  obtain ⟨p, q, hA0, hV0, rfl, _, _⟩ := hW
  have hA : DataW.TrodAll enc Tryd.prog W 0 (fun _ => true) true Tryd.f4.params.toList args.toList ds p := hA0
  have hV : DataW.TrodVars enc Tryd.prog W (fun _ => true) ["loop.example/s01205/impl.symbols", "loop.example/s01205/impl.ringWords"] gs q := hV0
  rw [Tryd.params4] at hA hval
  obtain ⟨v0, vs0, d0, ds0, p0, q0, hargs, rfl, rfl, h0, r0⟩ := trodAll_cons hA
  obtain ⟨rfl, rfl, rfl⟩ := trodAll_nil r0
  obtain rfl : args = #[v0] := Array.ext' hargs
  obtain ⟨_, _, _, _, dv, _, _, _, _, _, dv1, _, rfl, -⟩ := trodVars_two hV
  have k0 := h0
  have lt0 : ∀ x ∈ p0, x.block < W.heap.size := by obtain ⟨m, hm⟩ := k0; exact DataW.trod_lt m _ _ _ hm
  obtain ⟨s, rfl, hs⟩ : ∃ s : ByteArray, v0 = .string s ∧ s.size ≤ maxLen := by
    obtain ⟨fuel, hf⟩ := h0
    obtain ⟨s, hc, -, hs⟩ := DataW.trod_string Tryd.underlying9 hf
    obtain ⟨s', rfl⟩ := okWide_string Tryd.underlying9 (hval 0 9 v0 rfl rfl)
    simp only [Value.cells] at hc
    refine ⟨s', rfl, ?_⟩
    have e : s' = s := by simpa using hc
    rw [e]
    exact hs
  clear hA0 hV0 hval0
  refine (parseQuery_walk W s hs hSy hRg hEr).mono fun e W' ⟨he, bel⟩ => ?_
  subst he
  exact ⟨_, rfl, _, _, _, [], _, _, hW', trodAll_mk1 (shut_bool Tryd.underlying4 _), (trodAll_cons_mk (Below.trod laidP (by kernel_rfl) (of_decide_eq_true (by kernel_rfl)) k0 bel lt0) trodAll_mk0), Below.trodVars laidP bel (by kernel_rfl) hV, bel.frame _, fun h => by cases h⟩

theorem row_holds : Rows.FnExactParseQuerySaid :=
  OpenClaim.holds_of_wide 4 Tryd.f4 rfl rfl rfl rfl rfl rfl rfl ⟨rfl, rfl, rfl, rfl, rfl⟩ rfl rfl rfl rfl rfl (by kernel_rfl) Tryd.func4 (by kernel_rfl)
    (of_decide_eq_true (by kernel_rfl)) (by unfold Func.isWrapper; first | (rw [if_pos (by decide +kernel)]; kernel_rfl) | (rw [if_neg (by decide +kernel)]; exact ⟨rfl, rfl⟩))
    (fun os started H enc _ => lifted os started H enc)
end Go.Proofs.YtcdfoephhjacdaaDoor.FParseQuery
namespace Go.Proofs.YtcdfoephhjacdaaDoor
theorem fnExactParseQuery_card_holds : Rows.FnExactParseQueryCardSaid :=
  Claim7.holds_tied_plain_at .later [] [.data, .handle, .data, .data, .pinned] true Rows.fnExactParseQueryCard.stood.harness Rows.fnExactParseQueryCard.stood.looks
    FParseQuery.row_holds (fun _ h => by cases h) (by kernel_rfl) (fun _ h => by cases h) fnExactParseQuery_row_tie rfl ⟨rfl, rfl⟩ (by kernel_rfl) rfl
    (fun f fn hf hfn => by
      obtain rfl : f = 4 := Option.some.inj ((show Tryd.prog.funcNamed "loop.example/s01205/laws.FnExactParseQuery" = some 4 by kernel_rfl).symm.trans hf) |>.symm
      obtain rfl : fn = Tryd.f4 := (Option.some.inj (Tryd.func4.symm.trans hfn)).symm
      exact ⟨by kernel_rfl, fun j t ht => by
        rw [Tryd.params4] at ht
        have h3 : t = 9 := by
          rcases j with _ | j
          · simpa using ht.symm
          · simp at ht
        subst h3
        exact (show Tryd.prog.wantsStandIn 9 = false by kernel_rfl)⟩)
    (by kernel_rfl)
#print axioms fnExactParseQuery_card_holds
end Go.Proofs.YtcdfoephhjacdaaDoor
