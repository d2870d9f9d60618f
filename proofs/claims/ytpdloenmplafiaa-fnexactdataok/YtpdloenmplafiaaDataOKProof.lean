import Derived.Test.YtpdloenmplafiaaFrames3
namespace Go.Proofs.Ytpdloenmplafiaa.FDataOK
open Go.ChangeShapes Go.WideShapes Go.ChangeAt Go.RowKit Go.Joins

theorem array1 {a : Array Value} (h : a.size = 1) : ∃ v, a = #[v] := by
  obtain ⟨l⟩ := a
  match l, h with
  | [v], _ => exact ⟨v, rfl⟩

set_option maxRecDepth 100000 in
theorem lifted (os : Os) (started : os.Started) (H : Type) (enc : TypeId × Value → H) :
    ReturnsInHanded {} Try.checked os 4 .any (Rows.fnExactDataOKSpec.pre6 enc Try.prog Try.f4 Rows.fnExactDataOKRow.domain false) (Rows.fnExactDataOKSpec.post enc Try.prog Try.f4 false true false false) := by
  refine returnsInHanded_of_change (C := Try.checked) Try.ownK started (by kernel_rfl) Try.func4
    (ChangeSpec.witness6 (enc := enc) (C := Try.checked) false ⟨#[], #[.agg #[.slice none 0 0]], []⟩ 8 (by kernel_rfl) (by kernel_rfl) (by kernel_rfl) (by kernel_rfl)) ?_
  intro W base args ds gs before hval0 hW _ _
  have hval : ∀ (j : Nat) t v, Try.f4.params[j]? = some t → args[j]? = some v → Value.okWide Try.prog W .any base t v := hval0
  have hW' := hW
  obtain ⟨p, q, hA0, hV, rfl, _, _⟩ := hW
  have hA : DataW.TrodAll enc Try.prog W 0 (fun _ => true) true Try.f4.params.toList args.toList ds p := hA0
  rw [Try.params4] at hA hval
  obtain ⟨v0, vs0, d0, ds0, p0, q0, hargs, rfl, rfl, h0, r0⟩ := trodAll_cons hA
  obtain ⟨rfl, rfl, rfl⟩ := trodAll_nil r0
  obtain rfl : args = #[v0] := by cases args; simp_all
  obtain ⟨rfl, rfl⟩ := trodVars_none hV
  have k0 := h0
  have lt0 : ∀ x ∈ p0, x.block < W.heap.size := by obtain ⟨m, hm⟩ := k0; exact DataW.trod_lt m _ _ _ hm
  obtain ⟨cs, rfl, hsz⟩ := okWide_struct Try.underlying41 (hval 0 41 v0 rfl rfl)
  obtain ⟨c0, rfl⟩ := array1 (hsz.trans Try.cellsData)
  obtain ⟨ds, i0, f0, g0⟩ : ∃ ds, IRelS W c0 ds ∧ ds.length ≤ 9223372036854775807 ∧ ∀ j, FitRel (ds.getD j noRel) := by
    obtain ⟨fuel, hf⟩ := h0
    obtain ⟨y0, n, _, _, hy⟩ := trod_struct1 Try.underlying41 hf
    exact rels_of_trod (by simpa [Value.cells, Try.cellsRels] using hy)
  clear hA0 hval0
  refine (dataOK_walk W c0 ds i0 f0 g0).mono fun e W' ⟨he, bel⟩ => ?_
  subst he
  exact ⟨_, rfl, _, _, _, [], _, [], hW', trodAll_mk1 (shut_bool Try.underlying4 _), (trodAll_cons_mk (Below.trod Try.laidO (by kernel_rfl) (of_decide_eq_true (by kernel_rfl)) k0 bel lt0) trodAll_mk0), rfl, bel.frame _, fun h => by cases h⟩

end Go.Proofs.Ytpdloenmplafiaa.FDataOK
namespace Go.Proofs.Ytpdloenmplafiaa
theorem fnExactDataOK_holds : Rows.FnExactDataOKSaid :=
  OpenClaim.holds_of_wide 4 Try.f4 rfl rfl rfl rfl rfl rfl rfl ⟨rfl, rfl, rfl, rfl, rfl⟩ rfl rfl rfl rfl rfl (by kernel_rfl) Try.func4 (by kernel_rfl)
    (of_decide_eq_true (by kernel_rfl)) (by unfold Func.isWrapper; first | (rw [if_pos (by decide +kernel)]; kernel_rfl) | (rw [if_neg (by decide +kernel)]; exact ⟨rfl, rfl⟩))
    (fun os started H enc _ => FDataOK.lifted os started H enc)
#print axioms fnExactDataOK_holds
end Go.Proofs.Ytpdloenmplafiaa
