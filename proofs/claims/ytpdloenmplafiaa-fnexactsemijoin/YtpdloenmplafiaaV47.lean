import Derived.Test.YtpdloenmplafiaaV07
import Derived.Test.YtpdloenmplafiaaV46
namespace Go.Proofs.Ytpdloenmplafiaa.FSemijoin
open Go.ChangeShapes Go.WideShapes Go.ChangeAt Go.RowKit Go.Joins

theorem cellsT : Try.prog.cellsOf 51 = 3 := by kernel_rfl

set_option maxRecDepth 100000 in
theorem lifted (os : Os) (started : os.Started) (H : Type) (enc : TypeId × Value → H) :
    ReturnsInHanded {} Try.checked os 6 .any (Rows.fnExactSemijoinSpec.pre6 enc Try.prog Try.f6 Rows.fnExactSemijoinRow.domain false) (Rows.fnExactSemijoinSpec.post enc Try.prog Try.f6 false true false false) := by
  refine returnsInHanded_of_change (C := Try.checked) Try.ownK started (by kernel_rfl) Try.func6
    (ChangeSpec.witness6 (enc := enc) (C := Try.checked) false ⟨#[], #[.agg #[.slice none 0 0, .slice none 0 0, .slice none 0 0], .agg #[.slice none 0 0, .slice none 0 0, .slice none 0 0]], []⟩ 8 (by kernel_rfl) (by kernel_rfl) (by kernel_rfl) (by kernel_rfl)) ?_
  intro W base args ds gs before hval0 hW _ _
  have hval : ∀ (j : Nat) t v, Try.f6.params[j]? = some t → args[j]? = some v → Value.okWide Try.prog W .any base t v := hval0
  have hW' := hW
  obtain ⟨p, q, hA0, hV, rfl, _, _⟩ := hW
  have hA : DataW.TrodAll enc Try.prog W 0 (fun _ => true) true Try.f6.params.toList args.toList ds p := hA0
  rw [Try.params6] at hA hval
  obtain ⟨v0, vs0, d0, ds0, p0, q0, hargs, rfl, rfl, h0, r0⟩ := trodAll_cons hA
  obtain ⟨v1, vs1, d1, ds1, p1, q1, rfl, rfl, rfl, h1, r1⟩ := trodAll_cons r0
  obtain ⟨rfl, rfl, rfl⟩ := trodAll_nil r1
  obtain rfl : args = #[v0, v1] := by cases args; simp_all
  obtain ⟨rfl, rfl⟩ := trodVars_none hV
  have k0 := h0
  have k1 := h1
  have lt0 : ∀ x ∈ p0, x.block < W.heap.size := by obtain ⟨m, hm⟩ := k0; exact DataW.trod_lt m _ _ _ hm
  have lt1 : ∀ x ∈ p1, x.block < W.heap.size := by obtain ⟨m, hm⟩ := k1; exact DataW.trod_lt m _ _ _ hm
  obtain ⟨c0, c1, c2, y0, y1, y2, m, rfl, rfl, rfl, hy0, hy1, hy2⟩ := open_agg3 Try.underlying51 (by kernel_rfl) cellsT (hval 0 51 v0 rfl rfl) h0
  obtain ⟨vs, i0, f0⟩ := IS_of_trod hy0
  obtain ⟨rows, i1, f1⟩ := ISS_of_trod hy1
  obtain ⟨ws, i2, f2⟩ := IS_of_trod hy2
  obtain ⟨b0, b1, b2, x0, x1, x2, m', rfl, rfl, rfl, hx0, hx1, hx2⟩ := open_agg3 Try.underlying51 (by kernel_rfl) cellsT (hval 1 51 v1 rfl rfl) h1
  obtain ⟨vs', i3, f3⟩ := IS_of_trod hx0
  obtain ⟨rows', i4, f4⟩ := ISS_of_trod hx1
  obtain ⟨ws', i5, f5⟩ := IS_of_trod hx2
  clear hA0 hval0
  refine (semijoin_walk W c0 c1 c2 b0 b1 b2 vs ws vs' ws' rows rows' ⟨i0, i1, i2⟩ f0 f1 f2 ⟨i3, i4, i5⟩ f3 f4 f5).mono fun e W' ⟨he, bel⟩ => ?_
  subst he
  exact ⟨_, rfl, _, _, _, [], _, [], hW', trodAll_mk1 (shut_bool Try.underlying4 _), (trodAll_cons_mk (Below.trod Try.laidO (by kernel_rfl) (of_decide_eq_true (by kernel_rfl)) k0 bel lt0) (trodAll_cons_mk (Below.trod Try.laidO (by kernel_rfl) (of_decide_eq_true (by kernel_rfl)) k1 bel lt1) trodAll_mk0)), rfl, bel.frame _, fun h => by cases h⟩

end Go.Proofs.Ytpdloenmplafiaa.FSemijoin
namespace Go.Proofs.Ytpdloenmplafiaa
theorem fnExactSemijoin_holds : Rows.FnExactSemijoinSaid :=
  OpenClaim.holds_of_wide 6 Try.f6 rfl rfl rfl rfl rfl rfl rfl ⟨rfl, rfl, rfl, rfl, rfl⟩ rfl rfl rfl rfl rfl (by kernel_rfl) Try.func6 (by kernel_rfl)
    (of_decide_eq_true (by kernel_rfl)) (by unfold Func.isWrapper; first | (rw [if_pos (by decide +kernel)]; kernel_rfl) | (rw [if_neg (by decide +kernel)]; exact ⟨rfl, rfl⟩))
    (fun os started H enc _ => FSemijoin.lifted os started H enc)
#print axioms fnExactSemijoin_holds
end Go.Proofs.Ytpdloenmplafiaa
