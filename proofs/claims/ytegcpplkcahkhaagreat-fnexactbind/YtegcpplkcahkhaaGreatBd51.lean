import Derived.Test.YtegcpplkcahkhaaGreatBd15
import Derived.Test.YtegcpplkcahkhaaGreatBd18
import Derived.Test.YtegcpplkcahkhaaGreatBd50
namespace Go.Proofs.YtegcpplkcahkhaaGreat.FBind
open Go.ChangeShapes Go.WideShapes Go.ChangeAt Go.RowKit Go.Joins

theorem arrayD1 {cs : Array Value} (h : cs.size = 1) : ∃ v, cs = #[v] := by
  obtain ⟨l⟩ := cs
  match l, h with
  | [v], _ => exact ⟨v, rfl⟩

set_option maxRecDepth 100000 in
theorem lifted (os : Os) (started : os.Started) (H : Type) (enc : TypeId × Value → H) :
    ReturnsInHanded {} Tryz.checked os 3 .any (Rows.fnExactBindSpec.pre6 enc Tryz.prog Tryz.f3 Rows.fnExactBindRow.domain false) (Rows.fnExactBindSpec.post enc Tryz.prog Tryz.f3 false true false false) := by
  refine returnsInHanded_of_change (C := Tryz.checked) Tryz.ownKQ started (by kernel_rfl) Tryz.func3
    (ChangeSpec.witness6 (enc := enc) (C := Tryz.checked) false ⟨#[], #[.agg #[.slice none 0 0], .agg #[.string ⟨#[]⟩, .slice none 0 0, .int .i64 0, .slice none 0 0]], []⟩ 8 (by kernel_rfl) (by kernel_rfl) (by kernel_rfl) (by kernel_rfl)) ?_
  intro W base args ds gs before hval0 hW _ _
  have hval : ∀ (j : Nat) t v, Tryz.f3.params[j]? = some t → args[j]? = some v → Value.okWide Tryz.prog W .any base t v := hval0
  have hW' := hW
  obtain ⟨p, q, hA0, hV, rfl, _, _⟩ := hW
  have hA : DataW.TrodAll enc Tryz.prog W 0 (fun _ => true) true Tryz.f3.params.toList args.toList ds p := hA0
  rw [Tryz.params3] at hA hval
  obtain ⟨v0, vs0, d0, ds0, p0, q0, hargs, rfl, rfl, h0, r0⟩ := trodAll_cons hA
  obtain ⟨v1, vs1, d1, ds1, p1, q1, rfl, rfl, rfl, h1, r1⟩ := trodAll_cons r0
  obtain ⟨rfl, rfl, rfl⟩ := trodAll_nil r1
  obtain rfl : args = #[v0, v1] := Array.ext' hargs
  obtain ⟨rfl, rfl⟩ := trodVars_none hV
  have k0 := h0
  have k1 := h1
  have lt0 : ∀ x ∈ p0, x.block < W.heap.size := by obtain ⟨m, hm⟩ := k0; exact DataW.trod_lt m _ _ _ hm
  have lt1 : ∀ x ∈ p1, x.block < W.heap.size := by obtain ⟨m, hm⟩ := k1; exact DataW.trod_lt m _ _ _ hm
  obtain ⟨cs, rfl, hsz⟩ := okWide_struct Tryz.underlying24 (hval 0 24 v0 rfl rfl)
  obtain ⟨c0, rfl⟩ := arrayD1 (hsz.trans Tryz.cellsData)
  obtain ⟨rels, i0, f0, g0⟩ : ∃ ds, IRelS W c0 ds ∧ ds.length ≤ 9223372036854775807 ∧ ∀ j, FitRel (ds.getD j noRel) := by
    obtain ⟨fuel, hf⟩ := h0
    obtain ⟨y0, n, _, _, hy⟩ := trod_struct1 Tryz.underlying24 hf
    exact rels_of_trod (by simpa [Value.cells, Tryz.cellsRels] using hy)
  obtain ⟨cs, rfl, hsz⟩ := okWide_struct Tryz.underlying28 (hval 1 28 v1 rfl rfl)
  obtain ⟨e0, e1, e2, e3, rfl⟩ := arrayQ4 (hsz.trans Tryz.cellsQQ)
  obtain ⟨vh, va, qq, hcs, i1, f1⟩ : ∃ vh va q, [e0, e1, e2, e3] = [.string q.name, vh, .int .i64 q.ring, va] ∧ IQ W vh va q ∧ FitQ q := by
    obtain ⟨fuel, hf⟩ := h1
    exact query_of_trod (by simpa [Value.cells] using hf)
  simp only [List.cons.injEq, and_true] at hcs
  obtain ⟨rfl, rfl, rfl, rfl⟩ := hcs
  clear hA0 hval0
  refine (bind_walk W c0 e1 e3 rels qq i0 f0 g0 i1 f1).mono fun e W' ⟨he, bel⟩ => ?_
  subst he
  exact ⟨_, rfl, _, _, _, [], _, [], hW', trodAll_mk1 (shut_bool Tryz.underlying4 _), (trodAll_cons_mk (Below.trod Tryz.laidQ (by kernel_rfl) (of_decide_eq_true (by kernel_rfl)) k0 bel lt0) (trodAll_cons_mk (Below.trod Tryz.laidQ (by kernel_rfl) (of_decide_eq_true (by kernel_rfl)) k1 bel lt1) trodAll_mk0)), rfl, bel.frame _, fun h => by cases h⟩

end Go.Proofs.YtegcpplkcahkhaaGreat.FBind
namespace Go.Proofs.YtegcpplkcahkhaaGreat
theorem fnExactBind_holds : Rows.FnExactBindSaid :=
  OpenClaim.holds_of_wide 3 Tryz.f3 rfl rfl rfl rfl rfl rfl rfl ⟨rfl, rfl, rfl, rfl, rfl⟩ rfl rfl rfl rfl rfl (by kernel_rfl) Tryz.func3 (by kernel_rfl)
    (of_decide_eq_true (by kernel_rfl)) (by unfold Func.isWrapper; first | (rw [if_pos (by decide +kernel)]; kernel_rfl) | (rw [if_neg (by decide +kernel)]; exact ⟨rfl, rfl⟩))
    (fun os started H enc _ => FBind.lifted os started H enc)
#print axioms fnExactBind_holds
end Go.Proofs.YtegcpplkcahkhaaGreat
