import Derived.Test.YtnmcgbfhgmmcpaaW32
/-
  Both functions answer alike.
-/
namespace Go.Proofs.Ytnmcgbfhgmmcpaa
open Go.RowKit

theorem calls_some {P : Program} {f : FuncId} {args : Array Value} {w : World} {R : Ending → World → Prop} (h : Calls P f args w R) : ∃ e w', R e w' := by
  obtain ⟨e, w', _, hr, _⟩ := h []
  exact ⟨e, w', hr⟩

theorem coverBest_unique {m u : Nat} {M : Nat → Nat → Rat} {x y : Nat → Rat} (h : CoverBest m u M x) (k : CoverBest m u M y) : ∀ i, i < u → x i = y i :=
  Cov.key_inj (Cov.Lex.antisymm (h.2 y k.1) (k.2 x h.1))
theorem packBest_unique {m u : Nat} {M : Nat → Nat → Rat} {x y : Nat → Rat} (h : PackBest m u M x) (k : PackBest m u M y) : ∀ i, i < u → x i = y i :=
  Cov.key_inj (Cov.Lex.antisymm (h.2 y k.1) (k.2 x h.1))

/-- the answer's parts, and that both sides give it -/
structure Alike (bag : List Int) (es : List (List Int)) (ok : Bool) (s1 s2 : Int) (lW lD : List (Int × Int)) : Prop where
  lw : lW.length ≤ 1000
  ld : lD.length ≤ 1000
  spec : ∀ W vb ve, IS W vb bag → ISS W ve es → Calls Try.prog 8 #[vb, ve] W fun e w' => ∃ uW uD, e = .returned (.agg #[.bool ok, .int .i64 s1, .int .i64 s2, uW, uD]) ∧ IR w' uW lW ∧ IR w' uD lD ∧ Below W.heap.size W w'
  impl : ∀ W vb ve, IS W vb bag → ISS W ve es → Calls Try.prog 9 #[vb, ve] W fun e w' => ∃ vW vD, e = .returned (.agg #[.bool ok, .int .i64 s1, .int .i64 s2, vW, vD]) ∧ w'.ownsRow W.heap.size 28 2 vW lW.length (rcs lW) ∧ w'.ownsRow W.heap.size 28 2 vD lD.length (rcs lD) ∧ (∀ g, vW.ownBlock = some g → vD.ownBlock ≠ some g) ∧ Below W.heap.size W w'

theorem alike (w : World) (vb ve : Value) (bag : List Int) (es : List (List Int)) (hb : IS w vb bag) (h : ISS w ve es) (hlb : bag.length ≤ 1099511627776) (hl : Short es) : ∃ ok s1 s2 lW lD, Alike bag es ok s1 s2 lW lD := by
  cases hB : (setB bag && edgesB es && coverB bag es)
  · refine ⟨false, 0, 0, [], [], by simp, by simp, fun W vb ve h1 h2 => ?_, fun W vb ve h1 h2 => ?_⟩
    · refine (sCoverOf_calls W vb ve bag es (fun _ => 0) (fun _ => 0) h1 h2 hlb hl (fun h => by rw [hB] at h; cases h)).mono ?_
      rintro e w' ⟨⟨_, rfl⟩ | ⟨h3, _⟩, hb⟩
      · exact ⟨_, _, rfl, ⟨none, 0, rfl, Or.inl rfl⟩, ⟨none, 0, rfl, Or.inl rfl⟩, hb⟩
      · rw [hB] at h3; cases h3
    · refine (coverOf_no W vb ve bag es h1 h2 hlb hl hB).mono ?_
      rintro e w' ⟨rfl, hb⟩
      exact ⟨_, _, rfl, World.ownsRow_nil _ _ _ _, World.ownsRow_nil _ _ _ _, fun g hg => by simp [Value.ownBlock] at hg, hb⟩
  · have h3 : setB bag = true ∧ edgesB es = true ∧ coverB bag es = true := by
      simpa [Bool.and_eq_true, and_assoc] using hB
    obtain ⟨_, _, x, y, _, _, _, hX, hY, hPX, hPY, _⟩ := calls_some (coverOf_yes w vb ve bag es hb h hlb hl h3.1 h3.2.1 h3.2.2)
    have hb6 := setB_len h3.1
    have he7 := edgesB_len h3.2.1
    refine ⟨true, (Cov.sm es.length x).num, (Cov.sm es.length x).den, prs es.length x, prs bag.length y, by rw [prs_length]; omega, by rw [prs_length]; omega, fun W vb ve h1 h2 => ?_, fun W vb ve h1 h2 => ?_⟩
    · refine (sCoverOf_calls W vb ve bag es x y h1 h2 hlb hl (fun _ => ⟨hX, hY, hPX⟩)).mono ?_
      rintro e w' ⟨⟨h4, _⟩ | ⟨_, uW, uD, rfl, i1, i2⟩, hb⟩
      · rw [hB] at h4; cases h4
      · exact ⟨uW, uD, rfl, i1, i2, hb⟩
    · refine (coverOf_yes W vb ve bag es h1 h2 hlb hl h3.1 h3.2.1 h3.2.2).mono ?_
      rintro e w' ⟨x', y', vW, vD, rfl, hX', hY', _, _, o1, o2, hne, hb⟩
      have ex := coverBest_unique hX' hX
      have ey := packBest_unique hY' hY
      rw [prs_congr ex] at o1
      rw [prs_congr ey] at o2
      refine ⟨vW, vD, ?_, o1, o2, hne, hb⟩
      rw [Cov.sm_congr ex]

end Go.Proofs.Ytnmcgbfhgmmcpaa
