import Derived.Test.YtnmcgbfhgmmcpaaW04
/-
  Plain mathematics: a cover by fewer sets, of which each other one is a part, has the same least sum; a least cover exists.
-/
namespace Go.Proofs.Ytnmcgbfhgmmcpaa.Cov

theorem key_head {v : Rat} {u : Nat} {x y : Nat → Rat} (h : Lex (key v u x) (key v u y)) : v * sm u x ≤ v * sm u y := by
  rcases h with h | ⟨h, -⟩
  · grind
  · grind

theorem sm_one_at {n k : Nat} (hk : k < n) (f : Nat → Rat) : sm n (fun i => if i = k then f i else 0) = f k := by
  rw [sm_single (k := k) hk]
  · simp
  · intro i _ hi; simp [hi]

theorem aims_exists {m n : Nat} {A : Nat → Nat → Rat} : ∀ (l : List (Nat → Rat)) {bar : Nat → Bool} {s : Sx}, Good m n A bar s → (∀ c ∈ l, ∃ L : Rat, ∀ x, F m n A bar x → L ≤ dot n c x) → ∃ bar' s', Aims m n l bar s bar' s'
  | [], bar, s, _, _ => ⟨bar, s, ⟨rfl, rfl⟩⟩
  | c :: l, bar, s, h, hb => by
    obtain ⟨b1, s1, h1⟩ := aim_exists c h
    obtain ⟨L, hL⟩ := hb c (List.mem_cons_self ..)
    obtain ⟨g1, g2, g3⟩ := Good.aim h h1 L hL
    obtain ⟨b2, s2, h2⟩ := aims_exists l g1 (fun c' hc' => by
      obtain ⟨L', hL'⟩ := hb c' (List.mem_cons_of_mem _ hc')
      exact ⟨L', fun x hx => hL' x (g2 x hx).1⟩)
    exact ⟨b2, s2, b1, s1, h1, h2⟩

theorem dot_nonneg {n : Nat} {c x : Nat → Rat} (hc : ∀ j, j < n → 0 ≤ c j) (hx : ∀ j, j < n → 0 ≤ x j) : 0 ≤ dot n c x :=
  sm_nonneg (fun j hj => Rat.mul_nonneg (hc j hj) (hx j hj))
theorem cf_nonneg (a b j : Nat) : 0 ≤ cf a b 1 j := by
  unfold cf
  split
  · decide
  · exact Rat.le_refl

theorem least_cover {m u : Nat} {M : Nat → Nat → Rat} (hM : ∀ r, r < m → ∀ e, e < u → 0 ≤ M r e) (hin : ∀ r, r < m → ∃ e, e < u ∧ M r e = 1) :
    ∃ bar s, Good m (u + m + m) (coverA m u M) bar s ∧ Cover m u M (xb m (u + m + m) s) ∧ ∀ y, Cover m u M y → Lex (key 1 u (xb m (u + m + m) s)) (key 1 u y) := by
  obtain ⟨bar, s, h⟩ := aims_exists (m := m) (n := u + m + m) (A := coverA m u M) (cf (u + m) (u + m + m) 1 :: cf 0 u 1 :: units u) cover_good (fun c hc => by
    refine ⟨0, fun x hx => dot_nonneg (fun j _ => ?_) (fun j hj => hx.2.1 j hj)⟩
    rcases List.mem_cons.1 hc with rfl | hc
    · exact cf_nonneg _ _ _
    rcases List.mem_cons.1 hc with rfl | hc
    · exact cf_nonneg _ _ _
    obtain ⟨k, -, rfl⟩ := List.mem_map.1 hc
    exact cf_nonneg _ _ _)
  exact ⟨bar, s, cover_least hM hin h⟩

/-- the sum of the least cover is that of the least cover by the kept sets alone -/
theorem kept_sum {m u n : Nat} {M K : Nat → Nat → Rat} {rep up : Nat → Nat} {nz : Nat → Bool}
    (hK : ∀ r, r < m → ∀ p, p < n → K r p = M r (rep p)) (hrep : ∀ p, p < n → rep p < u)
    (hz : ∀ e, e < u → nz e = false → ∀ r, r < m → M r e = 0)
    (hup : ∀ e, e < u → nz e = true → up e < n ∧ ∀ r, r < m → M r e ≤ M r (rep (up e)))
    {x y : Nat → Rat} (hx : Cover m u M x) (hxb : ∀ z, Cover m u M z → Lex (key 1 u x) (key 1 u z))
    (hy : Cover m n K y) (hyb : ∀ z, Cover m n K z → Lex (key 1 n y) (key 1 n z)) : sm u x = sm n y := by
  have one : ∀ p, p < n → ∀ f : Nat → Rat, sm u (fun e => f e * (if rep p = e then y p else 0)) = f (rep p) * y p := by
    intro p hp f
    rw [sm_single (k := rep p) (hrep p hp)]
    · simp
    · intro i _ hi
      have : rep p ≠ i := fun h => hi h.symm
      simp [this]
  have two : ∀ f : Nat → Rat, sm u (fun e => f e * sm n (fun p => if rep p = e then y p else 0)) = sm n (fun p => f (rep p) * y p) := by
    intro f
    have e1 : sm u (fun e => f e * sm n (fun p => if rep p = e then y p else 0)) = sm u (fun e => sm n (fun p => f e * (if rep p = e then y p else 0))) :=
      sm_congr (fun e _ => (sm_mul n (f e) _).symm)
    rw [e1, sm_swap]
    exact sm_congr (fun p hp => one p hp f)
  have c1 : Cover m u M (fun e => sm n (fun p => if rep p = e then y p else 0)) := by
    refine ⟨fun e _ => sm_nonneg (fun p hp => ?_), fun r hr => ?_⟩
    · split
      · exact hy.1 p hp
      · exact Rat.le_refl
    · show 1 ≤ sm u (fun e => M r e * sm n (fun p => if rep p = e then y p else 0))
      rw [two (M r)]
      have := hy.2 r hr
      rw [sm_congr (fun p hp => by rw [hK r hr p hp])] at this
      exact this
  have s1 : sm u (fun e => sm n (fun p => if rep p = e then y p else 0)) = sm n y := by
    have := two (fun _ => 1)
    rw [sm_congr (g := fun e => sm n (fun p => if rep p = e then y p else 0)) (fun e _ => by grind), sm_congr (n := n) (g := y) (fun e _ => by grind)] at this
    exact this
  have l1 : sm u x ≤ sm n y := by
    have := key_head (hxb _ c1)
    rw [s1] at this
    grind
  have three : ∀ f : Nat → Rat, sm n (fun p => f p * sm u (fun e => if nz e = true ∧ up e = p then x e else 0)) = sm u (fun e => if nz e = true then f (up e) * x e else 0) := by
    intro f
    have e1 : sm n (fun p => f p * sm u (fun e => if nz e = true ∧ up e = p then x e else 0)) = sm n (fun p => sm u (fun e => f p * (if nz e = true ∧ up e = p then x e else 0))) :=
      sm_congr (fun p _ => (sm_mul u (f p) _).symm)
    rw [e1, sm_swap]
    refine sm_congr (fun e he => ?_)
    by_cases hn : nz e = true
    · rw [if_pos hn, sm_single (k := up e) (hup e he hn).1]
      · simp [hn]
      · intro p _ hp
        have : ¬ (nz e = true ∧ up e = p) := fun h => hp h.2.symm
        rw [if_neg this]; grind
    · rw [if_neg hn]
      refine sm_zero (fun p _ => ?_)
      rw [if_neg (fun h => hn h.1)]; grind
  have c2 : Cover m n K (fun p => sm u (fun e => if nz e = true ∧ up e = p then x e else 0)) := by
    refine ⟨fun p _ => sm_nonneg (fun e he => ?_), fun r hr => ?_⟩
    · split
      · exact hx.1 e he
      · exact Rat.le_refl
    · show 1 ≤ sm n (fun p => K r p * sm u (fun e => if nz e = true ∧ up e = p then x e else 0))
      rw [three (K r)]
      have h1 := hx.2 r hr
      have h2 : sm u (fun e => M r e * x e) ≤ sm u (fun e => if nz e = true then K r (up e) * x e else 0) := by
        refine sm_le (fun e he => ?_)
        by_cases hn : nz e = true
        · rw [if_pos hn]
          obtain ⟨hu1, hu2⟩ := hup e he hn
          rw [hK r hr _ hu1]
          have h3 := hu2 r hr
          have h4 := hx.1 e he
          exact Rat.mul_le_mul_of_nonneg_right h3 h4
        · rw [if_neg hn, hz e he (by simpa using hn) r hr]; grind
      grind
  have l2 : sm n y ≤ sm u x := by
    have := key_head (hyb _ c2)
    have h2 := three (fun _ => 1)
    have h3 : sm u (fun e => if nz e = true then 1 * x e else 0) ≤ sm u x := by
      refine sm_le (fun e he => ?_)
      by_cases hn : nz e = true
      · rw [if_pos hn]; grind
      · rw [if_neg hn]; exact hx.1 e he
    rw [sm_congr (n := n) (g := fun p => sm u (fun e => if nz e = true ∧ up e = p then x e else 0)) (fun e _ => by grind)] at h2
    grind
  grind

end Go.Proofs.Ytnmcgbfhgmmcpaa.Cov
