import Derived.Test.YtnmcgbfhgmmcpaaW04
/-
  Plain mathematics: the least cover and the greatest packing have one sum.
-/
namespace Go.Proofs.Ytnmcgbfhgmmcpaa.Cov

theorem slack_rows {m u : Nat} {M T : Nat → Nat → Rat} {B : Nat → Nat} (h : Inv m (u + m) (packA m u M) T B) {j : Nat} (hj : j ≤ u + m) : ∀ i, i < m → T i j = sm m (fun e => packA m u M j e * T i (u + e)) := by
  have key := det_indep (fun i => packA m u M (B i)) h.dne (fun i => T i j - sm m (fun e => packA m u M j e * T i (u + e))) (fun r hr => by
    have e1 := h.col j hj r hr
    have e2 : sm m (fun k => sm m (fun e => packA m u M j e * T k (u + e)) * packA m u M (B k) r) = packA m u M j r := by
      have a1 : (fun k => sm m (fun e => packA m u M j e * T k (u + e)) * packA m u M (B k) r) = fun k => sm m (fun e => packA m u M j e * (T k (u + e) * packA m u M (B k) r)) := by
        funext k
        rw [show sm m (fun e => packA m u M j e * T k (u + e)) * packA m u M (B k) r = packA m u M (B k) r * sm m (fun e => packA m u M j e * T k (u + e)) by grind, ← sm_mul]
        exact sm_congr (fun e _ => by grind)
      rw [a1, sm_swap]
      have a2 : ∀ e, e < m → sm m (fun k => packA m u M j e * (T k (u + e) * packA m u M (B k) r)) = packA m u M j e * (if e = r then 1 else 0) := by
        intro e he
        rw [sm_mul, ← h.col (u + e) (by omega) r hr]
        congr 1
        unfold packA
        rw [if_neg (by omega), if_pos (by omega), show u + e - u = e by omega]
      rw [sm_congr a2, sm_delta hr]
      grind
    have a3 : (fun k => (T k j - sm m (fun e => packA m u M j e * T k (u + e))) * packA m u M (B k) r) = fun k => T k j * packA m u M (B k) r + (-1) * (sm m (fun e => packA m u M j e * T k (u + e)) * packA m u M (B k) r) := by
      funext k; grind
    rw [a3, sm_add, sm_mul, e2, ← e1]
    grind)
  intro i hi
  have := key i hi
  grind

theorem weak {m u : Nat} {M : Nat → Nat → Rat} {x y : Nat → Rat} (hx : Cover u m (fun e r => M r e) x) (hy : Pack m u M y) : sm u y ≤ sm m x := by
  have h1 : sm u y ≤ sm u (fun e => sm m (fun r => M r e * y e * x r)) := by
    refine sm_le (fun e he => ?_)
    have a := hx.2 e he
    have b := hy.1 e he
    have c : sm m (fun r => M r e * y e * x r) = y e * sm m (fun r => M r e * x r) := by
      rw [← sm_mul]
      exact sm_congr (fun r _ => by grind)
    rw [c]
    have d : 0 ≤ y e * (sm m (fun r => M r e * x r) - 1) := Rat.mul_nonneg b (by grind)
    grind
  have h2 : sm m (fun r => sm u (fun e => M r e * y e * x r)) ≤ sm m x := by
    refine sm_le (fun r hr => ?_)
    have a := hy.2 r hr
    have b := hx.1 r hr
    have c : sm u (fun e => M r e * y e * x r) = x r * sm u (fun e => M r e * y e) := by
      rw [← sm_mul]
      exact sm_congr (fun e _ => by grind)
    rw [c]
    have d : 0 ≤ x r * (1 - sm u (fun e => M r e * y e)) := Rat.mul_nonneg b (by grind)
    grind
  rw [sm_swap] at h1
  grind

theorem strong {m u : Nat} {M : Nat → Nat → Rat} (hM : ∀ r, r < m → ∀ e, e < u → 0 ≤ M r e) (hin : ∀ e, e < u → ∃ r, r < m ∧ M r e = 1) :
    ∃ x y, Cover u m (fun e r => M r e) x ∧ Pack m u M y ∧ sm m x = sm u y := by
  have hsum : ∀ x, dot (u + m) (cf 0 u (-1)) x = (-1) * sm u x := by
    intro x
    have := dot_range 0 u m (-1) x
    rw [show 0 + u = u by omega] at this
    rw [this]
    congr 1
    exact sm_congr (fun i _ => by rw [show 0 + i = i by omega])
  have hrow : ∀ x, F m (u + m) (packA m u M) (fun _ => false) x → ∀ r, r < m → sm u (fun e => M r e * x e) + x (u + r) = 1 := by
    intro x hx r hr
    rw [← packA_row hr x, hx.1 r hr]
    unfold packA; rw [if_neg (by omega), if_neg (by omega)]
  have hpack : ∀ x, F m (u + m) (packA m u M) (fun _ => false) x → Pack m u M x := by
    intro x hx
    refine ⟨fun e he => hx.2.1 e (by omega), fun r hr => ?_⟩
    have h1 := hrow x hx r hr
    have h2 := hx.2.1 (u + r) (by omega)
    grind
  have hone : ∀ x, F m (u + m) (packA m u M) (fun _ => false) x → ∀ e, e < u → x e ≤ 1 := by
    intro x hx e he
    obtain ⟨r, hr, hre⟩ := hin e he
    have hp := (hpack x hx).2 r hr
    have h1 : M r e * x e ≤ sm u (fun e => M r e * x e) := by
      rw [sm_split he (fun e => M r e * x e)]
      have : 0 ≤ sm u (fun i => if i = e then 0 else M r i * x i) := sm_nonneg (fun i hi => by
        split
        · grind
        · exact Rat.mul_nonneg (hM r hr i hi) (hx.2.1 i (by omega)))
      grind
    rw [hre] at h1
    grind
  obtain ⟨bar', s', k, h1, _, h3, _⟩ := aim_exists (cf 0 u (-1)) (pack_good (m := m) (u := u) (M := M))
  rw [← h3] at h1
  have hg : Good m (u + m) (packA m u M) (fun _ => false) s' := by rw [h3]; exact pack_good.it k
  have hred := halt_best hg h1 (-sm u (fun _ => 1)) (fun x hx => by
    rw [hsum]
    have := sm_le (n := u) (f := x) (g := fun _ => 1) (fun i hi => hone x hx i hi)
    grind)
  have hT := fun {j : Nat} (hj : j ≤ u + m) => slack_rows hg.inv hj
  have hc0 : ∀ j, u ≤ j → cf 0 u (-1) j = 0 := fun j hj => if_neg (by omega)
  have hc1 : ∀ j, j < u → cf 0 u (-1) j = -1 := fun j hj => if_pos (by omega)
  refine ⟨fun r => - sm m (fun i => cf 0 u (-1) (s'.B i) * s'.T i (u + r)), xb m (u + m) s', ⟨fun r hr => ?_, fun e he => ?_⟩, hpack _ hg.xb_mem, ?_⟩
  · have := hred (u + r) (by omega) rfl
    unfold red at this
    rw [hc0 (u + r) (by omega)] at this
    grind
  · have h2 := hred e (by omega) rfl
    unfold red at h2
    rw [hc1 e he] at h2
    have e1 : sm m (fun i => cf 0 u (-1) (s'.B i) * s'.T i e) = sm m (fun r => M r e * sm m (fun i => cf 0 u (-1) (s'.B i) * s'.T i (u + r))) := by
      have a1 : ∀ i, i < m → cf 0 u (-1) (s'.B i) * s'.T i e = sm m (fun r => M r e * (cf 0 u (-1) (s'.B i) * s'.T i (u + r))) := by
        intro i hi
        rw [hT (show e ≤ u + m by omega) i hi, ← sm_mul]
        exact sm_congr (fun r _ => by
          unfold packA; rw [if_pos he]; grind)
      rw [sm_congr a1, sm_swap]
      exact sm_congr (fun r _ => by rw [sm_mul])
    rw [e1] at h2
    have e2 : sm m (fun r => M r e * - sm m (fun i => cf 0 u (-1) (s'.B i) * s'.T i (u + r))) = (-1) * sm m (fun r => M r e * sm m (fun i => cf 0 u (-1) (s'.B i) * s'.T i (u + r))) := by
      rw [← sm_mul]
      exact sm_congr (fun r _ => by grind)
    show 1 ≤ sm m (fun r => M r e * - sm m (fun i => cf 0 u (-1) (s'.B i) * s'.T i (u + r)))
    rw [e2]
    grind
  · have h2 := dot_xb hg.inv (cf 0 u (-1))
    rw [hsum] at h2
    unfold obj at h2
    have e1 : sm m (fun i => cf 0 u (-1) (s'.B i) * s'.T i (u + m)) = sm m (fun r => sm m (fun i => cf 0 u (-1) (s'.B i) * s'.T i (u + r))) := by
      have a1 : ∀ i, i < m → cf 0 u (-1) (s'.B i) * s'.T i (u + m) = sm m (fun r => cf 0 u (-1) (s'.B i) * s'.T i (u + r)) := by
        intro i hi
        rw [hT (Nat.le_refl _) i hi, ← sm_mul]
        exact sm_congr (fun r hr => by
          have : packA m u M (u + m) r = 1 := by unfold packA; rw [if_neg (by omega), if_neg (by omega)]
          rw [this]; grind)
      rw [sm_congr a1, sm_swap]
    rw [e1] at h2
    have e2 : sm m (fun r => - sm m (fun i => cf 0 u (-1) (s'.B i) * s'.T i (u + r))) = (-1) * sm m (fun r => sm m (fun i => cf 0 u (-1) (s'.B i) * s'.T i (u + r))) := by
      rw [← sm_mul]
      exact sm_congr (fun r _ => by grind)
    rw [e2]
    grind

/-- the least cover and the greatest packing have one sum -/
theorem duality {m u : Nat} {M : Nat → Nat → Rat} (hM : ∀ r, r < m → ∀ e, e < u → 0 ≤ M r e) (hin : ∀ e, e < u → ∃ r, r < m ∧ M r e = 1) {x y : Nat → Rat}
    (hx : Cover u m (fun e r => M r e) x) (hxl : ∀ z, Cover u m (fun e r => M r e) z → sm m x ≤ sm m z) (hy : Pack m u M y) (hyl : ∀ z, Pack m u M z → sm u z ≤ sm u y) : sm m x = sm u y := by
  obtain ⟨x0, y0, h1, h2, h3⟩ := strong hM hin
  have a := hxl x0 h1
  have b := hyl y0 h2
  have c := weak hx hy
  grind

end Go.Proofs.Ytnmcgbfhgmmcpaa.Cov
