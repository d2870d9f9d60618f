import Derived.Test.YtegcpplkcahkhaaGreatB28
/-
  spec.Intersect.
-/
namespace Go.Proofs.YtegcpplkcahkhaaGreat
open Go.RowKit Meet

theorem new1_cell (w : World) (v : Value) (t : TypeId) : ∀ j u, [v][j]? = some u → (w.alloc (.cells #[v] t)).cell? ((⟨w.heap.size, 0, none⟩ : Addr).add j) = some u := by
  intro j u hj
  match j, hj with
  | 0, hj => simp at hj; subst hj; simp [Addr.add]

theorem one_int (x : Int) : ∀ u ∈ [Value.int .i64 x], u.oneCell' = true := by
  intro u hu
  simp at hu; subst hu; rfl

theorem mem_iff {l : List Int} {x : Int} {q : Nat} (h1 : ∀ j, j < q → l.getD j 0 < x) (h2 : ∀ j, q ≤ j → j < l.length → x ≤ l.getD j 0) (ha : Asc l) : decide (x ∈ l) = (decide (q < l.length) && decide (l.getD q 0 = x)) := by
  by_cases hq : q < l.length
  · rw [decide_eq_true hq, Bool.true_and]
    by_cases e : l.getD q 0 = x
    · rw [decide_eq_true e]
      exact decide_eq_true (e ▸ at_mem hq)
    · rw [decide_eq_false e]
      refine decide_eq_false (fun hm => ?_)
      obtain ⟨j, hj, e2⟩ := mem_at hm
      rcases Nat.lt_or_ge j q with h3 | h3
      · have := h1 j h3; omega
      · have h4 := h2 q (Nat.le_refl _) hq
        rcases Nat.lt_or_ge q j with h5 | h5
        · have := ha q j h5 hj; omega
        · rw [show j = q by omega] at e2; exact e e2
  · rw [decide_eq_false hq, Bool.false_and]
    refine decide_eq_false (fun hm => ?_)
    obtain ⟨j, hj, e2⟩ := mem_at hm
    have := h1 j (by omega)
    omega

theorem filter_hit (f : Int → Bool) (l : List Int) (k : Nat) (h : k < l.length) (hf : f (l.getD k 0) = true) : (l.take (k + 1)).filter f = (l.take k).filter f ++ [l.getD k 0] := by
  rw [List.take_add_one, List.getElem?_eq_getElem h, List.filter_append]
  rw [List.getD_eq_getElem?_getD, List.getElem?_eq_getElem h] at hf ⊢
  simp only [Option.getD_some] at hf ⊢
  simp [hf]
theorem filter_miss (f : Int → Bool) (l : List Int) (k : Nat) (h : k < l.length) (hf : f (l.getD k 0) = false) : (l.take (k + 1)).filter f = (l.take k).filter f := by
  rw [List.take_add_one, List.getElem?_eq_getElem h, List.filter_append]
  rw [List.getD_eq_getElem?_getD, List.getElem?_eq_getElem h] at hf
  simp only [Option.getD_some] at hf
  simp [hf]

def inSome (ls : List (List Int)) (x : Int) (i : Nat) : Bool := (ls.take i).all fun l => decide (x ∈ l)
theorem inSome_succ (ls : List (List Int)) (x : Int) (i : Nat) (h : i < ls.length) : inSome ls x (i + 1) = (inSome ls x i && decide (x ∈ ls.getD i [])) := by
  unfold inSome
  rw [List.take_add_one, List.getElem?_eq_getElem h, List.all_append, List.getD_eq_getElem?_getD, List.getElem?_eq_getElem h]
  simp
theorem inSome_all (ls : List (List Int)) (x : Int) : inSome ls x ls.length = inAll ls x := by
  unfold inSome inAll
  rw [List.take_length]

end Go.Proofs.YtegcpplkcahkhaaGreat
