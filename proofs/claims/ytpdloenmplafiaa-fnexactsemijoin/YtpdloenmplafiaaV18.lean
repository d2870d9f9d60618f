import Derived.Laws.OwnMore
import Derived.Lib.SliceRun
import Derived.Test.YtpdloenmplafiaaV15
import Derived.Test.YtpdloenmplafiaaV17
/-
  slices.Clone of ints.
-/
namespace Go.Proofs.Ytpdloenmplafiaa
open Go.RowKit

set_option maxHeartbeats 1000000 in
set_option maxRecDepth 1000000 in
theorem cloneI_calls (w : World) (v : Value) (l : List Int) (h : IS w v l) (hl : l.length ≤ 100000) :
    Calls Try.prog 82 #[v] w fun e w' => ∃ v', e = .returned v' ∧ w'.ownsRow w.heap.size 3 1 v' l.length (l.map (Value.int .i64)) ∧ Below w.heap.size w w' := by
  obtain ⟨i0, hi, hz0, hz1, hz2⟩ := info_parts Try.infoInt
  obtain ⟨a, cap, rfl, hc⟩ := h
  cases a with
  | none =>
    have h0 : l.length = 0 := by
      rcases hc with h0 | ⟨b, o, e, -⟩
      · exact h0
      · cases e
    have e0 : l = [] := List.eq_nil_of_length_eq_zero h0
    subst e0
    have hq : ∀ w : World, (binOp .eql 22 (.slice none 0 cap) (.slice none 0 0)).run Try.prog w = .ok (.bool true) w := fun w => Lib.run_eql_slice_nil w 22 3 none 0 cap 0 0 Try.underlying22
    go_enter Try.func82, Try.ntmps82
    go_wp2
    go_ret
    exact ⟨_, rfl, World.ownsRow_nil _ _ _ _, Below.refl _ _⟩
  | some ad =>
    have hq : ∀ w : World, (binOp .eql 22 (.slice (some ad) l.length cap) (.slice none 0 0)).run Try.prog w = .ok (.bool false) w := fun w => Lib.run_eql_slice_nil w 22 3 (some ad) l.length cap 0 0 Try.underlying22
    have hown : (w.alloc (.cells #[] 3)).ownsRow w.heap.size 3 1 (.slice (some ⟨w.heap.size, 0, none⟩) 0 0) 0 [] := World.ownsRow_made w #[] 0 (Nat.le_refl _) (by decide) rfl
    have hbA : Below w.heap.size w (w.alloc (.cells #[] 3)) := (Below.refl _ _).alloc (Nat.le_refl _) _
    by_cases h0 : l.length = 0
    · have e0 : l = [] := List.eq_nil_of_length_eq_zero h0
      subst e0
      have hq0 : ∀ w : World, (binOp .eql 22 (.slice (some ad) 0 cap) (.slice none 0 0)).run Try.prog w = .ok (.bool false) w := hq
      clear hq hc h0
      go_enter Try.func82, Try.ntmps82
      go_wp2_with (first | (at_builtin; refine wpList_append_own _ rfl _ _ 22 rfl w.heap.size 3 i0 (.int .i64 0) 1 8 Try.underlying22 hi hz0 hz1 hz2 rfl (by decide) (.slice (some ⟨w.heap.size, 0, none⟩) 0 0) 0 [] rfl hown ad 0 cap [] rfl rfl (fun j u hu => by simp at hu) (fun u hu => by cases hu) (by unfold maxLen; omega) (by omega) (by simp) ?_; intro v3 w3 hown3 hgrow3 _) | fail)
      go_ret
      exact ⟨_, rfl, hown3, hbA.grown hgrow3 (by simp) (fun k hk => (hown.lt k hk).1)⟩
    · obtain ⟨b, o, e, hc'⟩ : ∃ b o, some ad = some (⟨b, o, none⟩ : Addr) ∧ ∀ j, j < l.length → w.cell? ⟨b, o + j, none⟩ = some (.int .i64 (l.getD j 0)) := by
        rcases hc with h1 | h1
        · omega
        · exact h1
      obtain rfl := Option.some.inj e
      clear hc e
      have hnews : ∀ j u, (l.map (Value.int .i64))[j]? = some u → (w.alloc (.cells #[] 3)).cell? ((⟨b, o, none⟩ : Addr).add j) = some u := fun j u hu => by
        have hj : j < l.length := by
          rcases Nat.lt_or_ge j l.length with h | h
          · exact h
          · rw [List.getElem?_eq_none (by simpa using h)] at hu; cases hu
        rw [show ((⟨b, o, none⟩ : Addr).add j) = ⟨b, o + j, none⟩ by unfold Addr.add; split <;> simp_all, hbA.cell (p := ⟨b, o + j, none⟩) (World.block_lt_of_cell? w _ (hc' j hj)), hc' j hj, ← hu, List.getElem?_map, List.getD_eq_getElem?_getD, List.getElem?_eq_getElem hj]
        rfl
      have HNW := hid hnews
      clear hnews hc'
      obtain ⟨n, hn⟩ : ∃ n, n = l.length := ⟨_, rfl⟩
      have HN := hid hn
      rw [← hn] at hq hl h0 ⊢
      clear hn
      go_enter Try.func82, Try.ntmps82
      go_wp2_with (first | (at_builtin; refine wpList_append_lies _ rfl _ _ 22 rfl w.heap.size 3 i0 (.int .i64 0) 1 8 Try.underlying22 hi hz0 hz1 hz2 rfl (by decide) (.slice (some ⟨w.heap.size, 0, none⟩) 0 0) 0 [] rfl hown ⟨b, o, none⟩ n cap (l.map (Value.int .i64)) rfl (by rw [List.length_map, HN.out]; omega) HNW.out (fun u hu => by obtain ⟨x, _, rfl⟩ := List.mem_map.1 hu; rfl) (by omega) (by unfold maxLen; omega) (by omega) (by simp) _ rfl ?_; intro g3 cp3 w3 hown3 hgrow3 hat3 hlt3) | fail)
      go_ret
      refine ⟨_, rfl, ?_, hbA.grown hgrow3 (by simp) (fun k hk => (hown.lt k hk).1)⟩
      simpa using hown3

end Go.Proofs.Ytpdloenmplafiaa
