import Derived.Test.YtpdloenmplafiaaV38
/-
  impl: trieOf.
-/
namespace Go.Proofs.Ytpdloenmplafiaa
open Go.RowKit Meet

theorem TS.start (w : World) : TS w (w.alloc (.cells #[.slice none 0 0, .slice none 0 0] 157)) [] 0 w.heap.size := by
  refine ⟨_, _, fun _ => w.heap.size, fun _ => .slice none 0 0, fun _ => .slice none 0 0, TM.none, ⟨fun p _ => heap_alloc_new _ _, fun p _ => Nat.le_refl _, fun p _ => World.ownsRow_nil _ _ _ _, fun p _ => World.ownsRow_nil _ _ _ _, fun p q hp hq _ => hp.trans hq.symm, fun p q _ _ _ g h => by simp [Value.ownBlock] at h, fun p q _ _ _ g h => by simp [Value.ownBlock] at h⟩, rfl, fun p _ => Nat.le_refl _, (Below.refl _ _).alloc (Nat.le_refl _) _⟩
theorem TS.bw {W0 W : World} {rs : List (List Int)} {K root : Nat} (h : TS W0 W rs K root) : Below W0.heap.size W0 W := by
  obtain ⟨_, _, _, _, _, _, _, _, _, hb⟩ := h
  exact hb

theorem sl_take {rows : List (List Int)} (h : SL rows) {j : Nat} (hj : j < rows.length) : ∀ s ∈ rows.take j, cmpL s (rows.getD j []) < 0 := fun s hs => by
  obtain ⟨i, hi, e⟩ := List.getElem_of_mem hs
  rw [List.length_take] at hi
  rw [List.getElem_take] at e
  have := List.pairwise_iff_getElem.1 h i j (by omega) hj (by omega)
  rw [List.getD_eq_getElem?_getD, List.getElem?_eq_getElem hj, ← e]
  exact this

set_option maxHeartbeats 2000000 in
set_option maxRecDepth 1000000 in
theorem trieOf_calls (w : World) (vr : Value) (rows : List (List Int)) (hr : ISS w vr rows) (hS : SL rows) (hn : rows.length ≤ 100000) (hl : ∀ r ∈ rows, r.length ≤ 1000) :
    Calls Try.prog 80 #[vr] w fun e w' => ∃ c, e = .returned (.pointer c) ∧ (rows = [] ∧ c = none ∨ rows ≠ [] ∧ ∃ root, c = some ⟨root, 0, none⟩ ∧ TS w w' rows rows.length root) ∧ Below w.heap.size w w' := by
  obtain ⟨ar, cr, rfl, hc⟩ := hr
  have HC : Hid (∀ W, Below w.heap.size w W → ∀ j, j < rows.length → ∃ (b o : Nat) (u : Value), ar = some ⟨b, o, none⟩ ∧ W.cell? ⟨b, o + j, none⟩ = some u ∧ IS w u (rows.getD j [])) := hid fun W hW j hj => by
    rcases hc with h0 | ⟨b, o, rfl, h⟩
    · omega
    · obtain ⟨u, h1, h2⟩ := h j hj
      exact ⟨b, o, u, rfl, (hW.cell (World.block_lt_of_cell? w _ h1)).trans h1, h2⟩
  have KA : Hid (∀ W u j, j < rows.length → TS w W (rows.take j) j w.heap.size → IS w u (rows.getD j []) → Calls Try.prog 124 #[.pointer (some ⟨w.heap.size, 0, none⟩), u] W fun e w' => (∃ v, e = .returned v) ∧ TS w w' (rows.take (j + 1)) (j + 1) w.heap.size) := hid fun W u j hj hT hu => by
    have hm : rows.getD j [] ∈ rows := by rw [List.getD_eq_getElem?_getD, List.getElem?_eq_getElem hj]; exact List.getElem_mem _
    have e : rows.take (j + 1) = rows.take j ++ [rows.getD j []] := by
      rw [List.take_add_one, List.getElem?_eq_getElem hj, List.getD_eq_getElem?_getD, List.getElem?_eq_getElem hj]; rfl
    rw [e]
    exact add_calls w W (rows.take j) j w.heap.size u _ hT hu (hl _ hm) (sl_take hS hj) (by omega)
  have H0 := hid (TS.start w)
  have HE : Hid (∀ W, TS w W (rows.take rows.length) rows.length w.heap.size → TS w W rows rows.length w.heap.size) := hid fun W h => by rw [List.take_length] at h; exact h
  have HZ : Hid (rows.length = 0 → rows = []) := hid fun h => List.length_eq_zero_iff.1 h
  have HZ2 : Hid (0 < rows.length → rows ≠ []) := hid fun h e => by rw [e] at h; simp at h
  have HT0 : Hid (rows.take 0 = []) := hid rfl
  clear hc hS hl
  obtain ⟨n, hn'⟩ : ∃ n, n = rows.length := ⟨_, rfl⟩
  rw [← hn'] at HC KA HE HZ HZ2 hn ⊢
  clear hn'
  rcases Nat.eq_zero_or_pos n with h0 | h0
  · subst h0
    have hz := HZ.out rfl
    clear HC KA HE HZ HZ2 H0
    go_enter Try.func80, Try.ntmps80
    go_wp2_with fail
    go_ret
    exact ⟨_, rfl, Or.inl ⟨hz, rfl⟩, Below.refl _ _⟩
  · have i0 : ((n : Int) == 0) = false := by simp; omega
    have hz := hid (HZ2.out h0)
    clear HZ HZ2
    go_enter Try.func80, Try.ntmps80
    go_upto_region 4 with fail
    generalize w.alloc (.cells #[.slice none 0 0, .slice none 0 0] 157) = W1 at *
    go_wp2_with fail
    go_loopw [13] (fun t wr => ∃ (j : Nat), j ≤ n ∧ t = .int .i64 j ∧ Hid (TS w wr (rows.take j) j w.heap.size)) (fun t _ => n - (intOf t).toNat)
    case atStart => exact ⟨0, Nat.zero_le _, rfl, hid (by rw [HT0.out]; exact H0.out)⟩
    case round =>
      clear H0 HT0
      obtain ⟨j, hj, rfl, HT⟩ := hrel
      by_cases hjn : j < n
      · have i1 : (j : Int) < (n : Int) := by omega
        obtain ⟨b, o, u, ea, e1, hu⟩ := HC.out wr HT.out.bw j hjn
        subst ea
        have KA1 := hid (KA.out wr u j hjn HT.out hu)
        obtain ⟨au, cu, rfl, -⟩ := hu
        clear HC KA HE HT
        generalize (rows.getD j []).length = lr at *
        go_wp2_with fail
        refine KA1.out.mono ?_
        rintro e w2 ⟨⟨v, rfl⟩, hT2⟩
        have HT2 := hid hT2
        clear hT2 KA1
        go_wp2_with fail
        go_roundw
        case rel => exact ⟨j + 1, by omega, by go_num, HT2⟩
        case measure => simp [intOf]; omega
      · obtain rfl : j = n := by omega
        have i1 : ¬ ((j : Int) < (j : Int)) := by omega
        have HF := hid (HE.out wr HT.out)
        clear HC KA HE HT
        go_wp2_with fail
        go_ret
        exact ⟨_, rfl, Or.inr ⟨hz.out, _, rfl, HF.out⟩, HF.out.bw⟩

end Go.Proofs.Ytpdloenmplafiaa
