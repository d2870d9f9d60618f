import Derived.Deep.LoopGhost
import Derived.Test.YtoikfjhgeceimabSj08
import Derived.Test.YtoikfjhgeceimabSj11
import Derived.Test.YtoikfjhgeceimabSj12
/-
  impl.areAscending.
-/
namespace Go.Proofs.Ytoikfjhgeceimab
open Go.RowKit Meet

set_option maxHeartbeats 4000000 in
set_option maxRecDepth 1000000 in
theorem areAsc_calls (w : World) (ve : Value) (ls : List (List Int)) (h : ISS w ve ls) (hl : Short ls) :
    Calls Try.prog 100 #[ve] w fun e w' => e = .returned (.bool (ls.all ascB)) ∧ ∃ d, w' = w.drewN d := by
  obtain ⟨a, cap, rfl, hc⟩ := h
  obtain ⟨hl1, hl2⟩ := hl
  obtain ⟨n, hn⟩ : ∃ n, n = ls.length := ⟨_, rfl⟩
  obtain ⟨res, hres⟩ : ∃ r, r = ls.all ascB := ⟨_, rfl⟩
  rw [← hres]
  rw [← hn] at hc hl1 ⊢
  have HR := hid hres
  have HC := hid hc
  have HN := hid hn
  have HL := hid hl2
  clear hc hn hl2 hres
  go_enter Try.func100, Try.ntmps100
  go_wp2
  go_loopw [8] (fun t wr => ∃ j : Nat, j ≤ n ∧ t = .int .i64 j ∧ Hid (∃ m, wr = w.drewN m) ∧ Hid (∀ i, i < j → ascB (ls.getD i []) = true)) (fun t _ => n - (intOf t).toNat)
  case atStart => exact ⟨0, Nat.zero_le _, rfl, hid ⟨0, rfl⟩, hid (fun i hi => by omega)⟩
  case round =>
    obtain ⟨j, hj, rfl, hB, hok⟩ := hrel
    by_cases hjn : j < n
    · have i1 : (j : Int) < (n : Int) := by omega
      rcases HC.out with h0 | ⟨b, o, rfl, hcell⟩
      · omega
      · obtain ⟨u, d1, hu⟩ := hcell j hjn
        have c1 : wr.cell? ⟨b, o + j, none⟩ = some u := by obtain ⟨m, rfl⟩ := hB.out; exact d1
        have hml := HL.out j
        obtain ⟨a1, cap1, rfl, hu2⟩ := hu
        have HU := hid hu2
        have fin : ∀ i, i < (ls.getD j []).length → ascAt (ls.getD j []) i = false → Hid (res = false) := fun i hi e => HR.out.trans (all_getD_false ascB [] ls j (by rw [← HN.out]; exact hjn) (ascB_false hi e))
        have nxt : (∀ k, k < (ls.getD j []).length → ascAt (ls.getD j []) k = true) → Hid (∀ i, i < j + 1 → ascB (ls.getD i []) = true) := fun e i hi => by
          by_cases e2 : i = j
          · rw [e2]; exact ascB_true e
          · exact hok.out i (by omega)
        have HF := hid fin
        have HX := hid nxt
        clear hcell hok d1 hu2 fin nxt
        generalize ls.getD j [] = l at *
        obtain ⟨m, hm⟩ : ∃ m, m = l.length := ⟨_, rfl⟩
        rw [← hm] at c1 hml HU HF HX
        clear hm
        go_wp2
        go_loopw [5] (fun t wi => ∃ i : Nat, 1 ≤ i ∧ i ≤ m + 1 ∧ t = .int .i64 i ∧ Hid (∃ m, wi = w.drewN m) ∧ Hid (∀ k, k < i → k < m → ascAt l k = true)) (fun t _ => m - (intOf t).toNat)
        case atStart => exact ⟨1, Nat.le_refl _, by omega, rfl, hB, hid (fun k hk _ => by rw [show k = 0 by omega]; rfl)⟩
        case round =>
          obtain ⟨i, hi1, hi2, rfl, hBi, hoki⟩ := hrel
          by_cases him : i < m
          · have j1 : (i : Int) < (m : Int) := by omega
            rcases HU.out with h0 | ⟨b', o', rfl, hcl⟩
            · omega
            · have c2 : wr.cell? ⟨b', o' + i, none⟩ = some (.int .i64 (l.getD i 0)) := by obtain ⟨q, rfl⟩ := hBi.out; exact hcl i him
              have c3 : wr.cell? ⟨b', o' + (i - 1), none⟩ = some (.int .i64 (l.getD (i - 1) 0)) := by obtain ⟨q, rfl⟩ := hBi.out; exact hcl (i - 1) (by omega)
              have i4 : ((i : Int) - 1).toNat = i - 1 := by omega
              have hat : ascAt l i = decide (l.getD (i - 1) 0 < l.getD i 0) := by unfold ascAt; rw [decide_eq_false (by omega), Bool.false_or]
              clear hcl
              by_cases hx : l.getD (i - 1) 0 < l.getD i 0
              · rw [decide_eq_true hx] at hat
                have hnx : Hid (∀ k, k < i + 1 → k < m → ascAt l k = true) := hid (fun k hk hkm => by
                  by_cases e2 : k = i
                  · rw [e2]; exact hat
                  · exact hoki.out k (by omega) hkm)
                clear hat
                generalize l.getD i 0 = y at *
                generalize l.getD (i - 1) 0 = x at *
                have d1 : ¬ (y ≤ x) := by omega
                go_wp2_with fail
                go_quiet (fail)
                go_wp2
                go_roundw
                case rel => exact ⟨i + 1, by omega, by omega, by go_num, hid (drewN_step _ hBi.out), hnx⟩
                case measure => simp [intOf]; omega
              · rw [decide_eq_false hx] at hat
                have hf := HF.out i him hat
                clear hat
                generalize l.getD i 0 = y at *
                generalize l.getD (i - 1) 0 = x at *
                have d1 : y ≤ x := by omega
                go_wp2_with fail
                go_quiet (fail)
                go_wp2
                go_ret
                exact ⟨ret_bool (by rw [hf.out]), drewN_step _ hBi.out⟩
          · have j1 : ¬ ((i : Int) < (m : Int)) := by omega
            have hnx := HX.out (fun k hk => hoki.out k (by omega) hk)
            go_wp2
            go_roundw
            case rel => exact ⟨j + 1, by omega, by go_num, hBi, hnx⟩
            case measure => simp [intOf]; omega
    · obtain rfl : j = n := by omega
      have i1 : ¬ ((j : Int) < (j : Int)) := by omega
      have hf : Hid (res = true) := HR.out.trans (all_getD ascB [] ls (fun i hi => hok.out i (by rw [HN.out]; exact hi)))
      clear hok
      go_wp2
      go_ret
      exact ⟨ret_bool (by rw [hf.out]), hB.out⟩

end Go.Proofs.Ytoikfjhgeceimab

/-
  impl.Intersect.
-/
namespace Go.Proofs.Ytoikfjhgeceimab
open Go.RowKit Meet

theorem Try.infoCur : (Try.prog.info? 119).map (fun i => (i.zero, i.size, i.bytes)) = some (some (.agg #[.pointer none, .int .i64 0]), 2, 16) := by kernel_rfl

theorem own_og {w w' : World} {B c n s : Nat} {e e' : TypeId} {v : Value} {xs : List Value} (h : w.ownsRow B e s v n xs) (ho : Og c w w') (ht : ∃ cur, w.heap[c]? = some (.cells cur e' (0, 0))) (hne : e ≠ e') : w'.ownsRow B e s v n xs := by
  obtain ⟨h1, h2⟩ := h
  refine ⟨h1, ?_⟩
  rcases h2 with h2 | ⟨g, cap, cur, hv, hg, hc, hr⟩
  · exact Or.inl h2
  · refine Or.inr ⟨g, cap, cur, hv, hg, ?_, hr⟩
    rw [ho.block g (fun e => by
      obtain ⟨cur', hc'⟩ := ht
      rw [e, hc'] at hc
      simp only [Option.some.injEq, Obj.cells.injEq] at hc
      exact hne hc.2.1.symm)]
    exact hc

/-- a row's own block is none whose cells are of another type -/
theorem own_ne {w : World} {B b n s : Nat} {e e' : TypeId} {v : Value} {xs : List Value} (h : w.ownsRow B e s v n xs) (ht : ∃ cur, w.heap[b]? = some (.cells cur e' (0, 0))) (hne : e ≠ e') : some b ≠ v.ownBlock := by
  intro hb
  obtain ⟨h1, h2⟩ := h
  rcases h2 with ⟨rfl, _⟩ | ⟨g, cap, cur, rfl, hg, hc, hr⟩
  · simp [Value.ownBlock] at hb
  · simp only [Value.ownBlock, Option.some.injEq] at hb
    subst hb
    obtain ⟨cur', hc'⟩ := ht
    rw [hc'] at hc
    simp only [Option.some.injEq, Obj.cells.injEq] at hc
    exact hne hc.2.1.symm

theorem Curs.move {w w' : World} {c : Nat} {tb fb : Nat → Nat} {ls : List (List Int)} {p : Nat → Nat} (h : Curs w c tb fb ls p) (h1 : w'.heap[c]? = w.heap[c]?) (h2 : ∀ i, i < ls.length → w'.heap[tb i]? = w.heap[tb i]?) (h3 : ∀ i, i < ls.length → w'.heap[fb i]? = w.heap[fb i]?) : Curs w' c tb fb ls p where
  ne := h.ne
  typ := by rw [h1]; exact h.typ
  ttyp i hi := by rw [h2 i hi]; exact h.ttyp i hi
  cur i hi := ⟨(World.cell?_of_block (w := w) (a := ⟨c, i * 2, none⟩) h1).trans (h.cur i hi).ptr, (World.cell?_of_block (w := w) (a := ⟨c, i * 2 + 1, none⟩) h1).trans (h.cur i hi).pl, (World.frozen?_of_block (w := w) (a := ⟨c, i * 2 + 1, none⟩) h1).trans (h.cur i hi).fz,
    (World.cell?_of_block (w := w) (a := ⟨tb i, 0, none⟩) (h2 i hi)).trans (h.cur i hi).val, fun j hj => (World.cell?_of_block (w := w) (a := ⟨fb i, j, none⟩) (h3 i hi)).trans ((h.cur i hi).own j hj)⟩

theorem lt_of_typ {w : World} {b : Nat} {e : TypeId} (h : ∃ cur, w.heap[b]? = some (.cells cur e (0, 0))) : b < w.heap.size := by
  obtain ⟨cur, h⟩ := h
  rcases Nat.lt_or_ge b w.heap.size with h3 | h3
  · exact h3
  · rw [Array.getElem?_eq_none h3] at h; cases h

theorem Curs.below {w w' : World} {c : Nat} {tb fb : Nat → Nat} {ls : List (List Int)} {p : Nat → Nat} (h : Curs w c tb fb ls p) (hf : ∀ i, i < ls.length → fb i < w.heap.size) (hb : Below w.heap.size w w') : Curs w' c tb fb ls p :=
  h.move (hb.block c (lt_of_typ h.typ)) (fun i hi => hb.block _ (lt_of_typ (h.ttyp i hi))) (fun i hi => hb.block _ (hf i hi))

def ccells (tb : Nat → Nat) (k : Nat) : List Value := (List.range k).flatMap fun i => [.pointer (some ⟨tb i, 0, none⟩), .int .i64 0]
theorem ccells_succ (tb : Nat → Nat) (k : Nat) : ccells tb (k + 1) = ccells tb k ++ [.pointer (some ⟨tb k, 0, none⟩), .int .i64 0] := by
  simp [ccells, List.range_succ]
theorem ccells_congr {tb tb' : Nat → Nat} {k : Nat} (h : ∀ i, i < k → tb i = tb' i) : ccells tb k = ccells tb' k := by
  induction k with
  | zero => rfl
  | succ k ih => rw [ccells_succ, ccells_succ, ih (fun i hi => h i (by omega)), h k (by omega)]
theorem ccells_len (tb : Nat → Nat) (k : Nat) : (ccells tb k).length = k * 2 := by
  induction k with
  | zero => rfl
  | succ k ih => rw [ccells_succ, List.length_append, ih]; simp; omega
theorem ccells_get (tb : Nat → Nat) (k i : Nat) (h : i < k) : (ccells tb k)[i * 2]? = some (.pointer (some ⟨tb i, 0, none⟩)) ∧ (ccells tb k)[i * 2 + 1]? = some (.int .i64 0) := by
  induction k with
  | zero => omega
  | succ k ih =>
    rw [ccells_succ]
    by_cases e : i = k
    · subst e
      rw [List.getElem?_append_right (by rw [ccells_len]; omega), List.getElem?_append_right (by rw [ccells_len]; omega), ccells_len]
      simp
    · rw [List.getElem?_append_left (by rw [ccells_len]; omega), List.getElem?_append_left (by rw [ccells_len]; omega)]
      exact ih (by omega)

/-- the first k cursors have been laid -/
structure Laid (W : World) (B : Nat) (v : Value) (k : Nat) (f : Nat → Nat) (ls : List (List Int)) (tb : Nat → Nat) : Prop where
  own : W.ownsRow B 119 2 v k (ccells tb k)
  trie : ∀ i, i < k → W.heap[tb i]? = some (.cells #[.slice (some ⟨f i, 0, none⟩) (ls.getD i []).length (ls.getD i []).length, .slice none 0 0] 117 (0, 0))

end Go.Proofs.Ytoikfjhgeceimab

/-
  impl.Intersect, walked.
-/
namespace Go.Proofs.Ytoikfjhgeceimab
open Go.RowKit Meet

theorem own_grown {w w' : World} {B n s : Nat} {e : TypeId} {v : Value} {xs : List Value} {row : Option Nat} (h : w.ownsRow B e s v n xs) (hg : w.grownBy w' row) (hne : ∀ k, v.ownBlock = some k → some k ≠ row) : w'.ownsRow B e s v n xs := by
  have hlt := h.lt
  obtain ⟨h1, h2⟩ := h
  refine ⟨h1, ?_⟩
  rcases h2 with h2 | ⟨g, cap, cur, rfl, hb, hc, hr⟩
  · exact Or.inl h2
  · exact Or.inr ⟨g, cap, cur, rfl, hb, (hg.block g (hlt g rfl).2 (hne g rfl)).trans hc, hr⟩

theorem own_drewN {w : World} {B n s : Nat} {e : TypeId} {v : Value} {xs : List Value} (h : w.ownsRow B e s v n xs) (d : Nat) : (w.drewN d).ownsRow B e s v n xs := h

theorem Laid.step {W W1 : World} {B k : Nat} {v v' : Value} {f tb : Nat → Nat} {ls : List (List Int)} {o2 : Obj} (h : Laid W B v k f ls tb)
    (hown' : W1.ownsRow B 119 2 v' (k + 1) (ccells tb k ++ [.pointer (some ⟨W.heap.size, 0, none⟩), .int .i64 0]))
    (hgrow : ((W.alloc (.cells #[.slice (some ⟨f k, 0, none⟩) (ls.getD k []).length (ls.getD k []).length, .slice none 0 0] 117)).alloc o2).grownBy W1 v.ownBlock) : ∃ tb', Laid W1 B v' (k + 1) f ls tb' := by
  have hsz : ∀ (X : World) (o : Obj), (X.alloc o).heap.size = X.heap.size + 1 := fun X o => by simp
  refine ⟨fun i => if i = k then W.heap.size else tb i, ?_, fun i hi => ?_⟩
  · rw [ccells_succ, if_pos rfl, ccells_congr (tb' := tb) (fun i hi => if_neg (by omega))]
    exact hown'
  · by_cases e : i = k
    · subst e
      rw [if_pos rfl, hgrow.block W.heap.size (by rw [hsz, hsz]; omega) (fun hb => by have := (h.own.lt _ hb.symm).2; omega)]
      rw [Below.heap_alloc _ _ _ (by rw [hsz]; omega)]
      exact heap_alloc_new _ _
    · rw [if_neg e]
      have h1 := h.trie i (by omega)
      have hlt := lt_of_typ ⟨_, h1⟩
      rw [hgrow.block (tb i) (by rw [hsz, hsz]; omega) (own_ne h.own ⟨_, h1⟩ (by decide)), Below.heap_alloc _ _ _ (by rw [hsz]; omega), Below.heap_alloc _ _ _ (by omega)]
      exact h1

theorem Laid.shape {W : World} {B k : Nat} {v : Value} {f tb : Nat → Nat} {ls : List (List Int)} (h : Laid W B v k f ls tb) (hk : k ≠ 0) : ∃ c cap, B ≤ c ∧ v = .slice (some ⟨c, 0, none⟩) k cap := by
  rcases h.own.2 with ⟨h', h2⟩ | ⟨g', cap', cur, h', hb', hg, _⟩
  · exact absurd h2 hk
  · exact ⟨g', cap', hb', h'⟩

theorem Laid.curs {W : World} {B c n cap : Nat} {f tb : Nat → Nat} {ls : List (List Int)} (h : Laid W B (.slice (some ⟨c, 0, none⟩) n cap) n f ls tb) (hn : n = ls.length) (hB : B ≤ c) (hf : ∀ i, i < n → f i < B)
    (hc : ∀ i, i < n → ∀ j, j < (ls.getD i []).length → W.cell? ⟨f i, j, none⟩ = some (.int .i64 ((ls.getD i []).getD j 0))) : Curs W c tb f ls (fun _ => 0) := by
  subst hn
  have htyp : ∃ cur, W.heap[c]? = some (.cells cur 119 (0, 0)) := by
    rcases h.own.2 with ⟨h', _⟩ | ⟨g', cap', cur, h', _, hg, _⟩
    · simp at h'
    · simp only [Value.slice.injEq, Option.some.injEq, Addr.mk.injEq, and_true, true_and] at h'
      obtain ⟨rfl, rfl⟩ := h'
      exact ⟨cur, hg⟩
  refine ⟨fun i hi => ⟨?_, ?_, ?_, ?_, hc i hi⟩, fun i hi => ⟨?_, ?_⟩, htyp, fun i hi => ⟨_, h.trie i hi⟩⟩
  · rw [h.own.cellAt (i * 2) (by omega)]; exact (ccells_get tb _ i hi).1
  · rw [h.own.cellAt (i * 2 + 1) (by omega)]; exact (ccells_get tb _ i hi).2
  · exact h.own.frozenAt _
  · rw [cell_of_row _ _ _ _ _ _ (h.trie i hi)]; rfl
  · exact fun e => own_ne h.own ⟨_, h.trie i hi⟩ (by decide) (by rw [e]; rfl)
  · have := hf i hi; omega

theorem Curs.grown {W W1 : World} {B c q : Nat} {tb fb : Nat → Nat} {ls : List (List Int)} {p : Nat → Nat} {v : Value} {xs : List Value} {o : Obj} (h : Curs W c tb fb ls p) (hf : ∀ i, i < ls.length → fb i < B) (hB : B ≤ W.heap.size)
    (hown : W.ownsRow B 3 1 v q xs) (hg : (W.alloc o).grownBy W1 v.ownBlock) : Curs W1 c tb fb ls p := by
  have hsz : (W.alloc o).heap.size = W.heap.size + 1 := by simp
  have hk : ∀ b, b < W.heap.size → some b ≠ v.ownBlock → W1.heap[b]? = W.heap[b]? := fun b hb hne => (hg.block b (by omega) hne).trans (Below.heap_alloc _ _ _ hb)
  refine h.move (hk c (lt_of_typ h.typ) (own_ne hown h.typ (by decide))) (fun i hi => hk _ (lt_of_typ (h.ttyp i hi)) (own_ne hown (h.ttyp i hi) (by decide))) (fun i hi => hk _ (by have := hf i hi; omega) (fun e => ?_))
  have := (hown.lt _ e.symm).1
  have := hf i hi
  omega

theorem got_len {ls : List (List Int)} {p : Nat → Nat} {acc : List Int} (h : Got ls p acc) : acc.length ≤ (ls.getD 0 []).length := by
  rw [h.acc]
  refine Nat.le_trans (List.length_filter_le _ _) ?_
  rw [List.length_take]; omega

end Go.Proofs.Ytoikfjhgeceimab
