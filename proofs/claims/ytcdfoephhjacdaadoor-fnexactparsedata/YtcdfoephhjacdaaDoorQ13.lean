import Derived.Shelf.SlSortCmp.WholeK
import Derived.Test.YtcdfoephhjacdaaDoorQ11
import Derived.Test.YtcdfoephhjacdaaDoorQ12
/-
  slices.SortFunc over tuples.
-/
namespace Go.Proofs.YtcdfoephhjacdaaDoor
open Go.RowKit Go.Shelf Go.Lib Go.Sort

theorem swo_cmpT : Sort.SWO (ltOf fun (a b : T3) => cmpL (tl a) (tl b)) where
  irrefl x := by simp [ltOf, cmpL_self]
  trans x y z h1 h2 := by
    simp only [ltOf, decide_eq_true_eq] at *
    exact cmpL_trans h1 h2
  ntrans x y z h1 h2 := by
    simp only [ltOf, decide_eq_false_iff_not] at *
    intro h3
    have e1 := cmpL_neg (tl x) (tl y)
    have e2 := cmpL_neg (tl y) (tl z)
    rcases Int.lt_trichotomy (cmpL (tl y) (tl x)) 0 with a | a | a
    · exact h2 (cmpL_trans a h3)
    · rw [← cmpL_eq a] at h3; exact h2 h3
    · omega

theorem get_tc (ss : List T3) : ∀ t, (ss.flatMap tc)[t]? = (ss[t / 3]?).bind fun x => (tc x)[t % 3]? := by
  induction ss with
  | nil => intro t; simp
  | cons x r ih =>
    intro t
    rw [List.flatMap_cons]
    by_cases h : t < 3
    · rw [List.getElem?_append_left (by simp only [tc, List.length_cons, List.length_nil]; omega), Nat.div_eq_of_lt h, Nat.mod_eq_of_lt h]
      rfl
    · obtain ⟨s, rfl⟩ : ∃ s, t = s + 3 := ⟨t - 3, by omega⟩
      rw [List.getElem?_append_right (by simp only [tc, List.length_cons, List.length_nil]; omega)]
      have e : s + 3 - (tc x).length = s := by simp only [tc, List.length_cons, List.length_nil]; omega
      rw [e, ih s, Nat.add_mod_right, Nat.add_div_right _ (by decide)]
      rfl
theorem flat_tc [Inhabited T3] (d : Array T3) : (flatK tc 3 d).toList = d.toList.flatMap tc := by
  refine List.ext_getElem? fun t => ?_
  rw [get_tc, Array.getElem?_toList]
  by_cases h : t < d.size * 3
  · have h3 : t / 3 < d.size := by omega
    have h4 : t % 3 < (tc d[t / 3]).length := by simp only [tc, List.length_cons, List.length_nil]; omega
    have e := get_flatK tc 3 d t h
    rw [getElem!_pos _ t (by simpa using h), getElem!_pos d _ h3, getElem!_pos (tc d[t / 3]) _ h4] at e
    rw [Array.getElem?_eq_getElem (by simpa using h), e, Array.getElem?_toList, Array.getElem?_eq_getElem h3, Option.bind_some, List.getElem?_eq_getElem h4]
  · rw [Array.getElem?_eq_none (by simp; omega), Array.getElem?_toList, Array.getElem?_eq_none (by omega)]
    rfl

theorem Tryd.aggT (w : World) : (isAgg 132).run Tryd.prog w = .ok true w := Tryd.isAgg132 w
theorem Tryd.sizeT (w : World) : (Go.sizeOf 132).run Tryd.prog w = .ok 3 w := Tryd.sizeOf132 w

theorem swk_heap [Inhabited T3] (w : World) (blk off m : Nat) (dk : Array T3) (os : Array Obj) {b : Nat} (hb : b < w.heap.size) (hne : b ≠ blk) : (sortWorldK tc 3 w blk off m dk os).heap[b]? = w.heap[b]? := by
  show (((w.heap.modify blk _) ++ os)[b]?) = _
  rw [Array.getElem?_append_left (by simpa using hb), Array.getElem?_modify, if_neg (Ne.symm hne)]
theorem swk_blk [Inhabited T3] (w : World) (blk off m : Nat) (dk : Array T3) (os : Array Obj) {cur : Array Value} {e : TypeId} {fr : Nat × Nat} (h : w.heap[blk]? = some (.cells cur e fr)) : (sortWorldK tc 3 w blk off m dk os).heap[blk]? = some (.cells (Sort.putCells id off (flatK tc 3 dk) cur) e fr) := by
  have hb : blk < w.heap.size := by
    rcases Nat.lt_or_ge blk w.heap.size with h1 | h1
    · exact h1
    · rw [Array.getElem?_eq_none h1] at h; cases h
  show (((w.heap.modify blk _) ++ os)[blk]?) = _
  rw [Array.getElem?_append_left (by simpa using hb), Array.getElem?_modify, if_pos rfl, h]
  rfl
theorem swk_size [Inhabited T3] (w : World) (blk off m : Nat) (dk : Array T3) (os : Array Obj) : w.heap.size ≤ (sortWorldK tc 3 w blk off m dk os).heap.size := by
  show w.heap.size ≤ ((w.heap.modify blk _) ++ os).size
  simp

theorem sortT_calls (w : World) (B g cap : Nat) (ss : List T3) (h : w.ownsRow B 132 3 (.slice (some ⟨g, 0, none⟩) ss.length cap) ss.length (ss.flatMap tc)) (hn : ss.length ≤ 1000000) :
    Calls Tryd.prog 104 #[.slice (some ⟨g, 0, none⟩) ss.length cap, .func (.func 80) #[] #[]] w fun e w' => e = .returned (.tuple #[]) ∧ ∃ ss' : List T3, ss'.Perm ss ∧ (ss'.Pairwise fun a b => ¬ cmpL (tl b) (tl a) < 0) ∧ w'.ownsRow B 132 3 (.slice (some ⟨g, 0, none⟩) ss.length cap) ss.length (ss'.flatMap tc) ∧ Below B w w' := by
  have inh : Inhabited T3 := ⟨⟨(0, 0, 0), by decide⟩⟩
  obtain ⟨hB, cur, hcur, hcap, hmax, hcs, htk⟩ : B ≤ g ∧ ∃ cur, w.heap[g]? = some (.cells cur 132 (0, 0)) ∧ ss.length ≤ cap ∧ cap ≤ maxLen ∧ cur.size = cap * 3 ∧ cur.toList.take (ss.length * 3) = ss.flatMap tc := by
    rcases h.2 with ⟨e, -⟩ | ⟨g', cap', cur, e, hb', hc, h1, h2, h3, h4⟩
    · cases e
    · simp only [Value.slice.injEq, Option.some.injEq, Addr.mk.injEq, true_and, and_true] at e
      obtain ⟨rfl, rfl⟩ := e
      exact ⟨hb', cur, hc, h1, h2, h3, h4⟩
  have hlt : g < w.heap.size := by
    rcases Nat.lt_or_ge g w.heap.size with h1 | h1
    · exact h1
    · rw [Array.getElem?_eq_none h1] at hcur; cases hcur
  have hfl : (flatK tc 3 ss.toArray).toList = ss.flatMap tc := flat_tc ss.toArray
  have hH : HoldsK tc 3 w g 0 ss.toArray := fun j hj => by
    have hj' : j < ss.length * 3 := by simpa using hj
    have e1 : cur[j]? = some (flatK tc 3 ss.toArray)[j]! := by
      rw [← Array.getElem?_toList, ← List.getElem?_take_of_lt hj', htk, ← hfl, Array.getElem?_toList, getElem!_pos _ j hj, Array.getElem?_eq_getElem hj]
    refine ⟨?_, ?_⟩
    · rw [Nat.zero_add, cell_of_row _ _ _ _ _ _ hcur]; exact e1
    · unfold World.frozen?
      rw [hcur]
      simp
  have eg : ∀ args w, (callFunc 80 args).run Tryd.prog w = .ok (.enter 80 args) w := enters_of Tryd.func80 (by kernel_rfl) rfl
  have hcon := AnyQ.slices_SortFunc Tryd.sortT 3 Tryd.aggT Tryd.sizeT tc (fun _ => rfl) (fun x v hv => by simp [tc] at hv; rcases hv with rfl | rfl | rfl <;> rfl) (fun x y => cmpL (tl x) (tl y)) swo_cmpT 80 #[] g 0 cap ss.toArray w eg (cmpLaysT g 0 _ w) hH hlt (by simp; omega)
  refine hcon.mono ?_
  rintro e w' ⟨rfl, d', m, os, ⟨p1, -, p3⟩, hs, rfl⟩
  have hsz' : d'.size = ss.length := by simpa using p1
  have hperm : d'.toList.Perm ss := by
    have e1 : d'.extract 0 ss.toArray.size = d' := by rw [← p1]; exact Array.extract_size ..
    have e2 : ss.toArray.extract 0 ss.toArray.size = ss.toArray := Array.extract_size ..
    rw [e1, e2] at p3
    exact p3
  refine ⟨rfl, d'.toList, hperm, ?_, ⟨by rw [tc_len, hperm.length_eq], Or.inr ⟨g, cap, _, rfl, hB, swk_blk _ _ _ _ _ _ hcur, hcap, hmax, ?_, ?_⟩⟩, ?_⟩
  · rw [List.pairwise_iff_getElem]
    intro i j hi hj hij
    simp only [Array.length_toList] at hi hj
    have := hs i j (Nat.zero_le _) hij (by simp; omega)
    rw [getElem!_pos d' i (by omega), getElem!_pos d' j (by omega)] at this
    rw [Array.getElem_toList, Array.getElem_toList]
    simpa [ltOf] using this
  · unfold Sort.putCells; simp [hcs]
  · rw [← flat_tc]
    refine List.ext_getElem? fun i => ?_
    by_cases hi : i < ss.length * 3
    · rw [List.getElem?_take_of_lt hi, Array.getElem?_toList]
      unfold Sort.putCells
      have hs3 : i < (flatK tc 3 d').size := by simp [hsz']; omega
      rw [Array.getElem?_mapIdx, Array.getElem?_eq_getElem (by omega), Option.map_some, if_pos ⟨Nat.zero_le _, by omega⟩, Array.getElem?_toList, Array.getElem?_eq_getElem hs3, Nat.sub_zero, getElem!_pos _ i hs3]
      rfl
    · rw [List.getElem?_eq_none (by rw [List.length_take]; omega), List.getElem?_eq_none (by simp [hsz']; omega)]
  · exact ⟨rfl, rfl, rfl, swk_size _ _ _ _ _ _, fun b hb => swk_heap _ _ _ _ _ _ (by omega) (by omega)⟩

end Go.Proofs.YtcdfoephhjacdaaDoor
