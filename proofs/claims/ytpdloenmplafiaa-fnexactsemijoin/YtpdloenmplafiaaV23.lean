import Derived.Test.YtpdloenmplafiaaV16
import Derived.Test.YtpdloenmplafiaaV22
/-
  slices.SortFunc over rows made anew, by slices.Compare.
-/
namespace Go.Proofs.Ytpdloenmplafiaa
open Go.RowKit

theorem swo_cmp {α : Type} (f : α → List Int) : Sort.SWO (ltOf fun a b => cmpL (f a) (f b)) where
  irrefl x := by simp [ltOf, cmpL_self]
  trans x y z h1 h2 := by
    simp only [ltOf, decide_eq_true_eq] at *
    exact cmpL_trans h1 h2
  ntrans x y z h1 h2 := by
    simp only [ltOf, decide_eq_false_iff_not] at *
    intro h3
    have e1 := cmpL_neg (f x) (f y)
    have e2 := cmpL_neg (f y) (f z)
    rcases Int.lt_trichotomy (cmpL (f y) (f x)) 0 with a | a | a
    · exact h2 (cmpL_trans a h3)
    · rw [← cmpL_eq a] at h3; exact h2 h3
    · omega

section
variable {α : Type} [Inhabited α]
theorem sw_heap (enc : α → Value) (w : World) (blk off m : Nat) (dk : Array α) (os : Array Obj) {b : Nat} (hb : b < w.heap.size) (hne : b ≠ blk) : (sortWorld enc w blk off m dk os).heap[b]? = w.heap[b]? := by
  show (((w.heap.modify blk _) ++ os)[b]?) = _
  rw [Array.getElem?_append_left (by simpa using hb), Array.getElem?_modify, if_neg (Ne.symm hne)]
theorem sw_blk (enc : α → Value) (w : World) (blk off m : Nat) (dk : Array α) (os : Array Obj) {cur : Array Value} {e : TypeId} {fr : Nat × Nat} (h : w.heap[blk]? = some (.cells cur e fr)) : (sortWorld enc w blk off m dk os).heap[blk]? = some (.cells (Sort.putCells enc off dk cur) e fr) := by
  have hb : blk < w.heap.size := by
    rcases Nat.lt_or_ge blk w.heap.size with h1 | h1
    · exact h1
    · rw [Array.getElem?_eq_none h1] at h; cases h
  show (((w.heap.modify blk _) ++ os)[blk]?) = _
  rw [Array.getElem?_append_left (by simpa using hb), Array.getElem?_modify, if_pos rfl, h]
  rfl
theorem sw_size (enc : α → Value) (w : World) (blk off m : Nat) (dk : Array α) (os : Array Obj) : w.heap.size ≤ (sortWorld enc w blk off m dk os).heap.size := by
  show w.heap.size ≤ ((w.heap.modify blk _) ++ os).size
  simp
end

/-- a row and what it holds -/
def RowP (w : World) (B : Nat) : Type := { p : Value × List Int // w.ownsRow B 3 1 p.1 p.2.length (p.2.map (Value.int .i64)) ∧ p.2.length ≤ 1099511627776 }
def RowP.enc {w : World} {B : Nat} (p : RowP w B) : Value := p.1.1
def RowP.row {w : World} {B : Nat} (p : RowP w B) : List Int := p.1.2
theorem RowP.one {w : World} {B : Nat} (p : RowP w B) : (RowP.enc p).oneCell' = true := by
  obtain ⟨⟨v, l⟩, h, -⟩ := p
  show v.oneCell' = true
  obtain ⟨a, cap, rfl⟩ : ∃ a cap, v = .slice a l.length cap := by
    have h' : w.ownsRow B 3 1 v l.length (l.map (Value.int .i64)) := h
    clear h
    rcases h'.2 with ⟨rfl, hn⟩ | ⟨g, cap, cur, rfl, _⟩
    · exact ⟨none, 0, by rw [hn]⟩
    · exact ⟨_, cap, rfl⟩
  rfl

theorem sortRows_calls (w : World) (B g cap : Nat) (us : List Value) (ls : List (List Int)) (h : RQ w B (.slice (some ⟨g, 0, none⟩) ls.length cap) us ls) (hM : ∀ i, i < ls.length → (ls.getD i []).length ≤ 1099511627776) (hn : ls.length ≤ 1000000) :
    Calls Try.prog 153 #[.slice (some ⟨g, 0, none⟩) ls.length cap, .func (.func 150) #[] #[]] w fun e w' => e = .returned (.tuple #[]) ∧ ∃ us' ls', RQ w' B (.slice (some ⟨g, 0, none⟩) ls.length cap) us' ls' ∧ ls'.length = ls.length ∧ (∀ z, z ∈ ls' ↔ z ∈ ls) ∧ (ls'.Pairwise fun a b => ¬ cmpL b a < 0) ∧ Below B w w' := by
  have inh : Inhabited (RowP w B) := ⟨⟨(.slice none 0 0, []), World.ownsRow_nil _ _ _ _, by simp⟩⟩
  obtain ⟨f, hf⟩ : ∃ f : Fin ls.length → RowP w B, ∀ i, RowP.enc (f i) = us.getD i undef ∧ RowP.row (f i) = ls.getD i [] := ⟨fun i => ⟨(us.getD i undef, ls.getD i []), h.each i i.2, hM i i.2⟩, fun i => ⟨rfl, rfl⟩⟩
  obtain ⟨d, hd⟩ : ∃ d : Array (RowP w B), d = Array.ofFn f := ⟨_, rfl⟩
  have hsz : d.size = ls.length := by rw [hd]; exact Array.size_ofFn
  have hget : ∀ j, j < ls.length → RowP.enc d[j]! = us.getD j undef ∧ RowP.row d[j]! = ls.getD j [] := fun j hj => by
    rw [getElem!_pos d j (by omega)]
    subst hd
    rw [Array.getElem_ofFn]
    exact hf ⟨j, hj⟩
  obtain ⟨hB, cur, hcur, hcap, hmax, hcs, htk⟩ : B ≤ g ∧ ∃ cur, w.heap[g]? = some (.cells cur 22 (0, 0)) ∧ ls.length ≤ cap ∧ cap ≤ maxLen ∧ cur.size = cap * 1 ∧ cur.toList.take (ls.length * 1) = us := by
    rcases h.own.2 with ⟨e, -⟩ | ⟨g', cap', cur, e, hb', hc, h1, h2, h3, h4⟩
    · cases e
    · simp only [Value.slice.injEq, Option.some.injEq, Addr.mk.injEq, true_and, and_true] at e
      obtain ⟨rfl, rfl⟩ := e
      exact ⟨hb', cur, hc, h1, h2, h3, h4⟩
  have hlt : g < w.heap.size := by
    rcases Nat.lt_or_ge g w.heap.size with h1 | h1
    · exact h1
    · rw [Array.getElem?_eq_none h1] at hcur; cases hcur
  have hH : Sort.Holds RowP.enc w g 0 d := fun j hj => by
    rw [hsz] at hj
    obtain ⟨g', cap', e, -, hc⟩ := h.get hj
    simp only [Value.slice.injEq, Option.some.injEq, Addr.mk.injEq, and_true, true_and] at e
    obtain ⟨rfl, rfl⟩ := e
    refine ⟨by rw [Nat.zero_add, (hget j hj).1]; exact hc, ?_⟩
    unfold World.frozen?
    rw [hcur]
    simp
  have far : ∀ (m : Nat) (os : Array Obj) (dk : Array (RowP w B)) (p : RowP w B), (sortWorld RowP.enc w g 0 m dk os).ownsRow B 3 1 (RowP.enc p) (RowP.row p).length ((RowP.row p).map (Value.int .i64)) := fun m os dk p =>
    own_move p.2.1 fun q hq => sw_heap _ _ _ _ _ _ _ (p.2.1.lt q hq).2 (by
      rintro rfl
      exact own_ne p.2.1 ⟨_, hcur⟩ (by decide) hq.symm)
  have hcmp : CmpReads Try.prog 150 #[] RowP.enc (fun x y => cmpL (RowP.row x) (RowP.row y)) g 0 d.size w := fun m os dk _ x y => by
    refine (sCompare_calls (sortWorld RowP.enc w g 0 m dk os) (RowP.enc x) (RowP.enc y) (RowP.row x) (RowP.row y) (own_is (far m os dk x)) (own_is (far m os dk y)) x.2.2 y.2.2).mono ?_
    rintro e w' ⟨rfl, rfl⟩
    exact ⟨rfl, 0, rfl⟩
  have eg : ∀ args w, (callFunc 150 args).run Try.prog w = .ok (.enter 150 args) w := enters_of Try.func150 (by kernel_rfl) rfl
  have hcon := Any.slices_SortFunc Try.sortRows RowP.enc (fun p => RowP.one p) (fun x y => cmpL (RowP.row x) (RowP.row y)) (swo_cmp RowP.row) 150 #[] g 0 cap d w eg hcmp.lays hH hlt (by omega)
  rw [hsz] at hcon
  refine hcon.mono ?_
  rintro e w' ⟨rfl, d', m, os, ⟨p1, -, p3⟩, hs, rfl⟩
  have hsz' : d'.size = ls.length := p1.trans hsz
  have hperm : d'.toList.Perm d.toList := by
    have e1 : d'.extract 0 ls.length = d' := by rw [← hsz']; exact Array.extract_size ..
    have e2 : d.extract 0 ls.length = d := by rw [← hsz]; exact Array.extract_size ..
    rw [e1, e2] at p3
    exact p3
  have hrows : d.toList.map RowP.row = ls := by
    refine List.ext_getElem? fun i => ?_
    by_cases hi : i < ls.length
    · have := (hget i hi).2
      rw [getElem!_pos d i (by omega)] at this
      rw [List.getElem?_map, Array.getElem?_toList, Array.getElem?_eq_getElem (by omega), List.getElem?_eq_getElem hi, Option.map_some, this, List.getD_eq_getElem?_getD, List.getElem?_eq_getElem hi]
      rfl
    · rw [List.getElem?_eq_none (by simp; omega), List.getElem?_eq_none (by omega)]
  have hvals : d.toList.map RowP.enc = us := by
    refine List.ext_getElem? fun i => ?_
    have hl := h.len
    by_cases hi : i < ls.length
    · have := (hget i hi).1
      rw [getElem!_pos d i (by omega)] at this
      rw [List.getElem?_map, Array.getElem?_toList, Array.getElem?_eq_getElem (by omega), List.getElem?_eq_getElem (by omega), Option.map_some, this, List.getD_eq_getElem?_getD, List.getElem?_eq_getElem (by omega)]
      rfl
    · rw [List.getElem?_eq_none (by simp; omega), List.getElem?_eq_none (by omega)]
  have hl' : (d'.toList.map RowP.row).length = ls.length := by simp [hsz']
  have hpair : d'.toList.Pairwise fun p q => ∀ g, (RowP.enc p).ownBlock = some g → (RowP.enc q).ownBlock ≠ some g := by
    refine (hperm.symm.pairwise_iff fun {p q} h1 g h2 h3 => h1 g h3 h2).1 ?_
    rw [List.pairwise_iff_getElem]
    intro i j hi hj hij g h1
    simp only [Array.length_toList] at hi hj
    have hi' := (hget i (by omega)).1
    have hj' := (hget j (by omega)).1
    rw [getElem!_pos d i (by omega)] at hi'
    rw [getElem!_pos d j (by omega)] at hj'
    rw [Array.getElem_toList, hi'] at h1
    rw [Array.getElem_toList, hj']
    exact h.ap i j hij (by omega) g h1
  refine ⟨rfl, d'.toList.map RowP.enc, d'.toList.map RowP.row, ⟨?_, by simp, fun i hi => ?_, fun i j hij hj g => ?_⟩, hl', fun z => ?_, ?_, ?_⟩
  · rw [hl']
    refine ⟨by simp [hsz'], Or.inr ⟨g, cap, _, rfl, hB, sw_blk _ _ _ _ _ _ _ hcur, hcap, hmax, ?_, ?_⟩⟩
    · unfold Sort.putCells; simp [hcs]
    · refine List.ext_getElem? fun i => ?_
      rw [Nat.mul_one]
      by_cases hi : i < ls.length
      · rw [List.getElem?_take_of_lt hi, Array.getElem?_toList]
        unfold Sort.putCells
        rw [Array.getElem?_mapIdx, Array.getElem?_eq_getElem (by omega), Option.map_some, if_pos ⟨Nat.zero_le _, by omega⟩, List.getElem?_map, Array.getElem?_toList, Array.getElem?_eq_getElem (by omega), Option.map_some, Nat.sub_zero, getElem!_pos d' i (by omega)]
      · rw [List.getElem?_eq_none (by rw [List.length_take]; omega), List.getElem?_eq_none (by simp; omega)]
  · rw [hl'] at hi
    have e1 : (d'.toList.map RowP.enc).getD i undef = RowP.enc d'[i] := by rw [List.getD_eq_getElem?_getD, List.getElem?_map, Array.getElem?_toList, Array.getElem?_eq_getElem (by omega)]; rfl
    have e2 : (d'.toList.map RowP.row).getD i [] = RowP.row d'[i] := by rw [List.getD_eq_getElem?_getD, List.getElem?_map, Array.getElem?_toList, Array.getElem?_eq_getElem (by omega)]; rfl
    rw [e1, e2]
    exact far _ _ _ _
  · rw [hl'] at hj
    have e1 : ∀ i (hi : i < ls.length), (d'.toList.map RowP.enc).getD i undef = RowP.enc d'[i] := fun i hi => by rw [List.getD_eq_getElem?_getD, List.getElem?_map, Array.getElem?_toList, Array.getElem?_eq_getElem (by omega)]; rfl
    rw [e1 i (by omega), e1 j hj]
    have := (List.pairwise_iff_getElem.1 hpair) i j (by simp; omega) (by simp; omega) hij g
    rw [Array.getElem_toList, Array.getElem_toList] at this
    exact this
  · rw [(hperm.map RowP.row).mem_iff, hrows]
  · rw [List.pairwise_map, List.pairwise_iff_getElem]
    intro i j hi hj hij
    simp only [Array.length_toList] at hi hj
    have := hs i j (Nat.zero_le _) hij (by omega)
    rw [getElem!_pos d' j (by omega), getElem!_pos d' i (by omega)] at this
    rw [Array.getElem_toList, Array.getElem_toList]
    simpa [ltOf] using this
  · exact ⟨rfl, rfl, rfl, sw_size _ _ _ _ _ _ _, fun b hb => sw_heap _ _ _ _ _ _ _ (by omega) (by omega)⟩

end Go.Proofs.Ytpdloenmplafiaa

/-
  slices.Equal over ints.
-/
namespace Go.Proofs.Ytpdloenmplafiaa
open Go.RowKit

theorem list_eq_getD {la lb : List Int} (hl : la.length = lb.length) (h : ∀ i, i < la.length → la.getD i 0 = lb.getD i 0) : la = lb := by
  refine List.ext_getElem hl fun i h1 h2 => ?_
  have := h i h1
  rw [List.getD_eq_getElem?_getD, List.getElem?_eq_getElem h1, List.getD_eq_getElem?_getD, List.getElem?_eq_getElem h2] at this
  exact this

set_option maxHeartbeats 2000000 in
theorem sEqual_calls (w : World) (va vb : Value) (la lb : List Int) (ha : IS w va la) (hb : IS w vb lb) (hl : la.length ≤ 1099511627776) (hl2 : lb.length ≤ 1099511627776) :
    Calls Try.prog 155 #[va, vb] w fun e w' => e = .returned (.bool (decide (la = lb))) ∧ ∃ q, w' = w.drewN q := by
  obtain ⟨a, cap, rfl, hc⟩ := ha
  obtain ⟨a', cap', rfl, hc'⟩ := hb
  by_cases hlen : la.length = lb.length
  · have HF : Hid (∀ j, j < la.length → ¬ la.getD j 0 = lb.getD j 0 → decide (la = lb) = false) := hid fun j _ e => by
      rw [decide_eq_false_iff_not]; rintro rfl; exact e rfl
    have HT : Hid ((∀ j, j < la.length → la.getD j 0 = lb.getD j 0) → decide (la = lb) = true) := hid fun h => by rw [decide_eq_true_eq]; exact list_eq_getD hlen h
    generalize decide (la = lb) = res at *
    rw [← hlen] at hc' hl2 ⊢
    obtain ⟨n, hn⟩ : ∃ n, n = la.length := ⟨_, rfl⟩
    rw [← hn] at hc hc' hl HF HT ⊢
    have HC := hid hc
    have HC' := hid hc'
    clear hc hc' hn hlen hl2
    go_enter Try.func155, Try.ntmps155
    go_wp2_with fail
    go_loopw [13] (fun t wr => ∃ j : Nat, j ≤ n ∧ t = .int .i64 j ∧ Hid (∃ k, wr = w.drewN k) ∧ Hid (∀ i, i < j → la.getD i 0 = lb.getD i 0)) (fun t _ => n - (intOf t).toNat)
    case atStart => exact ⟨0, Nat.zero_le _, rfl, hid ⟨0, rfl⟩, hid (fun i hi => by omega)⟩
    case round =>
      obtain ⟨j, hj, rfl, hB, hok⟩ := hrel
      by_cases hjn : j < n
      · have i1 : (j : Int) < (n : Int) := by omega
        rcases HC.out with h0 | ⟨b, o, rfl, hcell⟩
        · omega
        rcases HC'.out with h0 | ⟨b', o', rfl, hcell'⟩
        · omega
        have c1 : wr.cell? ⟨b, o + j, none⟩ = some (.int .i64 (la.getD j 0)) := by obtain ⟨k, rfl⟩ := hB.out; exact hcell j hjn
        have c2 : wr.cell? ⟨b', o' + j, none⟩ = some (.int .i64 (lb.getD j 0)) := by obtain ⟨k, rfl⟩ := hB.out; exact hcell' j hjn
        have fin := HF.out j hjn
        have nxt : la.getD j 0 = lb.getD j 0 → Hid (∀ i, i < j + 1 → la.getD i 0 = lb.getD i 0) := fun e => hid fun i hi => by
          by_cases e2 : i = j
          · rw [e2]; exact e
          · exact hok.out i (by omega)
        clear hcell hcell' hok
        generalize la.getD j 0 = x at *
        generalize lb.getD j 0 = y at *
        by_cases hxy : x = y
        · have hf := nxt hxy
          subst hxy
          clear fin nxt
          have e0 : (x != x) = false := by simp
          go_wp2_with fail
          go_quiet (fail)
          go_wp2
          go_roundw
          case rel => exact ⟨j + 1, by omega, by go_num, hid (drewN_step _ hB.out), hf⟩
          case measure => simp [intOf]; omega
        · have hf := hid (fin hxy)
          clear fin nxt
          have e0 : (x != y) = true := by simp [hxy]
          go_wp2_with fail
          go_quiet (fail)
          go_wp2
          go_ret
          exact ⟨ret_bool (by rw [hf.out]), drewN_step _ hB.out⟩
      · obtain rfl : j = n := by omega
        have hf := hid (HT.out hok.out)
        have i1 : ¬ ((j : Int) < (j : Int)) := by omega
        go_wp2
        go_ret
        exact ⟨ret_bool (by rw [hf.out]), hB.out⟩
  · have hf : decide (la = lb) = false := by rw [decide_eq_false_iff_not]; rintro rfl; exact hlen rfl
    rw [hf]
    have i1 : ¬ ((la.length : Int) = (lb.length : Int)) := by omega
    have i2 : ((la.length : Int) != (lb.length : Int)) = true := by simp; omega
    clear hc hc' hf
    generalize la.length = m at *
    generalize lb.length = m' at *
    go_enter Try.func155, Try.ntmps155
    go_wp2
    go_ret
    exact ⟨rfl, 0, rfl⟩

end Go.Proofs.Ytpdloenmplafiaa
