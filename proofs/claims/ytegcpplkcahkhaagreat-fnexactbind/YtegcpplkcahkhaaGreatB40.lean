import Derived.Shelf.SlSortCmp.KitK
import Derived.Shelf.SlSortCmp.WholeK
import Derived.Test.YtegcpplkcahkhaaGreatB12
import Derived.Test.YtegcpplkcahkhaaGreatB16
import Derived.Test.YtegcpplkcahkhaaGreatB32
import Derived.Test.YtegcpplkcahkhaaGreatB39
/-
  maps.Keys and slices.Sorted at the map of places.
-/
namespace Go.Proofs.YtegcpplkcahkhaaGreat
open Go.RowKit Go.Maps Go.Sort Go.Shelf

theorem sortsB (m : Nat) : AnyZI.SortsIn Tryz.prog Tryz.sortedA_ren Fence.wide m :=
  ⟨fun blk off cap ss W hH hblk hsz => callsIn_wide.2 (AnyM.slices_Sort_int Tryz.sortA blk off cap ss W hH hblk hsz),
   fun p cap W => callsIn_wide.2 (AnyM.slices_Sort_int_none Tryz.sortA p cap W)⟩

theorem keysB_calls (mb : Option Nat) (W : World) : Calls Tryz.prog 60 #[.map mb] W fun e w' => e = .returned (.func (.func 86) #[] #[.pointer (some ⟨W.heap.size, 0, none⟩)]) ∧ w' = W.alloc (.cells #[.map mb] 108) :=
  (callsIn_wide (n := 5)).1 (AnyZI.keys_in Tryz.keysA Fence.wide 5 trivial rfl mb W)

theorem vrs_nodup (V : List ByteArray) (ts : List TermV) : (vrsI V ts).Nodup := by
  unfold vrsI vrs
  refine List.pairwise_map.2 ((List.nodup_range.filter _).imp fun {a b} h e => h (Int.ofNat.inj e))
theorem vrs_mem {V : List ByteArray} {ts : List TermV} {v : Nat} : v ∈ vrs V ts ↔ v < V.length ∧ (lastO ts ts.length (V.getD v noTx)).isSome = true := by
  unfold vrs
  rw [List.mem_filter, List.mem_range]
theorem vrs_sorted (V : List ByteArray) (ts : List TermV) : (vrs V ts).Pairwise (· < ·) := by
  unfold vrs
  exact List.pairwise_lt_range.filter _
theorem vrsI_sort (V : List ByteArray) (ts : List TermV) : (vrsI V ts).mergeSort leI = vrsI V ts := by
  refine List.mergeSort_of_pairwise ?_
  unfold vrsI
  refine List.pairwise_map.2 ((vrs_sorted V ts).imp fun {a b} h => ?_)
  simp only [leI, decide_eq_true_eq]
  show (a : Int) ≤ (b : Int)
  omega

theorem Vp.keys {w : World} {b : Nat} {V : List ByteArray} {ts : List TermV} {D : DataW Unit} {nn : Nat} (h : Vp w b V ts ts.length D nn) : (vrsI V ts).Perm (intKeys D) :=
  CollectedI.perm (left := fun _ => false) ⟨vrs_nodup V ts, fun x => by
    constructor
    · intro hx
      obtain ⟨v, hv, rfl⟩ := List.mem_map.1 hx
      obtain ⟨h1, h2⟩ := vrs_mem.1 hv
      exact ⟨by rw [show Int.ofNat v = (v : Int) from rfl, h.has v h1]; exact h2, rfl⟩
    · rintro ⟨h1, -⟩
      obtain ⟨v, hv, rfl⟩ := h.only x h1
      rw [h.has v hv] at h1
      exact List.mem_map.2 ⟨v, vrs_mem.2 ⟨hv, h1⟩, rfl⟩⟩ h.own Tryz.lawI Tryz.underlying3 (fun _ => rfl)

set_option maxHeartbeats 1000000 in
theorem sortedB_calls (w : World) (b nn : Nat) (V : List ByteArray) (ts : List TermV) (D : DataW Unit) (h : Vp w b V ts ts.length D nn) (hl : ts.length ≤ 1000) :
    Calls Tryz.prog 59 #[.func (.func 86) #[] #[.pointer (some ⟨w.heap.size, 0, none⟩)]] (w.alloc (.cells #[.map (some b)] 108)) fun e w' => ∃ v, e = .returned v ∧
      w'.ownsRow (w.alloc (.cells #[.map (some b)] 108)).heap.size 3 1 v (vrsI V ts).length ((vrsI V ts).map (Value.int .i64)) ∧ Below (w.alloc (.cells #[.map (some b)] 108)).heap.size (w.alloc (.cells #[.map (some b)] 108)) w' := by
  have hbl := h.own.lt
  have hsz := h.size
  have hseq : SeqGives Fence.wide 2 Tryz.prog 86 #[.pointer (some ⟨w.heap.size, 0, none⟩)] encZ (fun ss => ss.Perm (intKeys D)) (Maps.size D) (w.alloc (.cells #[.map (some b)] 108)) :=
    AnyZI.keys_gives (ρ := Tryz.keysA_ren) { Tryz.keysA with } Fence.wide _ trivial rfl (by omega) w.heap.size b nn D _ (by simp) (by simp) (by
      obtain ⟨es, clock, hb, Ft, hs, hD⟩ := h.own
      exact ⟨es, clock, (Below.heap_alloc _ _ b hbl).trans hb, Ft, hs, hD⟩)
  have cS := AnyZI.sorted_in Tryz.sortedA Fence.wide 5 trivial trivial trivial trivial rfl (by omega) (sortsB _) (enters_of Tryz.func85 (by kernel_rfl) rfl) 86 #[.pointer (some ⟨w.heap.size, 0, none⟩)] trivial (enters_of Tryz.func86 (by kernel_rfl) rfl) _ _ (by unfold maxLen; omega) (by omega) _ hseq
  refine ((callsIn_wide (n := 5)).1 cS).mono ?_
  rintro e w' ⟨v, ss, rfl, hS, hrow, -, hb⟩
  have hp : ss.Perm (vrsI V ts) := hS.trans h.keys.symm
  have hm : ss.mergeSort (fun x y => decide (x ≤ y)) = vrsI V ts := (mergeSort_of_perm_i hp).trans (vrsI_sort V ts)
  rw [hm, hp.length_eq] at hrow
  exact ⟨v, rfl, hrow, hb⟩

end Go.Proofs.YtegcpplkcahkhaaGreat

/-
  slices.SortFunc over rows with their weights.
-/
namespace Go.Proofs.YtegcpplkcahkhaaGreat
open Go.RowKit Go.Shelf Go.Lib Go.Sort

/-- a row's slice, the row, its weight -/
abbrev WtV := Value × List Int × Int
def wc (e : WtV) : List Value := [e.1, .int .i64 e.2.2]

structure WQ (W : World) (B : Nat) (v : Value) (es : List WtV) : Prop where
  own : W.ownsRow B 118 2 v es.length (es.flatMap wc)
  each : ∀ e ∈ es, W.ownsRow B 3 1 e.1 e.2.1.length (e.2.1.map (Value.int .i64))
  ap : es.Pairwise fun p q => ∀ g, p.1.ownBlock = some g → q.1.ownBlock ≠ some g

def WtP (w : World) (B : Nat) : Type := { e : WtV // w.ownsRow B 3 1 e.1 e.2.1.length (e.2.1.map (Value.int .i64)) ∧ e.2.1.length ≤ 1099511627776 }
def WtP.val {w : World} {B : Nat} (p : WtP w B) : WtV := p.1
def WtP.cells {w : World} {B : Nat} (p : WtP w B) : List Value := wc p.1
def WtP.row {w : World} {B : Nat} (p : WtP w B) : List Int := p.1.2.1

theorem wt_list {w : World} {B : Nat} : ∀ es : List WtV, (∀ e ∈ es, w.ownsRow B 3 1 e.1 e.2.1.length (e.2.1.map (Value.int .i64)) ∧ e.2.1.length ≤ 1099511627776) → ∃ ps : List (WtP w B), ps.map WtP.val = es
  | [], _ => ⟨[], rfl⟩
  | e :: r, h => by
    obtain ⟨ps, hp⟩ := wt_list r (fun x hx => h x (List.mem_cons_of_mem _ hx))
    exact ⟨⟨e, h e List.mem_cons_self⟩ :: ps, congrArg (e :: ·) hp⟩
theorem own_oneC {w : World} {B n : Nat} {v : Value} {xs : List Value} (h : w.ownsRow B 3 1 v n xs) : v.oneCell' = true := by
  rcases h.2 with ⟨rfl, hn⟩ | ⟨g, cap, cur, rfl, _⟩ <;> rfl

theorem swo_cmpW {α : Type} (f : α → List Int) : Sort.SWO (ltOf fun a b => cmpL (f a) (f b)) where
  irrefl x := by simp [ltOf, cmpL_self]
  trans x y z h1 h2 := by
    simp only [ltOf, decide_eq_true_eq] at *
    exact cmpL_trans h1 h2
  ntrans x y z h1 h2 := by
    simp only [ltOf, decide_eq_false_iff_not] at *
    intro h3
    have e1 := cmpL_neg (f x) (f y)
    have e2 := cmpL_neg (f y) (f z)
    rcases Int.lt_trichotomy (cmpL (f y) (f x)) 0 with a | a | a
    · exact h2 (cmpL_trans a h3)
    · rw [← cmpL_eq a] at h3; exact h2 h3
    · omega

theorem get_wc {α : Type} (c2 : α → List Value) (hc2 : ∀ x, (c2 x).length = 2) (ss : List α) : ∀ t, (ss.flatMap c2)[t]? = (ss[t / 2]?).bind fun x => (c2 x)[t % 2]? := by
  induction ss with
  | nil => intro t; simp
  | cons x r ih =>
    intro t
    rw [List.flatMap_cons]
    by_cases h : t < 2
    · rw [List.getElem?_append_left (by rw [hc2]; omega), Nat.div_eq_of_lt h, Nat.mod_eq_of_lt h]
      rfl
    · obtain ⟨s, rfl⟩ : ∃ s, t = s + 2 := ⟨t - 2, by omega⟩
      rw [List.getElem?_append_right (by rw [hc2]; omega)]
      have e : s + 2 - (c2 x).length = s := by rw [hc2]; omega
      rw [e, ih s, Nat.add_mod_right, Nat.add_div_right _ (by decide)]
      rfl
theorem flat_wc {α : Type} [Inhabited α] (c2 : α → List Value) (hc2 : ∀ x, (c2 x).length = 2) (d : Array α) : (flatK c2 2 d).toList = d.toList.flatMap c2 := by
  refine List.ext_getElem? fun t => ?_
  rw [get_wc c2 hc2, Array.getElem?_toList]
  by_cases h : t < d.size * 2
  · have h3 : t / 2 < d.size := by omega
    have h4 : t % 2 < (c2 d[t / 2]).length := by rw [hc2]; omega
    have e := get_flatK c2 2 d t h
    rw [getElem!_pos _ t (by simpa using h), getElem!_pos d _ h3, getElem!_pos (c2 d[t / 2]) _ h4] at e
    rw [Array.getElem?_eq_getElem (by simpa using h), e, Array.getElem?_toList, Array.getElem?_eq_getElem h3, Option.bind_some, List.getElem?_eq_getElem h4]
  · rw [Array.getElem?_eq_none (by simp; omega), Array.getElem?_toList, Array.getElem?_eq_none (by omega)]
    rfl
section
variable {α : Type} [Inhabited α] (c2 : α → List Value)
theorem wk_heap (w : World) (blk off m : Nat) (dk : Array α) (os : Array Obj) {b : Nat} (hb : b < w.heap.size) (hne : b ≠ blk) : (sortWorldK c2 2 w blk off m dk os).heap[b]? = w.heap[b]? := by
  show (((w.heap.modify blk _) ++ os)[b]?) = _
  rw [Array.getElem?_append_left (by simpa using hb), Array.getElem?_modify, if_neg (Ne.symm hne)]
theorem wk_blk (w : World) (blk off m : Nat) (dk : Array α) (os : Array Obj) {cur : Array Value} {e : TypeId} {fr : Nat × Nat} (h : w.heap[blk]? = some (.cells cur e fr)) : (sortWorldK c2 2 w blk off m dk os).heap[blk]? = some (.cells (Sort.putCells id off (flatK c2 2 dk) cur) e fr) := by
  have hb : blk < w.heap.size := by
    rcases Nat.lt_or_ge blk w.heap.size with h1 | h1
    · exact h1
    · rw [Array.getElem?_eq_none h1] at h; cases h
  show (((w.heap.modify blk _) ++ os)[blk]?) = _
  rw [Array.getElem?_append_left (by simpa using hb), Array.getElem?_modify, if_pos rfl, h]
  rfl
theorem wk_size (w : World) (blk off m : Nat) (dk : Array α) (os : Array Obj) : w.heap.size ≤ (sortWorldK c2 2 w blk off m dk os).heap.size := by
  show w.heap.size ≤ ((w.heap.modify blk _) ++ os).size
  simp
end

set_option maxHeartbeats 2000000 in
set_option maxRecDepth 1000000 in
theorem cmpW_calls (W : World) (vx vy : Value) (lx ly : List Int) (kx ky : Int) (hx : IS W vx lx) (hy : IS W vy ly) (hlx : lx.length ≤ 1099511627776) (hly : ly.length ≤ 1099511627776) :
    Calls Tryz.prog 89 #[.agg #[vx, .int .i64 kx], .agg #[vy, .int .i64 ky]] W fun e w' => e = .returned (.int .i64 (cmpL lx ly)) ∧ ∃ q os', w' = grow (W.drewN q) os' := by
  obtain ⟨W2, hW2⟩ : ∃ W2, W2 = (W.alloc (.cells #[vx, .int .i64 kx] 118)).alloc (.cells #[vy, .int .i64 ky] 118) := ⟨_, rfl⟩
  have hb : Below W.heap.size W W2 := by rw [hW2]; exact ((Below.refl _ _).alloc (Nat.le_refl _) _).alloc (by simp) _
  have K := hid (sCompare_calls W2 vx vy lx ly (hx.below hb) (hy.below hb) hlx hly)
  have c0 : W2.cell? ⟨W.heap.size, 0, none⟩ = some vx := by
    rw [hW2]
    refine bclT ((Below.refl _ _).alloc (Nat.le_refl _) _) ?_
    rw [World.cell?_alloc_at _ _ _ _ rfl]; rfl
  have c1 : W2.cell? ⟨W.heap.size + 1, 0, none⟩ = some vy := by rw [hW2, World.cell?_alloc_at _ _ _ _ (by simp)]; rfl
  have HE : Hid (∃ q os', W2 = grow (W.drewN q) os') := hid ⟨0, _, by rw [hW2, alloc_eq_grow, alloc_eq_grow, grow_grow]; rfl⟩
  obtain ⟨a1, k1, rfl, -⟩ := hx
  obtain ⟨a2, k2, rfl, -⟩ := hy
  generalize cmpL lx ly = r at *
  generalize lx.length = n1 at *
  generalize ly.length = n2 at *
  go_enter Tryz.func89, Tryz.ntmps89
  go_upto_region 1 with fail
  rw [← hW2]
  clear hW2
  go_wp2_with fail
  refine K.out.mono ?_
  rintro e w' ⟨rfl, rfl⟩
  go_wp2_with fail
  go_ret
  exact ⟨rfl, HE.out⟩

theorem Tryz.aggW (w : World) : (isAgg 118).run Tryz.prog w = .ok true w := Tryz.isAgg118 w
theorem Tryz.sizeW (w : World) : (Go.sizeOf 118).run Tryz.prog w = .ok 2 w := Tryz.sizeOf118 w

theorem wc_len (es : List WtV) : (es.flatMap wc).length = es.length * 2 := by
  induction es with
  | nil => rfl
  | cons x r ih => rw [List.flatMap_cons, List.length_append, ih, List.length_cons]; simp only [wc, List.length_cons, List.length_nil]; omega

set_option maxHeartbeats 2000000 in
theorem sortW_calls (w : World) (B g cap : Nat) (es : List WtV) (h : WQ w B (.slice (some ⟨g, 0, none⟩) es.length cap) es) (hM : ∀ e ∈ es, e.2.1.length ≤ 1099511627776) (hn : es.length ≤ 1000000) :
    Calls Tryz.prog 88 #[.slice (some ⟨g, 0, none⟩) es.length cap, .func (.func 89) #[] #[]] w fun e w' => e = .returned (.tuple #[]) ∧ ∃ es' : List WtV, es'.Perm es ∧ (es'.Pairwise fun a b => ¬ cmpL b.2.1 a.2.1 < 0) ∧ WQ w' B (.slice (some ⟨g, 0, none⟩) es.length cap) es' ∧ Below B w w' := by
  have inh : Inhabited (WtP w B) := ⟨⟨(.slice none 0 0, [], 0), World.ownsRow_nil _ _ _ _, by simp⟩⟩
  obtain ⟨hB, cur, hcur, hcap, hmax, hcs, htk⟩ : B ≤ g ∧ ∃ cur, w.heap[g]? = some (.cells cur 118 (0, 0)) ∧ es.length ≤ cap ∧ cap ≤ maxLen ∧ cur.size = cap * 2 ∧ cur.toList.take (es.length * 2) = es.flatMap wc := by
    rcases h.own.2 with ⟨e, -⟩ | ⟨g', cap', cur, e, hb', hc, h1, h2, h3, h4⟩
    · cases e
    · simp only [Value.slice.injEq, Option.some.injEq, Addr.mk.injEq, true_and, and_true] at e
      obtain ⟨rfl, rfl⟩ := e
      exact ⟨hb', cur, hc, h1, h2, h3, h4⟩
  have hlt : g < w.heap.size := by
    rcases Nat.lt_or_ge g w.heap.size with h1 | h1
    · exact h1
    · rw [Array.getElem?_eq_none h1] at hcur; cases hcur
  obtain ⟨ps, hps⟩ := wt_list (w := w) (B := B) es (fun e he => ⟨h.each e he, hM e he⟩)
  have hlen : ps.length = es.length := by rw [← hps, List.length_map]
  have hfl : ps.flatMap WtP.cells = es.flatMap wc := by rw [← hps, List.flatMap_map]; rfl
  have hc2 : ∀ x : WtP w B, (WtP.cells x).length = 2 := fun _ => rfl
  have hff : (flatK WtP.cells 2 ps.toArray).toList = es.flatMap wc := by rw [flat_wc WtP.cells hc2]; exact hfl
  have hH : HoldsK WtP.cells 2 w g 0 ps.toArray := fun j hj => by
    have hj' : j < es.length * 2 := by rw [← hlen]; simpa using hj
    have e1 : cur[j]? = some (flatK WtP.cells 2 ps.toArray)[j]! := by
      rw [← Array.getElem?_toList, ← List.getElem?_take_of_lt hj', htk, ← hff, Array.getElem?_toList, getElem!_pos _ j hj, Array.getElem?_eq_getElem hj]
    refine ⟨?_, ?_⟩
    · rw [Nat.zero_add, cell_of_row _ _ _ _ _ _ hcur]; exact e1
    · unfold World.frozen?
      rw [hcur]
      simp
  have far : ∀ (m : Nat) (os : Array Obj) (dk : Array (WtP w B)) (p : WtP w B), (sortWorldK WtP.cells 2 w g 0 m dk os).ownsRow B 3 1 p.1.1 p.1.2.1.length (p.1.2.1.map (Value.int .i64)) := fun m os dk p =>
    own_move p.2.1 fun q hq => wk_heap _ _ _ _ _ _ _ (p.2.1.lt q hq).2 (by
      rintro rfl
      exact own_ne p.2.1 ⟨_, hcur⟩ (by decide) hq.symm)
  have hcmp : CmpLays Tryz.prog 89 #[] WtP.cells 2 (fun x y => cmpL (WtP.row x) (WtP.row y)) g 0 ps.toArray.size w := fun m os dk _ x y =>
    cmpW_calls _ x.1.1 y.1.1 (WtP.row x) (WtP.row y) x.1.2.2 y.1.2.2 (own_is (far m os dk x)) (own_is (far m os dk y)) x.2.2 y.2.2
  have eg : ∀ args w, (callFunc 89 args).run Tryz.prog w = .ok (.enter 89 args) w := enters_of Tryz.func89 (by kernel_rfl) rfl
  have hcon := AnyQ.slices_SortFunc Tryz.sortW 2 Tryz.aggW Tryz.sizeW WtP.cells hc2 (fun x v hv => by
    simp only [WtP.cells, wc, List.mem_cons, List.not_mem_nil, or_false] at hv
    rcases hv with rfl | rfl
    · exact own_oneC x.2.1
    · rfl) (fun x y => cmpL (WtP.row x) (WtP.row y)) (swo_cmpW WtP.row) 89 #[] g 0 cap ps.toArray w eg hcmp hH hlt (by simp; omega)
  rw [show ps.toArray.size = es.length by simpa using hlen] at hcon
  refine hcon.mono ?_
  rintro e w' ⟨rfl, d', m, os, ⟨p1, -, p3⟩, hs, rfl⟩
  have hsz' : d'.size = es.length := by rw [← hlen]; simpa using p1
  have hperm : d'.toList.Perm ps := by
    have e1 : d'.extract 0 es.length = d' := by rw [← hsz']; exact Array.extract_size ..
    have e2 : ps.toArray.extract 0 es.length = ps.toArray := by rw [← hlen]; exact Array.extract_size ..
    rw [e1, e2] at p3
    exact p3
  have hpe : (d'.toList.map WtP.val).Perm es := by rw [← hps]; exact hperm.map _
  have hfd : (d'.toList.map WtP.val).flatMap wc = d'.toList.flatMap WtP.cells := by rw [List.flatMap_map]; rfl
  refine ⟨rfl, d'.toList.map WtP.val, hpe, ?_, ⟨?_, fun e he => ?_, ?_⟩, ?_⟩
  · refine List.pairwise_map.2 ?_
    rw [List.pairwise_iff_getElem]
    intro i j hi hj hij
    simp only [Array.length_toList] at hi hj
    have := hs i j (Nat.zero_le _) hij (by omega)
    rw [getElem!_pos d' i (by omega), getElem!_pos d' j (by omega)] at this
    rw [Array.getElem_toList, Array.getElem_toList]
    show ¬ cmpL (WtP.row d'[j]) (WtP.row d'[i]) < 0
    simpa [ltOf] using this
  · rw [hpe.length_eq]
    refine ⟨by rw [wc_len, hpe.length_eq], Or.inr ⟨g, cap, _, rfl, hB, wk_blk _ _ _ _ _ _ _ hcur, hcap, hmax, ?_, ?_⟩⟩
    · unfold Sort.putCells; simp [hcs]
    · rw [hfd, ← flat_wc WtP.cells hc2]
      refine List.ext_getElem? fun i => ?_
      by_cases hi : i < es.length * 2
      · rw [List.getElem?_take_of_lt hi, Array.getElem?_toList]
        unfold Sort.putCells
        have hs3 : i < (flatK WtP.cells 2 d').size := by simp [hsz']; omega
        rw [Array.getElem?_mapIdx, Array.getElem?_eq_getElem (by omega), Option.map_some, if_pos ⟨Nat.zero_le _, by omega⟩, Array.getElem?_toList, Array.getElem?_eq_getElem hs3, Nat.sub_zero, getElem!_pos _ i hs3]
        rfl
      · rw [List.getElem?_eq_none (by rw [List.length_take]; omega), List.getElem?_eq_none (by simp [hsz']; omega)]
  · obtain ⟨p, -, rfl⟩ := List.mem_map.1 he
    exact far m os d' p
  · exact (hpe.symm.pairwise_iff fun {p q} h1 g h2 h3 => h1 g h3 h2).1 h.ap
  · exact ⟨rfl, rfl, rfl, wk_size _ _ _ _ _ _ _, fun b hb => wk_heap _ _ _ _ _ _ _ (by omega) (by omega)⟩

end Go.Proofs.YtegcpplkcahkhaaGreat
