import Derived.Test.YthokafaooihmbaaFc06
/-
  Sorted rows: impl.areSortedRows, spec.l2SortedRows.
-/
namespace Go.Proofs.Ythokafaooihmbaa
open Go.RowKit

def rowAt (rows : List (List Int)) (q : Int) (j : Nat) : Bool := decide (((rows.getD j []).length : Int) = q) && (decide (j = 0) || decide (cmpL (rows.getD (j - 1) []) (rows.getD j []) < 0))
def rowsB (rows : List (List Int)) (q : Int) : Bool := (List.range rows.length).all (rowAt rows q)

theorem rowsB_true {rows : List (List Int)} {q : Int} (h : ∀ i, i < rows.length → rowAt rows q i = true) : rowsB rows q = true := by
  unfold rowsB
  rw [List.all_eq_true]
  intro i hi
  exact h i (by simpa using hi)

theorem rowsB_false {rows : List (List Int)} {q : Int} {j : Nat} (hj : j < rows.length) (h : rowAt rows q j = false) : rowsB rows q = false := by
  unfold rowsB
  rw [List.all_eq_false]
  exact ⟨j, by simpa using hj, by rw [h]; decide⟩

theorem rowAt_cases (rows : List (List Int)) (q : Int) (j : Nat) :
    (((rows.getD j []).length : Int) ≠ q ∧ rowAt rows q j = false) ∨ (((rows.getD j []).length : Int) = q ∧ j = 0 ∧ rowAt rows q j = true) ∨
    (((rows.getD j []).length : Int) = q ∧ 0 < j ∧ 0 ≤ cmpL (rows.getD (j - 1) []) (rows.getD j []) ∧ rowAt rows q j = false) ∨ (((rows.getD j []).length : Int) = q ∧ 0 < j ∧ cmpL (rows.getD (j - 1) []) (rows.getD j []) < 0 ∧ rowAt rows q j = true) := by
  unfold rowAt
  generalize ((rows.getD j []).length : Int) = x
  generalize cmpL (rows.getD (j - 1) []) (rows.getD j []) = y
  by_cases h1 : x = q
  · right
    by_cases h3 : j = 0
    · left; refine ⟨h1, h3, ?_⟩; simp [h3, h1]
    · right
      by_cases h4 : y < 0
      · right; refine ⟨h1, by omega, h4, ?_⟩; simp [h1]; omega
      · left; refine ⟨h1, by omega, by omega, ?_⟩; simp [h1]; omega
  · left; exact ⟨h1, by simp [h1]⟩

end Go.Proofs.Ythokafaooihmbaa

/-
  impl.areEdges, impl.inEdges.
-/
namespace Go.Proofs.Ythokafaooihmbaa
open Go.RowKit

def edgesB (es : List (List Int)) : Bool := decide (es.length ≤ 7) && es.all setB
def coverB (bag : List Int) (es : List (List Int)) : Bool := bag.all fun x => es.any fun e => decide (x ∈ e)

theorem all_getD {α : Type} (p : α → Bool) (d : α) (l : List α) (h : ∀ i, i < l.length → p (l.getD i d) = true) : l.all p = true := by
  rw [List.all_eq_true]
  intro x hx
  obtain ⟨j, hj, e⟩ := List.getElem_of_mem hx
  have := h j hj
  rw [List.getD_eq_getElem?_getD, List.getElem?_eq_getElem hj] at this
  rw [← e]; exact this

theorem all_getD_false {α : Type} (p : α → Bool) (d : α) (l : List α) (j : Nat) (hj : j < l.length) (h : p (l.getD j d) = false) : l.all p = false := by
  rw [List.all_eq_false]
  rw [List.getD_eq_getElem?_getD, List.getElem?_eq_getElem hj] at h
  exact ⟨_, List.getElem_mem hj, by simpa using h⟩

theorem plc_nil_iff (p : Nat → Bool) (k : Nat) : (plc p k).length = 0 ↔ ∀ i, i < k → p i = false := by
  unfold plc
  rw [List.length_map, List.length_eq_zero_iff, List.filter_eq_nil_iff]
  simp

theorem any_plc (x : Int) (es : List (List Int)) : (es.any fun e => decide (x ∈ e)) = !decide ((plc (fun i => decide (x ∈ es.getD i [])) es.length).length = 0) := by
  cases hb : (es.any fun e => decide (x ∈ e))
  · rw [eq_comm, Bool.not_eq_false', decide_eq_true_eq, plc_nil_iff]
    intro i hi
    rw [List.any_eq_false] at hb
    have := hb _ (List.getElem_mem hi)
    rw [List.getD_eq_getElem?_getD, List.getElem?_eq_getElem hi]
    simpa using this
  · rw [eq_comm, Bool.not_eq_true', decide_eq_false_iff_not, plc_nil_iff]
    intro hall
    rw [List.any_eq_true] at hb
    obtain ⟨e, he, h2⟩ := hb
    obtain ⟨j, hj, e1⟩ := List.getElem_of_mem he
    have := hall j hj
    rw [List.getD_eq_getElem?_getD, List.getElem?_eq_getElem hj] at this
    simp only [Option.getD_some, e1] at this
    rw [this] at h2
    exact Bool.noConfusion h2

set_option maxHeartbeats 2000000 in
set_option maxRecDepth 1000000 in
theorem areEdges_calls (w : World) (ve : Value) (es : List (List Int)) (h : ISS w ve es) (hl : Short es) :
    Calls Try.prog 20 #[ve] w fun e w' => e = .returned (.bool (edgesB es)) ∧ w' = w := by
  obtain ⟨a, cap, rfl, hc⟩ := h
  obtain ⟨hl1, hl2⟩ := hl
  obtain ⟨n, hn⟩ : ∃ n, n = es.length := ⟨_, rfl⟩
  obtain ⟨res, hres⟩ : ∃ r, r = edgesB es := ⟨_, rfl⟩
  rw [← hres]
  rw [← hn] at hc hl1 ⊢
  have HR := hid hres
  have HC := hid hc
  have HN := hid hn
  have HL := hid hl2
  clear hc hn hl2 hres
  by_cases h7 : 7 < n
  · have hf : Hid (res = false) := HR.out.trans (by unfold edgesB; rw [← HN.out, decide_eq_false (by omega)]; rfl)
    have i7 : (7 : Int) < (n : Int) := by omega
    go_enter Try.func20, Try.ntmps20
    go_wp2
    go_ret
    exact ⟨ret_bool (by rw [hf.out]), rfl⟩
  have i7 : ¬ (7 : Int) < (n : Int) := by omega
  go_enter Try.func20, Try.ntmps20
  go_wp2
  go_loop [10] (fun t => ∃ j : Nat, j ≤ n ∧ t = .int .i64 j ∧ Hid (∀ i, i < j → setB (es.getD i []) = true)) (fun t => n - (intOf t).toNat)
  case atStart => exact ⟨0, Nat.zero_le _, rfl, hid (fun i hi => by omega)⟩
  case round =>
    obtain ⟨j, hj, rfl, hok⟩ := hrel
    by_cases hjn : j < n
    · have i1 : (j : Int) < (n : Int) := by omega
      rcases HC.out with h0 | ⟨b, o, rfl, hcell⟩
      · omega
      · obtain ⟨u, c1, hu⟩ := hcell j hjn
        have HK := hid (isVariableSet_calls w u (es.getD j []) hu (HL.out j))
        obtain ⟨a1, cap1, rfl, -⟩ := hu
        have fin : setB (es.getD j []) = false → Hid (res = false) := fun e => HR.out.trans (by
          unfold edgesB
          rw [all_getD_false setB [] es j (by rw [← HN.out]; exact hjn) e, Bool.and_false])
        have nxt : setB (es.getD j []) = true → Hid (∀ i, i < j + 1 → setB (es.getD i []) = true) := fun e i hi => by
          by_cases e2 : i = j
          · rw [e2]; exact e
          · exact hok.out i (by omega)
        clear hcell hok
        generalize (es.getD j []).length = m at *
        generalize setB (es.getD j []) = y at *
        cases y
        · have hf := fin rfl
          clear fin nxt
          go_wp2_with (first | (go_at_call 19; refine HK.out.mono ?_; rintro e w' ⟨rfl, hw'⟩; subst w'))
          go_ret
          exact ⟨ret_bool (by rw [hf.out]), rfl⟩
        · have hf := nxt rfl
          clear fin nxt
          go_wp2_with (first | (go_at_call 19; refine HK.out.mono ?_; rintro e w' ⟨rfl, hw'⟩; subst w'))
          go_round
          case rel => exact ⟨j + 1, by omega, by go_num, hf⟩
          case measure => simp [intOf]; omega
    · obtain rfl : j = n := by omega
      have hf : Hid (res = true) := HR.out.trans (by
        unfold edgesB
        rw [← HN.out, decide_eq_true (by omega), Bool.true_and]
        exact all_getD setB [] es (fun i hi => hok.out i (by rw [HN.out]; exact hi)))
      have i1 : ¬ ((j : Int) < (j : Int)) := by omega
      clear hok
      go_wp2
      go_ret
      exact ⟨ret_bool (by rw [hf.out]), rfl⟩

set_option maxHeartbeats 2000000 in
set_option maxRecDepth 1000000 in
theorem inEdges_calls (w : World) (vb ve : Value) (bag : List Int) (es : List (List Int)) (hb : IS w vb bag) (h : ISS w ve es) (hlb : bag.length ≤ 1099511627776) (hl : Short es) :
    Calls Try.prog 21 #[vb, ve] w fun e w' => e = .returned (.bool (coverB bag es)) ∧ Below w.heap.size w w' := by
  obtain ⟨a, cap, rfl, hc⟩ := hb
  obtain ⟨n, hn⟩ : ∃ n, n = bag.length := ⟨_, rfl⟩
  obtain ⟨res, hres⟩ : ∃ r, r = coverB bag es := ⟨_, rfl⟩
  rw [← hres]
  rw [← hn] at hc hlb ⊢
  have HR := hid hres
  have HC := hid hc
  have HN := hid hn
  have HE := hid h
  have HL := hid hl
  clear hc hn h hl hres
  go_enter Try.func21, Try.ntmps21
  go_wp2
  go_loopw [9] (fun t wr => ∃ j : Nat, j ≤ n ∧ t = .int .i64 j ∧ Below w.heap.size w wr ∧ Hid (∀ i, i < j → (es.any fun e => decide (bag.getD i 0 ∈ e)) = true)) (fun t _ => n - (intOf t).toNat)
  case atStart => exact ⟨0, Nat.zero_le _, rfl, Below.refl _ _, hid (fun i hi => by omega)⟩
  case round =>
    obtain ⟨j, hj, rfl, hnx, hok⟩ := hrel
    by_cases hjn : j < n
    · have i1 : (j : Int) < (n : Int) := by omega
      rcases HC.out with h0 | ⟨b, o, rfl, hcell⟩
      · omega
      · have c0 := hcell j hjn
        have c1 : wr.cell? ⟨b, o + j, none⟩ = some (.int .i64 (bag.getD j 0)) := (hnx.cell (p := ⟨b, o + j, none⟩) (World.block_lt_of_cell? w _ c0)).trans c0
        have HK := hid (edgesWith_calls wr ve (bag.getD j 0) es (HE.out.below hnx) HL.out)
        have hany := any_plc (bag.getD j 0) es
        have fin : (es.any fun e => decide (bag.getD j 0 ∈ e)) = false → Hid (res = false) := fun e => HR.out.trans (by
          unfold coverB
          exact all_getD_false (fun x => es.any fun e => decide (x ∈ e)) 0 bag j (by rw [← HN.out]; exact hjn) e)
        have nxt : (es.any fun e => decide (bag.getD j 0 ∈ e)) = true → Hid (∀ i, i < j + 1 → (es.any fun e => decide (bag.getD i 0 ∈ e)) = true) := fun e i hi => by
          by_cases e2 : i = j
          · rw [e2]; exact e
          · exact hok.out i (by omega)
        have hlen := plc_le (fun i => decide (bag.getD j 0 ∈ es.getD i [])) es.length
        have hll := HL.out.1
        clear hcell hok c0
        generalize bag.getD j 0 = x at *
        generalize plc (fun i => decide (x ∈ es.getD i [])) es.length = pl at *
        generalize (es.any fun e => decide (x ∈ e)) = y at *
        obtain ⟨m, hm⟩ : ∃ m, m = pl.length := ⟨_, rfl⟩
        rw [← hm] at hany hlen HK
        have hm7 : m ≤ 1099511627776 := by omega
        clear hlen hll hm
        cases y
        · have hf := fin rfl
          have hm0 : m = 0 := by simpa using hany
          clear fin nxt hany
          subst hm0
          go_wp2_with (first | (go_at_call 41; refine HK.out.mono ?_; rintro e w' ⟨v, rfl, ⟨hv1, (⟨rfl, hv2⟩ | ⟨g, cap', cur, rfl, hv2⟩)⟩, hbw⟩))
          all_goals go_ret
          all_goals exact ⟨ret_bool (by rw [hf.out]), bt hnx hbw⟩
        · have hf := nxt rfl
          have hm0 : m ≠ 0 := by simpa using hany
          have hm1 : ¬ ((m : Int) = 0) := by omega
          clear fin nxt hany
          go_wp2_with (first | (go_at_call 41; refine HK.out.mono ?_; rintro e w' ⟨v, rfl, ⟨hv1, (⟨rfl, hv2⟩ | ⟨g, cap', cur, rfl, hv2⟩)⟩, hbw⟩))
          · exact absurd hv2 hm0
          go_roundw
          case rel => exact ⟨j + 1, by omega, by go_num, bt hnx hbw, hf⟩
          case measure => simp [intOf]; omega
    · obtain rfl : j = n := by omega
      have hf : Hid (res = true) := HR.out.trans (by
        unfold coverB
        exact all_getD (fun x => es.any fun e => decide (x ∈ e)) 0 bag (fun i hi => hok.out i (by rw [HN.out]; exact hi)))
      have i1 : ¬ ((j : Int) < (j : Int)) := by omega
      clear hok
      go_wp2
      go_ret
      exact ⟨ret_bool (by rw [hf.out]), hnx⟩

end Go.Proofs.Ythokafaooihmbaa

/-
  spec.l1Zeros: n zeros.
-/
namespace Go.Proofs.Ythokafaooihmbaa
open Go.RowKit

theorem Try.infoRatS : (Try.prog.info? 28).map (fun i => (i.zero, i.size, i.bytes)) = some (some (.agg #[.int .i64 0, .int .i64 0]), 2, 16) := by kernel_rfl

def zs (k : Nat) : List Value := (List.replicate k [Value.int .i64 0, Value.int .i64 1]).flatten
theorem zs_succ (k : Nat) : zs (k + 1) = zs k ++ [.int .i64 0, .int .i64 1] := by
  simp [zs, List.replicate_succ', List.flatten_append]

theorem own_grow2 {B n s : Nat} {e : TypeId} {w wr w1 : World} {u : Value} {o : Obj} {xs : List Value} (hB : B ≤ wr.heap.size)
    (hown : wr.ownsRow B e s u n xs) (hnx : Below B w wr) (hgrow : (wr.alloc o).grownBy w1 u.ownBlock) : Below B w w1 :=
  (hnx.alloc hB o).grown hgrow (by simp; omega) (fun j hj => (hown.lt j hj).1)

set_option maxHeartbeats 2000000 in
set_option maxRecDepth 1000000 in
theorem l1Zeros_calls (w : World) (n : Nat) (hn : n ≤ 1000) :
    Calls Try.prog 16 #[.int .i64 n] w fun e w' => ∃ v, e = .returned v ∧ w'.ownsRow w.heap.size 28 2 v n (zs n) ∧ Below w.heap.size w w' := by
  obtain ⟨i0, hi, hz0, hz1, hz2⟩ := info_parts Try.infoRatS
  go_enter Try.func16, Try.ntmps16
  go_wp2
  go_loopw [3, 4] (fun v t wr => ∃ k : Nat, k ≤ n ∧ t = .int .i64 k ∧ wr.ownsRow w.heap.size 28 2 v k (zs k) ∧ Below w.heap.size w wr) (fun _ t _ => n - (intOf t).toNat)
  case atStart => exact ⟨0, Nat.zero_le _, rfl, World.ownsRow_made w #[] 0 (Nat.le_refl _) (by decide) rfl, (Below.refl _ _).alloc (Nat.le_refl _) _⟩
  case round =>
    obtain ⟨k, hk, rfl, hown, hnx⟩ := hrel
    have hns := hnx.size
    by_cases hkn : k < n
    · have i1 : (k : Int) < (n : Int) := by omega
      go_wp2_with (first
        | (at_builtin; refine wpList_append_own _ rfl _ _ 29 rfl w.heap.size 28 i0 (.agg #[.int .i64 0, .int .i64 0]) 2 16 Try.underlying29 hi hz0 hz1 hz2 rfl (by decide) _ _ _ rfl (hown.alloc _) ⟨wr.heap.size, 0, none⟩ 1 1 [.int .i64 0, .int .i64 1] rfl rfl ?c1 ?c2 ?c3 ?c4 ?c5 ?_))
      case c1 =>
        intro j u hj
        match j, hj with
        | 0, hj => simp at hj; subst hj; simp [Addr.add]
        | 1, hj => simp at hj; subst hj; simp [Addr.add]
      case c2 => intro u hu; simp at hu; rcases hu with rfl | rfl <;> rfl
      case c3 => unfold maxLen; omega
      case c4 => omega
      case c5 => simp; omega
      intro v' w1 hown' hgrow _
      have hb := own_grow2 hns hown hnx hgrow
      have hown2 : w1.ownsRow w.heap.size 28 2 v' (k + 1) (zs (k + 1)) := by
        rw [zs_succ]; exact hown'
      clear hown' hgrow hown
      go_wp2
      go_roundw
      case rel => exact ⟨k + 1, by omega, by go_num, hown2, hb⟩
      case measure => simp [intOf]; omega
    · obtain rfl : k = n := by omega
      have i1 : ¬ ((k : Int) < (k : Int)) := by omega
      go_wp2
      go_ret
      exact ⟨_, rfl, hown, hnx⟩

end Go.Proofs.Ythokafaooihmbaa

/-
  impl.ratsOf: fractions as Rats.
-/
namespace Go.Proofs.Ythokafaooihmbaa
open Go.RowKit

/-- pairs of numbers in memory -/
def IR (w : World) (v : Value) (l : List (Int × Int)) : Prop := ∃ a cap, v = .slice a l.length cap ∧ (l.length = 0 ∨ ∃ b o, a = some ⟨b, o, none⟩ ∧ ∀ j, j < l.length →
  w.cell? ⟨b, o + j * 2, none⟩ = some (.int .i64 (l.getD j (0, 0)).1) ∧ w.cell? ⟨b, o + j * 2 + 1, none⟩ = some (.int .i64 (l.getD j (0, 0)).2))

def rcs (l : List (Int × Int)) : List Value := l.flatMap fun p => [.int .i64 p.1, .int .i64 p.2]
theorem rcs_succ (l : List (Int × Int)) (k : Nat) (h : k < l.length) : rcs (l.take (k + 1)) = rcs (l.take k) ++ [.int .i64 (l.getD k (0, 0)).1, .int .i64 (l.getD k (0, 0)).2] := by
  unfold rcs
  rw [List.take_add_one, List.getElem?_eq_getElem h, List.getD_eq_getElem?_getD, List.getElem?_eq_getElem h]
  simp only [Option.toList_some, List.flatMap_append, List.flatMap_cons, List.flatMap_nil, List.append_nil, Option.getD_some]

theorem own_below {B n s : Nat} {e : TypeId} {w w' : World} {v : Value} {xs : List Value} (h : w.ownsRow B e s v n xs) (hb : Below w.heap.size w w') : w'.ownsRow B e s v n xs := by
  obtain ⟨h1, h2⟩ := h
  refine ⟨h1, ?_⟩
  rcases h2 with h2 | ⟨g, cap, cur, hv, hg, hc, hr⟩
  · exact Or.inl h2
  · refine Or.inr ⟨g, cap, cur, hv, hg, ?_, hr⟩
    rw [hb.block g (by
      rcases Nat.lt_or_ge g w.heap.size with h3 | h3
      · exact h3
      · rw [Array.getElem?_eq_none h3] at hc; cases hc)]
    exact hc

set_option maxHeartbeats 2000000 in
set_option maxRecDepth 1000000 in
theorem ratsOf_calls (w : World) (v : Value) (l : List (Int × Int)) (h : IR w v l) (hl : l.length ≤ 1000)
    (hp : ∀ j, j < l.length → (-1000000 ≤ (l.getD j (0, 0)).1 ∧ (l.getD j (0, 0)).1 ≤ 1000000) ∧ (-1000000 ≤ (l.getD j (0, 0)).2 ∧ (l.getD j (0, 0)).2 ≤ 1000000)) :
    Calls Try.prog 22 #[v] w fun e w' => ∃ v, e = .returned v ∧ w'.ownsRow w.heap.size 28 2 v l.length (rcs l) ∧ Below w.heap.size w w' := by
  obtain ⟨i0, hi, hz0, hz1, hz2⟩ := info_parts Try.infoRatS
  obtain ⟨a, cap, rfl, hc⟩ := h
  obtain ⟨n, hn⟩ : ∃ n, n = l.length := ⟨_, rfl⟩
  obtain ⟨out, hout⟩ : ∃ o, o = rcs l := ⟨_, rfl⟩
  rw [← hout]
  rw [← hn] at hc hl hp ⊢
  have HC := hid hc
  have HP := hid hp
  have HN := hid hn
  have HO := hid hout
  clear hc hp hn hout
  go_enter Try.func22, Try.ntmps22
  go_wp2_with (at_make; refine wpList_make_own _ rfl _ _ 29 rfl w.heap.size 28 i0 (.agg #[.int .i64 0, .int .i64 0]) 2 Try.underlying29 hi hz0 hz1 _ _ _ n rfl rfl rfl ?b2 ?b3 (Nat.le_refl _) ?_)
  case b2 => rw [hz2]; omega
  case b3 => unfold maxLen; omega
  intro w0 hown0 hgrow0
  have hb0 : Below w.heap.size w w0 := (Below.refl _ _).grown hgrow0 (Nat.le_refl _) (fun j hj => by cases hj)
  clear hgrow0
  go_wp2
  go_loopw [3, 11] (fun v t wr => ∃ k : Nat, k ≤ n ∧ t = .int .i64 k ∧ wr.ownsRow w.heap.size 28 2 v k (rcs (l.take k)) ∧ Below w.heap.size w wr) (fun _ t _ => n - (intOf t).toNat)
  case atStart => exact ⟨0, Nat.zero_le _, rfl, hown0, hb0⟩
  case round =>
    obtain ⟨k, hk, rfl, hown, hnx⟩ := hrel
    have hns := hnx.size
    by_cases hkn : k < n
    · have i1 : (k : Int) < (n : Int) := by omega
      rcases HC.out with h0 | ⟨b, o, rfl, hcell⟩
      · omega
      · obtain ⟨d1, d2⟩ := hcell k hkn
        have c1 := (hnx.cell (p := ⟨b, o + k * 2, none⟩) (World.block_lt_of_cell? w _ d1)).trans d1
        have c2 := (hnx.cell (p := ⟨b, o + k * 2 + 1, none⟩) (World.block_lt_of_cell? w _ d2)).trans d2
        obtain ⟨⟨p1, p2⟩, p3, p4⟩ := HP.out k hkn
        have HS := hid (rcs_succ l k (by rw [← HN.out]; exact hkn))
        clear hcell d1 d2 hown0 hb0
        generalize (l.getD k (0, 0)).1 = x at *
        generalize (l.getD k (0, 0)).2 = y at *
        go_wp2_with fail
        have hbA : Below w.heap.size w (wr.alloc (.cells #[.int .i64 x, .int .i64 y] 58)) := hnx.alloc hns _
        have hownA := hown.alloc (.cells #[.int .i64 x, .int .i64 y] 58)
        clear hown c1 c2 hnx
        generalize wr.alloc (.cells #[.int .i64 x, .int .i64 y] 58) = wa at *
        refine (ratOf_yes x y wa p1 p2 p3 p4).mono ?_
        rintro e w2 ⟨rfl, hb2⟩
        have hownB := own_below hownA hb2
        have hbB : Below w.heap.size w w2 := bt hbA hb2
        have hsB := hbB.size
        clear hownA hb2 hbA
        go_wp2_with (first
          | (at_builtin; refine wpList_append_own _ rfl _ _ 29 rfl w.heap.size 28 i0 (.agg #[.int .i64 0, .int .i64 0]) 2 16 Try.underlying29 hi hz0 hz1 hz2 rfl (by decide) _ _ _ rfl (hownB.alloc _) ⟨w2.heap.size, 0, none⟩ 1 1 [.int .i64 x, .int .i64 y] rfl rfl ?c1 ?c2 ?c3 ?c4 ?c5 ?_))
        case c1 =>
          intro j u hj
          match j, hj with
          | 0, hj => simp at hj; subst hj; simp [Addr.add]
          | 1, hj => simp at hj; subst hj; simp [Addr.add]
        case c2 => intro u hu; simp at hu; rcases hu with rfl | rfl <;> rfl
        case c3 => unfold maxLen; omega
        case c4 => omega
        case c5 => simp; omega
        intro v' w1 hown' hgrow _
        have hb := own_grow2 hsB hownB hbB hgrow
        have hown2 : w1.ownsRow w.heap.size 28 2 v' (k + 1) (rcs (l.take (k + 1))) := by
          rw [HS.out]; exact hown'
        clear hown' hgrow hownB
        go_wp2
        go_roundw
        case rel => exact ⟨k + 1, by omega, by go_num, hown2, hb⟩
        case measure => simp [intOf]; omega
    · obtain rfl : k = n := by omega
      have i1 : ¬ ((k : Int) < (k : Int)) := by omega
      rw [HN.out, List.take_length, ← HN.out, ← HO.out] at hown
      go_wp2
      go_ret
      exact ⟨_, rfl, hown, hnx⟩

end Go.Proofs.Ythokafaooihmbaa

/-
  laws.markIntSS on a copy of the law's own: only the blocks of its lists are others.
-/
namespace Go.Proofs.Ythokafaooihmbaa
open Go.RowKit

/-- only the blocks f 0 .. f (n - 1) are others -/
structure Ost (f : Nat → Nat) (n : Nat) (w w' : World) : Prop where
  os : w'.os = w.os
  tape : w'.tape = w.tape
  output : w'.output = w.output
  size : w'.heap.size = w.heap.size
  block : ∀ b, (∀ i, i < n → b ≠ f i) → w'.heap[b]? = w.heap[b]?

theorem Ost.refl (f : Nat → Nat) (w : World) : Ost f 0 w w := ⟨rfl, rfl, rfl, rfl, fun _ _ => rfl⟩
theorem Ost.step {f : Nat → Nat} {n : Nat} {w w1 w2 : World} (h : Ost f n w w1) (h' : Og (f n) w1 w2) : Ost f (n + 1) w w2 :=
  ⟨h'.os.trans h.os, h'.tape.trans h.tape, h'.output.trans h.output, h'.size.trans h.size, fun b hb => (h'.block b (hb n (by omega))).trans (h.block b (fun i hi => hb i (by omega)))⟩
theorem Ost.below {f : Nat → Nat} {n N : Nat} {w w' : World} (h : Ost f n w w') (hN : ∀ i, i < n → N ≤ f i) : Below N w w' :=
  ⟨h.os, h.tape, h.output, Nat.le_of_eq h.size.symm, fun b hb => h.block b (fun i hi => by have := hN i hi; omega)⟩

end Go.Proofs.Ythokafaooihmbaa

/-
  laws.markIntS, laws.heldIntS on a slice that a call has made (ownsRow).
-/
namespace Go.Proofs.Ythokafaooihmbaa
open Go.RowKit

theorem own_move {w w' : World} {B n s : Nat} {e : TypeId} {v : Value} {xs : List Value} (h : w.ownsRow B e s v n xs) (hb : ∀ g, v.ownBlock = some g → w'.heap[g]? = w.heap[g]?) : w'.ownsRow B e s v n xs := by
  obtain ⟨h1, h2⟩ := h
  refine ⟨h1, ?_⟩
  rcases h2 with h2 | ⟨g, cap, cur, rfl, hb', hc, hr⟩
  · exact Or.inl h2
  · exact Or.inr ⟨g, cap, cur, rfl, hb', (hb g rfl).trans hc, hr⟩

theorem own_is {w : World} {B : Nat} {v : Value} {l : List Int} (h : w.ownsRow B 3 1 v l.length (l.map (Value.int .i64))) : IS w v l := by
  rcases h.2 with ⟨rfl, h2⟩ | ⟨g, cap, cur, rfl, hb', hc, hr⟩
  · exact ⟨none, 0, by rw [h2], Or.inl h2⟩
  · refine ⟨_, cap, rfl, Or.inr ⟨g, 0, rfl, fun j hj => ?_⟩⟩
    rw [Nat.zero_add, h.cellAt j (by omega), List.getElem?_map, List.getElem?_eq_getElem hj, List.getD_eq_getElem?_getD, List.getElem?_eq_getElem hj]
    rfl

theorem own_ownI {w : World} {B g cap : Nat} {l : List Int} (h : w.ownsRow B 3 1 (.slice (some ⟨g, 0, none⟩) l.length cap) l.length (l.map (Value.int .i64))) : OwnI w g l where
  cell j hj := by
    rw [h.cellAt j (by omega), List.getElem?_map, List.getElem?_eq_getElem hj, List.getD_eq_getElem?_getD, List.getElem?_eq_getElem hj]
    rfl
  free j _ := h.frozenAt j
  lt := (h.lt g rfl).2

end Go.Proofs.Ythokafaooihmbaa

/-
  impl.sumOf, spec.l1Sum: the sum of Rats, given what AddRat | l1Plus answers at each step.
-/
namespace Go.Proofs.Ythokafaooihmbaa
open Go.RowKit

/-- two cells that may be written -/
def Two (w : World) (g : Nat) (x y : Int) : Prop := w.cell? ⟨g, 0, none⟩ = some (.int .i64 x) ∧ w.cell? ⟨g, 1, none⟩ = some (.int .i64 y) ∧ w.frozen? ⟨g, 0, none⟩ = false ∧ w.frozen? ⟨g, 1, none⟩ = false

theorem Two.below {w w' : World} {g : Nat} {x y : Int} (h : Two w g x y) (hg : g < w.heap.size) (hb : Below w.heap.size w w') : Two w' g x y :=
  ⟨(hb.cell (p := ⟨g, 0, none⟩) hg).trans h.1, (hb.cell (p := ⟨g, 1, none⟩) hg).trans h.2.1, (World.frozen?_of_block (w := w) (a := ⟨g, 0, none⟩) (hb.block g hg)).trans h.2.2.1, (World.frozen?_of_block (w := w) (a := ⟨g, 1, none⟩) (hb.block g hg)).trans h.2.2.2⟩

theorem Two.set {w : World} {g : Nat} {a b : Int} (h : Two w g a b) (x y : Int) : Two ((w.setCell ⟨g, 0, none⟩ (.int .i64 x)).setCell ⟨g, 1, none⟩ (.int .i64 y)) g x y := by
  have n1 : ∀ v, (w.setCell ⟨g, 0, none⟩ v).cell? ⟨g, 1, none⟩ = some (.int .i64 b) := fun v => (World.cell?_setCell_other _ _ _ _ (by simp)).trans h.2.1
  refine ⟨(World.cell?_setCell_other _ _ _ _ (by simp)).trans (World.cell?_setCell_same _ _ _ h.1), World.cell?_setCell_same _ _ _ (n1 _), ?_, ?_⟩
  · rw [World.frozen?_setCell, World.frozen?_setCell]; exact h.2.2.1
  · rw [World.frozen?_setCell, World.frozen?_setCell]; exact h.2.2.2

theorem Two.other {w : World} {g g' : Nat} {a b : Int} (h : Two w g a b) (hne : g ≠ g') (x y : Value) : Two ((w.setCell ⟨g', 0, none⟩ x).setCell ⟨g', 1, none⟩ y) g a b := by
  have ne : ∀ i j : Nat, (⟨g, i, none⟩ : Addr) ≠ ⟨g', j, none⟩ := fun i j e => by simp only [Addr.mk.injEq] at e; exact hne e.1
  refine ⟨?_, ?_, ?_, ?_⟩
  · rw [World.cell?_setCell_other _ _ _ _ (by first | exact ne _ _ | exact (ne _ _).symm), World.cell?_setCell_other _ _ _ _ (by first | exact ne _ _ | exact (ne _ _).symm)]; exact h.1
  · rw [World.cell?_setCell_other _ _ _ _ (by first | exact ne _ _ | exact (ne _ _).symm), World.cell?_setCell_other _ _ _ _ (by first | exact ne _ _ | exact (ne _ _).symm)]; exact h.2.1
  · rw [World.frozen?_setCell, World.frozen?_setCell]; exact h.2.2.1
  · rw [World.frozen?_setCell, World.frozen?_setCell]; exact h.2.2.2

set_option maxHeartbeats 2000000 in
set_option maxRecDepth 1000000 in
theorem sumOf_calls (w : World) (v : Value) (l : List (Int × Int)) (h : IR w v l) (hl : l.length ≤ 1000) (s : Nat → Int × Int) (h0 : s 0 = (0, 1))
    (hs : ∀ k w, k < l.length → Calls Try.prog 9 #[.agg #[.int .i64 (s k).1, .int .i64 (s k).2], .agg #[.int .i64 (l.getD k (0, 0)).1, .int .i64 (l.getD k (0, 0)).2]] w fun e w' => e = .returned (.agg #[.int .i64 (s (k + 1)).1, .int .i64 (s (k + 1)).2]) ∧ Below w.heap.size w w') :
    Calls Try.prog 26 #[v] w fun e w' => e = .returned (.agg #[.int .i64 (s l.length).1, .int .i64 (s l.length).2]) ∧ Below w.heap.size w w' := by
  obtain ⟨a, cap, rfl, hc⟩ := h
  obtain ⟨n, hn⟩ : ∃ n, n = l.length := ⟨_, rfl⟩
  rw [← hn] at hc hl hs ⊢
  have HC := hid hc
  have HS := hid hs
  have H0 := hid h0
  clear hc hs hn h0
  go_enter Try.func26, Try.ntmps26
  go_wp2
  have hbb : Below w.heap.size w ((w.alloc (.cells #[.int .i64 0, .int .i64 0] 28)).alloc (.cells #[.int .i64 0, .int .i64 1] 28)) := ((Below.refl _ _).alloc (Nat.le_refl _) _).alloc (by simp) _
  have t1 : Two ((w.alloc (.cells #[.int .i64 0, .int .i64 0] 28)).alloc (.cells #[.int .i64 0, .int .i64 1] 28)) w.heap.size 0 0 :=
    ⟨by rw [World.cell?_alloc_past _ _ _ (by simp), World.cell?_alloc_at _ _ _ _ rfl]; rfl, by rw [World.cell?_alloc_past _ _ _ (by simp), World.cell?_alloc_at _ _ _ _ rfl]; rfl, by rw [World.frozen?_alloc_past _ _ _ (by simp), World.frozen?_alloc_at _ _ _ _ rfl], by rw [World.frozen?_alloc_past _ _ _ (by simp), World.frozen?_alloc_at _ _ _ _ rfl]⟩
  have t2 : Two ((w.alloc (.cells #[.int .i64 0, .int .i64 0] 28)).alloc (.cells #[.int .i64 0, .int .i64 1] 28)) (w.heap.size + 1) 0 1 :=
    ⟨by rw [World.cell?_alloc_at _ _ _ _ (by simp)]; rfl, by rw [World.cell?_alloc_at _ _ _ _ (by simp)]; rfl, World.frozen?_alloc_at _ _ _ _ (by simp), World.frozen?_alloc_at _ _ _ _ (by simp)⟩
  have T1 := hid t1
  have T2 := hid t2
  have HBB := hid hbb
  clear t1 t2 hbb
  go_loopw [9] (fun t wr => ∃ k : Nat, k ≤ n ∧ t = .int .i64 k ∧ w.heap.size + 1 < wr.heap.size ∧ Hid (Below w.heap.size w wr ∧ Two wr w.heap.size 0 0 ∧ Two wr (w.heap.size + 1) (s k).1 (s k).2)) (fun t _ => n - (intOf t).toNat)
  case atStart => exact ⟨0, Nat.zero_le _, rfl, by simp, hid ⟨HBB.out, T1.out, by rw [H0.out]; exact T2.out⟩⟩
  case round =>
    clear T1 T2 HBB
    obtain ⟨k, hk, rfl, hsz, hH⟩ := hrel
    by_cases hkn : k < n
    · have i1 : (k : Int) < (n : Int) := by omega
      rcases HC.out with h0 | ⟨b, o, rfl, hcell⟩
      · omega
      · obtain ⟨hnx, hT1, hT2⟩ := hH.out
        obtain ⟨d1, d2⟩ := hcell k hkn
        have c1 := (hnx.cell (p := ⟨b, o + k * 2, none⟩) (World.block_lt_of_cell? w _ d1)).trans d1
        have c2 := (hnx.cell (p := ⟨b, o + k * 2 + 1, none⟩) (World.block_lt_of_cell? w _ d2)).trans d2
        have HK : Hid (∀ w, _) := hid (fun w => HS.out k w hkn)
        have hbA : ∀ ob, Below wr.heap.size wr (wr.alloc ob) := fun ob => (Below.refl _ _).alloc (Nat.le_refl _) ob
        have c3 := hT2.1
        have c4 := hT2.2.1
        have HH := hid (And.intro hnx (And.intro hT1 hT2))
        have HBA := hid hbA
        clear hcell d1 d2 hnx hT1 hT2 hH hbA
        generalize (l.getD k (0, 0)).1 = x at *
        generalize (l.getD k (0, 0)).2 = y at *
        obtain ⟨x2, hx2⟩ : ∃ t, t = (s (k + 1)).1 := ⟨_, rfl⟩
        obtain ⟨y2, hy2⟩ : ∃ t, t = (s (k + 1)).2 := ⟨_, rfl⟩
        rw [← hx2, ← hy2] at HK
        have HX := hid hx2
        have HY := hid hy2
        clear hx2 hy2
        go_wp2_with (first | (go_at_call 9; refine (HK.out _).mono ?_; rintro e w2 ⟨rfl, hb2⟩; have hb3 := bt (HBA.out _) hb2; have q1 := HH.out.2.1.below (by omega) hb3; have q2 := HH.out.2.2.below (by omega) hb3; have q3 := bt HH.out.1 hb3; have q4 := hb3.size; have e1 := q2.1; have e2 := q2.2.1; have e3 := q2.2.2.1; have e4 := q2.2.2.2; have HQ := hid (And.intro q1 (And.intro q2 q3)); clear hb2 hb3 q1 q2 q3))
        go_roundw
        case rel => exact ⟨k + 1, by omega, by go_num, by simp [World.setCell]; omega, hid ⟨(HQ.out.2.2.setCell (by show w.heap.size ≤ w.heap.size + 1; omega) _).setCell (by show w.heap.size ≤ w.heap.size + 1; omega) _, HQ.out.1.other (by omega) _ _, by rw [← HX.out, ← HY.out]; exact HQ.out.2.1.set _ _⟩⟩
        case measure => simp [intOf]; omega
    · obtain rfl : k = n := by omega
      have i1 : ¬ ((k : Int) < (k : Int)) := by omega
      obtain ⟨hnx, hT1, hT2⟩ := hH.out
      have c1 := hT1.1
      have c2 := hT1.2.1
      have c3 := hT1.2.2.1
      have c4 := hT1.2.2.2
      have e1 := hT2.1
      have e2 := hT2.2.1
      obtain ⟨x, hx⟩ : ∃ t, t = (s k).1 := ⟨_, rfl⟩
      obtain ⟨y, hy⟩ : ∃ t, t = (s k).2 := ⟨_, rfl⟩
      rw [← hx] at e1
      rw [← hy] at e2
      have HX := hid hx
      have HY := hid hy
      have HQ := hid (And.intro hnx (hT1.set x y))
      clear hH hT1 hT2 hx hy hnx
      go_wp2
      have r1 := HQ.out.2.1
      have r2 := HQ.out.2.2.1
      refine bodyPost_ret (v := .agg #[.int .i64 x, .int .i64 y]) (by simp [results, Try.results26, go_sem, r1, r2]) rfl ⟨by rw [HX.out, HY.out], (HQ.out.1.setCell (Nat.le_refl _) _).setCell (Nat.le_refl _) _⟩

set_option maxHeartbeats 2000000 in
set_option maxRecDepth 1000000 in
theorem l1Sum_calls (w : World) (v : Value) (l : List (Int × Int)) (h : IR w v l) (hl : l.length ≤ 1000) (s : Nat → Int × Int) (h0 : s 0 = (0, 1))
    (hs : ∀ k w, k < l.length → Calls Try.prog 40 #[.agg #[.int .i64 (s k).1, .int .i64 (s k).2], .agg #[.int .i64 (l.getD k (0, 0)).1, .int .i64 (l.getD k (0, 0)).2]] w fun e w' => e = .returned (.agg #[.int .i64 (s (k + 1)).1, .int .i64 (s (k + 1)).2]) ∧ Below w.heap.size w w') :
    Calls Try.prog 18 #[v] w fun e w' => e = .returned (.agg #[.int .i64 (s l.length).1, .int .i64 (s l.length).2]) ∧ Below w.heap.size w w' := by
  obtain ⟨a, cap, rfl, hc⟩ := h
  obtain ⟨n, hn⟩ : ∃ n, n = l.length := ⟨_, rfl⟩
  rw [← hn] at hc hl hs ⊢
  have HC := hid hc
  have HS := hid hs
  have H0 := hid h0
  clear hc hs hn h0
  go_enter Try.func18, Try.ntmps18
  go_wp2
  have hbb : Below w.heap.size w ((w.alloc (.cells #[.int .i64 0, .int .i64 0] 28)).alloc (.cells #[.int .i64 0, .int .i64 1] 28)) := ((Below.refl _ _).alloc (Nat.le_refl _) _).alloc (by simp) _
  have t1 : Two ((w.alloc (.cells #[.int .i64 0, .int .i64 0] 28)).alloc (.cells #[.int .i64 0, .int .i64 1] 28)) w.heap.size 0 0 :=
    ⟨by rw [World.cell?_alloc_past _ _ _ (by simp), World.cell?_alloc_at _ _ _ _ rfl]; rfl, by rw [World.cell?_alloc_past _ _ _ (by simp), World.cell?_alloc_at _ _ _ _ rfl]; rfl, by rw [World.frozen?_alloc_past _ _ _ (by simp), World.frozen?_alloc_at _ _ _ _ rfl], by rw [World.frozen?_alloc_past _ _ _ (by simp), World.frozen?_alloc_at _ _ _ _ rfl]⟩
  have t2 : Two ((w.alloc (.cells #[.int .i64 0, .int .i64 0] 28)).alloc (.cells #[.int .i64 0, .int .i64 1] 28)) (w.heap.size + 1) 0 1 :=
    ⟨by rw [World.cell?_alloc_at _ _ _ _ (by simp)]; rfl, by rw [World.cell?_alloc_at _ _ _ _ (by simp)]; rfl, World.frozen?_alloc_at _ _ _ _ (by simp), World.frozen?_alloc_at _ _ _ _ (by simp)⟩
  have T1 := hid t1
  have T2 := hid t2
  have HBB := hid hbb
  clear t1 t2 hbb
  go_loopw [9] (fun t wr => ∃ k : Nat, k ≤ n ∧ t = .int .i64 k ∧ w.heap.size + 1 < wr.heap.size ∧ Hid (Below w.heap.size w wr ∧ Two wr w.heap.size 0 0 ∧ Two wr (w.heap.size + 1) (s k).1 (s k).2)) (fun t _ => n - (intOf t).toNat)
  case atStart => exact ⟨0, Nat.zero_le _, rfl, by simp, hid ⟨HBB.out, T1.out, by rw [H0.out]; exact T2.out⟩⟩
  case round =>
    clear T1 T2 HBB
    obtain ⟨k, hk, rfl, hsz, hH⟩ := hrel
    by_cases hkn : k < n
    · have i1 : (k : Int) < (n : Int) := by omega
      rcases HC.out with h0 | ⟨b, o, rfl, hcell⟩
      · omega
      · obtain ⟨hnx, hT1, hT2⟩ := hH.out
        obtain ⟨d1, d2⟩ := hcell k hkn
        have c1 := (hnx.cell (p := ⟨b, o + k * 2, none⟩) (World.block_lt_of_cell? w _ d1)).trans d1
        have c2 := (hnx.cell (p := ⟨b, o + k * 2 + 1, none⟩) (World.block_lt_of_cell? w _ d2)).trans d2
        have HK : Hid (∀ w, _) := hid (fun w => HS.out k w hkn)
        have hbA : ∀ ob, Below wr.heap.size wr (wr.alloc ob) := fun ob => (Below.refl _ _).alloc (Nat.le_refl _) ob
        have c3 := hT2.1
        have c4 := hT2.2.1
        have HH := hid (And.intro hnx (And.intro hT1 hT2))
        have HBA := hid hbA
        clear hcell d1 d2 hnx hT1 hT2 hH hbA
        generalize (l.getD k (0, 0)).1 = x at *
        generalize (l.getD k (0, 0)).2 = y at *
        obtain ⟨x2, hx2⟩ : ∃ t, t = (s (k + 1)).1 := ⟨_, rfl⟩
        obtain ⟨y2, hy2⟩ : ∃ t, t = (s (k + 1)).2 := ⟨_, rfl⟩
        rw [← hx2, ← hy2] at HK
        have HX := hid hx2
        have HY := hid hy2
        clear hx2 hy2
        go_wp2_with (first | (go_at_call 40; refine (HK.out _).mono ?_; rintro e w2 ⟨rfl, hb2⟩; have hb3 := bt (HBA.out _) hb2; have q1 := HH.out.2.1.below (by omega) hb3; have q2 := HH.out.2.2.below (by omega) hb3; have q3 := bt HH.out.1 hb3; have q4 := hb3.size; have e1 := q2.1; have e2 := q2.2.1; have e3 := q2.2.2.1; have e4 := q2.2.2.2; have HQ := hid (And.intro q1 (And.intro q2 q3)); clear hb2 hb3 q1 q2 q3))
        go_roundw
        case rel => exact ⟨k + 1, by omega, by go_num, by simp [World.setCell]; omega, hid ⟨(HQ.out.2.2.setCell (by show w.heap.size ≤ w.heap.size + 1; omega) _).setCell (by show w.heap.size ≤ w.heap.size + 1; omega) _, HQ.out.1.other (by omega) _ _, by rw [← HX.out, ← HY.out]; exact HQ.out.2.1.set _ _⟩⟩
        case measure => simp [intOf]; omega
    · obtain rfl : k = n := by omega
      have i1 : ¬ ((k : Int) < (k : Int)) := by omega
      obtain ⟨hnx, hT1, hT2⟩ := hH.out
      have c1 := hT1.1
      have c2 := hT1.2.1
      have c3 := hT1.2.2.1
      have c4 := hT1.2.2.2
      have e1 := hT2.1
      have e2 := hT2.2.1
      obtain ⟨x, hx⟩ : ∃ t, t = (s k).1 := ⟨_, rfl⟩
      obtain ⟨y, hy⟩ : ∃ t, t = (s k).2 := ⟨_, rfl⟩
      rw [← hx] at e1
      rw [← hy] at e2
      have HX := hid hx
      have HY := hid hy
      have HQ := hid (And.intro hnx (hT1.set x y))
      clear hH hT1 hT2 hx hy hnx
      go_wp2
      have r1 := HQ.out.2.1
      have r2 := HQ.out.2.2.1
      refine bodyPost_ret (v := .agg #[.int .i64 x, .int .i64 y]) (by simp [results, Try.results18, go_sem, r1, r2]) rfl ⟨by rw [HX.out, HY.out], (HQ.out.1.setCell (Nat.le_refl _) _).setCell (Nat.le_refl _) _⟩

end Go.Proofs.Ythokafaooihmbaa
