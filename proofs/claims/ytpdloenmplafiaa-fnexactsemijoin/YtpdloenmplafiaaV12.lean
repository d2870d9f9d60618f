import Derived.Test.YtpdloenmplafiaaV05
import Derived.Test.YtpdloenmplafiaaV06
/-
  impl.areEdges, impl.inEdges.
-/
namespace Go.Proofs.Ytpdloenmplafiaa
open Go.RowKit

def edgesB (es : List (List Int)) : Bool := decide (es.length ≤ 7) && es.all setB
def coverB (bag : List Int) (es : List (List Int)) : Bool := bag.all fun x => es.any fun e => decide (x ∈ e)

theorem all_getD {α : Type} (p : α → Bool) (d : α) (l : List α) (h : ∀ i, i < l.length → p (l.getD i d) = true) : l.all p = true := by
  rw [List.all_eq_true]
  intro x hx
  obtain ⟨j, hj, e⟩ := List.getElem_of_mem hx
  have := h j hj
  rw [List.getD_eq_getElem?_getD, List.getElem?_eq_getElem hj] at this
  rw [← e]; exact this

theorem all_getD_false {α : Type} (p : α → Bool) (d : α) (l : List α) (j : Nat) (hj : j < l.length) (h : p (l.getD j d) = false) : l.all p = false := by
  rw [List.all_eq_false]
  rw [List.getD_eq_getElem?_getD, List.getElem?_eq_getElem hj] at h
  exact ⟨_, List.getElem_mem hj, by simpa using h⟩

theorem plc_nil_iff (p : Nat → Bool) (k : Nat) : (plc p k).length = 0 ↔ ∀ i, i < k → p i = false := by
  unfold plc
  rw [List.length_map, List.length_eq_zero_iff, List.filter_eq_nil_iff]
  simp

theorem any_plc (x : Int) (es : List (List Int)) : (es.any fun e => decide (x ∈ e)) = !decide ((plc (fun i => decide (x ∈ es.getD i [])) es.length).length = 0) := by
  cases hb : (es.any fun e => decide (x ∈ e))
  · rw [eq_comm, Bool.not_eq_false', decide_eq_true_eq, plc_nil_iff]
    intro i hi
    rw [List.any_eq_false] at hb
    have := hb _ (List.getElem_mem hi)
    rw [List.getD_eq_getElem?_getD, List.getElem?_eq_getElem hi]
    simpa using this
  · rw [eq_comm, Bool.not_eq_true', decide_eq_false_iff_not, plc_nil_iff]
    intro hall
    rw [List.any_eq_true] at hb
    obtain ⟨e, he, h2⟩ := hb
    obtain ⟨j, hj, e1⟩ := List.getElem_of_mem he
    have := hall j hj
    rw [List.getD_eq_getElem?_getD, List.getElem?_eq_getElem hj] at this
    simp only [Option.getD_some, e1] at this
    rw [this] at h2
    exact Bool.noConfusion h2

set_option maxHeartbeats 2000000 in
set_option maxRecDepth 1000000 in
theorem areEdges_calls (w : World) (ve : Value) (es : List (List Int)) (h : ISS w ve es) (hl : Short es) :
    Calls Try.prog 50 #[ve] w fun e w' => e = .returned (.bool (edgesB es)) ∧ w' = w := by
  obtain ⟨a, cap, rfl, hc⟩ := h
  obtain ⟨hl1, hl2⟩ := hl
  obtain ⟨n, hn⟩ : ∃ n, n = es.length := ⟨_, rfl⟩
  obtain ⟨res, hres⟩ : ∃ r, r = edgesB es := ⟨_, rfl⟩
  rw [← hres]
  rw [← hn] at hc hl1 ⊢
  have HR := hid hres
  have HC := hid hc
  have HN := hid hn
  have HL := hid hl2
  clear hc hn hl2 hres
  by_cases h7 : 7 < n
  · have hf : Hid (res = false) := HR.out.trans (by unfold edgesB; rw [← HN.out, decide_eq_false (by omega)]; rfl)
    have i7 : (7 : Int) < (n : Int) := by omega
    go_enter Try.func50, Try.ntmps50
    go_wp2
    go_ret
    exact ⟨ret_bool (by rw [hf.out]), rfl⟩
  have i7 : ¬ (7 : Int) < (n : Int) := by omega
  go_enter Try.func50, Try.ntmps50
  go_wp2
  go_loop [10] (fun t => ∃ j : Nat, j ≤ n ∧ t = .int .i64 j ∧ Hid (∀ i, i < j → setB (es.getD i []) = true)) (fun t => n - (intOf t).toNat)
  case atStart => exact ⟨0, Nat.zero_le _, rfl, hid (fun i hi => by omega)⟩
  case round =>
    obtain ⟨j, hj, rfl, hok⟩ := hrel
    by_cases hjn : j < n
    · have i1 : (j : Int) < (n : Int) := by omega
      rcases HC.out with h0 | ⟨b, o, rfl, hcell⟩
      · omega
      · obtain ⟨u, c1, hu⟩ := hcell j hjn
        have HK := hid (isVariableSet_calls w u (es.getD j []) hu (HL.out j))
        obtain ⟨a1, cap1, rfl, -⟩ := hu
        have fin : setB (es.getD j []) = false → Hid (res = false) := fun e => HR.out.trans (by
          unfold edgesB
          rw [all_getD_false setB [] es j (by rw [← HN.out]; exact hjn) e, Bool.and_false])
        have nxt : setB (es.getD j []) = true → Hid (∀ i, i < j + 1 → setB (es.getD i []) = true) := fun e i hi => by
          by_cases e2 : i = j
          · rw [e2]; exact e
          · exact hok.out i (by omega)
        clear hcell hok
        generalize (es.getD j []).length = m at *
        generalize setB (es.getD j []) = y at *
        cases y
        · have hf := fin rfl
          clear fin nxt
          go_wp2_with (first | (go_at_call 49; refine HK.out.mono ?_; rintro e w' ⟨rfl, hw'⟩; subst w'))
          go_ret
          exact ⟨ret_bool (by rw [hf.out]), rfl⟩
        · have hf := nxt rfl
          clear fin nxt
          go_wp2_with (first | (go_at_call 49; refine HK.out.mono ?_; rintro e w' ⟨rfl, hw'⟩; subst w'))
          go_round
          case rel => exact ⟨j + 1, by omega, by go_num, hf⟩
          case measure => simp [intOf]; omega
    · obtain rfl : j = n := by omega
      have hf : Hid (res = true) := HR.out.trans (by
        unfold edgesB
        rw [← HN.out, decide_eq_true (by omega), Bool.true_and]
        exact all_getD setB [] es (fun i hi => hok.out i (by rw [HN.out]; exact hi)))
      have i1 : ¬ ((j : Int) < (j : Int)) := by omega
      clear hok
      go_wp2
      go_ret
      exact ⟨ret_bool (by rw [hf.out]), rfl⟩

set_option maxHeartbeats 2000000 in
set_option maxRecDepth 1000000 in
theorem inEdges_calls (w : World) (vb ve : Value) (bag : List Int) (es : List (List Int)) (hb : IS w vb bag) (h : ISS w ve es) (hlb : bag.length ≤ 1099511627776) (hl : Short es) :
    Calls Try.prog 51 #[vb, ve] w fun e w' => e = .returned (.bool (coverB bag es)) ∧ Below w.heap.size w w' := by
  obtain ⟨a, cap, rfl, hc⟩ := hb
  obtain ⟨n, hn⟩ : ∃ n, n = bag.length := ⟨_, rfl⟩
  obtain ⟨res, hres⟩ : ∃ r, r = coverB bag es := ⟨_, rfl⟩
  rw [← hres]
  rw [← hn] at hc hlb ⊢
  have HR := hid hres
  have HC := hid hc
  have HN := hid hn
  have HE := hid h
  have HL := hid hl
  clear hc hn h hl hres
  go_enter Try.func51, Try.ntmps51
  go_wp2
  go_loopw [9] (fun t wr => ∃ j : Nat, j ≤ n ∧ t = .int .i64 j ∧ Below w.heap.size w wr ∧ Hid (∀ i, i < j → (es.any fun e => decide (bag.getD i 0 ∈ e)) = true)) (fun t _ => n - (intOf t).toNat)
  case atStart => exact ⟨0, Nat.zero_le _, rfl, Below.refl _ _, hid (fun i hi => by omega)⟩
  case round =>
    obtain ⟨j, hj, rfl, hnx, hok⟩ := hrel
    by_cases hjn : j < n
    · have i1 : (j : Int) < (n : Int) := by omega
      rcases HC.out with h0 | ⟨b, o, rfl, hcell⟩
      · omega
      · have c0 := hcell j hjn
        have c1 : wr.cell? ⟨b, o + j, none⟩ = some (.int .i64 (bag.getD j 0)) := (hnx.cell (p := ⟨b, o + j, none⟩) (World.block_lt_of_cell? w _ c0)).trans c0
        have HK := hid (edgesWith_calls wr ve (bag.getD j 0) es (HE.out.below hnx) HL.out)
        have hany := any_plc (bag.getD j 0) es
        have fin : (es.any fun e => decide (bag.getD j 0 ∈ e)) = false → Hid (res = false) := fun e => HR.out.trans (by
          unfold coverB
          exact all_getD_false (fun x => es.any fun e => decide (x ∈ e)) 0 bag j (by rw [← HN.out]; exact hjn) e)
        have nxt : (es.any fun e => decide (bag.getD j 0 ∈ e)) = true → Hid (∀ i, i < j + 1 → (es.any fun e => decide (bag.getD i 0 ∈ e)) = true) := fun e i hi => by
          by_cases e2 : i = j
          · rw [e2]; exact e
          · exact hok.out i (by omega)
        have hlen := plc_le (fun i => decide (bag.getD j 0 ∈ es.getD i [])) es.length
        have hll := HL.out.1
        clear hcell hok c0
        generalize bag.getD j 0 = x at *
        generalize plc (fun i => decide (x ∈ es.getD i [])) es.length = pl at *
        generalize (es.any fun e => decide (x ∈ e)) = y at *
        obtain ⟨m, hm⟩ : ∃ m, m = pl.length := ⟨_, rfl⟩
        rw [← hm] at hany hlen HK
        have hm7 : m ≤ 1099511627776 := by omega
        clear hlen hll hm
        cases y
        · have hf := fin rfl
          have hm0 : m = 0 := by simpa using hany
          clear fin nxt hany
          subst hm0
          go_wp2_with (first | (go_at_call 100; refine HK.out.mono ?_; rintro e w' ⟨v, rfl, ⟨hv1, (⟨rfl, hv2⟩ | ⟨g, cap', cur, rfl, hv2⟩)⟩, hbw⟩))
          all_goals go_ret
          all_goals exact ⟨ret_bool (by rw [hf.out]), bt hnx hbw⟩
        · have hf := nxt rfl
          have hm0 : m ≠ 0 := by simpa using hany
          have hm1 : ¬ ((m : Int) = 0) := by omega
          clear fin nxt hany
          go_wp2_with (first | (go_at_call 100; refine HK.out.mono ?_; rintro e w' ⟨v, rfl, ⟨hv1, (⟨rfl, hv2⟩ | ⟨g, cap', cur, rfl, hv2⟩)⟩, hbw⟩))
          · exact absurd hv2 hm0
          go_roundw
          case rel => exact ⟨j + 1, by omega, by go_num, bt hnx hbw, hf⟩
          case measure => simp [intOf]; omega
    · obtain rfl : j = n := by omega
      have hf : Hid (res = true) := HR.out.trans (by
        unfold coverB
        exact all_getD (fun x => es.any fun e => decide (x ∈ e)) 0 bag (fun i hi => hok.out i (by rw [HN.out]; exact hi)))
      have i1 : ¬ ((j : Int) < (j : Int)) := by omega
      clear hok
      go_wp2
      go_ret
      exact ⟨ret_bool (by rw [hf.out]), hnx⟩

end Go.Proofs.Ytpdloenmplafiaa

/-
  spec.l1Zeros: n zeros.
-/
namespace Go.Proofs.Ytpdloenmplafiaa
open Go.RowKit

theorem Try.infoRatS : (Try.prog.info? 26).map (fun i => (i.zero, i.size, i.bytes)) = some (some (.agg #[.int .i64 0, .int .i64 0]), 2, 16) := by kernel_rfl

def zs (k : Nat) : List Value := (List.replicate k [Value.int .i64 0, Value.int .i64 1]).flatten
theorem zs_succ (k : Nat) : zs (k + 1) = zs k ++ [.int .i64 0, .int .i64 1] := by
  simp [zs, List.replicate_succ', List.flatten_append]

theorem own_grow2 {B n s : Nat} {e : TypeId} {w wr w1 : World} {u : Value} {o : Obj} {xs : List Value} (hB : B ≤ wr.heap.size)
    (hown : wr.ownsRow B e s u n xs) (hnx : Below B w wr) (hgrow : (wr.alloc o).grownBy w1 u.ownBlock) : Below B w w1 :=
  (hnx.alloc hB o).grown hgrow (by simp; omega) (fun j hj => (hown.lt j hj).1)

set_option maxHeartbeats 2000000 in
set_option maxRecDepth 1000000 in
theorem l1Zeros_calls (w : World) (n : Nat) (hn : n ≤ 1000) :
    Calls Try.prog 46 #[.int .i64 n] w fun e w' => ∃ v, e = .returned v ∧ w'.ownsRow w.heap.size 26 2 v n (zs n) ∧ Below w.heap.size w w' := by
  obtain ⟨i0, hi, hz0, hz1, hz2⟩ := info_parts Try.infoRatS
  go_enter Try.func46, Try.ntmps46
  go_wp2
  go_loopw [3, 4] (fun v t wr => ∃ k : Nat, k ≤ n ∧ t = .int .i64 k ∧ wr.ownsRow w.heap.size 26 2 v k (zs k) ∧ Below w.heap.size w wr) (fun _ t _ => n - (intOf t).toNat)
  case atStart => exact ⟨0, Nat.zero_le _, rfl, World.ownsRow_made w #[] 0 (Nat.le_refl _) (by decide) rfl, (Below.refl _ _).alloc (Nat.le_refl _) _⟩
  case round =>
    obtain ⟨k, hk, rfl, hown, hnx⟩ := hrel
    have hns := hnx.size
    by_cases hkn : k < n
    · have i1 : (k : Int) < (n : Int) := by omega
      go_wp2_with (first
        | (at_builtin; refine wpList_append_own _ rfl _ _ 27 rfl w.heap.size 26 i0 (.agg #[.int .i64 0, .int .i64 0]) 2 16 Try.underlying27 hi hz0 hz1 hz2 rfl (by decide) _ _ _ rfl (hown.alloc _) ⟨wr.heap.size, 0, none⟩ 1 1 [.int .i64 0, .int .i64 1] rfl rfl ?c1 ?c2 ?c3 ?c4 ?c5 ?_))
      case c1 =>
        intro j u hj
        match j, hj with
        | 0, hj => simp at hj; subst hj; simp [Addr.add]
        | 1, hj => simp at hj; subst hj; simp [Addr.add]
      case c2 => intro u hu; simp at hu; rcases hu with rfl | rfl <;> rfl
      case c3 => unfold maxLen; omega
      case c4 => omega
      case c5 => simp; omega
      intro v' w1 hown' hgrow _
      have hb := own_grow2 hns hown hnx hgrow
      have hown2 : w1.ownsRow w.heap.size 26 2 v' (k + 1) (zs (k + 1)) := by
        rw [zs_succ]; exact hown'
      clear hown' hgrow hown
      go_wp2
      go_roundw
      case rel => exact ⟨k + 1, by omega, by go_num, hown2, hb⟩
      case measure => simp [intOf]; omega
    · obtain rfl : k = n := by omega
      have i1 : ¬ ((k : Int) < (k : Int)) := by omega
      go_wp2
      go_ret
      exact ⟨_, rfl, hown, hnx⟩

end Go.Proofs.Ytpdloenmplafiaa

/-
  impl.ratsOf: fractions as Rats.
-/
namespace Go.Proofs.Ytpdloenmplafiaa
open Go.RowKit

/-- pairs of numbers in memory -/
def IR (w : World) (v : Value) (l : List (Int × Int)) : Prop := ∃ a cap, v = .slice a l.length cap ∧ (l.length = 0 ∨ ∃ b o, a = some ⟨b, o, none⟩ ∧ ∀ j, j < l.length →
  w.cell? ⟨b, o + j * 2, none⟩ = some (.int .i64 (l.getD j (0, 0)).1) ∧ w.cell? ⟨b, o + j * 2 + 1, none⟩ = some (.int .i64 (l.getD j (0, 0)).2))

def rcs (l : List (Int × Int)) : List Value := l.flatMap fun p => [.int .i64 p.1, .int .i64 p.2]
theorem rcs_succ (l : List (Int × Int)) (k : Nat) (h : k < l.length) : rcs (l.take (k + 1)) = rcs (l.take k) ++ [.int .i64 (l.getD k (0, 0)).1, .int .i64 (l.getD k (0, 0)).2] := by
  unfold rcs
  rw [List.take_add_one, List.getElem?_eq_getElem h, List.getD_eq_getElem?_getD, List.getElem?_eq_getElem h]
  simp only [Option.toList_some, List.flatMap_append, List.flatMap_cons, List.flatMap_nil, List.append_nil, Option.getD_some]

theorem own_below {B n s : Nat} {e : TypeId} {w w' : World} {v : Value} {xs : List Value} (h : w.ownsRow B e s v n xs) (hb : Below w.heap.size w w') : w'.ownsRow B e s v n xs := by
  obtain ⟨h1, h2⟩ := h
  refine ⟨h1, ?_⟩
  rcases h2 with h2 | ⟨g, cap, cur, hv, hg, hc, hr⟩
  · exact Or.inl h2
  · refine Or.inr ⟨g, cap, cur, hv, hg, ?_, hr⟩
    rw [hb.block g (by
      rcases Nat.lt_or_ge g w.heap.size with h3 | h3
      · exact h3
      · rw [Array.getElem?_eq_none h3] at hc; cases hc)]
    exact hc

set_option maxHeartbeats 2000000 in
set_option maxRecDepth 1000000 in
theorem ratsOf_calls (w : World) (v : Value) (l : List (Int × Int)) (h : IR w v l) (hl : l.length ≤ 1000)
    (hp : ∀ j, j < l.length → (-1000000 ≤ (l.getD j (0, 0)).1 ∧ (l.getD j (0, 0)).1 ≤ 1000000) ∧ (-1000000 ≤ (l.getD j (0, 0)).2 ∧ (l.getD j (0, 0)).2 ≤ 1000000)) :
    Calls Try.prog 52 #[v] w fun e w' => ∃ v, e = .returned v ∧ w'.ownsRow w.heap.size 26 2 v l.length (rcs l) ∧ Below w.heap.size w w' := by
  obtain ⟨i0, hi, hz0, hz1, hz2⟩ := info_parts Try.infoRatS
  obtain ⟨a, cap, rfl, hc⟩ := h
  obtain ⟨n, hn⟩ : ∃ n, n = l.length := ⟨_, rfl⟩
  obtain ⟨out, hout⟩ : ∃ o, o = rcs l := ⟨_, rfl⟩
  rw [← hout]
  rw [← hn] at hc hl hp ⊢
  have HC := hid hc
  have HP := hid hp
  have HN := hid hn
  have HO := hid hout
  clear hc hp hn hout
  go_enter Try.func52, Try.ntmps52
  go_wp2_with (at_make; refine wpList_make_own _ rfl _ _ 27 rfl w.heap.size 26 i0 (.agg #[.int .i64 0, .int .i64 0]) 2 Try.underlying27 hi hz0 hz1 _ _ _ n rfl rfl rfl ?b2 ?b3 (Nat.le_refl _) ?_)
  case b2 => rw [hz2]; omega
  case b3 => unfold maxLen; omega
  intro w0 hown0 hgrow0
  have hb0 : Below w.heap.size w w0 := (Below.refl _ _).grown hgrow0 (Nat.le_refl _) (fun j hj => by cases hj)
  clear hgrow0
  go_wp2
  go_loopw [3, 11] (fun v t wr => ∃ k : Nat, k ≤ n ∧ t = .int .i64 k ∧ wr.ownsRow w.heap.size 26 2 v k (rcs (l.take k)) ∧ Below w.heap.size w wr) (fun _ t _ => n - (intOf t).toNat)
  case atStart => exact ⟨0, Nat.zero_le _, rfl, hown0, hb0⟩
  case round =>
    obtain ⟨k, hk, rfl, hown, hnx⟩ := hrel
    have hns := hnx.size
    by_cases hkn : k < n
    · have i1 : (k : Int) < (n : Int) := by omega
      rcases HC.out with h0 | ⟨b, o, rfl, hcell⟩
      · omega
      · obtain ⟨d1, d2⟩ := hcell k hkn
        have c1 := (hnx.cell (p := ⟨b, o + k * 2, none⟩) (World.block_lt_of_cell? w _ d1)).trans d1
        have c2 := (hnx.cell (p := ⟨b, o + k * 2 + 1, none⟩) (World.block_lt_of_cell? w _ d2)).trans d2
        obtain ⟨⟨p1, p2⟩, p3, p4⟩ := HP.out k hkn
        have HS := hid (rcs_succ l k (by rw [← HN.out]; exact hkn))
        clear hcell d1 d2 hown0 hb0
        generalize (l.getD k (0, 0)).1 = x at *
        generalize (l.getD k (0, 0)).2 = y at *
        go_wp2_with fail
        have hbA : Below w.heap.size w (wr.alloc (.cells #[.int .i64 x, .int .i64 y] 88)) := hnx.alloc hns _
        have hownA := hown.alloc (.cells #[.int .i64 x, .int .i64 y] 88)
        clear hown c1 c2 hnx
        generalize wr.alloc (.cells #[.int .i64 x, .int .i64 y] 88) = wa at *
        refine (ratOf_yes x y wa p1 p2 p3 p4).mono ?_
        rintro e w2 ⟨rfl, hb2⟩
        have hownB := own_below hownA hb2
        have hbB : Below w.heap.size w w2 := bt hbA hb2
        have hsB := hbB.size
        clear hownA hb2 hbA
        go_wp2_with (first
          | (at_builtin; refine wpList_append_own _ rfl _ _ 27 rfl w.heap.size 26 i0 (.agg #[.int .i64 0, .int .i64 0]) 2 16 Try.underlying27 hi hz0 hz1 hz2 rfl (by decide) _ _ _ rfl (hownB.alloc _) ⟨w2.heap.size, 0, none⟩ 1 1 [.int .i64 x, .int .i64 y] rfl rfl ?c1 ?c2 ?c3 ?c4 ?c5 ?_))
        case c1 =>
          intro j u hj
          match j, hj with
          | 0, hj => simp at hj; subst hj; simp [Addr.add]
          | 1, hj => simp at hj; subst hj; simp [Addr.add]
        case c2 => intro u hu; simp at hu; rcases hu with rfl | rfl <;> rfl
        case c3 => unfold maxLen; omega
        case c4 => omega
        case c5 => simp; omega
        intro v' w1 hown' hgrow _
        have hb := own_grow2 hsB hownB hbB hgrow
        have hown2 : w1.ownsRow w.heap.size 26 2 v' (k + 1) (rcs (l.take (k + 1))) := by
          rw [HS.out]; exact hown'
        clear hown' hgrow hownB
        go_wp2
        go_roundw
        case rel => exact ⟨k + 1, by omega, by go_num, hown2, hb⟩
        case measure => simp [intOf]; omega
    · obtain rfl : k = n := by omega
      have i1 : ¬ ((k : Int) < (k : Int)) := by omega
      rw [HN.out, List.take_length, ← HN.out, ← HO.out] at hown
      go_wp2
      go_ret
      exact ⟨_, rfl, hown, hnx⟩

end Go.Proofs.Ytpdloenmplafiaa

/-
  laws.markIntSS on a copy of the law's own: only the blocks of its lists are others.
-/
namespace Go.Proofs.Ytpdloenmplafiaa
open Go.RowKit

/-- only the blocks f 0 .. f (n - 1) are others -/
structure Ost (f : Nat → Nat) (n : Nat) (w w' : World) : Prop where
  os : w'.os = w.os
  tape : w'.tape = w.tape
  output : w'.output = w.output
  size : w'.heap.size = w.heap.size
  block : ∀ b, (∀ i, i < n → b ≠ f i) → w'.heap[b]? = w.heap[b]?

theorem Ost.refl (f : Nat → Nat) (w : World) : Ost f 0 w w := ⟨rfl, rfl, rfl, rfl, fun _ _ => rfl⟩
theorem Ost.step {f : Nat → Nat} {n : Nat} {w w1 w2 : World} (h : Ost f n w w1) (h' : Og (f n) w1 w2) : Ost f (n + 1) w w2 :=
  ⟨h'.os.trans h.os, h'.tape.trans h.tape, h'.output.trans h.output, h'.size.trans h.size, fun b hb => (h'.block b (hb n (by omega))).trans (h.block b (fun i hi => hb i (by omega)))⟩
theorem Ost.below {f : Nat → Nat} {n N : Nat} {w w' : World} (h : Ost f n w w') (hN : ∀ i, i < n → N ≤ f i) : Below N w w' :=
  ⟨h.os, h.tape, h.output, Nat.le_of_eq h.size.symm, fun b hb => h.block b (fun i hi => by have := hN i hi; omega)⟩

set_option maxHeartbeats 2000000 in
set_option maxRecDepth 1000000 in
theorem markIntSS_calls (w : World) (G : Nat) (ls : List (List Int)) (f : Nat → Nat) (k : Int) (h : Half w G ls.length ls.length ls f) (hl : tot ls ls.length ≤ 1048576) (hk : 0 ≤ k) (hk' : k ≤ 8388608) :
    Calls Try.prog 17 #[.slice (some ⟨G, 0, none⟩) ls.length ls.length, .int .i64 k] w fun e w' => e = .returned (.int .i64 (k + (tot ls ls.length - ls.length))) ∧ Ost f ls.length w w' := by
  obtain ⟨n, hn⟩ : ∃ n, n = ls.length := ⟨_, rfl⟩
  rw [← hn] at h hl ⊢
  have HH := hid h
  have HN := hid hn
  have HT : Hid (∀ k, k ≤ n → tot ls k ≤ tot ls n) := fun k hk => by
    have := tot_le ls (ls.length - k) k (by rw [← HN.out]; omega)
    rw [← HN.out] at this; exact this
  have HS : Hid (∀ k, k < n → tot ls (k + 1) = tot ls k + (ls.getD k []).length) := fun k hk => tot_succ ls k (by rw [← HN.out]; exact hk)
  have H0 : Hid (tot ls 0 = n) := (tot_zero ls).trans HN.out.symm
  have hn7 : n ≤ 1048576 := by have := HT.out 0 (by omega); rw [H0.out] at this; omega
  clear h hn
  go_enter Try.func17, Try.ntmps17
  go_wp2
  go_loopw [1, 5] (fun u t wr => ∃ j : Nat, j ≤ n ∧ t = .int .i64 j ∧ ∃ c : Int, u = .int .i64 c ∧ 0 ≤ c ∧ c ≤ 9437184 ∧ Hid (c = k + (tot ls j - n) ∧ Ost f j w wr)) (fun _ t _ => n - (intOf t).toNat)
  case atStart => exact ⟨0, Nat.zero_le _, rfl, _, rfl, by omega, by omega, hid ⟨by rw [H0.out]; omega, Ost.refl _ _⟩⟩
  case round =>
    obtain ⟨j, hj, rfl, c, rfl, hc0, hc1, hok⟩ := hrel
    by_cases hjn : j < n
    · have i1 : (j : Int) < (n : Int) := by omega
      have hO := hok.out.2
      have hgt : ∀ i, i < n → G < f i := HH.out.gt
      have d1 := HH.out.cell j hjn
      rw [if_pos hjn] at d1
      have c1 : wr.cell? ⟨G, j, none⟩ = some (.slice (some ⟨f j, 0, none⟩) (ls.getD j []).length (ls.getD j []).length) :=
        (World.cell?_of_block (w := w) (a := ⟨G, j, none⟩) (hO.block G (fun i hi => by have := hgt i (by omega); omega))).trans d1
      have ho : OwnI wr (f j) (ls.getD j []) := (HH.out.own j hjn).move (hO.block (f j) (fun i hi => by have := HH.out.up i j hi hjn; omega)) (Nat.le_of_eq hO.size.symm)
      have hs := HS.out j hjn
      have ht := HT.out (j + 1) (by omega)
      have HK := hid (markIntS_calls wr (f j) (ls.getD j []) c ho (by omega) hc0 (by omega))
      have hoc := hok.out.1
      have hR : Hid (c + (ls.getD j []).length = k + (tot ls (j + 1) - n)) := hid (by omega)
      have hR2 : c + ((ls.getD j []).length : Int) ≤ 9437184 := by have t0 := HT.out 0 (by omega); rw [H0.out] at t0; omega
      have HST : Hid (∀ w2, Og (f j) wr w2 → Ost f (j + 1) w w2) := fun w2 h2 => hO.step h2
      clear ho hs ht hoc hgt d1 hO hok
      generalize (ls.getD j []).length = m at *
      go_wp2_with (first | (go_at_call 16; refine HK.out.mono ?_; rintro e w2 ⟨rfl, -, hog⟩; have HG := hid hog; clear hog))
      go_roundw
      case rel => exact ⟨j + 1, by omega, by go_num, _, rfl, by omega, hR2, hid ⟨hR.out, HST.out _ HG.out⟩⟩
      case measure => simp [intOf]; omega
    · obtain rfl : j = n := by omega
      have i1 : ¬ ((j : Int) < (j : Int)) := by omega
      go_wp2
      go_ret
      exact ⟨ret_int hok.out.1, hok.out.2⟩

end Go.Proofs.Ytpdloenmplafiaa
