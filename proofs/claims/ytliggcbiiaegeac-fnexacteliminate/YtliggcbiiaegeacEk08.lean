import Derived.Test.YtliggcbiiaegeacEk06
/-
  impl.isBelow, impl.isPattern, impl.areBags, impl.areParents.
-/
namespace Go.Proofs.Ytliggcbiiaegeac
open Go.RowKit

def lowB (k : Int) (l : List Int) : Bool := decide (l.length = 0) || decide (l.getD (l.length - 1) 0 < k)
def inEs (es : List (List Int)) (x : Int) : Bool := es.any fun e => decide (x ∈ e)
def patB (k : Int) (es : List (List Int)) : Bool := decide (0 ≤ k) && decide (k ≤ 6) && edgesB es && es.all (lowB k) && (List.range k.toNat).all fun v => inEs es (v : Int)
def bagB (k : Int) (b : List Int) : Bool := !decide (b.length = 0) && setB b && lowB k b
def bagsB (k : Int) (bags : List (List Int)) : Bool := decide (bags.length ≤ 12) && bags.all (bagB k)
def parB (n : Int) (ps : List Int) (i : Nat) : Bool := decide (ps.getD i 0 = -1) || (decide ((i : Int) < ps.getD i 0) && decide (ps.getD i 0 < n))
def parsB (ps : List Int) (n : Int) : Bool := decide ((ps.length : Int) = n) && (List.range ps.length).all (parB n ps)

theorem bclp {w w' : World} {a : Addr} {v : Value} (hb : Below w.heap.size w w') (h : w.cell? a = some v) : w'.cell? a = some v :=
  (hb.cell (World.block_lt_of_cell? w _ h)).trans h
theorem range_all_false {p : Nat → Bool} {n j : Nat} (hj : j < n) (h : p j = false) : (List.range n).all p = false := by
  rw [List.all_eq_false]
  exact ⟨j, by simpa using hj, by rw [h]; decide⟩
theorem range_all_true {p : Nat → Bool} {n : Nat} (h : ∀ i, i < n → p i = true) : (List.range n).all p = true := by
  rw [List.all_eq_true]
  intro i hi
  exact h i (by simpa using hi)

set_option maxHeartbeats 2000000 in
theorem isBelow_calls (w : World) (v : Value) (l : List Int) (k : Int) (h : IS w v l) (hl : l.length ≤ 1099511627776) :
    Calls Try.prog 104 #[v, .int .i64 k] w fun e w' => e = .returned (.bool (lowB k l)) ∧ w' = w := by
  obtain ⟨a, cap, rfl, hc⟩ := h
  obtain ⟨res, hres⟩ : ∃ r, r = lowB k l := ⟨_, rfl⟩
  rw [← hres]
  rcases Nat.eq_zero_or_pos l.length with h0 | hp
  · have hr : res = true := by rw [hres]; simp [lowB, h0]
    subst hr
    rw [h0]
    clear hc hres
    go_enter Try.func104, Try.ntmps104
    go_wp2
    go_ret
    exact ⟨rfl, rfl⟩
  · rcases hc with h0 | ⟨b, o, rfl, hcell⟩
    · omega
    have c1 := hcell (l.length - 1) (by omega)
    have hr : Hid (res = decide (l.getD (l.length - 1) 0 < k)) := by
      show res = _
      rw [hres]; unfold lowB
      rw [decide_eq_false (by omega), Bool.false_or]
    have i4 : ((l.length : Int) - 1).toNat = l.length - 1 := by omega
    have d1 : ¬ ((l.length : Int) = 0) := by omega
    clear hcell hres
    generalize l.getD (l.length - 1) 0 = y at *
    generalize l.length = n at *
    go_enter Try.func104, Try.ntmps104
    go_wp2
    go_ret
    exact ⟨ret_bool (by rw [hr.out, show ((n : Int) == 0) = false by simp; omega, Bool.false_or]), rfl⟩

set_option maxHeartbeats 4000000 in
set_option maxRecDepth 1000000 in
theorem isPattern_calls (w : World) (ve : Value) (k : Int) (es : List (List Int)) (h : ISS w ve es) (hl : Short es) :
    Calls Try.prog 65 #[.int .i64 k, ve] w fun e w' => e = .returned (.bool (patB k es)) ∧ Below w.heap.size w w' := by
  have KE := hid (areEdges_calls w ve es h hl)
  have HE := hid h
  obtain ⟨a, cap, rfl, hc⟩ := h
  obtain ⟨hl1, hl2⟩ := hl
  have HS : Hid (Short es) := hid ⟨hl1, hl2⟩
  obtain ⟨res, hres⟩ : ∃ r, r = patB k es := ⟨_, rfl⟩
  rw [← hres]
  have HR := hid hres
  have HC := hid hc
  have HL := hid hl2
  clear hc hl2 hres
  by_cases hk0 : k < 0
  · have hf : res = false := by rw [HR.out]; unfold patB; rw [decide_eq_false (by omega)]; simp
    subst hf
    go_enter Try.func65, Try.ntmps65
    go_wp2_with fail
    go_ret
    exact ⟨rfl, Below.refl _ _⟩
  by_cases hk6 : 6 < k
  · have hf : res = false := by rw [HR.out]; unfold patB; rw [decide_eq_false (by omega : ¬ k ≤ 6)]; simp
    subst hf
    have d1 : ¬ (k < 0) := hk0
    go_enter Try.func65, Try.ntmps65
    go_wp2_with fail
    go_ret
    exact ⟨rfl, Below.refl _ _⟩
  have d1 : ¬ (k < 0) := hk0
  have d2 : ¬ (6 < k) := hk6
  cases hB : edgesB es
  · have hf : res = false := by rw [HR.out]; unfold patB; rw [hB]; simp
    subst hf
    rw [hB] at KE
    go_enter Try.func65, Try.ntmps65
    go_wp2_with fail
    refine KE.out.mono ?_
    rintro e w1 ⟨rfl, hw1⟩
    subst w1
    go_wp2_with fail
    go_ret
    exact ⟨rfl, Below.refl _ _⟩
  rw [hB] at KE
  have HF1 : Hid (∀ j, j < es.length → lowB k (es.getD j []) = false → res = false) := hid fun j hj e => by
    rw [HR.out]; unfold patB
    rw [all_getD_false (lowB k) [] es j hj e]; simp
  have HF2 : Hid (∀ v, v < k.toNat → inEs es (v : Int) = false → res = false) := hid fun v hv e => by
    rw [HR.out]; unfold patB
    rw [range_all_false hv e]; simp
  have HT : Hid ((∀ j, j < es.length → lowB k (es.getD j []) = true) → (∀ v, v < k.toNat → inEs es (v : Int) = true) → res = true) := hid fun h1 h2 => by
    rw [HR.out]; unfold patB
    rw [hB, decide_eq_true (by omega : 0 ≤ k), decide_eq_true (by omega : k ≤ 6), all_getD (lowB k) [] es h1, range_all_true h2]; rfl
  clear HR hB
  obtain ⟨n, hn⟩ : ∃ n, n = es.length := ⟨_, rfl⟩
  rw [← hn] at HF1 HT hl1 HC KE HE ⊢
  have HN := hid hn
  clear hn
  go_enter Try.func65, Try.ntmps65
  go_wp2_with fail
  refine KE.out.mono ?_
  rintro e w1 ⟨rfl, hw1⟩
  subst w1
  go_wp2_with fail
  go_loop [21] (fun t => ∃ j : Nat, j ≤ n ∧ t = .int .i64 j ∧ Hid (∀ i, i < j → lowB k (es.getD i []) = true)) (fun t => n - (intOf t).toNat)
  case atStart => exact ⟨0, Nat.zero_le _, rfl, hid (fun i hi => by omega)⟩
  case round =>
    obtain ⟨j, hj, rfl, hok⟩ := hrel
    by_cases hjn : j < n
    · have i1 : (j : Int) < (n : Int) := by omega
      rcases HC.out with h0 | ⟨b, o, rfl, hcell⟩
      · omega
      · obtain ⟨u, c1, hu⟩ := hcell j hjn
        have HK := hid (isBelow_calls w u (es.getD j []) k hu (HL.out j))
        obtain ⟨a1, cap1, rfl, -⟩ := hu
        have fin := HF1.out j hjn
        have nxt : lowB k (es.getD j []) = true → Hid (∀ i, i < j + 1 → lowB k (es.getD i []) = true) := fun e i hi => by
          by_cases e2 : i = j
          · rw [e2]; exact e
          · exact hok.out i (by omega)
        clear hcell hok
        generalize (es.getD j []).length = m at *
        generalize lowB k (es.getD j []) = y at *
        cases y
        · obtain rfl := fin rfl
          clear nxt
          go_wp2_with fail
          refine HK.out.mono ?_
          rintro e w1 ⟨rfl, hw1⟩
          subst w1
          go_wp2_with fail
          go_ret
          exact ⟨rfl, Below.refl _ _⟩
        · have hf := nxt rfl
          clear fin nxt
          go_wp2_with fail
          refine HK.out.mono ?_
          rintro e w1 ⟨rfl, hw1⟩
          subst w1
          go_wp2_with fail
          go_round
          case rel => exact ⟨j + 1, by omega, by go_num, hf⟩
          case measure => simp [intOf]; omega
    · obtain rfl : j = n := by omega
      have HT2 : Hid ((∀ v, v < k.toNat → inEs es (v : Int) = true) → res = true) := hid (HT.out hok.out)
      have i1 : ¬ ((j : Int) < (j : Int)) := by omega
      clear hok HT HF1
      obtain ⟨q, hq⟩ : ∃ q : Nat, q = k.toNat := ⟨_, rfl⟩
      obtain rfl : k = (q : Int) := by omega
      rw [← hq] at HT2 HF2
      clear hq hk0 hk6
      have hq6 : q ≤ 6 := by omega
      go_wp2_with fail
      go_loopw [31] (fun t wr => ∃ v : Nat, v ≤ q ∧ t = .int .i64 v ∧ Below w.heap.size w wr ∧ Hid (∀ i : Nat, i < v → inEs es (i : Int) = true)) (fun t _ => q - (intOf t).toNat)
      case atStart => exact ⟨0, Nat.zero_le _, rfl, Below.refl _ _, hid (fun i hi => by omega)⟩
      case round =>
        obtain ⟨v, hv, rfl, hnx, hok⟩ := hrel
        by_cases hvq : v < q
        · have i2 : (v : Int) < (q : Int) := by omega
          have HK := hid (edgesWith_calls wr _ (v : Int) es (HE.out.below hnx) HS.out)
          have hany : inEs es (v : Int) = _ := any_plc (v : Int) es
          have fin := HF2.out v hvq
          have nxt : inEs es (v : Int) = true → Hid (∀ i : Nat, i < v + 1 → inEs es (i : Int) = true) := fun e i hi => by
            by_cases e2 : i = v
            · rw [e2]; exact e
            · exact hok.out i (by omega)
          have hlen := plc_le (fun i => decide ((v : Int) ∈ es.getD i [])) es.length
          have hll := HS.out.1
          clear hok
          generalize plc (fun i => decide ((v : Int) ∈ es.getD i [])) es.length = pl at *
          generalize inEs es (v : Int) = y at *
          obtain ⟨m, hm⟩ : ∃ m, m = pl.length := ⟨_, rfl⟩
          rw [← hm] at hany hlen HK
          have hm7 : m ≤ 1099511627776 := by omega
          clear hlen hll hm
          cases y
          · obtain rfl := fin rfl
            have hm0 : m = 0 := by simpa using hany
            clear nxt hany
            subst hm0
            go_wp2_with fail
            refine HK.out.mono ?_
            rintro e w' ⟨v, rfl, ⟨hv1, (⟨rfl, hv2⟩ | ⟨g, cap', cur, rfl, hv2⟩)⟩, hbw⟩
            all_goals go_wp2_with fail
            all_goals go_ret
            all_goals exact ⟨rfl, bt hnx hbw⟩
          · have hf := nxt rfl
            have hm0 : m ≠ 0 := by simpa using hany
            have hm1 : ¬ ((m : Int) = 0) := by omega
            clear fin nxt hany
            go_wp2_with fail
            refine HK.out.mono ?_
            rintro e w' ⟨u, rfl, ⟨hv1, (⟨rfl, hv2⟩ | ⟨g, cap', cur, rfl, hv2⟩)⟩, hbw⟩
            · exact absurd hv2 hm0
            go_wp2_with fail
            go_roundw
            case rel => exact ⟨v + 1, by omega, by go_num, bt hnx hbw, hf⟩
            case measure => simp [intOf]; omega
        · obtain rfl : v = q := by omega
          obtain rfl := HT2.out hok.out
          have i2 : ¬ ((v : Int) < (v : Int)) := by omega
          clear hok
          go_wp2_with fail
          go_ret
          exact ⟨rfl, hnx⟩

set_option maxHeartbeats 4000000 in
set_option maxRecDepth 1000000 in
theorem areBags_calls (w : World) (ve : Value) (k : Int) (bs : List (List Int)) (h : ISS w ve bs) (hl : Short bs) :
    Calls Try.prog 66 #[.int .i64 k, ve] w fun e w' => e = .returned (.bool (bagsB k bs)) ∧ w' = w := by
  obtain ⟨a, cap, rfl, hc⟩ := h
  obtain ⟨hl1, hl2⟩ := hl
  obtain ⟨res, hres⟩ : ∃ r, r = bagsB k bs := ⟨_, rfl⟩
  rw [← hres]
  have HR := hid hres
  have HC := hid hc
  have HL := hid hl2
  clear hc hl2 hres
  by_cases h12 : 12 < bs.length
  · have hf : res = false := by rw [HR.out]; unfold bagsB; rw [decide_eq_false (by omega)]; rfl
    subst hf
    have i1 : (12 : Int) < (bs.length : Int) := by omega
    go_enter Try.func66, Try.ntmps66
    go_wp2_with fail
    go_ret
    exact ⟨rfl, rfl⟩
  have HF : Hid (∀ j, j < bs.length → bagB k (bs.getD j []) = false → res = false) := hid fun j hj e => by
    rw [HR.out]; unfold bagsB
    rw [all_getD_false (bagB k) [] bs j hj e]; simp
  have HT : Hid ((∀ j, j < bs.length → bagB k (bs.getD j []) = true) → res = true) := hid fun h1 => by
    rw [HR.out]; unfold bagsB
    rw [decide_eq_true (by omega), all_getD (bagB k) [] bs h1]; rfl
  clear HR
  have d1 : ¬ ((12 : Int) < (bs.length : Int)) := by omega
  obtain ⟨n, hn⟩ : ∃ n, n = bs.length := ⟨_, rfl⟩
  rw [← hn] at HF HT hl1 HC d1 ⊢
  clear hn h12
  go_enter Try.func66, Try.ntmps66
  go_wp2_with fail
  go_loop [12] (fun t => ∃ j : Nat, j ≤ n ∧ t = .int .i64 j ∧ Hid (∀ i, i < j → bagB k (bs.getD i []) = true)) (fun t => n - (intOf t).toNat)
  case atStart => exact ⟨0, Nat.zero_le _, rfl, hid (fun i hi => by omega)⟩
  case round =>
    obtain ⟨j, hj, rfl, hok⟩ := hrel
    by_cases hjn : j < n
    · have i1 : (j : Int) < (n : Int) := by omega
      rcases HC.out with h0 | ⟨b, o, rfl, hcell⟩
      · omega
      · obtain ⟨u, c1, hu⟩ := hcell j hjn
        have HK := hid (isBelow_calls w u (bs.getD j []) k hu (HL.out j))
        have HV := hid (isVariableSet_calls w u (bs.getD j []) hu (HL.out j))
        obtain ⟨a1, cap1, rfl, -⟩ := hu
        have fin := HF.out j hjn
        have nxt : bagB k (bs.getD j []) = true → Hid (∀ i, i < j + 1 → bagB k (bs.getD i []) = true) := fun e i hi => by
          by_cases e2 : i = j
          · rw [e2]; exact e
          · exact hok.out i (by omega)
        have hb : bagB k (bs.getD j []) = (!decide ((bs.getD j []).length = 0) && setB (bs.getD j []) && lowB k (bs.getD j [])) := rfl
        have hml := HL.out j
        clear hcell hok
        generalize bagB k (bs.getD j []) = y at *
        generalize (bs.getD j []).length = m at *
        generalize lowB k (bs.getD j []) = y1 at *
        generalize setB (bs.getD j []) = y2 at *
        by_cases hm0 : m = 0
        · subst hm0
          obtain rfl := fin (by rw [hb]; rfl)
          clear nxt
          go_wp2_with fail
          go_ret
          exact ⟨rfl, rfl⟩
        have hm1 : ¬ ((m : Int) = 0) := by omega
        rw [decide_eq_false hm0, Bool.not_false, Bool.true_and] at hb
        cases y2
        · obtain rfl := fin (by rw [hb]; rfl)
          clear nxt
          go_wp2_with fail
          refine HV.out.mono ?_
          rintro e w1 ⟨rfl, hw1⟩
          subst w1
          go_wp2_with fail
          go_ret
          exact ⟨rfl, rfl⟩
        rw [Bool.true_and] at hb
        cases y1
        · obtain rfl := fin hb
          clear nxt
          go_wp2_with fail
          refine HV.out.mono ?_
          rintro e w1 ⟨rfl, hw1⟩
          subst w1
          go_wp2_with fail
          refine HK.out.mono ?_
          rintro e w1 ⟨rfl, hw1⟩
          subst w1
          go_wp2_with fail
          go_ret
          exact ⟨rfl, rfl⟩
        have hf := nxt hb
        clear fin nxt
        go_wp2_with fail
        refine HV.out.mono ?_
        rintro e w1 ⟨rfl, hw1⟩
        subst w1
        go_wp2_with fail
        refine HK.out.mono ?_
        rintro e w1 ⟨rfl, hw1⟩
        subst w1
        go_wp2_with fail
        go_round
        case rel => exact ⟨j + 1, by omega, by go_num, hf⟩
        case measure => simp [intOf]; omega
    · obtain rfl : j = n := by omega
      obtain rfl := HT.out hok.out
      have i1 : ¬ ((j : Int) < (j : Int)) := by omega
      clear hok
      go_wp2_with fail
      go_ret
      exact ⟨rfl, rfl⟩

set_option maxHeartbeats 4000000 in
set_option maxRecDepth 1000000 in
theorem areParents_calls (w : World) (v : Value) (ps : List Int) (q : Int) (h : IS w v ps) (hl : ps.length ≤ 1099511627776) :
    Calls Try.prog 67 #[v, .int .i64 q] w fun e w' => e = .returned (.bool (parsB ps q)) ∧ w' = w := by
  obtain ⟨a, cap, rfl, hc⟩ := h
  obtain ⟨res, hres⟩ : ∃ r, r = parsB ps q := ⟨_, rfl⟩
  rw [← hres]
  have HR := hid hres
  have HC := hid hc
  clear hc hres
  by_cases hq : (ps.length : Int) = q
  case neg =>
    have hf : res = false := by rw [HR.out]; unfold parsB; rw [decide_eq_false hq]; rfl
    subst hf
    have i1 : ((ps.length : Int) != q) = true := by simpa using hq
    go_enter Try.func67, Try.ntmps67
    go_wp2_with fail
    go_ret
    exact ⟨rfl, rfl⟩
  subst hq
  have HF : Hid (∀ j, j < ps.length → parB ps.length ps j = false → res = false) := hid fun j hj e => by
    rw [HR.out]; unfold parsB
    rw [range_all_false hj e]; simp
  have HT : Hid ((∀ j, j < ps.length → parB ps.length ps j = true) → res = true) := hid fun h1 => by
    rw [HR.out]; unfold parsB
    rw [decide_eq_true rfl, range_all_true h1]; rfl
  clear HR
  have d1 : (((ps.length : Int)) != (ps.length : Int)) = false := by simp
  have HP : Hid (∀ j, parB ps.length ps j = (decide (ps.getD j 0 = -1) || (decide ((j : Int) < ps.getD j 0) && decide (ps.getD j 0 < (ps.length : Int))))) := hid fun j => rfl
  obtain ⟨n, hn⟩ : ∃ n, n = ps.length := ⟨_, rfl⟩
  rw [← hn] at HF HT hl HC d1 HP ⊢
  clear hn
  go_enter Try.func67, Try.ntmps67
  go_wp2_with fail
  go_loop [13] (fun t => ∃ j : Nat, j ≤ n ∧ t = .int .i64 j ∧ Hid (∀ i, i < j → parB n ps i = true)) (fun t => n - (intOf t).toNat)
  case atStart => exact ⟨0, Nat.zero_le _, rfl, hid (fun i hi => by omega)⟩
  case round =>
    obtain ⟨j, hj, rfl, hok⟩ := hrel
    by_cases hjn : j < n
    · have i1 : (j : Int) < (n : Int) := by omega
      rcases HC.out with h0 | ⟨b, o, rfl, hcell⟩
      · omega
      · have c1 := hcell j hjn
        have fin := HF.out j hjn
        have nxt : parB n ps j = true → Hid (∀ i, i < j + 1 → parB n ps i = true) := fun e i hi => by
          by_cases e2 : i = j
          · rw [e2]; exact e
          · exact hok.out i (by omega)
        have hp := HP.out j
        clear hcell hok
        generalize parB n ps j = y at *
        generalize ps.getD j 0 = x at *
        by_cases h1 : x = -1
        · subst h1
          have hf := nxt (by rw [hp]; rfl)
          clear fin nxt hp
          go_wp2_with fail
          go_round
          case rel => exact ⟨j + 1, by omega, by go_num, hf⟩
          case measure => simp [intOf]; omega
        have e1 : (x != -1) = true := by simpa using h1
        rw [decide_eq_false h1, Bool.false_or] at hp
        by_cases h2 : x ≤ (j : Int)
        · obtain rfl := fin (by rw [hp, decide_eq_false (by omega)]; rfl)
          clear nxt hp
          go_wp2_with fail
          go_ret
          exact ⟨rfl, rfl⟩
        rw [decide_eq_true (by omega : (j : Int) < x), Bool.true_and] at hp
        by_cases h3 : (n : Int) ≤ x
        · obtain rfl := fin (by rw [hp, decide_eq_false (by omega)])
          clear nxt hp
          go_wp2_with fail
          go_ret
          exact ⟨rfl, rfl⟩
        have hf := nxt (by rw [hp, decide_eq_true (by omega)])
        clear fin nxt hp
        go_wp2_with fail
        go_round
        case rel => exact ⟨j + 1, by omega, by go_num, hf⟩
        case measure => simp [intOf]; omega
    · obtain rfl : j = n := by omega
      obtain rfl := HT.out hok.out
      have i1 : ¬ ((j : Int) < (j : Int)) := by omega
      clear hok
      go_wp2_with fail
      go_ret
      exact ⟨rfl, rfl⟩

end Go.Proofs.Ytliggcbiiaegeac

/-
  Lists in order: cmp.Compare, slices.Compare, spec.l2Compare.
-/
namespace Go.Proofs.Ytliggcbiiaegeac
open Go.RowKit

def cmpL : List Int → List Int → Int
  | [], [] => 0
  | [], _ :: _ => -1
  | _ :: _, [] => 1
  | x :: a, y :: b => if x < y then -1 else if y < x then 1 else cmpL a b

theorem drop_getD {l : List Int} {j : Nat} (h : j < l.length) : l.drop j = l.getD j 0 :: l.drop (j + 1) := by
  rw [List.getD_eq_getElem?_getD, List.getElem?_eq_getElem h]
  exact List.drop_eq_getElem_cons h

theorem cmpL_drop (a b : List Int) : ∀ j, j ≤ a.length → j ≤ b.length → (∀ i, i < j → a.getD i 0 = b.getD i 0) → cmpL a b = cmpL (a.drop j) (b.drop j) := by
  intro j
  induction j with
  | zero => intros; simp
  | succ j ih =>
    intro h1 h2 h3
    rw [ih (by omega) (by omega) (fun i hi => h3 i (by omega)), drop_getD (show j < a.length by omega), drop_getD (show j < b.length by omega), h3 j (by omega)]
    simp [cmpL]

theorem cmpL_lt {a b : List Int} {j : Nat} (h1 : j < a.length) (h2 : j < b.length) (h3 : ∀ i, i < j → a.getD i 0 = b.getD i 0) (h4 : a.getD j 0 < b.getD j 0) : cmpL a b = -1 := by
  rw [cmpL_drop a b j (by omega) (by omega) h3, drop_getD h1, drop_getD h2]
  simp only [cmpL]
  rw [if_pos h4]

theorem cmpL_gt {a b : List Int} {j : Nat} (h1 : j < a.length) (h2 : j < b.length) (h3 : ∀ i, i < j → a.getD i 0 = b.getD i 0) (h4 : b.getD j 0 < a.getD j 0) : cmpL a b = 1 := by
  rw [cmpL_drop a b j (by omega) (by omega) h3, drop_getD h1, drop_getD h2]
  simp only [cmpL]
  rw [if_neg (by omega), if_pos h4]

theorem cmpL_short {a b : List Int} (h2 : a.length < b.length) (h3 : ∀ i, i < a.length → a.getD i 0 = b.getD i 0) : cmpL a b = -1 := by
  rw [cmpL_drop a b a.length (by omega) (by omega) h3, drop_getD h2, List.drop_length]
  rfl

theorem cmpL_long {a b : List Int} (h2 : b.length < a.length) (h3 : ∀ i, i < b.length → a.getD i 0 = b.getD i 0) : cmpL a b = 1 := by
  rw [cmpL_drop a b b.length (by omega) (by omega) h3, drop_getD h2, List.drop_length]
  rfl

theorem cmpL_same {a b : List Int} (h2 : a.length = b.length) (h3 : ∀ i, i < a.length → a.getD i 0 = b.getD i 0) : cmpL a b = 0 := by
  rw [cmpL_drop a b a.length (by omega) (by omega) h3, List.drop_length, h2, List.drop_length]
  rfl

def cmpI (x y : Int) : Int := if x < y then -1 else if y < x then 1 else 0

end Go.Proofs.Ytliggcbiiaegeac

/-
  Lists in order: slices.Compare, spec.l2Compare.
-/
namespace Go.Proofs.Ytliggcbiiaegeac
open Go.RowKit

theorem agree_step {la lb : List Int} {j : Nat} (h : ∀ i, i < j → la.getD i 0 = lb.getD i 0) (e : la.getD j 0 = lb.getD j 0) : ∀ i, i < j + 1 → la.getD i 0 = lb.getD i 0 := fun i hi => by
  by_cases e2 : i = j
  · rw [e2]; exact e
  · exact h i (by omega)

set_option maxHeartbeats 2000000 in
set_option maxRecDepth 1000000 in
theorem l2Compare_calls (w : World) (va vb : Value) (la lb : List Int) (ha : IS w va la) (hb : IS w vb lb) (hl : la.length ≤ 1099511627776) (hl2 : lb.length ≤ 1099511627776) :
    Calls Try.prog 122 #[va, vb] w fun e w' => e = .returned (.int .i64 (cmpL la lb)) ∧ ∃ q, w' = w.drewN q := by
  obtain ⟨a, cap, rfl, hc⟩ := ha
  obtain ⟨a', cap', rfl, hc'⟩ := hb
  obtain ⟨n, hn⟩ : ∃ n, n = la.length := ⟨_, rfl⟩
  obtain ⟨m, hm⟩ : ∃ m, m = lb.length := ⟨_, rfl⟩
  obtain ⟨res, hres⟩ : ∃ r, r = cmpL la lb := ⟨_, rfl⟩
  rw [← hres]
  rw [← hn] at hc hl ⊢
  rw [← hm] at hc' hl2 ⊢
  have HR := hid hres
  have HC := hid hc
  have HC' := hid hc'
  have HN := hid hn
  have HM := hid hm
  clear hc hc' hn hm hres
  go_enter Try.func122, Try.ntmps122
  go_wp2
  go_loopw [5] (fun t wr => ∃ j : Nat, j ≤ n ∧ j ≤ m ∧ t = .int .i64 j ∧ Hid (∃ q, wr = w.drewN q) ∧ Hid (∀ i, i < j → la.getD i 0 = lb.getD i 0)) (fun t _ => n - (intOf t).toNat)
  case atStart => exact ⟨0, Nat.zero_le _, Nat.zero_le _, rfl, hid ⟨0, rfl⟩, hid (fun i hi => by omega)⟩
  case round =>
    obtain ⟨j, hj, hjm, rfl, hB, hok⟩ := hrel
    by_cases hjn : j < n
    · have i1 : (j : Int) < (n : Int) := by omega
      by_cases hjm' : j < m
      · have i2 : (j : Int) < (m : Int) := by omega
        rcases HC.out with h0 | ⟨b, o, rfl, hcell⟩
        · omega
        · have c1 : wr.cell? ⟨b, o + j, none⟩ = some (.int .i64 (la.getD j 0)) := by obtain ⟨m, rfl⟩ := hB.out; exact hcell j hjn
          rcases HC'.out with h0 | ⟨b', o', rfl, hcell'⟩
          · omega
          · have c2 : wr.cell? ⟨b', o' + j, none⟩ = some (.int .i64 (lb.getD j 0)) := by obtain ⟨m, rfl⟩ := hB.out; exact hcell' j hjm'
            have f1 : la.getD j 0 < lb.getD j 0 → Hid (res = -1) := fun e => HR.out.trans (cmpL_lt (by rw [← HN.out]; exact hjn) (by rw [← HM.out]; exact hjm') hok.out e)
            have f2 : lb.getD j 0 < la.getD j 0 → Hid (res = 1) := fun e => HR.out.trans (cmpL_gt (by rw [← HN.out]; exact hjn) (by rw [← HM.out]; exact hjm') hok.out e)
            have f3 : la.getD j 0 = lb.getD j 0 → Hid (∀ i, i < j + 1 → la.getD i 0 = lb.getD i 0) := agree_step hok.out
            clear hcell hcell' hok
            generalize la.getD j 0 = x at *
            generalize lb.getD j 0 = y at *
            by_cases h1 : x < y
            · have hf := f1 h1
              clear f1 f2 f3
              go_wp2_with fail
              go_quiet (fail)
              go_wp2
              go_ret
              exact ⟨ret_int hf.out.symm, drewN_step _ hB.out⟩
            · by_cases h2 : y < x
              · have hf := f2 h2
                clear f1 f2 f3
                go_wp2_with fail
                go_quiet (fail)
                go_wp2_with fail
                go_quiet (fail)
                go_wp2
                go_ret
                exact ⟨ret_int hf.out.symm, drewN_step _ (drewN_step _ hB.out)⟩
              · have hf := f3 (by omega)
                clear f1 f2 f3
                go_wp2_with fail
                go_quiet (fail)
                go_wp2_with fail
                go_quiet (fail)
                go_wp2
                go_roundw
                case rel => exact ⟨j + 1, by omega, by omega, by go_num, hid (drewN_step _ hB.out), hf⟩
                case measure => simp [intOf]; omega
      · obtain rfl : j = m := by omega
        have i2 : ¬ ((j : Int) < (j : Int)) := by omega
        have i3 : ¬ ((n : Int) = (j : Int)) := by omega
        have i4 : ¬ ((n : Int) < (j : Int)) := by omega
        have hf : Hid (res = 1) := HR.out.trans (cmpL_long (by rw [← HN.out, ← HM.out]; exact hjn) (by rw [← HM.out]; exact hok.out))
        clear hok
        go_wp2
        go_ret
        exact ⟨ret_int hf.out.symm, hB.out⟩
    · obtain rfl : j = n := by omega
      have i1 : ¬ ((j : Int) < (j : Int)) := by omega
      by_cases hjm' : j < m
      · have i2 : (j : Int) < (m : Int) := by omega
        have i3 : ¬ ((j : Int) = (m : Int)) := by omega
        have hf : Hid (res = -1) := HR.out.trans (cmpL_short (by rw [← HN.out, ← HM.out]; exact hjm') (by rw [← HN.out]; exact hok.out))
        clear hok
        go_wp2
        go_ret
        exact ⟨ret_int hf.out.symm, hB.out⟩
      · obtain rfl : j = m := by omega
        have hf : Hid (res = 0) := HR.out.trans (cmpL_same (by rw [← HN.out, ← HM.out]) (by rw [← HN.out]; exact hok.out))
        clear hok
        go_wp2
        go_ret
        exact ⟨ret_int hf.out.symm, hB.out⟩

end Go.Proofs.Ytliggcbiiaegeac

/-
  Sorted rows: impl.areSortedRows, spec.l2SortedRows.
-/
namespace Go.Proofs.Ytliggcbiiaegeac
open Go.RowKit

def rowAt (rows : List (List Int)) (q : Int) (j : Nat) : Bool := decide (((rows.getD j []).length : Int) = q) && (decide (j = 0) || decide (cmpL (rows.getD (j - 1) []) (rows.getD j []) < 0))
def rowsB (rows : List (List Int)) (q : Int) : Bool := (List.range rows.length).all (rowAt rows q)

theorem rowsB_true {rows : List (List Int)} {q : Int} (h : ∀ i, i < rows.length → rowAt rows q i = true) : rowsB rows q = true := by
  unfold rowsB
  rw [List.all_eq_true]
  intro i hi
  exact h i (by simpa using hi)

theorem rowsB_false {rows : List (List Int)} {q : Int} {j : Nat} (hj : j < rows.length) (h : rowAt rows q j = false) : rowsB rows q = false := by
  unfold rowsB
  rw [List.all_eq_false]
  exact ⟨j, by simpa using hj, by rw [h]; decide⟩

theorem rowAt_cases (rows : List (List Int)) (q : Int) (j : Nat) :
    (((rows.getD j []).length : Int) ≠ q ∧ rowAt rows q j = false) ∨ (((rows.getD j []).length : Int) = q ∧ j = 0 ∧ rowAt rows q j = true) ∨
    (((rows.getD j []).length : Int) = q ∧ 0 < j ∧ 0 ≤ cmpL (rows.getD (j - 1) []) (rows.getD j []) ∧ rowAt rows q j = false) ∨ (((rows.getD j []).length : Int) = q ∧ 0 < j ∧ cmpL (rows.getD (j - 1) []) (rows.getD j []) < 0 ∧ rowAt rows q j = true) := by
  unfold rowAt
  generalize ((rows.getD j []).length : Int) = x
  generalize cmpL (rows.getD (j - 1) []) (rows.getD j []) = y
  by_cases h1 : x = q
  · right
    by_cases h3 : j = 0
    · left; refine ⟨h1, h3, ?_⟩; simp [h3, h1]
    · right
      by_cases h4 : y < 0
      · right; refine ⟨h1, by omega, h4, ?_⟩; simp [h1]; omega
      · left; refine ⟨h1, by omega, by omega, ?_⟩; simp [h1]; omega
  · left; exact ⟨h1, by simp [h1]⟩

set_option maxHeartbeats 2000000 in
set_option maxRecDepth 1000000 in
theorem l2SortedRows_calls (w : World) (vr : Value) (rows : List (List Int)) (q : Int) (h : ISS w vr rows) (hl : Short rows) :
    Calls Try.prog 150 #[vr, .int .i64 q] w fun e w' => e = .returned (.bool (rowsB rows q)) ∧ ∃ q, w' = w.drewN q := by
  obtain ⟨a, cap, rfl, hc⟩ := h
  obtain ⟨hl1, hl2⟩ := hl
  obtain ⟨n, hn⟩ : ∃ n, n = rows.length := ⟨_, rfl⟩
  obtain ⟨res, hres⟩ : ∃ r, r = rowsB rows q := ⟨_, rfl⟩
  rw [← hres]
  rw [← hn] at hc hl1 ⊢
  have HR := hid hres
  have HC := hid hc
  have HN := hid hn
  have HL := hid hl2
  clear hc hn hres hl2
  go_enter Try.func150, Try.ntmps150
  go_wp2
  go_loopw [9] (fun t wr => ∃ j : Nat, j ≤ n ∧ t = .int .i64 j ∧ Hid (∃ k, wr = w.drewN k) ∧ Hid (∀ i, i < j → rowAt rows q i = true)) (fun t _ => n - (intOf t).toNat)
  case atStart => exact ⟨0, Nat.zero_le _, rfl, hid ⟨0, rfl⟩, hid (fun i hi => by omega)⟩
  case round =>
    obtain ⟨j, hj, rfl, hB, hok⟩ := hrel
    by_cases hjn : j < n
    · have i1 : (j : Int) < (n : Int) := by omega
      rcases HC.out with h0 | ⟨b, o, rfl, hcell⟩
      · omega
      · obtain ⟨u, c1, hu⟩ : ∃ u, wr.cell? ⟨b, o + j, none⟩ = some u ∧ IS wr u (rows.getD j []) := by obtain ⟨k, rfl⟩ := hB.out; exact hcell j hjn
        have hcs := rowAt_cases rows q j
        have fin : rowAt rows q j = false → Hid (res = false) := fun e => HR.out.trans (rowsB_false (by rw [← HN.out]; exact hjn) e)
        have nxt : rowAt rows q j = true → Hid (∀ i, i < j + 1 → rowAt rows q i = true) := fun e i hi => by
          by_cases e2 : i = j
          · rw [e2]; exact e
          · exact hok.out i (by omega)
        have hp : 0 < j → ∃ u', wr.cell? ⟨b, o + (j - 1), none⟩ = some u' ∧ IS wr u' (rows.getD (j - 1) []) := fun e => by obtain ⟨k, rfl⟩ := hB.out; exact hcell (j - 1) (by omega)
        have HU := hid hu
        have hm := HL.out j
        obtain ⟨a1, cap1, rfl, -⟩ := hu
        clear hcell hok
        rcases hcs with ⟨h1, h2⟩ | ⟨h1, h2, h3⟩ | ⟨h1, h2, h3, h4⟩ | ⟨h1, h2, h3, h4⟩
        · have hf := fin h2
          clear hp fin nxt h2
          generalize (rows.getD j []).length = m at *
          go_wp2
          go_ret
          exact ⟨ret_bool (by rw [hf.out]), hB.out⟩
        · have hf := nxt h3
          subst h2
          have c1' : wr.cell? ⟨b, o, none⟩ = some (.slice a1 (rows.getD 0 []).length cap1) := by simpa using c1
          clear hp fin nxt h3 HU
          generalize (rows.getD 0 []).length = m at *
          subst h1
          go_wp2
          go_roundw
          case rel => exact ⟨0 + 1, by omega, by go_num, hB, hf⟩
          case measure => simp [intOf]; omega
        · have hf := fin h4
          obtain ⟨u', c2, hu'⟩ := hp h2
          have HK := hid (l2Compare_calls wr u' _ (rows.getD (j - 1) []) (rows.getD j []) hu' HU.out (HL.out (j - 1)) hm)
          obtain ⟨a2, cap2, rfl, -⟩ := hu'
          have i3 : (0 : Int) < (j : Int) := by omega
          have i4 : ((j : Int) - 1).toNat = j - 1 := by omega
          clear hp fin nxt h4 HU
          generalize cmpL (rows.getD (j - 1) []) (rows.getD j []) = y at *
          generalize (rows.getD j []).length = m at *
          generalize (rows.getD (j - 1) []).length = m' at *
          subst h1
          go_wp2_with (first | (go_at_call 122; refine HK.out.mono ?_; rintro e w' ⟨rfl, q', hw'⟩; subst w'))
          go_ret
          exact ⟨ret_bool (by rw [hf.out]), drewN_step _ hB.out⟩
        · have hf := nxt h4
          obtain ⟨u', c2, hu'⟩ := hp h2
          have HK := hid (l2Compare_calls wr u' _ (rows.getD (j - 1) []) (rows.getD j []) hu' HU.out (HL.out (j - 1)) hm)
          obtain ⟨a2, cap2, rfl, -⟩ := hu'
          have i3 : (0 : Int) < (j : Int) := by omega
          have i4 : ((j : Int) - 1).toNat = j - 1 := by omega
          clear hp fin nxt h4 HU
          generalize cmpL (rows.getD (j - 1) []) (rows.getD j []) = y at *
          generalize (rows.getD j []).length = m at *
          generalize (rows.getD (j - 1) []).length = m' at *
          subst h1
          have i5 : ¬ (0 ≤ y) := by omega
          go_wp2_with (first | (go_at_call 122; refine HK.out.mono ?_; rintro e w' ⟨rfl, q', hw'⟩; subst w'))
          go_roundw
          case rel => exact ⟨j + 1, by omega, by go_num, hid (drewN_step _ hB.out), hf⟩
          case measure => simp [intOf]; omega
    · obtain rfl : j = n := by omega
      have hf : Hid (res = true) := HR.out.trans (rowsB_true (fun i hi => hok.out i (by rw [HN.out]; exact hi)))
      have i1 : ¬ ((j : Int) < (j : Int)) := by omega
      clear hok
      go_wp2
      go_ret
      exact ⟨ret_bool (by rw [hf.out]), hB.out⟩

end Go.Proofs.Ytliggcbiiaegeac

/-
  spec.l1Zeros: n zeros.
-/
namespace Go.Proofs.Ytliggcbiiaegeac
open Go.RowKit

theorem Try.infoRatS : (Try.prog.info? 49).map (fun i => (i.zero, i.size, i.bytes)) = some (some (.agg #[.int .i64 0, .int .i64 0]), 2, 16) := by kernel_rfl

def zs (k : Nat) : List Value := (List.replicate k [Value.int .i64 0, Value.int .i64 1]).flatten
theorem zs_succ (k : Nat) : zs (k + 1) = zs k ++ [.int .i64 0, .int .i64 1] := by
  simp [zs, List.replicate_succ', List.flatten_append]

theorem own_grow2 {B n s : Nat} {e : TypeId} {w wr w1 : World} {u : Value} {o : Obj} {xs : List Value} (hB : B ≤ wr.heap.size)
    (hown : wr.ownsRow B e s u n xs) (hnx : Below B w wr) (hgrow : (wr.alloc o).grownBy w1 u.ownBlock) : Below B w w1 :=
  (hnx.alloc hB o).grown hgrow (by simp; omega) (fun j hj => (hown.lt j hj).1)

set_option maxHeartbeats 2000000 in
set_option maxRecDepth 1000000 in
theorem l1Zeros_calls (w : World) (n : Nat) (hn : n ≤ 1000) :
    Calls Try.prog 172 #[.int .i64 n] w fun e w' => ∃ v, e = .returned v ∧ w'.ownsRow w.heap.size 49 2 v n (zs n) ∧ Below w.heap.size w w' := by
  obtain ⟨i0, hi, hz0, hz1, hz2⟩ := info_parts Try.infoRatS
  go_enter Try.func172, Try.ntmps172
  go_wp2
  go_loopw [3, 4] (fun v t wr => ∃ k : Nat, k ≤ n ∧ t = .int .i64 k ∧ wr.ownsRow w.heap.size 49 2 v k (zs k) ∧ Below w.heap.size w wr) (fun _ t _ => n - (intOf t).toNat)
  case atStart => exact ⟨0, Nat.zero_le _, rfl, World.ownsRow_made w #[] 0 (Nat.le_refl _) (by decide) rfl, (Below.refl _ _).alloc (Nat.le_refl _) _⟩
  case round =>
    obtain ⟨k, hk, rfl, hown, hnx⟩ := hrel
    have hns := hnx.size
    by_cases hkn : k < n
    · have i1 : (k : Int) < (n : Int) := by omega
      go_wp2_with (first
        | (at_builtin; refine wpList_append_own _ rfl _ _ 48 rfl w.heap.size 49 i0 (.agg #[.int .i64 0, .int .i64 0]) 2 16 Try.underlying48 hi hz0 hz1 hz2 rfl (by decide) _ _ _ rfl (hown.alloc _) ⟨wr.heap.size, 0, none⟩ 1 1 [.int .i64 0, .int .i64 1] rfl rfl ?c1 ?c2 ?c3 ?c4 ?c5 ?_))
      case c1 =>
        intro j u hj
        match j, hj with
        | 0, hj => simp at hj; subst hj; simp [Addr.add]
        | 1, hj => simp at hj; subst hj; simp [Addr.add]
      case c2 => intro u hu; simp at hu; rcases hu with rfl | rfl <;> rfl
      case c3 => unfold maxLen; omega
      case c4 => omega
      case c5 => simp; omega
      intro v' w1 hown' hgrow _
      have hb := own_grow2 hns hown hnx hgrow
      have hown2 : w1.ownsRow w.heap.size 49 2 v' (k + 1) (zs (k + 1)) := by
        rw [zs_succ]; exact hown'
      clear hown' hgrow hown
      go_wp2
      go_roundw
      case rel => exact ⟨k + 1, by omega, by go_num, hown2, hb⟩
      case measure => simp [intOf]; omega
    · obtain rfl : k = n := by omega
      have i1 : ¬ ((k : Int) < (k : Int)) := by omega
      go_wp2
      go_ret
      exact ⟨_, rfl, hown, hnx⟩

end Go.Proofs.Ytliggcbiiaegeac

/-
  impl.ratsOf: fractions as Rats.
-/
namespace Go.Proofs.Ytliggcbiiaegeac
open Go.RowKit

/-- pairs of numbers in memory -/
def IR (w : World) (v : Value) (l : List (Int × Int)) : Prop := ∃ a cap, v = .slice a l.length cap ∧ (l.length = 0 ∨ ∃ b o, a = some ⟨b, o, none⟩ ∧ ∀ j, j < l.length →
  w.cell? ⟨b, o + j * 2, none⟩ = some (.int .i64 (l.getD j (0, 0)).1) ∧ w.cell? ⟨b, o + j * 2 + 1, none⟩ = some (.int .i64 (l.getD j (0, 0)).2))

def rcs (l : List (Int × Int)) : List Value := l.flatMap fun p => [.int .i64 p.1, .int .i64 p.2]
theorem rcs_succ (l : List (Int × Int)) (k : Nat) (h : k < l.length) : rcs (l.take (k + 1)) = rcs (l.take k) ++ [.int .i64 (l.getD k (0, 0)).1, .int .i64 (l.getD k (0, 0)).2] := by
  unfold rcs
  rw [List.take_add_one, List.getElem?_eq_getElem h, List.getD_eq_getElem?_getD, List.getElem?_eq_getElem h]
  simp only [Option.toList_some, List.flatMap_append, List.flatMap_cons, List.flatMap_nil, List.append_nil, Option.getD_some]

theorem own_below {B n s : Nat} {e : TypeId} {w w' : World} {v : Value} {xs : List Value} (h : w.ownsRow B e s v n xs) (hb : Below w.heap.size w w') : w'.ownsRow B e s v n xs := by
  obtain ⟨h1, h2⟩ := h
  refine ⟨h1, ?_⟩
  rcases h2 with h2 | ⟨g, cap, cur, hv, hg, hc, hr⟩
  · exact Or.inl h2
  · refine Or.inr ⟨g, cap, cur, hv, hg, ?_, hr⟩
    rw [hb.block g (by
      rcases Nat.lt_or_ge g w.heap.size with h3 | h3
      · exact h3
      · rw [Array.getElem?_eq_none h3] at hc; cases hc)]
    exact hc

set_option maxHeartbeats 2000000 in
set_option maxRecDepth 1000000 in
theorem ratsOf_calls (w : World) (v : Value) (l : List (Int × Int)) (h : IR w v l) (hl : l.length ≤ 1000)
    (hp : ∀ j, j < l.length → (-1000000 ≤ (l.getD j (0, 0)).1 ∧ (l.getD j (0, 0)).1 ≤ 1000000) ∧ (-1000000 ≤ (l.getD j (0, 0)).2 ∧ (l.getD j (0, 0)).2 ≤ 1000000)) :
    Calls Try.prog 138 #[v] w fun e w' => ∃ v, e = .returned v ∧ w'.ownsRow w.heap.size 49 2 v l.length (rcs l) ∧ Below w.heap.size w w' := by
  obtain ⟨i0, hi, hz0, hz1, hz2⟩ := info_parts Try.infoRatS
  obtain ⟨a, cap, rfl, hc⟩ := h
  obtain ⟨n, hn⟩ : ∃ n, n = l.length := ⟨_, rfl⟩
  obtain ⟨out, hout⟩ : ∃ o, o = rcs l := ⟨_, rfl⟩
  rw [← hout]
  rw [← hn] at hc hl hp ⊢
  have HC := hid hc
  have HP := hid hp
  have HN := hid hn
  have HO := hid hout
  clear hc hp hn hout
  go_enter Try.func138, Try.ntmps138
  go_wp2_with (at_make; refine wpList_make_own _ rfl _ _ 48 rfl w.heap.size 49 i0 (.agg #[.int .i64 0, .int .i64 0]) 2 Try.underlying48 hi hz0 hz1 _ _ _ n rfl rfl rfl ?b2 ?b3 (Nat.le_refl _) ?_)
  case b2 => rw [hz2]; omega
  case b3 => unfold maxLen; omega
  intro w0 hown0 hgrow0
  have hb0 : Below w.heap.size w w0 := (Below.refl _ _).grown hgrow0 (Nat.le_refl _) (fun j hj => by cases hj)
  clear hgrow0
  go_wp2
  go_loopw [3, 11] (fun v t wr => ∃ k : Nat, k ≤ n ∧ t = .int .i64 k ∧ wr.ownsRow w.heap.size 49 2 v k (rcs (l.take k)) ∧ Below w.heap.size w wr) (fun _ t _ => n - (intOf t).toNat)
  case atStart => exact ⟨0, Nat.zero_le _, rfl, hown0, hb0⟩
  case round =>
    obtain ⟨k, hk, rfl, hown, hnx⟩ := hrel
    have hns := hnx.size
    by_cases hkn : k < n
    · have i1 : (k : Int) < (n : Int) := by omega
      rcases HC.out with h0 | ⟨b, o, rfl, hcell⟩
      · omega
      · obtain ⟨d1, d2⟩ := hcell k hkn
        have c1 := (hnx.cell (p := ⟨b, o + k * 2, none⟩) (World.block_lt_of_cell? w _ d1)).trans d1
        have c2 := (hnx.cell (p := ⟨b, o + k * 2 + 1, none⟩) (World.block_lt_of_cell? w _ d2)).trans d2
        obtain ⟨⟨p1, p2⟩, p3, p4⟩ := HP.out k hkn
        have HS := hid (rcs_succ l k (by rw [← HN.out]; exact hkn))
        clear hcell d1 d2 hown0 hb0
        generalize (l.getD k (0, 0)).1 = x at *
        generalize (l.getD k (0, 0)).2 = y at *
        go_wp2_with fail
        have hbA : Below w.heap.size w (wr.alloc (.cells #[.int .i64 x, .int .i64 y] 180)) := hnx.alloc hns _
        have hownA := hown.alloc (.cells #[.int .i64 x, .int .i64 y] 180)
        clear hown c1 c2 hnx
        generalize wr.alloc (.cells #[.int .i64 x, .int .i64 y] 180) = wa at *
        refine (ratOf_yes x y wa p1 p2 p3 p4).mono ?_
        rintro e w2 ⟨rfl, hb2⟩
        have hownB := own_below hownA hb2
        have hbB : Below w.heap.size w w2 := bt hbA hb2
        have hsB := hbB.size
        clear hownA hb2 hbA
        go_wp2_with (first
          | (at_builtin; refine wpList_append_own _ rfl _ _ 48 rfl w.heap.size 49 i0 (.agg #[.int .i64 0, .int .i64 0]) 2 16 Try.underlying48 hi hz0 hz1 hz2 rfl (by decide) _ _ _ rfl (hownB.alloc _) ⟨w2.heap.size, 0, none⟩ 1 1 [.int .i64 x, .int .i64 y] rfl rfl ?c1 ?c2 ?c3 ?c4 ?c5 ?_))
        case c1 =>
          intro j u hj
          match j, hj with
          | 0, hj => simp at hj; subst hj; simp [Addr.add]
          | 1, hj => simp at hj; subst hj; simp [Addr.add]
        case c2 => intro u hu; simp at hu; rcases hu with rfl | rfl <;> rfl
        case c3 => unfold maxLen; omega
        case c4 => omega
        case c5 => simp; omega
        intro v' w1 hown' hgrow _
        have hb := own_grow2 hsB hownB hbB hgrow
        have hown2 : w1.ownsRow w.heap.size 49 2 v' (k + 1) (rcs (l.take (k + 1))) := by
          rw [HS.out]; exact hown'
        clear hown' hgrow hownB
        go_wp2
        go_roundw
        case rel => exact ⟨k + 1, by omega, by go_num, hown2, hb⟩
        case measure => simp [intOf]; omega
    · obtain rfl : k = n := by omega
      have i1 : ¬ ((k : Int) < (k : Int)) := by omega
      rw [HN.out, List.take_length, ← HN.out, ← HO.out] at hown
      go_wp2
      go_ret
      exact ⟨_, rfl, hown, hnx⟩

end Go.Proofs.Ytliggcbiiaegeac

/-
  laws.markIntSS on a copy of the law's own: only the blocks of its lists are others.
-/
namespace Go.Proofs.Ytliggcbiiaegeac
open Go.RowKit

/-- only the blocks f 0 .. f (n - 1) are others -/
structure Ost (f : Nat → Nat) (n : Nat) (w w' : World) : Prop where
  os : w'.os = w.os
  tape : w'.tape = w.tape
  output : w'.output = w.output
  size : w'.heap.size = w.heap.size
  block : ∀ b, (∀ i, i < n → b ≠ f i) → w'.heap[b]? = w.heap[b]?

theorem Ost.refl (f : Nat → Nat) (w : World) : Ost f 0 w w := ⟨rfl, rfl, rfl, rfl, fun _ _ => rfl⟩
theorem Ost.step {f : Nat → Nat} {n : Nat} {w w1 w2 : World} (h : Ost f n w w1) (h' : Og (f n) w1 w2) : Ost f (n + 1) w w2 :=
  ⟨h'.os.trans h.os, h'.tape.trans h.tape, h'.output.trans h.output, h'.size.trans h.size, fun b hb => (h'.block b (hb n (by omega))).trans (h.block b (fun i hi => hb i (by omega)))⟩
theorem Ost.below {f : Nat → Nat} {n N : Nat} {w w' : World} (h : Ost f n w w') (hN : ∀ i, i < n → N ≤ f i) : Below N w w' :=
  ⟨h.os, h.tape, h.output, Nat.le_of_eq h.size.symm, fun b hb => h.block b (fun i hi => by have := hN i hi; omega)⟩

set_option maxHeartbeats 2000000 in
set_option maxRecDepth 1000000 in
theorem markIntSS_calls (w : World) (G : Nat) (ls : List (List Int)) (f : Nat → Nat) (k : Int) (h : Half w G ls.length ls.length ls f) (hl : tot ls ls.length ≤ 1048576) (hk : 0 ≤ k) (hk' : k ≤ 8388608) :
    Calls Try.prog 29 #[.slice (some ⟨G, 0, none⟩) ls.length ls.length, .int .i64 k] w fun e w' => e = .returned (.int .i64 (k + (tot ls ls.length - ls.length))) ∧ Ost f ls.length w w' := by
  obtain ⟨n, hn⟩ : ∃ n, n = ls.length := ⟨_, rfl⟩
  rw [← hn] at h hl ⊢
  have HH := hid h
  have HN := hid hn
  have HT : Hid (∀ k, k ≤ n → tot ls k ≤ tot ls n) := fun k hk => by
    have := tot_le ls (ls.length - k) k (by rw [← HN.out]; omega)
    rw [← HN.out] at this; exact this
  have HS : Hid (∀ k, k < n → tot ls (k + 1) = tot ls k + (ls.getD k []).length) := fun k hk => tot_succ ls k (by rw [← HN.out]; exact hk)
  have H0 : Hid (tot ls 0 = n) := (tot_zero ls).trans HN.out.symm
  have hn7 : n ≤ 1048576 := by have := HT.out 0 (by omega); rw [H0.out] at this; omega
  clear h hn
  go_enter Try.func29, Try.ntmps29
  go_wp2
  go_loopw [1, 5] (fun u t wr => ∃ j : Nat, j ≤ n ∧ t = .int .i64 j ∧ ∃ c : Int, u = .int .i64 c ∧ 0 ≤ c ∧ c ≤ 9437184 ∧ Hid (c = k + (tot ls j - n) ∧ Ost f j w wr)) (fun _ t _ => n - (intOf t).toNat)
  case atStart => exact ⟨0, Nat.zero_le _, rfl, _, rfl, by omega, by omega, hid ⟨by rw [H0.out]; omega, Ost.refl _ _⟩⟩
  case round =>
    obtain ⟨j, hj, rfl, c, rfl, hc0, hc1, hok⟩ := hrel
    by_cases hjn : j < n
    · have i1 : (j : Int) < (n : Int) := by omega
      have hO := hok.out.2
      have hgt : ∀ i, i < n → G < f i := HH.out.gt
      have d1 := HH.out.cell j hjn
      rw [if_pos hjn] at d1
      have c1 : wr.cell? ⟨G, j, none⟩ = some (.slice (some ⟨f j, 0, none⟩) (ls.getD j []).length (ls.getD j []).length) :=
        (World.cell?_of_block (w := w) (a := ⟨G, j, none⟩) (hO.block G (fun i hi => by have := hgt i (by omega); omega))).trans d1
      have ho : OwnI wr (f j) (ls.getD j []) := (HH.out.own j hjn).move (hO.block (f j) (fun i hi => by have := HH.out.up i j hi hjn; omega)) (Nat.le_of_eq hO.size.symm)
      have hs := HS.out j hjn
      have ht := HT.out (j + 1) (by omega)
      have HK := hid (markIntS_calls wr (f j) (ls.getD j []) c ho (by omega) hc0 (by omega))
      have hoc := hok.out.1
      have hR : Hid (c + (ls.getD j []).length = k + (tot ls (j + 1) - n)) := hid (by omega)
      have hR2 : c + ((ls.getD j []).length : Int) ≤ 9437184 := by have t0 := HT.out 0 (by omega); rw [H0.out] at t0; omega
      have HST : Hid (∀ w2, Og (f j) wr w2 → Ost f (j + 1) w w2) := fun w2 h2 => hO.step h2
      clear ho hs ht hoc hgt d1 hO hok
      generalize (ls.getD j []).length = m at *
      go_wp2_with (first | (go_at_call 30; refine HK.out.mono ?_; rintro e w2 ⟨rfl, -, hog⟩; have HG := hid hog; clear hog))
      go_roundw
      case rel => exact ⟨j + 1, by omega, by go_num, _, rfl, by omega, hR2, hid ⟨hR.out, HST.out _ HG.out⟩⟩
      case measure => simp [intOf]; omega
    · obtain rfl : j = n := by omega
      have i1 : ¬ ((j : Int) < (j : Int)) := by omega
      go_wp2
      go_ret
      exact ⟨ret_int hok.out.1, hok.out.2⟩

end Go.Proofs.Ytliggcbiiaegeac
