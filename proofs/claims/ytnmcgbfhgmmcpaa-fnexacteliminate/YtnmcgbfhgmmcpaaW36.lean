import Derived.Test.YtnmcgbfhgmmcpaaW02
import Derived.Test.YtnmcgbfhgmmcpaaW08
import Derived.Test.YtnmcgbfhgmmcpaaW17
/-
  impl.isBelow, impl.isPattern, impl.areBags, impl.areParents.
-/
namespace Go.Proofs.Ytnmcgbfhgmmcpaa
open Go.RowKit

def lowB (k : Int) (l : List Int) : Bool := decide (l.length = 0) || decide (l.getD (l.length - 1) 0 < k)
def inEs (es : List (List Int)) (x : Int) : Bool := es.any fun e => decide (x ∈ e)
def patB (k : Int) (es : List (List Int)) : Bool := decide (0 ≤ k) && decide (k ≤ 6) && edgesB es && es.all (lowB k) && (List.range k.toNat).all fun v => inEs es (v : Int)
def bagB (k : Int) (b : List Int) : Bool := !decide (b.length = 0) && setB b && lowB k b
def bagsB (k : Int) (bags : List (List Int)) : Bool := decide (bags.length ≤ 12) && bags.all (bagB k)
def parB (n : Int) (ps : List Int) (i : Nat) : Bool := decide (ps.getD i 0 = -1) || (decide ((i : Int) < ps.getD i 0) && decide (ps.getD i 0 < n))
def parsB (ps : List Int) (n : Int) : Bool := decide ((ps.length : Int) = n) && (List.range ps.length).all (parB n ps)

theorem bclp {w w' : World} {a : Addr} {v : Value} (hb : Below w.heap.size w w') (h : w.cell? a = some v) : w'.cell? a = some v :=
  (hb.cell (World.block_lt_of_cell? w _ h)).trans h
theorem range_all_false {p : Nat → Bool} {n j : Nat} (hj : j < n) (h : p j = false) : (List.range n).all p = false := by
  rw [List.all_eq_false]
  exact ⟨j, by simpa using hj, by rw [h]; decide⟩
theorem range_all_true {p : Nat → Bool} {n : Nat} (h : ∀ i, i < n → p i = true) : (List.range n).all p = true := by
  rw [List.all_eq_true]
  intro i hi
  exact h i (by simpa using hi)

set_option maxHeartbeats 2000000 in
theorem isBelow_calls (w : World) (v : Value) (l : List Int) (k : Int) (h : IS w v l) (hl : l.length ≤ 1099511627776) :
    Calls Try.prog 96 #[v, .int .i64 k] w fun e w' => e = .returned (.bool (lowB k l)) ∧ w' = w := by
  obtain ⟨a, cap, rfl, hc⟩ := h
  obtain ⟨res, hres⟩ : ∃ r, r = lowB k l := ⟨_, rfl⟩
  rw [← hres]
  rcases Nat.eq_zero_or_pos l.length with h0 | hp
  · have hr : res = true := by rw [hres]; simp [lowB, h0]
    subst hr
    rw [h0]
    clear hc hres
    go_enter Try.func96, Try.ntmps96
    go_wp2
    go_ret
    exact ⟨rfl, rfl⟩
  · rcases hc with h0 | ⟨b, o, rfl, hcell⟩
    · omega
    have c1 := hcell (l.length - 1) (by omega)
    have hr : Hid (res = decide (l.getD (l.length - 1) 0 < k)) := by
      show res = _
      rw [hres]; unfold lowB
      rw [decide_eq_false (by omega), Bool.false_or]
    have i4 : ((l.length : Int) - 1).toNat = l.length - 1 := by omega
    have d1 : ¬ ((l.length : Int) = 0) := by omega
    clear hcell hres
    generalize l.getD (l.length - 1) 0 = y at *
    generalize l.length = n at *
    go_enter Try.func96, Try.ntmps96
    go_wp2
    go_ret
    exact ⟨ret_bool (by rw [hr.out, show ((n : Int) == 0) = false by simp; omega, Bool.false_or]), rfl⟩

set_option maxHeartbeats 4000000 in
set_option maxRecDepth 1000000 in
theorem isPattern_calls (w : World) (ve : Value) (k : Int) (es : List (List Int)) (h : ISS w ve es) (hl : Short es) :
    Calls Try.prog 69 #[.int .i64 k, ve] w fun e w' => e = .returned (.bool (patB k es)) ∧ Below w.heap.size w w' := by
  have KE := hid (areEdges_calls w ve es h hl)
  have HE := hid h
  obtain ⟨a, cap, rfl, hc⟩ := h
  obtain ⟨hl1, hl2⟩ := hl
  have HS : Hid (Short es) := hid ⟨hl1, hl2⟩
  obtain ⟨res, hres⟩ : ∃ r, r = patB k es := ⟨_, rfl⟩
  rw [← hres]
  have HR := hid hres
  have HC := hid hc
  have HL := hid hl2
  clear hc hl2 hres
  by_cases hk0 : k < 0
  · have hf : res = false := by rw [HR.out]; unfold patB; rw [decide_eq_false (by omega)]; simp
    subst hf
    go_enter Try.func69, Try.ntmps69
    go_wp2_with fail
    go_ret
    exact ⟨rfl, Below.refl _ _⟩
  by_cases hk6 : 6 < k
  · have hf : res = false := by rw [HR.out]; unfold patB; rw [decide_eq_false (by omega : ¬ k ≤ 6)]; simp
    subst hf
    have d1 : ¬ (k < 0) := hk0
    go_enter Try.func69, Try.ntmps69
    go_wp2_with fail
    go_ret
    exact ⟨rfl, Below.refl _ _⟩
  have d1 : ¬ (k < 0) := hk0
  have d2 : ¬ (6 < k) := hk6
  cases hB : edgesB es
  · have hf : res = false := by rw [HR.out]; unfold patB; rw [hB]; simp
    subst hf
    rw [hB] at KE
    go_enter Try.func69, Try.ntmps69
    go_wp2_with fail
    refine KE.out.mono ?_
    rintro e w1 ⟨rfl, hw1⟩
    subst w1
    go_wp2_with fail
    go_ret
    exact ⟨rfl, Below.refl _ _⟩
  rw [hB] at KE
  have HF1 : Hid (∀ j, j < es.length → lowB k (es.getD j []) = false → res = false) := hid fun j hj e => by
    rw [HR.out]; unfold patB
    rw [all_getD_false (lowB k) [] es j hj e]; simp
  have HF2 : Hid (∀ v, v < k.toNat → inEs es (v : Int) = false → res = false) := hid fun v hv e => by
    rw [HR.out]; unfold patB
    rw [range_all_false hv e]; simp
  have HT : Hid ((∀ j, j < es.length → lowB k (es.getD j []) = true) → (∀ v, v < k.toNat → inEs es (v : Int) = true) → res = true) := hid fun h1 h2 => by
    rw [HR.out]; unfold patB
    rw [hB, decide_eq_true (by omega : 0 ≤ k), decide_eq_true (by omega : k ≤ 6), all_getD (lowB k) [] es h1, range_all_true h2]; rfl
  clear HR hB
  obtain ⟨n, hn⟩ : ∃ n, n = es.length := ⟨_, rfl⟩
  rw [← hn] at HF1 HT hl1 HC KE HE ⊢
  have HN := hid hn
  clear hn
  go_enter Try.func69, Try.ntmps69
  go_wp2_with fail
  refine KE.out.mono ?_
  rintro e w1 ⟨rfl, hw1⟩
  subst w1
  go_wp2_with fail
  go_loop [21] (fun t => ∃ j : Nat, j ≤ n ∧ t = .int .i64 j ∧ Hid (∀ i, i < j → lowB k (es.getD i []) = true)) (fun t => n - (intOf t).toNat)
  case atStart => exact ⟨0, Nat.zero_le _, rfl, hid (fun i hi => by omega)⟩
  case round =>
    obtain ⟨j, hj, rfl, hok⟩ := hrel
    by_cases hjn : j < n
    · have i1 : (j : Int) < (n : Int) := by omega
      rcases HC.out with h0 | ⟨b, o, rfl, hcell⟩
      · omega
      · obtain ⟨u, c1, hu⟩ := hcell j hjn
        have HK := hid (isBelow_calls w u (es.getD j []) k hu (HL.out j))
        obtain ⟨a1, cap1, rfl, -⟩ := hu
        have fin := HF1.out j hjn
        have nxt : lowB k (es.getD j []) = true → Hid (∀ i, i < j + 1 → lowB k (es.getD i []) = true) := fun e i hi => by
          by_cases e2 : i = j
          · rw [e2]; exact e
          · exact hok.out i (by omega)
        clear hcell hok
        generalize (es.getD j []).length = m at *
        generalize lowB k (es.getD j []) = y at *
        cases y
        · obtain rfl := fin rfl
          clear nxt
          go_wp2_with fail
          refine HK.out.mono ?_
          rintro e w1 ⟨rfl, hw1⟩
          subst w1
          go_wp2_with fail
          go_ret
          exact ⟨rfl, Below.refl _ _⟩
        · have hf := nxt rfl
          clear fin nxt
          go_wp2_with fail
          refine HK.out.mono ?_
          rintro e w1 ⟨rfl, hw1⟩
          subst w1
          go_wp2_with fail
          go_round
          case rel => exact ⟨j + 1, by omega, by go_num, hf⟩
          case measure => simp [intOf]; omega
    · obtain rfl : j = n := by omega
      have HT2 : Hid ((∀ v, v < k.toNat → inEs es (v : Int) = true) → res = true) := hid (HT.out hok.out)
      have i1 : ¬ ((j : Int) < (j : Int)) := by omega
      clear hok HT HF1
      obtain ⟨q, hq⟩ : ∃ q : Nat, q = k.toNat := ⟨_, rfl⟩
      obtain rfl : k = (q : Int) := by omega
      rw [← hq] at HT2 HF2
      clear hq hk0 hk6
      have hq6 : q ≤ 6 := by omega
      go_wp2_with fail
      go_loopw [31] (fun t wr => ∃ v : Nat, v ≤ q ∧ t = .int .i64 v ∧ Below w.heap.size w wr ∧ Hid (∀ i : Nat, i < v → inEs es (i : Int) = true)) (fun t _ => q - (intOf t).toNat)
      case atStart => exact ⟨0, Nat.zero_le _, rfl, Below.refl _ _, hid (fun i hi => by omega)⟩
      case round =>
        obtain ⟨v, hv, rfl, hnx, hok⟩ := hrel
        by_cases hvq : v < q
        · have i2 : (v : Int) < (q : Int) := by omega
          have HK := hid (edgesWith_calls wr _ (v : Int) es (HE.out.below hnx) HS.out)
          have hany : inEs es (v : Int) = _ := any_plc (v : Int) es
          have fin := HF2.out v hvq
          have nxt : inEs es (v : Int) = true → Hid (∀ i : Nat, i < v + 1 → inEs es (i : Int) = true) := fun e i hi => by
            by_cases e2 : i = v
            · rw [e2]; exact e
            · exact hok.out i (by omega)
          have hlen := plc_le (fun i => decide ((v : Int) ∈ es.getD i [])) es.length
          have hll := HS.out.1
          clear hok
          generalize plc (fun i => decide ((v : Int) ∈ es.getD i [])) es.length = pl at *
          generalize inEs es (v : Int) = y at *
          obtain ⟨m, hm⟩ : ∃ m, m = pl.length := ⟨_, rfl⟩
          rw [← hm] at hany hlen HK
          have hm7 : m ≤ 1099511627776 := by omega
          clear hlen hll hm
          cases y
          · obtain rfl := fin rfl
            have hm0 : m = 0 := by simpa using hany
            clear nxt hany
            subst hm0
            go_wp2_with fail
            refine HK.out.mono ?_
            rintro e w' ⟨v, rfl, ⟨hv1, (⟨rfl, hv2⟩ | ⟨g, cap', cur, rfl, hv2⟩)⟩, hbw⟩
            all_goals go_wp2_with fail
            all_goals go_ret
            all_goals exact ⟨rfl, bt hnx hbw⟩
          · have hf := nxt rfl
            have hm0 : m ≠ 0 := by simpa using hany
            have hm1 : ¬ ((m : Int) = 0) := by omega
            clear fin nxt hany
            go_wp2_with fail
            refine HK.out.mono ?_
            rintro e w' ⟨u, rfl, ⟨hv1, (⟨rfl, hv2⟩ | ⟨g, cap', cur, rfl, hv2⟩)⟩, hbw⟩
            · exact absurd hv2 hm0
            go_wp2_with fail
            go_roundw
            case rel => exact ⟨v + 1, by omega, by go_num, bt hnx hbw, hf⟩
            case measure => simp [intOf]; omega
        · obtain rfl : v = q := by omega
          obtain rfl := HT2.out hok.out
          have i2 : ¬ ((v : Int) < (v : Int)) := by omega
          clear hok
          go_wp2_with fail
          go_ret
          exact ⟨rfl, hnx⟩

set_option maxHeartbeats 4000000 in
set_option maxRecDepth 1000000 in
theorem areBags_calls (w : World) (ve : Value) (k : Int) (bs : List (List Int)) (h : ISS w ve bs) (hl : Short bs) :
    Calls Try.prog 70 #[.int .i64 k, ve] w fun e w' => e = .returned (.bool (bagsB k bs)) ∧ w' = w := by
  obtain ⟨a, cap, rfl, hc⟩ := h
  obtain ⟨hl1, hl2⟩ := hl
  obtain ⟨res, hres⟩ : ∃ r, r = bagsB k bs := ⟨_, rfl⟩
  rw [← hres]
  have HR := hid hres
  have HC := hid hc
  have HL := hid hl2
  clear hc hl2 hres
  by_cases h12 : 12 < bs.length
  · have hf : res = false := by rw [HR.out]; unfold bagsB; rw [decide_eq_false (by omega)]; rfl
    subst hf
    have i1 : (12 : Int) < (bs.length : Int) := by omega
    go_enter Try.func70, Try.ntmps70
    go_wp2_with fail
    go_ret
    exact ⟨rfl, rfl⟩
  have HF : Hid (∀ j, j < bs.length → bagB k (bs.getD j []) = false → res = false) := hid fun j hj e => by
    rw [HR.out]; unfold bagsB
    rw [all_getD_false (bagB k) [] bs j hj e]; simp
  have HT : Hid ((∀ j, j < bs.length → bagB k (bs.getD j []) = true) → res = true) := hid fun h1 => by
    rw [HR.out]; unfold bagsB
    rw [decide_eq_true (by omega), all_getD (bagB k) [] bs h1]; rfl
  clear HR
  have d1 : ¬ ((12 : Int) < (bs.length : Int)) := by omega
  obtain ⟨n, hn⟩ : ∃ n, n = bs.length := ⟨_, rfl⟩
  rw [← hn] at HF HT hl1 HC d1 ⊢
  clear hn h12
  go_enter Try.func70, Try.ntmps70
  go_wp2_with fail
  go_loop [12] (fun t => ∃ j : Nat, j ≤ n ∧ t = .int .i64 j ∧ Hid (∀ i, i < j → bagB k (bs.getD i []) = true)) (fun t => n - (intOf t).toNat)
  case atStart => exact ⟨0, Nat.zero_le _, rfl, hid (fun i hi => by omega)⟩
  case round =>
    obtain ⟨j, hj, rfl, hok⟩ := hrel
    by_cases hjn : j < n
    · have i1 : (j : Int) < (n : Int) := by omega
      rcases HC.out with h0 | ⟨b, o, rfl, hcell⟩
      · omega
      · obtain ⟨u, c1, hu⟩ := hcell j hjn
        have HK := hid (isBelow_calls w u (bs.getD j []) k hu (HL.out j))
        have HV := hid (isVariableSet_calls w u (bs.getD j []) hu (HL.out j))
        obtain ⟨a1, cap1, rfl, -⟩ := hu
        have fin := HF.out j hjn
        have nxt : bagB k (bs.getD j []) = true → Hid (∀ i, i < j + 1 → bagB k (bs.getD i []) = true) := fun e i hi => by
          by_cases e2 : i = j
          · rw [e2]; exact e
          · exact hok.out i (by omega)
        have hb : bagB k (bs.getD j []) = (!decide ((bs.getD j []).length = 0) && setB (bs.getD j []) && lowB k (bs.getD j [])) := rfl
        have hml := HL.out j
        clear hcell hok
        generalize bagB k (bs.getD j []) = y at *
        generalize (bs.getD j []).length = m at *
        generalize lowB k (bs.getD j []) = y1 at *
        generalize setB (bs.getD j []) = y2 at *
        by_cases hm0 : m = 0
        · subst hm0
          obtain rfl := fin (by rw [hb]; rfl)
          clear nxt
          go_wp2_with fail
          go_ret
          exact ⟨rfl, rfl⟩
        have hm1 : ¬ ((m : Int) = 0) := by omega
        rw [decide_eq_false hm0, Bool.not_false, Bool.true_and] at hb
        cases y2
        · obtain rfl := fin (by rw [hb]; rfl)
          clear nxt
          go_wp2_with fail
          refine HV.out.mono ?_
          rintro e w1 ⟨rfl, hw1⟩
          subst w1
          go_wp2_with fail
          go_ret
          exact ⟨rfl, rfl⟩
        rw [Bool.true_and] at hb
        cases y1
        · obtain rfl := fin hb
          clear nxt
          go_wp2_with fail
          refine HV.out.mono ?_
          rintro e w1 ⟨rfl, hw1⟩
          subst w1
          go_wp2_with fail
          refine HK.out.mono ?_
          rintro e w1 ⟨rfl, hw1⟩
          subst w1
          go_wp2_with fail
          go_ret
          exact ⟨rfl, rfl⟩
        have hf := nxt hb
        clear fin nxt
        go_wp2_with fail
        refine HV.out.mono ?_
        rintro e w1 ⟨rfl, hw1⟩
        subst w1
        go_wp2_with fail
        refine HK.out.mono ?_
        rintro e w1 ⟨rfl, hw1⟩
        subst w1
        go_wp2_with fail
        go_round
        case rel => exact ⟨j + 1, by omega, by go_num, hf⟩
        case measure => simp [intOf]; omega
    · obtain rfl : j = n := by omega
      obtain rfl := HT.out hok.out
      have i1 : ¬ ((j : Int) < (j : Int)) := by omega
      clear hok
      go_wp2_with fail
      go_ret
      exact ⟨rfl, rfl⟩

set_option maxHeartbeats 4000000 in
set_option maxRecDepth 1000000 in
theorem areParents_calls (w : World) (v : Value) (ps : List Int) (q : Int) (h : IS w v ps) (hl : ps.length ≤ 1099511627776) :
    Calls Try.prog 71 #[v, .int .i64 q] w fun e w' => e = .returned (.bool (parsB ps q)) ∧ w' = w := by
  obtain ⟨a, cap, rfl, hc⟩ := h
  obtain ⟨res, hres⟩ : ∃ r, r = parsB ps q := ⟨_, rfl⟩
  rw [← hres]
  have HR := hid hres
  have HC := hid hc
  clear hc hres
  by_cases hq : (ps.length : Int) = q
  case neg =>
    have hf : res = false := by rw [HR.out]; unfold parsB; rw [decide_eq_false hq]; rfl
    subst hf
    have i1 : ((ps.length : Int) != q) = true := by simpa using hq
    go_enter Try.func71, Try.ntmps71
    go_wp2_with fail
    go_ret
    exact ⟨rfl, rfl⟩
  subst hq
  have HF : Hid (∀ j, j < ps.length → parB ps.length ps j = false → res = false) := hid fun j hj e => by
    rw [HR.out]; unfold parsB
    rw [range_all_false hj e]; simp
  have HT : Hid ((∀ j, j < ps.length → parB ps.length ps j = true) → res = true) := hid fun h1 => by
    rw [HR.out]; unfold parsB
    rw [decide_eq_true rfl, range_all_true h1]; rfl
  clear HR
  have d1 : (((ps.length : Int)) != (ps.length : Int)) = false := by simp
  have HP : Hid (∀ j, parB ps.length ps j = (decide (ps.getD j 0 = -1) || (decide ((j : Int) < ps.getD j 0) && decide (ps.getD j 0 < (ps.length : Int))))) := hid fun j => rfl
  obtain ⟨n, hn⟩ : ∃ n, n = ps.length := ⟨_, rfl⟩
  rw [← hn] at HF HT hl HC d1 HP ⊢
  clear hn
  go_enter Try.func71, Try.ntmps71
  go_wp2_with fail
  go_loop [13] (fun t => ∃ j : Nat, j ≤ n ∧ t = .int .i64 j ∧ Hid (∀ i, i < j → parB n ps i = true)) (fun t => n - (intOf t).toNat)
  case atStart => exact ⟨0, Nat.zero_le _, rfl, hid (fun i hi => by omega)⟩
  case round =>
    obtain ⟨j, hj, rfl, hok⟩ := hrel
    by_cases hjn : j < n
    · have i1 : (j : Int) < (n : Int) := by omega
      rcases HC.out with h0 | ⟨b, o, rfl, hcell⟩
      · omega
      · have c1 := hcell j hjn
        have fin := HF.out j hjn
        have nxt : parB n ps j = true → Hid (∀ i, i < j + 1 → parB n ps i = true) := fun e i hi => by
          by_cases e2 : i = j
          · rw [e2]; exact e
          · exact hok.out i (by omega)
        have hp := HP.out j
        clear hcell hok
        generalize parB n ps j = y at *
        generalize ps.getD j 0 = x at *
        by_cases h1 : x = -1
        · subst h1
          have hf := nxt (by rw [hp]; rfl)
          clear fin nxt hp
          go_wp2_with fail
          go_round
          case rel => exact ⟨j + 1, by omega, by go_num, hf⟩
          case measure => simp [intOf]; omega
        have e1 : (x != -1) = true := by simpa using h1
        rw [decide_eq_false h1, Bool.false_or] at hp
        by_cases h2 : x ≤ (j : Int)
        · obtain rfl := fin (by rw [hp, decide_eq_false (by omega)]; rfl)
          clear nxt hp
          go_wp2_with fail
          go_ret
          exact ⟨rfl, rfl⟩
        rw [decide_eq_true (by omega : (j : Int) < x), Bool.true_and] at hp
        by_cases h3 : (n : Int) ≤ x
        · obtain rfl := fin (by rw [hp, decide_eq_false (by omega)])
          clear nxt hp
          go_wp2_with fail
          go_ret
          exact ⟨rfl, rfl⟩
        have hf := nxt (by rw [hp, decide_eq_true (by omega)])
        clear fin nxt hp
        go_wp2_with fail
        go_round
        case rel => exact ⟨j + 1, by omega, by go_num, hf⟩
        case measure => simp [intOf]; omega
    · obtain rfl : j = n := by omega
      obtain rfl := HT.out hok.out
      have i1 : ¬ ((j : Int) < (j : Int)) := by omega
      clear hok
      go_wp2_with fail
      go_ret
      exact ⟨rfl, rfl⟩

end Go.Proofs.Ytnmcgbfhgmmcpaa

/-
  Lists of texts: laws.szStringS, toStringS, eqStringS.
-/
namespace Go.Proofs.Ytnmcgbfhgmmcpaa
open Go.RowKit

def noTx : ByteArray := ⟨#[]⟩

def ISt (w : World) (v : Value) (l : List ByteArray) : Prop := ∃ a cap, v = .slice a l.length cap ∧ (l.length = 0 ∨ ∃ b o, a = some ⟨b, o, none⟩ ∧ ∀ j, j < l.length → w.cell? ⟨b, o + j, none⟩ = some (.string (l.getD j noTx)))

theorem ISt.below {w w' : World} {v : Value} {l : List ByteArray} (h : ISt w v l) (hb : Below w.heap.size w w') : ISt w' v l := by
  obtain ⟨a, cap, rfl, h⟩ := h
  refine ⟨a, cap, rfl, ?_⟩
  rcases h with h | ⟨b, o, rfl, h⟩
  · exact Or.inl h
  · exact Or.inr ⟨b, o, rfl, fun j hj => (hb.cell (p := ⟨b, o + j, none⟩) (World.block_lt_of_cell? w _ (h j hj))).trans (h j hj)⟩

theorem ISt.drewN {w : World} {v : Value} {l : List ByteArray} (h : ISt w v l) (m : Nat) : ISt (w.drewN m) v l := h

/-- a copy in block g -/
structure OwnSt (w : World) (g : Nat) (l : List ByteArray) : Prop where
  cell : ∀ j, j < l.length → w.cell? ⟨g, j, none⟩ = some (.string (l.getD j noTx))
  free : ∀ j, j < l.length → w.frozen? ⟨g, j, none⟩ = false
  lt : g < w.heap.size

theorem OwnSt.is {w : World} {g : Nat} {l : List ByteArray} (h : OwnSt w g l) : ISt w (.slice (some ⟨g, 0, none⟩) l.length l.length) l :=
  ⟨_, _, rfl, Or.inr ⟨g, 0, rfl, fun j hj => by rw [Nat.zero_add]; exact h.cell j hj⟩⟩
theorem OwnSt.below {w w' : World} {g : Nat} {l : List ByteArray} (h : OwnSt w g l) (hb : Below w.heap.size w w') : OwnSt w' g l :=
  ⟨fun j hj => (hb.cell (p := ⟨g, j, none⟩) h.lt).trans (h.cell j hj), fun j hj => (hb.frozen (p := ⟨g, j, none⟩) h.lt).trans (h.free j hj), Nat.lt_of_lt_of_le h.lt hb.size⟩
theorem OwnSt.move {w w' : World} {g : Nat} {l : List ByteArray} (h : OwnSt w g l) (hb : w'.heap[g]? = w.heap[g]?) (hs : w.heap.size ≤ w'.heap.size) : OwnSt w' g l :=
  ⟨fun j hj => (World.cell?_of_block (w := w) (a := ⟨g, j, none⟩) hb).trans (h.cell j hj), fun j hj => (World.frozen?_of_block (w := w) (a := ⟨g, j, none⟩) hb).trans (h.free j hj), Nat.lt_of_lt_of_le h.lt hs⟩

end Go.Proofs.Ytnmcgbfhgmmcpaa

/-
  Marks on a copy: cells keep their kind, only the copy's own blocks are turned.
-/
namespace Go.Proofs.Ytnmcgbfhgmmcpaa
open Go.RowKit

structure Fr (lo hi : Nat) (w w' : World) : Prop where
  os : w'.os = w.os
  tape : w'.tape = w.tape
  output : w'.output = w.output
  size : w.heap.size ≤ w'.heap.size
  block : ∀ b, b < w.heap.size → (b < lo ∨ hi ≤ b) → w'.heap[b]? = w.heap[b]?

theorem Fr.refl (lo hi : Nat) (w : World) : Fr lo hi w w := ⟨rfl, rfl, rfl, Nat.le_refl _, fun _ _ _ => rfl⟩
theorem Fr.trans {lo hi : Nat} {a b c : World} (h : Fr lo hi a b) (k : Fr lo hi b c) : Fr lo hi a c :=
  ⟨k.os.trans h.os, k.tape.trans h.tape, k.output.trans h.output, Nat.le_trans h.size k.size, fun x hx hg => (k.block x (Nat.lt_of_lt_of_le hx h.size) hg).trans (h.block x hx hg)⟩
theorem Fr.bel {lo hi : Nat} {a b c : World} (h : Fr lo hi a b) (k : Below b.heap.size b c) : Fr lo hi a c :=
  h.trans ⟨k.os, k.tape, k.output, k.size, fun x hx _ => k.block x hx⟩
theorem Fr.set {lo hi g o : Nat} {a b : World} {v : Value} (h : Fr lo hi a b) (h1 : lo ≤ g) (h2 : g < hi) : Fr lo hi a (b.setCell ⟨g, o, none⟩ v) :=
  h.trans ⟨rfl, rfl, rfl, by simp [World.setCell], fun x _ hg => Below.heap_setCell _ _ _ _ (by show x ≠ g; omega)⟩


/-- cells keep their kind; blocks below lo and from hi on are as they were -/
structure Mk (lo hi : Nat) (w w' : World) : Prop where
  fr : Fr lo hi w w'
  num : ∀ b q x, w.cell? ⟨b, q, none⟩ = some (.int .i64 x) → ∃ y, w'.cell? ⟨b, q, none⟩ = some (.int .i64 y)
  str : ∀ b q x, w.cell? ⟨b, q, none⟩ = some (.string x) → ∃ y, w'.cell? ⟨b, q, none⟩ = some (.string y)
  sl : ∀ b q a n c, w.cell? ⟨b, q, none⟩ = some (.slice a n c) → w'.cell? ⟨b, q, none⟩ = some (.slice a n c)
  froz : ∀ b q, b < w.heap.size → w.frozen? ⟨b, q, none⟩ = false → w'.frozen? ⟨b, q, none⟩ = false
section
variable {lo hi : Nat} {a b c : World}
theorem Mk.refl (lo hi : Nat) (a : World) : Mk lo hi a a := ⟨Fr.refl _ _ _, fun _ _ x h => ⟨x, h⟩, fun _ _ x h => ⟨x, h⟩, fun _ _ _ _ _ h => h, fun _ _ _ h => h⟩
theorem Mk.trans (h : Mk lo hi a b) (k : Mk lo hi b c) : Mk lo hi a c :=
  ⟨h.fr.trans k.fr, fun x q u e => by obtain ⟨y, e2⟩ := h.num x q u e; exact k.num x q y e2, fun x q u e => by obtain ⟨y, e2⟩ := h.str x q u e; exact k.str x q y e2, fun x q u n m e => k.sl x q u n m (h.sl x q u n m e), fun x q e f => k.froz x q (Nat.lt_of_lt_of_le e h.fr.size) (h.froz x q e f)⟩
theorem bclX {W W' : World} {x q : Nat} {u : Value} (h : Below W.heap.size W W') (e : W.cell? ⟨x, q, none⟩ = some u) : W'.cell? ⟨x, q, none⟩ = some u := (h.cell (p := ⟨x, q, none⟩) (World.block_lt_of_cell? W _ e)).trans e
theorem Mk.of_below (h : Below a.heap.size a b) : Mk lo hi a b :=
  ⟨(Fr.refl lo hi a).bel h, fun _ _ u e => ⟨u, bclX h e⟩, fun _ _ u e => ⟨u, bclX h e⟩, fun _ _ _ _ _ e => bclX h e, fun x q e f => (h.frozen (p := ⟨x, q, none⟩) e).trans f⟩
theorem Mk.setI {g o : Nat} {x y : Int} (h : a.cell? ⟨g, o, none⟩ = some (.int .i64 x)) (h1 : lo ≤ g) (h2 : g < hi) : Mk lo hi a (a.setCell ⟨g, o, none⟩ (.int .i64 y)) := by
  have ne : ∀ {b q : Nat} {u : Value}, a.cell? ⟨b, q, none⟩ = some u → (b = g ∧ q = o) ∨ (a.setCell ⟨g, o, none⟩ (.int .i64 y)).cell? ⟨b, q, none⟩ = some u := fun {b q u} e => by
    by_cases e2 : b = g ∧ q = o
    · exact Or.inl e2
    · exact Or.inr ((World.cell?_setCell_other _ _ _ _ (by intro e3; simp only [Addr.mk.injEq] at e3; exact e2 ⟨by omega, by omega⟩)).trans e)
  refine ⟨(Fr.refl lo hi a).set h1 h2, fun b q u e => ?_, fun b q u e => ?_, fun b q u n m e => ?_, fun b q _ f => by rw [World.frozen?_setCell]; exact f⟩
  · rcases ne e with ⟨rfl, rfl⟩ | e2
    · exact ⟨y, World.cell?_setCell_same _ _ _ h⟩
    · exact ⟨u, e2⟩
  · rcases ne e with ⟨rfl, rfl⟩ | e2
    · rw [h] at e; cases e
    · exact ⟨u, e2⟩
  · rcases ne e with ⟨rfl, rfl⟩ | e2
    · rw [h] at e; cases e
    · exact e2
theorem Mk.setS {g o : Nat} {x y : ByteArray} (h : a.cell? ⟨g, o, none⟩ = some (.string x)) (h1 : lo ≤ g) (h2 : g < hi) : Mk lo hi a (a.setCell ⟨g, o, none⟩ (.string y)) := by
  have ne : ∀ {b q : Nat} {u : Value}, a.cell? ⟨b, q, none⟩ = some u → (b = g ∧ q = o) ∨ (a.setCell ⟨g, o, none⟩ (.string y)).cell? ⟨b, q, none⟩ = some u := fun {b q u} e => by
    by_cases e2 : b = g ∧ q = o
    · exact Or.inl e2
    · exact Or.inr ((World.cell?_setCell_other _ _ _ _ (by intro e3; simp only [Addr.mk.injEq] at e3; exact e2 ⟨by omega, by omega⟩)).trans e)
  refine ⟨(Fr.refl lo hi a).set h1 h2, fun b q u e => ?_, fun b q u e => ?_, fun b q u n m e => ?_, fun b q _ f => by rw [World.frozen?_setCell]; exact f⟩
  · rcases ne e with ⟨rfl, rfl⟩ | e2
    · rw [h] at e; cases e
    · exact ⟨u, e2⟩
  · rcases ne e with ⟨rfl, rfl⟩ | e2
    · exact ⟨y, World.cell?_setCell_same _ _ _ h⟩
    · exact ⟨u, e2⟩
  · rcases ne e with ⟨rfl, rfl⟩ | e2
    · rw [h] at e; cases e
    · exact e2
end

/-- n numbers in block g -/
structure ShI (lo hi : Nat) (W : World) (g n : Nat) : Prop where
  lo : lo ≤ g
  hi : g < hi
  lt : g < W.heap.size
  cell : ∀ j, j < n → ∃ x, W.cell? ⟨g, j, none⟩ = some (.int .i64 x)
  free : ∀ j, j < n → W.frozen? ⟨g, j, none⟩ = false
theorem ShI.kp {lo hi : Nat} {W W' : World} {g n : Nat} (h : ShI lo hi W g n) (k : Mk lo hi W W') : ShI lo hi W' g n :=
  ⟨h.lo, h.hi, Nat.lt_of_lt_of_le h.lt k.fr.size, fun j hj => by obtain ⟨x, e⟩ := h.cell j hj; exact k.num _ _ _ e, fun j hj => k.froz _ _ h.lt (h.free j hj)⟩
theorem OwnI.sh {lo hi : Nat} {W : World} {g : Nat} {l : List Int} (h : OwnI W g l) (h1 : lo ≤ g) (h2 : g < hi) : ShI lo hi W g l.length := ⟨h1, h2, h.lt, fun j hj => ⟨_, h.cell j hj⟩, h.free⟩

set_option maxHeartbeats 1000000 in
set_option maxRecDepth 1000000 in
theorem markIntS_mk (w : World) (lo hi g n cap k : Nat) (h : ShI lo hi w g n) (hn : n ≤ 1048576) (hk : k ≤ 1099511627776) :
    Calls Try.prog 19 #[.slice (some ⟨g, 0, none⟩) n cap, .int .i64 (k : Int)] w fun e w' => e = .returned (.int .i64 ((k + n : Nat) : Int)) ∧ Mk lo hi w w' := by
  have HS := hid h
  clear h
  go_enter Try.func19, Try.ntmps19
  go_wp2
  go_loopw [1, 5] (fun u t wr => ∃ j : Nat, j ≤ n ∧ t = .int .i64 j ∧ u = .int .i64 ((k + j : Nat) : Int) ∧ Hid (Mk lo hi w wr)) (fun _ t _ => n - (intOf t).toNat)
  case atStart => exact ⟨0, Nat.zero_le _, rfl, rfl, hid (Mk.refl _ _ _)⟩
  case round =>
    obtain ⟨j, hj, rfl, rfl, HM⟩ := hrel
    by_cases hjn : j < n
    · have i1 : (j : Int) < (n : Int) := by omega
      have hS := HS.out.kp HM.out
      obtain ⟨x, c2⟩ := hS.cell j hjn
      have c3 := hS.free j hjn
      have HN : Hid (∀ y : Int, Mk lo hi w (wr.setCell ⟨g, j, none⟩ (.int .i64 y))) := hid fun y => HM.out.trans (Mk.setI c2 hS.lo hS.hi)
      clear hS HM
      go_wp2
      go_roundw
      case rel => exact ⟨j + 1, by omega, by go_num, by go_num, hid (HN.out _)⟩
      case measure => simp [intOf]; omega
    · obtain rfl : j = n := by omega
      have i1 : ¬ ((j : Int) < (j : Int)) := by omega
      go_wp2
      go_ret
      first | exact ⟨rfl, HM.out⟩ | exact HM.out

def sumN (ln : Nat → Nat) : Nat → Nat
  | 0 => 0
  | j + 1 => sumN ln j + ln j
theorem sumN_le (ln : Nat → Nat) : ∀ {i j : Nat}, i ≤ j → sumN ln i ≤ sumN ln j
  | i, 0, h => by
    have e : i = 0 := Nat.le_zero.1 h
    subst e
    exact Nat.le_refl _
  | i, j + 1, h => by
    by_cases e : i = j + 1
    · rw [e]; exact Nat.le_refl _
    · exact Nat.le_trans (sumN_le ln (i := i) (j := j) (by omega)) (Nat.le_add_right _ _)
theorem sumN_tot (ls : List (List Int)) : ∀ k, k ≤ ls.length → tot ls k = ls.length + sumN (fun i => (ls.getD i []).length) k
  | 0, _ => by rw [tot_zero]; rfl
  | k + 1, h => by rw [tot_succ ls k (by omega), sumN_tot ls k (by omega)]; show _ = ls.length + (sumN _ k + (ls.getD k []).length); omega

/-- n lists of numbers, their slices in block G -/
def ShSS (lo hi : Nat) (W : World) (G n : Nat) (ln : Nat → Nat) : Prop := ∀ j, j < n → ∃ c, W.cell? ⟨G, j, none⟩ = some (.slice (some ⟨c, 0, none⟩) (ln j) (ln j)) ∧ ShI lo hi W c (ln j)
theorem ShSS.kp {lo hi : Nat} {W W' : World} {G n : Nat} {ln : Nat → Nat} (h : ShSS lo hi W G n ln) (k : Mk lo hi W W') : ShSS lo hi W' G n ln := fun j hj => by
  obtain ⟨c, e, hc⟩ := h j hj
  exact ⟨c, k.sl _ _ _ _ _ e, hc.kp k⟩

set_option maxHeartbeats 1000000 in
set_option maxRecDepth 1000000 in
theorem markIntSS_mk (w : World) (lo hi G n cap k : Nat) (ln : Nat → Nat) (h : ShSS lo hi w G n ln) (hn : n ≤ 1048576) (hs : sumN ln n ≤ 1048576) (hk : k ≤ 99511627776) :
    Calls Try.prog 20 #[.slice (some ⟨G, 0, none⟩) n cap, .int .i64 (k : Int)] w fun e w' => e = .returned (.int .i64 ((k + sumN ln n : Nat) : Int)) ∧ Mk lo hi w w' := by
  have HS := hid h
  have HL : Hid (∀ i, i < n → sumN ln i + ln i ≤ 1048576) := hid fun i hi => Nat.le_trans (sumN_le ln (show i + 1 ≤ n from hi)) hs
  clear h hs
  go_enter Try.func20, Try.ntmps20
  go_wp2
  go_loopw [1, 5] (fun u t wr => ∃ j : Nat, j ≤ n ∧ t = .int .i64 j ∧ ∃ c : Nat, u = .int .i64 (c : Int) ∧ Hid (c = k + sumN ln j ∧ Mk lo hi w wr)) (fun _ t _ => n - (intOf t).toNat)
  case atStart => exact ⟨0, Nat.zero_le _, rfl, k, rfl, hid ⟨rfl, Mk.refl _ _ _⟩⟩
  case round =>
    obtain ⟨j, hj, rfl, c, rfl, HM⟩ := hrel
    by_cases hjn : j < n
    · have i1 : (j : Int) < (n : Int) := by omega
      obtain ⟨b, c2, hb⟩ := (HS.out.kp HM.out.2) j hjn
      have hL := HL.out j hjn
      have K := hid (markIntS_mk wr lo hi b (ln j) (ln j) c hb (by omega) (by rw [HM.out.1]; omega))
      have HE : Hid (c + ln j = k + sumN ln (j + 1)) := hid (by rw [HM.out.1]; show _ = k + (sumN ln j + ln j); omega)
      have HM2 := hid HM.out.2
      clear hb hL HM
      generalize ln j = m at *
      go_wp2_with fail
      refine K.out.mono ?_
      rintro e w2 ⟨rfl, hm⟩
      have HN := hid (HM2.out.trans hm)
      clear hm K c2
      go_wp2_with fail
      go_roundw
      case rel => exact ⟨j + 1, by omega, by go_num, _, rfl, hid ⟨HE.out, HN.out⟩⟩
      case measure => simp [intOf]; omega
    · obtain rfl : j = n := by omega
      have i1 : ¬ ((j : Int) < (j : Int)) := by omega
      go_wp2
      go_ret
      exact ⟨ret_int (by have := HM.out.1; omega), HM.out.2⟩


end Go.Proofs.Ytnmcgbfhgmmcpaa
