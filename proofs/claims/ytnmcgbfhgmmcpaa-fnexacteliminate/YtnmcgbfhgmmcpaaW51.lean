import Derived.Deep.Cut
import Derived.Test.YtnmcgbfhgmmcpaaW44
import Derived.Test.YtnmcgbfhgmmcpaaW50
/-
  Orders; the plan of an order, as lists.
-/
namespace Go.Proofs.Ytnmcgbfhgmmcpaa
open Go.RowKit

def ordAt (k : Int) (o : List Int) (i : Nat) : Bool := decide (0 ≤ o.getD i 0) && decide (o.getD i 0 < k) && !decide (o.getD i 0 ∈ o.take i)
def ordB (k : Int) (o : List Int) : Bool := decide ((o.length : Int) = k) && (List.range o.length).all (ordAt k o)
def ordS (k : Int) (o : List Int) : Bool := decide ((o.length : Int) = k) && (List.range k.toNat).all fun v => decide ((v : Int) ∈ o)

def upN (n : Nat) : List Int := (List.range n).map Int.ofNat
theorem upN_nodup (n : Nat) : (upN n).Nodup := by
  unfold upN List.Nodup
  rw [List.pairwise_map]
  refine List.Pairwise.imp ?_ List.nodup_range
  intro a b h e
  simp only [Int.ofNat_eq_natCast] at e
  omega
theorem upN_mem {n : Nat} {x : Int} : x ∈ upN n ↔ 0 ≤ x ∧ x < (n : Int) := by
  unfold upN
  rw [List.mem_map]
  constructor
  · rintro ⟨a, ha, rfl⟩
    simp only [Int.ofNat_eq_natCast]
    have := List.mem_range.1 ha
    omega
  · intro h
    exact ⟨x.toNat, List.mem_range.2 (by omega), by simp only [Int.ofNat_eq_natCast]; omega⟩
theorem upN_length (n : Nat) : (upN n).length = n := by simp [upN]

theorem ord_nodup {k : Int} {o : List Int} (h : ∀ i, i < o.length → ordAt k o i = true) : o.Nodup := by
  unfold List.Nodup
  rw [List.pairwise_iff_getElem]
  intro i j hi hj hij e
  have := h j hj
  unfold ordAt at this
  rw [Bool.and_eq_true, Bool.not_eq_true', decide_eq_false_iff_not] at this
  refine this.2 ?_
  have e1 : o.getD j 0 = o[j] := by rw [List.getD_eq_getElem?_getD, List.getElem?_eq_getElem hj]; rfl
  rw [e1, ← e, List.mem_iff_getElem]
  exact ⟨i, by rw [List.length_take]; omega, by rw [List.getElem_take]⟩

theorem ord_eq (k : Int) (o : List Int) : ordB k o = ordS k o := by
  unfold ordB ordS
  by_cases hk : (o.length : Int) = k
  case neg => rw [decide_eq_false hk]; rfl
  rw [decide_eq_true hk, Bool.true_and, Bool.true_and]
  subst hk
  rw [show ((o.length : Int)).toNat = o.length by omega]
  cases hb : (List.range o.length).all (ordAt o.length o)
  · cases hs : (List.range o.length).all fun v => decide ((v : Int) ∈ o)
    · rfl
    · exfalso
      rw [List.all_eq_true] at hs
      have hsub : ∀ x ∈ upN o.length, x ∈ o := by
        intro x hx
        obtain ⟨h1, h2⟩ := upN_mem.1 hx
        have := hs x.toNat (List.mem_range.2 (by omega))
        rw [decide_eq_true_eq, show ((x.toNat : Nat) : Int) = x by omega] at this
        exact this
      rw [List.all_eq_false] at hb
      obtain ⟨i, hi, hb⟩ := hb
      have hi' : i < o.length := by simpa using hi
      have e1 : o.getD i 0 = o[i] := by rw [List.getD_eq_getElem?_getD, List.getElem?_eq_getElem hi']; rfl
      have key : ∀ x ∈ upN o.length, x ∈ o.eraseIdx i := by
        intro x hx
        have hxo := hsub x hx
        obtain ⟨h1, h2⟩ := upN_mem.1 hx
        obtain ⟨j, hj, ej⟩ := List.getElem_of_mem hxo
        by_cases hij : j = i
        · subst hij
          unfold ordAt at hb
          rw [e1, ej, decide_eq_true h1, decide_eq_true h2, Bool.true_and, Bool.true_and] at hb
          have hm : x ∈ o.take j := by simpa using hb
          obtain ⟨l, hl, el⟩ := List.getElem_of_mem hm
          rw [List.length_take] at hl
          rw [List.getElem_take] at el
          rw [List.mem_eraseIdx_iff_getElem]
          exact ⟨l, by omega, by omega, el⟩
        · rw [List.mem_eraseIdx_iff_getElem]
          exact ⟨j, hj, hij, ej⟩
      have := nodup_sub_len (upN_nodup o.length) key
      rw [upN_length, List.length_eraseIdx_of_lt hi'] at this
      omega
  · symm
    rw [List.all_eq_true] at hb
    have hall : ∀ i, i < o.length → ordAt o.length o i = true := fun i hi => hb i (by simpa using hi)
    have hnd := ord_nodup hall
    refine range_all_true fun v hv => ?_
    rw [decide_eq_true_eq]
    refine Classical.byContradiction fun hno => ?_
    have key : ∀ x ∈ o, x ∈ (upN o.length).erase (v : Int) := by
      intro x hx
      obtain ⟨j, hj, ej⟩ := getD_mem hx
      have := hall j hj
      unfold ordAt at this
      rw [Bool.and_eq_true, Bool.and_eq_true, decide_eq_true_eq, decide_eq_true_eq, ej] at this
      have hne : x ≠ (v : Int) := fun e => hno (e ▸ hx)
      exact (List.mem_erase_of_ne hne).2 (upN_mem.2 this.1)
    have := nodup_sub_len hnd key
    rw [List.length_erase_of_mem (upN_mem.2 ⟨by omega, by omega⟩), upN_length] at this
    omega

/-- the first place from p on whose variable is in the set; -1 if there's none -/
def firstF (s o : List Int) : Nat → Nat → Int
  | 0, _ => -1
  | f + 1, p => if decide (o.getD p 0 ∈ s) then (p : Int) else firstF s o f (p + 1)
def firstP (s o : List Int) (p : Nat) : Int := firstF s o (o.length - p) p

theorem firstP_end (s o : List Int) {p : Nat} (h : o.length ≤ p) : firstP s o p = -1 := by
  unfold firstP
  rw [show o.length - p = 0 by omega]; rfl
theorem firstP_hit {s o : List Int} {p : Nat} (h : p < o.length) (hm : o.getD p 0 ∈ s) : firstP s o p = (p : Int) := by
  unfold firstP
  obtain ⟨f, hf⟩ : ∃ f, o.length - p = f + 1 := ⟨o.length - p - 1, by omega⟩
  rw [hf]
  show (if decide (o.getD p 0 ∈ s) then (p : Int) else _) = _
  rw [if_pos (by simpa using hm)]
theorem firstP_miss {s o : List Int} {p : Nat} (h : p < o.length) (hm : ¬ o.getD p 0 ∈ s) : firstP s o p = firstP s o (p + 1) := by
  unfold firstP
  obtain ⟨f, hf⟩ : ∃ f, o.length - p = f + 1 := ⟨o.length - p - 1, by omega⟩
  rw [hf, show o.length - (p + 1) = f by omega]
  show (if decide (o.getD p 0 ∈ s) then (p : Int) else _) = _
  rw [if_neg (by simpa using hm)]

/-- the edges as a graph -/
def adjB (es : List (List Int)) (a b : Nat) : Bool := es.any fun e => decide ((a : Int) ∈ e) && decide ((b : Int) ∈ e)
theorem adj_symm (es : List (List Int)) (a b : Nat) : adjB es a b = adjB es b a := by
  unfold adjB
  congr 1
  funext e
  rw [Bool.and_comm]
def oN (o : List Int) (i : Nat) : Nat := (o.getD i 0).toNat
/-- bag i of an order -/
def bagE (es : List (List Int)) (o : List Int) (i : Nat) : List Int := ((List.range 6).filter fun b => Elim.gAt (adjB es) (oN o) i (oN o i) b).map Int.ofNat

end Go.Proofs.Ytnmcgbfhgmmcpaa

/-
  impl.isOrder, impl.placeOfFirst; spec.l4OrderOK, spec.l4Place.
-/
namespace Go.Proofs.Ytnmcgbfhgmmcpaa
open Go.RowKit

theorem IS.take {w : World} {a : Option Addr} {n cap j : Nat} {l : List Int} (h : IS w (.slice a n cap) l) (hj : j ≤ l.length) (cap' : Nat) : IS w (.slice a j cap') (l.take j) := by
  obtain ⟨a', c', e, hc⟩ := h
  simp only [Value.slice.injEq] at e
  obtain ⟨rfl, rfl, rfl⟩ := e
  have hl : (l.take j).length = j := by rw [List.length_take]; omega
  refine ⟨a, cap', by rw [hl], ?_⟩
  rw [hl]
  rcases hc with h0 | ⟨b, o, rfl, hc⟩
  · exact Or.inl (by omega)
  · refine Or.inr ⟨b, o, rfl, fun i hi => ?_⟩
    rw [hc i (by omega)]
    rw [List.getD_eq_getElem?_getD, List.getD_eq_getElem?_getD, List.getElem?_take_of_lt hi]

set_option maxHeartbeats 4000000 in
set_option maxRecDepth 1000000 in
theorem isOrder_calls (w : World) (v : Value) (o : List Int) (k : Int) (h : IS w v o) (hl : o.length ≤ 1099511627776) (hcap : ∀ a n cap, v = .slice a n cap → n ≤ cap) :
    Calls Try.prog 77 #[.int .i64 k, v] w fun e w' => e = .returned (.bool (ordB k o)) ∧ w' = w := by
  have HI := hid h
  obtain ⟨a, cap, rfl, hc⟩ := h
  have hcp := hcap _ _ _ rfl
  obtain ⟨res, hres⟩ : ∃ r, r = ordB k o := ⟨_, rfl⟩
  rw [← hres]
  have HR := hid hres
  have HC := hid hc
  clear hc hres hcap
  by_cases hq : (o.length : Int) = k
  case neg =>
    have hf : res = false := by rw [HR.out]; unfold ordB; rw [decide_eq_false hq]; rfl
    subst hf
    have i1 : ((o.length : Int) != k) = true := by simpa using hq
    clear HC HI HR
    generalize o.length = n at *
    go_enter Try.func77, Try.ntmps77
    go_wp2_with fail
    go_ret
    exact ⟨rfl, rfl⟩
  subst hq
  have HF : Hid (∀ j, j < o.length → ordAt o.length o j = false → res = false) := hid fun j hj e => by
    rw [HR.out]; unfold ordB
    rw [range_all_false hj e]; simp
  have HT : Hid ((∀ j, j < o.length → ordAt o.length o j = true) → res = true) := hid fun h1 => by
    rw [HR.out]; unfold ordB
    rw [decide_eq_true rfl, range_all_true h1]; rfl
  have HP : Hid (∀ j, ordAt o.length o j = (decide (0 ≤ o.getD j 0) && decide (o.getD j 0 < (o.length : Int)) && !decide (o.getD j 0 ∈ o.take j))) := hid fun _ => rfl
  have HK : Hid (∀ j x, j ≤ o.length → Calls Try.prog 101 #[.slice a j cap, .int .i64 x] w fun e w' => e = .returned (.bool (decide (x ∈ o.take j))) ∧ w' = w) := hid fun j x hj => sContains_calls w _ _ x (HI.out.take hj cap) (by rw [List.length_take]; omega)
  clear HR HI
  have d1 : (((o.length : Int)) != (o.length : Int)) = false := by simp
  obtain ⟨n, hn⟩ : ∃ n, n = o.length := ⟨_, rfl⟩
  rw [← hn] at HF HT hl HC d1 HP HK hcp ⊢
  clear hn
  go_enter Try.func77, Try.ntmps77
  go_wp2_with fail
  go_loop [13] (fun t => ∃ j : Nat, j ≤ n ∧ t = .int .i64 j ∧ Hid (∀ i, i < j → ordAt n o i = true)) (fun t => n - (intOf t).toNat)
  case atStart => exact ⟨0, Nat.zero_le _, rfl, hid (fun i hi => by omega)⟩
  case round =>
    obtain ⟨j, hj, rfl, hok⟩ := hrel
    by_cases hjn : j < n
    · have i1 : (j : Int) < (n : Int) := by omega
      rcases HC.out with h0 | ⟨b, of, rfl, hcell⟩
      · omega
      · have c1 := hcell j hjn
        have fin := HF.out j hjn
        have nxt : ordAt n o j = true → Hid (∀ i, i < j + 1 → ordAt n o i = true) := fun e i hi => by
          by_cases e2 : i = j
          · rw [e2]; exact e
          · exact hok.out i (by omega)
        have hp := HP.out j
        have KC := hid (HK.out j (o.getD j 0) (by omega))
        clear hcell hok
        generalize ordAt n o j = y at *
        generalize decide (o.getD j 0 ∈ o.take j) = f at *
        generalize o.getD j 0 = x at *
        by_cases h1 : x < 0
        · obtain rfl := fin (by rw [hp, decide_eq_false (by omega)]; rfl)
          clear nxt hp
          go_wp2_with fail
          go_ret
          exact ⟨rfl, rfl⟩
        have e1 : decide (x < 0) = false := by simp; omega
        by_cases h2 : (n : Int) ≤ x
        · obtain rfl := fin (by rw [hp, decide_eq_false (by omega : ¬ x < (n : Int))]; simp)
          clear nxt hp
          go_wp2_with fail
          go_ret
          exact ⟨rfl, rfl⟩
        have e2 : decide ((n : Int) ≤ x) = false := by simp; omega
        have j1 : (j : Int) ≤ (cap : Int) := by omega
        rw [decide_eq_true (by omega : 0 ≤ x), decide_eq_true (by omega : x < (n : Int)), Bool.true_and, Bool.true_and] at hp
        cases f
        · have hf := nxt hp
          clear fin nxt hp
          go_wp2_with fail
          refine KC.out.mono ?_
          rintro e w1 ⟨rfl, hw1⟩
          subst w1
          go_wp2_with fail
          go_round
          case rel => exact ⟨j + 1, by omega, by go_num, hf⟩
          case measure => simp [intOf]; omega
        · obtain rfl := fin hp
          clear nxt hp
          go_wp2_with fail
          refine KC.out.mono ?_
          rintro e w1 ⟨rfl, hw1⟩
          subst w1
          go_wp2_with fail
          go_ret
          exact ⟨rfl, rfl⟩
    · obtain rfl : j = n := by omega
      obtain rfl := HT.out hok.out
      have i1 : ¬ ((j : Int) < (j : Int)) := by omega
      clear hok
      go_wp2_with fail
      go_ret
      exact ⟨rfl, rfl⟩

set_option maxHeartbeats 4000000 in
set_option maxRecDepth 1000000 in
theorem placeOfFirst_calls (w : World) (vs vo : Value) (s o : List Int) (p : Nat) (hs : IS w vs s) (ho : IS w vo o) (hls : s.length ≤ 1099511627776) (hlo : o.length ≤ 1099511627776) (hp : p ≤ 1099511627776) :
    Calls Try.prog 105 #[vs, vo, .int .i64 p] w fun e w' => e = .returned (.int .i64 (firstP s o p)) ∧ w' = w := by
  have HS := hid hs
  obtain ⟨a0, c0, rfl, -⟩ := hs
  obtain ⟨a, cap, rfl, hc⟩ := ho
  obtain ⟨res, hres⟩ : ∃ r, r = firstP s o p := ⟨_, rfl⟩
  rw [← hres]
  have HR := hid hres
  have HC := hid hc
  clear hc hres
  obtain ⟨n, hn⟩ : ∃ n, n = o.length := ⟨_, rfl⟩
  have HN := hid hn
  rw [← hn] at hlo HC ⊢
  clear hn
  go_enter Try.func105, Try.ntmps105
  go_wp2_with fail
  go_loop [7] (fun t => ∃ j : Nat, j ≤ 1099511627776 + 1 ∧ t = .int .i64 j ∧ Hid (res = firstP s o j)) (fun t => 1099511627776 + 1 + n - (intOf t).toNat)
  case atStart => exact ⟨p, by omega, rfl, HR⟩
  case round =>
    obtain ⟨j, hj, rfl, hok⟩ := hrel
    by_cases hjn : j < n
    · have i1 : (j : Int) < (n : Int) := by omega
      rcases HC.out with h0 | ⟨b, of, rfl, hcell⟩
      · omega
      · have c1 := hcell j hjn
        have KC := hid (sContains_calls w _ s (o.getD j 0) HS.out hls)
        have hhit : o.getD j 0 ∈ s → res = (j : Int) := fun hm => hok.out.trans (firstP_hit (by rw [← HN.out]; exact hjn) hm)
        have hmiss : ¬ o.getD j 0 ∈ s → Hid (res = firstP s o (j + 1)) := fun hm => hok.out.trans (firstP_miss (by rw [← HN.out]; exact hjn) hm)
        clear hcell hok
        by_cases hm : o.getD j 0 ∈ s
        · obtain rfl := hhit hm
          rw [decide_eq_true hm] at KC
          clear hhit hmiss hm HR
          generalize o.getD j 0 = x at *
          go_wp2_with fail
          refine KC.out.mono ?_
          rintro e w1 ⟨rfl, hw1⟩
          subst w1
          go_wp2_with fail
          go_ret
          exact ⟨rfl, rfl⟩
        · have hf := hmiss hm
          rw [decide_eq_false hm] at KC
          clear hhit hmiss hm
          generalize o.getD j 0 = x at *
          go_wp2_with fail
          refine KC.out.mono ?_
          rintro e w1 ⟨rfl, hw1⟩
          subst w1
          go_wp2_with fail
          go_round
          case rel => exact ⟨j + 1, by omega, by go_num, hf⟩
          case measure => simp [intOf]; omega
    · have hr : res = -1 := hok.out.trans (firstP_end s o (by rw [← HN.out]; omega))
      subst hr
      have i1 : ¬ ((j : Int) < (n : Int)) := by omega
      clear hok HR
      go_wp2_with fail
      go_ret
      exact ⟨rfl, rfl⟩

end Go.Proofs.Ytnmcgbfhgmmcpaa

/-
  spec.l4OrderOK, spec.l4Place.
-/
namespace Go.Proofs.Ytnmcgbfhgmmcpaa
open Go.RowKit

set_option maxHeartbeats 4000000 in
set_option maxRecDepth 1000000 in
theorem l4OrderOK_calls (w : World) (v : Value) (o : List Int) (k : Int) (h : IS w v o) (hl : o.length ≤ 1099511627776) :
    Calls Try.prog 75 #[.int .i64 k, v] w fun e w' => e = .returned (.bool (ordS k o)) ∧ w' = w := by
  have HI := hid h
  obtain ⟨a, cap, rfl, -⟩ := h
  obtain ⟨res, hres⟩ : ∃ r, r = ordS k o := ⟨_, rfl⟩
  rw [← hres]
  have HR := hid hres
  clear hres
  by_cases hq : (o.length : Int) = k
  case neg =>
    have hf : res = false := by rw [HR.out]; unfold ordS; rw [decide_eq_false hq]; rfl
    subst hf
    have i1 : ((o.length : Int) != k) = true := by simpa using hq
    clear HI HR
    generalize o.length = n at *
    go_enter Try.func75, Try.ntmps75
    go_wp2_with fail
    go_ret
    exact ⟨rfl, rfl⟩
  subst hq
  have HF : Hid (∀ j, j < o.length → decide ((j : Int) ∈ o) = false → res = false) := hid fun j hj e => by
    rw [HR.out]; unfold ordS
    rw [show ((o.length : Int)).toNat = o.length by omega, range_all_false hj e]; simp
  have HT : Hid ((∀ j, j < o.length → decide ((j : Int) ∈ o) = true) → res = true) := hid fun h1 => by
    rw [HR.out]; unfold ordS
    rw [decide_eq_true rfl, show ((o.length : Int)).toNat = o.length by omega, range_all_true h1]; rfl
  have HK : Hid (∀ x : Int, Calls Try.prog 37 #[.slice a o.length cap, .int .i64 x] w fun e w' => e = .returned (.bool (decide (x ∈ o))) ∧ w' = w) := hid fun x => l1Has_calls w _ o x HI.out hl
  clear HR HI
  have d1 : (((o.length : Int)) != (o.length : Int)) = false := by simp
  obtain ⟨n, hn⟩ : ∃ n, n = o.length := ⟨_, rfl⟩
  rw [← hn] at HF HT hl d1 HK ⊢
  clear hn
  go_enter Try.func75, Try.ntmps75
  go_wp2_with fail
  go_loop [5] (fun t => ∃ j : Nat, j ≤ n ∧ t = .int .i64 j ∧ Hid (∀ i, i < j → decide ((i : Int) ∈ o) = true)) (fun t => n - (intOf t).toNat)
  case atStart => exact ⟨0, Nat.zero_le _, rfl, hid (fun i hi => by omega)⟩
  case round =>
    obtain ⟨j, hj, rfl, hok⟩ := hrel
    by_cases hjn : j < n
    · have i1 : (j : Int) < (n : Int) := by omega
      have fin := HF.out j hjn
      have nxt : decide ((j : Int) ∈ o) = true → Hid (∀ i, i < j + 1 → decide ((i : Int) ∈ o) = true) := fun e i hi => by
        by_cases e2 : i = j
        · rw [e2]; exact e
        · exact hok.out i (by omega)
      have KC := hid (HK.out (j : Int))
      clear hok
      generalize decide ((j : Int) ∈ o) = f at *
      cases f
      · obtain rfl := fin rfl
        clear nxt fin
        go_wp2_with fail
        refine KC.out.mono ?_
        rintro e w1 ⟨rfl, hw1⟩
        subst w1
        go_wp2_with fail
        go_ret
        exact ⟨rfl, rfl⟩
      · have hf := nxt rfl
        clear fin nxt
        go_wp2_with fail
        refine KC.out.mono ?_
        rintro e w1 ⟨rfl, hw1⟩
        subst w1
        go_wp2_with fail
        go_round
        case rel => exact ⟨j + 1, by omega, by go_num, hf⟩
        case measure => simp [intOf]; omega
    · obtain rfl : j = n := by omega
      obtain rfl := HT.out hok.out
      have i1 : ¬ ((j : Int) < (j : Int)) := by omega
      clear hok
      go_wp2_with fail
      go_ret
      exact ⟨rfl, rfl⟩

/-- the first place of x in a list; -1 if there's none -/
def plF (x : Int) (o : List Int) : Nat → Nat → Int
  | 0, _ => -1
  | f + 1, p => if o.getD p 0 = x then (p : Int) else plF x o f (p + 1)
def plI (x : Int) (o : List Int) (p : Nat) : Int := plF x o (o.length - p) p
theorem plI_end (x : Int) (o : List Int) {p : Nat} (h : o.length ≤ p) : plI x o p = -1 := by
  unfold plI
  rw [show o.length - p = 0 by omega]; rfl
theorem plI_hit {x : Int} {o : List Int} {p : Nat} (h : p < o.length) (hm : o.getD p 0 = x) : plI x o p = (p : Int) := by
  unfold plI
  obtain ⟨f, hf⟩ : ∃ f, o.length - p = f + 1 := ⟨o.length - p - 1, by omega⟩
  rw [hf]
  show (if o.getD p 0 = x then (p : Int) else _) = _
  rw [if_pos hm]
theorem plI_miss {x : Int} {o : List Int} {p : Nat} (h : p < o.length) (hm : ¬ o.getD p 0 = x) : plI x o p = plI x o (p + 1) := by
  unfold plI
  obtain ⟨f, hf⟩ : ∃ f, o.length - p = f + 1 := ⟨o.length - p - 1, by omega⟩
  rw [hf, show o.length - (p + 1) = f by omega]
  show (if o.getD p 0 = x then (p : Int) else _) = _
  rw [if_neg hm]
/-- where nothing stands twice, the place of what stands at i is i -/
theorem plI_at {o : List Int} (hnd : ∀ i j, i < j → j < o.length → o.getD i 0 ≠ o.getD j 0) : ∀ {f p i : Nat}, i < o.length → p ≤ i → f = i - p → plI (o.getD i 0) o p = (i : Int)
  | 0, p, i, hi, hp, hf => by
    obtain rfl : p = i := by omega
    exact plI_hit hi rfl
  | f + 1, p, i, hi, hp, hf => by
    rw [plI_miss (by omega) (hnd p i (by omega) hi)]
    exact plI_at hnd (f := f) hi (by omega) (by omega)

set_option maxHeartbeats 4000000 in
set_option maxRecDepth 1000000 in
theorem l4Place_calls (w : World) (v : Value) (o : List Int) (x : Int) (ho : IS w v o) (hlo : o.length ≤ 1099511627776) :
    Calls Try.prog 120 #[v, .int .i64 x] w fun e w' => e = .returned (.int .i64 (plI x o 0)) ∧ w' = w := by
  obtain ⟨a, cap, rfl, hc⟩ := ho
  obtain ⟨res, hres⟩ : ∃ r, r = plI x o 0 := ⟨_, rfl⟩
  rw [← hres]
  have HR := hid hres
  have HC := hid hc
  clear hc hres
  obtain ⟨n, hn⟩ : ∃ n, n = o.length := ⟨_, rfl⟩
  have HN := hid hn
  rw [← hn] at hlo HC ⊢
  clear hn
  go_enter Try.func120, Try.ntmps120
  go_wp2_with fail
  go_loop [9] (fun t => ∃ j : Nat, j ≤ n ∧ t = .int .i64 j ∧ Hid (res = plI x o j)) (fun t => n - (intOf t).toNat)
  case atStart => exact ⟨0, by omega, rfl, HR⟩
  case round =>
    obtain ⟨j, hj, rfl, hok⟩ := hrel
    by_cases hjn : j < n
    · have i1 : (j : Int) < (n : Int) := by omega
      rcases HC.out with h0 | ⟨b, of, rfl, hcell⟩
      · omega
      · have c1 := hcell j hjn
        have hhit : o.getD j 0 = x → res = (j : Int) := fun hm => hok.out.trans (plI_hit (by rw [← HN.out]; exact hjn) hm)
        have hmiss : ¬ o.getD j 0 = x → Hid (res = plI x o (j + 1)) := fun hm => hok.out.trans (plI_miss (by rw [← HN.out]; exact hjn) hm)
        clear hcell hok
        by_cases hm : o.getD j 0 = x
        · obtain rfl := hhit hm
          rw [hm] at c1
          have e1 : (x == x) = true := by simp
          clear hhit hmiss hm HR
          go_wp2_with fail
          go_ret
          exact ⟨rfl, rfl⟩
        · have hf := hmiss hm
          have e1 : (x == o.getD j 0) = false := by simpa using fun e : x = o.getD j 0 => hm e.symm
          clear hhit hmiss hm
          generalize o.getD j 0 = y at *
          go_wp2_with fail
          go_round
          case rel => exact ⟨j + 1, by omega, by go_num, hf⟩
          case measure => simp [intOf]; omega
    · have hr : res = -1 := hok.out.trans (plI_end x o (by rw [← HN.out]; omega))
      subst hr
      have i1 : ¬ ((j : Int) < (n : Int)) := by omega
      clear hok HR
      go_wp2_with fail
      go_ret
      exact ⟨rfl, rfl⟩

end Go.Proofs.Ytnmcgbfhgmmcpaa

/-
  What is reached from a variable: a set of bools that grows; the bag.
-/
namespace Go.Proofs.Ytnmcgbfhgmmcpaa.Bg
open Go.RowKit

def upd (R : Nat → Bool) (x : Nat) : Nat → Bool := fun j => decide (j = x) || R j
def cnt (k : Nat) (R : Nat → Bool) : Nat := ((List.range k).filter fun j => !R j).length
theorem cnt_succ (k : Nat) (R : Nat → Bool) : cnt (k + 1) R = cnt k R + (if R k then 0 else 1) := by
  unfold cnt
  rw [List.range_succ, List.filter_append, List.length_append]
  congr 1
  cases h : R k <;> simp [h]
theorem cnt_le (k x : Nat) (R : Nat → Bool) : cnt k (upd R x) ≤ cnt k R := by
  induction k with
  | zero => exact Nat.le_refl _
  | succ k ih =>
    rw [cnt_succ, cnt_succ]
    have : (if upd R x k then 0 else 1) ≤ (if R k then 0 else 1) := by
      unfold upd
      cases R k
      · simp; split <;> omega
      · simp
    omega
theorem cnt_lt {k x : Nat} {R : Nat → Bool} (hx : x < k) (h : R x = false) : cnt k (upd R x) < cnt k R := by
  induction k with
  | zero => omega
  | succ k ih =>
    rw [cnt_succ, cnt_succ]
    by_cases e : x = k
    · subst e
      have h1 := cnt_le x x R
      have : upd R x x = true := by simp [upd]
      rw [this, h]
      simp
      omega
    · have h1 := ih (by omega)
      have : upd R x k = R k := by
        unfold upd
        rw [decide_eq_false (by omega : ¬ k = x)]; rfl
      rw [this]
      omega

def E (o : List Int) (i v : Nat) : Prop := ∃ q, q < i + 1 ∧ oN o q = v
def Rch (es : List (List Int)) (o : List Int) (i j : Nat) : Prop := j = oN o i ∨ Elim.Rc (adjB es) (E o i) (oN o i) j
structure Inv (k : Nat) (es : List (List Int)) (o : List Int) (i : Nat) (R : Nat → Bool) : Prop where
  self : R (oN o i) = true
  low : ∀ j, R j = true → j < k
  rch : ∀ j, R j = true → Rch es o i j

variable {k : Nat} {es : List (List Int)} {o : List Int} {i : Nat} {R : Nat → Bool}

theorem inv0 (h : oN o i < k) : Inv k es o i (upd (fun _ => false) (oN o i)) := by
  have e : ∀ j, upd (fun _ => false) (oN o i) j = true → j = oN o i := fun j hj => by simpa [upd] using hj
  exact ⟨by simp [upd], fun j hj => by rw [e j hj]; exact h, fun j hj => Or.inl (e j hj)⟩

theorem Inv.add (h : Inv k es o i R) {v x : Nat} {e : List Int} (hv : R v = true) (hE : E o i v) (he : e ∈ es) (hve : (v : Int) ∈ e) (hxe : (x : Int) ∈ e) (hx : x < k) : Inv k es o i (upd R x) := by
  refine ⟨by simp [upd, h.self], fun j hj => ?_, fun j hj => ?_⟩
  · by_cases e1 : j = x
    · rw [e1]; exact hx
    · exact h.low j (by simpa [upd, e1] using hj)
  · by_cases e1 : j = x
    · subst e1
      have ha : adjB es v j = true := by
        unfold adjB
        rw [List.any_eq_true]
        exact ⟨e, he, by simp [hve, hxe]⟩
      rcases h.rch v hv with rfl | hr
      · exact Or.inr (.one ha)
      · exact Or.inr (.more hr hE ha)
    · exact h.rch j (by simpa [upd, e1] using hj)

/-- the edges of v are reached -/
def Cl (es : List (List Int)) (R : Nat → Bool) (v : Nat) : Prop := ∀ e ∈ es, (v : Int) ∈ e → ∀ x ∈ e, R x.toNat = true

theorem Inv.all (h : Inv k es o i R) (hc : ∀ v, R v = true → E o i v → Cl es R v) {b : Nat} (hb : Rch es o i b) : R b = true := by
  have adj : ∀ v b, R v = true → E o i v → adjB es v b = true → R b = true := fun v b h1 h2 h3 => by
    unfold adjB at h3
    rw [List.any_eq_true] at h3
    obtain ⟨e, he, h4⟩ := h3
    rw [Bool.and_eq_true, decide_eq_true_eq, decide_eq_true_eq] at h4
    have := hc v h1 h2 e he h4.1 _ h4.2
    simpa using this
  rcases hb with rfl | hr
  · exact h.self
  · have key : ∀ a c, Elim.Rc (adjB es) (E o i) a c → a = oN o i → R c = true := fun a c r =>
      r.ind (M := fun a c => a = oN o i → R c = true) (fun _ _ h1 e => by subst e; exact adj _ _ h.self ⟨i, by omega, rfl⟩ h1) fun _ _ _ ih hE h2 e => adj _ _ (ih e) hE h2
    exact key _ _ hr rfl

theorem plc_congr {p q : Nat → Bool} {n : Nat} (h : ∀ j, j < n → p j = q j) : plc p n = plc q n := by
  unfold plc
  congr 1
  exact List.filter_congr fun x hx => h x (List.mem_range.1 hx)
theorem plc_more {p : Nat → Bool} {n : Nat} : ∀ {d : Nat}, (∀ j, n ≤ j → p j = false) → plc p (n + d) = plc p n
  | 0, _ => rfl
  | d + 1, h => by rw [← Nat.add_assoc, plc_miss p (n + d) (h _ (by omega))]; exact plc_more h

/-- the bag -/
theorem bag_eq (hk : k ≤ 6) (ho : ∀ j q, j < q → q < o.length → oN o j ≠ oN o q) (hi : i < o.length) (hs : adjB es (oN o i) (oN o i) = true)
    (h : Inv k es o i R) (hc : ∀ v, R v = true → E o i v → Cl es R v) (p : Nat → Bool) (hp : ∀ v, v < k → (p v = true ↔ R v = true ∧ ∀ j, j < i → oN o j ≠ v)) : plc p k = bagE es o i := by
  have key : ∀ b, Elim.gAt (adjB es) (oN o) i (oN o i) b = true ↔ (∀ j, j < i → oN o j ≠ b) ∧ R b = true := fun b => by
    rw [Elim.bag_iff (adj_symm es) (fun j q h1 h2 => ho j q h1 (by omega)) hs]
    constructor
    · rintro ⟨h1, h2⟩; exact ⟨h1, h.all hc h2⟩
    · rintro ⟨h1, h2⟩; exact ⟨h1, h.rch b h2⟩
  show _ = plc (fun b => Elim.gAt (adjB es) (oN o) i (oN o i) b) 6
  obtain ⟨d, hd⟩ : ∃ d, 6 = k + d := ⟨6 - k, by omega⟩
  rw [hd, plc_more (n := k) (d := d) fun j hj => by
    cases hg : Elim.gAt (adjB es) (oN o) i (oN o i) j
    · rfl
    · have := h.low j ((key j).1 hg).2
      omega]
  refine plc_congr fun j hj => ?_
  rw [Bool.eq_iff_iff, hp j hj, key j]
  exact And.comm

/-- one round over the variables: either nothing new, or more is reached -/
structure St (k : Nat) (es : List (List Int)) (o : List Int) (i : Nat) (R0 R : Nat → Bool) (g : Bool) (P : Prop) : Prop where
  inv : Inv k es o i R
  more : ∀ j, R0 j = true → R j = true
  grew : g = true → cnt k R < cnt k R0
  same : g = false → R = R0 ∧ P

variable {R0 : Nat → Bool} {g : Bool} {P Q : Prop}
theorem St.start (h : Inv k es o i R) (hP : P) : St k es o i R R false P := ⟨h, fun _ hj => hj, (fun e => by cases e), fun _ => ⟨rfl, hP⟩⟩
theorem St.imp (h : St k es o i R0 R g P) (hPQ : (R = R0 → P → Q)) : St k es o i R0 R g Q := ⟨h.inv, h.more, h.grew, fun e => ⟨(h.same e).1, hPQ (h.same e).1 (h.same e).2⟩⟩
theorem St.add (h : St k es o i R0 R g P) {v x : Nat} {e : List Int} (hv : R v = true) (hE : E o i v) (he : e ∈ es) (hve : (v : Int) ∈ e) (hxe : (x : Int) ∈ e) (hx : x < k) (hR : R x = false) : St k es o i R0 (upd R x) true Q := by
  refine ⟨h.inv.add hv hE he hve hxe hx, fun j hj => by simp [upd, h.more j hj], fun _ => ?_, fun e => by cases e⟩
  have h1 := cnt_lt hx hR
  cases g
  · rw [← (h.same rfl).1]; exact h1
  · have := h.grew rfl; omega

end Go.Proofs.Ytnmcgbfhgmmcpaa.Bg
