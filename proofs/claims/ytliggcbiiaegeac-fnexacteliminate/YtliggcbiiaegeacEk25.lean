import Derived.Deep.Cut
import Derived.Deep.LoopGhost
import Derived.Test.YtliggcbiiaegeacEk00
import Derived.Test.YtliggcbiiaegeacEk14
import Derived.Test.YtliggcbiiaegeacEk24
/-
  Orders; the plan of an order, as lists.
-/
namespace Go.Proofs.Ytliggcbiiaegeac
open Go.RowKit

def ordAt (k : Int) (o : List Int) (i : Nat) : Bool := decide (0 ≤ o.getD i 0) && decide (o.getD i 0 < k) && !decide (o.getD i 0 ∈ o.take i)
def ordB (k : Int) (o : List Int) : Bool := decide ((o.length : Int) = k) && (List.range o.length).all (ordAt k o)
def ordS (k : Int) (o : List Int) : Bool := decide ((o.length : Int) = k) && (List.range k.toNat).all fun v => decide ((v : Int) ∈ o)

def upN (n : Nat) : List Int := (List.range n).map Int.ofNat
theorem upN_nodup (n : Nat) : (upN n).Nodup := by
  unfold upN List.Nodup
  rw [List.pairwise_map]
  refine List.Pairwise.imp ?_ List.nodup_range
  intro a b h e
  simp only [Int.ofNat_eq_natCast] at e
  omega
theorem upN_mem {n : Nat} {x : Int} : x ∈ upN n ↔ 0 ≤ x ∧ x < (n : Int) := by
  unfold upN
  rw [List.mem_map]
  constructor
  · rintro ⟨a, ha, rfl⟩
    simp only [Int.ofNat_eq_natCast]
    have := List.mem_range.1 ha
    omega
  · intro h
    exact ⟨x.toNat, List.mem_range.2 (by omega), by simp only [Int.ofNat_eq_natCast]; omega⟩
theorem upN_length (n : Nat) : (upN n).length = n := by simp [upN]

theorem ord_nodup {k : Int} {o : List Int} (h : ∀ i, i < o.length → ordAt k o i = true) : o.Nodup := by
  unfold List.Nodup
  rw [List.pairwise_iff_getElem]
  intro i j hi hj hij e
  have := h j hj
  unfold ordAt at this
  rw [Bool.and_eq_true, Bool.not_eq_true', decide_eq_false_iff_not] at this
  refine this.2 ?_
  have e1 : o.getD j 0 = o[j] := by rw [List.getD_eq_getElem?_getD, List.getElem?_eq_getElem hj]; rfl
  rw [e1, ← e, List.mem_iff_getElem]
  exact ⟨i, by rw [List.length_take]; omega, by rw [List.getElem_take]⟩

theorem ord_eq (k : Int) (o : List Int) : ordB k o = ordS k o := by
  unfold ordB ordS
  by_cases hk : (o.length : Int) = k
  case neg => rw [decide_eq_false hk]; rfl
  rw [decide_eq_true hk, Bool.true_and, Bool.true_and]
  subst hk
  rw [show ((o.length : Int)).toNat = o.length by omega]
  cases hb : (List.range o.length).all (ordAt o.length o)
  · cases hs : (List.range o.length).all fun v => decide ((v : Int) ∈ o)
    · rfl
    · exfalso
      rw [List.all_eq_true] at hs
      have hsub : ∀ x ∈ upN o.length, x ∈ o := by
        intro x hx
        obtain ⟨h1, h2⟩ := upN_mem.1 hx
        have := hs x.toNat (List.mem_range.2 (by omega))
        rw [decide_eq_true_eq, show ((x.toNat : Nat) : Int) = x by omega] at this
        exact this
      rw [List.all_eq_false] at hb
      obtain ⟨i, hi, hb⟩ := hb
      have hi' : i < o.length := by simpa using hi
      have e1 : o.getD i 0 = o[i] := by rw [List.getD_eq_getElem?_getD, List.getElem?_eq_getElem hi']; rfl
      have key : ∀ x ∈ upN o.length, x ∈ o.eraseIdx i := by
        intro x hx
        have hxo := hsub x hx
        obtain ⟨h1, h2⟩ := upN_mem.1 hx
        obtain ⟨j, hj, ej⟩ := List.getElem_of_mem hxo
        by_cases hij : j = i
        · subst hij
          unfold ordAt at hb
          rw [e1, ej, decide_eq_true h1, decide_eq_true h2, Bool.true_and, Bool.true_and] at hb
          have hm : x ∈ o.take j := by simpa using hb
          obtain ⟨l, hl, el⟩ := List.getElem_of_mem hm
          rw [List.length_take] at hl
          rw [List.getElem_take] at el
          rw [List.mem_eraseIdx_iff_getElem]
          exact ⟨l, by omega, by omega, el⟩
        · rw [List.mem_eraseIdx_iff_getElem]
          exact ⟨j, hj, hij, ej⟩
      have := nodup_sub_len (upN_nodup o.length) key
      rw [upN_length, List.length_eraseIdx_of_lt hi'] at this
      omega
  · symm
    rw [List.all_eq_true] at hb
    have hall : ∀ i, i < o.length → ordAt o.length o i = true := fun i hi => hb i (by simpa using hi)
    have hnd := ord_nodup hall
    refine range_all_true fun v hv => ?_
    rw [decide_eq_true_eq]
    refine Classical.byContradiction fun hno => ?_
    have key : ∀ x ∈ o, x ∈ (upN o.length).erase (v : Int) := by
      intro x hx
      obtain ⟨j, hj, ej⟩ := getD_mem hx
      have := hall j hj
      unfold ordAt at this
      rw [Bool.and_eq_true, Bool.and_eq_true, decide_eq_true_eq, decide_eq_true_eq, ej] at this
      have hne : x ≠ (v : Int) := fun e => hno (e ▸ hx)
      exact (List.mem_erase_of_ne hne).2 (upN_mem.2 this.1)
    have := nodup_sub_len hnd key
    rw [List.length_erase_of_mem (upN_mem.2 ⟨by omega, by omega⟩), upN_length] at this
    omega

/-- the first place from p on whose variable is in the set; -1 if there's none -/
def firstF (s o : List Int) : Nat → Nat → Int
  | 0, _ => -1
  | f + 1, p => if decide (o.getD p 0 ∈ s) then (p : Int) else firstF s o f (p + 1)
def firstP (s o : List Int) (p : Nat) : Int := firstF s o (o.length - p) p

theorem firstP_end (s o : List Int) {p : Nat} (h : o.length ≤ p) : firstP s o p = -1 := by
  unfold firstP
  rw [show o.length - p = 0 by omega]; rfl
theorem firstP_hit {s o : List Int} {p : Nat} (h : p < o.length) (hm : o.getD p 0 ∈ s) : firstP s o p = (p : Int) := by
  unfold firstP
  obtain ⟨f, hf⟩ : ∃ f, o.length - p = f + 1 := ⟨o.length - p - 1, by omega⟩
  rw [hf]
  show (if decide (o.getD p 0 ∈ s) then (p : Int) else _) = _
  rw [if_pos (by simpa using hm)]
theorem firstP_miss {s o : List Int} {p : Nat} (h : p < o.length) (hm : ¬ o.getD p 0 ∈ s) : firstP s o p = firstP s o (p + 1) := by
  unfold firstP
  obtain ⟨f, hf⟩ : ∃ f, o.length - p = f + 1 := ⟨o.length - p - 1, by omega⟩
  rw [hf, show o.length - (p + 1) = f by omega]
  show (if decide (o.getD p 0 ∈ s) then (p : Int) else _) = _
  rw [if_neg (by simpa using hm)]

/-- the edges as a graph -/
def adjB (es : List (List Int)) (a b : Nat) : Bool := es.any fun e => decide ((a : Int) ∈ e) && decide ((b : Int) ∈ e)
theorem adj_symm (es : List (List Int)) (a b : Nat) : adjB es a b = adjB es b a := by
  unfold adjB
  congr 1
  funext e
  rw [Bool.and_comm]
def oN (o : List Int) (i : Nat) : Nat := (o.getD i 0).toNat
/-- bag i of an order -/
def bagE (es : List (List Int)) (o : List Int) (i : Nat) : List Int := ((List.range 6).filter fun b => Elim.gAt (adjB es) (oN o) i (oN o i) b).map Int.ofNat

end Go.Proofs.Ytliggcbiiaegeac

/-
  impl.isOrder, impl.placeOfFirst; spec.l4OrderOK, spec.l4Place.
-/
namespace Go.Proofs.Ytliggcbiiaegeac
open Go.RowKit

theorem IS.take {w : World} {a : Option Addr} {n cap j : Nat} {l : List Int} (h : IS w (.slice a n cap) l) (hj : j ≤ l.length) (cap' : Nat) : IS w (.slice a j cap') (l.take j) := by
  obtain ⟨a', c', e, hc⟩ := h
  simp only [Value.slice.injEq] at e
  obtain ⟨rfl, rfl, rfl⟩ := e
  have hl : (l.take j).length = j := by rw [List.length_take]; omega
  refine ⟨a, cap', by rw [hl], ?_⟩
  rw [hl]
  rcases hc with h0 | ⟨b, o, rfl, hc⟩
  · exact Or.inl (by omega)
  · refine Or.inr ⟨b, o, rfl, fun i hi => ?_⟩
    rw [hc i (by omega)]
    rw [List.getD_eq_getElem?_getD, List.getD_eq_getElem?_getD, List.getElem?_take_of_lt hi]

set_option maxHeartbeats 4000000 in
set_option maxRecDepth 1000000 in
theorem isOrder_calls (w : World) (v : Value) (o : List Int) (k : Int) (h : IS w v o) (hl : o.length ≤ 1099511627776) (hcap : ∀ a n cap, v = .slice a n cap → n ≤ cap) :
    Calls Try.prog 75 #[.int .i64 k, v] w fun e w' => e = .returned (.bool (ordB k o)) ∧ w' = w := by
  have HI := hid h
  obtain ⟨a, cap, rfl, hc⟩ := h
  have hcp := hcap _ _ _ rfl
  obtain ⟨res, hres⟩ : ∃ r, r = ordB k o := ⟨_, rfl⟩
  rw [← hres]
  have HR := hid hres
  have HC := hid hc
  clear hc hres hcap
  by_cases hq : (o.length : Int) = k
  case neg =>
    have hf : res = false := by rw [HR.out]; unfold ordB; rw [decide_eq_false hq]; rfl
    subst hf
    have i1 : ((o.length : Int) != k) = true := by simpa using hq
    clear HC HI HR
    generalize o.length = n at *
    go_enter Try.func75, Try.ntmps75
    go_wp2_with fail
    go_ret
    exact ⟨rfl, rfl⟩
  subst hq
  have HF : Hid (∀ j, j < o.length → ordAt o.length o j = false → res = false) := hid fun j hj e => by
    rw [HR.out]; unfold ordB
    rw [range_all_false hj e]; simp
  have HT : Hid ((∀ j, j < o.length → ordAt o.length o j = true) → res = true) := hid fun h1 => by
    rw [HR.out]; unfold ordB
    rw [decide_eq_true rfl, range_all_true h1]; rfl
  have HP : Hid (∀ j, ordAt o.length o j = (decide (0 ≤ o.getD j 0) && decide (o.getD j 0 < (o.length : Int)) && !decide (o.getD j 0 ∈ o.take j))) := hid fun _ => rfl
  have HK : Hid (∀ j x, j ≤ o.length → Calls Try.prog 112 #[.slice a j cap, .int .i64 x] w fun e w' => e = .returned (.bool (decide (x ∈ o.take j))) ∧ w' = w) := hid fun j x hj => sContains_calls w _ _ x (HI.out.take hj cap) (by rw [List.length_take]; omega)
  clear HR HI
  have d1 : (((o.length : Int)) != (o.length : Int)) = false := by simp
  obtain ⟨n, hn⟩ : ∃ n, n = o.length := ⟨_, rfl⟩
  rw [← hn] at HF HT hl HC d1 HP HK hcp ⊢
  clear hn
  go_enter Try.func75, Try.ntmps75
  go_wp2_with fail
  go_loop [13] (fun t => ∃ j : Nat, j ≤ n ∧ t = .int .i64 j ∧ Hid (∀ i, i < j → ordAt n o i = true)) (fun t => n - (intOf t).toNat)
  case atStart => exact ⟨0, Nat.zero_le _, rfl, hid (fun i hi => by omega)⟩
  case round =>
    obtain ⟨j, hj, rfl, hok⟩ := hrel
    by_cases hjn : j < n
    · have i1 : (j : Int) < (n : Int) := by omega
      rcases HC.out with h0 | ⟨b, of, rfl, hcell⟩
      · omega
      · have c1 := hcell j hjn
        have fin := HF.out j hjn
        have nxt : ordAt n o j = true → Hid (∀ i, i < j + 1 → ordAt n o i = true) := fun e i hi => by
          by_cases e2 : i = j
          · rw [e2]; exact e
          · exact hok.out i (by omega)
        have hp := HP.out j
        have KC := hid (HK.out j (o.getD j 0) (by omega))
        clear hcell hok
        generalize ordAt n o j = y at *
        generalize decide (o.getD j 0 ∈ o.take j) = f at *
        generalize o.getD j 0 = x at *
        by_cases h1 : x < 0
        · obtain rfl := fin (by rw [hp, decide_eq_false (by omega)]; rfl)
          clear nxt hp
          go_wp2_with fail
          go_ret
          exact ⟨rfl, rfl⟩
        have e1 : decide (x < 0) = false := by simp; omega
        by_cases h2 : (n : Int) ≤ x
        · obtain rfl := fin (by rw [hp, decide_eq_false (by omega : ¬ x < (n : Int))]; simp)
          clear nxt hp
          go_wp2_with fail
          go_ret
          exact ⟨rfl, rfl⟩
        have e2 : decide ((n : Int) ≤ x) = false := by simp; omega
        have j1 : (j : Int) ≤ (cap : Int) := by omega
        rw [decide_eq_true (by omega : 0 ≤ x), decide_eq_true (by omega : x < (n : Int)), Bool.true_and, Bool.true_and] at hp
        cases f
        · have hf := nxt hp
          clear fin nxt hp
          go_wp2_with fail
          refine KC.out.mono ?_
          rintro e w1 ⟨rfl, hw1⟩
          subst w1
          go_wp2_with fail
          go_round
          case rel => exact ⟨j + 1, by omega, by go_num, hf⟩
          case measure => simp [intOf]; omega
        · obtain rfl := fin hp
          clear nxt hp
          go_wp2_with fail
          refine KC.out.mono ?_
          rintro e w1 ⟨rfl, hw1⟩
          subst w1
          go_wp2_with fail
          go_ret
          exact ⟨rfl, rfl⟩
    · obtain rfl : j = n := by omega
      obtain rfl := HT.out hok.out
      have i1 : ¬ ((j : Int) < (j : Int)) := by omega
      clear hok
      go_wp2_with fail
      go_ret
      exact ⟨rfl, rfl⟩

set_option maxHeartbeats 4000000 in
set_option maxRecDepth 1000000 in
theorem placeOfFirst_calls (w : World) (vs vo : Value) (s o : List Int) (p : Nat) (hs : IS w vs s) (ho : IS w vo o) (hls : s.length ≤ 1099511627776) (hlo : o.length ≤ 1099511627776) (hp : p ≤ 1099511627776) :
    Calls Try.prog 116 #[vs, vo, .int .i64 p] w fun e w' => e = .returned (.int .i64 (firstP s o p)) ∧ w' = w := by
  have HS := hid hs
  obtain ⟨a0, c0, rfl, -⟩ := hs
  obtain ⟨a, cap, rfl, hc⟩ := ho
  obtain ⟨res, hres⟩ : ∃ r, r = firstP s o p := ⟨_, rfl⟩
  rw [← hres]
  have HR := hid hres
  have HC := hid hc
  clear hc hres
  obtain ⟨n, hn⟩ : ∃ n, n = o.length := ⟨_, rfl⟩
  have HN := hid hn
  rw [← hn] at hlo HC ⊢
  clear hn
  go_enter Try.func116, Try.ntmps116
  go_wp2_with fail
  go_loop [7] (fun t => ∃ j : Nat, j ≤ 1099511627776 + 1 ∧ t = .int .i64 j ∧ Hid (res = firstP s o j)) (fun t => 1099511627776 + 1 + n - (intOf t).toNat)
  case atStart => exact ⟨p, by omega, rfl, HR⟩
  case round =>
    obtain ⟨j, hj, rfl, hok⟩ := hrel
    by_cases hjn : j < n
    · have i1 : (j : Int) < (n : Int) := by omega
      rcases HC.out with h0 | ⟨b, of, rfl, hcell⟩
      · omega
      · have c1 := hcell j hjn
        have KC := hid (sContains_calls w _ s (o.getD j 0) HS.out hls)
        have hhit : o.getD j 0 ∈ s → res = (j : Int) := fun hm => hok.out.trans (firstP_hit (by rw [← HN.out]; exact hjn) hm)
        have hmiss : ¬ o.getD j 0 ∈ s → Hid (res = firstP s o (j + 1)) := fun hm => hok.out.trans (firstP_miss (by rw [← HN.out]; exact hjn) hm)
        clear hcell hok
        by_cases hm : o.getD j 0 ∈ s
        · obtain rfl := hhit hm
          rw [decide_eq_true hm] at KC
          clear hhit hmiss hm HR
          generalize o.getD j 0 = x at *
          go_wp2_with fail
          refine KC.out.mono ?_
          rintro e w1 ⟨rfl, hw1⟩
          subst w1
          go_wp2_with fail
          go_ret
          exact ⟨rfl, rfl⟩
        · have hf := hmiss hm
          rw [decide_eq_false hm] at KC
          clear hhit hmiss hm
          generalize o.getD j 0 = x at *
          go_wp2_with fail
          refine KC.out.mono ?_
          rintro e w1 ⟨rfl, hw1⟩
          subst w1
          go_wp2_with fail
          go_round
          case rel => exact ⟨j + 1, by omega, by go_num, hf⟩
          case measure => simp [intOf]; omega
    · have hr : res = -1 := hok.out.trans (firstP_end s o (by rw [← HN.out]; omega))
      subst hr
      have i1 : ¬ ((j : Int) < (n : Int)) := by omega
      clear hok HR
      go_wp2_with fail
      go_ret
      exact ⟨rfl, rfl⟩

end Go.Proofs.Ytliggcbiiaegeac

/-
  spec.l4OrderOK, spec.l4Place.
-/
namespace Go.Proofs.Ytliggcbiiaegeac
open Go.RowKit

set_option maxHeartbeats 4000000 in
set_option maxRecDepth 1000000 in
theorem l4OrderOK_calls (w : World) (v : Value) (o : List Int) (k : Int) (h : IS w v o) (hl : o.length ≤ 1099511627776) :
    Calls Try.prog 73 #[.int .i64 k, v] w fun e w' => e = .returned (.bool (ordS k o)) ∧ w' = w := by
  have HI := hid h
  obtain ⟨a, cap, rfl, -⟩ := h
  obtain ⟨res, hres⟩ : ∃ r, r = ordS k o := ⟨_, rfl⟩
  rw [← hres]
  have HR := hid hres
  clear hres
  by_cases hq : (o.length : Int) = k
  case neg =>
    have hf : res = false := by rw [HR.out]; unfold ordS; rw [decide_eq_false hq]; rfl
    subst hf
    have i1 : ((o.length : Int) != k) = true := by simpa using hq
    clear HI HR
    generalize o.length = n at *
    go_enter Try.func73, Try.ntmps73
    go_wp2_with fail
    go_ret
    exact ⟨rfl, rfl⟩
  subst hq
  have HF : Hid (∀ j, j < o.length → decide ((j : Int) ∈ o) = false → res = false) := hid fun j hj e => by
    rw [HR.out]; unfold ordS
    rw [show ((o.length : Int)).toNat = o.length by omega, range_all_false hj e]; simp
  have HT : Hid ((∀ j, j < o.length → decide ((j : Int) ∈ o) = true) → res = true) := hid fun h1 => by
    rw [HR.out]; unfold ordS
    rw [decide_eq_true rfl, show ((o.length : Int)).toNat = o.length by omega, range_all_true h1]; rfl
  have HK : Hid (∀ x : Int, Calls Try.prog 100 #[.slice a o.length cap, .int .i64 x] w fun e w' => e = .returned (.bool (decide (x ∈ o))) ∧ w' = w) := hid fun x => l1Has_calls w _ o x HI.out hl
  clear HR HI
  have d1 : (((o.length : Int)) != (o.length : Int)) = false := by simp
  obtain ⟨n, hn⟩ : ∃ n, n = o.length := ⟨_, rfl⟩
  rw [← hn] at HF HT hl d1 HK ⊢
  clear hn
  go_enter Try.func73, Try.ntmps73
  go_wp2_with fail
  go_loop [5] (fun t => ∃ j : Nat, j ≤ n ∧ t = .int .i64 j ∧ Hid (∀ i, i < j → decide ((i : Int) ∈ o) = true)) (fun t => n - (intOf t).toNat)
  case atStart => exact ⟨0, Nat.zero_le _, rfl, hid (fun i hi => by omega)⟩
  case round =>
    obtain ⟨j, hj, rfl, hok⟩ := hrel
    by_cases hjn : j < n
    · have i1 : (j : Int) < (n : Int) := by omega
      have fin := HF.out j hjn
      have nxt : decide ((j : Int) ∈ o) = true → Hid (∀ i, i < j + 1 → decide ((i : Int) ∈ o) = true) := fun e i hi => by
        by_cases e2 : i = j
        · rw [e2]; exact e
        · exact hok.out i (by omega)
      have KC := hid (HK.out (j : Int))
      clear hok
      generalize decide ((j : Int) ∈ o) = f at *
      cases f
      · obtain rfl := fin rfl
        clear nxt fin
        go_wp2_with fail
        refine KC.out.mono ?_
        rintro e w1 ⟨rfl, hw1⟩
        subst w1
        go_wp2_with fail
        go_ret
        exact ⟨rfl, rfl⟩
      · have hf := nxt rfl
        clear fin nxt
        go_wp2_with fail
        refine KC.out.mono ?_
        rintro e w1 ⟨rfl, hw1⟩
        subst w1
        go_wp2_with fail
        go_round
        case rel => exact ⟨j + 1, by omega, by go_num, hf⟩
        case measure => simp [intOf]; omega
    · obtain rfl : j = n := by omega
      obtain rfl := HT.out hok.out
      have i1 : ¬ ((j : Int) < (j : Int)) := by omega
      clear hok
      go_wp2_with fail
      go_ret
      exact ⟨rfl, rfl⟩

/-- the first place of x in a list; -1 if there's none -/
def plF (x : Int) (o : List Int) : Nat → Nat → Int
  | 0, _ => -1
  | f + 1, p => if o.getD p 0 = x then (p : Int) else plF x o f (p + 1)
def plI (x : Int) (o : List Int) (p : Nat) : Int := plF x o (o.length - p) p
theorem plI_end (x : Int) (o : List Int) {p : Nat} (h : o.length ≤ p) : plI x o p = -1 := by
  unfold plI
  rw [show o.length - p = 0 by omega]; rfl
theorem plI_hit {x : Int} {o : List Int} {p : Nat} (h : p < o.length) (hm : o.getD p 0 = x) : plI x o p = (p : Int) := by
  unfold plI
  obtain ⟨f, hf⟩ : ∃ f, o.length - p = f + 1 := ⟨o.length - p - 1, by omega⟩
  rw [hf]
  show (if o.getD p 0 = x then (p : Int) else _) = _
  rw [if_pos hm]
theorem plI_miss {x : Int} {o : List Int} {p : Nat} (h : p < o.length) (hm : ¬ o.getD p 0 = x) : plI x o p = plI x o (p + 1) := by
  unfold plI
  obtain ⟨f, hf⟩ : ∃ f, o.length - p = f + 1 := ⟨o.length - p - 1, by omega⟩
  rw [hf, show o.length - (p + 1) = f by omega]
  show (if o.getD p 0 = x then (p : Int) else _) = _
  rw [if_neg hm]
/-- where nothing stands twice, the place of what stands at i is i -/
theorem plI_at {o : List Int} (hnd : ∀ i j, i < j → j < o.length → o.getD i 0 ≠ o.getD j 0) : ∀ {f p i : Nat}, i < o.length → p ≤ i → f = i - p → plI (o.getD i 0) o p = (i : Int)
  | 0, p, i, hi, hp, hf => by
    obtain rfl : p = i := by omega
    exact plI_hit hi rfl
  | f + 1, p, i, hi, hp, hf => by
    rw [plI_miss (by omega) (hnd p i (by omega) hi)]
    exact plI_at hnd (f := f) hi (by omega) (by omega)

set_option maxHeartbeats 4000000 in
set_option maxRecDepth 1000000 in
theorem l4Place_calls (w : World) (v : Value) (o : List Int) (x : Int) (ho : IS w v o) (hlo : o.length ≤ 1099511627776) :
    Calls Try.prog 144 #[v, .int .i64 x] w fun e w' => e = .returned (.int .i64 (plI x o 0)) ∧ w' = w := by
  obtain ⟨a, cap, rfl, hc⟩ := ho
  obtain ⟨res, hres⟩ : ∃ r, r = plI x o 0 := ⟨_, rfl⟩
  rw [← hres]
  have HR := hid hres
  have HC := hid hc
  clear hc hres
  obtain ⟨n, hn⟩ : ∃ n, n = o.length := ⟨_, rfl⟩
  have HN := hid hn
  rw [← hn] at hlo HC ⊢
  clear hn
  go_enter Try.func144, Try.ntmps144
  go_wp2_with fail
  go_loop [9] (fun t => ∃ j : Nat, j ≤ n ∧ t = .int .i64 j ∧ Hid (res = plI x o j)) (fun t => n - (intOf t).toNat)
  case atStart => exact ⟨0, by omega, rfl, HR⟩
  case round =>
    obtain ⟨j, hj, rfl, hok⟩ := hrel
    by_cases hjn : j < n
    · have i1 : (j : Int) < (n : Int) := by omega
      rcases HC.out with h0 | ⟨b, of, rfl, hcell⟩
      · omega
      · have c1 := hcell j hjn
        have hhit : o.getD j 0 = x → res = (j : Int) := fun hm => hok.out.trans (plI_hit (by rw [← HN.out]; exact hjn) hm)
        have hmiss : ¬ o.getD j 0 = x → Hid (res = plI x o (j + 1)) := fun hm => hok.out.trans (plI_miss (by rw [← HN.out]; exact hjn) hm)
        clear hcell hok
        by_cases hm : o.getD j 0 = x
        · obtain rfl := hhit hm
          rw [hm] at c1
          have e1 : (x == x) = true := by simp
          clear hhit hmiss hm HR
          go_wp2_with fail
          go_ret
          exact ⟨rfl, rfl⟩
        · have hf := hmiss hm
          have e1 : (x == o.getD j 0) = false := by simpa using fun e : x = o.getD j 0 => hm e.symm
          clear hhit hmiss hm
          generalize o.getD j 0 = y at *
          go_wp2_with fail
          go_round
          case rel => exact ⟨j + 1, by omega, by go_num, hf⟩
          case measure => simp [intOf]; omega
    · have hr : res = -1 := hok.out.trans (plI_end x o (by rw [← HN.out]; omega))
      subst hr
      have i1 : ¬ ((j : Int) < (n : Int)) := by omega
      clear hok HR
      go_wp2_with fail
      go_ret
      exact ⟨rfl, rfl⟩

end Go.Proofs.Ytliggcbiiaegeac

/-
  What is reached from a variable: a set of bools that grows; the bag.
-/
namespace Go.Proofs.Ytliggcbiiaegeac.Bg
open Go.RowKit

def upd (R : Nat → Bool) (x : Nat) : Nat → Bool := fun j => decide (j = x) || R j
def cnt (k : Nat) (R : Nat → Bool) : Nat := ((List.range k).filter fun j => !R j).length
theorem cnt_succ (k : Nat) (R : Nat → Bool) : cnt (k + 1) R = cnt k R + (if R k then 0 else 1) := by
  unfold cnt
  rw [List.range_succ, List.filter_append, List.length_append]
  congr 1
  cases h : R k <;> simp [h]
theorem cnt_le (k x : Nat) (R : Nat → Bool) : cnt k (upd R x) ≤ cnt k R := by
  induction k with
  | zero => exact Nat.le_refl _
  | succ k ih =>
    rw [cnt_succ, cnt_succ]
    have : (if upd R x k then 0 else 1) ≤ (if R k then 0 else 1) := by
      unfold upd
      cases R k
      · simp; split <;> omega
      · simp
    omega
theorem cnt_lt {k x : Nat} {R : Nat → Bool} (hx : x < k) (h : R x = false) : cnt k (upd R x) < cnt k R := by
  induction k with
  | zero => omega
  | succ k ih =>
    rw [cnt_succ, cnt_succ]
    by_cases e : x = k
    · subst e
      have h1 := cnt_le x x R
      have : upd R x x = true := by simp [upd]
      rw [this, h]
      simp
      omega
    · have h1 := ih (by omega)
      have : upd R x k = R k := by
        unfold upd
        rw [decide_eq_false (by omega : ¬ k = x)]; rfl
      rw [this]
      omega

def E (o : List Int) (i v : Nat) : Prop := ∃ q, q < i + 1 ∧ oN o q = v
def Rch (es : List (List Int)) (o : List Int) (i j : Nat) : Prop := j = oN o i ∨ Elim.Rc (adjB es) (E o i) (oN o i) j
structure Inv (k : Nat) (es : List (List Int)) (o : List Int) (i : Nat) (R : Nat → Bool) : Prop where
  self : R (oN o i) = true
  low : ∀ j, R j = true → j < k
  rch : ∀ j, R j = true → Rch es o i j

variable {k : Nat} {es : List (List Int)} {o : List Int} {i : Nat} {R : Nat → Bool}

theorem inv0 (h : oN o i < k) : Inv k es o i (upd (fun _ => false) (oN o i)) := by
  have e : ∀ j, upd (fun _ => false) (oN o i) j = true → j = oN o i := fun j hj => by simpa [upd] using hj
  exact ⟨by simp [upd], fun j hj => by rw [e j hj]; exact h, fun j hj => Or.inl (e j hj)⟩

theorem Inv.add (h : Inv k es o i R) {v x : Nat} {e : List Int} (hv : R v = true) (hE : E o i v) (he : e ∈ es) (hve : (v : Int) ∈ e) (hxe : (x : Int) ∈ e) (hx : x < k) : Inv k es o i (upd R x) := by
  refine ⟨by simp [upd, h.self], fun j hj => ?_, fun j hj => ?_⟩
  · by_cases e1 : j = x
    · rw [e1]; exact hx
    · exact h.low j (by simpa [upd, e1] using hj)
  · by_cases e1 : j = x
    · subst e1
      have ha : adjB es v j = true := by
        unfold adjB
        rw [List.any_eq_true]
        exact ⟨e, he, by simp [hve, hxe]⟩
      rcases h.rch v hv with rfl | hr
      · exact Or.inr (.one ha)
      · exact Or.inr (.more hr hE ha)
    · exact h.rch j (by simpa [upd, e1] using hj)

/-- the edges of v are reached -/
def Cl (es : List (List Int)) (R : Nat → Bool) (v : Nat) : Prop := ∀ e ∈ es, (v : Int) ∈ e → ∀ x ∈ e, R x.toNat = true

theorem Inv.all (h : Inv k es o i R) (hc : ∀ v, R v = true → E o i v → Cl es R v) {b : Nat} (hb : Rch es o i b) : R b = true := by
  have adj : ∀ v b, R v = true → E o i v → adjB es v b = true → R b = true := fun v b h1 h2 h3 => by
    unfold adjB at h3
    rw [List.any_eq_true] at h3
    obtain ⟨e, he, h4⟩ := h3
    rw [Bool.and_eq_true, decide_eq_true_eq, decide_eq_true_eq] at h4
    have := hc v h1 h2 e he h4.1 _ h4.2
    simpa using this
  rcases hb with rfl | hr
  · exact h.self
  · have key : ∀ a c, Elim.Rc (adjB es) (E o i) a c → a = oN o i → R c = true := fun a c r => by
      induction r with
      | one h1 => intro e; subst e; exact adj _ _ h.self ⟨i, by omega, rfl⟩ h1
      | more _ hE h2 ih => intro e; exact adj _ _ (ih e) hE h2
    exact key _ _ hr rfl

theorem plc_congr {p q : Nat → Bool} {n : Nat} (h : ∀ j, j < n → p j = q j) : plc p n = plc q n := by
  unfold plc
  congr 1
  exact List.filter_congr fun x hx => h x (List.mem_range.1 hx)
theorem plc_more {p : Nat → Bool} {n : Nat} : ∀ {d : Nat}, (∀ j, n ≤ j → p j = false) → plc p (n + d) = plc p n
  | 0, _ => rfl
  | d + 1, h => by rw [← Nat.add_assoc, plc_miss p (n + d) (h _ (by omega))]; exact plc_more h

/-- the bag -/
theorem bag_eq (hk : k ≤ 6) (ho : ∀ j q, j < q → q < o.length → oN o j ≠ oN o q) (hi : i < o.length) (hs : adjB es (oN o i) (oN o i) = true)
    (h : Inv k es o i R) (hc : ∀ v, R v = true → E o i v → Cl es R v) (p : Nat → Bool) (hp : ∀ v, v < k → (p v = true ↔ R v = true ∧ ∀ j, j < i → oN o j ≠ v)) : plc p k = bagE es o i := by
  have key : ∀ b, Elim.gAt (adjB es) (oN o) i (oN o i) b = true ↔ (∀ j, j < i → oN o j ≠ b) ∧ R b = true := fun b => by
    rw [Elim.bag_iff (adj_symm es) (fun j q h1 h2 => ho j q h1 (by omega)) hs]
    constructor
    · rintro ⟨h1, h2⟩; exact ⟨h1, h.all hc h2⟩
    · rintro ⟨h1, h2⟩; exact ⟨h1, h.rch b h2⟩
  show _ = plc (fun b => Elim.gAt (adjB es) (oN o) i (oN o i) b) 6
  obtain ⟨d, hd⟩ : ∃ d, 6 = k + d := ⟨6 - k, by omega⟩
  rw [hd, plc_more (n := k) (d := d) fun j hj => by
    cases hg : Elim.gAt (adjB es) (oN o) i (oN o i) j
    · rfl
    · have := h.low j ((key j).1 hg).2
      omega]
  refine plc_congr fun j hj => ?_
  rw [Bool.eq_iff_iff, hp j hj, key j]
  exact And.comm

/-- one round over the variables: either nothing new, or more is reached -/
structure St (k : Nat) (es : List (List Int)) (o : List Int) (i : Nat) (R0 R : Nat → Bool) (g : Bool) (P : Prop) : Prop where
  inv : Inv k es o i R
  more : ∀ j, R0 j = true → R j = true
  grew : g = true → cnt k R < cnt k R0
  same : g = false → R = R0 ∧ P

variable {R0 : Nat → Bool} {g : Bool} {P Q : Prop}
theorem St.start (h : Inv k es o i R) (hP : P) : St k es o i R R false P := ⟨h, fun _ hj => hj, (fun e => by cases e), fun _ => ⟨rfl, hP⟩⟩
theorem St.imp (h : St k es o i R0 R g P) (hPQ : (R = R0 → P → Q)) : St k es o i R0 R g Q := ⟨h.inv, h.more, h.grew, fun e => ⟨(h.same e).1, hPQ (h.same e).1 (h.same e).2⟩⟩
theorem St.add (h : St k es o i R0 R g P) {v x : Nat} {e : List Int} (hv : R v = true) (hE : E o i v) (he : e ∈ es) (hve : (v : Int) ∈ e) (hxe : (x : Int) ∈ e) (hx : x < k) (hR : R x = false) : St k es o i R0 (upd R x) true Q := by
  refine ⟨h.inv.add hv hE he hve hxe hx, fun j hj => by simp [upd, h.more j hj], fun _ => ?_, fun e => by cases e⟩
  have h1 := cnt_lt hx hR
  cases g
  · rw [← (h.same rfl).1]; exact h1
  · have := h.grew rfl; omega

end Go.Proofs.Ytliggcbiiaegeac.Bg

/-
  spec.l4Bag.
-/
namespace Go.Proofs.Ytliggcbiiaegeac
open Go.RowKit

theorem Try.underlying164' : Try.prog.underlying 164 = some (.slice 4) := by kernel_rfl

/-- bools in a block -/
structure BAt (W : World) (b k : Nat) (R : Nat → Bool) : Prop where
  cell : ∀ j, j < k → W.cell? ⟨b, j, none⟩ = some (.bool (R j))
  free : ∀ j, j < k → W.frozen? ⟨b, j, none⟩ = false
  lt : b < W.heap.size
section
variable {W W' : World} {b k x : Nat} {R : Nat → Bool}
theorem BAt.below (h : BAt W b k R) (hb : Below W.heap.size W W') : BAt W' b k R :=
  ⟨fun j hj => (hb.cell (p := ⟨b, j, none⟩) h.lt).trans (h.cell j hj), fun j hj => (hb.frozen (p := ⟨b, j, none⟩) h.lt).trans (h.free j hj), Nat.lt_of_lt_of_le h.lt hb.size⟩
theorem BAt.set (h : BAt W b k R) (hx : x < k) : BAt (W.setCell ⟨b, x, none⟩ (.bool true)) b k (Bg.upd R x) :=
  ⟨fun j hj => by
    by_cases e : j = x
    · subst e
      rw [World.cell?_setCell_same _ _ _ (h.cell j hj)]
      simp [Bg.upd]
    · rw [World.cell?_setCell_other _ _ _ _ (by intro e2; simp only [Addr.mk.injEq] at e2; omega), h.cell j hj]
      simp [Bg.upd, e], fun j hj => by rw [World.frozen?_setCell]; exact h.free j hj, by rw [World.size_setCell]; exact h.lt⟩
end

/-- what the loops keep -/
structure Bk (w wr : World) (k : Nat) (R : Nat → Bool) : Prop where
  bel : Below w.heap.size w wr
  at' : BAt wr w.heap.size k R
theorem Bk.set {w wr : World} {k x : Nat} {R : Nat → Bool} (h : Bk w wr k R) (hx : x < k) : Bk w (wr.setCell ⟨w.heap.size, x, none⟩ (.bool true)) k (Bg.upd R x) := ⟨h.bel.setCell (Nat.le_refl _) _, h.at'.set hx⟩

theorem place_E {o : List Int} {k i v q : Nat} (hnd : ∀ a b, a < b → b < k → oN o a ≠ oN o b) (hq : q < k) (e : oN o q = v) : (q ≤ i → Bg.E o i v) ∧ (i < q → ¬ Bg.E o i v) := by
  refine ⟨fun h => ⟨q, by omega, e⟩, fun h h2 => ?_⟩
  obtain ⟨j, hj, ej⟩ := h2
  exact hnd j q (by omega) hq (ej.trans e.symm)

set_option maxHeartbeats 8000000 in
set_option maxRecDepth 1000000 in
theorem l4Bag_calls (w : World) (ve vo : Value) (es : List (List Int)) (o : List Int) (k i : Nat) (he : ISS w ve es) (hS : Short es) (ho : IS w vo o) (hk : k ≤ 6) (hlen : o.length = k) (hi : i < k)
    (hlow : ∀ e ∈ es, ∀ x ∈ e, 0 ≤ x ∧ x < (k : Int)) (hord : ∀ j, j < k → o.getD j 0 = (oN o j : Int) ∧ oN o j < k) (hnd : ∀ a b, a < b → b < k → oN o a ≠ oN o b)
    (hsur : ∀ v, v < k → ∃ q, q < k ∧ oN o q = v) (hs : adjB es (oN o i) (oN o i) = true) :
    Calls Try.prog 111 #[.int .i64 k, ve, vo, .int .i64 i] w fun e w' => ∃ v, e = .returned v ∧ w'.ownsRow w.heap.size 3 1 v (bagE es o i).length ((bagE es o i).map (Value.int .i64)) ∧ Below w.heap.size w w' := by
  obtain ⟨i0, hit, hz0, hz1, hz2⟩ := info_parts Try.infoInt
  have HPl : Hid (∀ wr, Below w.heap.size w wr → ∀ v : Nat, Calls Try.prog 144 #[vo, .int .i64 v] wr fun e w' => e = .returned (.int .i64 (plI v o 0)) ∧ w' = wr) := hid fun wr hb v => l4Place_calls wr vo o v (ho.below hb) (by omega)
  have HQ : Hid (∀ v, v < k → ∃ q, q < k ∧ plI (v : Int) o 0 = (q : Int) ∧ oN o q = v) := hid fun v hv => by
    obtain ⟨q, hq, e⟩ := hsur v hv
    refine ⟨q, hq, ?_, e⟩
    rw [← e, ← (hord q hq).1]
    refine plI_at (fun a b hab hb e2 => hnd a b hab (by omega) ?_) (f := q) (by omega) (Nat.zero_le _) (by omega)
    unfold oN; rw [e2]
  have HE : Hid (∀ v q, q < k → oN o q = v → (q ≤ i → Bg.E o i v) ∧ (i < q → ¬ Bg.E o i v)) := hid fun v q hq e => place_E hnd hq e
  have HIo : Hid (IS w vo o) := hid ho
  have HIe : Hid (ISS w ve es) := hid he
  have HB : Hid (∀ R, Bg.Inv k es o i R → (∀ v, R v = true → Bg.E o i v → Bg.Cl es R v) → ∀ p : Nat → Bool, (∀ v, v < k → (p v = true ↔ R v = true ∧ ∀ j, j < i → oN o j ≠ v)) → plc p k = bagE es o i) := hid fun R h1 h2 p h3 =>
    Bg.bag_eq hk (fun j q h4 h5 => hnd j q h4 (by omega)) (by omega) hs h1 h2 p h3
  have HI0 : Hid (Bg.Inv k es o i (Bg.upd (fun _ => false) (oN o i))) := hid (Bg.inv0 (hord i hi).2)
  have HN1 : Hid (∀ v q, q < k → oN o q = v → (i ≤ q ↔ ∀ j, j < i → oN o j ≠ v)) := hid fun v q hq e => by
    constructor
    · intro h j hj e2; exact hnd j q (by omega) hq (e2.trans e.symm)
    · intro h
      by_cases h2 : i ≤ q
      · exact h2
      · exact absurd e (h q (by omega))
  have HLow : Hid (∀ j p, j < es.length → p < (es.getD j []).length → ∃ xn : Nat, (es.getD j []).getD p 0 = (xn : Int) ∧ xn < k ∧ (xn : Int) ∈ es.getD j []) := hid fun j p hj hp => by
    have hm : es.getD j [] ∈ es := by rw [List.getD_eq_getElem?_getD, List.getElem?_eq_getElem hj]; exact List.getElem_mem _
    have hm2 : (es.getD j []).getD p 0 ∈ es.getD j [] := by
      generalize es.getD j [] = e at *
      rw [List.getD_eq_getElem?_getD, List.getElem?_eq_getElem hp]; exact List.getElem_mem _
    have h3 := hlow _ hm _ hm2
    exact ⟨((es.getD j []).getD p 0).toNat, by omega, by omega, by rw [show ((((es.getD j []).getD p 0).toNat : Nat) : Int) = (es.getD j []).getD p 0 by omega]; exact hm2⟩
  have HMem : Hid (∀ j, j < es.length → es.getD j [] ∈ es) := hid fun j hj => by rw [List.getD_eq_getElem?_getD, List.getElem?_eq_getElem hj]; exact List.getElem_mem _
  have HCl : Hid (∀ (R : Nat → Bool) (v : Nat), (∀ j, j < es.length → (v : Int) ∈ es.getD j [] → ∀ x ∈ es.getD j [], R x.toNat = true) → Bg.Cl es R v) := hid fun R v h e he' hv x hx => by
    obtain ⟨j, hj, rfl⟩ := List.getElem_of_mem he'
    have e1 : es.getD j [] = es[j] := by rw [List.getD_eq_getElem?_getD, List.getElem?_eq_getElem hj]; rfl
    exact h j hj (by rw [e1]; exact hv) x (by rw [e1]; exact hx)
  have HSl := hid hS.2
  have hoi := (hord i hi).2
  obtain ⟨ae, ce, rfl, hce⟩ := he
  obtain ⟨ao, co, rfl, hco⟩ := ho
  have HCe : Hid (∀ wr, Below w.heap.size w wr → ∀ j, j < es.length → ∃ b of u, ae = some ⟨b, of, none⟩ ∧ wr.cell? ⟨b, of + j, none⟩ = some u ∧ IS wr u (es.getD j [])) := hid fun wr hb j hj => by
    obtain ⟨a', c', e, h⟩ := HIe.out.below hb
    simp only [Value.slice.injEq] at e
    obtain ⟨rfl, -, -⟩ := e
    rcases h with h0 | ⟨b, of, rfl, h⟩
    · omega
    · obtain ⟨u, h1, h2⟩ := h j hj
      exact ⟨b, of, u, rfl, h1, h2⟩
  have hoc : ∃ b of, ao = some ⟨b, of, none⟩ ∧ w.cell? ⟨b, of + i, none⟩ = some (.int .i64 (oN o i : Int)) := by
    rcases hco with h0 | ⟨b, of, rfl, h⟩
    · omega
    · exact ⟨b, of, rfl, by rw [h i (by omega), (hord i hi).1]⟩
  have hes := hS.1
  clear hce hco hlow hord hnd hsur hs HIe HIo hS
  rw [hlen] at *
  clear hlen
  obtain ⟨bo, fo, rfl, cio⟩ := hoc
  obtain ⟨oi, hoe⟩ : ∃ x, x = oN o i := ⟨_, rfl⟩
  rw [← hoe] at cio HI0 hoi
  clear hoe
  have hmk := run_make_row' (P := Try.prog) 164 4 (.bool false) 1 Try.underlying164' (by kernel_rfl) rfl .i64 .i64 k (by omega) (by omega)
  have hb0 := heap_alloc_new w (.cells (madeCells #[.bool false] k) 4)
  have hA0 : BAt (w.alloc (.cells (madeCells #[.bool false] k) 4)) w.heap.size k (fun _ => false) := ⟨fun j hj => by rw [cell_of_row _ _ _ _ _ _ hb0]; exact made_get _ _ _ hj, fun j _ => by unfold World.frozen?; rw [hb0]; simp, by simp⟩
  have c0 := hA0.cell oi hoi
  have f0 := hA0.free oi hoi
  have hb1 := heap_alloc_new w (.cells ((madeCells #[.bool false] k).setIfInBounds oi (.bool true)) 4)
  have hA1 : BAt (w.alloc (.cells ((madeCells #[.bool false] k).setIfInBounds oi (.bool true)) 4)) w.heap.size k (Bg.upd (fun _ => false) oi) := ⟨fun j hj => by
    rw [cell_of_row _ _ _ _ _ _ hb1, Array.getElem?_setIfInBounds]
    have hm : (madeCells #[.bool false] k)[j]? = some (.bool false) := made_get _ _ _ hj
    by_cases e : oi = j
    · subst e
      have hlt : oi < (madeCells #[.bool false] k).size := by
        rcases Nat.lt_or_ge oi (madeCells #[.bool false] k).size with h | h
        · exact h
        · rw [Array.getElem?_eq_none h] at hm; cases hm
      rw [if_pos rfl, if_pos hlt]
      simp [Bg.upd]
    · rw [if_neg e, hm]
      simp [Bg.upd, Ne.symm e], fun j _ => by unfold World.frozen?; rw [hb1]; simp, by simp⟩
  have HBk1 : Hid (Bk w (w.alloc (.cells ((madeCells #[.bool false] k).setIfInBounds oi (.bool true)) 4)) k (Bg.upd (fun _ => false) oi)) := hid ⟨(Below.refl _ _).alloc (Nat.le_refl _) _, hA1⟩
  clear hb1 hA1
  clear hb0 hA0
  generalize es.length = n at *
  have hcio : (w.alloc (.cells (madeCells #[.bool false] k) 4)).cell? ⟨bo, fo + i, none⟩ = some (.int .i64 oi) := by
    rw [← cio]
    exact ((Below.refl _ _).alloc (Nat.le_refl _) _).cell (p := ⟨bo, fo + i, none⟩) (World.block_lt_of_cell? w _ cio)
  clear cio
  go_enter Try.func111, Try.ntmps111
  go_upto_region 3 with fail
  generalize w.alloc (.cells ((madeCells #[.bool false] k).setIfInBounds oi (.bool true)) 4) = W1 at *
  clear c0 f0 hcio hmk
  generalize Bg.upd (fun _ => false) oi = R1 at *
  go_wp2_with fail
  go_loopg [10] (Bg.cnt k R1 + 1) (fun gk t wr => ∃ (g : Bool) (R : Nat → Bool), t = .bool g ∧ Hid (gk = Bg.cnt k R + (if g then 1 else 0)) ∧ Hid (Bk w wr k R ∧ Bg.Inv k es o i R ∧ (g = false → ∀ v, R v = true → Bg.E o i v → Bg.Cl es R v)))
  case atStart => exact ⟨true, R1, rfl, hid rfl, hid ⟨HBk1.out, HI0.out, fun e => by cases e⟩⟩
  case round =>
    clear HBk1 HI0
    obtain ⟨g, R, rfl, HG, HH⟩ := hrel
    cases g
    · have HFin := hid (HB.out R HH.out.2.1 (HH.out.2.2 rfl))
      have HK := hid HH.out.1
      clear HH HG HB HCl HMem HLow HCe HSl HE
      generalize wr = W2 at *
      obtain ⟨p, hp⟩ : ∃ p : Nat → Bool, p = fun v : Nat => R v && decide ((i : Int) ≤ plI (v : Int) o 0) := ⟨_, rfl⟩
      have HP : Hid (∀ v, p v = (R v && decide ((i : Int) ≤ plI (v : Int) o 0))) := hid fun v => by rw [hp]
      have HBg : Hid (plc p k = bagE es o i) := hid (HFin.out p fun v hv => by
        obtain ⟨q, hq, e1, e2⟩ := HQ.out v hv
        rw [HP.out, e1, Bool.and_eq_true, decide_eq_true_eq, ← HN1.out v q hq e2]
        constructor
        · rintro ⟨h1, h2⟩; exact ⟨h1, by omega⟩
        · rintro ⟨h1, h2⟩; exact ⟨h1, by omega⟩)
      have hws := HK.out.at'.lt
      clear hp HFin HN1
      go_wp2_with fail
      go_loopw [16, 17] (fun u t wr => ∃ v : Nat, v ≤ k ∧ t = .int .i64 v ∧ wr.ownsRow W2.heap.size 3 1 u (plc p v).length ((plc p v).map (Value.int .i64)) ∧ Below W2.heap.size W2 wr) (fun _ t _ => k - (intOf t).toNat)
      case atStart => exact ⟨0, Nat.zero_le _, rfl, World.ownsRow_made W2 #[] 0 (Nat.le_refl _) (by decide) rfl, (Below.refl _ _).alloc (Nat.le_refl _) _⟩
      case round =>
        obtain ⟨v, hv, rfl, hown, hnx⟩ := hrel
        have hple := plc_le p v
        have hns := hnx.size
        by_cases hvk : v < k
        · have i1 : (v : Int) < (k : Int) := by omega
          have c1 := (HK.out.at'.below hnx).cell v hvk
          have HPv := hid (HP.out v)
          cases hR : R v
          · rw [hR] at c1 HPv
            have e1 := hid (plc_miss p v HPv.out)
            clear hR HPv
            go_wp2_with fail
            go_roundw
            case rel => exact ⟨v + 1, by omega, by go_num, by rw [e1.out]; exact hown, hnx⟩
            case measure => simp [intOf]; omega
          · rw [hR] at c1 HPv
            have KP := hid (HPl.out wr (bt HK.out.bel hnx) v)
            obtain ⟨q, hq, eq1, -⟩ := HQ.out v hvk
            rw [eq1] at KP HPv
            clear eq1 hR
            by_cases hqi : i ≤ q
            · have i2 : (i : Int) ≤ (q : Int) := by omega
              have e1 := hid (plc_hit p v (by rw [HPv.out, decide_eq_true i2]; rfl))
              clear HPv
              go_wp2_with fail
              refine KP.out.mono ?_
              rintro e w3 ⟨rfl, hw3⟩
              subst w3
              go_wp2_with (first
                | (at_builtin; refine wpList_append_own _ rfl _ _ 38 rfl W2.heap.size 3 i0 (.int .i64 0) 1 8 Try.underlying38 hit hz0 hz1 hz2 rfl (by decide) _ _ _ rfl (hown.alloc _) ⟨wr.heap.size, 0, none⟩ 1 1 [.int .i64 v] rfl rfl ?c1 ?c2 ?c3 ?c4 ?c5 ?_)
                | fail)
              case c1 =>
                intro j u hj
                match j, hj with
                | 0, hj => simp at hj; subst hj; simp [Addr.add]
              case c2 => intro u hu; simp at hu; subst hu; rfl
              case c3 => unfold maxLen; omega
              case c4 => omega
              case c5 => simp; omega
              intro v' w1 hown' hgrow _
              have hb := own_grow hns hown hnx hgrow
              have hown2 : w1.ownsRow W2.heap.size 3 1 v' (plc p (v + 1)).length ((plc p (v + 1)).map (Value.int .i64)) := by
                rw [e1.out]; simpa using hown'
              clear hown' hgrow hown
              go_wp2
              go_roundw
              case rel => exact ⟨v + 1, by omega, by go_num, hown2, hb⟩
              case measure => simp [intOf]; omega
            · have i2 : ¬ ((i : Int) ≤ (q : Int)) := by omega
              have e1 := hid (plc_miss p v (by rw [HPv.out, decide_eq_false i2]; rfl))
              clear HPv
              go_wp2_with fail
              refine KP.out.mono ?_
              rintro e w3 ⟨rfl, hw3⟩
              subst w3
              go_wp2_with fail
              go_roundw
              case rel => exact ⟨v + 1, by omega, by go_num, by rw [e1.out]; exact hown, hnx⟩
              case measure => simp [intOf]; omega
        · obtain rfl : v = k := by omega
          have i1 : ¬ ((v : Int) < (v : Int)) := by omega
          rw [HBg.out] at hown
          have HO := hid (own_base hown (Nat.le_of_lt hws))
          have HBF := hid (bt HK.out.bel hnx)
          clear hown hnx
          go_wp2_with fail
          go_ret
          exact ⟨_, rfl, HO.out, HBF.out⟩
    · generalize wr = W2 at *
      go_wp2_with fail
      go_loopw [10, 11] (fun t1 t2 wr => ∃ (v : Nat) (g : Bool) (R' : Nat → Bool), v ≤ k ∧ t2 = .int .i64 v ∧ t1 = .bool g ∧ Hid (Bk w wr k R' ∧ Bg.St k es o i R R' g (∀ v', v' < v → R v' = true → Bg.E o i v' → Bg.Cl es R v'))) (fun _ t _ => k - (intOf t).toNat)
      case atStart => exact ⟨0, false, R, Nat.zero_le _, rfl, rfl, hid ⟨HH.out.1, Bg.St.start HH.out.2.1 (fun v' h => by omega)⟩⟩
      case round =>
        clear HH
        obtain ⟨v, g, R', hv, rfl, rfl, HT⟩ := hrel
        by_cases hvk : v < k
        · have i1 : (v : Int) < (k : Int) := by omega
          have c1 := HT.out.1.at'.cell v hvk
          cases hR : R' v
          · rw [hR] at c1
            have HN := hid (HT.out.2.imp (Q := ∀ v', v' < v + 1 → R v' = true → Bg.E o i v' → Bg.Cl es R v') (fun e hP v' h h1 h2 => by
              by_cases e2 : v' = v
              · subst e2; rw [← e, hR] at h1; cases h1
              · exact hP v' (by omega) h1 h2))
            have HK := hid HT.out.1
            clear HT hR
            go_wp2_with fail
            go_roundw
            case rel => exact ⟨v + 1, _, R', by omega, by go_num, rfl, hid ⟨HK.out, HN.out⟩⟩
            case measure => simp [intOf]; omega
          · rw [hR] at c1
            have KP := hid (HPl.out wr HT.out.1.bel v)
            obtain ⟨q, hq, eq1, eq2⟩ := HQ.out v hvk
            rw [eq1] at KP
            have HEv := hid (HE.out v q hq eq2)
            clear eq1 eq2
            by_cases hqi : i < q
            · have i2 : (i : Int) < (q : Int) := by omega
              have HN := hid (HT.out.2.imp (Q := ∀ v', v' < v + 1 → R v' = true → Bg.E o i v' → Bg.Cl es R v') (fun e hP v' h h1 h2 => by
                by_cases e2 : v' = v
                · subst e2; exact absurd h2 (HEv.out.2 hqi)
                · exact hP v' (by omega) h1 h2))
              have HK := hid HT.out.1
              clear HT hR HEv
              go_wp2_with fail
              refine KP.out.mono ?_
              rintro e w3 ⟨rfl, hw3⟩
              subst w3
              go_wp2_with fail
              go_roundw
              case rel => exact ⟨v + 1, _, R', by omega, by go_num, rfl, hid ⟨HK.out, HN.out⟩⟩
              case measure => simp [intOf]; omega
            · have i2 : ¬ ((i : Int) < (q : Int)) := by omega
              have hEv := HEv.out.1 (by omega)
              have HEv1 := hid hEv
              have HRv := hid hR
              clear HEv hEv hR
              generalize wr = W3 at *
              go_wp2_with fail
              refine KP.out.mono ?_
              rintro e w3 ⟨rfl, hw3⟩
              subst w3
              go_wp2_with fail
              clear c1 KP
              go_loopw [10, 46] (fun t1 t2 wr => ∃ (j : Nat) (g : Bool) (R' : Nat → Bool), j ≤ n ∧ t2 = .int .i64 j ∧ t1 = .bool g ∧ Hid (Bk w wr k R' ∧ R' v = true ∧ Bg.St k es o i R R' g ((∀ v', v' < v → R v' = true → Bg.E o i v' → Bg.Cl es R v') ∧ ∀ j', j' < j → (v : Int) ∈ es.getD j' [] → ∀ x ∈ es.getD j' [], R x.toNat = true))) (fun _ t _ => n - (intOf t).toNat)
              case atStart => exact ⟨0, g, R', Nat.zero_le _, rfl, rfl, hid ⟨HT.out.1, HRv.out, HT.out.2.imp (fun _ h => ⟨h, fun j' h => by omega⟩)⟩⟩
              case round =>
                clear HT HRv
                obtain ⟨j, g, R', hj, rfl, rfl, HT⟩ := hrel
                by_cases hjn : j < n
                · have i3 : (j : Int) < (n : Int) := by omega
                  obtain ⟨b, of, u, ea, c1, hu⟩ := HCe.out wr HT.out.1.bel j hjn
                  subst ea
                  have KH := hid (l1Has_calls wr u (es.getD j []) (v : Int) hu (HSl.out j))
                  have HU := hid hu
                  obtain ⟨au, cu, rfl, hcu⟩ := hu
                  obtain ⟨m, hm⟩ : ∃ m, m = (es.getD j []).length := ⟨_, rfl⟩
                  have HM := hid hm
                  have HCu : Hid (∀ W5, Below w.heap.size w W5 → ∀ p, p < m → ∃ b of, au = some ⟨b, of, none⟩ ∧ W5.cell? ⟨b, of + p, none⟩ = some (.int .i64 ((es.getD j []).getD p 0))) := hid (by
                    intro W5 hW5 p hp
                    obtain ⟨b5, of5, u5, e5, c5, hu5⟩ := HCe.out W5 hW5 j hjn
                    simp only [Option.some.injEq, Addr.mk.injEq, and_true] at e5
                    obtain ⟨rfl, rfl⟩ := e5
                    obtain ⟨b6, of6, u6, e6, c6, hu6⟩ := HCe.out w (Below.refl _ _) j hjn
                    simp only [Option.some.injEq, Addr.mk.injEq, and_true] at e6
                    obtain ⟨rfl, rfl⟩ := e6
                    have hlt := World.block_lt_of_cell? w _ c6
                    have e1 := (hW5.cell (p := ⟨b, of + j, none⟩) hlt).trans c6
                    have e2 := (HT.out.1.bel.cell (p := ⟨b, of + j, none⟩) hlt).trans c6
                    rw [c5] at e1
                    rw [c1] at e2
                    obtain rfl := Option.some.inj e1
                    obtain rfl := Option.some.inj e2
                    obtain ⟨a7, c7, e7, h7⟩ := hu5
                    simp only [Value.slice.injEq] at e7
                    obtain ⟨rfl, -, -⟩ := e7
                    rcases h7 with h0 | ⟨b8, of8, rfl, h8⟩
                    · omega
                    · exact ⟨b8, of8, rfl, h8 p (by omega)⟩)
                  have hm1 : m ≤ 1099511627776 := by rw [hm]; exact HSl.out j
                  rw [← hm] at c1 KH HU
                  clear hm hcu
                  by_cases hin : (v : Int) ∈ es.getD j []
                  · rw [decide_eq_true hin] at KH
                    have HIN := hid hin
                    clear hin
                    generalize wr = W4 at *
                    go_wp2_with fail
                    refine KH.out.mono ?_
                    rintro e w3 ⟨rfl, hw3⟩
                    subst w3
                    go_wp2_with fail
                    clear c1 KH
                    go_loopw [10, 56] (fun t1 t2 wr => ∃ (p : Nat) (g : Bool) (R' : Nat → Bool), p ≤ m ∧ t2 = .int .i64 p ∧ t1 = .bool g ∧ Hid (Bk w wr k R' ∧ R' v = true ∧ Bg.St k es o i R R' g (((∀ v', v' < v → R v' = true → Bg.E o i v' → Bg.Cl es R v') ∧ ∀ j', j' < j → (v : Int) ∈ es.getD j' [] → ∀ x ∈ es.getD j' [], R x.toNat = true) ∧ ∀ p', p' < p → R ((es.getD j []).getD p' 0).toNat = true))) (fun _ t _ => m - (intOf t).toNat)
                    case atStart => exact ⟨0, g, R', Nat.zero_le _, rfl, rfl, hid ⟨HT.out.1, HT.out.2.1, HT.out.2.2.imp (fun _ h => ⟨h, fun p' h => by omega⟩)⟩⟩
                    case round =>
                      clear HT
                      obtain ⟨p, g, R', hp, rfl, rfl, HT⟩ := hrel
                      by_cases hpm : p < m
                      · have i4 : (p : Int) < (m : Int) := by omega
                        obtain ⟨bu, fu, ea, c4⟩ := HCu.out wr HT.out.1.bel p hpm
                        subst ea
                        obtain ⟨xn, ex, hxk, hxe⟩ := HLow.out j p hjn (by rw [← HM.out]; exact hpm)
                        have HX := hid ex
                        rw [ex] at c4
                        have c5 := HT.out.1.at'.cell xn hxk
                        cases hR : R' xn
                        · rw [hR] at c5
                          have f5 := HT.out.1.at'.free xn hxk
                          have HN := hid (And.intro (HT.out.1.set hxk) (And.intro (show Bg.upd R' xn v = true by simp [Bg.upd, HT.out.2.1]) (HT.out.2.2.add (Q := (((∀ v', v' < v → R v' = true → Bg.E o i v' → Bg.Cl es R v') ∧ ∀ j', j' < j → (v : Int) ∈ es.getD j' [] → ∀ x ∈ es.getD j' [], R x.toNat = true) ∧ ∀ p', p' < p + 1 → R ((es.getD j []).getD p' 0).toNat = true)) HT.out.2.1 HEv1.out (HMem.out j hjn) HIN.out hxe hxk hR)))
                          clear HT hR ex hxe
                          go_wp2_with fail
                          go_roundw
                          case rel => exact ⟨p + 1, true, _, by omega, by go_num, rfl, HN⟩
                          case measure => simp [intOf]; omega
                        · rw [hR] at c5
                          have HN := hid (HT.out.2.2.imp (Q := (((∀ v', v' < v → R v' = true → Bg.E o i v' → Bg.Cl es R v') ∧ ∀ j', j' < j → (v : Int) ∈ es.getD j' [] → ∀ x ∈ es.getD j' [], R x.toNat = true) ∧ ∀ p', p' < p + 1 → R ((es.getD j []).getD p' 0).toNat = true)) (fun e h => ⟨h.1, fun p' h2 => by
                            by_cases e2 : p' = p
                            · subst e2; rw [HX.out, ← e]; simpa using hR
                            · exact h.2 p' (by omega)⟩))
                          have HK := hid (And.intro HT.out.1 HT.out.2.1)
                          clear HT hR ex hxe
                          go_wp2_with fail
                          go_roundw
                          case rel => exact ⟨p + 1, _, R', by omega, by go_num, rfl, hid ⟨HK.out.1, HK.out.2, HN.out⟩⟩
                          case measure => simp [intOf]; omega
                      · obtain rfl : p = m := by omega
                        have i4 : ¬ ((p : Int) < (p : Int)) := by omega
                        have HN := hid (HT.out.2.2.imp (Q := (∀ v', v' < v → R v' = true → Bg.E o i v' → Bg.Cl es R v') ∧ ∀ j', j' < j + 1 → (v : Int) ∈ es.getD j' [] → ∀ x ∈ es.getD j' [], R x.toNat = true) (fun _ h => ⟨h.1.1, fun j' h2 h3 x hx => by
                          by_cases e2 : j' = j
                          · subst e2
                            obtain ⟨p', hp', ep⟩ := getD_mem hx
                            rw [← ep]
                            exact h.2 p' (by rw [HM.out]; exact hp')
                          · exact h.1.2 j' (by omega) h3 x hx⟩))
                        have HK := hid (And.intro HT.out.1 HT.out.2.1)
                        clear HT
                        go_wp2_with fail
                        go_roundw
                        case rel => exact ⟨j + 1, _, R', by omega, by go_num, rfl, hid ⟨HK.out.1, HK.out.2, HN.out⟩⟩
                        case measure => simp [intOf]; omega
                  · rw [decide_eq_false hin] at KH
                    have HN := hid (HT.out.2.2.imp (Q := (∀ v', v' < v → R v' = true → Bg.E o i v' → Bg.Cl es R v') ∧ ∀ j', j' < j + 1 → (v : Int) ∈ es.getD j' [] → ∀ x ∈ es.getD j' [], R x.toNat = true) (fun _ h => ⟨h.1, fun j' h2 h3 => by
                      by_cases e2 : j' = j
                      · subst e2; exact absurd h3 hin
                      · exact h.2 j' (by omega) h3⟩))
                    have HK := hid (And.intro HT.out.1 HT.out.2.1)
                    clear HT hin HM HU
                    go_wp2_with fail
                    refine KH.out.mono ?_
                    rintro e w3 ⟨rfl, hw3⟩
                    subst w3
                    go_wp2_with fail
                    go_roundw
                    case rel => exact ⟨j + 1, _, R', by omega, by go_num, rfl, hid ⟨HK.out.1, HK.out.2, HN.out⟩⟩
                    case measure => simp [intOf]; omega
                · obtain rfl : j = n := by omega
                  have i3 : ¬ ((j : Int) < (j : Int)) := by omega
                  have HN := hid (HT.out.2.2.imp (Q := ∀ v', v' < v + 1 → R v' = true → Bg.E o i v' → Bg.Cl es R v') (fun _ h v' h1 h2 h3 => by
                    by_cases e2 : v' = v
                    · subst e2; exact HCl.out R v' h.2
                    · exact h.1 v' (by omega) h2 h3))
                  have HK := hid HT.out.1
                  clear HT
                  go_wp2_with fail
                  go_roundw
                  case rel => exact ⟨v + 1, _, R', by omega, by go_num, rfl, hid ⟨HK.out, HN.out⟩⟩
                  case measure => simp [intOf]; omega
        · obtain rfl : v = k := by omega
          have i1 : ¬ ((v : Int) < (v : Int)) := by omega
          have HN : Hid (Bg.cnt v R' + (if g then 1 else 0) < Bg.cnt v R + 1) := hid (by
            cases g
            · have := (HT.out.2.same rfl).1
              rw [this]; simp
            · have := HT.out.2.grew rfl
              simp; omega)
          have HC := hid (And.intro HT.out.1 (And.intro HT.out.2.inv (fun (e : g = false) (v' : Nat) (h1 : R' v' = true) (h2 : Bg.E o i v') => show Bg.Cl es R' v' from by
            have h3 := HT.out.2.same e
            rw [h3.1] at h1 ⊢
            exact h3.2 v' (by rw [← h3.1] at h1; exact HT.out.2.inv.low v' h1) h1 h2)))
          clear HT
          go_wp2_with fail
          go_roundg (Bg.cnt v R' + (if g then 1 else 0))
          case rel => exact ⟨g, R', rfl, hid rfl, HC⟩
          case measure => rw [HG.out]; exact HN.out

end Go.Proofs.Ytliggcbiiaegeac

/-
  impl: (members).list.
-/
namespace Go.Proofs.Ytliggcbiiaegeac
open Go.RowKit

/-- members as a value -/
def memV (m : Nat → Bool) : Value := .agg #[.bool (m 0), .bool (m 1), .bool (m 2), .bool (m 3), .bool (m 4), .bool (m 5)]
def memA (m : Nat → Bool) : Array Value := #[.bool (m 0), .bool (m 1), .bool (m 2), .bool (m 3), .bool (m 4), .bool (m 5)]

theorem memA_get (m : Nat → Bool) {v : Nat} (h : v < 6) : (memA m)[v]? = some (.bool (m v)) := by
  obtain rfl | rfl | rfl | rfl | rfl | rfl : v = 0 ∨ v = 1 ∨ v = 2 ∨ v = 3 ∨ v = 4 ∨ v = 5 := by omega
  all_goals rfl

theorem run_index_mem (m : Nat → Bool) {v : Nat} (h : v < 6) (w : World) : (Sem.run Try.prog (Instr.index 148 (.agg #[.bool (m 0), .bool (m 1), .bool (m 2), .bool (m 3), .bool (m 4), .bool (m 5)]) (.int .i64 v)) w) = .ok (.bool (m v)) w := by
  obtain rfl | rfl | rfl | rfl | rfl | rfl : v = 0 ∨ v = 1 ∨ v = 2 ∨ v = 3 ∨ v = 4 ∨ v = 5 := by omega
  all_goals kernel_rfl

set_option maxHeartbeats 4000000 in
set_option maxRecDepth 1000000 in
theorem list_calls (w : World) (m : Nat → Bool) :
    Calls Try.prog 115 #[memV m] w fun e w' => ∃ v, e = .returned v ∧ w'.ownsRow w.heap.size 3 1 v (plc m 6).length ((plc m 6).map (Value.int .i64)) ∧ Below w.heap.size w w' := by
  obtain ⟨i0, hi, hz0, hz1, hz2⟩ := info_parts Try.infoInt
  have HX : Hid (∀ (v : Nat) (W : World), v < 6 → (Sem.run Try.prog (Instr.index 148 (.agg #[.bool (m 0), .bool (m 1), .bool (m 2), .bool (m 3), .bool (m 4), .bool (m 5)]) (.int .i64 v)) W) = .ok (.bool (m v)) W) := hid fun v W h => run_index_mem m h W
  have HS0 : Hid (((w.alloc (.cells #[.bool (m 0), .bool (m 1), .bool (m 2), .bool (m 3), .bool (m 4), .bool (m 5)] 148)).alloc (.cells #[] 3)).ownsRow w.heap.size 3 1 (.slice (some ⟨w.heap.size + 1, 0, none⟩) 0 0) (plc m 0).length ((plc m 0).map (Value.int .i64))) := hid (by
    have h := World.ownsRow_made (w.alloc (.cells #[.bool (m 0), .bool (m 1), .bool (m 2), .bool (m 3), .bool (m 4), .bool (m 5)] 148)) (e := 3) (size := 1) #[] 0 (Nat.le_refl _) (by decide) rfl
    rw [World.size_alloc] at h
    exact own_base h (Nat.le_succ _))
  unfold memV
  go_enter Try.func115, Try.ntmps115
  go_wp2
  go_loopw [3, 8] (fun u t wr => ∃ v : Nat, v ≤ 6 ∧ t = .int .i64 v ∧ wr.ownsRow w.heap.size 3 1 u (plc m v).length ((plc m v).map (Value.int .i64)) ∧ Below w.heap.size w wr) (fun _ t _ => 6 - (intOf t).toNat)
  case atStart => exact ⟨0, Nat.zero_le _, rfl, HS0.out, ((Below.refl _ _).alloc (Nat.le_refl _) _).alloc (by simp) _⟩
  case round =>
    obtain ⟨v, hv, rfl, hown, hnx⟩ := hrel
    have hple := plc_le m v
    have hns := hnx.size
    by_cases hvk : v < 6
    · have i1 : (v : Int) < 6 := by omega
      have c1 := HX.out v wr hvk
      cases hR : m v
      · rw [hR] at c1
        have e1 := hid (plc_miss m v hR)
        clear hR
        go_wp2_with fail
        go_roundw
        case rel => exact ⟨v + 1, by omega, by go_num, by rw [e1.out]; exact hown, hnx⟩
        case measure => simp [intOf]; omega
      · rw [hR] at c1
        have e1 := hid (plc_hit m v hR)
        clear hR
        go_wp2_with (first
          | (at_builtin; refine wpList_append_own _ rfl _ _ 38 rfl w.heap.size 3 i0 (.int .i64 0) 1 8 Try.underlying38 hi hz0 hz1 hz2 rfl (by decide) _ _ _ rfl (hown.alloc _) ⟨wr.heap.size, 0, none⟩ 1 1 [.int .i64 v] rfl rfl ?c1 ?c2 ?c3 ?c4 ?c5 ?_)
          | fail)
        case c1 =>
          intro j u hj
          match j, hj with
          | 0, hj => simp at hj; subst hj; simp [Addr.add]
        case c2 => intro u hu; simp at hu; subst hu; rfl
        case c3 => unfold maxLen; omega
        case c4 => omega
        case c5 => simp; omega
        intro v' w1 hown' hgrow _
        have hb := own_grow hns hown hnx hgrow
        have hown2 : w1.ownsRow w.heap.size 3 1 v' (plc m (v + 1)).length ((plc m (v + 1)).map (Value.int .i64)) := by
          rw [e1.out]; simpa using hown'
        clear hown' hgrow hown
        go_wp2
        go_roundw
        case rel => exact ⟨v + 1, by omega, by go_num, hown2, hb⟩
        case measure => simp [intOf]; omega
    · obtain rfl : v = 6 := by omega
      go_wp2
      go_ret
      exact ⟨_, rfl, hown, hnx⟩

end Go.Proofs.Ytliggcbiiaegeac
