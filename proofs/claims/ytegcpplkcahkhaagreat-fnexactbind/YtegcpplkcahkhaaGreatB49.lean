import Derived.Test.YtegcpplkcahkhaaGreatB26
import Derived.Test.YtegcpplkcahkhaaGreatB33
/-
  A list of lists of numbers is marked, one after another, and the marks are found again.
-/
namespace Go.Proofs.YtegcpplkcahkhaaGreat
open Go.RowKit

abbrev PV := Value × List Int
def noP : PV := (undef, [])
def lenB (ps : List PV) : Nat → Nat
  | 0 => 0
  | j + 1 => lenB ps j + (ps.getD j noP).2.length
theorem lenB_le (ps : List PV) : ∀ {i j : Nat}, i ≤ j → lenB ps i ≤ lenB ps j
  | i, 0, h => by
    have e : i = 0 := Nat.le_zero.1 h
    subst e
    exact Nat.le_refl _
  | i, j + 1, h => by
    by_cases e : i = j + 1
    · rw [e]; exact Nat.le_refl _
    · exact Nat.le_trans (lenB_le ps (i := i) (j := j) (by omega)) (Nat.le_add_right _ _)
theorem lenB_mul {ps : List PV} {m : Nat} (h : ∀ p ∈ ps, p.2.length ≤ m) : ∀ j, lenB ps j ≤ j * m
  | 0 => Nat.zero_le _
  | j + 1 => by
    have h1 := lenB_mul h j
    have h2 : (ps.getD j noP).2.length ≤ m := by
      rw [List.getD_eq_getElem?_getD]
      cases e : ps[j]? with
      | none => exact Nat.zero_le _
      | some p => exact h p (List.mem_of_getElem? e)
    rw [Nat.succ_mul]
    exact Nat.add_le_add h1 h2

theorem mark_heldB (w : World) (B : Nat) (v : Value) (l : List Int) (k : Int) (h : w.ownsRow B 3 1 v l.length (l.map (Value.int .i64))) (hl : l.length ≤ 1099511627776) (hk : 0 ≤ k) (hk' : k ≤ 1099511627776) :
    Calls Tryz.prog 40 #[v, .int .i64 k] w fun e w' => e = .returned (.int .i64 (k + l.length)) ∧ (∀ b, some b ≠ v.ownBlock → w'.heap[b]? = w.heap[b]?) ∧ w'.heap.size = w.heap.size ∧ Below B w w' ∧
      ∀ W, (∀ g, v.ownBlock = some g → W.heap[g]? = w'.heap[g]?) → w'.heap.size ≤ W.heap.size → Calls Tryz.prog 42 #[v, .int .i64 k] W fun e w'' => e = .returned (.int .i64 (k + l.length)) ∧ w'' = W := by
  rcases h.2 with ⟨rfl, h2⟩ | ⟨g, cap, cur, rfl, hb', hc, hr⟩
  · rw [h2]
    refine (markIntS_nil w none 0 k).mono ?_
    rintro e w' ⟨rfl, rfl⟩
    refine ⟨by simp, fun b _ => rfl, rfl, Below.refl _ _, fun W _ _ => ?_⟩
    have := heldIntS_nil W none 0 k
    simpa using this
  · refine (markIntS_cap w g cap l k (own_ownI h) hl hk hk').mono ?_
    rintro e w' ⟨rfl, ho, hog⟩
    exact ⟨rfl, fun b hb => hog.block b (fun e => hb (by rw [e]; rfl)), hog.size, hog.below hb', fun W hW hs => heldIntS_cap W g cap l.length k (ho.move (hW g rfl) hs) hl hk hk'⟩

/-- lists of numbers of one's own, apart from one another -/
structure GB (w : World) (B : Nat) (ps : List PV) : Prop where
  own : ∀ j, j < ps.length → w.ownsRow B 3 1 (ps.getD j noP).1 (ps.getD j noP).2.length ((ps.getD j noP).2.map (Value.int .i64))
  ap : ∀ i j, i < j → j < ps.length → ApW (ps.getD i noP).1 (ps.getD j noP).1
  few : lenB ps ps.length ≤ 2000000000
/-- what has been marked of the first j lists -/
structure MkB (w wr : World) (B : Nat) (ps : List PV) (k : Nat) (j : Nat) : Prop where
  size : wr.heap.size = w.heap.size
  bel : Below B w wr
  far : ∀ q, (∀ i, i < j → some q ≠ (ps.getD i noP).1.ownBlock) → wr.heap[q]? = w.heap[q]?
  held : ∀ i, i < j → ∀ W, (∀ q, (ps.getD i noP).1.ownBlock = some q → W.heap[q]? = wr.heap[q]?) → wr.heap.size ≤ W.heap.size → Calls Tryz.prog 42 #[(ps.getD i noP).1, .int .i64 ((k + lenB ps i : Nat) : Int)] W fun e w'' => e = .returned (.int .i64 ((k + lenB ps (i + 1) : Nat) : Int)) ∧ w'' = W

section
variable {w wr : World} {B : Nat} {ps : List PV} {k j : Nat}
theorem MkB.start : MkB w w B ps k 0 := ⟨rfl, Below.refl _ _, fun _ _ => rfl, fun i hi => by omega⟩
theorem MkB.own (h : MkB w wr B ps k j) (hG : GB w B ps) (hj : j < ps.length) : wr.ownsRow B 3 1 (ps.getD j noP).1 (ps.getD j noP).2.length ((ps.getD j noP).2.map (Value.int .i64)) :=
  own_move (hG.own j hj) fun q hq => h.far q fun i hi e2 => hG.ap i j hi hj q e2.symm hq
theorem MkB.other (h : MkB w wr B ps k j) (hG : GB w B ps) (hj : j ≤ ps.length) {g : Nat} {ty : TypeId} (ht : ∃ cur, w.heap[g]? = some (.cells cur ty (0, 0))) (hne : 3 ≠ ty) : wr.heap[g]? = w.heap[g]? :=
  h.far g fun i hi => own_ne (hG.own i (by omega)) ht hne
theorem mark1 (h : MkB w wr B ps k j) (hG : GB w B ps) (hj : j < ps.length) (hk : k ≤ 8388608) :
    Calls Tryz.prog 40 #[(ps.getD j noP).1, .int .i64 ((k + lenB ps j : Nat) : Int)] wr fun e w' => e = .returned (.int .i64 ((k + lenB ps (j + 1) : Nat) : Int)) ∧ MkB w w' B ps k (j + 1) := by
  have hf := hG.few
  have h1 := lenB_le ps (show j + 1 ≤ ps.length from hj)
  have h2 : lenB ps (j + 1) = lenB ps j + (ps.getD j noP).2.length := rfl
  have hR : ((k + lenB ps j : Nat) : Int) + ((ps.getD j noP).2.length : Int) = ((k + lenB ps (j + 1) : Nat) : Int) := by omega
  refine (mark_heldB wr B _ _ ((k + lenB ps j : Nat) : Int) (h.own hG hj) (by omega) (by omega) (by omega)).mono ?_
  rintro e w2 ⟨rfl, g1, g2, g3, g4⟩
  rw [hR] at g4
  refine ⟨ret_int hR, g2.trans h.size, h.bel.trans g3, fun q hq => (g1 q (hq j (by omega))).trans (h.far q fun i hi => hq i (by omega)), fun i hi W hW hs => ?_⟩
  by_cases e : i = j
  · subst e; exact g4 W hW hs
  · exact h.held i (by omega) W (fun q hq => (hW q hq).trans (g1 q (fun e2 => hG.ap i j (by omega) hj q hq e2.symm))) (by omega)
end

set_option maxHeartbeats 4000000 in
set_option maxRecDepth 1000000 in
theorem marksB {w wr : World} {B : Nat} {ps : List PV} {k j : Nat} (h : MkB w wr B ps k j) (hG : GB w B ps) (a : Option Addr) (n cap : Nat) (hjn : j + n ≤ ps.length) (hk : k ≤ 8388608) (hn : n ≤ 1048576)
    (hc : ∀ i, i < n → ∃ g, a = some ⟨g, 0, none⟩ ∧ ∀ wr' j', j' ≤ ps.length → MkB w wr' B ps k j' → wr'.cell? ⟨g, i, none⟩ = some (ps.getD (j + i) noP).1) :
    Calls Tryz.prog 41 #[.slice a n cap, .int .i64 ((k + lenB ps j : Nat) : Int)] wr fun e w' => e = .returned (.int .i64 ((k + lenB ps (j + n) : Nat) : Int)) ∧ MkB w w' B ps k (j + n) := by
  have HM := hid h
  have HC := hid hc
  have HK : Hid (∀ wr' i, i < n → MkB w wr' B ps k (j + i) → Calls Tryz.prog 40 #[(ps.getD (j + i) noP).1, .int .i64 ((k + lenB ps (j + i) : Nat) : Int)] wr' fun e w' => e = .returned (.int .i64 ((k + lenB ps (j + (i + 1)) : Nat) : Int)) ∧ MkB w w' B ps k (j + (i + 1))) := hid fun wr' i hi hm => mark1 hm hG (by omega) hk
  have HS : Hid (∀ i, i < n → ∃ a n cap, (ps.getD (j + i) noP).1 = .slice a n cap) := hid fun i hi => by
    obtain ⟨a, c, e⟩ := own_shapeW (hG.own (j + i) (by omega))
    exact ⟨a, _, c, e⟩
  have HL : Hid (∀ i, i ≤ n → k + lenB ps (j + i) ≤ 1099511627776) := hid fun i hi => by
    have h1 := lenB_le ps (show j + i ≤ ps.length by omega)
    have := hG.few
    omega
  clear h hc hG hk
  go_enter Tryz.func41, Tryz.ntmps41
  go_wp2
  go_loopw [1, 5] (fun u t wr' => ∃ i : Nat, i ≤ n ∧ t = .int .i64 i ∧ ∃ c : Nat, u = .int .i64 (c : Int) ∧ Hid (c = k + lenB ps (j + i) ∧ MkB w wr' B ps k (j + i))) (fun _ t _ => n - (intOf t).toNat)
  case atStart => exact ⟨0, Nat.zero_le _, rfl, _, rfl, hid ⟨rfl, HM.out⟩⟩
  case round =>
    clear HM
    obtain ⟨i, hi, rfl, c, rfl, hok⟩ := hrel
    by_cases hin : i < n
    · have i1 : (i : Int) < (n : Int) := by omega
      obtain ⟨g, rfl, hcell⟩ := HC.out i hin
      have c1 := hcell wr (j + i) (by omega) hok.out.2
      have K := hid (HK.out wr i hin hok.out.2)
      rw [← hok.out.1] at K
      obtain ⟨au, nu, cu, eu⟩ := HS.out i hin
      rw [eu] at c1 K
      clear hok hcell eu
      go_wp2_with fail
      refine K.out.mono ?_
      rintro e w2 ⟨rfl, hm⟩
      have HN := hid hm
      clear hm K c1
      go_wp2_with fail
      go_roundw
      case rel => exact ⟨i + 1, by omega, by go_num, _, rfl, hid ⟨rfl, HN.out⟩⟩
      case measure => simp [intOf]; omega
    · obtain rfl : i = n := by omega
      have i1 : ¬ ((i : Int) < (i : Int)) := by omega
      go_wp2
      go_ret
      exact ⟨ret_int (by have := hok.out.1; omega), hok.out.2⟩

set_option maxHeartbeats 4000000 in
set_option maxRecDepth 1000000 in
theorem heldsB (W : World) (ps : List PV) (k j : Nat) (a : Option Addr) (n cap : Nat) (hn : n ≤ 1048576)
    (hc : ∀ i, i < n → ∃ g, a = some ⟨g, 0, none⟩ ∧ W.cell? ⟨g, i, none⟩ = some (ps.getD (j + i) noP).1)
    (hs : ∀ i, i < n → ∃ a n cap, (ps.getD (j + i) noP).1 = .slice a n cap)
    (hh : ∀ i, i < n → Calls Tryz.prog 42 #[(ps.getD (j + i) noP).1, .int .i64 ((k + lenB ps (j + i) : Nat) : Int)] W fun e w'' => e = .returned (.int .i64 ((k + lenB ps (j + (i + 1)) : Nat) : Int)) ∧ w'' = W) :
    Calls Tryz.prog 43 #[.slice a n cap, .int .i64 ((k + lenB ps j : Nat) : Int)] W fun e w'' => e = .returned (.int .i64 ((k + lenB ps (j + n) : Nat) : Int)) ∧ w'' = W := by
  have HC := hid hc
  have HS := hid hs
  have HH := hid hh
  clear hc hs hh
  go_enter Tryz.func43, Tryz.ntmps43
  go_wp2
  go_loop [1, 5] (fun u t => ∃ i : Nat, i ≤ n ∧ t = .int .i64 i ∧ ∃ c : Nat, u = .int .i64 (c : Int) ∧ Hid (c = k + lenB ps (j + i))) (fun _ t => n - (intOf t).toNat)
  case atStart => exact ⟨0, Nat.zero_le _, rfl, _, rfl, hid rfl⟩
  case round =>
    obtain ⟨i, hi, rfl, c, rfl, hok⟩ := hrel
    by_cases hin : i < n
    · have i1 : (i : Int) < (n : Int) := by omega
      obtain ⟨g, rfl, c1⟩ := HC.out i hin
      have K := hid (HH.out i hin)
      rw [← hok.out] at K
      obtain ⟨au, nu, cu, eu⟩ := HS.out i hin
      rw [eu] at c1 K
      obtain ⟨z, hz⟩ : ∃ z : Nat, z = k + lenB ps (j + (i + 1)) := ⟨_, rfl⟩
      rw [← hz] at K
      have HZ := hid hz
      clear hok eu hz
      have g1 : ¬ ((z : Int) < 0) := by omega
      go_wp2_with fail
      refine K.out.mono ?_
      rintro e w2 ⟨rfl, hw2⟩
      subst w2
      go_wp2_with fail
      go_round
      case rel => exact ⟨i + 1, by omega, by go_num, z, rfl, hid HZ.out⟩
      case measure => simp [intOf]; omega
    · obtain rfl : i = n := by omega
      have i1 : ¬ ((i : Int) < (i : Int)) := by omega
      go_wp2
      go_ret
      exact ⟨ret_int (by have := hok.out; omega), rfl⟩

end Go.Proofs.YtegcpplkcahkhaaGreat
