import Derived.Deep.Draws
import Derived.Deep.LoopGhost
import Derived.Lib.Walk
import Derived.Test.YtoodbpijgnbfjaaGreatFq00
import Derived.Test.YtoodbpijgnbfjaaGreatFq02
import Derived.Test.YtoodbpijgnbfjaaGreatFq05
namespace Go.Proofs.YtoodbpijgnbfjaaGreat
open Go.RowKit Meet

set_option maxHeartbeats 400000 in
theorem cNaN_calls (x : Int) (w : World) : Calls Tryz.prog 113 #[.int .i64 x] w fun e w' => e = .returned (.bool false) ∧ w' = w := by
  go_enter Tryz.func113, Tryz.ntmps113
  go_wp2
  go_ret
  exact ⟨by simp, rfl⟩

set_option maxHeartbeats 400000 in
theorem sNaN_calls (x : Int) (w : World) : Calls Tryz.prog 82 #[.int .i64 x] w fun e w' => e = .returned (.bool false) ∧ w' = w := by
  go_enter Tryz.func82, Tryz.ntmps82
  go_wp2
  go_ret
  exact ⟨by simp, rfl⟩

set_option maxHeartbeats 400000 in
theorem less_calls (x y : Int) (w : World) : Calls Tryz.prog 81 #[.int .i64 x, .int .i64 y] w fun e w' => e = .returned (.bool (decide (x < y))) ∧ w' = w := by
  go_enter Tryz.func81, Tryz.ntmps81
  go_wp2_with (first | (go_at_call 113; refine (cNaN_calls _ _).mono ?_; rintro e w' ⟨rfl, rfl⟩))
  go_ret
  exact ⟨rfl, rfl⟩

def Up (l : List Int) : Prop := ∀ i j, i ≤ j → j < l.length → l.getD i 0 ≤ l.getD j 0

theorem up_of_asc {l : List Int} (h : Asc l) : Up l := fun i j hij hj => by
  rcases Nat.lt_or_ge i j with h1 | h1
  · exact Int.le_of_lt (h i j h1 hj)
  · rw [show i = j by omega]; exact Int.le_refl _

def bsQ (l : List Int) (x : Int) : Nat := l.countP fun y => decide (y < x)
def bsF (l : List Int) (x : Int) : Bool := decide (bsQ l x < l.length) && decide (l.getD (bsQ l x) 0 = x)

theorem bsQ_eq {l : List Int} {x : Int} {q : Nat} (hq : q ≤ l.length) (h1 : ∀ j, j < q → l.getD j 0 < x) (h2 : ∀ j, q ≤ j → j < l.length → x ≤ l.getD j 0) : bsQ l x = q := by
  unfold bsQ
  conv => lhs; rw [← List.take_append_drop q l]
  rw [List.countP_append]
  have a : (l.take q).countP (fun y => decide (y < x)) = (l.take q).length := List.countP_eq_length.2 fun y hy => by
    obtain ⟨j, hj, e⟩ := List.getElem_of_mem hy
    rw [List.length_take] at hj
    have := h1 j (by omega)
    rw [List.getD_eq_getElem?_getD, List.getElem?_eq_getElem (by omega)] at this
    rw [List.getElem_take] at e
    simp only [Option.getD_some, e] at this
    exact decide_eq_true this
  have b : (l.drop q).countP (fun y => decide (y < x)) = 0 := List.countP_eq_zero.2 fun y hy => by
    obtain ⟨j, hj, e⟩ := List.getElem_of_mem hy
    rw [List.length_drop] at hj
    have := h2 (q + j) (by omega) (by omega)
    rw [List.getD_eq_getElem?_getD, List.getElem?_eq_getElem (by omega)] at this
    rw [List.getElem_drop] at e
    simp only [Option.getD_some, e] at this
    simp; omega
  rw [a, b, List.length_take]; omega

theorem bs_split {l : List Int} (hs : Up l) (x : Int) : ∃ q, q ≤ l.length ∧ (∀ j, j < q → l.getD j 0 < x) ∧ (∀ j, q ≤ j → j < l.length → x ≤ l.getD j 0) := by
  have key : ∀ d k, k + d = l.length → (∀ j, j < k → l.getD j 0 < x) → ∃ q, q ≤ l.length ∧ (∀ j, j < q → l.getD j 0 < x) ∧ (∀ j, q ≤ j → j < l.length → x ≤ l.getD j 0) := by
    intro d
    induction d with
    | zero => intro k hk h; exact ⟨k, by omega, h, fun j h1 h2 => by omega⟩
    | succ d ih =>
      intro k hk h
      by_cases hx : l.getD k 0 < x
      · exact ih (k + 1) (by omega) (fun j hj => by
          rcases Nat.lt_or_ge j k with h1 | h1
          · exact h j h1
          · rw [show j = k by omega]; exact hx)
      · exact ⟨k, by omega, h, fun j h1 h2 => by have := hs k j h1 h2; omega⟩
  exact key l.length 0 (by omega) (fun j hj => by omega)

theorem bsQ_spec {l : List Int} (hs : Up l) (x : Int) : bsQ l x ≤ l.length ∧ (∀ j, j < bsQ l x → l.getD j 0 < x) ∧ (∀ j, bsQ l x ≤ j → j < l.length → x ≤ l.getD j 0) := by
  obtain ⟨q, h1, h2, h3⟩ := bs_split hs x
  rw [bsQ_eq h1 h2 h3]
  exact ⟨h1, h2, h3⟩

theorem tup_ret {q : Nat} {a b : Bool} {k : Nat} (h : k = q) (h' : a = b) : Ending.returned (.tuple #[.int .i64 k, .bool a]) = .returned (.tuple #[.int .i64 q, .bool b]) := by rw [h, h']

set_option maxHeartbeats 4000000 in
set_option maxRecDepth 1000000 in
theorem bsearch_calls (w : World) (v : Value) (l : List Int) (x : Int) (h : IS w v l) (hl : l.length ≤ 1099511627776) (hs : Up l) :
    Calls Tryz.prog 61 #[v, .int .i64 x] w fun e w' => e = .returned (.tuple #[.int .i64 (bsQ l x), .bool (bsF l x)]) ∧ ∃ d, w' = w.drewN d := by
  obtain ⟨rq, hrq⟩ : ∃ r, r = bsQ l x := ⟨_, rfl⟩
  obtain ⟨rf, hrf⟩ : ∃ r, r = bsF l x := ⟨_, rfl⟩
  rw [← hrq, ← hrf]
  obtain ⟨a, cap, rfl, hc⟩ := h
  obtain ⟨n, hn⟩ : ∃ n, n = l.length := ⟨_, rfl⟩
  rw [← hn] at hc hl ⊢
  have HC := hid hc
  have HQ : Hid (∀ q, q ≤ n → (∀ t, t < q → l.getD t 0 < x) → (∀ t, q ≤ t → t < n → x ≤ l.getD t 0) → q = rq ∧ (decide (q < n) && decide (l.getD q 0 = x)) = rf) := hid (by
    intro q h1 h2 h3
    have e := bsQ_eq (by rw [← hn]; exact h1) h2 (by rw [← hn]; exact h3)
    rw [hrq, hrf]
    unfold bsF
    rw [e, ← hn]
    exact ⟨rfl, rfl⟩)
  have S : Hid (∀ i j, i ≤ j → j < n → l.getD i 0 ≤ l.getD j 0) := hid (by rw [hn]; exact hs)
  clear hc hn hs hrq hrf
  go_enter Tryz.func61, Tryz.ntmps61
  go_wp2
  go_loopg [7, 8] n (fun g s7 s8 wr => ∃ lo hi q : Nat, s7 = .int .i64 lo ∧ s8 = .int .i64 hi ∧ lo ≤ hi ∧ hi ≤ n ∧ hi - lo ≤ g ∧ wr = w.drewN q ∧ Hid ((∀ t, t < lo → l.getD t 0 < x) ∧ (∀ t, hi ≤ t → t < n → x ≤ l.getD t 0)))
  case atStart => exact ⟨0, n, 0, rfl, rfl, Nat.zero_le _, Nat.le_refl _, by omega, rfl, hid ⟨fun t ht => absurd ht (Nat.not_lt_zero _), fun t h1 h2 => by omega⟩⟩
  case round =>
    obtain ⟨lo, hi, q, rfl, rfl, hlh, hin, hg, rfl, I⟩ := hrel
    by_cases hlt : lo < hi
    · rcases HC.out with h0 | ⟨b, o, rfl, hcell⟩
      · omega
      · have cm : w.cell? ⟨b, o + (lo + hi) / 2, none⟩ = some (.int .i64 (l.getD ((lo + hi) / 2) 0)) := hcell _ (by omega)
        clear hcell
        generalize hy : l.getD ((lo + hi) / 2) 0 = y at cm
        have Y : Hid (l.getD ((lo + hi) / 2) 0 = y) := hid hy
        clear hy
        by_cases hyx : y < x
        · go_wp2_with (first | (go_at_call 81; refine (less_calls _ _ _).mono ?_; rintro e w' ⟨rfl, rfl⟩))
          go_roundg (hi - ((lo + hi) / 2 + 1))
          case measure => omega
          case rel =>
            refine ⟨(lo + hi) / 2 + 1, hi, _, by rw [show ((lo : Int) + (hi : Int)) / 2 + 1 = (((lo + hi) / 2 + 1 : Nat) : Int) by omega], rfl, by omega, hin, Nat.le_refl _, rfl, hid ⟨fun t ht => ?_, I.out.2⟩⟩
            have := S.out t ((lo + hi) / 2) (by omega) (by omega)
            rw [Y.out] at this
            omega
        · go_wp2_with (first | (go_at_call 81; refine (less_calls _ _ _).mono ?_; rintro e w' ⟨rfl, rfl⟩))
          go_roundg ((lo + hi) / 2 - lo)
          case measure => omega
          case rel =>
            refine ⟨lo, (lo + hi) / 2, _, rfl, by rw [show ((lo : Int) + (hi : Int)) / 2 = (((lo + hi) / 2 : Nat) : Int) by omega], by omega, by omega, Nat.le_refl _, rfl, hid ⟨I.out.1, fun t ht htn => ?_⟩⟩
            have := S.out ((lo + hi) / 2) t ht htn
            rw [Y.out] at this
            omega
    · have : hi = lo := by omega
      subst this
      obtain ⟨E1, E2⟩ := HQ.out hi hin I.out.1 I.out.2
      have HE1 := hid E1
      by_cases hn : hi < n
      · rcases HC.out with h0 | ⟨b, o, rfl, hcell⟩
        · omega
        · have cl : w.cell? ⟨b, o + hi, none⟩ = some (.int .i64 (l.getD hi 0)) := hcell _ (by omega)
          have HE2 : Hid (decide (l.getD hi 0 = x) = rf) := hid (by rw [← E2]; simp [hn])
          clear hcell E1 E2
          generalize l.getD hi 0 = y at *
          have dn : decide (hi < n) = true := by simp; omega
          by_cases hyx : y = x
          · go_wp2_with (first | (go_at_call 82; refine (sNaN_calls _ _).mono ?_; rintro e w' ⟨rfl, rfl⟩))
            go_ret2
            exact ⟨tup_ret HE1.out (by rw [← HE2.out]; simp [hyx]), _, rfl⟩
          · go_wp2_with (first | (go_at_call 82; refine (sNaN_calls _ _).mono ?_; rintro e w' ⟨rfl, rfl⟩))
            go_ret2
            exact ⟨tup_ret HE1.out (by rw [← HE2.out]; simp [hyx]), _, rfl⟩
      · have dn : decide (hi < n) = false := by simp; omega
        have HE2 : Hid (false = rf) := hid (by rw [← E2, dn]; rfl)
        clear E1 E2
        go_wp2_with (first | (go_at_call 82; refine (sNaN_calls _ _).mono ?_; rintro e w' ⟨rfl, rfl⟩))
        go_ret2
        exact ⟨tup_ret HE1.out HE2.out, _, rfl⟩

end Go.Proofs.YtoodbpijgnbfjaaGreat

namespace Go.Proofs.YtoodbpijgnbfjaaGreat
open Go.RowKit Meet

theorem up_drop {l : List Int} (h : Asc l) (p : Nat) : Up (l.drop p) := fun i j hij hj => by
  rw [List.length_drop] at hj
  have := up_of_asc h (p + i) (p + j) (by omega) (by omega)
  simpa only [List.getD_eq_getElem?_getD, List.getElem?_drop] using this

end Go.Proofs.YtoodbpijgnbfjaaGreat

namespace Go.Proofs.YtoodbpijgnbfjaaGreat
open Go.RowKit Meet

end Go.Proofs.YtoodbpijgnbfjaaGreat

namespace Go.Proofs.YtoodbpijgnbfjaaGreat
open Go.RowKit Meet

end Go.Proofs.YtoodbpijgnbfjaaGreat

namespace Go.Proofs.YtoodbpijgnbfjaaGreat
open Go.RowKit Meet

theorem Tryz.infoCur : (Tryz.prog.info? 153).map (fun i => (i.zero, i.size, i.bytes)) = some (some (.agg #[.pointer none, .int .i64 0]), 2, 16) := by kernel_rfl

theorem own_ne {w : World} {B b n s : Nat} {e e' : TypeId} {v : Value} {xs : List Value} (h : w.ownsRow B e s v n xs) (ht : ∃ cur, w.heap[b]? = some (.cells cur e' (0, 0))) (hne : e ≠ e') : some b ≠ v.ownBlock := by
  intro hb
  obtain ⟨h1, h2⟩ := h
  rcases h2 with ⟨rfl, _⟩ | ⟨g, cap, cur, rfl, hg, hc, hr⟩
  · simp [Value.ownBlock] at hb
  · simp only [Value.ownBlock, Option.some.injEq] at hb
    subst hb
    obtain ⟨cur', hc'⟩ := ht
    rw [hc'] at hc
    simp only [Option.some.injEq, Obj.cells.injEq] at hc
    exact hne hc.2.1.symm

end Go.Proofs.YtoodbpijgnbfjaaGreat

namespace Go.Proofs.YtoodbpijgnbfjaaGreat
open Go.RowKit Meet

end Go.Proofs.YtoodbpijgnbfjaaGreat

namespace Go.Proofs.YtoodbpijgnbfjaaGreat
open Go.RowKit Meet

end Go.Proofs.YtoodbpijgnbfjaaGreat

namespace Go.Proofs.YtoodbpijgnbfjaaGreat
open Go.RowKit Meet

theorem new1_cell (w : World) (v : Value) (t : TypeId) : ∀ j u, [v][j]? = some u → (w.alloc (.cells #[v] t)).cell? ((⟨w.heap.size, 0, none⟩ : Addr).add j) = some u := by
  intro j u hj
  match j, hj with
  | 0, hj => simp at hj; subst hj; simp [Addr.add]

end Go.Proofs.YtoodbpijgnbfjaaGreat
