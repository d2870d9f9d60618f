import Derived.Deep.RegionWith
import Derived.Test.YtegcpplkcahkhaaGreatB01
import Derived.Test.YtegcpplkcahkhaaGreatB02
namespace Go.Proofs.YtegcpplkcahkhaaGreat
open Go.RowKit

def OkR (n d : Int) : Prop := 1 ≤ d ∧ d ≤ 1000000 ∧ -1000000 ≤ n ∧ n ≤ 1000000 ∧ Int.gcd n d = 1

theorem notOk_cases {n d : Int} (h : ¬ OkR n d) : d < 1 ∨ (1 ≤ d ∧ 1000000 < d) ∨ (1 ≤ d ∧ d ≤ 1000000 ∧ n < -1000000) ∨ (1 ≤ d ∧ d ≤ 1000000 ∧ -1000000 ≤ n ∧ 1000000 < n) ∨ (1 ≤ d ∧ d ≤ 1000000 ∧ -1000000 ≤ n ∧ n ≤ 1000000 ∧ ¬ Int.gcd n d = 1) := by
  unfold OkR at h
  omega

end Go.Proofs.YtegcpplkcahkhaaGreat

namespace Go.Proofs.YtegcpplkcahkhaaGreat
open Go.RowKit

theorem between_no1 (x lo hi : Int) (w : World) (h1 : x < lo) :
    Calls Tryz.prog 74 #[.int .i64 x, .int .i64 lo, .int .i64 hi] w fun e w' => e = .returned (.bool false) ∧ w' = w := by
  have hd : decide (lo ≤ x) = false := by simp; omega
  go_enter Tryz.func74, Tryz.ntmps74
  go_wp2
  go_ret
  exact ⟨rfl, rfl⟩

theorem between_no2 (x lo hi : Int) (w : World) (h1 : lo ≤ x) (h2 : hi < x) :
    Calls Tryz.prog 74 #[.int .i64 x, .int .i64 lo, .int .i64 hi] w fun e w' => e = .returned (.bool false) ∧ w' = w := by
  have hd : decide (x ≤ hi) = false := by simp; omega
  go_enter Tryz.func74, Tryz.ntmps74
  go_wp2
  go_ret
  exact ⟨rfl, rfl⟩

/-- a product of parts is small -/
theorem mul_bd (a b B C : Int) (h1 : -B ≤ a) (h2 : a ≤ B) (h3 : -C ≤ b) (h4 : b ≤ C) : -(B * C) ≤ a * b ∧ a * b ≤ B * C := by
  have e : (a * b).natAbs = a.natAbs * b.natAbs := Int.natAbs_mul a b
  have h5 : a.natAbs * b.natAbs ≤ B.natAbs * C.natAbs := Nat.mul_le_mul (by omega) (by omega)
  have h6 : B * C = ((B.natAbs * C.natAbs : Nat) : Int) := by
    rw [Int.natCast_mul, show (B.natAbs : Int) = B by omega, show (C.natAbs : Int) = C by omega]
  omega

theorem mul_bd6 (a b : Int) (h1 : -1000000 ≤ a) (h2 : a ≤ 1000000) (h3 : -1000000 ≤ b) (h4 : b ≤ 1000000) : -1000000000000 ≤ a * b ∧ a * b ≤ 1000000000000 :=
  mul_bd a b 1000000 1000000 h1 h2 h3 h4

end Go.Proofs.YtegcpplkcahkhaaGreat

/-
  Sets of variables: impl.isVariableSet and spec.l1SetOK answer alike; membership.
-/
namespace Go.Proofs.YtegcpplkcahkhaaGreat
open Go.RowKit

theorem ret_bool {a b : Bool} (h : a = b) : Ending.returned (.bool a) = .returned (.bool b) := by rw [h]

def okAt (l : List Int) (j : Nat) : Bool := decide (0 ≤ l.getD j 0) && decide (l.getD j 0 < 6) && (decide (j = 0) || decide (l.getD (j - 1) 0 < l.getD j 0))
def setB (l : List Int) : Bool := (List.range l.length).all (okAt l)

theorem setB_true {l : List Int} (h : ∀ i, i < l.length → okAt l i = true) : setB l = true := by
  unfold setB
  rw [List.all_eq_true]
  intro i hi
  exact h i (by simpa using hi)

theorem setB_false {l : List Int} {j : Nat} (hj : j < l.length) (h : okAt l j = false) : setB l = false := by
  unfold setB
  rw [List.all_eq_false]
  exact ⟨j, by simpa using hj, by rw [h]; decide⟩

/-- what is asked at place j, case by case -/
theorem okAt_cases (l : List Int) (j : Nat) :
    (l.getD j 0 < 0 ∧ okAt l j = false) ∨ (0 ≤ l.getD j 0 ∧ 6 ≤ l.getD j 0 ∧ okAt l j = false) ∨ (0 ≤ l.getD j 0 ∧ l.getD j 0 < 6 ∧ j = 0 ∧ okAt l j = true) ∨
    (0 ≤ l.getD j 0 ∧ l.getD j 0 < 6 ∧ 0 < j ∧ l.getD j 0 ≤ l.getD (j - 1) 0 ∧ okAt l j = false) ∨ (0 ≤ l.getD j 0 ∧ l.getD j 0 < 6 ∧ 0 < j ∧ l.getD (j - 1) 0 < l.getD j 0 ∧ okAt l j = true) := by
  unfold okAt
  generalize l.getD j 0 = x
  generalize l.getD (j - 1) 0 = y
  by_cases h1 : x < 0
  · left; refine ⟨h1, ?_⟩; simp; omega
  · by_cases h2 : 6 ≤ x
    · right; left; refine ⟨by omega, h2, ?_⟩; simp; omega
    · by_cases h3 : j = 0
      · right; right; left; refine ⟨by omega, by omega, h3, ?_⟩; simp [h3]; omega
      · by_cases h4 : y < x
        · right; right; right; right; refine ⟨by omega, by omega, by omega, h4, ?_⟩; simp; omega
        · right; right; right; left; refine ⟨by omega, by omega, by omega, by omega, ?_⟩; simp; omega

end Go.Proofs.YtegcpplkcahkhaaGreat

/-
  Membership: spec.l1Has, slices.Index, slices.Contains.
-/
namespace Go.Proofs.YtegcpplkcahkhaaGreat
open Go.RowKit

theorem mem_getD {l : List Int} {j : Nat} (h : j < l.length) : l.getD j 0 ∈ l := by
  rw [List.getD_eq_getElem?_getD, List.getElem?_eq_getElem h]
  exact List.getElem_mem h

theorem getD_mem {l : List Int} {x : Int} (h : x ∈ l) : ∃ j, j < l.length ∧ l.getD j 0 = x := by
  obtain ⟨j, hj, e⟩ := List.getElem_of_mem h
  exact ⟨j, hj, by rw [List.getD_eq_getElem?_getD, List.getElem?_eq_getElem hj]; exact e⟩

set_option maxHeartbeats 2000000 in
theorem l1Has_calls (w : World) (v : Value) (l : List Int) (x : Int) (h : IS w v l) (hl : l.length ≤ 1099511627776) :
    Calls Tryz.prog 22 #[v, .int .i64 x] w fun e w' => e = .returned (.bool (decide (x ∈ l))) ∧ w' = w := by
  obtain ⟨a, cap, rfl, hc⟩ := h
  obtain ⟨n, hn⟩ : ∃ n, n = l.length := ⟨_, rfl⟩
  obtain ⟨res, hres⟩ : ∃ r, r = decide (x ∈ l) := ⟨_, rfl⟩
  rw [← hres]
  have HR := hid hres
  rw [← hn] at hc hl ⊢
  have HC := hid hc
  have HN := hid hn
  clear hc hn hres
  go_enter Tryz.func22, Tryz.ntmps22
  go_wp2
  go_loop [9] (fun t => ∃ j : Nat, j ≤ n ∧ t = .int .i64 j ∧ Hid (∀ i, i < j → l.getD i 0 ≠ x)) (fun t => n - (intOf t).toNat)
  case atStart => exact ⟨0, Nat.zero_le _, rfl, hid (fun i hi => by omega)⟩
  case round =>
    obtain ⟨j, hj, rfl, hok⟩ := hrel
    by_cases hjn : j < n
    · have i1 : (j : Int) < (n : Int) := by omega
      rcases HC.out with h0 | ⟨b, o, rfl, hcell⟩
      · omega
      · have c1 : w.cell? ⟨b, o + j, none⟩ = some (.int .i64 (l.getD j 0)) := hcell j hjn
        have fin : l.getD j 0 = x → Hid (res = true) := fun e => HR.out.trans (decide_eq_true (e ▸ mem_getD (by rw [← HN.out]; exact hjn)))
        have nxt : l.getD j 0 ≠ x → Hid (∀ i, i < j + 1 → l.getD i 0 ≠ x) := fun e i hi => by
          by_cases e2 : i = j
          · rw [e2]; exact e
          · exact hok.out i (by omega)
        clear hcell hok
        generalize l.getD j 0 = y at *
        by_cases hy : y = x
        · have hf := fin hy
          subst hy
          clear fin nxt
          go_wp2
          go_ret
          exact ⟨ret_bool (by rw [hf.out]), rfl⟩
        · have hf := nxt hy
          have d1 : decide (x = y) = false := by simp; omega
          have d2 : ¬ (x = y) := by omega
          clear fin nxt
          go_wp2
          go_round
          case rel => exact ⟨j + 1, by omega, by go_num, hf⟩
          case measure => simp [intOf]; omega
    · obtain rfl : j = n := by omega
      have hf : Hid (res = false) := HR.out.trans (decide_eq_false (fun hm => by
        obtain ⟨i, hi, e⟩ := getD_mem hm
        exact hok.out i (by rw [HN.out]; exact hi) e))
      have i1 : ¬ ((j : Int) < (j : Int)) := by omega
      clear hok
      go_wp2
      go_ret
      exact ⟨ret_bool (by rw [hf.out]), rfl⟩

end Go.Proofs.YtegcpplkcahkhaaGreat

/-
  impl.placesIn: the places of a bag whose variable lies in an edge; a slice that grows.
-/
namespace Go.Proofs.YtegcpplkcahkhaaGreat
open Go.RowKit

theorem Tryz.infoInt : (Tryz.prog.info? 3).map (fun i => (i.zero, i.size, i.bytes)) = some (some (.int .i64 0), 1, 8) := by kernel_rfl

/-- of the first k places those at which p holds -/
def plc (p : Nat → Bool) (k : Nat) : List Int := ((List.range k).filter p).map Int.ofNat

theorem plc_hit (p : Nat → Bool) (k : Nat) (h : p k = true) : plc p (k + 1) = plc p k ++ [(k : Int)] := by
  simp [plc, List.range_succ, List.filter_append, h]
theorem plc_miss (p : Nat → Bool) (k : Nat) (h : p k = false) : plc p (k + 1) = plc p k := by
  simp [plc, List.range_succ, List.filter_append, h]
theorem plc_le (p : Nat → Bool) (k : Nat) : (plc p k).length ≤ k := by
  unfold plc
  rw [List.length_map]
  exact Nat.le_trans (List.length_filter_le _ _) (by simp)

theorem own_grow {B n : Nat} {e : TypeId} {w wr w1 : World} {u : Value} {o : Obj} {xs : List Value} (hB : B ≤ wr.heap.size)
    (hown : wr.ownsRow B e 1 u n xs) (hnx : Below B w wr) (hgrow : (wr.alloc o).grownBy w1 u.ownBlock) : Below B w w1 :=
  (hnx.alloc hB o).grown hgrow (by simp; omega) (fun j hj => (hown.lt j hj).1)

end Go.Proofs.YtegcpplkcahkhaaGreat
