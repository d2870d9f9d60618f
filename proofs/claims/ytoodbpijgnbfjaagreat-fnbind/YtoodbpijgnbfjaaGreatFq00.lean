import Derived.BigQuiet
import Derived.Deep.OwnRows
import Derived.Deep.QuietTactic
import Derived.Deep.RegionWith
import Derived.Handy
import Derived.Test.YtoodbpijgnbfjaaGreatProg
import Derived.WalkKit
import Derived.WalkLawsBesides
import Derived.WalkSpells
namespace Go.Proofs.YtoodbpijgnbfjaaGreat.RatM

end Go.Proofs.YtoodbpijgnbfjaaGreat.RatM

namespace Go.Proofs.YtoodbpijgnbfjaaGreat
open Go.RowKit

theorem hid {p : Prop} (h : p) : Hid p := h
theorem ret_int {k : IntKind} {a b : Int} (h : a = b) : Ending.returned (.int k a) = .returned (.int k b) := by rw [h]

end Go.Proofs.YtoodbpijgnbfjaaGreat

namespace Go.Proofs.YtoodbpijgnbfjaaGreat
open Go.RowKit

def IS (w : World) (v : Value) (l : List Int) : Prop := ∃ a cap, v = .slice a l.length cap ∧ (l.length = 0 ∨ ∃ b o, a = some ⟨b, o, none⟩ ∧ ∀ j, j < l.length → w.cell? ⟨b, o + j, none⟩ = some (.int .i64 (l.getD j 0)))

theorem IS.below {w w' : World} {v : Value} {l : List Int} (h : IS w v l) (hb : Below w.heap.size w w') : IS w' v l := by
  obtain ⟨a, cap, rfl, h⟩ := h
  refine ⟨a, cap, rfl, ?_⟩
  rcases h with h | ⟨b, o, rfl, h⟩
  · exact Or.inl h
  · exact Or.inr ⟨b, o, rfl, fun j hj => (hb.cell (p := ⟨b, o + j, none⟩) (World.block_lt_of_cell? w _ (h j hj))).trans (h j hj)⟩

end Go.Proofs.YtoodbpijgnbfjaaGreat

namespace Go.Proofs.YtoodbpijgnbfjaaGreat
open Go.RowKit

end Go.Proofs.YtoodbpijgnbfjaaGreat

namespace Go.Proofs.YtoodbpijgnbfjaaGreat
open Go.RowKit

end Go.Proofs.YtoodbpijgnbfjaaGreat

namespace Go.Proofs.YtoodbpijgnbfjaaGreat
open Go.RowKit

theorem bt {a b c : World} (h : Below a.heap.size a b) (k : Below b.heap.size b c) : Below a.heap.size a c := h.trans (k.mono h.size)

end Go.Proofs.YtoodbpijgnbfjaaGreat

namespace Go.Proofs.YtoodbpijgnbfjaaGreat
open Go.RowKit

end Go.Proofs.YtoodbpijgnbfjaaGreat

namespace Go.Proofs.YtoodbpijgnbfjaaGreat
open Go.RowKit

end Go.Proofs.YtoodbpijgnbfjaaGreat

namespace Go.Proofs.YtoodbpijgnbfjaaGreat
open Go.RowKit

theorem ret_bool {a b : Bool} (h : a = b) : Ending.returned (.bool a) = .returned (.bool b) := by rw [h]

def okAt (l : List Int) (j : Nat) : Bool := decide (0 ≤ l.getD j 0) && decide (l.getD j 0 < 6) && (decide (j = 0) || decide (l.getD (j - 1) 0 < l.getD j 0))
def setB (l : List Int) : Bool := (List.range l.length).all (okAt l)

theorem setB_true {l : List Int} (h : ∀ i, i < l.length → okAt l i = true) : setB l = true := by
  unfold setB
  rw [List.all_eq_true]
  intro i hi
  exact h i (by simpa using hi)

theorem setB_false {l : List Int} {j : Nat} (hj : j < l.length) (h : okAt l j = false) : setB l = false := by
  unfold setB
  rw [List.all_eq_false]
  exact ⟨j, by simpa using hj, by rw [h]; decide⟩

theorem okAt_cases (l : List Int) (j : Nat) :
    (l.getD j 0 < 0 ∧ okAt l j = false) ∨ (0 ≤ l.getD j 0 ∧ 6 ≤ l.getD j 0 ∧ okAt l j = false) ∨ (0 ≤ l.getD j 0 ∧ l.getD j 0 < 6 ∧ j = 0 ∧ okAt l j = true) ∨
    (0 ≤ l.getD j 0 ∧ l.getD j 0 < 6 ∧ 0 < j ∧ l.getD j 0 ≤ l.getD (j - 1) 0 ∧ okAt l j = false) ∨ (0 ≤ l.getD j 0 ∧ l.getD j 0 < 6 ∧ 0 < j ∧ l.getD (j - 1) 0 < l.getD j 0 ∧ okAt l j = true) := by
  unfold okAt
  generalize l.getD j 0 = x
  generalize l.getD (j - 1) 0 = y
  by_cases h1 : x < 0
  · left; refine ⟨h1, ?_⟩; simp; omega
  · by_cases h2 : 6 ≤ x
    · right; left; refine ⟨by omega, h2, ?_⟩; simp; omega
    · by_cases h3 : j = 0
      · right; right; left; refine ⟨by omega, by omega, h3, ?_⟩; simp [h3]; omega
      · by_cases h4 : y < x
        · right; right; right; right; refine ⟨by omega, by omega, by omega, h4, ?_⟩; simp; omega
        · right; right; right; left; refine ⟨by omega, by omega, by omega, by omega, ?_⟩; simp; omega

set_option maxHeartbeats 2000000 in
theorem isVariableSet_calls (w : World) (v : Value) (l : List Int) (h : IS w v l) (hl : l.length ≤ 1099511627776) :
    Calls Tryz.prog 56 #[v] w fun e w' => e = .returned (.bool (setB l)) ∧ w' = w := by
  obtain ⟨a, cap, rfl, hc⟩ := h
  obtain ⟨n, hn⟩ : ∃ n, n = l.length := ⟨_, rfl⟩
  obtain ⟨res, hres⟩ : ∃ r, r = setB l := ⟨_, rfl⟩
  rw [← hres]
  have HR := hid hres
  rw [← hn] at hc hl ⊢
  have HC := hid hc
  have HN := hid hn
  clear hc hn hres
  go_enter Tryz.func56, Tryz.ntmps56
  go_wp2
  go_loop [7] (fun t => ∃ j : Nat, j ≤ n ∧ t = .int .i64 j ∧ Hid (∀ i, i < j → okAt l i = true)) (fun t => n - (intOf t).toNat)
  case atStart => exact ⟨0, Nat.zero_le _, rfl, hid (fun i hi => by omega)⟩
  case round =>
    obtain ⟨j, hj, rfl, hok⟩ := hrel
    by_cases hjn : j < n
    · have i1 : (j : Int) < (n : Int) := by omega
      rcases HC.out with h0 | ⟨b, o, rfl, hcell⟩
      · omega
      · have c1 : w.cell? ⟨b, o + j, none⟩ = some (.int .i64 (l.getD j 0)) := hcell j hjn
        have hcs := okAt_cases l j
        have fin : okAt l j = false → Hid (res = false) := fun e => HR.out.trans (setB_false (by rw [← HN.out]; exact hjn) e)
        have nxt : okAt l j = true → Hid (∀ i, i < j + 1 → okAt l i = true) := fun e i hi => by
          by_cases e2 : i = j
          · rw [e2]; exact e
          · exact hok.out i (by omega)
        have c2 : 0 < j → w.cell? ⟨b, o + (j - 1), none⟩ = some (.int .i64 (l.getD (j - 1) 0)) := fun e => hcell (j - 1) (by omega)
        clear hcell hok
        generalize l.getD j 0 = x at *
        generalize l.getD (j - 1) 0 = y at *
        rcases hcs with ⟨h1, h2⟩ | ⟨h1, h2, h3⟩ | ⟨h1, h2, h3, h4⟩ | ⟨h1, h2, h3, h4, h5⟩ | ⟨h1, h2, h3, h4, h5⟩
        · have hf := fin h2
          clear c2 fin nxt h2
          go_wp2
          go_ret
          exact ⟨ret_bool (by rw [hf.out]), rfl⟩
        · have hf := fin h3
          have d1 : decide (x < 0) = false := by simp; omega
          clear c2 fin nxt h3
          go_wp2
          go_ret
          exact ⟨ret_bool (by rw [hf.out]), rfl⟩
        · have hf := nxt h4
          have d1 : decide (x < 0) = false := by simp; omega
          have d2 : decide (6 ≤ x) = false := by simp; omega
          subst h3
          have c1' : w.cell? ⟨b, o, none⟩ = some (.int .i64 x) := by simpa using c1
          clear c2 fin nxt h4
          go_wp2
          go_round
          case rel => exact ⟨0 + 1, by omega, by go_num, hf⟩
          case measure => simp [intOf]; omega
        · have hf := fin h5
          have d1 : decide (x < 0) = false := by simp; omega
          have d2 : decide (6 ≤ x) = false := by simp; omega
          have c3 := c2 h3
          have i3 : (0 : Int) < (j : Int) := by omega
          have i4 : ((j : Int) - 1).toNat = j - 1 := by omega
          clear c2 fin nxt h5
          go_wp2
          go_ret
          exact ⟨ret_bool (by rw [hf.out]), rfl⟩
        · have hf := nxt h5
          have d1 : decide (x < 0) = false := by simp; omega
          have d2 : decide (6 ≤ x) = false := by simp; omega
          have d3 : decide (x ≤ y) = false := by simp; omega
          have c3 := c2 h3
          have i3 : (0 : Int) < (j : Int) := by omega
          have i4 : ((j : Int) - 1).toNat = j - 1 := by omega
          clear c2 fin nxt h5
          go_wp2
          go_round
          case rel => exact ⟨j + 1, by omega, by go_num, hf⟩
          case measure => simp [intOf]; omega
    · obtain rfl : j = n := by omega
      have hf : Hid (res = true) := HR.out.trans (setB_true (fun i hi => hok.out i (by rw [HN.out]; exact hi)))
      have i1 : ¬ ((j : Int) < (j : Int)) := by omega
      clear hok
      go_wp2
      go_ret
      exact ⟨ret_bool (by rw [hf.out]), rfl⟩

end Go.Proofs.YtoodbpijgnbfjaaGreat

namespace Go.Proofs.YtoodbpijgnbfjaaGreat
open Go.RowKit

theorem mem_getD {l : List Int} {j : Nat} (h : j < l.length) : l.getD j 0 ∈ l := by
  rw [List.getD_eq_getElem?_getD, List.getElem?_eq_getElem h]
  exact List.getElem_mem h

theorem getD_mem {l : List Int} {x : Int} (h : x ∈ l) : ∃ j, j < l.length ∧ l.getD j 0 = x := by
  obtain ⟨j, hj, e⟩ := List.getElem_of_mem h
  exact ⟨j, hj, by rw [List.getD_eq_getElem?_getD, List.getElem?_eq_getElem hj]; exact e⟩

set_option maxHeartbeats 2000000 in
theorem sIndex_calls (w : World) (v : Value) (l : List Int) (x : Int) (h : IS w v l) (hl : l.length ≤ 1099511627776) :
    Calls Tryz.prog 118 #[v, .int .i64 x] w fun e w' => (∃ k : Int, e = .returned (.int .i64 k) ∧ decide (0 ≤ k) = decide (x ∈ l)) ∧ w' = w := by
  obtain ⟨a, cap, rfl, hc⟩ := h
  obtain ⟨n, hn⟩ : ∃ n, n = l.length := ⟨_, rfl⟩
  obtain ⟨res, hres⟩ : ∃ r, r = decide (x ∈ l) := ⟨_, rfl⟩
  rw [← hres]
  have HR := hid hres
  rw [← hn] at hc hl ⊢
  have HC := hid hc
  have HN := hid hn
  clear hc hn hres
  go_enter Tryz.func118, Tryz.ntmps118
  go_wp2
  go_loop [8] (fun t => ∃ j : Nat, j ≤ n ∧ t = .int .i64 j ∧ Hid (∀ i, i < j → l.getD i 0 ≠ x)) (fun t => n - (intOf t).toNat)
  case atStart => exact ⟨0, Nat.zero_le _, rfl, hid (fun i hi => by omega)⟩
  case round =>
    obtain ⟨j, hj, rfl, hok⟩ := hrel
    by_cases hjn : j < n
    · have i1 : (j : Int) < (n : Int) := by omega
      rcases HC.out with h0 | ⟨b, o, rfl, hcell⟩
      · omega
      · have c1 : w.cell? ⟨b, o + j, none⟩ = some (.int .i64 (l.getD j 0)) := hcell j hjn
        have fin : l.getD j 0 = x → Hid (res = true) := fun e => HR.out.trans (decide_eq_true (e ▸ mem_getD (by rw [← HN.out]; exact hjn)))
        have nxt : l.getD j 0 ≠ x → Hid (∀ i, i < j + 1 → l.getD i 0 ≠ x) := fun e i hi => by
          by_cases e2 : i = j
          · rw [e2]; exact e
          · exact hok.out i (by omega)
        clear hcell hok
        generalize l.getD j 0 = y at *
        by_cases hy : y = x
        · have hf := fin hy
          subst hy
          clear fin nxt
          go_wp2
          go_ret
          exact ⟨⟨_, rfl, by rw [hf.out]; simp⟩, rfl⟩
        · have hf := nxt hy
          have d1 : decide (x = y) = false := by simp; omega
          have d2 : ¬ (x = y) := by omega
          clear fin nxt
          go_wp2
          go_round
          case rel => exact ⟨j + 1, by omega, by go_num, hf⟩
          case measure => simp [intOf]; omega
    · obtain rfl : j = n := by omega
      have hf : Hid (res = false) := HR.out.trans (decide_eq_false (fun hm => by
        obtain ⟨i, hi, e⟩ := getD_mem hm
        exact hok.out i (by rw [HN.out]; exact hi) e))
      have i1 : ¬ ((j : Int) < (j : Int)) := by omega
      clear hok
      go_wp2
      go_ret
      exact ⟨⟨_, rfl, by rw [hf.out]; simp⟩, rfl⟩

theorem sContains_calls (w : World) (v : Value) (l : List Int) (x : Int) (h : IS w v l) (hl : l.length ≤ 1099511627776) :
    Calls Tryz.prog 93 #[v, .int .i64 x] w fun e w' => e = .returned (.bool (decide (x ∈ l))) ∧ w' = w := by
  have HI := hid (sIndex_calls w v l x h hl)
  generalize decide (x ∈ l) = res at *
  clear h
  go_enter Tryz.func93, Tryz.ntmps93
  go_wp2_with (first | (go_at_call 118; refine HI.out.mono ?_; rintro e w' ⟨⟨k, rfl, hk⟩, rfl⟩))
  go_ret
  exact ⟨rfl, rfl⟩

end Go.Proofs.YtoodbpijgnbfjaaGreat

namespace Go.Proofs.YtoodbpijgnbfjaaGreat
open Go.RowKit

theorem Tryz.infoInt : (Tryz.prog.info? 3).map (fun i => (i.zero, i.size, i.bytes)) = some (some (.int .i64 0), 1, 8) := by kernel_rfl

def plc (p : Nat → Bool) (k : Nat) : List Int := ((List.range k).filter p).map Int.ofNat

theorem plc_hit (p : Nat → Bool) (k : Nat) (h : p k = true) : plc p (k + 1) = plc p k ++ [(k : Int)] := by
  simp [plc, List.range_succ, List.filter_append, h]
theorem plc_miss (p : Nat → Bool) (k : Nat) (h : p k = false) : plc p (k + 1) = plc p k := by
  simp [plc, List.range_succ, List.filter_append, h]
theorem plc_le (p : Nat → Bool) (k : Nat) : (plc p k).length ≤ k := by
  unfold plc
  rw [List.length_map]
  exact Nat.le_trans (List.length_filter_le _ _) (by simp)

theorem own_grow {B n : Nat} {e : TypeId} {w wr w1 : World} {u : Value} {o : Obj} {xs : List Value} (hB : B ≤ wr.heap.size)
    (hown : wr.ownsRow B e 1 u n xs) (hnx : Below B w wr) (hgrow : (wr.alloc o).grownBy w1 u.ownBlock) : Below B w w1 :=
  (hnx.alloc hB o).grown hgrow (by simp; omega) (fun j hj => (hown.lt j hj).1)

end Go.Proofs.YtoodbpijgnbfjaaGreat

namespace Go.Proofs.YtoodbpijgnbfjaaGreat
open Go.RowKit

def ISS (w : World) (v : Value) (ls : List (List Int)) : Prop := ∃ a cap, v = .slice a ls.length cap ∧ (ls.length = 0 ∨ ∃ b o, a = some ⟨b, o, none⟩ ∧ ∀ j, j < ls.length → ∃ u, w.cell? ⟨b, o + j, none⟩ = some u ∧ IS w u (ls.getD j []))

theorem ISS.below {w w' : World} {v : Value} {ls : List (List Int)} (h : ISS w v ls) (hb : Below w.heap.size w w') : ISS w' v ls := by
  obtain ⟨a, cap, rfl, h⟩ := h
  refine ⟨a, cap, rfl, ?_⟩
  rcases h with h | ⟨b, o, rfl, h⟩
  · exact Or.inl h
  · refine Or.inr ⟨b, o, rfl, fun j hj => ?_⟩
    obtain ⟨u, h1, h2⟩ := h j hj
    exact ⟨u, (hb.cell (p := ⟨b, o + j, none⟩) (World.block_lt_of_cell? w _ h1)).trans h1, h2.below hb⟩

def Short (ls : List (List Int)) : Prop := ls.length ≤ 1099511627776 ∧ ∀ j, (ls.getD j []).length ≤ 1099511627776

set_option maxHeartbeats 2000000 in
set_option maxRecDepth 1000000 in
theorem edgesWith_calls (w : World) (ve : Value) (x : Int) (es : List (List Int)) (h : ISS w ve es) (hl : Short es) :
    Calls Tryz.prog 66 #[.int .i64 x, ve] w fun e w' => ∃ v, e = .returned v ∧
      w'.ownsRow w.heap.size 3 1 v (plc (fun i => decide (x ∈ es.getD i [])) es.length).length ((plc (fun i => decide (x ∈ es.getD i [])) es.length).map (Value.int .i64)) ∧ Below w.heap.size w w' := by
  obtain ⟨i0, hi, hz0, hz1, hz2⟩ := info_parts Tryz.infoInt
  obtain ⟨p, hp⟩ : ∃ p : Nat → Bool, p = fun i => decide (x ∈ es.getD i []) := ⟨_, rfl⟩
  rw [← hp]
  obtain ⟨a, cap, rfl, hc⟩ := h
  obtain ⟨hl1, hl2⟩ := hl
  obtain ⟨n, hn⟩ : ∃ n, n = es.length := ⟨_, rfl⟩
  rw [← hn] at hc hl1 ⊢
  have HP := hid hp
  have HC := hid hc
  have HN := hid hn
  have HL := hid hl2
  clear hp hc hn hl2
  go_enter Tryz.func66, Tryz.ntmps66
  go_wp2
  go_loopw [5, 10] (fun v t wr => ∃ k : Nat, k ≤ n ∧ t = .int .i64 k ∧ wr.ownsRow w.heap.size 3 1 v (plc p k).length ((plc p k).map (Value.int .i64)) ∧ Below w.heap.size w wr) (fun _ t _ => n - (intOf t).toNat)
  case atStart => exact ⟨0, Nat.zero_le _, rfl, World.ownsRow_nil _ _ _ _, Below.refl _ _⟩
  case round =>
    obtain ⟨k, hk, rfl, hown, hnx⟩ := hrel
    have hple := plc_le p k
    have hns := hnx.size
    by_cases hkn : k < n
    · have i1 : (k : Int) < (n : Int) := by omega
      rcases HC.out with h0 | ⟨b, o, rfl, hcell⟩
      · omega
      · obtain ⟨u, c0, hu⟩ := hcell k hkn
        have c1 : wr.cell? ⟨b, o + k, none⟩ = some u := (hnx.cell (p := ⟨b, o + k, none⟩) (World.block_lt_of_cell? w _ c0)).trans c0
        have HK := hid (sContains_calls wr u (es.getD k []) x (hu.below hnx) (HL.out k))
        have hpk : p k = decide (x ∈ es.getD k []) := by rw [HP.out]
        rw [← hpk] at HK
        obtain ⟨a1, cap1, rfl, -⟩ := hu
        clear hcell c0 hpk
        generalize (es.getD k []).length = m at *
        by_cases hy : p k = true
        · have e1 := hid (plc_hit p k hy)
          rw [hy] at HK
          go_wp2_with (first
            | (go_at_call 93; refine HK.out.mono ?_; rintro e w' ⟨rfl, hw'⟩; subst w')
            | (at_builtin; refine wpList_append_own _ rfl _ _ 33 rfl w.heap.size 3 i0 (.int .i64 0) 1 8 Tryz.underlying33 hi hz0 hz1 hz2 rfl (by decide) _ _ _ rfl (hown.alloc _) ⟨wr.heap.size, 0, none⟩ 1 1 [.int .i64 k] rfl rfl ?c1 ?c2 ?c3 ?c4 ?c5 ?_))
          case c1 =>
            intro j u hj
            match j, hj with
            | 0, hj => simp at hj; subst hj; simp [Addr.add]
          case c2 => intro u hu; simp at hu; subst hu; rfl
          case c3 => unfold maxLen; omega
          case c4 => omega
          case c5 => simp; omega
          intro v' w1 hown' hgrow _
          have hb := own_grow hns hown hnx hgrow
          have hown2 : w1.ownsRow w.heap.size 3 1 v' (plc p (k + 1)).length ((plc p (k + 1)).map (Value.int .i64)) := by
            rw [e1.out]; simpa using hown'
          clear hown' hgrow hown
          go_wp2
          go_roundw
          case rel => exact ⟨k + 1, by omega, by go_num, hown2, hb⟩
          case measure => simp [intOf]; omega
        · have hy' : p k = false := by simpa using hy
          have e1 := hid (plc_miss p k hy')
          rw [hy'] at HK
          go_wp2_with (first
            | (go_at_call 93; refine HK.out.mono ?_; rintro e w' ⟨rfl, hw'⟩; subst w'))
          go_roundw
          case rel => exact ⟨k + 1, by omega, by go_num, by rw [e1.out]; exact hown, hnx⟩
          case measure => simp [intOf]; omega
    · obtain rfl : k = n := by omega
      have i1 : ¬ ((k : Int) < (k : Int)) := by omega
      go_wp2
      go_ret
      exact ⟨_, rfl, hown, hnx⟩

end Go.Proofs.YtoodbpijgnbfjaaGreat

namespace Go.Proofs.YtoodbpijgnbfjaaGreat
open Go.RowKit


end Go.Proofs.YtoodbpijgnbfjaaGreat

namespace Go.Proofs.YtoodbpijgnbfjaaGreat
open Go.RowKit

end Go.Proofs.YtoodbpijgnbfjaaGreat

namespace Go.Proofs.YtoodbpijgnbfjaaGreat
open Go.RowKit

theorem drewN_step {w wr : World} (k : Nat) (h : ∃ m, wr = w.drewN m) : ∃ m, wr.drewN k = w.drewN m := by
  obtain ⟨m, rfl⟩ := h
  exact ⟨m + k, World.drewN_drewN _ _ _⟩

end Go.Proofs.YtoodbpijgnbfjaaGreat

namespace Go.Proofs.YtoodbpijgnbfjaaGreat
open Go.RowKit

def cmpL : List Int → List Int → Int
  | [], [] => 0
  | [], _ :: _ => -1
  | _ :: _, [] => 1
  | x :: a, y :: b => if x < y then -1 else if y < x then 1 else cmpL a b

theorem drop_getD {l : List Int} {j : Nat} (h : j < l.length) : l.drop j = l.getD j 0 :: l.drop (j + 1) := by
  rw [List.getD_eq_getElem?_getD, List.getElem?_eq_getElem h]
  exact List.drop_eq_getElem_cons h

theorem cmpL_drop (a b : List Int) : ∀ j, j ≤ a.length → j ≤ b.length → (∀ i, i < j → a.getD i 0 = b.getD i 0) → cmpL a b = cmpL (a.drop j) (b.drop j) := by
  intro j
  induction j with
  | zero => intros; simp
  | succ j ih =>
    intro h1 h2 h3
    rw [ih (by omega) (by omega) (fun i hi => h3 i (by omega)), drop_getD (show j < a.length by omega), drop_getD (show j < b.length by omega), h3 j (by omega)]
    simp [cmpL]

theorem cmpL_lt {a b : List Int} {j : Nat} (h1 : j < a.length) (h2 : j < b.length) (h3 : ∀ i, i < j → a.getD i 0 = b.getD i 0) (h4 : a.getD j 0 < b.getD j 0) : cmpL a b = -1 := by
  rw [cmpL_drop a b j (by omega) (by omega) h3, drop_getD h1, drop_getD h2]
  simp only [cmpL]
  rw [if_pos h4]

theorem cmpL_gt {a b : List Int} {j : Nat} (h1 : j < a.length) (h2 : j < b.length) (h3 : ∀ i, i < j → a.getD i 0 = b.getD i 0) (h4 : b.getD j 0 < a.getD j 0) : cmpL a b = 1 := by
  rw [cmpL_drop a b j (by omega) (by omega) h3, drop_getD h1, drop_getD h2]
  simp only [cmpL]
  rw [if_neg (by omega), if_pos h4]

theorem cmpL_short {a b : List Int} (h2 : a.length < b.length) (h3 : ∀ i, i < a.length → a.getD i 0 = b.getD i 0) : cmpL a b = -1 := by
  rw [cmpL_drop a b a.length (by omega) (by omega) h3, drop_getD h2, List.drop_length]
  rfl

theorem cmpL_long {a b : List Int} (h2 : b.length < a.length) (h3 : ∀ i, i < b.length → a.getD i 0 = b.getD i 0) : cmpL a b = 1 := by
  rw [cmpL_drop a b b.length (by omega) (by omega) h3, drop_getD h2, List.drop_length]
  rfl

theorem cmpL_same {a b : List Int} (h2 : a.length = b.length) (h3 : ∀ i, i < a.length → a.getD i 0 = b.getD i 0) : cmpL a b = 0 := by
  rw [cmpL_drop a b a.length (by omega) (by omega) h3, List.drop_length, h2, List.drop_length]
  rfl

def cmpI (x y : Int) : Int := if x < y then -1 else if y < x then 1 else 0

set_option maxHeartbeats 400000 in
theorem cmpInt_calls (w : World) (x y : Int) :
    Calls Tryz.prog 102 #[.int .i64 x, .int .i64 y] w fun e w' => e = .returned (.int .i64 (cmpI x y)) ∧ w' = w := by
  have hx : (x != x) = false := by simp
  have hy : (y != y) = false := by simp
  unfold cmpI
  by_cases h1 : x < y
  · rw [if_pos h1]
    go_enter Tryz.func102, Tryz.ntmps102
    go_wp2
    go_ret
    exact ⟨rfl, rfl⟩
  · rw [if_neg h1]
    by_cases h2 : y < x
    · rw [if_pos h2]
      go_enter Tryz.func102, Tryz.ntmps102
      go_wp2
      go_ret
      exact ⟨rfl, rfl⟩
    · rw [if_neg h2]
      go_enter Tryz.func102, Tryz.ntmps102
      go_wp2
      go_ret
      exact ⟨rfl, rfl⟩

end Go.Proofs.YtoodbpijgnbfjaaGreat

namespace Go.Proofs.YtoodbpijgnbfjaaGreat
open Go.RowKit

theorem agree_step {la lb : List Int} {j : Nat} (h : ∀ i, i < j → la.getD i 0 = lb.getD i 0) (e : la.getD j 0 = lb.getD j 0) : ∀ i, i < j + 1 → la.getD i 0 = lb.getD i 0 := fun i hi => by
  by_cases e2 : i = j
  · rw [e2]; exact e
  · exact h i (by omega)

set_option maxHeartbeats 2000000 in
set_option maxRecDepth 1000000 in
theorem sCompare_calls (w : World) (va vb : Value) (la lb : List Int) (ha : IS w va la) (hb : IS w vb lb) (hl : la.length ≤ 1099511627776) (hl2 : lb.length ≤ 1099511627776) :
    Calls Tryz.prog 76 #[va, vb] w fun e w' => e = .returned (.int .i64 (cmpL la lb)) ∧ w' = w := by
  obtain ⟨a, cap, rfl, hc⟩ := ha
  obtain ⟨a', cap', rfl, hc'⟩ := hb
  obtain ⟨n, hn⟩ : ∃ n, n = la.length := ⟨_, rfl⟩
  obtain ⟨m, hm⟩ : ∃ m, m = lb.length := ⟨_, rfl⟩
  obtain ⟨res, hres⟩ : ∃ r, r = cmpL la lb := ⟨_, rfl⟩
  rw [← hres]
  rw [← hn] at hc hl ⊢
  rw [← hm] at hc' hl2 ⊢
  have HR := hid hres
  have HC := hid hc
  have HC' := hid hc'
  have HN := hid hn
  have HM := hid hm
  clear hc hc' hn hm hres
  go_enter Tryz.func76, Tryz.ntmps76
  go_wp2
  go_loop [11] (fun t => ∃ j : Nat, j ≤ n ∧ j ≤ m ∧ t = .int .i64 j ∧ Hid (∀ i, i < j → la.getD i 0 = lb.getD i 0)) (fun t => n - (intOf t).toNat)
  case atStart => exact ⟨0, Nat.zero_le _, Nat.zero_le _, rfl, hid (fun i hi => by omega)⟩
  case round =>
    obtain ⟨j, hj, hjm, rfl, hok⟩ := hrel
    by_cases hjn : j < n
    · have i1 : (j : Int) < (n : Int) := by omega
      rcases HC.out with h0 | ⟨b, o, rfl, hcell⟩
      · omega
      · have c1 : w.cell? ⟨b, o + j, none⟩ = some (.int .i64 (la.getD j 0)) := hcell j hjn
        by_cases hjm' : j < m
        · have i2 : ¬ ((m : Int) ≤ (j : Int)) := by omega
          rcases HC'.out with h0 | ⟨b', o', rfl, hcell'⟩
          · omega
          · have c2 : w.cell? ⟨b', o' + j, none⟩ = some (.int .i64 (lb.getD j 0)) := hcell' j hjm'
            have HK := hid (cmpInt_calls w (la.getD j 0) (lb.getD j 0))
            have f1 : la.getD j 0 < lb.getD j 0 → Hid (res = -1) := fun e => HR.out.trans (cmpL_lt (by rw [← HN.out]; exact hjn) (by rw [← HM.out]; exact hjm') hok.out e)
            have f2 : lb.getD j 0 < la.getD j 0 → Hid (res = 1) := fun e => HR.out.trans (cmpL_gt (by rw [← HN.out]; exact hjn) (by rw [← HM.out]; exact hjm') hok.out e)
            have f3 : la.getD j 0 = lb.getD j 0 → Hid (∀ i, i < j + 1 → la.getD i 0 = lb.getD i 0) := agree_step hok.out
            clear hcell hcell' hok
            unfold cmpI at HK
            generalize la.getD j 0 = x at *
            generalize lb.getD j 0 = y at *
            by_cases h1 : x < y
            · have hf := f1 h1
              rw [if_pos h1] at HK
              clear f1 f2 f3
              go_wp2_with (first | (go_at_call 102; refine HK.out.mono ?_; rintro e w' ⟨rfl, hw'⟩; subst w'))
              go_ret
              exact ⟨ret_int hf.out.symm, rfl⟩
            · by_cases h2 : y < x
              · have hf := f2 h2
                rw [if_neg h1, if_pos h2] at HK
                clear f1 f2 f3
                go_wp2_with (first | (go_at_call 102; refine HK.out.mono ?_; rintro e w' ⟨rfl, hw'⟩; subst w'))
                go_ret
                exact ⟨ret_int hf.out.symm, rfl⟩
              · have hf := f3 (by omega)
                rw [if_neg h1, if_neg h2] at HK
                clear f1 f2 f3
                go_wp2_with (first | (go_at_call 102; refine HK.out.mono ?_; rintro e w' ⟨rfl, hw'⟩; subst w'))
                go_round
                case rel => exact ⟨j + 1, by omega, by omega, by go_num, hf⟩
                case measure => simp [intOf]; omega
        · have i2 : (m : Int) ≤ (j : Int) := by omega
          obtain rfl : j = m := by omega
          have hf : Hid (res = 1) := HR.out.trans (cmpL_long (by rw [← HN.out, ← HM.out]; exact hjn) (by rw [← HM.out]; exact hok.out))
          clear hcell hok
          go_wp2
          go_ret
          exact ⟨ret_int hf.out.symm, rfl⟩
    · obtain rfl : j = n := by omega
      have i1 : ¬ ((j : Int) < (j : Int)) := by omega
      by_cases hjm' : j < m
      · have i2 : (j : Int) < (m : Int) := by omega
        have hf : Hid (res = -1) := HR.out.trans (cmpL_short (by rw [← HN.out, ← HM.out]; exact hjm') (by rw [← HN.out]; exact hok.out))
        clear hok
        go_wp2
        go_ret
        exact ⟨ret_int hf.out.symm, rfl⟩
      · have i2 : ¬ ((j : Int) < (m : Int)) := by omega
        have hf : Hid (res = 0) := HR.out.trans (cmpL_same (by rw [← HN.out, ← HM.out]; omega) (by rw [← HN.out]; exact hok.out))
        clear hok
        go_wp2
        go_ret
        exact ⟨ret_int hf.out.symm, rfl⟩

set_option maxHeartbeats 2000000 in
set_option maxRecDepth 1000000 in
theorem l2Compare_calls (w : World) (va vb : Value) (la lb : List Int) (ha : IS w va la) (hb : IS w vb lb) (hl : la.length ≤ 1099511627776) (hl2 : lb.length ≤ 1099511627776) :
    Calls Tryz.prog 77 #[va, vb] w fun e w' => e = .returned (.int .i64 (cmpL la lb)) ∧ ∃ q, w' = w.drewN q := by
  obtain ⟨a, cap, rfl, hc⟩ := ha
  obtain ⟨a', cap', rfl, hc'⟩ := hb
  obtain ⟨n, hn⟩ : ∃ n, n = la.length := ⟨_, rfl⟩
  obtain ⟨m, hm⟩ : ∃ m, m = lb.length := ⟨_, rfl⟩
  obtain ⟨res, hres⟩ : ∃ r, r = cmpL la lb := ⟨_, rfl⟩
  rw [← hres]
  rw [← hn] at hc hl ⊢
  rw [← hm] at hc' hl2 ⊢
  have HR := hid hres
  have HC := hid hc
  have HC' := hid hc'
  have HN := hid hn
  have HM := hid hm
  clear hc hc' hn hm hres
  go_enter Tryz.func77, Tryz.ntmps77
  go_wp2
  go_loopw [5] (fun t wr => ∃ j : Nat, j ≤ n ∧ j ≤ m ∧ t = .int .i64 j ∧ Hid (∃ q, wr = w.drewN q) ∧ Hid (∀ i, i < j → la.getD i 0 = lb.getD i 0)) (fun t _ => n - (intOf t).toNat)
  case atStart => exact ⟨0, Nat.zero_le _, Nat.zero_le _, rfl, hid ⟨0, rfl⟩, hid (fun i hi => by omega)⟩
  case round =>
    obtain ⟨j, hj, hjm, rfl, hB, hok⟩ := hrel
    by_cases hjn : j < n
    · have i1 : (j : Int) < (n : Int) := by omega
      by_cases hjm' : j < m
      · have i2 : (j : Int) < (m : Int) := by omega
        rcases HC.out with h0 | ⟨b, o, rfl, hcell⟩
        · omega
        · have c1 : wr.cell? ⟨b, o + j, none⟩ = some (.int .i64 (la.getD j 0)) := by obtain ⟨m, rfl⟩ := hB.out; exact hcell j hjn
          rcases HC'.out with h0 | ⟨b', o', rfl, hcell'⟩
          · omega
          · have c2 : wr.cell? ⟨b', o' + j, none⟩ = some (.int .i64 (lb.getD j 0)) := by obtain ⟨m, rfl⟩ := hB.out; exact hcell' j hjm'
            have f1 : la.getD j 0 < lb.getD j 0 → Hid (res = -1) := fun e => HR.out.trans (cmpL_lt (by rw [← HN.out]; exact hjn) (by rw [← HM.out]; exact hjm') hok.out e)
            have f2 : lb.getD j 0 < la.getD j 0 → Hid (res = 1) := fun e => HR.out.trans (cmpL_gt (by rw [← HN.out]; exact hjn) (by rw [← HM.out]; exact hjm') hok.out e)
            have f3 : la.getD j 0 = lb.getD j 0 → Hid (∀ i, i < j + 1 → la.getD i 0 = lb.getD i 0) := agree_step hok.out
            clear hcell hcell' hok
            generalize la.getD j 0 = x at *
            generalize lb.getD j 0 = y at *
            by_cases h1 : x < y
            · have hf := f1 h1
              clear f1 f2 f3
              go_wp2_with fail
              go_quiet (fail)
              go_wp2
              go_ret
              exact ⟨ret_int hf.out.symm, drewN_step _ hB.out⟩
            · by_cases h2 : y < x
              · have hf := f2 h2
                clear f1 f2 f3
                go_wp2_with fail
                go_quiet (fail)
                go_wp2_with fail
                go_quiet (fail)
                go_wp2
                go_ret
                exact ⟨ret_int hf.out.symm, drewN_step _ (drewN_step _ hB.out)⟩
              · have hf := f3 (by omega)
                clear f1 f2 f3
                go_wp2_with fail
                go_quiet (fail)
                go_wp2_with fail
                go_quiet (fail)
                go_wp2
                go_roundw
                case rel => exact ⟨j + 1, by omega, by omega, by go_num, hid (drewN_step _ hB.out), hf⟩
                case measure => simp [intOf]; omega
      · obtain rfl : j = m := by omega
        have i2 : ¬ ((j : Int) < (j : Int)) := by omega
        have i3 : ¬ ((n : Int) = (j : Int)) := by omega
        have i4 : ¬ ((n : Int) < (j : Int)) := by omega
        have hf : Hid (res = 1) := HR.out.trans (cmpL_long (by rw [← HN.out, ← HM.out]; exact hjn) (by rw [← HM.out]; exact hok.out))
        clear hok
        go_wp2
        go_ret
        exact ⟨ret_int hf.out.symm, hB.out⟩
    · obtain rfl : j = n := by omega
      have i1 : ¬ ((j : Int) < (j : Int)) := by omega
      by_cases hjm' : j < m
      · have i2 : (j : Int) < (m : Int) := by omega
        have i3 : ¬ ((j : Int) = (m : Int)) := by omega
        have hf : Hid (res = -1) := HR.out.trans (cmpL_short (by rw [← HN.out, ← HM.out]; exact hjm') (by rw [← HN.out]; exact hok.out))
        clear hok
        go_wp2
        go_ret
        exact ⟨ret_int hf.out.symm, hB.out⟩
      · obtain rfl : j = m := by omega
        have hf : Hid (res = 0) := HR.out.trans (cmpL_same (by rw [← HN.out, ← HM.out]) (by rw [← HN.out]; exact hok.out))
        clear hok
        go_wp2
        go_ret
        exact ⟨ret_int hf.out.symm, hB.out⟩

end Go.Proofs.YtoodbpijgnbfjaaGreat

namespace Go.Proofs.YtoodbpijgnbfjaaGreat
open Go.RowKit

def rowAt (rows : List (List Int)) (q : Int) (j : Nat) : Bool := decide (((rows.getD j []).length : Int) = q) && (decide (j = 0) || decide (cmpL (rows.getD (j - 1) []) (rows.getD j []) < 0))
def rowsB (rows : List (List Int)) (q : Int) : Bool := (List.range rows.length).all (rowAt rows q)

theorem rowsB_true {rows : List (List Int)} {q : Int} (h : ∀ i, i < rows.length → rowAt rows q i = true) : rowsB rows q = true := by
  unfold rowsB
  rw [List.all_eq_true]
  intro i hi
  exact h i (by simpa using hi)

theorem rowsB_false {rows : List (List Int)} {q : Int} {j : Nat} (hj : j < rows.length) (h : rowAt rows q j = false) : rowsB rows q = false := by
  unfold rowsB
  rw [List.all_eq_false]
  exact ⟨j, by simpa using hj, by rw [h]; decide⟩

theorem rowAt_cases (rows : List (List Int)) (q : Int) (j : Nat) :
    (((rows.getD j []).length : Int) ≠ q ∧ rowAt rows q j = false) ∨ (((rows.getD j []).length : Int) = q ∧ j = 0 ∧ rowAt rows q j = true) ∨
    (((rows.getD j []).length : Int) = q ∧ 0 < j ∧ 0 ≤ cmpL (rows.getD (j - 1) []) (rows.getD j []) ∧ rowAt rows q j = false) ∨ (((rows.getD j []).length : Int) = q ∧ 0 < j ∧ cmpL (rows.getD (j - 1) []) (rows.getD j []) < 0 ∧ rowAt rows q j = true) := by
  unfold rowAt
  generalize ((rows.getD j []).length : Int) = x
  generalize cmpL (rows.getD (j - 1) []) (rows.getD j []) = y
  by_cases h1 : x = q
  · right
    by_cases h3 : j = 0
    · left; refine ⟨h1, h3, ?_⟩; simp [h3, h1]
    · right
      by_cases h4 : y < 0
      · right; refine ⟨h1, by omega, h4, ?_⟩; simp [h1]; omega
      · left; refine ⟨h1, by omega, by omega, ?_⟩; simp [h1]; omega
  · left; exact ⟨h1, by simp [h1]⟩

set_option maxHeartbeats 2000000 in
set_option maxRecDepth 1000000 in
theorem areSortedRows_calls (w : World) (vr : Value) (rows : List (List Int)) (q : Int) (h : ISS w vr rows) (hl : Short rows) :
    Calls Tryz.prog 57 #[vr, .int .i64 q] w fun e w' => e = .returned (.bool (rowsB rows q)) ∧ w' = w := by
  obtain ⟨a, cap, rfl, hc⟩ := h
  obtain ⟨hl1, hl2⟩ := hl
  obtain ⟨n, hn⟩ : ∃ n, n = rows.length := ⟨_, rfl⟩
  obtain ⟨res, hres⟩ : ∃ r, r = rowsB rows q := ⟨_, rfl⟩
  rw [← hres]
  rw [← hn] at hc hl1 ⊢
  have HR := hid hres
  have HC := hid hc
  have HN := hid hn
  have HL := hid hl2
  clear hc hn hres hl2
  go_enter Tryz.func57, Tryz.ntmps57
  go_wp2
  go_loop [9] (fun t => ∃ j : Nat, j ≤ n ∧ t = .int .i64 j ∧ Hid (∀ i, i < j → rowAt rows q i = true)) (fun t => n - (intOf t).toNat)
  case atStart => exact ⟨0, Nat.zero_le _, rfl, hid (fun i hi => by omega)⟩
  case round =>
    obtain ⟨j, hj, rfl, hok⟩ := hrel
    by_cases hjn : j < n
    · have i1 : (j : Int) < (n : Int) := by omega
      rcases HC.out with h0 | ⟨b, o, rfl, hcell⟩
      · omega
      · obtain ⟨u, c1, hu⟩ := hcell j hjn
        have hcs := rowAt_cases rows q j
        have fin : rowAt rows q j = false → Hid (res = false) := fun e => HR.out.trans (rowsB_false (by rw [← HN.out]; exact hjn) e)
        have nxt : rowAt rows q j = true → Hid (∀ i, i < j + 1 → rowAt rows q i = true) := fun e i hi => by
          by_cases e2 : i = j
          · rw [e2]; exact e
          · exact hok.out i (by omega)
        have hp : 0 < j → ∃ u', w.cell? ⟨b, o + (j - 1), none⟩ = some u' ∧ IS w u' (rows.getD (j - 1) []) := fun e => hcell (j - 1) (by omega)
        have HU := hid hu
        have hm := HL.out j
        obtain ⟨a1, cap1, rfl, -⟩ := hu
        clear hcell hok
        rcases hcs with ⟨h1, h2⟩ | ⟨h1, h2, h3⟩ | ⟨h1, h2, h3, h4⟩ | ⟨h1, h2, h3, h4⟩
        · have hf := fin h2
          clear hp fin nxt h2
          generalize (rows.getD j []).length = m at *
          go_wp2
          go_ret
          exact ⟨ret_bool (by rw [hf.out]), rfl⟩
        · have hf := nxt h3
          subst h2
          have c1' : w.cell? ⟨b, o, none⟩ = some (.slice a1 (rows.getD 0 []).length cap1) := by simpa using c1
          clear hp fin nxt h3 HU
          generalize (rows.getD 0 []).length = m at *
          subst h1
          go_wp2
          go_round
          case rel => exact ⟨0 + 1, by omega, by go_num, hf⟩
          case measure => simp [intOf]; omega
        · have hf := fin h4
          obtain ⟨u', c2, hu'⟩ := hp h2
          have HK := hid (sCompare_calls w u' _ (rows.getD (j - 1) []) (rows.getD j []) hu' HU.out (HL.out (j - 1)) hm)
          obtain ⟨a2, cap2, rfl, -⟩ := hu'
          have i3 : (0 : Int) < (j : Int) := by omega
          have i4 : ((j : Int) - 1).toNat = j - 1 := by omega
          clear hp fin nxt h4 HU
          generalize cmpL (rows.getD (j - 1) []) (rows.getD j []) = y at *
          generalize (rows.getD j []).length = m at *
          generalize (rows.getD (j - 1) []).length = m' at *
          subst h1
          go_wp2_with (first | (go_at_call 76; refine HK.out.mono ?_; rintro e w' ⟨rfl, hw'⟩; subst w'))
          go_ret
          exact ⟨ret_bool (by rw [hf.out]), rfl⟩
        · have hf := nxt h4
          obtain ⟨u', c2, hu'⟩ := hp h2
          have HK := hid (sCompare_calls w u' _ (rows.getD (j - 1) []) (rows.getD j []) hu' HU.out (HL.out (j - 1)) hm)
          obtain ⟨a2, cap2, rfl, -⟩ := hu'
          have i3 : (0 : Int) < (j : Int) := by omega
          have i4 : ((j : Int) - 1).toNat = j - 1 := by omega
          clear hp fin nxt h4 HU
          generalize cmpL (rows.getD (j - 1) []) (rows.getD j []) = y at *
          generalize (rows.getD j []).length = m at *
          generalize (rows.getD (j - 1) []).length = m' at *
          subst h1
          have i5 : ¬ (0 ≤ y) := by omega
          go_wp2_with (first | (go_at_call 76; refine HK.out.mono ?_; rintro e w' ⟨rfl, hw'⟩; subst w'))
          go_round
          case rel => exact ⟨j + 1, by omega, by go_num, hf⟩
          case measure => simp [intOf]; omega
    · obtain rfl : j = n := by omega
      have hf : Hid (res = true) := HR.out.trans (rowsB_true (fun i hi => hok.out i (by rw [HN.out]; exact hi)))
      have i1 : ¬ ((j : Int) < (j : Int)) := by omega
      clear hok
      go_wp2
      go_ret
      exact ⟨ret_bool (by rw [hf.out]), rfl⟩

end Go.Proofs.YtoodbpijgnbfjaaGreat

namespace Go.Proofs.YtoodbpijgnbfjaaGreat
open Go.RowKit

theorem all_getD {α : Type} (p : α → Bool) (d : α) (l : List α) (h : ∀ i, i < l.length → p (l.getD i d) = true) : l.all p = true := by
  rw [List.all_eq_true]
  intro x hx
  obtain ⟨j, hj, e⟩ := List.getElem_of_mem hx
  have := h j hj
  rw [List.getD_eq_getElem?_getD, List.getElem?_eq_getElem hj] at this
  rw [← e]; exact this

theorem all_getD_false {α : Type} (p : α → Bool) (d : α) (l : List α) (j : Nat) (hj : j < l.length) (h : p (l.getD j d) = false) : l.all p = false := by
  rw [List.all_eq_false]
  rw [List.getD_eq_getElem?_getD, List.getElem?_eq_getElem hj] at h
  exact ⟨_, List.getElem_mem hj, by simpa using h⟩

end Go.Proofs.YtoodbpijgnbfjaaGreat

namespace Go.Proofs.YtoodbpijgnbfjaaGreat
open Go.RowKit

def noTx : ByteArray := ⟨#[]⟩

def ISt (w : World) (v : Value) (l : List ByteArray) : Prop := ∃ a cap, v = .slice a l.length cap ∧ (l.length = 0 ∨ ∃ b o, a = some ⟨b, o, none⟩ ∧ ∀ j, j < l.length → w.cell? ⟨b, o + j, none⟩ = some (.string (l.getD j noTx)))

theorem ISt.below {w w' : World} {v : Value} {l : List ByteArray} (h : ISt w v l) (hb : Below w.heap.size w w') : ISt w' v l := by
  obtain ⟨a, cap, rfl, h⟩ := h
  refine ⟨a, cap, rfl, ?_⟩
  rcases h with h | ⟨b, o, rfl, h⟩
  · exact Or.inl h
  · exact Or.inr ⟨b, o, rfl, fun j hj => (hb.cell (p := ⟨b, o + j, none⟩) (World.block_lt_of_cell? w _ (h j hj))).trans (h j hj)⟩

end Go.Proofs.YtoodbpijgnbfjaaGreat

namespace Go.Proofs.YtoodbpijgnbfjaaGreat
open Go.RowKit

end Go.Proofs.YtoodbpijgnbfjaaGreat

namespace Go.Proofs.YtoodbpijgnbfjaaGreat.Meet

def Asc (l : List Int) : Prop := ∀ i j, i < j → j < l.length → l.getD i 0 < l.getD j 0
end Go.Proofs.YtoodbpijgnbfjaaGreat.Meet

namespace Go.Proofs.YtoodbpijgnbfjaaGreat

def lvlF (nxt : List Int → List Int) (p : List Int) : Nat → List (List Int)
  | 0 => [p]
  | j + 1 => (lvlF nxt p j).flatMap fun q => (nxt q).map fun v => q ++ [v]
def dfsF (nxt : List Int → List Int) : Nat → List Int → List (List Int)
  | 0, p => [p]
  | m + 1, p => p :: (nxt p).flatMap fun v => dfsF nxt m (p ++ [v])
theorem flatMap_flatMap' {α β γ : Type} (l : List α) (f : α → List β) (g : β → List γ) : (l.flatMap f).flatMap g = l.flatMap fun a => (f a).flatMap g := by
  induction l with
  | nil => rfl
  | cons a l ih => rw [List.flatMap_cons, List.flatMap_append, ih, List.flatMap_cons]
theorem lvlF_step (nxt : List Int → List Int) (p : List Int) : ∀ j, lvlF nxt p (j + 1) = (nxt p).flatMap fun v => lvlF nxt (p ++ [v]) j
  | 0 => by
    show ([p].flatMap fun q => (nxt q).map fun v => q ++ [v]) = (nxt p).flatMap fun v => [p ++ [v]]
    rw [List.flatMap_singleton]
    induction nxt p with
    | nil => rfl
    | cons a l ih => rw [List.map_cons, List.flatMap_cons, ih]; rfl
  | j + 1 => by
    show (lvlF nxt p (j + 1)).flatMap _ = _
    rw [lvlF_step nxt p j, flatMap_flatMap']
    rfl
theorem lvlF_len (nxt : List Int → List Int) (p : List Int) : ∀ j, ∀ q ∈ lvlF nxt p j, q.length = p.length + j
  | 0, q, h => by simp [lvlF] at h; rw [h]; rfl
  | j + 1, q, h => by
    simp only [lvlF, List.mem_flatMap, List.mem_map] at h
    obtain ⟨r, hr, v, -, rfl⟩ := h
    rw [List.length_append, lvlF_len nxt p j r hr]
    rfl
theorem filter_flatMap' {α β : Type} (l : List α) (f : α → List β) (q : β → Bool) : (l.flatMap f).filter q = l.flatMap fun a => (f a).filter q := by
  induction l with
  | nil => rfl
  | cons a l ih => rw [List.flatMap_cons, List.filter_append, ih, List.flatMap_cons]
theorem dfsF_long (nxt : List Int → List Int) : ∀ (m : Nat) (p q : List Int), q ∈ dfsF nxt m p → p.length ≤ q.length ∧ q.length ≤ p.length + m
  | 0, p, q, h => by simp [dfsF] at h; rw [h]; omega
  | m + 1, p, q, h => by
    simp only [dfsF, List.mem_cons, List.mem_flatMap] at h
    rcases h with rfl | ⟨v, -, hq⟩
    · omega
    · have := dfsF_long nxt m (p ++ [v]) q hq
      rw [List.length_append, List.length_singleton] at this
      omega
theorem dfsF_lvl (nxt : List Int → List Int) : ∀ (m : Nat) (p : List Int) (j : Nat), j ≤ m → (dfsF nxt m p).filter (fun q => decide (q.length = p.length + j)) = lvlF nxt p j
  | 0, p, j, hj => by
    obtain rfl : j = 0 := by omega
    simp [dfsF, lvlF]
  | m + 1, p, 0, _ => by
    show ((p :: (nxt p).flatMap fun v => dfsF nxt m (p ++ [v])).filter _) = [p]
    rw [List.filter_cons, if_pos (by simp), filter_flatMap']
    have h : ∀ l : List Int, (l.flatMap fun v => (dfsF nxt m (p ++ [v])).filter fun q => decide (q.length = p.length + 0)) = [] := fun l => by
      rw [List.flatMap_eq_nil_iff]
      intro v _
      rw [List.filter_eq_nil_iff]
      intro q hq
      have := (dfsF_long nxt m (p ++ [v]) q hq).1
      rw [List.length_append, List.length_singleton] at this
      simp only [decide_eq_true_eq]
      omega
    rw [h]
  | m + 1, p, j + 1, hj => by
    show ((p :: (nxt p).flatMap fun v => dfsF nxt m (p ++ [v])).filter _) = _
    rw [List.filter_cons, if_neg (by simp), filter_flatMap', lvlF_step]
    congr 1
    funext v
    have := dfsF_lvl nxt m (p ++ [v]) j (by omega)
    rw [List.length_append, List.length_singleton] at this
    rw [← this]
    congr 1
    funext q
    congr 1
    rw [eq_iff_iff]
    omega
def cntL (ps : List (List Int)) (n : Nat) : Nat := (ps.filter fun q => decide (q.length = n)).length
theorem cntL_snoc (ps : List (List Int)) (p : List Int) (n : Nat) : cntL (ps ++ [p]) n = cntL ps n + if p.length = n then 1 else 0 := by
  unfold cntL
  rw [List.filter_append, List.length_append]
  by_cases h : p.length = n <;> simp [h]
theorem cntL_le (ps qs : List (List Int)) (n : Nat) : cntL ps n ≤ cntL (ps ++ qs) n := by
  unfold cntL
  rw [List.filter_append, List.length_append]
  omega
theorem visits_sum (ps : List (List Int)) : ∀ k, (∀ q ∈ ps, q.length ≤ k) → (ps.filter fun q => decide (0 < q.length)).length = ((List.range k).map fun j => cntL ps (j + 1)).sum := by
  induction ps with
  | nil =>
    intro k _
    have h : ∀ k : Nat, ((List.range k).map fun j => cntL [] (j + 1)).sum = 0 := fun k => by
      induction k with
      | zero => rfl
      | succ k ih => rw [List.range_succ, List.map_append, List.sum_append, ih]; rfl
    rw [h]
    rfl
  | cons p ps ih =>
    intro k h
    have h1 := ih k fun q hq => h q (List.mem_cons_of_mem _ hq)
    have hp := h p List.mem_cons_self
    have hc : ∀ n, cntL (p :: ps) n = cntL ps n + if p.length = n then 1 else 0 := fun n => by
      unfold cntL
      rw [List.filter_cons]
      by_cases e : p.length = n <;> simp [e]
    have hs : ∀ k, p.length ≤ k → ((List.range k).map fun j => cntL (p :: ps) (j + 1)).sum = ((List.range k).map fun j => cntL ps (j + 1)).sum + if 0 < p.length then 1 else 0 := fun k => by
      induction k with
      | zero =>
        intro h0
        have h8 : p.length = 0 := by omega
        rw [h8]
        rfl
      | succ k ihk =>
        intro hk
        rw [List.range_succ, List.map_append, List.sum_append, List.map_append, List.sum_append]
        simp only [List.map_cons, List.map_nil, List.sum_cons, List.sum_nil, Nat.add_zero]
        rw [hc]
        by_cases e : p.length = k + 1
        · have h9 : ((List.range k).map fun j => cntL (p :: ps) (j + 1)) = (List.range k).map fun j => cntL ps (j + 1) := List.map_congr_left fun j hj => by
            rw [hc, if_neg (by have := List.mem_range.1 hj; omega)]; rfl
          rw [h9, if_pos e, if_pos (by omega)]
          omega
        · rw [ihk (by omega), if_neg e]
          omega
    rw [hs k hp, ← h1, List.filter_cons]
    by_cases e : 0 < p.length
    · rw [if_pos (by simpa using e), if_pos e, List.length_cons]
    · rw [if_neg (by simpa using e), if_neg e]; rfl

end Go.Proofs.YtoodbpijgnbfjaaGreat
