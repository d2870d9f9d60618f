import Derived.Deep.CutRange
import Derived.Deep.RegionLaw
import Derived.Test.YtpdloenmplafiaaV28
import Derived.Test.YtpdloenmplafiaaV31
import Derived.Test.YtpdloenmplafiaaV39
/-
  What a semijoin keeps; seeking among sorted rows.
-/
namespace Go.Proofs.Ytpdloenmplafiaa

theorem take_le : ∀ (n : Nat) {a b : List Int}, cmpL a b ≤ 0 → cmpL (a.take n) (b.take n) ≤ 0
  | 0, a, b, _ => by simp [cmpL]
  | n + 1, [], [], _ => by simp [cmpL]
  | n + 1, [], y :: b, _ => by simp [cmpL]
  | n + 1, x :: a, [], h => by simp [cmpL] at h
  | n + 1, x :: a, y :: b, h => by
    simp only [List.take_succ_cons]
    unfold cmpL at h ⊢
    by_cases h1 : x < y
    · rw [if_pos h1]; omega
    · rw [if_neg h1] at h ⊢
      by_cases h2 : y < x
      · rw [if_pos h2] at h; omega
      · rw [if_neg h2] at h ⊢
        exact take_le n h

theorem cmp_tri {a b c : List Int} (h1 : cmpL a b ≤ 0) (h2 : cmpL b c < 0) : cmpL a c < 0 := by
  rcases Int.lt_or_eq_of_le h1 with h | h
  · exact cmpL_trans h h2
  · rw [cmpL_eq h]; exact h2

theorem sl_le {rows : List (List Int)} (h : SL rows) {i j : Nat} (hij : i ≤ j) (hj : j < rows.length) : cmpL (rows.getD i []) (rows.getD j []) ≤ 0 := by
  rcases Nat.lt_or_ge i j with h1 | h1
  · have := List.pairwise_iff_getElem.1 h i j (by omega) hj h1
    rw [List.getD_eq_getElem?_getD, List.getElem?_eq_getElem (by omega), List.getD_eq_getElem?_getD, List.getElem?_eq_getElem hj]
    exact Int.le_of_lt this
  · rw [show i = j by omega, cmpL_self]; exact Int.le_refl _

/-- the place of the first row that does not come ahead of q -/
structure Sk (rows : List (List Int)) (q : List Int) (k : Nat) : Prop where
  le : k ≤ rows.length
  lo : ∀ j, j < k → cmpL ((rows.getD j []).take q.length) q < 0
  hi : ∀ j, k ≤ j → j < rows.length → ¬ cmpL ((rows.getD j []).take q.length) q < 0

def begB (rows : List (List Int)) (q : List Int) : Bool := rows.any fun r => decide (r.take q.length = q)

theorem sk_down {rows : List (List Int)} (h : SL rows) {q : List Int} {i j : Nat} (hij : i ≤ j) (hj : j < rows.length) (hc : cmpL ((rows.getD j []).take q.length) q < 0) : cmpL ((rows.getD i []).take q.length) q < 0 :=
  cmp_tri (take_le _ (sl_le h hij hj)) hc

theorem Sk.beg {rows : List (List Int)} {q : List Int} {k : Nat} (hS : SL rows) (h : Sk rows q k) : begB rows q = (decide (k < rows.length) && decide (cmpL ((rows.getD k []).take q.length) q = 0)) := by
  unfold begB
  by_cases hk : k < rows.length ∧ cmpL ((rows.getD k []).take q.length) q = 0
  · rw [decide_eq_true hk.1, decide_eq_true hk.2]
    refine List.any_eq_true.2 ⟨rows[k]'hk.1, List.getElem_mem _, decide_eq_true ?_⟩
    have := cmpL_eq hk.2
    rw [List.getD_eq_getElem?_getD, List.getElem?_eq_getElem hk.1] at this
    exact this
  · have e : (decide (k < rows.length) && decide (cmpL ((rows.getD k []).take q.length) q = 0)) = false := by
      rcases Classical.em (k < rows.length) with h1 | h1
      · rw [decide_eq_false (p := cmpL _ q = 0) (fun h2 => hk ⟨h1, h2⟩)]; simp
      · rw [decide_eq_false h1]; rfl
    rw [e, List.any_eq_false]
    intro r hr hc
    obtain ⟨j, hj, ej⟩ := List.getElem_of_mem hr
    have hc := of_decide_eq_true hc
    have e2 : (rows.getD j []).take q.length = q := by rw [List.getD_eq_getElem?_getD, List.getElem?_eq_getElem hj, ← hc, ← ej]; simp
    have hkj : k ≤ j := by
      rcases Nat.lt_or_ge j k with h1 | h1
      · have := h.lo j h1
        rw [e2, cmpL_self] at this
        omega
      · exact h1
    have h3 := take_le q.length (sl_le hS hkj hj)
    rw [e2] at h3
    have h4 := h.hi k (Nat.le_refl _) (by omega)
    exact hk ⟨by omega, by omega⟩

theorem begB_mem {rows : List (List Int)} {q : List Int} (hl : ∀ r ∈ rows, r.length = q.length) : begB rows q = decide (q ∈ rows) := by
  unfold begB
  by_cases hq : q ∈ rows
  · rw [decide_eq_true hq]
    exact List.any_eq_true.2 ⟨q, hq, by simp⟩
  · rw [decide_eq_false hq, List.any_eq_false]
    intro r hr hc
    have := of_decide_eq_true hc
    rw [← hl r hr, List.take_length] at this
    exact hq (this ▸ hr)

/-- the variables that both have -/
def shr (va vb : List Int) : List Int := va.filter fun x => decide (x ∈ vb)
theorem shr_pw {va vb : List Int} (h : va.Pairwise (· < ·)) : (shr va vb).Pairwise (· < ·) := h.filter _
theorem shr_left {va vb : List Int} {x : Int} (h : x ∈ shr va vb) : x ∈ va := (List.mem_filter.1 h).1
theorem shr_right {va vb : List Int} {x : Int} (h : x ∈ shr va vb) : x ∈ vb := of_decide_eq_true (List.mem_filter.1 h).2
theorem shr_len (va vb : List Int) : (shr va vb).length ≤ va.length := List.length_filter_le _ _
theorem shr_places (va vb : List Int) : atP va (plc (fun i => decide (va.getD i 0 ∈ vb)) va.length) = shr va vb := places_vals va vb
theorem shr_plc (va vb : List Int) : plc (fun i => decide (va.getD i 0 ∈ shr va vb)) va.length = plc (fun i => decide (va.getD i 0 ∈ vb)) va.length := by
  unfold plc
  congr 1
  refine List.filter_congr fun i hi => ?_
  rw [List.mem_range] at hi
  have hm : va.getD i 0 ∈ va := by rw [List.getD_eq_getElem?_getD, List.getElem?_eq_getElem hi]; exact List.getElem_mem _
  refine decide_eq_decide.2 ⟨shr_right, fun h => List.mem_filter.2 ⟨hm, decide_eq_true h⟩⟩
theorem shr_row {va vb r : List Int} (h : va.Pairwise (· < ·)) : atP r (plc (fun i => decide (va.getD i 0 ∈ vb)) va.length) = prjR va (shr va vb) r := by
  rw [← shr_plc]
  exact proj_row h (shr_pw h) fun x => shr_left

def semK (va vb : List Int) (rb : List (List Int)) : List (List Int) := srt (rb.map (prjR vb (shr va vb)))
def semB (va vb : List Int) (rb : List (List Int)) (r : List Int) : Bool := decide (prjR va (shr va vb) r ∈ semK va vb rb)
theorem semK_len {va vb : List Int} {rb : List (List Int)} : ∀ r ∈ semK va vb rb, r.length = (shr va vb).length := fun r hr => by
  rw [semK, (srt_ok _ _ (Nat.le_refl _)).2] at hr
  obtain ⟨q, -, rfl⟩ := List.mem_map.1 hr
  exact prjR_len _ _ _
theorem semK_sl (va vb : List Int) (rb : List (List Int)) : SL (semK va vb rb) := (srt_ok _ _ (Nat.le_refl _)).1
theorem semK_le (va vb : List Int) (rb : List (List Int)) : (semK va vb rb).length ≤ rb.length := Nat.le_trans (srt_len _ _ (Nat.le_refl _)) (by rw [List.length_map]; exact Nat.le_refl _)

/-- the places that are kept -/
def kp (p : Nat → Bool) (n : Nat) : List Nat := (List.range n).filter p
def kpR (p : Nat → Bool) (rows : List (List Int)) (n : Nat) : List (List Int) := (kp p n).map fun i => rows.getD i []
def kpW (p : Nat → Bool) (ws : List Int) (n : Nat) : List Int := (kp p n).map fun i => ws.getD i 0
theorem kp_hit {p : Nat → Bool} {n : Nat} (h : p n = true) : kp p (n + 1) = kp p n ++ [n] := by
  unfold kp; rw [List.range_succ, List.filter_append]; simp [h]
theorem kp_miss {p : Nat → Bool} {n : Nat} (h : p n = false) : kp p (n + 1) = kp p n := by
  unfold kp; rw [List.range_succ, List.filter_append]; simp [h]
theorem kp_len (p : Nat → Bool) (n : Nat) : (kp p n).length ≤ n := Nat.le_trans (List.length_filter_le _ _) (by simp)
theorem kpR_hit {p : Nat → Bool} {n : Nat} (rows : List (List Int)) (h : p n = true) : kpR p rows (n + 1) = kpR p rows n ++ [rows.getD n []] := by unfold kpR; rw [kp_hit h, List.map_append]; rfl
theorem kpW_hit {p : Nat → Bool} {n : Nat} (ws : List Int) (h : p n = true) : kpW p ws (n + 1) = kpW p ws n ++ [ws.getD n 0] := by unfold kpW; rw [kp_hit h, List.map_append]; rfl
theorem kpR_miss {p : Nat → Bool} {n : Nat} (rows : List (List Int)) (h : p n = false) : kpR p rows (n + 1) = kpR p rows n := by unfold kpR; rw [kp_miss h]
theorem kpW_miss {p : Nat → Bool} {n : Nat} (ws : List Int) (h : p n = false) : kpW p ws (n + 1) = kpW p ws n := by unfold kpW; rw [kp_miss h]
theorem kpR_len (p : Nat → Bool) (rows : List (List Int)) (n : Nat) : (kpR p rows n).length ≤ n := by unfold kpR; rw [List.length_map]; exact kp_len p n
theorem kpW_len (p : Nat → Bool) (ws : List Int) (n : Nat) : (kpW p ws n).length ≤ n := by unfold kpW; rw [List.length_map]; exact kp_len p n

end Go.Proofs.Ytpdloenmplafiaa

/-
  A table in the making: its block, its lists, apart from one another.
-/
namespace Go.Proofs.Ytpdloenmplafiaa
open Go.RowKit

structure KX (W : World) (B p : Nat) (v0 v1 v2 : Value) (us : List Value) (vs : List Int) (rows : List (List Int)) (ws : List Int) : Prop where
  tx : TX W p v0 v1 v2
  tq : TQ W B v0 v1 v2 us vs rows ws
  lo : B ≤ p

section
variable {W W' w3 : World} {B p : Nat} {v0 v1 v2 v' u : Value} {us : List Value} {vs ws l : List Int} {rows : List (List Int)} {o : Obj} {x : Int}
theorem KX.below (h : KX W B p v0 v1 v2 us vs rows ws) (hb : Below W.heap.size W W') : KX W' B p v0 v1 v2 us vs rows ws := ⟨h.tx.below hb, h.tq.below hb, h.lo⟩
theorem TX.set1 (h : TX W p v0 v1 v2) (y : Value) : TX (W.setCell ⟨p, 1, none⟩ y) p v0 y v2 := ⟨by rw [heap_setCell_same _ _ _ _ _ _ h.blk]; rfl⟩

theorem KX.pushR (h : KX W B p v0 v1 v2 us vs rows ws) (hu : W.ownsRow B 3 1 u l.length (l.map (Value.int .i64))) (hr : ∀ i, i < rows.length → ∀ g, (us.getD i undef).ownBlock = some g → u.ownBlock ≠ some g) (h0 : Ap' u v0) (h2 : Ap' u v2)
    (hown : w3.ownsRow B 22 1 v' (rows.length + 1) (us ++ [u])) (hg : (W.alloc o).grownBy w3 v1.ownBlock) : KX (w3.setCell ⟨p, 1, none⟩ v') B p v0 v' v2 (us ++ [u]) vs (rows ++ [l]) ws := by
  have hX : TX w3 p v0 v1 v2 := h.tx.grown h.tq.rq.own (by decide) hg
  have hint : ∀ {y : Value} {k : Nat} {xs : List Value}, W.ownsRow B 3 1 y k xs → w3.ownsRow B 3 1 y k xs := fun hx =>
    own_move hx fun g hgx => kept_of hg (hx.lt g hgx).2 (own_ne h.tq.rq.own (own_typ hx hgx) (by decide))
  have hl := h.tq.rq.len
  have e1 : ∀ i, i < rows.length → (us ++ [u]).getD i undef = us.getD i undef := fun i hi => by rw [List.getD_eq_getElem?_getD, List.getElem?_append_left (by omega), ← List.getD_eq_getElem?_getD]
  have e2 : (us ++ [u]).getD rows.length undef = u := by rw [List.getD_eq_getElem?_getD, List.getElem?_append_right (by omega), show rows.length - us.length = 0 by omega]; rfl
  refine ⟨hX.set1 _, ⟨own_keep3 (hint h.tq.o0) hX.typ (by decide), (h.tq.rq.step hu hr hown hg).set hX.typ, own_keep3 (hint h.tq.o2) hX.typ (by decide), h.tq.a02, fun i hi => ?_, fun i hi => ?_⟩, h.lo⟩
  · rw [List.length_append, List.length_singleton] at hi
    by_cases e : i < rows.length
    · rw [e1 i e]; exact h.tq.a0 i e
    · obtain rfl : i = rows.length := by omega
      rw [e2]; exact h0
  · rw [List.length_append, List.length_singleton] at hi
    by_cases e : i < rows.length
    · rw [e1 i e]; exact h.tq.a2 i e
    · obtain rfl : i = rows.length := by omega
      rw [e2]; exact h2

theorem KX.pushW (h : KX W B p v0 v1 v2 us vs rows ws) (hown : w3.ownsRow B 3 1 v' (ws.length + 1) (ws.map (Value.int .i64) ++ [.int .i64 x])) (hg : (W.alloc o).grownBy w3 v2.ownBlock) (hat : ∀ g, v'.ownBlock = some g → v2.ownBlock = some g ∨ W.heap.size ≤ g) :
    KX (w3.setCell ⟨p, 2, none⟩ v') B p v0 v1 v' us vs rows (ws ++ [x]) := by
  have hX : TX w3 p v0 v1 v2 := h.tx.grown h.tq.o2 (by decide) hg
  have ap : ∀ {y : Value} {k : Nat} {xs : List Value}, W.ownsRow B 3 1 y k xs → Ap' y v2 → Ap' y v' := fun hx ha g h1 h2 => by
    rcases hat g h2 with h3 | h3
    · exact ha g h1 h3
    · have := (hx.lt g h1).2; omega
  have hint : ∀ {y : Value} {k : Nat} {xs : List Value}, W.ownsRow B 3 1 y k xs → Ap' y v2 → w3.ownsRow B 3 1 y k xs := fun hx ha =>
    own_move hx fun g hgx => kept_of hg (hx.lt g hgx).2 (fun e => ha g hgx e.symm)
  refine ⟨hX.set2 _, ⟨own_keep3 (hint h.tq.o0 h.tq.a02) hX.typ (by decide), ⟨?_, h.tq.rq.len, fun i hi => own_keep3 (hint (h.tq.rq.each i hi) (h.tq.a2 i hi)) hX.typ (by decide), h.tq.rq.ap⟩, ?_, ap h.tq.o0 h.tq.a02, h.tq.a0, fun i hi => ap (h.tq.rq.each i hi) (h.tq.a2 i hi)⟩, h.lo⟩
  · refine own_keep3 (own_move h.tq.rq.own fun g hgx => kept_of hg (h.tq.rq.own.lt g hgx).2 (own_ne h.tq.o2 (own_typ h.tq.rq.own hgx) (by decide))) hX.typ (by decide)
  · refine own_keep3 ?_ hX.typ (by decide)
    rw [List.length_append, List.length_singleton, List.map_append]
    exact hown

theorem KX.made {v0 : Value} (hv : W.ownsRow B 3 1 v0 vs.length (vs.map (Value.int .i64))) (hB : B ≤ W.heap.size) : KX (W.alloc (.cells #[v0, .slice none 0 0, .slice none 0 0] 53)) B W.heap.size v0 (.slice none 0 0) (.slice none 0 0) [] vs [] [] :=
  ⟨TX.made _ _ _ _, ⟨hv.alloc _, ⟨World.ownsRow_nil _ _ _ _, rfl, fun i hi => by simp at hi, fun i j _ hj => by simp at hj⟩, World.ownsRow_nil _ _ _ _, fun g _ h => by simp [Value.ownBlock] at h, fun i hi => by simp at hi, fun i hi => by simp at hi⟩, hB⟩
end

end Go.Proofs.Ytpdloenmplafiaa

/-
  impl.Semijoin: its callees.
-/
namespace Go.Proofs.Ytpdloenmplafiaa
open Go.RowKit

set_option maxHeartbeats 2000000 in
set_option maxRecDepth 1000000 in
theorem has_nil (w : World) (vr : Value) (q : List Int) (hr : IS w vr q) (hL : q.length ≤ 1000) :
    Calls Try.prog 83 #[.pointer none, vr] w fun e w' => e = .returned (.bool false) ∧ w' = w := by
  obtain ⟨ar, cr, rfl, hc⟩ := hr
  rcases Nat.eq_zero_or_pos q.length with h0 | h0
  · rw [h0]
    clear hc
    go_enter Try.func83, Try.ntmps83
    go_wp2_with fail
    go_loop [0, 9] (fun u t => u = .pointer none ∧ t = .int .i64 0) (fun _ _ => 0)
    case atStart => exact ⟨rfl, rfl⟩
    case round =>
      obtain ⟨rfl, rfl⟩ := hrel
      go_wp2_with fail
      go_ret
      exact ⟨rfl, rfl⟩
  · rcases hc with h1 | ⟨b, o, rfl, h⟩
    · omega
    · have c1 : w.cell? ⟨b, o, none⟩ = some (.int .i64 (q.getD 0 0)) := h 0 h0
      have i1 : (0 : Int) < (q.length : Int) := by omega
      clear h
      generalize q.getD 0 0 = x at *
      generalize q.length = n at *
      go_enter Try.func83, Try.ntmps83
      go_wp2_with fail
      go_loop [0, 9] (fun u t => u = .pointer none ∧ t = .int .i64 0) (fun _ _ => 0)
      case atStart => exact ⟨rfl, rfl⟩
      case round =>
        obtain ⟨rfl, rfl⟩ := hrel
        go_wp2_with fail
        go_ret
        exact ⟨rfl, rfl⟩

/-- a trie of rows, or none -/
def TC (W0 W : World) (keys : List (List Int)) (c : Option Addr) : Prop := keys = [] ∧ c = none ∨ keys ≠ [] ∧ ∃ root, c = some ⟨root, 0, none⟩ ∧ TS W0 W keys keys.length root

theorem TC.has {W0 w4 W : World} {keys : List (List Int)} {c : Option Addr} {L : Nat} (h : TC W0 w4 keys c) (hW : Below w4.heap.size w4 W) (hl : ∀ r ∈ keys, r.length = L) (hn : keys.length ≤ 100000) (hL : L ≤ 1000) {vr : Value} {q : List Int} (hr : IS W vr q) (hq : q.length = L) :
    Calls Try.prog 83 #[.pointer c, vr] W fun e w' => e = .returned (.bool (decide (q ∈ keys))) ∧ Below W.heap.size W w' := by
  rcases h with ⟨rfl, rfl⟩ | ⟨h0, root, rfl, D, N, f, g0, g1, hM, hT, hf, hk, -⟩
  · refine (has_nil W vr q hr (by omega)).mono ?_
    rintro e w' ⟨rfl, rfl⟩
    exact ⟨by simp, Below.refl _ _⟩
  · rw [← hf]
    exact has_calls W _ D N f g0 g1 keys L vr q hM (hT.below hW) (fun p hp => by have := hk p hp; omega) hl h0 hr hq hL

theorem TQ.base {W : World} {B B' : Nat} {v0 v1 v2 : Value} {us : List Value} {vs ws : List Int} {rows : List (List Int)} (h : TQ W B v0 v1 v2 us vs rows ws) (hB : B' ≤ B) : TQ W B' v0 v1 v2 us vs rows ws :=
  ⟨own_base h.o0 hB, h.rq.base hB, own_base h.o2 hB, h.a02, h.a0, h.a2⟩

end Go.Proofs.Ytpdloenmplafiaa

/-
  impl.Semijoin.
-/
namespace Go.Proofs.Ytpdloenmplafiaa
open Go.RowKit

theorem plc_in (va vb : List Int) : ∀ p ∈ plc (fun i => decide (va.getD i 0 ∈ vb)) va.length, 0 ≤ p ∧ p < (va.length : Int) := fun p hp => by
  unfold plc at hp
  rw [List.mem_map] at hp
  obtain ⟨j, hj, e⟩ := hp
  rw [List.mem_filter, List.mem_range] at hj
  simp only [Int.ofNat_eq_natCast] at e
  omega

def three (w : World) (a0 a1 a2 b0 b1 b2 : Value) : World := ((w.alloc (.cells #[a0, a1, a2] 53)).alloc (.cells #[b0, b1, b2] 53)).alloc (.cells #[.slice none 0 0, .slice none 0 0, .slice none 0 0] 53)
theorem three_is (w : World) (a0 a1 a2 b0 b1 b2 : Value) : Below w.heap.size w (three w a0 a1 a2 b0 b1 b2) ∧ TX (three w a0 a1 a2 b0 b1 b2) w.heap.size a0 a1 a2 ∧ TX (three w a0 a1 a2 b0 b1 b2) (w.heap.size + 1) b0 b1 b2 ∧ TX (three w a0 a1 a2 b0 b1 b2) (w.heap.size + 2) (.slice none 0 0) (.slice none 0 0) (.slice none 0 0) := by
  have hA : ∀ (W : World) (o : Obj), Below W.heap.size W (W.alloc o) := fun W o => (Below.refl _ _).alloc (Nat.le_refl _) _
  refine ⟨bt (bt (hA w _) (hA _ _)) (hA _ _), ((TX.made _ _ _ _).below (hA _ _)).below (hA _ _), ?_, ?_⟩
  · have := (TX.made (w.alloc (.cells #[a0, a1, a2] 53)) b0 b1 b2).below (hA _ (.cells #[.slice none 0 0, .slice none 0 0, .slice none 0 0] 53))
    rw [World.size_alloc] at this
    exact this
  · have := TX.made ((w.alloc (.cells #[a0, a1, a2] 53)).alloc (.cells #[b0, b1, b2] 53)) (.slice none 0 0) (.slice none 0 0) (.slice none 0 0)
    rw [World.size_alloc, World.size_alloc] at this
    exact this

/-- both tables are right -/
def semOK (va : List Int) (ra : List (List Int)) (wa vb : List Int) (rb : List (List Int)) (wb : List Int) : Bool := tableB va ra wa && tableB vb rb wb
def semP (va vb : List Int) (ra rb : List (List Int)) (i : Nat) : Bool := semB va vb rb (ra.getD i [])

set_option maxHeartbeats 4000000 in
set_option maxRecDepth 1000000 in
theorem iSemijoin_no (w : World) (a0 a1 a2 b0 b1 b2 : Value) (va wa vb wb : List Int) (ra rb : List (List Int)) (hA : IT w a0 a1 a2 va ra wa) (hB : IT w b0 b1 b2 vb rb wb) (hla : va.length ≤ 1099511627776) (hSa : Short ra) (hlb : vb.length ≤ 1099511627776) (hSb : Short rb) (hno : semOK va ra wa vb rb wb = false) :
    Calls Try.prog 33 #[.agg #[a0, a1, a2], .agg #[b0, b1, b2]] w fun e w' => ∃ x0 x1 x2 us, e = .returned (.agg #[x0, x1, x2]) ∧ TQ w' w.heap.size x0 x1 x2 us [] [] [] ∧ Below w.heap.size w w' := by
  obtain ⟨W1, hW1⟩ : ∃ W1, W1 = three w a0 a1 a2 b0 b1 b2 := ⟨_, rfl⟩
  obtain ⟨hB1, hTa, hTb, hTr⟩ := three_is w a0 a1 a2 b0 b1 b2
  rw [← hW1] at hB1 hTa hTb hTr
  have HTa := hid hTa
  have HTb := hid hTb
  have HTr := hid hTr
  have HB1 := hid hB1
  have KTa := hid (tableOK_calls W1 a0 a1 a2 va ra wa (hA.below hB1) hla hSa)
  have KTb : Hid (∀ W, Below W1.heap.size W1 W → Calls Try.prog 71 #[.agg #[b0, b1, b2]] W fun e w' => e = .returned (.bool (tableB vb rb wb)) ∧ Below W.heap.size W w') := hid fun W hW => tableOK_calls W b0 b1 b2 vb rb wb (hB.below (bt hB1 hW)) hlb hSb
  unfold three at hW1
  unfold semOK at hno
  obtain ⟨p0, k0, e0, -⟩ := hA.vs
  obtain ⟨p1, k1, e1, -⟩ := hA.rows
  obtain ⟨p2, k2, e2, -⟩ := hA.ws
  obtain ⟨q0, m0, f0, -⟩ := hB.vs
  obtain ⟨q1, m1, f1, -⟩ := hB.rows
  obtain ⟨q2, m2, f2, -⟩ := hB.ws
  subst e0 e1 e2 f0 f1 f2
  clear hA hB hB1 hTa hTb hTr hla hSa hlb hSb
  have d0 := HTa.out.c0
  have d1 := HTa.out.c1
  have d2 := HTa.out.c2
  cases ht : tableB va ra wa
  · rw [ht] at KTa
    clear KTb ht hno
    generalize va.length = l0 at *
    generalize ra.length = l1 at *
    generalize wa.length = l2 at *
    generalize vb.length = n0 at *
    generalize rb.length = n1 at *
    generalize wb.length = n2 at *
    go_enter Try.func33, Try.ntmps33
    go_upto_region 1 with fail
    rw [← hW1]
    clear hW1
    go_wp2_with fail
    refine KTa.out.mono ?_
    rintro e w2 ⟨rfl, hb2⟩
    have HR2 := hid (HTr.out.below hb2)
    have HB2 := hid (bt HB1.out hb2)
    clear hb2 KTa HTr d0 d1 d2 HB1 HTa HTb
    have f0 := HR2.out.free 0
    have f1 := HR2.out.free 1
    have f2 := HR2.out.free 2
    have r0 := HR2.out.c0
    have r1 := HR2.out.c1
    have r2 := HR2.out.c2
    go_wp2_with fail
    refine bodyPost_ret (v := .agg #[.slice none 0 0, .slice none 0 0, .slice none 0 0]) (by simp [results, Try.results33, go_sem, r0, r1, r2]) rfl ⟨_, _, _, [], rfl, TQ.nil _ _, ((HB2.out.setCell (Nat.le_add_right _ 2) _).setCell (Nat.le_add_right _ 2) _).setCell (Nat.le_add_right _ 2) _⟩
  · rw [ht, Bool.true_and] at hno
    rw [ht] at KTa
    rw [hno] at KTb
    clear ht hno
    generalize va.length = l0 at *
    generalize ra.length = l1 at *
    generalize wa.length = l2 at *
    generalize vb.length = n0 at *
    generalize rb.length = n1 at *
    generalize wb.length = n2 at *
    go_enter Try.func33, Try.ntmps33
    go_upto_region 1 with fail
    rw [← hW1]
    clear hW1
    go_wp2_with fail
    refine KTa.out.mono ?_
    rintro e w2 ⟨rfl, hb2⟩
    have HR2 := hid (HTr.out.below hb2)
    have HB2 := hid (bt HB1.out hb2)
    have HT2 := hid (HTb.out.below hb2)
    have KTb2 := hid (KTb.out w2 hb2)
    clear hb2 KTa HTr d0 d1 d2 HB1 HTa HTb KTb
    have d0 := HT2.out.c0
    have d1 := HT2.out.c1
    have d2 := HT2.out.c2
    go_wp2_with fail
    refine KTb2.out.mono ?_
    rintro e w3 ⟨rfl, hb3⟩
    have HR3 := hid (HR2.out.below hb3)
    have HB3 := hid (bt HB2.out hb3)
    clear hb3 KTb2 HR2 HB2 HT2 d0 d1 d2
    have f0 := HR3.out.free 0
    have f1 := HR3.out.free 1
    have f2 := HR3.out.free 2
    have r0 := HR3.out.c0
    have r1 := HR3.out.c1
    have r2 := HR3.out.c2
    go_wp2_with fail
    refine bodyPost_ret (v := .agg #[.slice none 0 0, .slice none 0 0, .slice none 0 0]) (by simp [results, Try.results33, go_sem, r0, r1, r2]) rfl ⟨_, _, _, [], rfl, TQ.nil _ _, ((HB3.out.setCell (Nat.le_add_right _ 2) _).setCell (Nat.le_add_right _ 2) _).setCell (Nat.le_add_right _ 2) _⟩

end Go.Proofs.Ytpdloenmplafiaa
