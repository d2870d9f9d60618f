import Derived.Test.YtnmcgbfhgmmcpaaW07
import Derived.Test.YtnmcgbfhgmmcpaaW08
/-
  spec.l1Zeros: n zeros.
-/
namespace Go.Proofs.Ytnmcgbfhgmmcpaa
open Go.RowKit

theorem Try.infoRatS : (Try.prog.info? 28).map (fun i => (i.zero, i.size, i.bytes)) = some (some (.agg #[.int .i64 0, .int .i64 0]), 2, 16) := by kernel_rfl

def zs (k : Nat) : List Value := (List.replicate k [Value.int .i64 0, Value.int .i64 1]).flatten
theorem zs_succ (k : Nat) : zs (k + 1) = zs k ++ [.int .i64 0, .int .i64 1] := by
  simp [zs, List.replicate_succ', List.flatten_append]

theorem own_grow2 {B n s : Nat} {e : TypeId} {w wr w1 : World} {u : Value} {o : Obj} {xs : List Value} (hB : B ≤ wr.heap.size)
    (hown : wr.ownsRow B e s u n xs) (hnx : Below B w wr) (hgrow : (wr.alloc o).grownBy w1 u.ownBlock) : Below B w w1 :=
  (hnx.alloc hB o).grown hgrow (by simp; omega) (fun j hj => (hown.lt j hj).1)

set_option maxHeartbeats 2000000 in
set_option maxRecDepth 1000000 in
theorem l1Zeros_calls (w : World) (n : Nat) (hn : n ≤ 1000) :
    Calls Try.prog 38 #[.int .i64 n] w fun e w' => ∃ v, e = .returned v ∧ w'.ownsRow w.heap.size 28 2 v n (zs n) ∧ Below w.heap.size w w' := by
  obtain ⟨i0, hi, hz0, hz1, hz2⟩ := info_parts Try.infoRatS
  go_enter Try.func38, Try.ntmps38
  go_wp2
  go_loopw [3, 4] (fun v t wr => ∃ k : Nat, k ≤ n ∧ t = .int .i64 k ∧ wr.ownsRow w.heap.size 28 2 v k (zs k) ∧ Below w.heap.size w wr) (fun _ t _ => n - (intOf t).toNat)
  case atStart => exact ⟨0, Nat.zero_le _, rfl, World.ownsRow_made w #[] 0 (Nat.le_refl _) (by decide) rfl, (Below.refl _ _).alloc (Nat.le_refl _) _⟩
  case round =>
    obtain ⟨k, hk, rfl, hown, hnx⟩ := hrel
    have hns := hnx.size
    by_cases hkn : k < n
    · have i1 : (k : Int) < (n : Int) := by omega
      go_wp2_with (first
        | (at_builtin; refine wpList_append_own _ rfl _ _ 29 rfl w.heap.size 28 i0 (.agg #[.int .i64 0, .int .i64 0]) 2 16 Try.underlying29 hi hz0 hz1 hz2 rfl (by decide) _ _ _ rfl (hown.alloc _) ⟨wr.heap.size, 0, none⟩ 1 1 [.int .i64 0, .int .i64 1] rfl rfl ?c1 ?c2 ?c3 ?c4 ?c5 ?_))
      case c1 =>
        intro j u hj
        match j, hj with
        | 0, hj => simp at hj; subst hj; simp [Addr.add]
        | 1, hj => simp at hj; subst hj; simp [Addr.add]
      case c2 => intro u hu; simp at hu; rcases hu with rfl | rfl <;> rfl
      case c3 => unfold maxLen; omega
      case c4 => omega
      case c5 => simp; omega
      intro v' w1 hown' hgrow _
      have hb := own_grow2 hns hown hnx hgrow
      have hown2 : w1.ownsRow w.heap.size 28 2 v' (k + 1) (zs (k + 1)) := by
        rw [zs_succ]; exact hown'
      clear hown' hgrow hown
      go_wp2
      go_roundw
      case rel => exact ⟨k + 1, by omega, by go_num, hown2, hb⟩
      case measure => simp [intOf]; omega
    · obtain rfl : k = n := by omega
      have i1 : ¬ ((k : Int) < (k : Int)) := by omega
      go_wp2
      go_ret
      exact ⟨_, rfl, hown, hnx⟩

end Go.Proofs.Ytnmcgbfhgmmcpaa

/-
  impl.ratsOf: fractions as Rats.
-/
namespace Go.Proofs.Ytnmcgbfhgmmcpaa
open Go.RowKit

/-- pairs of numbers in memory -/
def IR (w : World) (v : Value) (l : List (Int × Int)) : Prop := ∃ a cap, v = .slice a l.length cap ∧ (l.length = 0 ∨ ∃ b o, a = some ⟨b, o, none⟩ ∧ ∀ j, j < l.length →
  w.cell? ⟨b, o + j * 2, none⟩ = some (.int .i64 (l.getD j (0, 0)).1) ∧ w.cell? ⟨b, o + j * 2 + 1, none⟩ = some (.int .i64 (l.getD j (0, 0)).2))

def rcs (l : List (Int × Int)) : List Value := l.flatMap fun p => [.int .i64 p.1, .int .i64 p.2]
theorem rcs_succ (l : List (Int × Int)) (k : Nat) (h : k < l.length) : rcs (l.take (k + 1)) = rcs (l.take k) ++ [.int .i64 (l.getD k (0, 0)).1, .int .i64 (l.getD k (0, 0)).2] := by
  unfold rcs
  rw [List.take_add_one, List.getElem?_eq_getElem h, List.getD_eq_getElem?_getD, List.getElem?_eq_getElem h]
  simp only [Option.toList_some, List.flatMap_append, List.flatMap_cons, List.flatMap_nil, List.append_nil, Option.getD_some]

theorem own_below {B n s : Nat} {e : TypeId} {w w' : World} {v : Value} {xs : List Value} (h : w.ownsRow B e s v n xs) (hb : Below w.heap.size w w') : w'.ownsRow B e s v n xs := by
  obtain ⟨h1, h2⟩ := h
  refine ⟨h1, ?_⟩
  rcases h2 with h2 | ⟨g, cap, cur, hv, hg, hc, hr⟩
  · exact Or.inl h2
  · refine Or.inr ⟨g, cap, cur, hv, hg, ?_, hr⟩
    rw [hb.block g (by
      rcases Nat.lt_or_ge g w.heap.size with h3 | h3
      · exact h3
      · rw [Array.getElem?_eq_none h3] at hc; cases hc)]
    exact hc

set_option maxHeartbeats 2000000 in
set_option maxRecDepth 1000000 in
theorem ratsOf_calls (w : World) (v : Value) (l : List (Int × Int)) (h : IR w v l) (hl : l.length ≤ 1000)
    (hp : ∀ j, j < l.length → (-1000000 ≤ (l.getD j (0, 0)).1 ∧ (l.getD j (0, 0)).1 ≤ 1000000) ∧ (-1000000 ≤ (l.getD j (0, 0)).2 ∧ (l.getD j (0, 0)).2 ≤ 1000000)) :
    Calls Try.prog 44 #[v] w fun e w' => ∃ v, e = .returned v ∧ w'.ownsRow w.heap.size 28 2 v l.length (rcs l) ∧ Below w.heap.size w w' := by
  obtain ⟨i0, hi, hz0, hz1, hz2⟩ := info_parts Try.infoRatS
  obtain ⟨a, cap, rfl, hc⟩ := h
  obtain ⟨n, hn⟩ : ∃ n, n = l.length := ⟨_, rfl⟩
  obtain ⟨out, hout⟩ : ∃ o, o = rcs l := ⟨_, rfl⟩
  rw [← hout]
  rw [← hn] at hc hl hp ⊢
  have HC := hid hc
  have HP := hid hp
  have HN := hid hn
  have HO := hid hout
  clear hc hp hn hout
  go_enter Try.func44, Try.ntmps44
  go_wp2_with (at_make; refine wpList_make_own _ rfl _ _ 29 rfl w.heap.size 28 i0 (.agg #[.int .i64 0, .int .i64 0]) 2 Try.underlying29 hi hz0 hz1 _ _ _ n rfl rfl rfl ?b2 ?b3 (Nat.le_refl _) ?_)
  case b2 => rw [hz2]; omega
  case b3 => unfold maxLen; omega
  intro w0 hown0 hgrow0
  have hb0 : Below w.heap.size w w0 := (Below.refl _ _).grown hgrow0 (Nat.le_refl _) (fun j hj => by cases hj)
  clear hgrow0
  go_wp2
  go_loopw [3, 11] (fun v t wr => ∃ k : Nat, k ≤ n ∧ t = .int .i64 k ∧ wr.ownsRow w.heap.size 28 2 v k (rcs (l.take k)) ∧ Below w.heap.size w wr) (fun _ t _ => n - (intOf t).toNat)
  case atStart => exact ⟨0, Nat.zero_le _, rfl, hown0, hb0⟩
  case round =>
    obtain ⟨k, hk, rfl, hown, hnx⟩ := hrel
    have hns := hnx.size
    by_cases hkn : k < n
    · have i1 : (k : Int) < (n : Int) := by omega
      rcases HC.out with h0 | ⟨b, o, rfl, hcell⟩
      · omega
      · obtain ⟨d1, d2⟩ := hcell k hkn
        have c1 := (hnx.cell (p := ⟨b, o + k * 2, none⟩) (World.block_lt_of_cell? w _ d1)).trans d1
        have c2 := (hnx.cell (p := ⟨b, o + k * 2 + 1, none⟩) (World.block_lt_of_cell? w _ d2)).trans d2
        obtain ⟨⟨p1, p2⟩, p3, p4⟩ := HP.out k hkn
        have HS := hid (rcs_succ l k (by rw [← HN.out]; exact hkn))
        clear hcell d1 d2 hown0 hb0
        generalize (l.getD k (0, 0)).1 = x at *
        generalize (l.getD k (0, 0)).2 = y at *
        go_wp2_with fail
        have hbA : Below w.heap.size w (wr.alloc (.cells #[.int .i64 x, .int .i64 y] 80)) := hnx.alloc hns _
        have hownA := hown.alloc (.cells #[.int .i64 x, .int .i64 y] 80)
        clear hown c1 c2 hnx
        generalize wr.alloc (.cells #[.int .i64 x, .int .i64 y] 80) = wa at *
        refine (ratOf_yes x y wa p1 p2 p3 p4).mono ?_
        rintro e w2 ⟨rfl, hb2⟩
        have hownB := own_below hownA hb2
        have hbB : Below w.heap.size w w2 := bt hbA hb2
        have hsB := hbB.size
        clear hownA hb2 hbA
        go_wp2_with (first
          | (at_builtin; refine wpList_append_own _ rfl _ _ 29 rfl w.heap.size 28 i0 (.agg #[.int .i64 0, .int .i64 0]) 2 16 Try.underlying29 hi hz0 hz1 hz2 rfl (by decide) _ _ _ rfl (hownB.alloc _) ⟨w2.heap.size, 0, none⟩ 1 1 [.int .i64 x, .int .i64 y] rfl rfl ?c1 ?c2 ?c3 ?c4 ?c5 ?_))
        case c1 =>
          intro j u hj
          match j, hj with
          | 0, hj => simp at hj; subst hj; simp [Addr.add]
          | 1, hj => simp at hj; subst hj; simp [Addr.add]
        case c2 => intro u hu; simp at hu; rcases hu with rfl | rfl <;> rfl
        case c3 => unfold maxLen; omega
        case c4 => omega
        case c5 => simp; omega
        intro v' w1 hown' hgrow _
        have hb := own_grow2 hsB hownB hbB hgrow
        have hown2 : w1.ownsRow w.heap.size 28 2 v' (k + 1) (rcs (l.take (k + 1))) := by
          rw [HS.out]; exact hown'
        clear hown' hgrow hownB
        go_wp2
        go_roundw
        case rel => exact ⟨k + 1, by omega, by go_num, hown2, hb⟩
        case measure => simp [intOf]; omega
    · obtain rfl : k = n := by omega
      have i1 : ¬ ((k : Int) < (k : Int)) := by omega
      rw [HN.out, List.take_length, ← HN.out, ← HO.out] at hown
      go_wp2
      go_ret
      exact ⟨_, rfl, hown, hnx⟩

end Go.Proofs.Ytnmcgbfhgmmcpaa

/-
  laws.markIntSS on a copy of the law's own: only the blocks of its lists are others.
-/
namespace Go.Proofs.Ytnmcgbfhgmmcpaa
open Go.RowKit

/-- only the blocks f 0 .. f (n - 1) are others -/
structure Ost (f : Nat → Nat) (n : Nat) (w w' : World) : Prop where
  os : w'.os = w.os
  tape : w'.tape = w.tape
  output : w'.output = w.output
  size : w'.heap.size = w.heap.size
  block : ∀ b, (∀ i, i < n → b ≠ f i) → w'.heap[b]? = w.heap[b]?

theorem Ost.refl (f : Nat → Nat) (w : World) : Ost f 0 w w := ⟨rfl, rfl, rfl, rfl, fun _ _ => rfl⟩
theorem Ost.step {f : Nat → Nat} {n : Nat} {w w1 w2 : World} (h : Ost f n w w1) (h' : Og (f n) w1 w2) : Ost f (n + 1) w w2 :=
  ⟨h'.os.trans h.os, h'.tape.trans h.tape, h'.output.trans h.output, h'.size.trans h.size, fun b hb => (h'.block b (hb n (by omega))).trans (h.block b (fun i hi => hb i (by omega)))⟩
theorem Ost.below {f : Nat → Nat} {n N : Nat} {w w' : World} (h : Ost f n w w') (hN : ∀ i, i < n → N ≤ f i) : Below N w w' :=
  ⟨h.os, h.tape, h.output, Nat.le_of_eq h.size.symm, fun b hb => h.block b (fun i hi => by have := hN i hi; omega)⟩

set_option maxHeartbeats 2000000 in
set_option maxRecDepth 1000000 in
theorem markIntSS_calls (w : World) (G : Nat) (ls : List (List Int)) (f : Nat → Nat) (k : Int) (h : Half w G ls.length ls.length ls f) (hl : tot ls ls.length ≤ 1048576) (hk : 0 ≤ k) (hk' : k ≤ 8388608) :
    Calls Try.prog 20 #[.slice (some ⟨G, 0, none⟩) ls.length ls.length, .int .i64 k] w fun e w' => e = .returned (.int .i64 (k + (tot ls ls.length - ls.length))) ∧ Ost f ls.length w w' := by
  obtain ⟨n, hn⟩ : ∃ n, n = ls.length := ⟨_, rfl⟩
  rw [← hn] at h hl ⊢
  have HH := hid h
  have HN := hid hn
  have HT : Hid (∀ k, k ≤ n → tot ls k ≤ tot ls n) := fun k hk => by
    have := tot_le ls (ls.length - k) k (by rw [← HN.out]; omega)
    rw [← HN.out] at this; exact this
  have HS : Hid (∀ k, k < n → tot ls (k + 1) = tot ls k + (ls.getD k []).length) := fun k hk => tot_succ ls k (by rw [← HN.out]; exact hk)
  have H0 : Hid (tot ls 0 = n) := (tot_zero ls).trans HN.out.symm
  have hn7 : n ≤ 1048576 := by have := HT.out 0 (by omega); rw [H0.out] at this; omega
  clear h hn
  go_enter Try.func20, Try.ntmps20
  go_wp2
  go_loopw [1, 5] (fun u t wr => ∃ j : Nat, j ≤ n ∧ t = .int .i64 j ∧ ∃ c : Int, u = .int .i64 c ∧ 0 ≤ c ∧ c ≤ 9437184 ∧ Hid (c = k + (tot ls j - n) ∧ Ost f j w wr)) (fun _ t _ => n - (intOf t).toNat)
  case atStart => exact ⟨0, Nat.zero_le _, rfl, _, rfl, by omega, by omega, hid ⟨by rw [H0.out]; omega, Ost.refl _ _⟩⟩
  case round =>
    obtain ⟨j, hj, rfl, c, rfl, hc0, hc1, hok⟩ := hrel
    by_cases hjn : j < n
    · have i1 : (j : Int) < (n : Int) := by omega
      have hO := hok.out.2
      have hgt : ∀ i, i < n → G < f i := HH.out.gt
      have d1 := HH.out.cell j hjn
      rw [if_pos hjn] at d1
      have c1 : wr.cell? ⟨G, j, none⟩ = some (.slice (some ⟨f j, 0, none⟩) (ls.getD j []).length (ls.getD j []).length) :=
        (World.cell?_of_block (w := w) (a := ⟨G, j, none⟩) (hO.block G (fun i hi => by have := hgt i (by omega); omega))).trans d1
      have ho : OwnI wr (f j) (ls.getD j []) := (HH.out.own j hjn).move (hO.block (f j) (fun i hi => by have := HH.out.up i j hi hjn; omega)) (Nat.le_of_eq hO.size.symm)
      have hs := HS.out j hjn
      have ht := HT.out (j + 1) (by omega)
      have HK := hid (markIntS_calls wr (f j) (ls.getD j []) c ho (by omega) hc0 (by omega))
      have hoc := hok.out.1
      have hR : Hid (c + (ls.getD j []).length = k + (tot ls (j + 1) - n)) := hid (by omega)
      have hR2 : c + ((ls.getD j []).length : Int) ≤ 9437184 := by have t0 := HT.out 0 (by omega); rw [H0.out] at t0; omega
      have HST : Hid (∀ w2, Og (f j) wr w2 → Ost f (j + 1) w w2) := fun w2 h2 => hO.step h2
      clear ho hs ht hoc hgt d1 hO hok
      generalize (ls.getD j []).length = m at *
      go_wp2_with (first | (go_at_call 19; refine HK.out.mono ?_; rintro e w2 ⟨rfl, -, hog⟩; have HG := hid hog; clear hog))
      go_roundw
      case rel => exact ⟨j + 1, by omega, by go_num, _, rfl, by omega, hR2, hid ⟨hR.out, HST.out _ HG.out⟩⟩
      case measure => simp [intOf]; omega
    · obtain rfl : j = n := by omega
      have i1 : ¬ ((j : Int) < (j : Int)) := by omega
      go_wp2
      go_ret
      exact ⟨ret_int hok.out.1, hok.out.2⟩

end Go.Proofs.Ytnmcgbfhgmmcpaa

/-
  laws.markIntS, laws.heldIntS on a slice that a call has made (ownsRow).
-/
namespace Go.Proofs.Ytnmcgbfhgmmcpaa
open Go.RowKit

set_option maxHeartbeats 1000000 in
theorem markIntS_cap (w : World) (g cap : Nat) (l : List Int) (k : Int) (h : OwnI w g l) (hl : l.length ≤ 1099511627776) (hk : 0 ≤ k) (hk' : k ≤ 1099511627776) :
    Calls Try.prog 19 #[.slice (some ⟨g, 0, none⟩) l.length cap, .int .i64 k] w fun e w' => e = .returned (.int .i64 (k + l.length)) ∧ OwnI w' g (upFrom k l.length) ∧ Og g w w' := by
  obtain ⟨n, hn⟩ : ∃ n, n = l.length := ⟨_, rfl⟩
  have HO : Hid ((∀ j, j < n → w.cell? ⟨g, j, none⟩ = some (.int .i64 (l.getD j 0))) ∧ ∀ j, j < n → w.frozen? ⟨g, j, none⟩ = false) := by rw [hn]; exact ⟨h.cell, h.free⟩
  have hglt := h.lt
  rw [← hn] at hl ⊢
  clear h hn
  go_enter Try.func19, Try.ntmps19
  go_wp2
  go_loopw [1, 5] (fun u t wr => ∃ j : Nat, j ≤ n ∧ t = .int .i64 j ∧ u = .int .i64 (k + j) ∧ Og g w wr ∧ Hid ((∀ i, i < n → wr.cell? ⟨g, i, none⟩ = some (.int .i64 (if i < j then k + (i : Nat) else l.getD i 0))) ∧ ∀ i, i < n → wr.frozen? ⟨g, i, none⟩ = false)) (fun _ t _ => n - (intOf t).toNat)
  case atStart => exact ⟨0, Nat.zero_le _, rfl, by simp, Og.refl _ _, hid ⟨fun i hi => by rw [if_neg (by omega)]; exact HO.out.1 i hi, HO.out.2⟩⟩
  case round =>
    obtain ⟨j, hj, rfl, rfl, hB, hH⟩ := hrel
    by_cases hjn : j < n
    · have i1 : (j : Int) < (n : Int) := by omega
      have c2 : wr.cell? ⟨g, j, none⟩ = some (.int .i64 (if j < j then k + (j : Nat) else l.getD j 0)) := hH.out.1 j hjn
      have c3 : wr.frozen? ⟨g, j, none⟩ = false := hH.out.2 j hjn
      go_wp2
      go_roundw
      case rel =>
        refine ⟨j + 1, by omega, by go_num, by go_num, hB.set _ _, hid ⟨fun i hi => ?_, fun i hi => by rw [World.frozen?_setCell]; exact hH.out.2 i hi⟩⟩
        by_cases e : i = j
        · subst e
          rw [if_pos (by omega)]
          exact World.cell?_setCell_same _ _ _ c2
        · rw [World.cell?_setCell_other _ _ _ _ (by intro e2; simp only [Addr.mk.injEq] at e2; omega), hH.out.1 i hi]
          by_cases e2 : i < j
          · rw [if_pos e2, if_pos (by omega)]
          · rw [if_neg e2, if_neg (by omega)]
      case measure => simp [intOf]; omega
    · obtain rfl : j = n := by omega
      have i1 : ¬ ((j : Int) < (j : Int)) := by omega
      go_wp2
      go_ret
      refine ⟨rfl, ⟨fun i hi => ?_, fun i hi => hH.out.2 i (by rwa [upFrom_length] at hi), by rw [hB.size]; exact hglt⟩, hB⟩
      rw [upFrom_length] at hi
      rw [hH.out.1 i hi, if_pos hi, upFrom_get hi]

set_option maxHeartbeats 1000000 in
theorem heldIntS_cap (w : World) (g cap : Nat) (n : Nat) (k : Int) (h : OwnI w g (upFrom k n)) (hl : n ≤ 1099511627776) (hk : 0 ≤ k) (hk' : k ≤ 1099511627776) :
    Calls Try.prog 80 #[.slice (some ⟨g, 0, none⟩) n cap, .int .i64 k] w fun e w' => e = .returned (.int .i64 (k + n)) ∧ w' = w := by
  have HO : Hid (∀ j, j < n → w.cell? ⟨g, j, none⟩ = some (.int .i64 (k + (j : Nat)))) := fun j hj => by
    have := h.cell j (by rw [upFrom_length]; exact hj)
    rwa [upFrom_get hj] at this
  clear h
  go_enter Try.func80, Try.ntmps80
  go_wp2
  go_loop [1, 5] (fun u t => ∃ j : Nat, j ≤ n ∧ t = .int .i64 j ∧ u = .int .i64 (k + j)) (fun _ t => n - (intOf t).toNat)
  case atStart => exact ⟨0, Nat.zero_le _, rfl, by simp⟩
  case round =>
    obtain ⟨j, hj, rfl, rfl⟩ := hrel
    by_cases hjn : j < n
    · have i1 : (j : Int) < (n : Int) := by omega
      have c2 : w.cell? ⟨g, j, none⟩ = some (.int .i64 (k + (j : Nat))) := HO.out j hjn
      have hne : ((k + (j : Int)) != (k + (j : Int))) = false := by simp
      go_wp2
      go_round
      case rel => exact ⟨j + 1, by omega, by go_num, by go_num⟩
      case measure => simp [intOf]; omega
    · obtain rfl : j = n := by omega
      have i1 : ¬ ((j : Int) < (j : Int)) := by omega
      go_wp2
      go_ret
      exact ⟨rfl, rfl⟩


theorem own_move {w w' : World} {B n s : Nat} {e : TypeId} {v : Value} {xs : List Value} (h : w.ownsRow B e s v n xs) (hb : ∀ g, v.ownBlock = some g → w'.heap[g]? = w.heap[g]?) : w'.ownsRow B e s v n xs := by
  obtain ⟨h1, h2⟩ := h
  refine ⟨h1, ?_⟩
  rcases h2 with h2 | ⟨g, cap, cur, rfl, hb', hc, hr⟩
  · exact Or.inl h2
  · exact Or.inr ⟨g, cap, cur, rfl, hb', (hb g rfl).trans hc, hr⟩

theorem own_is {w : World} {B : Nat} {v : Value} {l : List Int} (h : w.ownsRow B 3 1 v l.length (l.map (Value.int .i64))) : IS w v l := by
  rcases h.2 with ⟨rfl, h2⟩ | ⟨g, cap, cur, rfl, hb', hc, hr⟩
  · exact ⟨none, 0, by rw [h2], Or.inl h2⟩
  · refine ⟨_, cap, rfl, Or.inr ⟨g, 0, rfl, fun j hj => ?_⟩⟩
    rw [Nat.zero_add, h.cellAt j (by omega), List.getElem?_map, List.getElem?_eq_getElem hj, List.getD_eq_getElem?_getD, List.getElem?_eq_getElem hj]
    rfl

theorem own_ownI {w : World} {B g cap : Nat} {l : List Int} (h : w.ownsRow B 3 1 (.slice (some ⟨g, 0, none⟩) l.length cap) l.length (l.map (Value.int .i64))) : OwnI w g l where
  cell j hj := by
    rw [h.cellAt j (by omega), List.getElem?_map, List.getElem?_eq_getElem hj, List.getD_eq_getElem?_getD, List.getElem?_eq_getElem hj]
    rfl
  free j _ := h.frozenAt j
  lt := (h.lt g rfl).2

set_option maxHeartbeats 400000 in
theorem markIntS_nil (w : World) (a : Option Addr) (cap : Nat) (k : Int) :
    Calls Try.prog 19 #[.slice a 0 cap, .int .i64 k] w fun e w' => e = .returned (.int .i64 k) ∧ w' = w := by
  go_enter Try.func19, Try.ntmps19
  go_wp2
  refine wp_loop_rounds 1 ?_
  rw [rounds_succ]
  go_wp2
  go_ret
  exact ⟨rfl, rfl⟩

set_option maxHeartbeats 400000 in
theorem heldIntS_nil (w : World) (a : Option Addr) (cap : Nat) (k : Int) :
    Calls Try.prog 80 #[.slice a 0 cap, .int .i64 k] w fun e w' => e = .returned (.int .i64 k) ∧ w' = w := by
  go_enter Try.func80, Try.ntmps80
  go_wp2
  refine wp_loop_rounds 1 ?_
  rw [rounds_succ]
  go_wp2
  go_ret
  exact ⟨rfl, rfl⟩

/-- marking a slice that a call has made, and finding the marks again -/
theorem mark_held (w : World) (B : Nat) (v : Value) (l : List Int) (k : Int) (h : w.ownsRow B 3 1 v l.length (l.map (Value.int .i64))) (hl : l.length ≤ 1099511627776) (hk : 0 ≤ k) (hk' : k ≤ 1099511627776) :
    Calls Try.prog 19 #[v, .int .i64 k] w fun e w' => e = .returned (.int .i64 (k + l.length)) ∧ (∀ b, some b ≠ v.ownBlock → w'.heap[b]? = w.heap[b]?) ∧ Below B w w' ∧ Calls Try.prog 80 #[v, .int .i64 k] w' fun e w'' => e = .returned (.int .i64 (k + l.length)) ∧ w'' = w' := by
  rcases h.2 with ⟨rfl, h2⟩ | ⟨g, cap, cur, rfl, hb', hc, hr⟩
  · rw [h2]
    refine (markIntS_nil w none 0 k).mono ?_
    rintro e w' ⟨rfl, rfl⟩
    refine ⟨by simp, fun b _ => rfl, Below.refl _ _, ?_⟩
    have := heldIntS_nil w' none 0 k
    simpa using this
  · refine (markIntS_cap w g cap l k (own_ownI h) hl hk hk').mono ?_
    rintro e w' ⟨rfl, ho, hog⟩
    exact ⟨rfl, fun b hb => hog.block b (fun e => hb (by rw [e]; rfl)), hog.below hb', heldIntS_cap w' g cap l.length k ho hl hk hk'⟩

end Go.Proofs.Ytnmcgbfhgmmcpaa

/-
  impl.sumOf, spec.l1Sum: the sum of Rats, given what AddRat | l1Plus answers at each step.
-/
namespace Go.Proofs.Ytnmcgbfhgmmcpaa
open Go.RowKit

/-- two cells that may be written -/
def Two (w : World) (g : Nat) (x y : Int) : Prop := w.cell? ⟨g, 0, none⟩ = some (.int .i64 x) ∧ w.cell? ⟨g, 1, none⟩ = some (.int .i64 y) ∧ w.frozen? ⟨g, 0, none⟩ = false ∧ w.frozen? ⟨g, 1, none⟩ = false

theorem Two.below {w w' : World} {g : Nat} {x y : Int} (h : Two w g x y) (hg : g < w.heap.size) (hb : Below w.heap.size w w') : Two w' g x y :=
  ⟨(hb.cell (p := ⟨g, 0, none⟩) hg).trans h.1, (hb.cell (p := ⟨g, 1, none⟩) hg).trans h.2.1, (World.frozen?_of_block (w := w) (a := ⟨g, 0, none⟩) (hb.block g hg)).trans h.2.2.1, (World.frozen?_of_block (w := w) (a := ⟨g, 1, none⟩) (hb.block g hg)).trans h.2.2.2⟩

theorem Two.set {w : World} {g : Nat} {a b : Int} (h : Two w g a b) (x y : Int) : Two ((w.setCell ⟨g, 0, none⟩ (.int .i64 x)).setCell ⟨g, 1, none⟩ (.int .i64 y)) g x y := by
  have n1 : ∀ v, (w.setCell ⟨g, 0, none⟩ v).cell? ⟨g, 1, none⟩ = some (.int .i64 b) := fun v => (World.cell?_setCell_other _ _ _ _ (by simp)).trans h.2.1
  refine ⟨(World.cell?_setCell_other _ _ _ _ (by simp)).trans (World.cell?_setCell_same _ _ _ h.1), World.cell?_setCell_same _ _ _ (n1 _), ?_, ?_⟩
  · rw [World.frozen?_setCell, World.frozen?_setCell]; exact h.2.2.1
  · rw [World.frozen?_setCell, World.frozen?_setCell]; exact h.2.2.2

theorem Two.other {w : World} {g g' : Nat} {a b : Int} (h : Two w g a b) (hne : g ≠ g') (x y : Value) : Two ((w.setCell ⟨g', 0, none⟩ x).setCell ⟨g', 1, none⟩ y) g a b := by
  have ne : ∀ i j : Nat, (⟨g, i, none⟩ : Addr) ≠ ⟨g', j, none⟩ := fun i j e => by simp only [Addr.mk.injEq] at e; exact hne e.1
  refine ⟨?_, ?_, ?_, ?_⟩
  · rw [World.cell?_setCell_other _ _ _ _ (by first | exact ne _ _ | exact (ne _ _).symm), World.cell?_setCell_other _ _ _ _ (by first | exact ne _ _ | exact (ne _ _).symm)]; exact h.1
  · rw [World.cell?_setCell_other _ _ _ _ (by first | exact ne _ _ | exact (ne _ _).symm), World.cell?_setCell_other _ _ _ _ (by first | exact ne _ _ | exact (ne _ _).symm)]; exact h.2.1
  · rw [World.frozen?_setCell, World.frozen?_setCell]; exact h.2.2.1
  · rw [World.frozen?_setCell, World.frozen?_setCell]; exact h.2.2.2

set_option maxHeartbeats 2000000 in
set_option maxRecDepth 1000000 in
theorem sumOf_calls (w : World) (v : Value) (l : List (Int × Int)) (h : IR w v l) (hl : l.length ≤ 1000) (s : Nat → Int × Int) (h0 : s 0 = (0, 1))
    (hs : ∀ k w, k < l.length → Calls Try.prog 12 #[.agg #[.int .i64 (s k).1, .int .i64 (s k).2], .agg #[.int .i64 (l.getD k (0, 0)).1, .int .i64 (l.getD k (0, 0)).2]] w fun e w' => e = .returned (.agg #[.int .i64 (s (k + 1)).1, .int .i64 (s (k + 1)).2]) ∧ Below w.heap.size w w') :
    Calls Try.prog 48 #[v] w fun e w' => e = .returned (.agg #[.int .i64 (s l.length).1, .int .i64 (s l.length).2]) ∧ Below w.heap.size w w' := by
  obtain ⟨a, cap, rfl, hc⟩ := h
  obtain ⟨n, hn⟩ : ∃ n, n = l.length := ⟨_, rfl⟩
  rw [← hn] at hc hl hs ⊢
  have HC := hid hc
  have HS := hid hs
  have H0 := hid h0
  clear hc hs hn h0
  go_enter Try.func48, Try.ntmps48
  go_wp2
  have hbb : Below w.heap.size w ((w.alloc (.cells #[.int .i64 0, .int .i64 0] 28)).alloc (.cells #[.int .i64 0, .int .i64 1] 28)) := ((Below.refl _ _).alloc (Nat.le_refl _) _).alloc (by simp) _
  have t1 : Two ((w.alloc (.cells #[.int .i64 0, .int .i64 0] 28)).alloc (.cells #[.int .i64 0, .int .i64 1] 28)) w.heap.size 0 0 :=
    ⟨by rw [World.cell?_alloc_past _ _ _ (by simp), World.cell?_alloc_at _ _ _ _ rfl]; rfl, by rw [World.cell?_alloc_past _ _ _ (by simp), World.cell?_alloc_at _ _ _ _ rfl]; rfl, by rw [World.frozen?_alloc_past _ _ _ (by simp), World.frozen?_alloc_at _ _ _ _ rfl], by rw [World.frozen?_alloc_past _ _ _ (by simp), World.frozen?_alloc_at _ _ _ _ rfl]⟩
  have t2 : Two ((w.alloc (.cells #[.int .i64 0, .int .i64 0] 28)).alloc (.cells #[.int .i64 0, .int .i64 1] 28)) (w.heap.size + 1) 0 1 :=
    ⟨by rw [World.cell?_alloc_at _ _ _ _ (by simp)]; rfl, by rw [World.cell?_alloc_at _ _ _ _ (by simp)]; rfl, World.frozen?_alloc_at _ _ _ _ (by simp), World.frozen?_alloc_at _ _ _ _ (by simp)⟩
  have T1 := hid t1
  have T2 := hid t2
  have HBB := hid hbb
  clear t1 t2 hbb
  go_loopw [9] (fun t wr => ∃ k : Nat, k ≤ n ∧ t = .int .i64 k ∧ w.heap.size + 1 < wr.heap.size ∧ Hid (Below w.heap.size w wr ∧ Two wr w.heap.size 0 0 ∧ Two wr (w.heap.size + 1) (s k).1 (s k).2)) (fun t _ => n - (intOf t).toNat)
  case atStart => exact ⟨0, Nat.zero_le _, rfl, by simp, hid ⟨HBB.out, T1.out, by rw [H0.out]; exact T2.out⟩⟩
  case round =>
    clear T1 T2 HBB
    obtain ⟨k, hk, rfl, hsz, hH⟩ := hrel
    by_cases hkn : k < n
    · have i1 : (k : Int) < (n : Int) := by omega
      rcases HC.out with h0 | ⟨b, o, rfl, hcell⟩
      · omega
      · obtain ⟨hnx, hT1, hT2⟩ := hH.out
        obtain ⟨d1, d2⟩ := hcell k hkn
        have c1 := (hnx.cell (p := ⟨b, o + k * 2, none⟩) (World.block_lt_of_cell? w _ d1)).trans d1
        have c2 := (hnx.cell (p := ⟨b, o + k * 2 + 1, none⟩) (World.block_lt_of_cell? w _ d2)).trans d2
        have HK : Hid (∀ w, _) := hid (fun w => HS.out k w hkn)
        have hbA : ∀ ob, Below wr.heap.size wr (wr.alloc ob) := fun ob => (Below.refl _ _).alloc (Nat.le_refl _) ob
        have c3 := hT2.1
        have c4 := hT2.2.1
        have HH := hid (And.intro hnx (And.intro hT1 hT2))
        have HBA := hid hbA
        clear hcell d1 d2 hnx hT1 hT2 hH hbA
        generalize (l.getD k (0, 0)).1 = x at *
        generalize (l.getD k (0, 0)).2 = y at *
        obtain ⟨x2, hx2⟩ : ∃ t, t = (s (k + 1)).1 := ⟨_, rfl⟩
        obtain ⟨y2, hy2⟩ : ∃ t, t = (s (k + 1)).2 := ⟨_, rfl⟩
        rw [← hx2, ← hy2] at HK
        have HX := hid hx2
        have HY := hid hy2
        clear hx2 hy2
        go_wp2_with (first | (go_at_call 12; refine (HK.out _).mono ?_; rintro e w2 ⟨rfl, hb2⟩; have hb3 := bt (HBA.out _) hb2; have q1 := HH.out.2.1.below (by omega) hb3; have q2 := HH.out.2.2.below (by omega) hb3; have q3 := bt HH.out.1 hb3; have q4 := hb3.size; have e1 := q2.1; have e2 := q2.2.1; have e3 := q2.2.2.1; have e4 := q2.2.2.2; have HQ := hid (And.intro q1 (And.intro q2 q3)); clear hb2 hb3 q1 q2 q3))
        go_roundw
        case rel => exact ⟨k + 1, by omega, by go_num, by simp [World.setCell]; omega, hid ⟨(HQ.out.2.2.setCell (by show w.heap.size ≤ w.heap.size + 1; omega) _).setCell (by show w.heap.size ≤ w.heap.size + 1; omega) _, HQ.out.1.other (by omega) _ _, by rw [← HX.out, ← HY.out]; exact HQ.out.2.1.set _ _⟩⟩
        case measure => simp [intOf]; omega
    · obtain rfl : k = n := by omega
      have i1 : ¬ ((k : Int) < (k : Int)) := by omega
      obtain ⟨hnx, hT1, hT2⟩ := hH.out
      have c1 := hT1.1
      have c2 := hT1.2.1
      have c3 := hT1.2.2.1
      have c4 := hT1.2.2.2
      have e1 := hT2.1
      have e2 := hT2.2.1
      obtain ⟨x, hx⟩ : ∃ t, t = (s k).1 := ⟨_, rfl⟩
      obtain ⟨y, hy⟩ : ∃ t, t = (s k).2 := ⟨_, rfl⟩
      rw [← hx] at e1
      rw [← hy] at e2
      have HX := hid hx
      have HY := hid hy
      have HQ := hid (And.intro hnx (hT1.set x y))
      clear hH hT1 hT2 hx hy hnx
      go_wp2
      have r1 := HQ.out.2.1
      have r2 := HQ.out.2.2.1
      refine bodyPost_ret (v := .agg #[.int .i64 x, .int .i64 y]) (by simp [results, Try.results48, go_sem, r1, r2]) rfl ⟨by rw [HX.out, HY.out], (HQ.out.1.setCell (Nat.le_refl _) _).setCell (Nat.le_refl _) _⟩

set_option maxHeartbeats 2000000 in
set_option maxRecDepth 1000000 in
theorem l1Sum_calls (w : World) (v : Value) (l : List (Int × Int)) (h : IR w v l) (hl : l.length ≤ 1000) (s : Nat → Int × Int) (h0 : s 0 = (0, 1))
    (hs : ∀ k w, k < l.length → Calls Try.prog 86 #[.agg #[.int .i64 (s k).1, .int .i64 (s k).2], .agg #[.int .i64 (l.getD k (0, 0)).1, .int .i64 (l.getD k (0, 0)).2]] w fun e w' => e = .returned (.agg #[.int .i64 (s (k + 1)).1, .int .i64 (s (k + 1)).2]) ∧ Below w.heap.size w w') :
    Calls Try.prog 40 #[v] w fun e w' => e = .returned (.agg #[.int .i64 (s l.length).1, .int .i64 (s l.length).2]) ∧ Below w.heap.size w w' := by
  obtain ⟨a, cap, rfl, hc⟩ := h
  obtain ⟨n, hn⟩ : ∃ n, n = l.length := ⟨_, rfl⟩
  rw [← hn] at hc hl hs ⊢
  have HC := hid hc
  have HS := hid hs
  have H0 := hid h0
  clear hc hs hn h0
  go_enter Try.func40, Try.ntmps40
  go_wp2
  have hbb : Below w.heap.size w ((w.alloc (.cells #[.int .i64 0, .int .i64 0] 28)).alloc (.cells #[.int .i64 0, .int .i64 1] 28)) := ((Below.refl _ _).alloc (Nat.le_refl _) _).alloc (by simp) _
  have t1 : Two ((w.alloc (.cells #[.int .i64 0, .int .i64 0] 28)).alloc (.cells #[.int .i64 0, .int .i64 1] 28)) w.heap.size 0 0 :=
    ⟨by rw [World.cell?_alloc_past _ _ _ (by simp), World.cell?_alloc_at _ _ _ _ rfl]; rfl, by rw [World.cell?_alloc_past _ _ _ (by simp), World.cell?_alloc_at _ _ _ _ rfl]; rfl, by rw [World.frozen?_alloc_past _ _ _ (by simp), World.frozen?_alloc_at _ _ _ _ rfl], by rw [World.frozen?_alloc_past _ _ _ (by simp), World.frozen?_alloc_at _ _ _ _ rfl]⟩
  have t2 : Two ((w.alloc (.cells #[.int .i64 0, .int .i64 0] 28)).alloc (.cells #[.int .i64 0, .int .i64 1] 28)) (w.heap.size + 1) 0 1 :=
    ⟨by rw [World.cell?_alloc_at _ _ _ _ (by simp)]; rfl, by rw [World.cell?_alloc_at _ _ _ _ (by simp)]; rfl, World.frozen?_alloc_at _ _ _ _ (by simp), World.frozen?_alloc_at _ _ _ _ (by simp)⟩
  have T1 := hid t1
  have T2 := hid t2
  have HBB := hid hbb
  clear t1 t2 hbb
  go_loopw [9] (fun t wr => ∃ k : Nat, k ≤ n ∧ t = .int .i64 k ∧ w.heap.size + 1 < wr.heap.size ∧ Hid (Below w.heap.size w wr ∧ Two wr w.heap.size 0 0 ∧ Two wr (w.heap.size + 1) (s k).1 (s k).2)) (fun t _ => n - (intOf t).toNat)
  case atStart => exact ⟨0, Nat.zero_le _, rfl, by simp, hid ⟨HBB.out, T1.out, by rw [H0.out]; exact T2.out⟩⟩
  case round =>
    clear T1 T2 HBB
    obtain ⟨k, hk, rfl, hsz, hH⟩ := hrel
    by_cases hkn : k < n
    · have i1 : (k : Int) < (n : Int) := by omega
      rcases HC.out with h0 | ⟨b, o, rfl, hcell⟩
      · omega
      · obtain ⟨hnx, hT1, hT2⟩ := hH.out
        obtain ⟨d1, d2⟩ := hcell k hkn
        have c1 := (hnx.cell (p := ⟨b, o + k * 2, none⟩) (World.block_lt_of_cell? w _ d1)).trans d1
        have c2 := (hnx.cell (p := ⟨b, o + k * 2 + 1, none⟩) (World.block_lt_of_cell? w _ d2)).trans d2
        have HK : Hid (∀ w, _) := hid (fun w => HS.out k w hkn)
        have hbA : ∀ ob, Below wr.heap.size wr (wr.alloc ob) := fun ob => (Below.refl _ _).alloc (Nat.le_refl _) ob
        have c3 := hT2.1
        have c4 := hT2.2.1
        have HH := hid (And.intro hnx (And.intro hT1 hT2))
        have HBA := hid hbA
        clear hcell d1 d2 hnx hT1 hT2 hH hbA
        generalize (l.getD k (0, 0)).1 = x at *
        generalize (l.getD k (0, 0)).2 = y at *
        obtain ⟨x2, hx2⟩ : ∃ t, t = (s (k + 1)).1 := ⟨_, rfl⟩
        obtain ⟨y2, hy2⟩ : ∃ t, t = (s (k + 1)).2 := ⟨_, rfl⟩
        rw [← hx2, ← hy2] at HK
        have HX := hid hx2
        have HY := hid hy2
        clear hx2 hy2
        go_wp2_with (first | (go_at_call 86; refine (HK.out _).mono ?_; rintro e w2 ⟨rfl, hb2⟩; have hb3 := bt (HBA.out _) hb2; have q1 := HH.out.2.1.below (by omega) hb3; have q2 := HH.out.2.2.below (by omega) hb3; have q3 := bt HH.out.1 hb3; have q4 := hb3.size; have e1 := q2.1; have e2 := q2.2.1; have e3 := q2.2.2.1; have e4 := q2.2.2.2; have HQ := hid (And.intro q1 (And.intro q2 q3)); clear hb2 hb3 q1 q2 q3))
        go_roundw
        case rel => exact ⟨k + 1, by omega, by go_num, by simp [World.setCell]; omega, hid ⟨(HQ.out.2.2.setCell (by show w.heap.size ≤ w.heap.size + 1; omega) _).setCell (by show w.heap.size ≤ w.heap.size + 1; omega) _, HQ.out.1.other (by omega) _ _, by rw [← HX.out, ← HY.out]; exact HQ.out.2.1.set _ _⟩⟩
        case measure => simp [intOf]; omega
    · obtain rfl : k = n := by omega
      have i1 : ¬ ((k : Int) < (k : Int)) := by omega
      obtain ⟨hnx, hT1, hT2⟩ := hH.out
      have c1 := hT1.1
      have c2 := hT1.2.1
      have c3 := hT1.2.2.1
      have c4 := hT1.2.2.2
      have e1 := hT2.1
      have e2 := hT2.2.1
      obtain ⟨x, hx⟩ : ∃ t, t = (s k).1 := ⟨_, rfl⟩
      obtain ⟨y, hy⟩ : ∃ t, t = (s k).2 := ⟨_, rfl⟩
      rw [← hx] at e1
      rw [← hy] at e2
      have HX := hid hx
      have HY := hid hy
      have HQ := hid (And.intro hnx (hT1.set x y))
      clear hH hT1 hT2 hx hy hnx
      go_wp2
      have r1 := HQ.out.2.1
      have r2 := HQ.out.2.2.1
      refine bodyPost_ret (v := .agg #[.int .i64 x, .int .i64 y]) (by simp [results, Try.results40, go_sem, r1, r2]) rfl ⟨by rw [HX.out, HY.out], (HQ.out.1.setCell (Nat.le_refl _) _).setCell (Nat.le_refl _) _⟩

end Go.Proofs.Ytnmcgbfhgmmcpaa
