import Derived.Test.YtliggcbiiaegeabPj09
import Derived.Test.YtliggcbiiaegeabPj21
/-
  impl.ratsOf: fractions as Rats.
-/
namespace Go.Proofs.Ytliggcbiiaegeab
open Go.RowKit

/-- pairs of numbers in memory -/
def IR (w : World) (v : Value) (l : List (Int × Int)) : Prop := ∃ a cap, v = .slice a l.length cap ∧ (l.length = 0 ∨ ∃ b o, a = some ⟨b, o, none⟩ ∧ ∀ j, j < l.length →
  w.cell? ⟨b, o + j * 2, none⟩ = some (.int .i64 (l.getD j (0, 0)).1) ∧ w.cell? ⟨b, o + j * 2 + 1, none⟩ = some (.int .i64 (l.getD j (0, 0)).2))

def rcs (l : List (Int × Int)) : List Value := l.flatMap fun p => [.int .i64 p.1, .int .i64 p.2]
theorem rcs_succ (l : List (Int × Int)) (k : Nat) (h : k < l.length) : rcs (l.take (k + 1)) = rcs (l.take k) ++ [.int .i64 (l.getD k (0, 0)).1, .int .i64 (l.getD k (0, 0)).2] := by
  unfold rcs
  rw [List.take_add_one, List.getElem?_eq_getElem h, List.getD_eq_getElem?_getD, List.getElem?_eq_getElem h]
  simp only [Option.toList_some, List.flatMap_append, List.flatMap_cons, List.flatMap_nil, List.append_nil, Option.getD_some]

theorem own_below {B n s : Nat} {e : TypeId} {w w' : World} {v : Value} {xs : List Value} (h : w.ownsRow B e s v n xs) (hb : Below w.heap.size w w') : w'.ownsRow B e s v n xs := by
  obtain ⟨h1, h2⟩ := h
  refine ⟨h1, ?_⟩
  rcases h2 with h2 | ⟨g, cap, cur, hv, hg, hc, hr⟩
  · exact Or.inl h2
  · refine Or.inr ⟨g, cap, cur, hv, hg, ?_, hr⟩
    rw [hb.block g (by
      rcases Nat.lt_or_ge g w.heap.size with h3 | h3
      · exact h3
      · rw [Array.getElem?_eq_none h3] at hc; cases hc)]
    exact hc

set_option maxHeartbeats 2000000 in
set_option maxRecDepth 1000000 in
theorem ratsOf_calls (w : World) (v : Value) (l : List (Int × Int)) (h : IR w v l) (hl : l.length ≤ 1000)
    (hp : ∀ j, j < l.length → (-1000000 ≤ (l.getD j (0, 0)).1 ∧ (l.getD j (0, 0)).1 ≤ 1000000) ∧ (-1000000 ≤ (l.getD j (0, 0)).2 ∧ (l.getD j (0, 0)).2 ≤ 1000000)) :
    Calls Try.prog 72 #[v] w fun e w' => ∃ v, e = .returned v ∧ w'.ownsRow w.heap.size 23 2 v l.length (rcs l) ∧ Below w.heap.size w w' := by
  obtain ⟨i0, hi, hz0, hz1, hz2⟩ := info_parts Try.infoRatS
  obtain ⟨a, cap, rfl, hc⟩ := h
  obtain ⟨n, hn⟩ : ∃ n, n = l.length := ⟨_, rfl⟩
  obtain ⟨out, hout⟩ : ∃ o, o = rcs l := ⟨_, rfl⟩
  rw [← hout]
  rw [← hn] at hc hl hp ⊢
  have HC := hid hc
  have HP := hid hp
  have HN := hid hn
  have HO := hid hout
  clear hc hp hn hout
  go_enter Try.func72, Try.ntmps72
  go_wp2_with (at_make; refine wpList_make_own _ rfl _ _ 35 rfl w.heap.size 23 i0 (.agg #[.int .i64 0, .int .i64 0]) 2 Try.underlying35 hi hz0 hz1 _ _ _ n rfl rfl rfl ?b2 ?b3 (Nat.le_refl _) ?_)
  case b2 => rw [hz2]; omega
  case b3 => unfold maxLen; omega
  intro w0 hown0 hgrow0
  have hb0 : Below w.heap.size w w0 := (Below.refl _ _).grown hgrow0 (Nat.le_refl _) (fun j hj => by cases hj)
  clear hgrow0
  go_wp2
  go_loopw [3, 11] (fun v t wr => ∃ k : Nat, k ≤ n ∧ t = .int .i64 k ∧ wr.ownsRow w.heap.size 23 2 v k (rcs (l.take k)) ∧ Below w.heap.size w wr) (fun _ t _ => n - (intOf t).toNat)
  case atStart => exact ⟨0, Nat.zero_le _, rfl, hown0, hb0⟩
  case round =>
    obtain ⟨k, hk, rfl, hown, hnx⟩ := hrel
    have hns := hnx.size
    by_cases hkn : k < n
    · have i1 : (k : Int) < (n : Int) := by omega
      rcases HC.out with h0 | ⟨b, o, rfl, hcell⟩
      · omega
      · obtain ⟨d1, d2⟩ := hcell k hkn
        have c1 := (hnx.cell (p := ⟨b, o + k * 2, none⟩) (World.block_lt_of_cell? w _ d1)).trans d1
        have c2 := (hnx.cell (p := ⟨b, o + k * 2 + 1, none⟩) (World.block_lt_of_cell? w _ d2)).trans d2
        obtain ⟨⟨p1, p2⟩, p3, p4⟩ := HP.out k hkn
        have HS := hid (rcs_succ l k (by rw [← HN.out]; exact hkn))
        clear hcell d1 d2 hown0 hb0
        generalize (l.getD k (0, 0)).1 = x at *
        generalize (l.getD k (0, 0)).2 = y at *
        go_wp2_with fail
        have hbA : Below w.heap.size w (wr.alloc (.cells #[.int .i64 x, .int .i64 y] 76)) := hnx.alloc hns _
        have hownA := hown.alloc (.cells #[.int .i64 x, .int .i64 y] 76)
        clear hown c1 c2 hnx
        generalize wr.alloc (.cells #[.int .i64 x, .int .i64 y] 76) = wa at *
        refine (ratOf_yes x y wa p1 p2 p3 p4).mono ?_
        rintro e w2 ⟨rfl, hb2⟩
        have hownB := own_below hownA hb2
        have hbB : Below w.heap.size w w2 := bt hbA hb2
        have hsB := hbB.size
        clear hownA hb2 hbA
        go_wp2_with (first
          | (at_builtin; refine wpList_append_own _ rfl _ _ 35 rfl w.heap.size 23 i0 (.agg #[.int .i64 0, .int .i64 0]) 2 16 Try.underlying35 hi hz0 hz1 hz2 rfl (by decide) _ _ _ rfl (hownB.alloc _) ⟨w2.heap.size, 0, none⟩ 1 1 [.int .i64 x, .int .i64 y] rfl rfl ?c1 ?c2 ?c3 ?c4 ?c5 ?_))
        case c1 =>
          intro j u hj
          match j, hj with
          | 0, hj => simp at hj; subst hj; simp [Addr.add]
          | 1, hj => simp at hj; subst hj; simp [Addr.add]
        case c2 => intro u hu; simp at hu; rcases hu with rfl | rfl <;> rfl
        case c3 => unfold maxLen; omega
        case c4 => omega
        case c5 => simp; omega
        intro v' w1 hown' hgrow _
        have hb := own_grow2 hsB hownB hbB hgrow
        have hown2 : w1.ownsRow w.heap.size 23 2 v' (k + 1) (rcs (l.take (k + 1))) := by
          rw [HS.out]; exact hown'
        clear hown' hgrow hownB
        go_wp2
        go_roundw
        case rel => exact ⟨k + 1, by omega, by go_num, hown2, hb⟩
        case measure => simp [intOf]; omega
    · obtain rfl : k = n := by omega
      have i1 : ¬ ((k : Int) < (k : Int)) := by omega
      rw [HN.out, List.take_length, ← HN.out, ← HO.out] at hown
      go_wp2
      go_ret
      exact ⟨_, rfl, hown, hnx⟩

end Go.Proofs.Ytliggcbiiaegeab

/-
  laws.markIntSS on a copy of the law's own: only the blocks of its lists are others.
-/
namespace Go.Proofs.Ytliggcbiiaegeab
open Go.RowKit

/-- only the blocks f 0 .. f (n - 1) are others -/
structure Ost (f : Nat → Nat) (n : Nat) (w w' : World) : Prop where
  os : w'.os = w.os
  tape : w'.tape = w.tape
  output : w'.output = w.output
  size : w'.heap.size = w.heap.size
  block : ∀ b, (∀ i, i < n → b ≠ f i) → w'.heap[b]? = w.heap[b]?

theorem Ost.refl (f : Nat → Nat) (w : World) : Ost f 0 w w := ⟨rfl, rfl, rfl, rfl, fun _ _ => rfl⟩
theorem Ost.step {f : Nat → Nat} {n : Nat} {w w1 w2 : World} (h : Ost f n w w1) (h' : Og (f n) w1 w2) : Ost f (n + 1) w w2 :=
  ⟨h'.os.trans h.os, h'.tape.trans h.tape, h'.output.trans h.output, h'.size.trans h.size, fun b hb => (h'.block b (hb n (by omega))).trans (h.block b (fun i hi => hb i (by omega)))⟩
theorem Ost.below {f : Nat → Nat} {n N : Nat} {w w' : World} (h : Ost f n w w') (hN : ∀ i, i < n → N ≤ f i) : Below N w w' :=
  ⟨h.os, h.tape, h.output, Nat.le_of_eq h.size.symm, fun b hb => h.block b (fun i hi => by have := hN i hi; omega)⟩

set_option maxHeartbeats 2000000 in
set_option maxRecDepth 1000000 in
theorem markIntSS_calls (w : World) (G : Nat) (ls : List (List Int)) (f : Nat → Nat) (k : Int) (h : Half w G ls.length ls.length ls f) (hl : tot ls ls.length ≤ 1048576) (hk : 0 ≤ k) (hk' : k ≤ 8388608) :
    Calls Try.prog 29 #[.slice (some ⟨G, 0, none⟩) ls.length ls.length, .int .i64 k] w fun e w' => e = .returned (.int .i64 (k + (tot ls ls.length - ls.length))) ∧ Ost f ls.length w w' := by
  obtain ⟨n, hn⟩ : ∃ n, n = ls.length := ⟨_, rfl⟩
  rw [← hn] at h hl ⊢
  have HH := hid h
  have HN := hid hn
  have HT : Hid (∀ k, k ≤ n → tot ls k ≤ tot ls n) := fun k hk => by
    have := tot_le ls (ls.length - k) k (by rw [← HN.out]; omega)
    rw [← HN.out] at this; exact this
  have HS : Hid (∀ k, k < n → tot ls (k + 1) = tot ls k + (ls.getD k []).length) := fun k hk => tot_succ ls k (by rw [← HN.out]; exact hk)
  have H0 : Hid (tot ls 0 = n) := (tot_zero ls).trans HN.out.symm
  have hn7 : n ≤ 1048576 := by have := HT.out 0 (by omega); rw [H0.out] at this; omega
  clear h hn
  go_enter Try.func29, Try.ntmps29
  go_wp2
  go_loopw [1, 5] (fun u t wr => ∃ j : Nat, j ≤ n ∧ t = .int .i64 j ∧ ∃ c : Int, u = .int .i64 c ∧ 0 ≤ c ∧ c ≤ 9437184 ∧ Hid (c = k + (tot ls j - n) ∧ Ost f j w wr)) (fun _ t _ => n - (intOf t).toNat)
  case atStart => exact ⟨0, Nat.zero_le _, rfl, _, rfl, by omega, by omega, hid ⟨by rw [H0.out]; omega, Ost.refl _ _⟩⟩
  case round =>
    obtain ⟨j, hj, rfl, c, rfl, hc0, hc1, hok⟩ := hrel
    by_cases hjn : j < n
    · have i1 : (j : Int) < (n : Int) := by omega
      have hO := hok.out.2
      have hgt : ∀ i, i < n → G < f i := HH.out.gt
      have d1 := HH.out.cell j hjn
      rw [if_pos hjn] at d1
      have c1 : wr.cell? ⟨G, j, none⟩ = some (.slice (some ⟨f j, 0, none⟩) (ls.getD j []).length (ls.getD j []).length) :=
        (World.cell?_of_block (w := w) (a := ⟨G, j, none⟩) (hO.block G (fun i hi => by have := hgt i (by omega); omega))).trans d1
      have ho : OwnI wr (f j) (ls.getD j []) := (HH.out.own j hjn).move (hO.block (f j) (fun i hi => by have := HH.out.up i j hi hjn; omega)) (Nat.le_of_eq hO.size.symm)
      have hs := HS.out j hjn
      have ht := HT.out (j + 1) (by omega)
      have HK := hid (markIntS_calls wr (f j) (ls.getD j []) c ho (by omega) hc0 (by omega))
      have hoc := hok.out.1
      have hR : Hid (c + (ls.getD j []).length = k + (tot ls (j + 1) - n)) := hid (by omega)
      have hR2 : c + ((ls.getD j []).length : Int) ≤ 9437184 := by have t0 := HT.out 0 (by omega); rw [H0.out] at t0; omega
      have HST : Hid (∀ w2, Og (f j) wr w2 → Ost f (j + 1) w w2) := fun w2 h2 => hO.step h2
      clear ho hs ht hoc hgt d1 hO hok
      generalize (ls.getD j []).length = m at *
      go_wp2_with (first | (go_at_call 28; refine HK.out.mono ?_; rintro e w2 ⟨rfl, -, hog⟩; have HG := hid hog; clear hog))
      go_roundw
      case rel => exact ⟨j + 1, by omega, by go_num, _, rfl, by omega, hR2, hid ⟨hR.out, HST.out _ HG.out⟩⟩
      case measure => simp [intOf]; omega
    · obtain rfl : j = n := by omega
      have i1 : ¬ ((j : Int) < (j : Int)) := by omega
      go_wp2
      go_ret
      exact ⟨ret_int hok.out.1, hok.out.2⟩

end Go.Proofs.Ytliggcbiiaegeab
