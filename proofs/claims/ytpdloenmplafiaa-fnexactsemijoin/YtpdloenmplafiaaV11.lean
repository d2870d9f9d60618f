import Derived.Deep.Draws
import Derived.Deep.LoopGhost
import Derived.Lib.Walk
import Derived.Test.YtpdloenmplafiaaV00
import Derived.Test.YtpdloenmplafiaaV10
/-
  slices.BinarySearch at []int; the cursors' methods.
-/
namespace Go.Proofs.Ytpdloenmplafiaa
open Go.RowKit Meet

set_option maxHeartbeats 400000 in
theorem cNaN_calls (x : Int) (w : World) : Calls Try.prog 180 #[.int .i64 x] w fun e w' => e = .returned (.bool false) ∧ w' = w := by
  go_enter Try.func180, Try.ntmps180
  go_wp2
  go_ret
  exact ⟨by simp, rfl⟩

set_option maxHeartbeats 400000 in
theorem sNaN_calls (x : Int) (w : World) : Calls Try.prog 192 #[.int .i64 x] w fun e w' => e = .returned (.bool false) ∧ w' = w := by
  go_enter Try.func192, Try.ntmps192
  go_wp2
  go_ret
  exact ⟨by simp, rfl⟩

set_option maxHeartbeats 400000 in
theorem less_calls (x y : Int) (w : World) : Calls Try.prog 191 #[.int .i64 x, .int .i64 y] w fun e w' => e = .returned (.bool (decide (x < y))) ∧ w' = w := by
  go_enter Try.func191, Try.ntmps191
  go_wp2_with (first | (go_at_call 180; refine (cNaN_calls _ _).mono ?_; rintro e w' ⟨rfl, rfl⟩))
  go_ret
  exact ⟨rfl, rfl⟩

/-- the elements are ascending, one may be met twice -/
def Up (l : List Int) : Prop := ∀ i j, i ≤ j → j < l.length → l.getD i 0 ≤ l.getD j 0

theorem up_of_asc {l : List Int} (h : Asc l) : Up l := fun i j hij hj => by
  rcases Nat.lt_or_ge i j with h1 | h1
  · exact Int.le_of_lt (h i j h1 hj)
  · rw [show i = j by omega]; exact Int.le_refl _

def bsQ (l : List Int) (x : Int) : Nat := l.countP fun y => decide (y < x)
def bsF (l : List Int) (x : Int) : Bool := decide (bsQ l x < l.length) && decide (l.getD (bsQ l x) 0 = x)

theorem bsQ_eq {l : List Int} {x : Int} {q : Nat} (hq : q ≤ l.length) (h1 : ∀ j, j < q → l.getD j 0 < x) (h2 : ∀ j, q ≤ j → j < l.length → x ≤ l.getD j 0) : bsQ l x = q := by
  unfold bsQ
  conv => lhs; rw [← List.take_append_drop q l]
  rw [List.countP_append]
  have a : (l.take q).countP (fun y => decide (y < x)) = (l.take q).length := List.countP_eq_length.2 fun y hy => by
    obtain ⟨j, hj, e⟩ := List.getElem_of_mem hy
    rw [List.length_take] at hj
    have := h1 j (by omega)
    rw [List.getD_eq_getElem?_getD, List.getElem?_eq_getElem (by omega)] at this
    rw [List.getElem_take] at e
    simp only [Option.getD_some, e] at this
    exact decide_eq_true this
  have b : (l.drop q).countP (fun y => decide (y < x)) = 0 := List.countP_eq_zero.2 fun y hy => by
    obtain ⟨j, hj, e⟩ := List.getElem_of_mem hy
    rw [List.length_drop] at hj
    have := h2 (q + j) (by omega) (by omega)
    rw [List.getD_eq_getElem?_getD, List.getElem?_eq_getElem (by omega)] at this
    rw [List.getElem_drop] at e
    simp only [Option.getD_some, e] at this
    simp; omega
  rw [a, b, List.length_take]; omega

theorem bs_split {l : List Int} (hs : Up l) (x : Int) : ∃ q, q ≤ l.length ∧ (∀ j, j < q → l.getD j 0 < x) ∧ (∀ j, q ≤ j → j < l.length → x ≤ l.getD j 0) := by
  have key : ∀ d k, k + d = l.length → (∀ j, j < k → l.getD j 0 < x) → ∃ q, q ≤ l.length ∧ (∀ j, j < q → l.getD j 0 < x) ∧ (∀ j, q ≤ j → j < l.length → x ≤ l.getD j 0) := by
    intro d
    induction d with
    | zero => intro k hk h; exact ⟨k, by omega, h, fun j h1 h2 => by omega⟩
    | succ d ih =>
      intro k hk h
      by_cases hx : l.getD k 0 < x
      · exact ih (k + 1) (by omega) (fun j hj => by
          rcases Nat.lt_or_ge j k with h1 | h1
          · exact h j h1
          · rw [show j = k by omega]; exact hx)
      · exact ⟨k, by omega, h, fun j h1 h2 => by have := hs k j h1 h2; omega⟩
  exact key l.length 0 (by omega) (fun j hj => by omega)

theorem bsQ_spec {l : List Int} (hs : Up l) (x : Int) : bsQ l x ≤ l.length ∧ (∀ j, j < bsQ l x → l.getD j 0 < x) ∧ (∀ j, bsQ l x ≤ j → j < l.length → x ≤ l.getD j 0) := by
  obtain ⟨q, h1, h2, h3⟩ := bs_split hs x
  rw [bsQ_eq h1 h2 h3]
  exact ⟨h1, h2, h3⟩

theorem tup_ret {q : Nat} {a b : Bool} {k : Nat} (h : k = q) (h' : a = b) : Ending.returned (.tuple #[.int .i64 k, .bool a]) = .returned (.tuple #[.int .i64 q, .bool b]) := by rw [h, h']

set_option maxHeartbeats 4000000 in
set_option maxRecDepth 1000000 in
theorem bsearch_calls (w : World) (v : Value) (l : List Int) (x : Int) (h : IS w v l) (hl : l.length ≤ 1099511627776) (hs : Up l) :
    Calls Try.prog 175 #[v, .int .i64 x] w fun e w' => e = .returned (.tuple #[.int .i64 (bsQ l x), .bool (bsF l x)]) ∧ ∃ d, w' = w.drewN d := by
  obtain ⟨rq, hrq⟩ : ∃ r, r = bsQ l x := ⟨_, rfl⟩
  obtain ⟨rf, hrf⟩ : ∃ r, r = bsF l x := ⟨_, rfl⟩
  rw [← hrq, ← hrf]
  obtain ⟨a, cap, rfl, hc⟩ := h
  obtain ⟨n, hn⟩ : ∃ n, n = l.length := ⟨_, rfl⟩
  rw [← hn] at hc hl ⊢
  have HC := hid hc
  have HQ : Hid (∀ q, q ≤ n → (∀ t, t < q → l.getD t 0 < x) → (∀ t, q ≤ t → t < n → x ≤ l.getD t 0) → q = rq ∧ (decide (q < n) && decide (l.getD q 0 = x)) = rf) := hid (by
    intro q h1 h2 h3
    have e := bsQ_eq (by rw [← hn]; exact h1) h2 (by rw [← hn]; exact h3)
    rw [hrq, hrf]
    unfold bsF
    rw [e, ← hn]
    exact ⟨rfl, rfl⟩)
  have S : Hid (∀ i j, i ≤ j → j < n → l.getD i 0 ≤ l.getD j 0) := hid (by rw [hn]; exact hs)
  clear hc hn hs hrq hrf
  go_enter Try.func175, Try.ntmps175
  go_wp2
  go_loopg [7, 8] n (fun g s7 s8 wr => ∃ lo hi q : Nat, s7 = .int .i64 lo ∧ s8 = .int .i64 hi ∧ lo ≤ hi ∧ hi ≤ n ∧ hi - lo ≤ g ∧ wr = w.drewN q ∧ Hid ((∀ t, t < lo → l.getD t 0 < x) ∧ (∀ t, hi ≤ t → t < n → x ≤ l.getD t 0)))
  case atStart => exact ⟨0, n, 0, rfl, rfl, Nat.zero_le _, Nat.le_refl _, by omega, rfl, hid ⟨fun t ht => absurd ht (Nat.not_lt_zero _), fun t h1 h2 => by omega⟩⟩
  case round =>
    obtain ⟨lo, hi, q, rfl, rfl, hlh, hin, hg, rfl, I⟩ := hrel
    by_cases hlt : lo < hi
    · rcases HC.out with h0 | ⟨b, o, rfl, hcell⟩
      · omega
      · have cm : w.cell? ⟨b, o + (lo + hi) / 2, none⟩ = some (.int .i64 (l.getD ((lo + hi) / 2) 0)) := hcell _ (by omega)
        clear hcell
        generalize hy : l.getD ((lo + hi) / 2) 0 = y at cm
        have Y : Hid (l.getD ((lo + hi) / 2) 0 = y) := hid hy
        clear hy
        by_cases hyx : y < x
        · go_wp2_with (first | (go_at_call 191; refine (less_calls _ _ _).mono ?_; rintro e w' ⟨rfl, rfl⟩))
          go_roundg (hi - ((lo + hi) / 2 + 1))
          case measure => omega
          case rel =>
            refine ⟨(lo + hi) / 2 + 1, hi, _, by rw [show ((lo : Int) + (hi : Int)) / 2 + 1 = (((lo + hi) / 2 + 1 : Nat) : Int) by omega], rfl, by omega, hin, Nat.le_refl _, rfl, hid ⟨fun t ht => ?_, I.out.2⟩⟩
            have := S.out t ((lo + hi) / 2) (by omega) (by omega)
            rw [Y.out] at this
            omega
        · go_wp2_with (first | (go_at_call 191; refine (less_calls _ _ _).mono ?_; rintro e w' ⟨rfl, rfl⟩))
          go_roundg ((lo + hi) / 2 - lo)
          case measure => omega
          case rel =>
            refine ⟨lo, (lo + hi) / 2, _, rfl, by rw [show ((lo : Int) + (hi : Int)) / 2 = (((lo + hi) / 2 : Nat) : Int) by omega], by omega, by omega, Nat.le_refl _, rfl, hid ⟨I.out.1, fun t ht htn => ?_⟩⟩
            have := S.out ((lo + hi) / 2) t ht htn
            rw [Y.out] at this
            omega
    · have : hi = lo := by omega
      subst this
      obtain ⟨E1, E2⟩ := HQ.out hi hin I.out.1 I.out.2
      have HE1 := hid E1
      by_cases hn : hi < n
      · rcases HC.out with h0 | ⟨b, o, rfl, hcell⟩
        · omega
        · have cl : w.cell? ⟨b, o + hi, none⟩ = some (.int .i64 (l.getD hi 0)) := hcell _ (by omega)
          have HE2 : Hid (decide (l.getD hi 0 = x) = rf) := hid (by rw [← E2]; simp [hn])
          clear hcell E1 E2
          generalize l.getD hi 0 = y at *
          have dn : decide (hi < n) = true := by simp; omega
          by_cases hyx : y = x
          · go_wp2_with (first | (go_at_call 192; refine (sNaN_calls _ _).mono ?_; rintro e w' ⟨rfl, rfl⟩))
            go_ret2
            exact ⟨tup_ret HE1.out (by rw [← HE2.out]; simp [hyx]), _, rfl⟩
          · go_wp2_with (first | (go_at_call 192; refine (sNaN_calls _ _).mono ?_; rintro e w' ⟨rfl, rfl⟩))
            go_ret2
            exact ⟨tup_ret HE1.out (by rw [← HE2.out]; simp [hyx]), _, rfl⟩
      · have dn : decide (hi < n) = false := by simp; omega
        have HE2 : Hid (false = rf) := hid (by rw [← E2, dn]; rfl)
        clear E1 E2
        go_wp2_with (first | (go_at_call 192; refine (sNaN_calls _ _).mono ?_; rintro e w' ⟨rfl, rfl⟩))
        go_ret2
        exact ⟨tup_ret HE1.out HE2.out, _, rfl⟩

end Go.Proofs.Ytpdloenmplafiaa

/-
  impl's cursors: ended, value, next, seek.
-/
namespace Go.Proofs.Ytpdloenmplafiaa
open Go.RowKit Meet

structure Cur (w : World) (c o tb fb : Nat) (l : List Int) (p : Nat) : Prop where
  ptr : w.cell? ⟨c, o, none⟩ = some (.pointer (some ⟨tb, 0, none⟩))
  pl : w.cell? ⟨c, o + 1, none⟩ = some (.int .i64 p)
  fz : w.frozen? ⟨c, o + 1, none⟩ = false
  val : w.cell? ⟨tb, 0, none⟩ = some (.slice (some ⟨fb, 0, none⟩) l.length l.length)
  own : ∀ j, j < l.length → w.cell? ⟨fb, j, none⟩ = some (.int .i64 (l.getD j 0))

theorem Cur.drewN {w : World} {c o tb fb p : Nat} {l : List Int} (h : Cur w c o tb fb l p) (d : Nat) : Cur (w.drewN d) c o tb fb l p := ⟨h.ptr, h.pl, h.fz, h.val, h.own⟩

set_option maxHeartbeats 2000000 in
theorem ended_calls (w : World) (c o tb fb : Nat) (l : List Int) (p : Nat) (h : Cur w c o tb fb l p) :
    Calls Try.prog 157 #[.pointer (some ⟨c, o, none⟩)] w fun e w' => e = .returned (.bool (decide (p = l.length))) ∧ ∃ d, w' = w.drewN d := by
  have h1 := h.ptr
  have h2 := h.pl
  have h3 := h.val
  rw [← dec_len]
  generalize l.length = n at *
  clear h
  go_enter Try.func157, Try.ntmps157
  go_wp2_with fail
  go_quiet (fail)
  go_wp2
  go_ret
  exact ⟨ret_bool (by first | rfl | simp), _, rfl⟩

set_option maxHeartbeats 2000000 in
theorem value_calls (w : World) (c o tb fb : Nat) (l : List Int) (p : Nat) (h : Cur w c o tb fb l p) (hp : p < l.length) :
    Calls Try.prog 158 #[.pointer (some ⟨c, o, none⟩)] w fun e w' => e = .returned (.int .i64 (l.getD p 0)) ∧ ∃ d, w' = w.drewN d := by
  have h1 := h.ptr
  have h2 := h.pl
  have h3 := h.val
  have h4 := h.own p hp
  have i1 : (p : Int) < (l.length : Int) := by omega
  generalize l.getD p 0 = x at *
  generalize l.length = n at *
  clear h
  go_enter Try.func158, Try.ntmps158
  go_wp2_with fail
  go_quiet (fail)
  go_wp2
  go_ret
  exact ⟨rfl, _, rfl⟩

/-- the cells behind place p -/
theorem Cur.is_from {w : World} {c o tb fb p : Nat} {l : List Int} (h : Cur w c o tb fb l p) (hp : p < l.length) (cap : Nat) : IS w (.slice (some ⟨fb, p, none⟩) (l.length - p) cap) (l.drop p) := by
  refine ⟨_, cap, by rw [List.length_drop], Or.inr ⟨fb, p, rfl, fun j hj => ?_⟩⟩
  rw [List.length_drop] at hj
  rw [h.own (p + j) (by omega), List.getD_eq_getElem?_getD, List.getD_eq_getElem?_getD, List.getElem?_drop]

theorem up_drop {l : List Int} (h : Asc l) (p : Nat) : Up (l.drop p) := fun i j hij hj => by
  rw [List.length_drop] at hj
  have := up_of_asc h (p + i) (p + j) (by omega) (by omega)
  simpa only [List.getD_eq_getElem?_getD, List.getElem?_drop] using this

theorem seek_of {l : List Int} (h : Asc l) {p : Nat} (hp : p ≤ l.length) (g : Int) : Seek l p g (p + bsQ (l.drop p) g) := by
  obtain ⟨h1, h2, h3⟩ := bsQ_spec (up_drop h p) g
  rw [List.length_drop] at h1 h3
  refine ⟨by omega, by omega, fun j hj1 hj2 => ?_, fun hq => ?_⟩
  · have := h2 (j - p) (by omega)
    rw [List.getD_eq_getElem?_getD, List.getElem?_drop, show p + (j - p) = j by omega] at this
    rw [List.getD_eq_getElem?_getD]; exact this
  · have := h3 (bsQ (l.drop p) g) (Nat.le_refl _) (by omega)
    rw [List.getD_eq_getElem?_getD, List.getElem?_drop] at this
    rw [List.getD_eq_getElem?_getD]; exact this

set_option maxHeartbeats 2000000 in
set_option maxRecDepth 1000000 in
theorem seek_calls (w : World) (c o tb fb : Nat) (l : List Int) (p : Nat) (g : Int) (h : Cur w c o tb fb l p) (hl : l.length ≤ 1099511627776) (hp : p ≤ l.length) (ha : Asc l) :
    Calls Try.prog 156 #[.pointer (some ⟨c, o, none⟩), .int .i64 g] w fun e w' => (∃ v, e = .returned v) ∧ ∃ d, w' = (w.drewN d).setCell ⟨c, o + 1, none⟩ (.int .i64 (p + bsQ (l.drop p) g : Nat)) := by
  have h1 := h.ptr
  have h2 := h.pl
  have h3 := h.val
  have h4 := h.fz
  have hq := (bsQ_spec (up_drop ha p) g).1
  rw [List.length_drop] at hq
  by_cases hpl : p < l.length
  · have HK : Hid (∀ q cap, Calls Try.prog 175 #[.slice (some ⟨fb, p, none⟩) (l.length - p) cap, .int .i64 g] (w.drewN q) fun e w' => e = .returned (.tuple #[.int .i64 (bsQ (l.drop p) g), .bool (bsF (l.drop p) g)]) ∧ ∃ d, w' = (w.drewN q).drewN d) := hid (fun q cap =>
      bsearch_calls (w.drewN q) _ (l.drop p) g ((h.drewN q).is_from hpl cap) (by rw [List.length_drop]; omega) (up_drop ha p))
    have i1 : (p : Int) ≤ (l.length : Int) := by omega
    generalize bsQ (l.drop p) g = k at *
    generalize bsF (l.drop p) g = kf at *
    generalize l.length = n at *
    clear h ha
    go_enter Try.func156, Try.ntmps156
    go_wp2_with fail
    go_quiet ((go_at_call 175; exact Calls.quiet_of (HK.out _ _)))
    go_wp2
    go_end0
    exact ⟨⟨_, rfl⟩, _, by rw [Int.natCast_add]⟩
  · obtain rfl : p = l.length := by omega
    have e0 : l.drop l.length = [] := List.drop_length
    rw [e0] at hq ⊢
    have HK : Hid (∀ q a cap, Calls Try.prog 175 #[.slice a 0 cap, .int .i64 g] (w.drewN q) fun e w' => e = .returned (.tuple #[.int .i64 (bsQ [] g), .bool (bsF [] g)]) ∧ ∃ d, w' = (w.drewN q).drewN d) := hid (fun q a cap =>
      bsearch_calls (w.drewN q) _ [] g ⟨a, cap, rfl, Or.inl rfl⟩ (by simp) (fun i j _ hj => by simp at hj))
    have ek : bsQ [] g = 0 := rfl
    rw [ek] at HK ⊢
    generalize bsF [] g = kf at *
    generalize l.length = n at *
    clear h ha
    go_enter Try.func156, Try.ntmps156
    go_wp2_with fail
    go_quiet ((go_at_call 175; exact Calls.quiet_of (HK.out _ _ _)))
    go_wp2
    go_end0
    exact ⟨⟨_, rfl⟩, _, rfl⟩

end Go.Proofs.Ytpdloenmplafiaa

/-
  impl.meet.
-/
namespace Go.Proofs.Ytpdloenmplafiaa
open Go.RowKit Meet

theorem Og.drewN {g : Nat} {w w' : World} (h : Og g w w') (d : Nat) : Og g w (w'.drewN d) := ⟨h.os, h.tape, h.output, h.size, h.block⟩
theorem Og.trans {g : Nat} {w w1 w2 : World} (h : Og g w w1) (k : Og g w1 w2) : Og g w w2 := ⟨k.os.trans h.os, k.tape.trans h.tape, k.output.trans h.output, k.size.trans h.size, fun b hb => (k.block b hb).trans (h.block b hb)⟩

structure Curs (w : World) (c : Nat) (tb fb : Nat → Nat) (ls : List (List Int)) (p : Nat → Nat) : Prop where
  cur : ∀ i, i < ls.length → Cur w c (i * 2) (tb i) (fb i) (ls.getD i []) (p i)
  ne : ∀ i, i < ls.length → tb i ≠ c ∧ fb i ≠ c
  typ : ∃ cur, w.heap[c]? = some (.cells cur 191 (0, 0))
  ttyp : ∀ i, i < ls.length → ∃ cur, w.heap[tb i]? = some (.cells cur 157 (0, 0))

theorem Curs.drewN {w : World} {c : Nat} {tb fb : Nat → Nat} {ls : List (List Int)} {p : Nat → Nat} (h : Curs w c tb fb ls p) (d : Nat) : Curs (w.drewN d) c tb fb ls p :=
  ⟨fun i hi => (h.cur i hi).drewN d, h.ne, h.typ, h.ttyp⟩

theorem Curs.set {w : World} {c : Nat} {tb fb : Nat → Nat} {ls : List (List Int)} {p : Nat → Nat} (h : Curs w c tb fb ls p) (i : Nat) (q : Nat) : Curs (w.setCell ⟨c, i * 2 + 1, none⟩ (.int .i64 q)) c tb fb ls (upd p i q) where
  ne := h.ne
  typ := by
    obtain ⟨cur, hc⟩ := h.typ
    exact ⟨_, heap_setCell_same _ _ _ _ _ _ hc⟩
  ttyp k hk := by
    obtain ⟨cur, hc⟩ := h.ttyp k hk
    exact ⟨cur, (Below.heap_setCell _ _ _ _ (h.ne k hk).1).trans hc⟩
  cur k hk := by
    have hc := h.cur k hk
    obtain ⟨n1, n2⟩ := h.ne k hk
    refine ⟨?_, ?_, ?_, ?_, fun j hj => ?_⟩
    · exact (World.cell?_setCell_other _ _ _ _ (by intro e; simp only [Addr.mk.injEq] at e; omega)).trans hc.ptr
    · by_cases e : k = i
      · subst e
        rw [upd_same]
        exact World.cell?_setCell_same _ _ _ hc.pl
      · rw [upd_other _ _ _ _ e]
        exact (World.cell?_setCell_other _ _ _ _ (by intro e; simp only [Addr.mk.injEq] at e; omega)).trans hc.pl
    · rw [World.frozen?_setCell]; exact hc.fz
    · exact (World.cell?_setCell_other _ _ _ _ (by intro e; simp only [Addr.mk.injEq] at e; exact n1 e.1.symm)).trans hc.val
    · exact (World.cell?_setCell_other _ _ _ _ (by intro e; simp only [Addr.mk.injEq] at e; exact n2 e.1.symm)).trans (hc.own j hj)

end Go.Proofs.Ytpdloenmplafiaa
