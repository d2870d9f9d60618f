import Derived.Deep.Draws
import Derived.Deep.LoopGhost
import Derived.Lib.Walk
import Derived.Test.YtajelomllfcmiabCv04
import Derived.Test.YtajelomllfcmiabCv12
import Derived.Test.YtajelomllfcmiabCv13
/-
  slices.BinarySearch at []int; the cursors' methods.
-/
namespace Go.Proofs.Ytajelomllfcmiab
open Go.RowKit Meet

set_option maxHeartbeats 400000 in
theorem cNaN_calls (x : Int) (w : World) : Calls Try.prog 160 #[.int .i64 x] w fun e w' => e = .returned (.bool false) ∧ w' = w := by
  go_enter Try.func160, Try.ntmps160
  go_wp2
  go_ret
  exact ⟨by simp, rfl⟩

set_option maxHeartbeats 400000 in
theorem sNaN_calls (x : Int) (w : World) : Calls Try.prog 172 #[.int .i64 x] w fun e w' => e = .returned (.bool false) ∧ w' = w := by
  go_enter Try.func172, Try.ntmps172
  go_wp2
  go_ret
  exact ⟨by simp, rfl⟩

set_option maxHeartbeats 400000 in
theorem less_calls (x y : Int) (w : World) : Calls Try.prog 171 #[.int .i64 x, .int .i64 y] w fun e w' => e = .returned (.bool (decide (x < y))) ∧ w' = w := by
  go_enter Try.func171, Try.ntmps171
  go_wp2_with (first | (go_at_call 160; refine (cNaN_calls _ _).mono ?_; rintro e w' ⟨rfl, rfl⟩))
  go_ret
  exact ⟨rfl, rfl⟩

/-- the elements are ascending, one may be met twice -/
def Up (l : List Int) : Prop := ∀ i j, i ≤ j → j < l.length → l.getD i 0 ≤ l.getD j 0

theorem up_of_asc {l : List Int} (h : Asc l) : Up l := fun i j hij hj => by
  rcases Nat.lt_or_ge i j with h1 | h1
  · exact Int.le_of_lt (h i j h1 hj)
  · rw [show i = j by omega]; exact Int.le_refl _

def bsQ (l : List Int) (x : Int) : Nat := l.countP fun y => decide (y < x)
def bsF (l : List Int) (x : Int) : Bool := decide (bsQ l x < l.length) && decide (l.getD (bsQ l x) 0 = x)

theorem bsQ_eq {l : List Int} {x : Int} {q : Nat} (hq : q ≤ l.length) (h1 : ∀ j, j < q → l.getD j 0 < x) (h2 : ∀ j, q ≤ j → j < l.length → x ≤ l.getD j 0) : bsQ l x = q := by
  unfold bsQ
  conv => lhs; rw [← List.take_append_drop q l]
  rw [List.countP_append]
  have a : (l.take q).countP (fun y => decide (y < x)) = (l.take q).length := List.countP_eq_length.2 fun y hy => by
    obtain ⟨j, hj, e⟩ := List.getElem_of_mem hy
    rw [List.length_take] at hj
    have := h1 j (by omega)
    rw [List.getD_eq_getElem?_getD, List.getElem?_eq_getElem (by omega)] at this
    rw [List.getElem_take] at e
    simp only [Option.getD_some, e] at this
    exact decide_eq_true this
  have b : (l.drop q).countP (fun y => decide (y < x)) = 0 := List.countP_eq_zero.2 fun y hy => by
    obtain ⟨j, hj, e⟩ := List.getElem_of_mem hy
    rw [List.length_drop] at hj
    have := h2 (q + j) (by omega) (by omega)
    rw [List.getD_eq_getElem?_getD, List.getElem?_eq_getElem (by omega)] at this
    rw [List.getElem_drop] at e
    simp only [Option.getD_some, e] at this
    simp; omega
  rw [a, b, List.length_take]; omega

theorem bs_split {l : List Int} (hs : Up l) (x : Int) : ∃ q, q ≤ l.length ∧ (∀ j, j < q → l.getD j 0 < x) ∧ (∀ j, q ≤ j → j < l.length → x ≤ l.getD j 0) := by
  have key : ∀ d k, k + d = l.length → (∀ j, j < k → l.getD j 0 < x) → ∃ q, q ≤ l.length ∧ (∀ j, j < q → l.getD j 0 < x) ∧ (∀ j, q ≤ j → j < l.length → x ≤ l.getD j 0) := by
    intro d
    induction d with
    | zero => intro k hk h; exact ⟨k, by omega, h, fun j h1 h2 => by omega⟩
    | succ d ih =>
      intro k hk h
      by_cases hx : l.getD k 0 < x
      · exact ih (k + 1) (by omega) (fun j hj => by
          rcases Nat.lt_or_ge j k with h1 | h1
          · exact h j h1
          · rw [show j = k by omega]; exact hx)
      · exact ⟨k, by omega, h, fun j h1 h2 => by have := hs k j h1 h2; omega⟩
  exact key l.length 0 (by omega) (fun j hj => by omega)

theorem bsQ_spec {l : List Int} (hs : Up l) (x : Int) : bsQ l x ≤ l.length ∧ (∀ j, j < bsQ l x → l.getD j 0 < x) ∧ (∀ j, bsQ l x ≤ j → j < l.length → x ≤ l.getD j 0) := by
  obtain ⟨q, h1, h2, h3⟩ := bs_split hs x
  rw [bsQ_eq h1 h2 h3]
  exact ⟨h1, h2, h3⟩

theorem tup_ret {q : Nat} {a b : Bool} {k : Nat} (h : k = q) (h' : a = b) : Ending.returned (.tuple #[.int .i64 k, .bool a]) = .returned (.tuple #[.int .i64 q, .bool b]) := by rw [h, h']

set_option maxHeartbeats 4000000 in
set_option maxRecDepth 1000000 in
theorem bsearch_calls (w : World) (v : Value) (l : List Int) (x : Int) (h : IS w v l) (hl : l.length ≤ 1099511627776) (hs : Up l) :
    Calls Try.prog 156 #[v, .int .i64 x] w fun e w' => e = .returned (.tuple #[.int .i64 (bsQ l x), .bool (bsF l x)]) ∧ ∃ d, w' = w.drewN d := by
  obtain ⟨rq, hrq⟩ : ∃ r, r = bsQ l x := ⟨_, rfl⟩
  obtain ⟨rf, hrf⟩ : ∃ r, r = bsF l x := ⟨_, rfl⟩
  rw [← hrq, ← hrf]
  obtain ⟨a, cap, rfl, hc⟩ := h
  obtain ⟨n, hn⟩ : ∃ n, n = l.length := ⟨_, rfl⟩
  rw [← hn] at hc hl ⊢
  have HC := hid hc
  have HQ : Hid (∀ q, q ≤ n → (∀ t, t < q → l.getD t 0 < x) → (∀ t, q ≤ t → t < n → x ≤ l.getD t 0) → q = rq ∧ (decide (q < n) && decide (l.getD q 0 = x)) = rf) := hid (by
    intro q h1 h2 h3
    have e := bsQ_eq (by rw [← hn]; exact h1) h2 (by rw [← hn]; exact h3)
    rw [hrq, hrf]
    unfold bsF
    rw [e, ← hn]
    exact ⟨rfl, rfl⟩)
  have S : Hid (∀ i j, i ≤ j → j < n → l.getD i 0 ≤ l.getD j 0) := hid (by rw [hn]; exact hs)
  clear hc hn hs hrq hrf
  go_enter Try.func156, Try.ntmps156
  go_wp2
  go_loopg [7, 8] n (fun g s7 s8 wr => ∃ lo hi q : Nat, s7 = .int .i64 lo ∧ s8 = .int .i64 hi ∧ lo ≤ hi ∧ hi ≤ n ∧ hi - lo ≤ g ∧ wr = w.drewN q ∧ Hid ((∀ t, t < lo → l.getD t 0 < x) ∧ (∀ t, hi ≤ t → t < n → x ≤ l.getD t 0)))
  case atStart => exact ⟨0, n, 0, rfl, rfl, Nat.zero_le _, Nat.le_refl _, by omega, rfl, hid ⟨fun t ht => absurd ht (Nat.not_lt_zero _), fun t h1 h2 => by omega⟩⟩
  case round =>
    obtain ⟨lo, hi, q, rfl, rfl, hlh, hin, hg, rfl, I⟩ := hrel
    by_cases hlt : lo < hi
    · rcases HC.out with h0 | ⟨b, o, rfl, hcell⟩
      · omega
      · have cm : w.cell? ⟨b, o + (lo + hi) / 2, none⟩ = some (.int .i64 (l.getD ((lo + hi) / 2) 0)) := hcell _ (by omega)
        clear hcell
        generalize hy : l.getD ((lo + hi) / 2) 0 = y at cm
        have Y : Hid (l.getD ((lo + hi) / 2) 0 = y) := hid hy
        clear hy
        by_cases hyx : y < x
        · go_wp2_with (first | (go_at_call 171; refine (less_calls _ _ _).mono ?_; rintro e w' ⟨rfl, rfl⟩))
          go_roundg (hi - ((lo + hi) / 2 + 1))
          case measure => omega
          case rel =>
            refine ⟨(lo + hi) / 2 + 1, hi, _, by rw [show ((lo : Int) + (hi : Int)) / 2 + 1 = (((lo + hi) / 2 + 1 : Nat) : Int) by omega], rfl, by omega, hin, Nat.le_refl _, rfl, hid ⟨fun t ht => ?_, I.out.2⟩⟩
            have := S.out t ((lo + hi) / 2) (by omega) (by omega)
            rw [Y.out] at this
            omega
        · go_wp2_with (first | (go_at_call 171; refine (less_calls _ _ _).mono ?_; rintro e w' ⟨rfl, rfl⟩))
          go_roundg ((lo + hi) / 2 - lo)
          case measure => omega
          case rel =>
            refine ⟨lo, (lo + hi) / 2, _, rfl, by rw [show ((lo : Int) + (hi : Int)) / 2 = (((lo + hi) / 2 : Nat) : Int) by omega], by omega, by omega, Nat.le_refl _, rfl, hid ⟨I.out.1, fun t ht htn => ?_⟩⟩
            have := S.out ((lo + hi) / 2) t ht htn
            rw [Y.out] at this
            omega
    · have : hi = lo := by omega
      subst this
      obtain ⟨E1, E2⟩ := HQ.out hi hin I.out.1 I.out.2
      have HE1 := hid E1
      by_cases hn : hi < n
      · rcases HC.out with h0 | ⟨b, o, rfl, hcell⟩
        · omega
        · have cl : w.cell? ⟨b, o + hi, none⟩ = some (.int .i64 (l.getD hi 0)) := hcell _ (by omega)
          have HE2 : Hid (decide (l.getD hi 0 = x) = rf) := hid (by rw [← E2]; simp [hn])
          clear hcell E1 E2
          generalize l.getD hi 0 = y at *
          have dn : decide (hi < n) = true := by simp; omega
          by_cases hyx : y = x
          · go_wp2_with (first | (go_at_call 172; refine (sNaN_calls _ _).mono ?_; rintro e w' ⟨rfl, rfl⟩))
            go_ret2
            exact ⟨tup_ret HE1.out (by rw [← HE2.out]; simp [hyx]), _, rfl⟩
          · go_wp2_with (first | (go_at_call 172; refine (sNaN_calls _ _).mono ?_; rintro e w' ⟨rfl, rfl⟩))
            go_ret2
            exact ⟨tup_ret HE1.out (by rw [← HE2.out]; simp [hyx]), _, rfl⟩
      · have dn : decide (hi < n) = false := by simp; omega
        have HE2 : Hid (false = rf) := hid (by rw [← E2, dn]; rfl)
        clear E1 E2
        go_wp2_with (first | (go_at_call 172; refine (sNaN_calls _ _).mono ?_; rintro e w' ⟨rfl, rfl⟩))
        go_ret2
        exact ⟨tup_ret HE1.out HE2.out, _, rfl⟩

end Go.Proofs.Ytajelomllfcmiab

/-
  impl's cursors: ended, value, next, seek.
-/
namespace Go.Proofs.Ytajelomllfcmiab
open Go.RowKit Meet

structure Cur (w : World) (c o tb fb : Nat) (l : List Int) (p : Nat) : Prop where
  ptr : w.cell? ⟨c, o, none⟩ = some (.pointer (some ⟨tb, 0, none⟩))
  pl : w.cell? ⟨c, o + 1, none⟩ = some (.int .i64 p)
  fz : w.frozen? ⟨c, o + 1, none⟩ = false
  val : w.cell? ⟨tb, 0, none⟩ = some (.slice (some ⟨fb, 0, none⟩) l.length l.length)
  own : ∀ j, j < l.length → w.cell? ⟨fb, j, none⟩ = some (.int .i64 (l.getD j 0))

theorem Cur.drewN {w : World} {c o tb fb p : Nat} {l : List Int} (h : Cur w c o tb fb l p) (d : Nat) : Cur (w.drewN d) c o tb fb l p := ⟨h.ptr, h.pl, h.fz, h.val, h.own⟩

set_option maxHeartbeats 2000000 in
theorem ended_calls (w : World) (c o tb fb : Nat) (l : List Int) (p : Nat) (h : Cur w c o tb fb l p) :
    Calls Try.prog 137 #[.pointer (some ⟨c, o, none⟩)] w fun e w' => e = .returned (.bool (decide (p = l.length))) ∧ ∃ d, w' = w.drewN d := by
  have h1 := h.ptr
  have h2 := h.pl
  have h3 := h.val
  rw [← dec_len]
  generalize l.length = n at *
  clear h
  go_enter Try.func137, Try.ntmps137
  go_wp2_with fail
  go_quiet (fail)
  go_wp2
  go_ret
  exact ⟨ret_bool (by first | rfl | simp), _, rfl⟩

set_option maxHeartbeats 2000000 in
theorem value_calls (w : World) (c o tb fb : Nat) (l : List Int) (p : Nat) (h : Cur w c o tb fb l p) (hp : p < l.length) :
    Calls Try.prog 102 #[.pointer (some ⟨c, o, none⟩)] w fun e w' => e = .returned (.int .i64 (l.getD p 0)) ∧ ∃ d, w' = w.drewN d := by
  have h1 := h.ptr
  have h2 := h.pl
  have h3 := h.val
  have h4 := h.own p hp
  have i1 : (p : Int) < (l.length : Int) := by omega
  generalize l.getD p 0 = x at *
  generalize l.length = n at *
  clear h
  go_enter Try.func102, Try.ntmps102
  go_wp2_with fail
  go_quiet (fail)
  go_wp2
  go_ret
  exact ⟨rfl, _, rfl⟩

set_option maxHeartbeats 2000000 in
theorem next_calls (w : World) (c o tb fb : Nat) (l : List Int) (p : Nat) (h : Cur w c o tb fb l p) (hp : p ≤ 1099511627776) :
    Calls Try.prog 103 #[.pointer (some ⟨c, o, none⟩)] w fun e w' => (∃ v, e = .returned v) ∧ w' = w.setCell ⟨c, o + 1, none⟩ (.int .i64 (p + 1 : Nat)) := by
  have h2 := h.pl
  have h3 := h.fz
  clear h
  go_enter Try.func103, Try.ntmps103
  go_wp2
  go_end0
  exact ⟨⟨_, rfl⟩, by simp⟩

/-- the cells behind place p -/
theorem Cur.is_from {w : World} {c o tb fb p : Nat} {l : List Int} (h : Cur w c o tb fb l p) (hp : p < l.length) (cap : Nat) : IS w (.slice (some ⟨fb, p, none⟩) (l.length - p) cap) (l.drop p) := by
  refine ⟨_, cap, by rw [List.length_drop], Or.inr ⟨fb, p, rfl, fun j hj => ?_⟩⟩
  rw [List.length_drop] at hj
  rw [h.own (p + j) (by omega), List.getD_eq_getElem?_getD, List.getD_eq_getElem?_getD, List.getElem?_drop]

theorem up_drop {l : List Int} (h : Asc l) (p : Nat) : Up (l.drop p) := fun i j hij hj => by
  rw [List.length_drop] at hj
  have := up_of_asc h (p + i) (p + j) (by omega) (by omega)
  simpa only [List.getD_eq_getElem?_getD, List.getElem?_drop] using this

theorem seek_of {l : List Int} (h : Asc l) {p : Nat} (hp : p ≤ l.length) (g : Int) : Seek l p g (p + bsQ (l.drop p) g) := by
  obtain ⟨h1, h2, h3⟩ := bsQ_spec (up_drop h p) g
  rw [List.length_drop] at h1 h3
  refine ⟨by omega, by omega, fun j hj1 hj2 => ?_, fun hq => ?_⟩
  · have := h2 (j - p) (by omega)
    rw [List.getD_eq_getElem?_getD, List.getElem?_drop, show p + (j - p) = j by omega] at this
    rw [List.getD_eq_getElem?_getD]; exact this
  · have := h3 (bsQ (l.drop p) g) (Nat.le_refl _) (by omega)
    rw [List.getD_eq_getElem?_getD, List.getElem?_drop] at this
    rw [List.getD_eq_getElem?_getD]; exact this

set_option maxHeartbeats 2000000 in
set_option maxRecDepth 1000000 in
theorem seek_calls (w : World) (c o tb fb : Nat) (l : List Int) (p : Nat) (g : Int) (h : Cur w c o tb fb l p) (hl : l.length ≤ 1099511627776) (hp : p ≤ l.length) (ha : Asc l) :
    Calls Try.prog 136 #[.pointer (some ⟨c, o, none⟩), .int .i64 g] w fun e w' => (∃ v, e = .returned v) ∧ ∃ d, w' = (w.drewN d).setCell ⟨c, o + 1, none⟩ (.int .i64 (p + bsQ (l.drop p) g : Nat)) := by
  have h1 := h.ptr
  have h2 := h.pl
  have h3 := h.val
  have h4 := h.fz
  have hq := (bsQ_spec (up_drop ha p) g).1
  rw [List.length_drop] at hq
  by_cases hpl : p < l.length
  · have HK : Hid (∀ q cap, Calls Try.prog 156 #[.slice (some ⟨fb, p, none⟩) (l.length - p) cap, .int .i64 g] (w.drewN q) fun e w' => e = .returned (.tuple #[.int .i64 (bsQ (l.drop p) g), .bool (bsF (l.drop p) g)]) ∧ ∃ d, w' = (w.drewN q).drewN d) := hid (fun q cap =>
      bsearch_calls (w.drewN q) _ (l.drop p) g ((h.drewN q).is_from hpl cap) (by rw [List.length_drop]; omega) (up_drop ha p))
    have i1 : (p : Int) ≤ (l.length : Int) := by omega
    generalize bsQ (l.drop p) g = k at *
    generalize bsF (l.drop p) g = kf at *
    generalize l.length = n at *
    clear h ha
    go_enter Try.func136, Try.ntmps136
    go_wp2_with fail
    go_quiet ((go_at_call 156; exact Calls.quiet_of (HK.out _ _)))
    go_wp2
    go_end0
    exact ⟨⟨_, rfl⟩, _, by rw [Int.natCast_add]⟩
  · obtain rfl : p = l.length := by omega
    have e0 : l.drop l.length = [] := List.drop_length
    rw [e0] at hq ⊢
    have HK : Hid (∀ q a cap, Calls Try.prog 156 #[.slice a 0 cap, .int .i64 g] (w.drewN q) fun e w' => e = .returned (.tuple #[.int .i64 (bsQ [] g), .bool (bsF [] g)]) ∧ ∃ d, w' = (w.drewN q).drewN d) := hid (fun q a cap =>
      bsearch_calls (w.drewN q) _ [] g ⟨a, cap, rfl, Or.inl rfl⟩ (by simp) (fun i j _ hj => by simp at hj))
    have ek : bsQ [] g = 0 := rfl
    rw [ek] at HK ⊢
    generalize bsF [] g = kf at *
    generalize l.length = n at *
    clear h ha
    go_enter Try.func136, Try.ntmps136
    go_wp2_with fail
    go_quiet ((go_at_call 156; exact Calls.quiet_of (HK.out _ _ _)))
    go_wp2
    go_end0
    exact ⟨⟨_, rfl⟩, _, rfl⟩

end Go.Proofs.Ytajelomllfcmiab

/-
  impl.meet.
-/
namespace Go.Proofs.Ytajelomllfcmiab
open Go.RowKit Meet

theorem Og.drewN {g : Nat} {w w' : World} (h : Og g w w') (d : Nat) : Og g w (w'.drewN d) := ⟨h.os, h.tape, h.output, h.size, h.block⟩
theorem Og.trans {g : Nat} {w w1 w2 : World} (h : Og g w w1) (k : Og g w1 w2) : Og g w w2 := ⟨k.os.trans h.os, k.tape.trans h.tape, k.output.trans h.output, k.size.trans h.size, fun b hb => (k.block b hb).trans (h.block b hb)⟩

structure Curs (w : World) (c : Nat) (tb fb : Nat → Nat) (ls : List (List Int)) (p : Nat → Nat) : Prop where
  cur : ∀ i, i < ls.length → Cur w c (i * 2) (tb i) (fb i) (ls.getD i []) (p i)
  ne : ∀ i, i < ls.length → tb i ≠ c ∧ fb i ≠ c
  typ : ∃ cur, w.heap[c]? = some (.cells cur 119 (0, 0))
  ttyp : ∀ i, i < ls.length → ∃ cur, w.heap[tb i]? = some (.cells cur 117 (0, 0))

theorem Curs.drewN {w : World} {c : Nat} {tb fb : Nat → Nat} {ls : List (List Int)} {p : Nat → Nat} (h : Curs w c tb fb ls p) (d : Nat) : Curs (w.drewN d) c tb fb ls p :=
  ⟨fun i hi => (h.cur i hi).drewN d, h.ne, h.typ, h.ttyp⟩

theorem Curs.set {w : World} {c : Nat} {tb fb : Nat → Nat} {ls : List (List Int)} {p : Nat → Nat} (h : Curs w c tb fb ls p) (i : Nat) (q : Nat) : Curs (w.setCell ⟨c, i * 2 + 1, none⟩ (.int .i64 q)) c tb fb ls (upd p i q) where
  ne := h.ne
  typ := by
    obtain ⟨cur, hc⟩ := h.typ
    exact ⟨_, heap_setCell_same _ _ _ _ _ _ hc⟩
  ttyp k hk := by
    obtain ⟨cur, hc⟩ := h.ttyp k hk
    exact ⟨cur, (Below.heap_setCell _ _ _ _ (h.ne k hk).1).trans hc⟩
  cur k hk := by
    have hc := h.cur k hk
    obtain ⟨n1, n2⟩ := h.ne k hk
    refine ⟨?_, ?_, ?_, ?_, fun j hj => ?_⟩
    · exact (World.cell?_setCell_other _ _ _ _ (by intro e; simp only [Addr.mk.injEq] at e; omega)).trans hc.ptr
    · by_cases e : k = i
      · subst e
        rw [upd_same]
        exact World.cell?_setCell_same _ _ _ hc.pl
      · rw [upd_other _ _ _ _ e]
        exact (World.cell?_setCell_other _ _ _ _ (by intro e; simp only [Addr.mk.injEq] at e; omega)).trans hc.pl
    · rw [World.frozen?_setCell]; exact hc.fz
    · exact (World.cell?_setCell_other _ _ _ _ (by intro e; simp only [Addr.mk.injEq] at e; exact n1 e.1.symm)).trans hc.val
    · exact (World.cell?_setCell_other _ _ _ _ (by intro e; simp only [Addr.mk.injEq] at e; exact n2 e.1.symm)).trans (hc.own j hj)

set_option maxHeartbeats 4000000 in
set_option maxRecDepth 1000000 in
theorem meet_calls (w : World) (c cap : Nat) (tb fb : Nat → Nat) (ls : List (List Int)) (p0 : Nat → Nat) (h : Curs w c tb fb ls p0) (hn0 : 0 < ls.length) (hn1 : ls.length ≤ 100) (hl : ∀ k, (ls.getD k []).length ≤ 1099511627776)
    (ha : ∀ k, k < ls.length → Asc (ls.getD k [])) (hp : ∀ k, k < ls.length → p0 k ≤ (ls.getD k []).length) (hm : ∀ k j, -9223372036854775808 ≤ (ls.getD k []).getD j 0) :
    Calls Try.prog 101 #[.slice (some ⟨c, 0, none⟩) ls.length cap] w fun e w' => Og c w w' ∧ ((e = .returned (.bool false) ∧ ∀ y, ¬ Live ls p0 y) ∨ (e = .returned (.bool true) ∧ ∃ p goal i, Inv ls p0 goal ls.length i p ∧ Curs w' c tb fb ls p)) := by
  obtain ⟨n, hn⟩ : ∃ n, n = ls.length := ⟨_, rfl⟩
  have H0 := hid (Inv.start hn0 hp hm)
  have HC := hid h
  have HA := hid ha
  have HL := hid hl
  have HN := hid hn
  rw [← hn] at hn0 hn1 ⊢
  clear h ha hl hp hm hn
  go_enter Try.func101, Try.ntmps101
  go_wp2
  go_loopw [3, 4, 5] (fun g s t wr => ∃ (goal : Int) (st i : Nat), g = .int .i64 goal ∧ s = .int .i64 st ∧ t = .int .i64 i ∧ st ≤ n ∧ i < n ∧ Hid (∃ p, Inv ls p0 goal st i p ∧ Curs wr c tb fb ls p ∧ Og c w wr)) (fun g s _ _ => above ls (intOf g) * (n + 1) + (n - (intOf s).toNat))
  case atStart => exact ⟨_, 0, 0, rfl, rfl, rfl, Nat.zero_le _, hn0, hid ⟨p0, H0.out, HC.out, Og.refl _ _⟩⟩
  case round =>
    obtain ⟨goal, st, i, rfl, rfl, rfl, hst, hi, hH⟩ := hrel
    clear H0 HC
    by_cases hsn : st < n
    · have i1 : (st : Int) < (n : Int) := by omega
      have i2 : (i : Int) < (n : Int) := by omega
      obtain ⟨p, hI, hC, hO⟩ := hH.out
      have hil : i < ls.length := by rw [← HN.out]; exact hi
      have hcur := hC.cur i hil
      have hasc := HA.out i hil
      have hple := (hI.le i hil).2
      have hsk := seek_of hasc hple goal
      have K1 := hid (seek_calls wr c (i * 2) (tb i) (fb i) (ls.getD i []) (p i) goal hcur (HL.out i) hple hasc)
      have HS1 : Hid (∀ d, Curs ((wr.drewN d).setCell ⟨c, i * 2 + 1, none⟩ (.int .i64 (p i + bsQ ((ls.getD i []).drop (p i)) goal : Nat))) c tb fb ls (upd p i (p i + bsQ ((ls.getD i []).drop (p i)) goal))) := hid (fun d => (hC.drewN d).set i _)
      have HS2 : Hid (∀ d v, Og c w ((wr.drewN d).setCell ⟨c, i * 2 + 1, none⟩ v)) := hid (fun d v => (hO.drewN d).set _ _)
      have HI := hid hI
      clear hH hI hC hO hcur hple
      generalize p i + bsQ ((ls.getD i []).drop (p i)) goal = q at *
      go_wp2_with fail
      refine K1.out.mono ?_
      rintro e w1 ⟨⟨v1, rfl⟩, d1, hw1⟩
      have HC1 : Hid (Curs w1 c tb fb ls (upd p i q)) := hid (by rw [hw1]; exact HS1.out d1)
      have HO1 : Hid (Og c w w1) := hid (by rw [hw1]; exact HS2.out d1 _)
      have K2 := hid (ended_calls w1 c (i * 2) (tb i) (fb i) (ls.getD i []) (upd p i q i) (HC1.out.cur i hil))
      rw [upd_same] at K2
      clear hw1 HS1 HS2 K1
      by_cases hq : q = (ls.getD i []).length
      · rw [decide_eq_true hq] at K2
        have HF := hid (HI.out.none hsk hq)
        clear hsk hasc hq
        go_wp2_with fail
        refine K2.out.mono ?_
        rintro e w2 ⟨rfl, d2, hw2⟩
        have HO2 : Hid (Og c w w2) := hid (by rw [hw2]; exact HO1.out.drewN _)
        clear hw2
        go_wp2
        go_ret
        exact ⟨HO2.out, Or.inl ⟨rfl, HF.out⟩⟩
      · rw [decide_eq_false hq] at K2
        have hql : q < (ls.getD i []).length := by have := hsk.2.1; omega
        go_wp2_with fail
        refine K2.out.mono ?_
        rintro e w2 ⟨rfl, d2, hw2⟩
        have HO2 : Hid (Og c w w2) := hid (by rw [hw2]; exact HO1.out.drewN _)
        have HC2 : Hid (Curs w2 c tb fb ls (upd p i q)) := hid (by rw [hw2]; exact HC1.out.drewN _)
        have K3 : Hid (∀ d, Calls Try.prog 102 #[.pointer (some ⟨c, i * 2, none⟩)] (w2.drewN d) fun e w' => e = .returned (.int .i64 ((ls.getD i []).getD q 0)) ∧ ∃ d', w' = (w2.drewN d).drewN d') := hid (fun d => by
          have := value_calls (w2.drewN d) c (i * 2) (tb i) (fb i) (ls.getD i []) (upd p i q i) ((HC2.out.cur i hil).drewN d) (by rw [upd_same]; exact hql)
          rwa [upd_same] at this)
        clear hw2 HO1 HC1 K2 hq
        by_cases hv : (ls.getD i []).getD q 0 = goal
        · have HF := hid (HI.out.same (by rw [← HN.out]; exact hsn) hsk hql hv)
          rw [← HN.out] at HF
          rw [hv] at K3
          have hne : (goal != goal) = false := by simp
          clear hsk hasc hql hv HI
          go_wp2_with fail
          refine (K3.out 0).mono ?_
          rintro e w3 ⟨rfl, d3, hw3⟩
          have HO3 : Hid (Og c w w3) := hid (by rw [hw3]; exact (HO2.out.drewN _).drewN _)
          have HC3 : Hid (Curs w3 c tb fb ls (upd p i q)) := hid (by rw [hw3]; exact (HC2.out.drewN _).drewN _)
          clear hw3 HO2 HC2 K3
          go_wp2
          go_roundw
          case rel => exact ⟨goal, st + 1, (i + 1) % n, rfl, by go_num, by go_num, by omega, Nat.mod_lt _ hn0, hid ⟨_, HF.out, HC3.out, HO3.out⟩⟩
          case measure => simp [intOf]; omega
        · have HF := hid (HI.out.more hasc hsk hql)
          rw [← HN.out] at HF
          have hgt : goal < (ls.getD i []).getD q 0 := by have := hsk.2.2.2 hql; omega
          have hab := above_lt hgt hil (at_mem hql)
          generalize (ls.getD i []).getD q 0 = x at *
          have hne : (x != goal) = true := by simp; omega
          clear hsk hasc hql HI
          go_wp2_with fail
          refine (K3.out 0).mono ?_
          rintro e w3 ⟨rfl, d3, hw3⟩
          subst hw3
          go_wp2_with fail
          refine (K3.out _).mono ?_
          rintro e w4 ⟨rfl, d4, hw4⟩
          have HO3 : Hid (Og c w w4) := hid (by rw [hw4]; exact (HO2.out.drewN _).drewN _)
          have HC3 : Hid (Curs w4 c tb fb ls (upd p i q)) := hid (by rw [hw4]; exact (HC2.out.drewN _).drewN _)
          clear hw4 HO2 HC2 K3
          go_wp2
          go_roundw
          case rel => exact ⟨x, 1, (i + 1) % n, rfl, by go_num, by go_num, by omega, Nat.mod_lt _ hn0, hid ⟨_, HF.out, HC3.out, HO3.out⟩⟩
          case measure =>
            simp [intOf]
            have : (above ls x + 1) * (n + 1) ≤ above ls goal * (n + 1) := Nat.mul_le_mul_right _ hab
            rw [Nat.add_mul] at this
            omega
    · obtain rfl : st = n := by omega
      have i1 : ¬ ((st : Int) < (st : Int)) := by omega
      obtain ⟨p, hI, hC, hO⟩ := hH.out
      have HF := hid hI
      have HC1 := hid hC
      have HO1 := hid hO
      clear hH hI hC hO
      go_wp2
      go_ret
      first | exact ⟨HO1.out, Or.inr ⟨rfl, p, ⟨goal, i, HF.out⟩, HC1.out⟩⟩ | exact ⟨HO1.out, Or.inr ⟨rfl, p, goal, i, HF.out, HC1.out⟩⟩

end Go.Proofs.Ytajelomllfcmiab

/-
  impl.areAscending.
-/
namespace Go.Proofs.Ytajelomllfcmiab
open Go.RowKit Meet

set_option maxHeartbeats 4000000 in
set_option maxRecDepth 1000000 in
theorem areAsc_calls (w : World) (ve : Value) (ls : List (List Int)) (h : ISS w ve ls) (hl : Short ls) :
    Calls Try.prog 100 #[ve] w fun e w' => e = .returned (.bool (ls.all ascB)) ∧ ∃ d, w' = w.drewN d := by
  obtain ⟨a, cap, rfl, hc⟩ := h
  obtain ⟨hl1, hl2⟩ := hl
  obtain ⟨n, hn⟩ : ∃ n, n = ls.length := ⟨_, rfl⟩
  obtain ⟨res, hres⟩ : ∃ r, r = ls.all ascB := ⟨_, rfl⟩
  rw [← hres]
  rw [← hn] at hc hl1 ⊢
  have HR := hid hres
  have HC := hid hc
  have HN := hid hn
  have HL := hid hl2
  clear hc hn hl2 hres
  go_enter Try.func100, Try.ntmps100
  go_wp2
  go_loopw [8] (fun t wr => ∃ j : Nat, j ≤ n ∧ t = .int .i64 j ∧ Hid (∃ m, wr = w.drewN m) ∧ Hid (∀ i, i < j → ascB (ls.getD i []) = true)) (fun t _ => n - (intOf t).toNat)
  case atStart => exact ⟨0, Nat.zero_le _, rfl, hid ⟨0, rfl⟩, hid (fun i hi => by omega)⟩
  case round =>
    obtain ⟨j, hj, rfl, hB, hok⟩ := hrel
    by_cases hjn : j < n
    · have i1 : (j : Int) < (n : Int) := by omega
      rcases HC.out with h0 | ⟨b, o, rfl, hcell⟩
      · omega
      · obtain ⟨u, d1, hu⟩ := hcell j hjn
        have c1 : wr.cell? ⟨b, o + j, none⟩ = some u := by obtain ⟨m, rfl⟩ := hB.out; exact d1
        have hml := HL.out j
        obtain ⟨a1, cap1, rfl, hu2⟩ := hu
        have HU := hid hu2
        have fin : ∀ i, i < (ls.getD j []).length → ascAt (ls.getD j []) i = false → Hid (res = false) := fun i hi e => HR.out.trans (all_getD_false ascB [] ls j (by rw [← HN.out]; exact hjn) (ascB_false hi e))
        have nxt : (∀ k, k < (ls.getD j []).length → ascAt (ls.getD j []) k = true) → Hid (∀ i, i < j + 1 → ascB (ls.getD i []) = true) := fun e i hi => by
          by_cases e2 : i = j
          · rw [e2]; exact ascB_true e
          · exact hok.out i (by omega)
        have HF := hid fin
        have HX := hid nxt
        clear hcell hok d1 hu2 fin nxt
        generalize ls.getD j [] = l at *
        obtain ⟨m, hm⟩ : ∃ m, m = l.length := ⟨_, rfl⟩
        rw [← hm] at c1 hml HU HF HX
        clear hm
        go_wp2
        go_loopw [5] (fun t wi => ∃ i : Nat, 1 ≤ i ∧ i ≤ m + 1 ∧ t = .int .i64 i ∧ Hid (∃ m, wi = w.drewN m) ∧ Hid (∀ k, k < i → k < m → ascAt l k = true)) (fun t _ => m - (intOf t).toNat)
        case atStart => exact ⟨1, Nat.le_refl _, by omega, rfl, hB, hid (fun k hk _ => by rw [show k = 0 by omega]; rfl)⟩
        case round =>
          obtain ⟨i, hi1, hi2, rfl, hBi, hoki⟩ := hrel
          by_cases him : i < m
          · have j1 : (i : Int) < (m : Int) := by omega
            rcases HU.out with h0 | ⟨b', o', rfl, hcl⟩
            · omega
            · have c2 : wr.cell? ⟨b', o' + i, none⟩ = some (.int .i64 (l.getD i 0)) := by obtain ⟨q, rfl⟩ := hBi.out; exact hcl i him
              have c3 : wr.cell? ⟨b', o' + (i - 1), none⟩ = some (.int .i64 (l.getD (i - 1) 0)) := by obtain ⟨q, rfl⟩ := hBi.out; exact hcl (i - 1) (by omega)
              have i4 : ((i : Int) - 1).toNat = i - 1 := by omega
              have hat : ascAt l i = decide (l.getD (i - 1) 0 < l.getD i 0) := by unfold ascAt; rw [decide_eq_false (by omega), Bool.false_or]
              clear hcl
              by_cases hx : l.getD (i - 1) 0 < l.getD i 0
              · rw [decide_eq_true hx] at hat
                have hnx : Hid (∀ k, k < i + 1 → k < m → ascAt l k = true) := hid (fun k hk hkm => by
                  by_cases e2 : k = i
                  · rw [e2]; exact hat
                  · exact hoki.out k (by omega) hkm)
                clear hat
                generalize l.getD i 0 = y at *
                generalize l.getD (i - 1) 0 = x at *
                have d1 : ¬ (y ≤ x) := by omega
                go_wp2_with fail
                go_quiet (fail)
                go_wp2
                go_roundw
                case rel => exact ⟨i + 1, by omega, by omega, by go_num, hid (drewN_step _ hBi.out), hnx⟩
                case measure => simp [intOf]; omega
              · rw [decide_eq_false hx] at hat
                have hf := HF.out i him hat
                clear hat
                generalize l.getD i 0 = y at *
                generalize l.getD (i - 1) 0 = x at *
                have d1 : y ≤ x := by omega
                go_wp2_with fail
                go_quiet (fail)
                go_wp2
                go_ret
                exact ⟨ret_bool (by rw [hf.out]), drewN_step _ hBi.out⟩
          · have j1 : ¬ ((i : Int) < (m : Int)) := by omega
            have hnx := HX.out (fun k hk => hoki.out k (by omega) hk)
            go_wp2
            go_roundw
            case rel => exact ⟨j + 1, by omega, by go_num, hBi, hnx⟩
            case measure => simp [intOf]; omega
    · obtain rfl : j = n := by omega
      have i1 : ¬ ((j : Int) < (j : Int)) := by omega
      have hf : Hid (res = true) := HR.out.trans (all_getD ascB [] ls (fun i hi => hok.out i (by rw [HN.out]; exact hi)))
      clear hok
      go_wp2
      go_ret
      exact ⟨ret_bool (by rw [hf.out]), hB.out⟩

end Go.Proofs.Ytajelomllfcmiab

/-
  impl.Intersect.
-/
namespace Go.Proofs.Ytajelomllfcmiab
open Go.RowKit Meet

theorem Try.infoCur : (Try.prog.info? 119).map (fun i => (i.zero, i.size, i.bytes)) = some (some (.agg #[.pointer none, .int .i64 0]), 2, 16) := by kernel_rfl

theorem own_og {w w' : World} {B c n s : Nat} {e e' : TypeId} {v : Value} {xs : List Value} (h : w.ownsRow B e s v n xs) (ho : Og c w w') (ht : ∃ cur, w.heap[c]? = some (.cells cur e' (0, 0))) (hne : e ≠ e') : w'.ownsRow B e s v n xs := by
  obtain ⟨h1, h2⟩ := h
  refine ⟨h1, ?_⟩
  rcases h2 with h2 | ⟨g, cap, cur, hv, hg, hc, hr⟩
  · exact Or.inl h2
  · refine Or.inr ⟨g, cap, cur, hv, hg, ?_, hr⟩
    rw [ho.block g (fun e => by
      obtain ⟨cur', hc'⟩ := ht
      rw [e, hc'] at hc
      simp only [Option.some.injEq, Obj.cells.injEq] at hc
      exact hne hc.2.1.symm)]
    exact hc

/-- a row's own block is none whose cells are of another type -/
theorem own_ne {w : World} {B b n s : Nat} {e e' : TypeId} {v : Value} {xs : List Value} (h : w.ownsRow B e s v n xs) (ht : ∃ cur, w.heap[b]? = some (.cells cur e' (0, 0))) (hne : e ≠ e') : some b ≠ v.ownBlock := by
  intro hb
  obtain ⟨h1, h2⟩ := h
  rcases h2 with ⟨rfl, _⟩ | ⟨g, cap, cur, rfl, hg, hc, hr⟩
  · simp [Value.ownBlock] at hb
  · simp only [Value.ownBlock, Option.some.injEq] at hb
    subst hb
    obtain ⟨cur', hc'⟩ := ht
    rw [hc'] at hc
    simp only [Option.some.injEq, Obj.cells.injEq] at hc
    exact hne hc.2.1.symm

theorem Curs.move {w w' : World} {c : Nat} {tb fb : Nat → Nat} {ls : List (List Int)} {p : Nat → Nat} (h : Curs w c tb fb ls p) (h1 : w'.heap[c]? = w.heap[c]?) (h2 : ∀ i, i < ls.length → w'.heap[tb i]? = w.heap[tb i]?) (h3 : ∀ i, i < ls.length → w'.heap[fb i]? = w.heap[fb i]?) : Curs w' c tb fb ls p where
  ne := h.ne
  typ := by rw [h1]; exact h.typ
  ttyp i hi := by rw [h2 i hi]; exact h.ttyp i hi
  cur i hi := ⟨(World.cell?_of_block (w := w) (a := ⟨c, i * 2, none⟩) h1).trans (h.cur i hi).ptr, (World.cell?_of_block (w := w) (a := ⟨c, i * 2 + 1, none⟩) h1).trans (h.cur i hi).pl, (World.frozen?_of_block (w := w) (a := ⟨c, i * 2 + 1, none⟩) h1).trans (h.cur i hi).fz,
    (World.cell?_of_block (w := w) (a := ⟨tb i, 0, none⟩) (h2 i hi)).trans (h.cur i hi).val, fun j hj => (World.cell?_of_block (w := w) (a := ⟨fb i, j, none⟩) (h3 i hi)).trans ((h.cur i hi).own j hj)⟩

theorem lt_of_typ {w : World} {b : Nat} {e : TypeId} (h : ∃ cur, w.heap[b]? = some (.cells cur e (0, 0))) : b < w.heap.size := by
  obtain ⟨cur, h⟩ := h
  rcases Nat.lt_or_ge b w.heap.size with h3 | h3
  · exact h3
  · rw [Array.getElem?_eq_none h3] at h; cases h

theorem Curs.below {w w' : World} {c : Nat} {tb fb : Nat → Nat} {ls : List (List Int)} {p : Nat → Nat} (h : Curs w c tb fb ls p) (hf : ∀ i, i < ls.length → fb i < w.heap.size) (hb : Below w.heap.size w w') : Curs w' c tb fb ls p :=
  h.move (hb.block c (lt_of_typ h.typ)) (fun i hi => hb.block _ (lt_of_typ (h.ttyp i hi))) (fun i hi => hb.block _ (hf i hi))

def ccells (tb : Nat → Nat) (k : Nat) : List Value := (List.range k).flatMap fun i => [.pointer (some ⟨tb i, 0, none⟩), .int .i64 0]
theorem ccells_succ (tb : Nat → Nat) (k : Nat) : ccells tb (k + 1) = ccells tb k ++ [.pointer (some ⟨tb k, 0, none⟩), .int .i64 0] := by
  simp [ccells, List.range_succ]
theorem ccells_congr {tb tb' : Nat → Nat} {k : Nat} (h : ∀ i, i < k → tb i = tb' i) : ccells tb k = ccells tb' k := by
  induction k with
  | zero => rfl
  | succ k ih => rw [ccells_succ, ccells_succ, ih (fun i hi => h i (by omega)), h k (by omega)]
theorem ccells_len (tb : Nat → Nat) (k : Nat) : (ccells tb k).length = k * 2 := by
  induction k with
  | zero => rfl
  | succ k ih => rw [ccells_succ, List.length_append, ih]; simp; omega
theorem ccells_get (tb : Nat → Nat) (k i : Nat) (h : i < k) : (ccells tb k)[i * 2]? = some (.pointer (some ⟨tb i, 0, none⟩)) ∧ (ccells tb k)[i * 2 + 1]? = some (.int .i64 0) := by
  induction k with
  | zero => omega
  | succ k ih =>
    rw [ccells_succ]
    by_cases e : i = k
    · subst e
      rw [List.getElem?_append_right (by rw [ccells_len]; omega), List.getElem?_append_right (by rw [ccells_len]; omega), ccells_len]
      simp
    · rw [List.getElem?_append_left (by rw [ccells_len]; omega), List.getElem?_append_left (by rw [ccells_len]; omega)]
      exact ih (by omega)

/-- the first k cursors have been laid -/
structure Laid (W : World) (B : Nat) (v : Value) (k : Nat) (f : Nat → Nat) (ls : List (List Int)) (tb : Nat → Nat) : Prop where
  own : W.ownsRow B 119 2 v k (ccells tb k)
  trie : ∀ i, i < k → W.heap[tb i]? = some (.cells #[.slice (some ⟨f i, 0, none⟩) (ls.getD i []).length (ls.getD i []).length, .slice none 0 0] 117 (0, 0))

end Go.Proofs.Ytajelomllfcmiab

/-
  impl.Intersect, walked.
-/
namespace Go.Proofs.Ytajelomllfcmiab
open Go.RowKit Meet

theorem own_grown {w w' : World} {B n s : Nat} {e : TypeId} {v : Value} {xs : List Value} {row : Option Nat} (h : w.ownsRow B e s v n xs) (hg : w.grownBy w' row) (hne : ∀ k, v.ownBlock = some k → some k ≠ row) : w'.ownsRow B e s v n xs := by
  have hlt := h.lt
  obtain ⟨h1, h2⟩ := h
  refine ⟨h1, ?_⟩
  rcases h2 with h2 | ⟨g, cap, cur, rfl, hb, hc, hr⟩
  · exact Or.inl h2
  · exact Or.inr ⟨g, cap, cur, rfl, hb, (hg.block g (hlt g rfl).2 (hne g rfl)).trans hc, hr⟩

theorem own_drewN {w : World} {B n s : Nat} {e : TypeId} {v : Value} {xs : List Value} (h : w.ownsRow B e s v n xs) (d : Nat) : (w.drewN d).ownsRow B e s v n xs := h

theorem Laid.step {W W1 : World} {B k : Nat} {v v' : Value} {f tb : Nat → Nat} {ls : List (List Int)} {o2 : Obj} (h : Laid W B v k f ls tb)
    (hown' : W1.ownsRow B 119 2 v' (k + 1) (ccells tb k ++ [.pointer (some ⟨W.heap.size, 0, none⟩), .int .i64 0]))
    (hgrow : ((W.alloc (.cells #[.slice (some ⟨f k, 0, none⟩) (ls.getD k []).length (ls.getD k []).length, .slice none 0 0] 117)).alloc o2).grownBy W1 v.ownBlock) : ∃ tb', Laid W1 B v' (k + 1) f ls tb' := by
  have hsz : ∀ (X : World) (o : Obj), (X.alloc o).heap.size = X.heap.size + 1 := fun X o => by simp
  refine ⟨fun i => if i = k then W.heap.size else tb i, ?_, fun i hi => ?_⟩
  · rw [ccells_succ, if_pos rfl, ccells_congr (tb' := tb) (fun i hi => if_neg (by omega))]
    exact hown'
  · by_cases e : i = k
    · subst e
      rw [if_pos rfl, hgrow.block W.heap.size (by rw [hsz, hsz]; omega) (fun hb => by have := (h.own.lt _ hb.symm).2; omega)]
      rw [Below.heap_alloc _ _ _ (by rw [hsz]; omega)]
      exact heap_alloc_new _ _
    · rw [if_neg e]
      have h1 := h.trie i (by omega)
      have hlt := lt_of_typ ⟨_, h1⟩
      rw [hgrow.block (tb i) (by rw [hsz, hsz]; omega) (own_ne h.own ⟨_, h1⟩ (by decide)), Below.heap_alloc _ _ _ (by rw [hsz]; omega), Below.heap_alloc _ _ _ (by omega)]
      exact h1

theorem Laid.shape {W : World} {B k : Nat} {v : Value} {f tb : Nat → Nat} {ls : List (List Int)} (h : Laid W B v k f ls tb) (hk : k ≠ 0) : ∃ c cap, B ≤ c ∧ v = .slice (some ⟨c, 0, none⟩) k cap := by
  rcases h.own.2 with ⟨h', h2⟩ | ⟨g', cap', cur, h', hb', hg, _⟩
  · exact absurd h2 hk
  · exact ⟨g', cap', hb', h'⟩

theorem Laid.curs {W : World} {B c n cap : Nat} {f tb : Nat → Nat} {ls : List (List Int)} (h : Laid W B (.slice (some ⟨c, 0, none⟩) n cap) n f ls tb) (hn : n = ls.length) (hB : B ≤ c) (hf : ∀ i, i < n → f i < B)
    (hc : ∀ i, i < n → ∀ j, j < (ls.getD i []).length → W.cell? ⟨f i, j, none⟩ = some (.int .i64 ((ls.getD i []).getD j 0))) : Curs W c tb f ls (fun _ => 0) := by
  subst hn
  have htyp : ∃ cur, W.heap[c]? = some (.cells cur 119 (0, 0)) := by
    rcases h.own.2 with ⟨h', _⟩ | ⟨g', cap', cur, h', _, hg, _⟩
    · simp at h'
    · simp only [Value.slice.injEq, Option.some.injEq, Addr.mk.injEq, and_true, true_and] at h'
      obtain ⟨rfl, rfl⟩ := h'
      exact ⟨cur, hg⟩
  refine ⟨fun i hi => ⟨?_, ?_, ?_, ?_, hc i hi⟩, fun i hi => ⟨?_, ?_⟩, htyp, fun i hi => ⟨_, h.trie i hi⟩⟩
  · rw [h.own.cellAt (i * 2) (by omega)]; exact (ccells_get tb _ i hi).1
  · rw [h.own.cellAt (i * 2 + 1) (by omega)]; exact (ccells_get tb _ i hi).2
  · exact h.own.frozenAt _
  · rw [cell_of_row _ _ _ _ _ _ (h.trie i hi)]; rfl
  · exact fun e => own_ne h.own ⟨_, h.trie i hi⟩ (by decide) (by rw [e]; rfl)
  · have := hf i hi; omega

theorem Curs.grown {W W1 : World} {B c q : Nat} {tb fb : Nat → Nat} {ls : List (List Int)} {p : Nat → Nat} {v : Value} {xs : List Value} {o : Obj} (h : Curs W c tb fb ls p) (hf : ∀ i, i < ls.length → fb i < B) (hB : B ≤ W.heap.size)
    (hown : W.ownsRow B 3 1 v q xs) (hg : (W.alloc o).grownBy W1 v.ownBlock) : Curs W1 c tb fb ls p := by
  have hsz : (W.alloc o).heap.size = W.heap.size + 1 := by simp
  have hk : ∀ b, b < W.heap.size → some b ≠ v.ownBlock → W1.heap[b]? = W.heap[b]? := fun b hb hne => (hg.block b (by omega) hne).trans (Below.heap_alloc _ _ _ hb)
  refine h.move (hk c (lt_of_typ h.typ) (own_ne hown h.typ (by decide))) (fun i hi => hk _ (lt_of_typ (h.ttyp i hi)) (own_ne hown (h.ttyp i hi) (by decide))) (fun i hi => hk _ (by have := hf i hi; omega) (fun e => ?_))
  have := (hown.lt _ e.symm).1
  have := hf i hi
  omega

theorem got_len {ls : List (List Int)} {p : Nat → Nat} {acc : List Int} (h : Got ls p acc) : acc.length ≤ (ls.getD 0 []).length := by
  rw [h.acc]
  refine Nat.le_trans (List.length_filter_le _ _) ?_
  rw [List.length_take]; omega

end Go.Proofs.Ytajelomllfcmiab

/-
  impl.Intersect, walked.
-/
namespace Go.Proofs.Ytajelomllfcmiab
open Go.RowKit Meet

theorem common_no {ls : List (List Int)} (h : ¬ (1 ≤ ls.length ∧ ls.length ≤ 100 ∧ ls.all ascB = true)) : common ls = [] := if_neg h

set_option maxHeartbeats 8000000 in
set_option maxRecDepth 1000000 in
theorem inter_calls (w : World) (G : Nat) (ls : List (List Int)) (f : Nat → Nat) (h : Half w G ls.length ls.length ls f) (hG : G < w.heap.size) (ht : tot ls ls.length ≤ 1048576) (hm : ∀ k j, -9223372036854775808 ≤ (ls.getD k []).getD j 0) :
    Calls Try.prog 49 #[.slice (some ⟨G, 0, none⟩) ls.length ls.length] w fun e w' => ∃ v, e = .returned v ∧ w'.ownsRow w.heap.size 3 1 v (common ls).length ((common ls).map (Value.int .i64)) ∧ Below w.heap.size w w' := by
  obtain ⟨i0, hi, hz0, hz1, hz2⟩ := info_parts Try.infoCur
  obtain ⟨j0, hj, hy0, hy1, hy2⟩ := info_parts Try.infoInt
  have hshort := short_of_tot ht
  have hown0 : (w.alloc (.cells #[] 3)).ownsRow w.heap.size 3 1 (.slice (some ⟨w.heap.size, 0, none⟩) 0 0) 0 [] := World.ownsRow_made w #[] 0 (Nat.le_refl _) (Nat.zero_le _) rfl
  have hbel0 : Below w.heap.size w (w.alloc (.cells #[] 3)) := (Below.refl _ _).alloc (Nat.le_refl _) _
  have HO0 := hid hown0
  have HB0 := hid hbel0
  obtain ⟨n, hn⟩ : ∃ n, n = ls.length := ⟨_, rfl⟩
  obtain ⟨out, hout⟩ : ∃ o, o = common ls := ⟨_, rfl⟩
  rw [← hout]
  have K1 := hid (areAsc_calls (w.alloc (.cells #[] 3)) _ ls ((h.iss rfl).below hbel0) hshort)
  have hn7 : ls.length ≤ 1048576 := by have := tot_le ls ls.length 0 (by omega); rw [tot_zero] at this; omega
  have HH := hid h
  have HS := hid hshort
  have HM := hid hm
  have HN := hid hn
  have HE := hid hout
  rw [← hn] at HH K1 hn7 ⊢
  clear h hshort hm hown0 hbel0 hn hout
  by_cases c0 : n = 0
  · have e0 : Hid (out = []) := hid (HE.out.trans (common_no (by rw [← HN.out]; omega)))
    subst c0
    go_enter Try.func49, Try.ntmps49
    go_wp2
    go_ret
    rw [e0.out]
    exact ⟨_, rfl, HO0.out, HB0.out⟩
  by_cases c1 : 100 < n
  · have e0 : Hid (out = []) := hid (HE.out.trans (common_no (by rw [← HN.out]; omega)))
    have i1 : ¬ ((n : Int) < 1) := by omega
    have i2 : (100 : Int) < (n : Int) := by omega
    go_enter Try.func49, Try.ntmps49
    go_wp2
    go_ret
    rw [e0.out]
    exact ⟨_, rfl, HO0.out, HB0.out⟩
  have i1 : ¬ ((n : Int) < 1) := by omega
  have i2 : ¬ ((100 : Int) < (n : Int)) := by omega
  by_cases c2 : ls.all ascB = true
  case neg =>
    have e0 : Hid (out = []) := hid (HE.out.trans (common_no (fun hh => c2 hh.2.2)))
    have c3 : ls.all ascB = false := by simpa using c2
    rw [c3] at K1
    clear c2 c3
    go_enter Try.func49, Try.ntmps49
    go_wp2_with fail
    refine K1.out.mono ?_
    rintro e wA ⟨rfl, d, hwA⟩
    have HB1 : Hid (Below w.heap.size w wA) := hid (by rw [hwA]; exact below_drewN HB0.out _)
    have HO1 : Hid (wA.ownsRow w.heap.size 3 1 (.slice (some ⟨w.heap.size, 0, none⟩) 0 0) 0 []) := hid (by rw [hwA]; exact HO0.out)
    clear hwA
    go_wp2
    go_ret
    rw [e0.out]
    exact ⟨_, rfl, HO1.out, HB1.out⟩
  rw [c2] at K1
  have e0 : Hid (out = (ls.getD 0 []).filter (inAll ls)) := hid (HE.out.trans (if_pos ⟨by rw [← HN.out]; omega, by rw [← HN.out]; omega, c2⟩))
  have HA : Hid (∀ k, k < ls.length → Asc (ls.getD k [])) := hid (fun k hk => asc_of (by
    rw [List.all_eq_true] at c2
    rw [List.getD_eq_getElem?_getD, List.getElem?_eq_getElem hk]
    exact c2 _ (List.getElem_mem hk)))
  have hlen0 : (ls.getD 0 []).length ≤ 1048576 := by have := getD_le_tot ls 0; omega
  have hcell : ∀ W, Below w.heap.size w W → ∀ k, k < n → W.cell? ⟨G, k, none⟩ = some (.slice (some ⟨f k, 0, none⟩) (ls.getD k []).length (ls.getD k []).length) := fun W hW k hk => by
    have := HH.out.cell k hk
    rw [if_pos hk] at this
    exact (hW.cell (p := ⟨G, k, none⟩) hG).trans this
  have HC := hid hcell
  have hfc : ∀ W, Below w.heap.size w W → ∀ i, i < n → ∀ j, j < (ls.getD i []).length → W.cell? ⟨f i, j, none⟩ = some (.int .i64 ((ls.getD i []).getD j 0)) := fun W hW i hi j hj =>
    (hW.cell (p := ⟨f i, j, none⟩) (HH.out.own i hi).lt).trans ((HH.out.own i hi).cell j hj)
  have HFC := hid hfc
  have HFL : Hid (∀ i, i < n → f i < w.heap.size) := hid (fun i hi => (HH.out.own i hi).lt)
  clear c2 hcell hfc HE HH
  go_enter Try.func49, Try.ntmps49
  go_wp2_with fail
  refine K1.out.mono ?_
  rintro e wA ⟨rfl, d, hwA⟩
  have HB1 : Hid (Below w.heap.size w wA) := hid (by rw [hwA]; exact below_drewN HB0.out _)
  have HO1 : Hid (wA.ownsRow w.heap.size 3 1 (.slice (some ⟨w.heap.size, 0, none⟩) 0 0) 0 []) := hid (by rw [hwA]; exact HO0.out)
  have hszA := HB1.out.size
  clear hwA HO0 HB0 K1
  go_wp2_with (at_make; refine wpList_make_own _ rfl _ _ 114 rfl w.heap.size 119 i0 (.agg #[.pointer none, .int .i64 0]) 2 Try.underlying114 hi hz0 hz1 _ _ _ n rfl rfl rfl ?b2 ?b3 ?b4 ?_)
  case b2 => rw [hz2]; omega
  case b3 => unfold maxLen; omega
  case b4 => exact hszA
  intro w0 hown0 hgrow0
  have hb0 : Below w.heap.size w w0 := HB1.out.grown hgrow0 hszA (fun j hj => by cases hj)
  have HO2 := hid (own_grown HO1.out hgrow0 (fun k _ => by simp))
  have HL0 : Hid (∃ tb, Laid w0 w.heap.size (.slice (some ⟨wA.heap.size, 0, none⟩) 0 n) 0 f ls tb) := hid ⟨fun _ => 0, hown0, fun i hi => by omega⟩
  have HB2 := hid hb0
  clear hgrow0 hown0 hb0 HO1 HB1
  go_wp2
  go_loopw [4, 27] (fun v t wr => ∃ k : Nat, k ≤ n ∧ t = .int .i64 k ∧ Hid (Below w.heap.size w wr ∧ wr.ownsRow w.heap.size 3 1 (.slice (some ⟨w.heap.size, 0, none⟩) 0 0) 0 [] ∧ ∃ tb, Laid wr w.heap.size v k f ls tb)) (fun _ t _ => n - (intOf t).toNat)
  case atStart => exact ⟨0, Nat.zero_le _, rfl, hid ⟨HB2.out, HO2.out, HL0.out⟩⟩
  case round =>
    clear HB2 HO2 HL0
    obtain ⟨k, hk, rfl, hH⟩ := hrel
    obtain ⟨hnx, hoc, tb, hla⟩ := hH.out
    have hns := hnx.size
    by_cases hkn : k < n
    · have j1 : (k : Int) < (n : Int) := by omega
      have c3 := HC.out wr hnx k hkn
      have hown := hla.own
      have HLA := hid hla
      have HNX := hid hnx
      have HOC := hid hoc
      clear hH hla hnx hoc
      obtain ⟨m, hm⟩ : ∃ m, m = (ls.getD k []).length := ⟨_, rfl⟩
      rw [← hm] at c3
      have HMM := hid hm
      clear hm
      go_wp2_with (first
        | (at_builtin; refine wpList_append_own _ rfl _ _ 114 rfl w.heap.size 119 i0 (.agg #[.pointer none, .int .i64 0]) 2 16 Try.underlying114 hi hz0 hz1 hz2 rfl (by decide) _ _ _ rfl ((hown.alloc _).alloc _) ⟨wr.heap.size + 1, 0, none⟩ 1 1 [.pointer (some ⟨wr.heap.size, 0, none⟩), .int .i64 0] rfl rfl ?c1 ?c2 ?c3 ?c4 ?c5 ?_))
      case c1 =>
        intro j u hj
        match j, hj with
        | 0, hj => simp at hj; subst hj; simp [Addr.add]
        | 1, hj => simp at hj; subst hj; simp [Addr.add]
      case c2 => intro u hu; simp at hu; rcases hu with rfl | rfl <;> rfl
      case c3 => unfold maxLen; omega
      case c4 => omega
      case c5 => simp; omega
      intro v' w1 hown' hgrow _
      have hb : Below w.heap.size w w1 := own_grow2 (by simp; omega) (hown.alloc _) (HNX.out.alloc hns _) hgrow
      rw [HMM.out] at hgrow
      have hl2 : ∃ tb', Laid w1 w.heap.size v' (k + 1) f ls tb' := HLA.out.step hown' hgrow
      have hoc2 : w1.ownsRow w.heap.size 3 1 (.slice (some ⟨w.heap.size, 0, none⟩) 0 0) 0 [] := own_grown ((HOC.out.alloc _).alloc _) hgrow (fun q hq => by
        simp only [Value.ownBlock, Option.some.injEq] at hq
        subst hq
        refine own_ne hown (e' := 3) ?_ (by decide)
        rcases HOC.out.2 with ⟨h', _⟩ | ⟨g', cap', cur, h', _, hg, _⟩
        · simp at h'
        · simp only [Value.slice.injEq, Option.some.injEq, Addr.mk.injEq, and_true, true_and] at h'
          obtain ⟨rfl, rfl⟩ := h'
          exact ⟨cur, hg⟩)
      have HF := hid (And.intro hb (And.intro hoc2 hl2))
      clear hown' hgrow hown hb hl2 hoc2
      go_wp2
      go_roundw
      case rel => exact ⟨k + 1, by omega, by go_num, HF⟩
      case measure => simp [intOf]; omega
    · obtain rfl : k = n := by omega
      have j1 : ¬ ((k : Int) < (k : Int)) := by omega
      obtain ⟨c, cap, hcB, hv⟩ := hla.shape c0
      subst hv
      have HCU := hid (hla.curs HN.out hcB HFL.out (HFC.out wr hnx))
      have HNX := hid hnx
      have HOC := hid hoc
      clear hH hla hnx hoc hns
      go_wp2
      go_loopg [3] (ls.getD 0 []).length (fun g s wr => ∃ (p : Nat → Nat) (acc : List Int), (ls.getD 0 []).length - p 0 ≤ g ∧ acc.length ≤ 1048576 ∧ Hid (wr.ownsRow w.heap.size 3 1 s acc.length (acc.map (Value.int .i64)) ∧ Below w.heap.size w wr ∧ Got ls p acc ∧ Curs wr c tb f ls p))
      case atStart => exact ⟨fun _ => 0, [], by omega, by simp, hid ⟨HOC.out, HNX.out, Got.start ls, HCU.out⟩⟩
      case round =>
        clear HCU HNX HOC
        obtain ⟨p, acc, hg, hal, hH⟩ := hrel
        obtain ⟨hown, hnx, hgot, hcu⟩ := hH.out
        have K2 := hid (meet_calls wr c cap tb f ls p hcu (by rw [← HN.out]; omega) (by rw [← HN.out]; omega) HS.out.2 HA.out hgot.le HM.out)
        rw [← HN.out] at K2
        have HOW := hid hown
        have HNX := hid hnx
        have HGO := hid hgot
        have HTY := hid hcu.typ
        have hns := hnx.size
        clear hH hown hnx hgot hcu
        go_wp2_with fail
        refine K2.out.mono ?_
        rintro e w1 ⟨hog, hcase⟩
        have hown1 := own_og HOW.out hog HTY.out (by decide)
        have hnx1 : Below w.heap.size w w1 := HNX.out.trans (hog.below hcB)
        have HNX1 := hid hnx1
        clear HOW HTY hog K2
        rcases hcase with ⟨rfl, hno⟩ | ⟨rfl, p', goal, i, hI, hC'⟩
        · have e1 : Hid (acc = out) := hid ((HGO.out.done (by rw [← HN.out]; omega) hno).trans e0.out.symm)
          have HO1 := hid hown1
          clear hno hown1 hnx1
          go_wp2
          go_ret
          refine ⟨_, rfl, ?_, HNX1.out⟩
          have := HO1.out
          rw [e1.out] at this
          exact this
        · have hl0 : 0 < ls.length := by rw [← HN.out]; omega
          rw [HN.out] at hI
          obtain ⟨hlt, hval⟩ := hI.all 0 hl0
          have HGS := hid (HGO.out.step hl0 (HA.out 0 hl0) hI)
          have hcur0 : Cur w1 c 0 (tb 0) (f 0) (ls.getD 0 []) (p' 0) := by have := hC'.cur 0 hl0; simpa using this
          have K3 := hid (value_calls w1 c 0 (tb 0) (f 0) (ls.getD 0 []) (p' 0) hcur0 hlt)
          rw [hval] at K3
          have hp0 := (hI.le 0 hl0).1
          have HC1 := hid hC'
          clear hI hval hC' hcur0 HGO hnx1
          go_wp2_with fail
          refine K3.out.mono ?_
          rintro e w2 ⟨rfl, d2, hw2⟩
          have hown2 := own_drewN hown1 d2
          rw [← hw2] at hown2
          have HNX2 : Hid (Below w.heap.size w w2) := hid (by rw [hw2]; exact below_drewN HNX1.out _)
          have HC2 : Hid (Curs w2 c tb f ls p') := hid (by rw [hw2]; exact HC1.out.drewN _)
          have hns2 := HNX2.out.size
          clear hw2 hown1 HNX1 HC1 K3
          go_wp2_with (first
            | (at_builtin; refine wpList_append_own _ rfl _ _ 32 rfl w.heap.size 3 j0 (.int .i64 0) 1 8 Try.underlying32 hj hy0 hy1 hy2 rfl (by decide) _ _ _ rfl (hown2.alloc _) ⟨w2.heap.size, 0, none⟩ 1 1 [.int .i64 goal] rfl rfl ?c1 ?c2 ?c3 ?c4 ?c5 ?_))
          case c1 =>
            intro j u hj
            match j, hj with
            | 0, hj => simp at hj; subst hj; simp [Addr.add]
          case c2 => intro u hu; simp at hu; subst hu; rfl
          case c3 => unfold maxLen; omega
          case c4 => omega
          case c5 => simp; omega
          intro v' w3 hown3 hgrow _
          have HC3 := hid (HC2.out.grown (by rw [← HN.out]; exact HFL.out) hns2 hown2 hgrow)
          have HNX3 := hid (own_grow hns2 hown2 HNX2.out hgrow)
          have HO3 : Hid (w3.ownsRow w.heap.size 3 1 v' (acc ++ [goal]).length ((acc ++ [goal]).map (Value.int .i64))) := hid (by simpa using hown3)
          have hcur3 : Cur w3 c 0 (tb 0) (f 0) (ls.getD 0 []) (p' 0) := by have := HC3.out.cur 0 hl0; simpa using this
          have K4 := hid (next_calls w3 c 0 (tb 0) (f 0) (ls.getD 0 []) (p' 0) hcur3 (by omega))
          clear hown3 hgrow hcur3 hown2 HC2 HNX2 hns2
          go_wp2_with fail
          refine K4.out.mono ?_
          rintro e w4 ⟨⟨v4, rfl⟩, hw4⟩
          have HC4 : Hid (Curs w4 c tb f ls (upd p' 0 (p' 0 + 1))) := hid (by rw [hw4]; have := HC3.out.set 0 (p' 0 + 1); simpa using this)
          have hog4 : Og c w3 w4 := by rw [hw4]; exact (Og.refl _ _).set _ _
          have HO4 := hid (own_og HO3.out hog4 HC3.out.typ (by decide))
          have HNX4 : Hid (Below w.heap.size w w4) := hid (HNX3.out.trans (hog4.below hcB))
          clear hw4 hog4 HO3 HC3 HNX3 K4
          go_wp2
          go_roundg ((ls.getD 0 []).length - (p' 0 + 1))
          case measure => omega
          case rel => exact ⟨_, acc ++ [goal], by rw [upd_same]; exact Nat.le_refl _, Nat.le_trans (got_len HGS.out) hlen0, hid ⟨HO4.out, HNX4.out, HGS.out, HC4.out⟩⟩

end Go.Proofs.Ytajelomllfcmiab
