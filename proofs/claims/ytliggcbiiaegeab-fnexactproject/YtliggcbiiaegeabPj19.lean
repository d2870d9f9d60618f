import Derived.Test.YtliggcbiiaegeabPj18
/-
  impl's cursors: ended, value, next, seek.
-/
namespace Go.Proofs.Ytliggcbiiaegeab
open Go.RowKit Meet

structure Cur (w : World) (c o tb fb : Nat) (l : List Int) (p : Nat) : Prop where
  ptr : w.cell? ⟨c, o, none⟩ = some (.pointer (some ⟨tb, 0, none⟩))
  pl : w.cell? ⟨c, o + 1, none⟩ = some (.int .i64 p)
  fz : w.frozen? ⟨c, o + 1, none⟩ = false
  val : w.cell? ⟨tb, 0, none⟩ = some (.slice (some ⟨fb, 0, none⟩) l.length l.length)
  own : ∀ j, j < l.length → w.cell? ⟨fb, j, none⟩ = some (.int .i64 (l.getD j 0))

theorem Cur.drewN {w : World} {c o tb fb p : Nat} {l : List Int} (h : Cur w c o tb fb l p) (d : Nat) : Cur (w.drewN d) c o tb fb l p := ⟨h.ptr, h.pl, h.fz, h.val, h.own⟩

set_option maxHeartbeats 2000000 in
theorem ended_calls (w : World) (c o tb fb : Nat) (l : List Int) (p : Nat) (h : Cur w c o tb fb l p) :
    Calls Try.prog 135 #[.pointer (some ⟨c, o, none⟩)] w fun e w' => e = .returned (.bool (decide (p = l.length))) ∧ ∃ d, w' = w.drewN d := by
  have h1 := h.ptr
  have h2 := h.pl
  have h3 := h.val
  rw [← dec_len]
  generalize l.length = n at *
  clear h
  go_enter Try.func135, Try.ntmps135
  go_wp2_with fail
  go_quiet (fail)
  go_wp2
  go_ret
  exact ⟨ret_bool (by first | rfl | simp), _, rfl⟩

set_option maxHeartbeats 2000000 in
theorem value_calls (w : World) (c o tb fb : Nat) (l : List Int) (p : Nat) (h : Cur w c o tb fb l p) (hp : p < l.length) :
    Calls Try.prog 102 #[.pointer (some ⟨c, o, none⟩)] w fun e w' => e = .returned (.int .i64 (l.getD p 0)) ∧ ∃ d, w' = w.drewN d := by
  have h1 := h.ptr
  have h2 := h.pl
  have h3 := h.val
  have h4 := h.own p hp
  have i1 : (p : Int) < (l.length : Int) := by omega
  generalize l.getD p 0 = x at *
  generalize l.length = n at *
  clear h
  go_enter Try.func102, Try.ntmps102
  go_wp2_with fail
  go_quiet (fail)
  go_wp2
  go_ret
  exact ⟨rfl, _, rfl⟩

set_option maxHeartbeats 2000000 in
theorem next_calls (w : World) (c o tb fb : Nat) (l : List Int) (p : Nat) (h : Cur w c o tb fb l p) (hp : p ≤ 1099511627776) :
    Calls Try.prog 103 #[.pointer (some ⟨c, o, none⟩)] w fun e w' => (∃ v, e = .returned v) ∧ w' = w.setCell ⟨c, o + 1, none⟩ (.int .i64 (p + 1 : Nat)) := by
  have h2 := h.pl
  have h3 := h.fz
  clear h
  go_enter Try.func103, Try.ntmps103
  go_wp2
  go_end0
  exact ⟨⟨_, rfl⟩, by simp⟩

/-- the cells behind place p -/
theorem Cur.is_from {w : World} {c o tb fb p : Nat} {l : List Int} (h : Cur w c o tb fb l p) (hp : p < l.length) (cap : Nat) : IS w (.slice (some ⟨fb, p, none⟩) (l.length - p) cap) (l.drop p) := by
  refine ⟨_, cap, by rw [List.length_drop], Or.inr ⟨fb, p, rfl, fun j hj => ?_⟩⟩
  rw [List.length_drop] at hj
  rw [h.own (p + j) (by omega), List.getD_eq_getElem?_getD, List.getD_eq_getElem?_getD, List.getElem?_drop]

theorem up_drop {l : List Int} (h : Asc l) (p : Nat) : Up (l.drop p) := fun i j hij hj => by
  rw [List.length_drop] at hj
  have := up_of_asc h (p + i) (p + j) (by omega) (by omega)
  simpa only [List.getD_eq_getElem?_getD, List.getElem?_drop] using this

theorem seek_of {l : List Int} (h : Asc l) {p : Nat} (hp : p ≤ l.length) (g : Int) : Seek l p g (p + bsQ (l.drop p) g) := by
  obtain ⟨h1, h2, h3⟩ := bsQ_spec (up_drop h p) g
  rw [List.length_drop] at h1 h3
  refine ⟨by omega, by omega, fun j hj1 hj2 => ?_, fun hq => ?_⟩
  · have := h2 (j - p) (by omega)
    rw [List.getD_eq_getElem?_getD, List.getElem?_drop, show p + (j - p) = j by omega] at this
    rw [List.getD_eq_getElem?_getD]; exact this
  · have := h3 (bsQ (l.drop p) g) (Nat.le_refl _) (by omega)
    rw [List.getD_eq_getElem?_getD, List.getElem?_drop] at this
    rw [List.getD_eq_getElem?_getD]; exact this

set_option maxHeartbeats 2000000 in
set_option maxRecDepth 1000000 in
theorem seek_calls (w : World) (c o tb fb : Nat) (l : List Int) (p : Nat) (g : Int) (h : Cur w c o tb fb l p) (hl : l.length ≤ 1099511627776) (hp : p ≤ l.length) (ha : Asc l) :
    Calls Try.prog 134 #[.pointer (some ⟨c, o, none⟩), .int .i64 g] w fun e w' => (∃ v, e = .returned v) ∧ ∃ d, w' = (w.drewN d).setCell ⟨c, o + 1, none⟩ (.int .i64 (p + bsQ (l.drop p) g : Nat)) := by
  have h1 := h.ptr
  have h2 := h.pl
  have h3 := h.val
  have h4 := h.fz
  have hq := (bsQ_spec (up_drop ha p) g).1
  rw [List.length_drop] at hq
  by_cases hpl : p < l.length
  · have HK : Hid (∀ q cap, Calls Try.prog 155 #[.slice (some ⟨fb, p, none⟩) (l.length - p) cap, .int .i64 g] (w.drewN q) fun e w' => e = .returned (.tuple #[.int .i64 (bsQ (l.drop p) g), .bool (bsF (l.drop p) g)]) ∧ ∃ d, w' = (w.drewN q).drewN d) := hid (fun q cap =>
      bsearch_calls (w.drewN q) _ (l.drop p) g ((h.drewN q).is_from hpl cap) (by rw [List.length_drop]; omega) (up_drop ha p))
    have i1 : (p : Int) ≤ (l.length : Int) := by omega
    generalize bsQ (l.drop p) g = k at *
    generalize bsF (l.drop p) g = kf at *
    generalize l.length = n at *
    clear h ha
    go_enter Try.func134, Try.ntmps134
    go_wp2_with fail
    go_quiet ((go_at_call 155; exact Calls.quiet_of (HK.out _ _)))
    go_wp2
    go_end0
    exact ⟨⟨_, rfl⟩, _, by rw [Int.natCast_add]⟩
  · obtain rfl : p = l.length := by omega
    have e0 : l.drop l.length = [] := List.drop_length
    rw [e0] at hq ⊢
    have HK : Hid (∀ q a cap, Calls Try.prog 155 #[.slice a 0 cap, .int .i64 g] (w.drewN q) fun e w' => e = .returned (.tuple #[.int .i64 (bsQ [] g), .bool (bsF [] g)]) ∧ ∃ d, w' = (w.drewN q).drewN d) := hid (fun q a cap =>
      bsearch_calls (w.drewN q) _ [] g ⟨a, cap, rfl, Or.inl rfl⟩ (by simp) (fun i j _ hj => by simp at hj))
    have ek : bsQ [] g = 0 := rfl
    rw [ek] at HK ⊢
    generalize bsF [] g = kf at *
    generalize l.length = n at *
    clear h ha
    go_enter Try.func134, Try.ntmps134
    go_wp2_with fail
    go_quiet ((go_at_call 155; exact Calls.quiet_of (HK.out _ _ _)))
    go_wp2
    go_end0
    exact ⟨⟨_, rfl⟩, _, rfl⟩

end Go.Proofs.Ytliggcbiiaegeab
