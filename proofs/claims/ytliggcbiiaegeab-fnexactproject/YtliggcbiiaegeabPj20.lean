import Derived.Test.YtliggcbiiaegeabPj19
/-
  impl.meet.
-/
namespace Go.Proofs.Ytliggcbiiaegeab
open Go.RowKit Meet

theorem Og.drewN {g : Nat} {w w' : World} (h : Og g w w') (d : Nat) : Og g w (w'.drewN d) := ⟨h.os, h.tape, h.output, h.size, h.block⟩
theorem Og.trans {g : Nat} {w w1 w2 : World} (h : Og g w w1) (k : Og g w1 w2) : Og g w w2 := ⟨k.os.trans h.os, k.tape.trans h.tape, k.output.trans h.output, k.size.trans h.size, fun b hb => (k.block b hb).trans (h.block b hb)⟩

structure Curs (w : World) (c : Nat) (tb fb : Nat → Nat) (ls : List (List Int)) (p : Nat → Nat) : Prop where
  cur : ∀ i, i < ls.length → Cur w c (i * 2) (tb i) (fb i) (ls.getD i []) (p i)
  ne : ∀ i, i < ls.length → tb i ≠ c ∧ fb i ≠ c
  typ : ∃ cur, w.heap[c]? = some (.cells cur 119 (0, 0))
  ttyp : ∀ i, i < ls.length → ∃ cur, w.heap[tb i]? = some (.cells cur 117 (0, 0))

theorem Curs.drewN {w : World} {c : Nat} {tb fb : Nat → Nat} {ls : List (List Int)} {p : Nat → Nat} (h : Curs w c tb fb ls p) (d : Nat) : Curs (w.drewN d) c tb fb ls p :=
  ⟨fun i hi => (h.cur i hi).drewN d, h.ne, h.typ, h.ttyp⟩

theorem Curs.set {w : World} {c : Nat} {tb fb : Nat → Nat} {ls : List (List Int)} {p : Nat → Nat} (h : Curs w c tb fb ls p) (i : Nat) (q : Nat) : Curs (w.setCell ⟨c, i * 2 + 1, none⟩ (.int .i64 q)) c tb fb ls (upd p i q) where
  ne := h.ne
  typ := by
    obtain ⟨cur, hc⟩ := h.typ
    exact ⟨_, heap_setCell_same _ _ _ _ _ _ hc⟩
  ttyp k hk := by
    obtain ⟨cur, hc⟩ := h.ttyp k hk
    exact ⟨cur, (Below.heap_setCell _ _ _ _ (h.ne k hk).1).trans hc⟩
  cur k hk := by
    have hc := h.cur k hk
    obtain ⟨n1, n2⟩ := h.ne k hk
    refine ⟨?_, ?_, ?_, ?_, fun j hj => ?_⟩
    · exact (World.cell?_setCell_other _ _ _ _ (by intro e; simp only [Addr.mk.injEq] at e; omega)).trans hc.ptr
    · by_cases e : k = i
      · subst e
        rw [upd_same]
        exact World.cell?_setCell_same _ _ _ hc.pl
      · rw [upd_other _ _ _ _ e]
        exact (World.cell?_setCell_other _ _ _ _ (by intro e; simp only [Addr.mk.injEq] at e; omega)).trans hc.pl
    · rw [World.frozen?_setCell]; exact hc.fz
    · exact (World.cell?_setCell_other _ _ _ _ (by intro e; simp only [Addr.mk.injEq] at e; exact n1 e.1.symm)).trans hc.val
    · exact (World.cell?_setCell_other _ _ _ _ (by intro e; simp only [Addr.mk.injEq] at e; exact n2 e.1.symm)).trans (hc.own j hj)

set_option maxHeartbeats 4000000 in
set_option maxRecDepth 1000000 in
theorem meet_calls (w : World) (c cap : Nat) (tb fb : Nat → Nat) (ls : List (List Int)) (p0 : Nat → Nat) (h : Curs w c tb fb ls p0) (hn0 : 0 < ls.length) (hn1 : ls.length ≤ 100) (hl : ∀ k, (ls.getD k []).length ≤ 1099511627776)
    (ha : ∀ k, k < ls.length → Asc (ls.getD k [])) (hp : ∀ k, k < ls.length → p0 k ≤ (ls.getD k []).length) (hm : ∀ k j, -9223372036854775808 ≤ (ls.getD k []).getD j 0) :
    Calls Try.prog 101 #[.slice (some ⟨c, 0, none⟩) ls.length cap] w fun e w' => Og c w w' ∧ ((e = .returned (.bool false) ∧ ∀ y, ¬ Live ls p0 y) ∨ (e = .returned (.bool true) ∧ ∃ p goal i, Inv ls p0 goal ls.length i p ∧ Curs w' c tb fb ls p)) := by
  obtain ⟨n, hn⟩ : ∃ n, n = ls.length := ⟨_, rfl⟩
  have H0 := hid (Inv.start hn0 hp hm)
  have HC := hid h
  have HA := hid ha
  have HL := hid hl
  have HN := hid hn
  rw [← hn] at hn0 hn1 ⊢
  clear h ha hl hp hm hn
  go_enter Try.func101, Try.ntmps101
  go_wp2
  go_loopw [3, 4, 5] (fun g s t wr => ∃ (goal : Int) (st i : Nat), g = .int .i64 goal ∧ s = .int .i64 st ∧ t = .int .i64 i ∧ st ≤ n ∧ i < n ∧ Hid (∃ p, Inv ls p0 goal st i p ∧ Curs wr c tb fb ls p ∧ Og c w wr)) (fun g s _ _ => above ls (intOf g) * (n + 1) + (n - (intOf s).toNat))
  case atStart => exact ⟨_, 0, 0, rfl, rfl, rfl, Nat.zero_le _, hn0, hid ⟨p0, H0.out, HC.out, Og.refl _ _⟩⟩
  case round =>
    obtain ⟨goal, st, i, rfl, rfl, rfl, hst, hi, hH⟩ := hrel
    clear H0 HC
    by_cases hsn : st < n
    · have i1 : (st : Int) < (n : Int) := by omega
      have i2 : (i : Int) < (n : Int) := by omega
      obtain ⟨p, hI, hC, hO⟩ := hH.out
      have hil : i < ls.length := by rw [← HN.out]; exact hi
      have hcur := hC.cur i hil
      have hasc := HA.out i hil
      have hple := (hI.le i hil).2
      have hsk := seek_of hasc hple goal
      have K1 := hid (seek_calls wr c (i * 2) (tb i) (fb i) (ls.getD i []) (p i) goal hcur (HL.out i) hple hasc)
      have HS1 : Hid (∀ d, Curs ((wr.drewN d).setCell ⟨c, i * 2 + 1, none⟩ (.int .i64 (p i + bsQ ((ls.getD i []).drop (p i)) goal : Nat))) c tb fb ls (upd p i (p i + bsQ ((ls.getD i []).drop (p i)) goal))) := hid (fun d => (hC.drewN d).set i _)
      have HS2 : Hid (∀ d v, Og c w ((wr.drewN d).setCell ⟨c, i * 2 + 1, none⟩ v)) := hid (fun d v => (hO.drewN d).set _ _)
      have HI := hid hI
      clear hH hI hC hO hcur hple
      generalize p i + bsQ ((ls.getD i []).drop (p i)) goal = q at *
      go_wp2_with fail
      refine K1.out.mono ?_
      rintro e w1 ⟨⟨v1, rfl⟩, d1, hw1⟩
      have HC1 : Hid (Curs w1 c tb fb ls (upd p i q)) := hid (by rw [hw1]; exact HS1.out d1)
      have HO1 : Hid (Og c w w1) := hid (by rw [hw1]; exact HS2.out d1 _)
      have K2 := hid (ended_calls w1 c (i * 2) (tb i) (fb i) (ls.getD i []) (upd p i q i) (HC1.out.cur i hil))
      rw [upd_same] at K2
      clear hw1 HS1 HS2 K1
      by_cases hq : q = (ls.getD i []).length
      · rw [decide_eq_true hq] at K2
        have HF := hid (HI.out.none hsk hq)
        clear hsk hasc hq
        go_wp2_with fail
        refine K2.out.mono ?_
        rintro e w2 ⟨rfl, d2, hw2⟩
        have HO2 : Hid (Og c w w2) := hid (by rw [hw2]; exact HO1.out.drewN _)
        clear hw2
        go_wp2
        go_ret
        exact ⟨HO2.out, Or.inl ⟨rfl, HF.out⟩⟩
      · rw [decide_eq_false hq] at K2
        have hql : q < (ls.getD i []).length := by have := hsk.2.1; omega
        go_wp2_with fail
        refine K2.out.mono ?_
        rintro e w2 ⟨rfl, d2, hw2⟩
        have HO2 : Hid (Og c w w2) := hid (by rw [hw2]; exact HO1.out.drewN _)
        have HC2 : Hid (Curs w2 c tb fb ls (upd p i q)) := hid (by rw [hw2]; exact HC1.out.drewN _)
        have K3 : Hid (∀ d, Calls Try.prog 102 #[.pointer (some ⟨c, i * 2, none⟩)] (w2.drewN d) fun e w' => e = .returned (.int .i64 ((ls.getD i []).getD q 0)) ∧ ∃ d', w' = (w2.drewN d).drewN d') := hid (fun d => by
          have := value_calls (w2.drewN d) c (i * 2) (tb i) (fb i) (ls.getD i []) (upd p i q i) ((HC2.out.cur i hil).drewN d) (by rw [upd_same]; exact hql)
          rwa [upd_same] at this)
        clear hw2 HO1 HC1 K2 hq
        by_cases hv : (ls.getD i []).getD q 0 = goal
        · have HF := hid (HI.out.same (by rw [← HN.out]; exact hsn) hsk hql hv)
          rw [← HN.out] at HF
          rw [hv] at K3
          have hne : (goal != goal) = false := by simp
          clear hsk hasc hql hv HI
          go_wp2_with fail
          refine (K3.out 0).mono ?_
          rintro e w3 ⟨rfl, d3, hw3⟩
          have HO3 : Hid (Og c w w3) := hid (by rw [hw3]; exact (HO2.out.drewN _).drewN _)
          have HC3 : Hid (Curs w3 c tb fb ls (upd p i q)) := hid (by rw [hw3]; exact (HC2.out.drewN _).drewN _)
          clear hw3 HO2 HC2 K3
          go_wp2
          go_roundw
          case rel => exact ⟨goal, st + 1, (i + 1) % n, rfl, by go_num, by go_num, by omega, Nat.mod_lt _ hn0, hid ⟨_, HF.out, HC3.out, HO3.out⟩⟩
          case measure => simp [intOf]; omega
        · have HF := hid (HI.out.more hasc hsk hql)
          rw [← HN.out] at HF
          have hgt : goal < (ls.getD i []).getD q 0 := by have := hsk.2.2.2 hql; omega
          have hab := above_lt hgt hil (at_mem hql)
          generalize (ls.getD i []).getD q 0 = x at *
          have hne : (x != goal) = true := by simp; omega
          clear hsk hasc hql HI
          go_wp2_with fail
          refine (K3.out 0).mono ?_
          rintro e w3 ⟨rfl, d3, hw3⟩
          subst hw3
          go_wp2_with fail
          refine (K3.out _).mono ?_
          rintro e w4 ⟨rfl, d4, hw4⟩
          have HO3 : Hid (Og c w w4) := hid (by rw [hw4]; exact (HO2.out.drewN _).drewN _)
          have HC3 : Hid (Curs w4 c tb fb ls (upd p i q)) := hid (by rw [hw4]; exact (HC2.out.drewN _).drewN _)
          clear hw4 HO2 HC2 K3
          go_wp2
          go_roundw
          case rel => exact ⟨x, 1, (i + 1) % n, rfl, by go_num, by go_num, by omega, Nat.mod_lt _ hn0, hid ⟨_, HF.out, HC3.out, HO3.out⟩⟩
          case measure =>
            simp [intOf]
            have : (above ls x + 1) * (n + 1) ≤ above ls goal * (n + 1) := Nat.mul_le_mul_right _ hab
            rw [Nat.add_mul] at this
            omega
    · obtain rfl : st = n := by omega
      have i1 : ¬ ((st : Int) < (st : Int)) := by omega
      obtain ⟨p, hI, hC, hO⟩ := hH.out
      have HF := hid hI
      have HC1 := hid hC
      have HO1 := hid hO
      clear hH hI hC hO
      go_wp2
      go_ret
      first | exact ⟨HO1.out, Or.inr ⟨rfl, p, ⟨goal, i, HF.out⟩, HC1.out⟩⟩ | exact ⟨HO1.out, Or.inr ⟨rfl, p, goal, i, HF.out, HC1.out⟩⟩

end Go.Proofs.Ytliggcbiiaegeab
