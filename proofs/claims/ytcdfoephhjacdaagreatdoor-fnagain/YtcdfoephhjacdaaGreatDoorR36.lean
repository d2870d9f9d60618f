import Derived.Test.YtcdfoephhjacdaaGreatDoorR20
/-
  The program's parser by positions.
-/
namespace Go.Proofs.YtcdfoephhjacdaaGreatDoor
open Go.RowKit

/-- the offset that a failure at p tells -/
def offZ (ts : List TkV) (p : Nat) : Int := if p < ts.length then ((ts.getD p noTk).at' : Int) else -1
/-- the parser stands at p -/
def PaP (W : World) (g tb : Nat) (ts : List TkV) (p : Nat) : Prop := ∃ a cap, PaS W g tb a cap (ts.drop p)
theorem drop_tk {ts : List TkV} {p : Nat} (h : p < ts.length) : ts.drop p = ts.getD p noTk :: ts.drop (p + 1) := by
  rw [List.drop_eq_getElem_cons h, List.getD_eq_getElem?_getD, List.getElem?_eq_getElem h]
  rfl
theorem new_ISt (W : World) (l : List ByteArray) : ISt (W.alloc (.cells (l.map Value.string).toArray 9)) (.slice (some ⟨W.heap.size, 0, none⟩) l.length l.length) l := by
  refine ⟨_, _, rfl, Or.inr ⟨W.heap.size, 0, rfl, fun j hj => ?_⟩⟩
  rw [World.cell?_alloc_at _ _ _ _ rfl, List.getD_eq_getElem?_getD, List.getElem?_eq_getElem hj]
  simp [hj]
section
variable {W W' : World} {g tb p : Nat} {ts : List TkV}
theorem PaP.below (h : PaP W g tb ts p) (hb : Below W.heap.size W W') : PaP W' g tb ts p := by
  obtain ⟨a, cap, h⟩ := h
  exact ⟨a, cap, h.below hb⟩
theorem PaP.set {r o : Nat} {v : Value} (h : PaP W g tb ts p) (h1 : r ≠ g) (h2 : r ≠ tb) : PaP (W.setCell ⟨r, o, none⟩ v) g tb ts p := by
  obtain ⟨a, cap, h⟩ := h
  exact ⟨a, cap, h.set h1 h2⟩
theorem PaP.belN {N : Nat} (h : PaP W g tb ts p) (hb : Below N W W') (hg : g < N) (ht : tb < N) : PaP W' g tb ts p := by
  obtain ⟨a, cap, h⟩ := h
  refine ⟨a, cap, (hb.block g hg).trans h.blk, h.cap, fun j hj => ?_, h.ne⟩
  obtain ⟨o, e, hc⟩ := h.at' j hj
  exact ⟨o, e, fun i hi => (hb.cell (p := ⟨tb, o + j * 4 + i, none⟩) ht).trans (hc i hi)⟩
theorem PaP.lt (h : PaP W g tb ts p) : g < W.heap.size := by
  obtain ⟨a, cap, h⟩ := h
  exact h.lt
/-- how many tokens are left -/
def remOf (W : World) (g : Nat) : Nat := match W.cell? ⟨g, 0, none⟩ with | some (.slice _ n _) => n | _ => 0
theorem PaP.rem (h : PaP W g tb ts p) : remOf W g = ts.length - p := by
  obtain ⟨a, cap, h⟩ := h
  unfold remOf
  rw [h.c0]
  simp
end

theorem tkP_yes {w : World} {g tb p : Nat} {ts : List TkV} (ks : List Nat) (hP : PaP w g tb ts p) (hkl : ks.length ≤ 100) (hk8 : ∀ k ∈ ks, k < 256) (hok : ∀ j, j < ts.length → TkOk (ts.getD j noTk)) (hl : ts.length ≤ 100000) (h1 : p < ts.length) (h2 : (ts.getD p noTk).k ∈ ks) :
    Calls Tryz.prog 107 #[.pointer (some ⟨g, 0, none⟩), .slice (some ⟨w.heap.size, 0, none⟩) (ks.map kdT).length (ks.map kdT).length] (w.alloc (.cells ((ks.map kdT).map Value.string).toArray 9)) fun e w' => e = .returned (.agg #[.string (kdT (ts.getD p noTk).k), .string (ts.getD p noTk).nm, .int .i64 ((ts.getD p noTk).v : Int), .int .i64 ((ts.getD p noTk).at' : Int)]) ∧ PaP w' g tb ts (p + 1) ∧ Ex g w w' := by
  have hb : Below w.heap.size w (w.alloc (.cells ((ks.map kdT).map Value.string).toArray 9)) := (Below.refl _ _).alloc (Nat.le_refl _) _
  obtain ⟨a, cap, h⟩ := hP
  rw [drop_tk h1] at h
  refine (take_yes _ g tb cap a _ ks _ _ (h.below hb) (new_ISt w (ks.map kdT)) hkl hk8 (hok p h1) (by rw [List.length_drop]; omega) h2).mono ?_
  rintro e w' ⟨h3, ⟨a', cap', h4⟩, h5⟩
  exact ⟨h3, ⟨a', cap', h4⟩, (Ex.bel hb).trans h5⟩
theorem tkP_no {w : World} {g tb p : Nat} {ts : List TkV} (ks : List Nat) (hP : PaP w g tb ts p) (hkl : ks.length ≤ 100) (hk8 : ∀ k ∈ ks, k < 256) (hok : ∀ j, j < ts.length → TkOk (ts.getD j noTk)) (hl : ts.length ≤ 100000) (h2 : p < ts.length → ¬ (ts.getD p noTk).k ∈ ks) :
    Calls Tryz.prog 107 #[.pointer (some ⟨g, 0, none⟩), .slice (some ⟨w.heap.size, 0, none⟩) (ks.map kdT).length (ks.map kdT).length] (w.alloc (.cells ((ks.map kdT).map Value.string).toArray 9)) fun e w' => e = .panicked (flt (offZ ts p)) ∧ Ex g w w' := by
  have hb : Below w.heap.size w (w.alloc (.cells ((ks.map kdT).map Value.string).toArray 9)) := (Below.refl _ _).alloc (Nat.le_refl _) _
  obtain ⟨a, cap, h⟩ := hP
  by_cases h1 : p < ts.length
  · rw [drop_tk h1] at h
    refine (take_no _ g tb cap a _ ks _ _ (h.below hb) (new_ISt w (ks.map kdT)) hkl hk8 (hok p h1) (by rw [List.length_drop]; omega) (h2 h1)).mono ?_
    rintro e w' ⟨h3, h5⟩
    exact ⟨by rw [h3]; unfold offZ; rw [if_pos h1], (Ex.bel hb).trans (Ex.bel h5)⟩
  · rw [List.drop_eq_nil_of_le (by omega)] at h
    refine (take_none _ g tb cap a _ (h.below hb)).mono ?_
    rintro e w' ⟨h3, h5⟩
    exact ⟨by rw [h3]; unfold offZ; rw [if_neg h1], (Ex.bel hb).trans (Ex.bel h5)⟩

/-- the kinds at p -/
abbrev isK (ts : List TkV) (ks : List Nat) (p : Nat) : Prop := p < ts.length ∧ (ts.getD p noTk).k ∈ ks
theorem tk_is {ts : List TkV} {ks : List Nat} {p : Nat} (h : isK ts ks p) : tk ts ks p = .ok (ts.getD p noTk, p + 1) := if_pos h
theorem tk_isnt {ts : List TkV} {ks : List Nat} {p : Nat} (h : ¬ isK ts ks p) : tk ts ks p = .error p := if_neg h
/-- take, where it may succeed or fail -/
def TkC (g tb : Nat) (ts : List TkV) (ks : List Nat) (cs : Array Value) (n : Nat) : Prop :=
  (∀ W p, PaP W g tb ts p → isK ts ks p → ∃ k nm v at', k = (ts.getD p noTk).k ∧ nm = (ts.getD p noTk).nm ∧ v = (ts.getD p noTk).v ∧ at' = (ts.getD p noTk).at' ∧ Calls Tryz.prog 107 #[.pointer (some ⟨g, 0, none⟩), .slice (some ⟨W.heap.size, 0, none⟩) n n] (W.alloc (.cells cs 9)) fun e w' => e = .returned (.agg #[.string (kdT k), .string nm, .int .i64 (v : Int), .int .i64 (at' : Int)]) ∧ PaP w' g tb ts (p + 1) ∧ Ex g W w') ∧
  (∀ W p, PaP W g tb ts p → ¬ isK ts ks p → Calls Tryz.prog 107 #[.pointer (some ⟨g, 0, none⟩), .slice (some ⟨W.heap.size, 0, none⟩) n n] (W.alloc (.cells cs 9)) fun e w' => e = .panicked (flt (offZ ts p)) ∧ Ex g W w')
theorem TkC.mk' {g tb n : Nat} {ts : List TkV} {cs : Array Value} (ks : List Nat) (hcs : cs = ((ks.map kdT).map Value.string).toArray) (hn : n = (ks.map kdT).length) (hkl : ks.length ≤ 100) (hk8 : ∀ k ∈ ks, k < 256) (hok : ∀ j, j < ts.length → TkOk (ts.getD j noTk)) (hl : ts.length ≤ 100000) : TkC g tb ts ks cs n := by
  subst hcs hn
  exact ⟨fun W p hP h => ⟨_, _, _, _, rfl, rfl, rfl, rfl, tkP_yes ks hP hkl hk8 hok hl h.1 h.2⟩, fun W p hP h => tkP_no ks hP hkl hk8 hok hl fun h1 h2 => h ⟨h1, h2⟩⟩

/-- the loop over an atom's terms -/
def AtJ (ts : List TkV) (R : Except Nat (AtomV × Nat)) (rel : ByteArray) (q : Nat) (more : Bool) (acc : List TermV) : Prop := if more then ∃ f, ts.length ≤ q + f ∧ R = finA (trmF ts f q acc) rel else R = .ok ((rel, acc), q)
section
variable {ts : List TkV} {R : Except Nat (AtomV × Nat)} {rel : ByteArray} {q : Nat} {acc : List TermV}
theorem AtJ.bad1 (h : AtJ ts R rel q true acc) (hk : ¬ isK ts [97, 48] q) : R = .error q := by
  obtain ⟨f, hf, e⟩ := h
  rw [e]
  cases f with
  | zero => rfl
  | succ f => rw [trmF, tk_isnt hk]; rfl
theorem AtJ.bad2 (h : AtJ ts R rel q true acc) (hk : isK ts [97, 48] q) (hk2 : ¬ isK ts [44, 41] (q + 1)) : R = .error (q + 1) := by
  obtain ⟨f, hf, e⟩ := h
  rw [e]
  cases f with
  | zero => have := hk.1; omega
  | succ f => rw [trmF, tk_is hk]; simp only; rw [tk_isnt hk2]; rfl
theorem AtJ.step (h : AtJ ts R rel q true acc) (hk : isK ts [97, 48] q) (hk2 : isK ts [44, 41] (q + 1)) : AtJ ts R rel (q + 1 + 1) (decide ((ts.getD (q + 1) noTk).k = 44)) (acc ++ [((ts.getD q noTk).nm, ((ts.getD q noTk).v : Int))]) := by
  obtain ⟨f, hf, e⟩ := h
  cases f with
  | zero => have := hk.1; omega
  | succ f =>
    rw [trmF, tk_is hk] at e
    simp only at e
    rw [tk_is hk2] at e
    simp only at e
    by_cases h44 : (ts.getD (q + 1) noTk).k = 44
    · rw [if_pos h44] at e
      rw [decide_eq_true h44]
      exact ⟨f, by omega, e⟩
    · rw [if_neg h44] at e
      rw [decide_eq_false h44]
      exact e
end
theorem kd_eq {t : TkV} {c : Nat} (ht : TkOk t) (hc : c < 256) : ((kdT t.k).toList == (kdT c).toList) = decide (t.k = c) := by
  have := has_kd (ks := [c]) ht (by simpa using hc)
  unfold hasT at this
  simp only [List.map_cons, List.map_nil, List.any_cons, List.any_nil, Bool.or_false, List.mem_singleton] at this
  rw [beq_sym]
  exact this

/-- how atom ends -/
def AtP (w : World) (g tb : Nat) (ts : List TkV) (R : Except Nat (AtomV × Nat)) (e : Ending) (w' : World) : Prop :=
  (∃ rel x tm p', R = .ok ((rel, tm), p') ∧ e = .returned (.agg #[.string rel, x]) ∧ w'.ownsRow w.heap.size 89 2 x tm.length (tm.flatMap tmc) ∧ PaP w' g tb ts p' ∧ Ex g w w') ∨ (∃ pe, R = .error pe ∧ e = .panicked (flt (offZ ts pe)) ∧ Ex g w w')

end Go.Proofs.YtcdfoephhjacdaaGreatDoor

/-
  The program's parser: atom, walked.
-/
namespace Go.Proofs.YtcdfoephhjacdaaGreatDoor
open Go.RowKit

theorem Tryz.fieldK0 (b c d e : Value) (w : World) : Sem.run Tryz.prog (Instr.field 156 (.agg #[b, c, d, e]) 0) w = .ok b w := by kernel_rfl
theorem Tryz.fieldK1 (b c d e : Value) (w : World) : Sem.run Tryz.prog (Instr.field 156 (.agg #[b, c, d, e]) 1) w = .ok c w := by kernel_rfl

set_option maxHeartbeats 16000000 in
set_option maxRecDepth 1000000 in
theorem pAtom_calls (w : World) (g tb p : Nat) (ts : List TkV) (h : PaP w g tb ts p) (htb : tb < w.heap.size) (hok : ∀ j, j < ts.length → TkOk (ts.getD j noTk)) (hl : ts.length ≤ 100000) :
    Calls Tryz.prog 109 #[.pointer (some ⟨g, 0, none⟩)] w (AtP w g tb ts (atmF ts p)) := by
  obtain ⟨iT, hi, hz0, hz1, hz2⟩ := info_parts Tryz.infoTm
  have fk0 := Tryz.fieldK0
  have fk1 := Tryz.fieldK1
  obtain ⟨W1, hW1⟩ : ∃ W, W = w.alloc (.cells #[.string ⟨#[]⟩, .slice none 0 0] 55) := ⟨_, rfl⟩
  have hB1 : Below w.heap.size w W1 := by rw [hW1]; exact (Below.refl _ _).alloc (Nat.le_refl _) _
  have hR0 : W1.heap[w.heap.size]? = some (.cells #[.string ⟨#[]⟩, .slice none 0 0] 55 (0, 0)) := by rw [hW1]; exact heap_alloc_new _ _
  have hs1 : w.heap.size < W1.heap.size := by rw [hW1]; simp
  have hglt := h.lt
  have HX1 : Hid (Ex g w W1) := hid (Ex.bel hB1)
  have HR0 := hid hR0
  have HP1 := hid (h.below hB1)
  have T97 : Hid (TkC g tb ts [97] #[.string ⟨#[97]⟩] 1) := hid (TkC.mk' [97] rfl rfl (by decide) (by simp) hok hl)
  have T40 : Hid (TkC g tb ts [40] #[.string ⟨#[40]⟩] 1) := hid (TkC.mk' [40] rfl rfl (by decide) (by simp) hok hl)
  have T9748 : Hid (TkC g tb ts [97, 48] #[.string ⟨#[97]⟩, .string ⟨#[48]⟩] 2) := hid (TkC.mk' [97, 48] rfl rfl (by decide) (by simp) hok hl)
  have T4441 : Hid (TkC g tb ts [44, 41] #[.string ⟨#[44]⟩, .string ⟨#[41]⟩] 2) := hid (TkC.mk' [44, 41] rfl rfl (by decide) (by simp) hok hl)
  have HKd : Hid (∀ q, q < ts.length → ((kdT (ts.getD q noTk).k).toList == [44]) = decide ((ts.getD q noTk).k = 44)) := hid fun q hq => by
    have := kd_eq (hok q hq) (show 44 < 256 by decide)
    have e : (kdT 44).toList = [44] := by unfold kdT; simp only [ByteArray.toList_eq]; rfl
    rw [e] at this
    exact this
  obtain ⟨R, hR⟩ : ∃ R, R = atmF ts p := ⟨_, rfl⟩
  have HA1 : Hid (¬ isK ts [97] p → R = .error p) := hid fun hk => by rw [hR]; unfold atmF; rw [tk_isnt hk]
  have HA2 : Hid (isK ts [97] p → ¬ isK ts [40] (p + 1) → R = .error (p + 1)) := hid fun hk hk2 => by rw [hR]; unfold atmF; rw [tk_is hk]; simp only; rw [tk_isnt hk2]
  have HA3 : Hid (isK ts [97] p → isK ts [40] (p + 1) → AtJ ts R (ts.getD p noTk).nm (p + 1 + 1) true []) := hid fun hk hk2 => by
    refine ⟨ts.length + 1, by omega, ?_⟩
    rw [hR]; unfold atmF; rw [tk_is hk]; simp only; rw [tk_is hk2]; rfl
  rw [← hR]
  generalize hE : AtP w g tb ts R = E
  have HNo : Hid (∀ pe w', R = .error pe → Ex g w w' → E (.panicked (flt (offZ ts pe))) w') := hid fun pe w' h1 h2 => by rw [← hE]; exact Or.inr ⟨pe, h1, rfl, h2⟩
  have HYes : Hid (∀ rel x tm p' w', R = .ok ((rel, tm), p') → w'.ownsRow w.heap.size 89 2 x tm.length (tm.flatMap tmc) → PaP w' g tb ts p' → Ex g w w' → E (.returned (.agg #[.string rel, x])) w') := hid fun rel x tm p' w' h1 h2 h3 h4 => by rw [← hE]; exact Or.inl ⟨rel, x, tm, p', h1, rfl, h2, h3, h4⟩
  clear hE hR h hok
  by_cases k1 : isK ts [97] p
  case neg =>
    have hRe := HA1.out k1
    have K1 := hid (T97.out.2 W1 p HP1.out k1)
    have HE := hid (fun w' h2 => HNo.out p w' hRe h2)
    clear HA1 HA2 HA3 HYes HNo hRe k1 T97 T40 T9748 T4441 HKd HP1 HR0
    generalize offZ ts p = z at *
    go_enter Tryz.func109, Tryz.ntmps109
    go_upto_region 1 with fail
    rw [← hW1]
    clear hW1
    go_wp2_with fail
    refine K1.out.mono ?_
    rintro e w2 ⟨rfl, hx2⟩
    go_wp2_with fail
    exact ⟨rfl, HE.out _ (HX1.out.trans hx2)⟩
  case pos =>
  obtain ⟨k, rel, v1, a1, -, hrel, -, -, hK1⟩ := T97.out.1 W1 p HP1.out k1
  have K1 := hid hK1
  rw [← hrel] at HA3
  generalize kdT k = kd1 at *
  clear hK1 hrel HA1 T97
  by_cases k2 : isK ts [40] (p + 1)
  case neg =>
    have hRe := HA2.out k1 k2
    have K2 : Hid (∀ W, PaP W g tb ts (p + 1) → _) := hid fun W hW => T40.out.2 W (p + 1) hW k2
    have HE := hid (fun w' h2 => HNo.out (p + 1) w' hRe h2)
    clear HA2 HA3 HYes HNo hRe k1 k2 T40 T9748 T4441 HKd HP1 HR0
    generalize offZ ts (p + 1) = z at *
    go_enter Tryz.func109, Tryz.ntmps109
    go_upto_region 1 with fail
    rw [← hW1]
    clear hW1
    go_wp2_with fail
    refine K1.out.mono ?_
    rintro e w2 ⟨rfl, hp2, hx2⟩
    go_upto_region 2 with fail
    obtain ⟨W3, hW3⟩ : ∃ W, W = w2.alloc (.cells #[.string rel, .slice none 0 0] 55) := ⟨_, rfl⟩
    have hb3 : Below w2.heap.size w2 W3 := by rw [hW3]; exact (Below.refl _ _).alloc (Nat.le_refl _) _
    have K3 := hid (K2.out W3 (hp2.below hb3))
    have HX3 : Hid (Ex g w W3) := hid ((HX1.out.trans hx2).trans (Ex.bel hb3))
    rw [← hW3]
    clear hW3 hb3 hp2 hx2 K2 K1
    go_wp2_with fail
    refine K3.out.mono ?_
    rintro e w4 ⟨rfl, hx4⟩
    go_wp2_with fail
    exact ⟨rfl, HE.out _ (HX3.out.trans hx4)⟩
  case pos =>
  have K2 : Hid (∀ W, PaP W g tb ts (p + 1) → ∃ va : Value, Calls Tryz.prog 107 #[.pointer (some ⟨g, 0, none⟩), .slice (some ⟨W.heap.size, 0, none⟩) 1 1] (W.alloc (.cells #[.string ⟨#[40]⟩] 9)) fun e w' => e = .returned va ∧ PaP w' g tb ts (p + 1 + 1) ∧ Ex g W w') := hid fun W hW => by
    obtain ⟨k, nm, v, a, -, -, -, -, hK⟩ := T40.out.1 W (p + 1) hW k2
    exact ⟨_, hK⟩
  have HJ0 := hid (HA3.out k1 k2)
  have hp2 : p + 1 + 1 ≤ ts.length := k2.1
  clear HA2 HA3 k1 k2 T40 HP1
  have hle : ts.length ≤ 100000 := hl
  go_enter Tryz.func109, Tryz.ntmps109
  go_upto_region 1 with fail
  rw [← hW1]
  clear hW1
  go_wp2_with fail
  refine K1.out.mono ?_
  rintro e w2 ⟨rfl, hpp2, hx2⟩
  go_upto_region 2 with fail
  obtain ⟨W3, hW3⟩ : ∃ W, W = w2.alloc (.cells #[.string rel, .slice none 0 0] 55) := ⟨_, rfl⟩
  have hb3 : Below w2.heap.size w2 W3 := by rw [hW3]; exact (Below.refl _ _).alloc (Nat.le_refl _) _
  obtain ⟨va, hK3⟩ := K2.out W3 (hpp2.below hb3)
  have K3 := hid hK3
  have HAt : Hid (AtS W1 W3 g w2.heap.size rel (.slice none 0 0) []) := hid ⟨by rw [hW3]; exact heap_alloc_new _ _, ⟨rfl, Or.inl ⟨rfl, rfl⟩⟩, by rw [hW3]; exact hx2.allocd _, hx2.size, by omega⟩
  rw [← hW3]
  obtain ⟨A, hA⟩ : ∃ A, A = w2.heap.size := ⟨_, rfl⟩
  rw [← hA] at HAt ⊢
  clear hW3 hb3 hpp2 hx2 K2 K1 hK3 hA
  go_upto_region 3 with (first | (go_at_call 107; refine K3.out.mono ?_; rintro e w4 ⟨rfl, hpp4, hx4⟩) | fail)
  have HAt := hid (HAt.out.next hx4)
  have HP4 := hid hpp4
  clear hx4 hpp4 K3
  generalize p + 1 + 1 = q0 at *
  obtain ⟨N, hN⟩ : ∃ N, N = ts.length := ⟨_, rfl⟩
  have HN := hid hN
  rw [← hN] at hle hp2
  clear hN hl
  go_wp2_with fail
  go_loopw [4] (fun m wr => ∃ (q : Nat) (more : Bool) (acc : List TermV), q ≤ N ∧ acc.length ≤ q ∧ m = .bool more ∧ Hid (AtJ ts R rel q more acc ∧ PaP wr g tb ts q ∧ ∃ x, AtS W1 wr g A rel x acc)) (fun _ wr => remOf wr g)
  case atStart => exact ⟨q0, true, [], hp2, Nat.zero_le _, rfl, hid ⟨HJ0.out, HP4.out, _, HAt.out⟩⟩
  case round =>
    clear HJ0 HP4 HAt hp2
    obtain ⟨q, more, acc, hq, hal, rfl, HS⟩ := hrel
    obtain ⟨hJ, hP, x0, hA⟩ := HS.out
    have HJ := hid hJ
    have HP := hid hP
    have HAt := hid hA
    have hrem := hP.rem
    rw [← HN.out] at hrem
    clear HS hJ hP hA
    cases more with
    | false =>
      obtain ⟨ax, cx, ex⟩ := own_shapeT2 HAt.out.own
      subst ex
      have hgr : w.heap.size ≠ g := by omega
      have d0 := HAt.out.c0
      have d1 := HAt.out.c1
      have br := (HAt.out.ex.block w.heap.size hs1 hgr).trans HR0.out
      have r0 : wr.cell? ⟨w.heap.size, 0, none⟩ = some (.string ⟨#[]⟩) := cell_of_row _ _ _ _ _ _ br
      have r1 : wr.cell? ⟨w.heap.size, 1, none⟩ = some (.slice none 0 0) := cell_of_row _ _ _ _ _ _ br
      have f0 : wr.frozen? ⟨w.heap.size, 0, none⟩ = false := by unfold World.frozen?; rw [br]; simp
      have f1 : wr.frozen? ⟨w.heap.size, 1, none⟩ = false := by unfold World.frozen?; rw [br]; simp
      have hfin := at2_set (x := .string rel) (y := .slice ax acc.length cx) br
      have hm1 : (wr.setCell ⟨w.heap.size, 0, none⟩ (.string rel)).heap[w.heap.size]? = some (.cells #[.string rel, .slice none 0 0] 55 (0, 0)) := by rw [heap_setCell_same _ _ _ _ _ _ br]; rfl
      obtain ⟨WF, hWF⟩ : ∃ W, W = (wr.setCell ⟨w.heap.size, 0, none⟩ (.string rel)).setCell ⟨w.heap.size, 1, none⟩ (.slice ax acc.length cx) := ⟨_, rfl⟩
      have HE := hid (HYes.out rel (.slice ax acc.length cx) acc q WF HJ.out (by rw [hWF]; exact own_setA (own_setA (own_base HAt.out.own (Nat.le_of_lt hs1)) br) hm1) (by rw [hWF]; exact (HP.out.set hgr (by omega)).set hgr (by omega)) (by rw [hWF]; exact ((HX1.out.trans HAt.out.ex).new (Nat.le_refl _)).new (Nat.le_refl _)))
      rw [← hWF] at hfin
      have HFN := hid hfin
      have HWF := hid hWF
      clear hfin hm1 br hWF HYes HNo HJ HP HAt HX1 HR0 T9748 T4441 HKd HN
      go_upto_region 8 with fail
      go_cut [33] from 5 (fun _ wx => Hid (wx = WF))
      case first =>
        go_wp2_with fail
        go_meet
        exact hid HWF.out.symm
      case rest =>
        have hw := hcut.out
        subst wc
        have q0 : WF.cell? ⟨w.heap.size, 0, none⟩ = some (.string rel) := cell_of_row _ _ _ _ _ _ HFN.out
        have q1 : WF.cell? ⟨w.heap.size, 1, none⟩ = some (.slice ax acc.length cx) := cell_of_row _ _ _ _ _ _ HFN.out
        clear d0 d1 r0 r1 f0 f1
        rename_i KK1 hKK1
        refine hKK1 _ _ ?_
        refine wp_ret ?_
        refine bodyPost_ret (v := .agg #[.string rel, .slice ax acc.length cx]) (by simp [results, Tryz.results109, go_sem, q0, q1]) rfl ?_
        exact HE.out
    | true =>
      by_cases j1 : isK ts [97, 48] q
      case neg =>
        have hRe := HJ.out.bad1 j1
        have K5 := hid (T9748.out.2 wr q HP.out j1)
        have HX := hid (HX1.out.trans HAt.out.ex)
        have HE := hid (fun w' h2 => HNo.out q w' hRe h2)
        clear HYes HNo hRe j1 T9748 T4441 HKd HP HAt HX1 HR0 HJ HN
        generalize offZ ts q = z at *
        go_wp2_with fail
        refine K5.out.mono ?_
        rintro e w5 ⟨rfl, hx5⟩
        go_wp2_with fail
        exact ⟨rfl, HE.out _ (HX.out.trans hx5)⟩
      case pos =>
      obtain ⟨tk', tnm, tvv, tat, -, htnm, htvv, -, hK5⟩ := T9748.out.1 wr q HP.out j1
      have K5 := hid hK5
      have HTn := hid htnm
      have HTv := hid htvv
      clear htnm htvv
      generalize kdT tk' = kd5 at *
      have hq1 : q + 1 ≤ N := by have := j1.1; have := HN.out; omega
      clear hK5
      go_wp2_with fail
      refine K5.out.mono ?_
      rintro e w5 ⟨rfl, hpp5, hx5⟩
      have HA5 := hid (HAt.out.next hx5)
      have HP5 := hid hpp5
      clear hpp5 hx5 K5 HAt
      go_upto_region 7 with fail
      obtain ⟨W6, hW6⟩ : ∃ W, W = w5.alloc (.cells #[.string kd5, .string tnm, .int .i64 (tvv : Int), .int .i64 (tat : Int)] 156) := ⟨_, rfl⟩
      have hb6 : Below w5.heap.size w5 W6 := by rw [hW6]; exact (Below.refl _ _).alloc (Nat.le_refl _) _
      have hbl : W6.heap[w5.heap.size]? = some (.cells #[.string kd5, .string tnm, .int .i64 (tvv : Int), .int .i64 (tat : Int)] 156 (0, 0)) := by rw [hW6]; exact heap_alloc_new _ _
      have t1 : W6.cell? ⟨w5.heap.size, 1, none⟩ = some (.string tnm) := cell_of_row _ _ _ _ _ _ hbl
      have t2 : W6.cell? ⟨w5.heap.size, 2, none⟩ = some (.int .i64 (tvv : Int)) := cell_of_row _ _ _ _ _ _ hbl
      have HA6 := hid (HA5.out.next (Ex.bel hb6))
      have HP6' := hid (HP5.out.below hb6)
      rw [← hW6]
      clear hW6 hb6 hbl HA5 HP5
      obtain ⟨ax, cx, ex⟩ := own_shapeT2 HA6.out.own
      obtain ⟨nx', hnx'⟩ : ∃ n, n = acc.length := ⟨_, rfl⟩
      rw [← hnx'] at ex
      subst ex
      have hAg : A ≠ g := by have := HA6.out.hA; have := HA6.out.hg; omega
      have hAt : A ≠ tb := by have := HA6.out.hA; omega
      have c1 := HA6.out.c1
      have HOA : Hid (W6.ownsRow W1.heap.size 89 2 (.slice ax nx' cx) nx' (acc.flatMap tmc)) := hid (by have h := HA6.out.own; rw [← hnx'] at h; exact h)
      have HSz := hid HA6.out.ex.size
      have HPush : Hid (∀ (w6 : World) (o : Obj) (x' : Value), (W6.alloc o).grownBy w6 (Value.slice ax nx' cx).ownBlock → w6.ownsRow W1.heap.size 89 2 x' (nx' + 1) (acc.flatMap tmc ++ [.string tnm, .int .i64 (tvv : Int)]) → AtS W1 (w6.setCell ⟨A, 1, none⟩ x') g A rel x' (acc ++ [(tnm, (tvv : Int))])) := hid fun w6 o x' h2 h3 => HA6.out.push (t := (tnm, (tvv : Int))) h2 (by rw [← hnx']; exact h3)
      have HPar : Hid (∀ (w6 : World) (o : Obj) (x' : Value), (W6.alloc o).grownBy w6 (Value.slice ax nx' cx).ownBlock → PaP (w6.setCell ⟨A, 1, none⟩ x') g tb ts (q + 1)) := hid fun w6 o x' h2 => (HP6'.out.belN (HA6.out.bel3 h2) (by omega) (by omega)).set hAg hAt
      have HBl : Hid (∀ (w6 : World) (o : Obj), (W6.alloc o).grownBy w6 (Value.slice ax nx' cx).ownBlock → w6.heap[A]? = some (.cells #[.string rel, .slice ax nx' cx] 55 (0, 0))) := hid fun w6 o h2 => HA6.out.blk3 h2
      have hnl : nx' ≤ 100001 := by omega
      have HAcc : Hid ((acc ++ [(tnm, (tvv : Int))]).length = nx' + 1) := hid (by rw [List.length_append, List.length_singleton, hnx'])
      have hal' : nx' ≤ q := by omega
      have da : ∀ o', (W6.alloc o').cell? ⟨A, 1, none⟩ = some (.slice ax nx' cx) := fun o' => (World.cell?_alloc_past _ _ _ HA6.out.lt).trans c1
      clear hnx' HA6 HP6'
      generalize w5.heap.size = tl at *
      go_upto_region 5 with (first | (at_builtin; refine wpList_append_lies _ rfl _ _ 53 rfl W1.heap.size 89 iT (.agg #[.string ⟨#[]⟩, .int .i64 0]) 2 24 Tryz.underlying53 hi hz0 hz1 hz2 rfl (by decide) (.slice ax nx' cx) nx' (acc.flatMap tmc) rfl (HOA.out.alloc _) ⟨_, 0, none⟩ 1 1 [.string tnm, .int .i64 (tvv : Int)] rfl rfl (new2_cell _ _ _ _) (fun u hu => by simp at hu; rcases hu with rfl | rfl <;> rfl) (by decide) (by unfold maxLen; omega) (by omega) (by have := HSz.out; simp; omega) _ rfl ?_; intro g6 cp6 w6 hown6 hgrow6 hat6 hlt6; have HN6 := hid (HPush.out w6 _ (.slice (some ⟨g6, 0, none⟩) (nx' + 1) cp6) hgrow6 hown6); have HP6 := hid (HPar.out w6 _ (.slice (some ⟨g6, 0, none⟩) (nx' + 1) cp6) hgrow6); have b6 := HBl.out w6 _ hgrow6; have d6 : w6.cell? ⟨A, 1, none⟩ = some (.slice ax nx' cx) := (cell_of_row _ _ _ _ _ _ b6); have f6 : w6.frozen? ⟨A, 1, none⟩ = false := (by unfold World.frozen?; rw [b6]; simp); clear hown6 hgrow6 hat6 hlt6 b6) | fail)
      clear c1 d6 f6 t1 t2 HOA HPush HPar HBl HSz da
      generalize w6.setCell ⟨A, 1, none⟩ (.slice (some ⟨g6, 0, none⟩) (nx' + 1) cp6) = W7 at *
      have HST : Hid (∀ j2 : isK ts [44, 41] (q + 1), AtJ ts R rel (q + 1 + 1) (decide ((ts.getD (q + 1) noTk).k = 44)) (acc ++ [(tnm, (tvv : Int))])) := hid fun j2 => by have := HJ.out.step j1 j2; rw [← HTn.out, ← HTv.out] at this; exact this
      have HB2 : Hid (¬ isK ts [44, 41] (q + 1) → R = .error (q + 1)) := hid fun j2 => HJ.out.bad2 j1 j2
      have HX7 := hid (HX1.out.trans HN6.out.ex)
      clear HJ j1 HTn HTv T9748
      by_cases j2 : isK ts [44, 41] (q + 1)
      case neg =>
        have hRe := HB2.out j2
        have K7 := hid (T4441.out.2 W7 (q + 1) HP6.out j2)
        have HE := hid (fun w' h2 => HNo.out (q + 1) w' hRe h2)
        clear HYes HNo hRe j2 T4441 HKd HP6 HN6 HX1 HR0 HN HST HB2
        generalize offZ ts (q + 1) = z at *
        go_wp2_with fail
        refine K7.out.mono ?_
        rintro e w8 ⟨rfl, hx8⟩
        go_wp2_with fail
        exact ⟨rfl, HE.out _ (HX7.out.trans hx8)⟩
      case pos =>
        obtain ⟨uk, unm, uv, ua, huk, -, -, -, hK7⟩ := T4441.out.1 W7 (q + 1) HP6.out j2
        have K7 := hid hK7
        have hkd := HKd.out (q + 1) j2.1
        have hq2 : q + 1 + 1 ≤ N := by have := j2.1; have := HN.out; omega
        have HJ8 := hid (HST.out j2)
        rw [← huk] at hkd HJ8
        clear hK7 huk HST HB2 HNo HYes T4441 HKd HR0 j2
        generalize decide (uk = 44) = mb at *
        go_wp2_with fail
        refine K7.out.mono ?_
        rintro e w8 ⟨rfl, hpp8, hx8⟩
        have HA8 := hid (HN6.out.next hx8)
        have HP8 := hid hpp8
        have hrem8 := hpp8.rem
        rw [← HN.out] at hrem8
        clear hpp8 hx8 K7 HN6 HP6
        generalize kdT uk = kd8 at *
        go_wp2_with fail
        go_roundw
        case rel => exact ⟨q + 1 + 1, mb, _, hq2, by rw [HAcc.out]; omega, by first | rfl | rw [hkd], hid ⟨HJ8.out, HP8.out, _, HA8.out⟩⟩
        case measure => rw [hrem8, hrem]; omega

end Go.Proofs.YtcdfoephhjacdaaGreatDoor
