import Derived.Deep.CutBlock
import Derived.LoopN
import Derived.Test.YtcdfoephhjacdaaDoorQ71
/-
  The program's parser: ring.
-/
namespace Go.Proofs.YtcdfoephhjacdaaDoor
open Go.RowKit

/-- the words of the rings in their variable -/
def RgV (W : World) : Prop := ∀ k : Nat, k < 4 → W.cell? ⟨5, k, none⟩ = some (.string (rgT k))
theorem RgV.ex {g : Nat} {W W' : World} (h : RgV W) (he : Ex g W W') (hg : 5 ≠ g) : RgV W' := fun k hk => he.cell hg (h k hk)
theorem RgV.below {W W' : World} (h : RgV W) (hb : Below W.heap.size W W') : RgV W' := fun k hk => (hb.cell (p := ⟨5, k, none⟩) (World.block_lt_of_cell? W _ (h k hk))).trans (h k hk)
def rgI (ts : List TkV) (q : Nat) : Nat := if isK ts [97] q then rngN (ts.getD q noTk).nm else 0

theorem Tryd.indexG0 (a b c d : Value) (w : World) : Sem.run Tryd.prog (Instr.index 225 (.agg #[a, b, c, d]) (.int .i64 0)) w = .ok a w := by kernel_rfl
theorem Tryd.indexG1 (a b c d : Value) (w : World) : Sem.run Tryd.prog (Instr.index 225 (.agg #[a, b, c, d]) (.int .i64 1)) w = .ok b w := by kernel_rfl
theorem Tryd.indexG2 (a b c d : Value) (w : World) : Sem.run Tryd.prog (Instr.index 225 (.agg #[a, b, c, d]) (.int .i64 2)) w = .ok c w := by kernel_rfl
theorem Tryd.indexG3 (a b c d : Value) (w : World) : Sem.run Tryd.prog (Instr.index 225 (.agg #[a, b, c, d]) (.int .i64 3)) w = .ok d w := by kernel_rfl
/-- how ring ends -/
def RgE (w : World) (g tb q : Nat) (ts : List TkV) (e : Ending) (w' : World) : Prop := (rgI ts q ≠ 0 ∧ e = .returned (.int .i64 (rgI ts q : Int)) ∧ PaP w' g tb ts (q + 1) ∧ Ex g w w') ∨ (rgI ts q = 0 ∧ e = .panicked (flt (offZ ts q)) ∧ Ex g w w')

set_option maxHeartbeats 16000000 in
set_option maxRecDepth 1000000 in
theorem pRing_calls (w : World) (g tb q : Nat) (ts : List TkV) (h : PaP w g tb ts q) (hrg : RgV w) (hVg : 5 ≠ g) (hok : ∀ j, j < ts.length → TkOk (ts.getD j noTk)) (hl : ts.length ≤ 100000) :
    Calls Tryd.prog 132 #[.pointer (some ⟨g, 0, none⟩)] w (RgE w g tb q ts) := by
  have T97 : Hid (TkC g tb ts [97] #[.string ⟨#[97]⟩] 1) := hid (TkC.mk' [97] rfl rfl (by decide) (by simp) hok hl)
  generalize hE : RgE w g tb q ts = E
  have HNo : Hid (∀ w', rgI ts q = 0 → Ex g w w' → E (.panicked (flt (offZ ts q))) w') := hid fun w' h1 h2 => by rw [← hE]; exact Or.inr ⟨h1, rfl, h2⟩
  have HYes : Hid (∀ w', rgI ts q ≠ 0 → PaP w' g tb ts (q + 1) → Ex g w w' → E (.returned (.int .i64 (rgI ts q : Int))) w') := hid fun w' h1 h2 h3 => by rw [← hE]; exact Or.inl ⟨h1, rfl, h2, h3⟩
  clear hE
  by_cases k1 : isK ts [97] q
  case neg =>
    have K1 := hid (T97.out.2 w q h k1)
    have e0 : rgI ts q = 0 := if_neg k1
    have HE := hid (fun w' h2 => HNo.out w' e0 h2)
    clear T97 h hrg k1 e0 HNo HYes
    generalize offZ ts q = z at *
    go_enter Tryd.func132, Tryd.ntmps132
    go_wp2_with fail
    refine K1.out.mono ?_
    rintro e w2 ⟨rfl, hx2⟩
    go_wp2_with fail
    exact ⟨rfl, HE.out _ hx2⟩
  case pos =>
    obtain ⟨k, nm, v1, a1, hk1, hnm, -, ha1, hK1⟩ := T97.out.1 w q h k1
    have K1 := hid hK1
    have e0 : rgI ts q = rngN nm := by unfold rgI; rw [if_pos k1, hnm]
    have ez : offZ ts q = (a1 : Int) := by unfold offZ; rw [if_pos k1.1, ha1]
    have hnz : nm.size ≠ 0 := by rw [hnm]; exact (hok q k1.1).nz (by have := k1.2; simpa using this)
    have hm := rng_eq hnz
    have HRG := hid hrg
    rw [e0, ez] at HNo
    rw [e0] at HYes
    have HVg := hid hVg
    have m0 := hm 0 (by omega)
    have m1 := hm 1 (by omega)
    have m2 := hm 2 (by omega)
    have m3 := hm 3 (by omega)
    have hlt := rngN_lt nm
    have KU : Hid (∀ (W : World) (kd : ByteArray) (v : Int), Calls Tryd.prog 114 #[.agg #[.string kd, .string nm, .int .i64 v, .int .i64 (a1 : Int)]] W fun e w' => e = .returned (.agg #[.int .i64 3, .int .i64 (a1 : Int)]) ∧ Below W.heap.size W w') := hid fun W kd v => unfit_any W kd nm v a1
    clear hK1 hnm ha1 e0 ez hm hok T97 h k1 hk1 hrg hVg hnz
    generalize kdT k = kd1 at *
    generalize rngN nm = rr at *
    go_enter Tryd.func132, Tryd.ntmps132
    go_wp2_with fail
    refine K1.out.mono ?_
    rintro e w2 ⟨rfl, hpp2, hx2⟩
    have hR2 := HRG.out.ex hx2 HVg.out
    have HP2 := hid hpp2
    have HX2 := hid hx2
    clear hx2 hpp2 K1 HRG
    go_upto_region 2 with fail
    obtain ⟨W3, hW3⟩ : ∃ W, W = w2.alloc (.cells #[.string kd1, .string nm, .int .i64 (v1 : Int), .int .i64 (a1 : Int)] 151) := ⟨_, rfl⟩
    have hb3 : Below w2.heap.size w2 W3 := by rw [hW3]; exact (Below.refl _ _).alloc (Nat.le_refl _) _
    have hbl : W3.heap[w2.heap.size]? = some (.cells #[.string kd1, .string nm, .int .i64 (v1 : Int), .int .i64 (a1 : Int)] 151 (0, 0)) := by rw [hW3]; exact heap_alloc_new _ _
    have t0 : W3.cell? ⟨w2.heap.size, 0, none⟩ = some (.string kd1) := cell_of_row _ _ _ _ _ _ hbl
    have t1 : W3.cell? ⟨w2.heap.size, 1, none⟩ = some (.string nm) := cell_of_row _ _ _ _ _ _ hbl
    have t2 : W3.cell? ⟨w2.heap.size, 2, none⟩ = some (.int .i64 (v1 : Int)) := cell_of_row _ _ _ _ _ _ hbl
    have t3 : W3.cell? ⟨w2.heap.size, 3, none⟩ = some (.int .i64 (a1 : Int)) := cell_of_row _ _ _ _ _ _ hbl
    have hR3 := hR2.below hb3
    have c0 := hR3 0 (by omega)
    have c1 := hR3 1 (by omega)
    have c2 := hR3 2 (by omega)
    have c3 := hR3 3 (by omega)
    have HX3 : Hid (Ex g w W3) := hid (HX2.out.trans (Ex.bel hb3))
    have HP3 : Hid (PaP W3 g tb ts (q + 1)) := hid (HP2.out.below hb3)
    rw [← hW3]
    clear hW3 hb3 hbl hR2 hR3 HP2 HX2 HVg
    generalize w2.heap.size = tl at *
    generalize rgT 0 = s0 at *
    generalize rgT 1 = s1 at *
    generalize rgT 2 = s2 at *
    generalize rgT 3 = s3 at *
    have n0 : (nm.toList == s0.toList) = false := by rw [m0]; exact decide_eq_false (by omega)
    clear m0
    have ig0 := Tryd.indexG0
    have ig1 := Tryd.indexG1
    have ig2 := Tryd.indexG2
    have ig3 := Tryd.indexG3
    go_wp2_with fail
    refine wp_loop_rounds 5 ?_
    rw [rounds_succ]
    go_wp2_with fail
    rw [rounds_succ]
    by_cases r1 : rr = 1
    · have n1 : (nm.toList == s1.toList) = true := by rw [m1]; exact decide_eq_true ⟨r1, by omega⟩
      have HE := hid (HYes.out W3 (by omega) HP3.out HX3.out)
      rw [r1] at HE
      clear m1 m2 m3 HYes HNo
      go_wp2_with fail
      exact HE.out
    · have n1 : (nm.toList == s1.toList) = false := by rw [m1]; exact decide_eq_false (by omega)
      clear m1
      go_wp2_with fail
      rw [rounds_succ]
      by_cases r2 : rr = 2
      · have n2 : (nm.toList == s2.toList) = true := by rw [m2]; exact decide_eq_true ⟨r2, by omega⟩
        have HE := hid (HYes.out W3 (by omega) HP3.out HX3.out)
        rw [r2] at HE
        clear m2 m3 HYes HNo
        go_wp2_with fail
        exact HE.out
      · have n2 : (nm.toList == s2.toList) = false := by rw [m2]; exact decide_eq_false (by omega)
        clear m2
        go_wp2_with fail
        rw [rounds_succ]
        by_cases r3 : rr = 3
        · have n3 : (nm.toList == s3.toList) = true := by rw [m3]; exact decide_eq_true ⟨r3, by omega⟩
          have HE := hid (HYes.out W3 (by omega) HP3.out HX3.out)
          rw [r3] at HE
          clear m3 HYes HNo
          go_wp2_with fail
          exact HE.out
        · have n3 : (nm.toList == s3.toList) = false := by rw [m3]; exact decide_eq_false (by omega)
          have HE := hid (fun w' h2 => HNo.out w' (by omega) h2)
          clear m3 HYes HNo
          go_wp2_with fail
          rw [rounds_succ]
          go_wp2_with (first | (go_at_call 114; refine (KU.out _ _ _).mono ?_; rintro e w4 ⟨rfl, hb4⟩; have HX4 := hid (HX3.out.trans (Ex.bel hb4)); clear hb4) | fail)
          exact ⟨rfl, HE.out _ HX4.out⟩

end Go.Proofs.YtcdfoephhjacdaaDoor

/-
  The program's parser: head.
-/
namespace Go.Proofs.YtcdfoephhjacdaaDoor
open Go.RowKit

def rngK (ts : List TkV) (q : Nat) (acc : List ByteArray) : Except Nat (List ByteArray × Nat × Nat) := match rngF ts q with | .error e => .error e | .ok (r, p2) => .ok (acc, r, p2)
/-- inside the head, the token t just taken -/
def HdJ (ts : List TkV) (R : Except Nat (List ByteArray × Nat × Nat)) (q : Nat) (t : TkV) (acc : List ByteArray) : Prop := (t.k = 97 ∧ ∃ f, ts.length ≤ q + f ∧ R = hdF ts f q (acc ++ [t.nm])) ∨ (t.k = 41 ∧ R = .ok (acc, 0, q)) ∨ (t.k = 59 ∧ R = rngK ts q acc)
section
variable {ts : List TkV} {R : Except Nat (List ByteArray × Nat × Nat)} {q : Nat} {t : TkV} {acc : List ByteArray}
theorem mem3 {a b c x : Nat} (h : x ∈ [a, b, c]) : x = a ∨ x = b ∨ x = c := by simpa using h
theorem headJ_no {p : Nat} (h : ¬ isK ts [97, 59, 41] p) : headF ts p = .error p := by
  unfold headF
  rw [tk_isnt (fun e => h ⟨e.1, by have := mem1 e.2; rw [this]; simp⟩)]
  show endF ts p [] = _
  unfold endF
  rw [tk_isnt (fun e => h ⟨e.1, by have := e.2; simp only [List.mem_cons, List.not_mem_nil, or_false] at this ⊢; omega⟩)]
theorem headJ_yes {p : Nat} (h : isK ts [97, 59, 41] p) : HdJ ts (headF ts p) (p + 1) (ts.getD p noTk) [] := by
  rcases mem3 h.2 with hk | hk | hk
  · refine Or.inl ⟨hk, ts.length + 1, by omega, ?_⟩
    unfold headF
    rw [tk_is ⟨h.1, by rw [hk]; simp⟩]
    rfl
  · refine Or.inr (Or.inr ⟨hk, ?_⟩)
    unfold headF
    rw [tk_isnt (fun e => by have := mem1 e.2; omega)]
    show endF ts p [] = _
    unfold endF
    rw [tk_is ⟨h.1, by rw [hk]; simp⟩]
    simp only
    rw [if_neg (by omega)]
    rfl
  · refine Or.inr (Or.inl ⟨hk, ?_⟩)
    unfold headF
    rw [tk_isnt (fun e => by have := mem1 e.2; omega)]
    show endF ts p [] = _
    unfold endF
    rw [tk_is ⟨h.1, by rw [hk]; simp⟩]
    simp only
    rw [if_pos hk]
theorem HdJ.name (h : HdJ ts R q t acc) (hk : t.k = 97) : ∃ f, ts.length ≤ q + f ∧ R = hdF ts f q (acc ++ [t.nm]) := by
  rcases h with h | h | h
  · exact h.2
  · omega
  · omega
theorem HdJ.bad1 (h : HdJ ts R q t acc) (hk : t.k = 97) (h1 : ¬ isK ts [44, 59, 41] q) : R = .error q := by
  obtain ⟨f, hf, e⟩ := h.name hk
  have he : endF ts q (acc ++ [t.nm]) = .error q := by
    unfold endF
    rw [tk_isnt (fun e => h1 ⟨e.1, by have := e.2; simp only [List.mem_cons, List.not_mem_nil, or_false] at this ⊢; omega⟩)]
  rw [e]
  cases f with
  | zero => rfl
  | succ f =>
    rw [hdF, tk_isnt (fun e => h1 ⟨e.1, by have := mem1 e.2; rw [this]; simp⟩)]
    exact he
theorem HdJ.bad2 (h : HdJ ts R q t acc) (hk : t.k = 97) (h1 : isK ts [44] q) (h2 : ¬ isK ts [97] (q + 1)) : R = .error (q + 1) := by
  obtain ⟨f, hf, e⟩ := h.name hk
  rw [e]
  cases f with
  | zero => have := h1.1; omega
  | succ f =>
    rw [hdF, tk_is h1]
    simp only
    rw [tk_isnt h2]
theorem HdJ.next (h : HdJ ts R q t acc) (hk : t.k = 97) (h1 : isK ts [44] q) (h2 : isK ts [97] (q + 1)) : HdJ ts R (q + 1 + 1) (ts.getD (q + 1) noTk) (acc ++ [t.nm]) := by
  obtain ⟨f, hf, e⟩ := h.name hk
  cases f with
  | zero => have := h1.1; omega
  | succ f =>
    rw [hdF, tk_is h1] at e
    simp only at e
    rw [tk_is h2] at e
    exact Or.inl ⟨mem1 h2.2, f, by omega, e⟩
theorem HdJ.last (h : HdJ ts R q t acc) (hk : t.k = 97) (h1 : isK ts [44, 59, 41] q) (h2 : (ts.getD q noTk).k ≠ 44) : HdJ ts R (q + 1) (ts.getD q noTk) (acc ++ [t.nm]) := by
  obtain ⟨f, hf, e⟩ := h.name hk
  cases f with
  | zero => have := h1.1; omega
  | succ f =>
    rw [hdF, tk_isnt (fun e => h2 (mem1 e.2))] at e
    simp only at e
    unfold endF at e
    rcases mem3 h1.2 with h3 | h3 | h3
    · exact absurd h3 h2
    · rw [tk_is ⟨h1.1, by rw [h3]; simp⟩] at e
      simp only at e
      rw [if_neg (by omega)] at e
      exact Or.inr (Or.inr ⟨h3, e⟩)
    · rw [tk_is ⟨h1.1, by rw [h3]; simp⟩] at e
      simp only at e
      rw [if_pos h3] at e
      exact Or.inr (Or.inl ⟨h3, e⟩)
theorem HdJ.end41 (h : HdJ ts R q t acc) (hk : t.k = 41) : R = .ok (acc, 0, q) := by
  rcases h with h | h | h
  · omega
  · exact h.2
  · omega
theorem HdJ.end59 (h : HdJ ts R q t acc) (hk : t.k ≠ 97) (hk2 : t.k ≠ 41) : R = rngK ts q acc := by
  rcases h with h | h | h
  · exact absurd h.1 hk
  · exact absurd h.1 hk2
  · exact h.2
theorem rngK_no (h : rgI ts q = 0) : rngK ts q acc = .error q := by
  unfold rngK rngF
  by_cases hk : isK ts [97] q
  · rw [tk_is hk]
    simp only
    unfold rgI at h
    rw [if_pos hk] at h
    rw [if_pos h]
  · rw [tk_isnt hk]
theorem rngK_bad (h : rgI ts q ≠ 0) (h2 : ¬ isK ts [41] (q + 1)) : rngK ts q acc = .error (q + 1) := by
  unfold rngK rngF
  by_cases hk : isK ts [97] q
  · rw [tk_is hk]
    simp only
    unfold rgI at h
    rw [if_pos hk] at h
    rw [if_neg h, tk_isnt h2]
  · unfold rgI at h; rw [if_neg hk] at h; exact absurd rfl h
theorem rngK_ok (h : rgI ts q ≠ 0) (h2 : isK ts [41] (q + 1)) : rngK ts q acc = .ok (acc, rgI ts q, q + 1 + 1) := by
  unfold rngK rngF
  by_cases hk : isK ts [97] q
  · rw [tk_is hk]
    simp only
    have e : rgI ts q = rngN (ts.getD q noTk).nm := if_pos hk
    rw [e] at h ⊢
    rw [if_neg h, tk_is h2]
  · unfold rgI at h; rw [if_neg hk] at h; exact absurd rfl h
end

/-- the head in the making: the token in block L, the names' slice x -/
structure HdW (w W : World) (g tb : Nat) (ts : List TkV) (L q : Nat) (t : TkV) (x : Value) (acc : List ByteArray) : Prop where
  pa : PaP W g tb ts q
  blk : W.heap[L]? = some (.cells #[.string (kdT t.k), .string t.nm, .int .i64 (t.v : Int), .int .i64 (t.at' : Int)] 151 (0, 0))
  own : W.ownsRow w.heap.size 9 1 x acc.length (acc.map Value.string)
  ex : Ex g w W
  hL : w.heap.size ≤ L
  hg : g < w.heap.size
  ht : tb < w.heap.size
section
variable {w W W' w3 : World} {g tb L q : Nat} {ts : List TkV} {t : TkV} {x : Value} {acc : List ByteArray}
theorem HdW.lt (h : HdW w W g tb ts L q t x acc) : L < W.heap.size := World.block_lt_of_cell? W ⟨L, 0, none⟩ (cell_of_row _ _ _ _ _ _ h.blk)
theorem HdW.c0 (h : HdW w W g tb ts L q t x acc) : W.cell? ⟨L, 0, none⟩ = some (.string (kdT t.k)) := cell_of_row _ _ _ _ _ _ h.blk
theorem HdW.c1 (h : HdW w W g tb ts L q t x acc) : W.cell? ⟨L, 1, none⟩ = some (.string t.nm) := cell_of_row _ _ _ _ _ _ h.blk
theorem HdW.next {q' : Nat} (h : HdW w W g tb ts L q t x acc) (he : Ex g W W') (hp : PaP W' g tb ts q') : HdW w W' g tb ts L q' t x acc :=
  ⟨hp, (he.block L h.lt (by have := h.hL; have := h.hg; omega)).trans h.blk, own_ex h.own he h.hg, h.ex.trans he, h.hL, h.hg, h.ht⟩
def put4 (W : World) (L : Nat) (u : TkV) : World := (((W.setCell ⟨L, 0, none⟩ (.string (kdT u.k))).setCell ⟨L, 1, none⟩ (.string u.nm)).setCell ⟨L, 2, none⟩ (.int .i64 (u.v : Int))).setCell ⟨L, 3, none⟩ (.int .i64 (u.at' : Int))
theorem HdW.put (h : HdW w W g tb ts L q t x acc) (u : TkV) : HdW w (put4 W L u) g tb ts L q u x acc := by
  have h1 : L ≠ g := by have := h.hL; have := h.hg; omega
  have h2 : L ≠ tb := by have := h.hL; have := h.ht; omega
  have b1 : (W.setCell ⟨L, 0, none⟩ (.string (kdT u.k))).heap[L]? = some (.cells #[.string (kdT u.k), .string t.nm, .int .i64 (t.v : Int), .int .i64 (t.at' : Int)] 151 (0, 0)) := by rw [heap_setCell_same _ _ _ _ _ _ h.blk]; rfl
  have b2 : ((W.setCell ⟨L, 0, none⟩ (.string (kdT u.k))).setCell ⟨L, 1, none⟩ (.string u.nm)).heap[L]? = some (.cells #[.string (kdT u.k), .string u.nm, .int .i64 (t.v : Int), .int .i64 (t.at' : Int)] 151 (0, 0)) := by rw [heap_setCell_same _ _ _ _ _ _ b1]; rfl
  have b3 : (((W.setCell ⟨L, 0, none⟩ (.string (kdT u.k))).setCell ⟨L, 1, none⟩ (.string u.nm)).setCell ⟨L, 2, none⟩ (.int .i64 (u.v : Int))).heap[L]? = some (.cells #[.string (kdT u.k), .string u.nm, .int .i64 (u.v : Int), .int .i64 (t.at' : Int)] 151 (0, 0)) := by rw [heap_setCell_same _ _ _ _ _ _ b2]; rfl
  exact ⟨(((h.pa.set h1 h2).set h1 h2).set h1 h2).set h1 h2, q4T h.blk, own_setT (own_setT (own_setT (own_setT h.own h.blk (by decide)) b1 (by decide)) b2 (by decide)) b3 (by decide), (((h.ex.new h.hL).new h.hL).new h.hL).new h.hL, h.hL, h.hg, h.ht⟩
theorem HdW.face (h : HdW w W g tb ts L q t x acc) : W.cell? ⟨L, 2, none⟩ = some (.int .i64 (t.v : Int)) ∧ W.cell? ⟨L, 3, none⟩ = some (.int .i64 (t.at' : Int)) ∧ ∀ o, W.frozen? ⟨L, o, none⟩ = false :=
  ⟨cell_of_row _ _ _ _ _ _ h.blk, cell_of_row _ _ _ _ _ _ h.blk, fun o => by unfold World.frozen?; rw [h.blk]; simp⟩
theorem HdW.app {o : Obj} {x' : Value} {s : ByteArray} (h : HdW w W g tb ts L q t x acc) (hg : (W.alloc o).grownBy w3 x.ownBlock) (hown : w3.ownsRow w.heap.size 9 1 x' (acc.length + 1) (acc.map Value.string ++ [.string s])) : HdW w w3 g tb ts L q t x' (acc ++ [s]) := by
  have hb : Below w.heap.size W w3 := ((Below.refl w.heap.size W).alloc h.ex.size o).grown hg (by have := h.ex.size; simp; omega) (fun b hb => (h.own.lt b hb).1)
  refine ⟨h.pa.belN hb h.hg h.ht, (kept_of hg h.lt (own_ne h.own ⟨_, h.blk⟩ (by decide))).trans h.blk, ?_, h.ex.belN hb, h.hL, h.hg, h.ht⟩
  rw [List.length_append, List.length_singleton, List.map_append]
  exact hown
end

/-- how head ends -/
def HdE (w : World) (g tb p : Nat) (ts : List TkV) (e : Ending) (w' : World) : Prop :=
  (∃ hd r p' x, headF ts p = .ok (hd, r, p') ∧ e = .returned (.tuple #[x, .int .i64 (r : Int)]) ∧ w'.ownsRow w.heap.size 9 1 x hd.length (hd.map Value.string) ∧ PaP w' g tb ts p' ∧ Ex g w w') ∨ (∃ pe, headF ts p = .error pe ∧ e = .panicked (flt (offZ ts pe)) ∧ Ex g w w')

end Go.Proofs.YtcdfoephhjacdaaDoor
