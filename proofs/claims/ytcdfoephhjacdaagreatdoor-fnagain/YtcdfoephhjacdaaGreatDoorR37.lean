import Derived.Deep.CutBlock
import Derived.LoopN
import Derived.Test.YtcdfoephhjacdaaGreatDoorR36
/-
  The program's parser: ring.
-/
namespace Go.Proofs.YtcdfoephhjacdaaGreatDoor
open Go.RowKit

/-- the words of the rings in their variable -/
def RgV (W : World) : Prop := ∀ k : Nat, k < 4 → W.cell? ⟨0, k, none⟩ = some (.string (rgT k))
theorem RgV.ex {g : Nat} {W W' : World} (h : RgV W) (he : Ex g W W') (hg : 0 ≠ g) : RgV W' := fun k hk => he.cell hg (h k hk)
theorem RgV.below {W W' : World} (h : RgV W) (hb : Below W.heap.size W W') : RgV W' := fun k hk => (hb.cell (p := ⟨0, k, none⟩) (World.block_lt_of_cell? W _ (h k hk))).trans (h k hk)
def rgI (ts : List TkV) (q : Nat) : Nat := if isK ts [97] q then rngN (ts.getD q noTk).nm else 0

theorem Tryz.indexG0 (a b c d : Value) (w : World) : Sem.run Tryz.prog (Instr.index 84 (.agg #[a, b, c, d]) (.int .i64 0)) w = .ok a w := by kernel_rfl
theorem Tryz.indexG1 (a b c d : Value) (w : World) : Sem.run Tryz.prog (Instr.index 84 (.agg #[a, b, c, d]) (.int .i64 1)) w = .ok b w := by kernel_rfl
theorem Tryz.indexG2 (a b c d : Value) (w : World) : Sem.run Tryz.prog (Instr.index 84 (.agg #[a, b, c, d]) (.int .i64 2)) w = .ok c w := by kernel_rfl
theorem Tryz.indexG3 (a b c d : Value) (w : World) : Sem.run Tryz.prog (Instr.index 84 (.agg #[a, b, c, d]) (.int .i64 3)) w = .ok d w := by kernel_rfl
/-- how ring ends -/
def RgE (w : World) (g tb q : Nat) (ts : List TkV) (e : Ending) (w' : World) : Prop := (rgI ts q ≠ 0 ∧ e = .returned (.int .i64 (rgI ts q : Int)) ∧ PaP w' g tb ts (q + 1) ∧ Ex g w w') ∨ (rgI ts q = 0 ∧ e = .panicked (flt (offZ ts q)) ∧ Ex g w w')

set_option maxHeartbeats 16000000 in
set_option maxRecDepth 1000000 in
theorem pRing_calls (w : World) (g tb q : Nat) (ts : List TkV) (h : PaP w g tb ts q) (hrg : RgV w) (hVg : 0 ≠ g) (hok : ∀ j, j < ts.length → TkOk (ts.getD j noTk)) (hl : ts.length ≤ 100000) :
    Calls Tryz.prog 132 #[.pointer (some ⟨g, 0, none⟩)] w (RgE w g tb q ts) := by
  have T97 : Hid (TkC g tb ts [97] #[.string ⟨#[97]⟩] 1) := hid (TkC.mk' [97] rfl rfl (by decide) (by simp) hok hl)
  generalize hE : RgE w g tb q ts = E
  have HNo : Hid (∀ w', rgI ts q = 0 → Ex g w w' → E (.panicked (flt (offZ ts q))) w') := hid fun w' h1 h2 => by rw [← hE]; exact Or.inr ⟨h1, rfl, h2⟩
  have HYes : Hid (∀ w', rgI ts q ≠ 0 → PaP w' g tb ts (q + 1) → Ex g w w' → E (.returned (.int .i64 (rgI ts q : Int))) w') := hid fun w' h1 h2 h3 => by rw [← hE]; exact Or.inl ⟨h1, rfl, h2, h3⟩
  clear hE
  by_cases k1 : isK ts [97] q
  case neg =>
    have K1 := hid (T97.out.2 w q h k1)
    have e0 : rgI ts q = 0 := if_neg k1
    have HE := hid (fun w' h2 => HNo.out w' e0 h2)
    clear T97 h hrg k1 e0 HNo HYes
    generalize offZ ts q = z at *
    go_enter Tryz.func132, Tryz.ntmps132
    go_wp2_with fail
    refine K1.out.mono ?_
    rintro e w2 ⟨rfl, hx2⟩
    go_wp2_with fail
    exact ⟨rfl, HE.out _ hx2⟩
  case pos =>
    obtain ⟨k, nm, v1, a1, hk1, hnm, -, ha1, hK1⟩ := T97.out.1 w q h k1
    have K1 := hid hK1
    have e0 : rgI ts q = rngN nm := by unfold rgI; rw [if_pos k1, hnm]
    have ez : offZ ts q = (a1 : Int) := by unfold offZ; rw [if_pos k1.1, ha1]
    have hnz : nm.size ≠ 0 := by rw [hnm]; exact (hok q k1.1).nz (by have := k1.2; simpa using this)
    have hm := rng_eq hnz
    have HRG := hid hrg
    rw [e0, ez] at HNo
    rw [e0] at HYes
    have HVg := hid hVg
    have m0 := hm 0 (by omega)
    have m1 := hm 1 (by omega)
    have m2 := hm 2 (by omega)
    have m3 := hm 3 (by omega)
    have hlt := rngN_lt nm
    have KU : Hid (∀ (W : World) (kd : ByteArray) (v : Int), Calls Tryz.prog 110 #[.agg #[.string kd, .string nm, .int .i64 v, .int .i64 (a1 : Int)]] W fun e w' => e = .returned (.agg #[.int .i64 3, .int .i64 (a1 : Int)]) ∧ Below W.heap.size W w') := hid fun W kd v => unfit_any W kd nm v a1
    clear hK1 hnm ha1 e0 ez hm hok T97 h k1 hk1 hrg hVg hnz
    generalize kdT k = kd1 at *
    generalize rngN nm = rr at *
    go_enter Tryz.func132, Tryz.ntmps132
    go_wp2_with fail
    refine K1.out.mono ?_
    rintro e w2 ⟨rfl, hpp2, hx2⟩
    have hR2 := HRG.out.ex hx2 HVg.out
    have HP2 := hid hpp2
    have HX2 := hid hx2
    clear hx2 hpp2 K1 HRG
    go_upto_region 2 with fail
    obtain ⟨W3, hW3⟩ : ∃ W, W = w2.alloc (.cells #[.string kd1, .string nm, .int .i64 (v1 : Int), .int .i64 (a1 : Int)] 156) := ⟨_, rfl⟩
    have hb3 : Below w2.heap.size w2 W3 := by rw [hW3]; exact (Below.refl _ _).alloc (Nat.le_refl _) _
    have hbl : W3.heap[w2.heap.size]? = some (.cells #[.string kd1, .string nm, .int .i64 (v1 : Int), .int .i64 (a1 : Int)] 156 (0, 0)) := by rw [hW3]; exact heap_alloc_new _ _
    have t0 : W3.cell? ⟨w2.heap.size, 0, none⟩ = some (.string kd1) := cell_of_row _ _ _ _ _ _ hbl
    have t1 : W3.cell? ⟨w2.heap.size, 1, none⟩ = some (.string nm) := cell_of_row _ _ _ _ _ _ hbl
    have t2 : W3.cell? ⟨w2.heap.size, 2, none⟩ = some (.int .i64 (v1 : Int)) := cell_of_row _ _ _ _ _ _ hbl
    have t3 : W3.cell? ⟨w2.heap.size, 3, none⟩ = some (.int .i64 (a1 : Int)) := cell_of_row _ _ _ _ _ _ hbl
    have hR3 := hR2.below hb3
    have c0 := hR3 0 (by omega)
    have c1 := hR3 1 (by omega)
    have c2 := hR3 2 (by omega)
    have c3 := hR3 3 (by omega)
    have HX3 : Hid (Ex g w W3) := hid (HX2.out.trans (Ex.bel hb3))
    have HP3 : Hid (PaP W3 g tb ts (q + 1)) := hid (HP2.out.below hb3)
    rw [← hW3]
    clear hW3 hb3 hbl hR2 hR3 HP2 HX2 HVg
    generalize w2.heap.size = tl at *
    generalize rgT 0 = s0 at *
    generalize rgT 1 = s1 at *
    generalize rgT 2 = s2 at *
    generalize rgT 3 = s3 at *
    have n0 : (nm.toList == s0.toList) = false := by rw [m0]; exact decide_eq_false (by omega)
    clear m0
    have ig0 := Tryz.indexG0
    have ig1 := Tryz.indexG1
    have ig2 := Tryz.indexG2
    have ig3 := Tryz.indexG3
    go_wp2_with fail
    refine wp_loop_rounds 5 ?_
    rw [rounds_succ]
    go_wp2_with fail
    rw [rounds_succ]
    by_cases r1 : rr = 1
    · have n1 : (nm.toList == s1.toList) = true := by rw [m1]; exact decide_eq_true ⟨r1, by omega⟩
      have HE := hid (HYes.out W3 (by omega) HP3.out HX3.out)
      rw [r1] at HE
      clear m1 m2 m3 HYes HNo
      go_wp2_with fail
      exact HE.out
    · have n1 : (nm.toList == s1.toList) = false := by rw [m1]; exact decide_eq_false (by omega)
      clear m1
      go_wp2_with fail
      rw [rounds_succ]
      by_cases r2 : rr = 2
      · have n2 : (nm.toList == s2.toList) = true := by rw [m2]; exact decide_eq_true ⟨r2, by omega⟩
        have HE := hid (HYes.out W3 (by omega) HP3.out HX3.out)
        rw [r2] at HE
        clear m2 m3 HYes HNo
        go_wp2_with fail
        exact HE.out
      · have n2 : (nm.toList == s2.toList) = false := by rw [m2]; exact decide_eq_false (by omega)
        clear m2
        go_wp2_with fail
        rw [rounds_succ]
        by_cases r3 : rr = 3
        · have n3 : (nm.toList == s3.toList) = true := by rw [m3]; exact decide_eq_true ⟨r3, by omega⟩
          have HE := hid (HYes.out W3 (by omega) HP3.out HX3.out)
          rw [r3] at HE
          clear m3 HYes HNo
          go_wp2_with fail
          exact HE.out
        · have n3 : (nm.toList == s3.toList) = false := by rw [m3]; exact decide_eq_false (by omega)
          have HE := hid (fun w' h2 => HNo.out w' (by omega) h2)
          clear m3 HYes HNo
          go_wp2_with fail
          rw [rounds_succ]
          go_wp2_with (first | (go_at_call 110; refine (KU.out _ _ _).mono ?_; rintro e w4 ⟨rfl, hb4⟩; have HX4 := hid (HX3.out.trans (Ex.bel hb4)); clear hb4) | fail)
          exact ⟨rfl, HE.out _ HX4.out⟩

end Go.Proofs.YtcdfoephhjacdaaGreatDoor

/-
  The program's parser: head.
-/
namespace Go.Proofs.YtcdfoephhjacdaaGreatDoor
open Go.RowKit

def rngK (ts : List TkV) (q : Nat) (acc : List ByteArray) : Except Nat (List ByteArray × Nat × Nat) := match rngF ts q with | .error e => .error e | .ok (r, p2) => .ok (acc, r, p2)
/-- inside the head, the token t just taken -/
def HdJ (ts : List TkV) (R : Except Nat (List ByteArray × Nat × Nat)) (q : Nat) (t : TkV) (acc : List ByteArray) : Prop := (t.k = 97 ∧ ∃ f, ts.length ≤ q + f ∧ R = hdF ts f q (acc ++ [t.nm])) ∨ (t.k = 41 ∧ R = .ok (acc, 0, q)) ∨ (t.k = 59 ∧ R = rngK ts q acc)
section
variable {ts : List TkV} {R : Except Nat (List ByteArray × Nat × Nat)} {q : Nat} {t : TkV} {acc : List ByteArray}
theorem mem3 {a b c x : Nat} (h : x ∈ [a, b, c]) : x = a ∨ x = b ∨ x = c := by simpa using h
theorem headJ_no {p : Nat} (h : ¬ isK ts [97, 59, 41] p) : headF ts p = .error p := by
  unfold headF
  rw [tk_isnt (fun e => h ⟨e.1, by have := mem1 e.2; rw [this]; simp⟩)]
  show endF ts p [] = _
  unfold endF
  rw [tk_isnt (fun e => h ⟨e.1, by have := e.2; simp only [List.mem_cons, List.not_mem_nil, or_false] at this ⊢; omega⟩)]
theorem headJ_yes {p : Nat} (h : isK ts [97, 59, 41] p) : HdJ ts (headF ts p) (p + 1) (ts.getD p noTk) [] := by
  rcases mem3 h.2 with hk | hk | hk
  · refine Or.inl ⟨hk, ts.length + 1, by omega, ?_⟩
    unfold headF
    rw [tk_is ⟨h.1, by rw [hk]; simp⟩]
    rfl
  · refine Or.inr (Or.inr ⟨hk, ?_⟩)
    unfold headF
    rw [tk_isnt (fun e => by have := mem1 e.2; omega)]
    show endF ts p [] = _
    unfold endF
    rw [tk_is ⟨h.1, by rw [hk]; simp⟩]
    simp only
    rw [if_neg (by omega)]
    rfl
  · refine Or.inr (Or.inl ⟨hk, ?_⟩)
    unfold headF
    rw [tk_isnt (fun e => by have := mem1 e.2; omega)]
    show endF ts p [] = _
    unfold endF
    rw [tk_is ⟨h.1, by rw [hk]; simp⟩]
    simp only
    rw [if_pos hk]
theorem HdJ.name (h : HdJ ts R q t acc) (hk : t.k = 97) : ∃ f, ts.length ≤ q + f ∧ R = hdF ts f q (acc ++ [t.nm]) := by
  rcases h with h | h | h
  · exact h.2
  · omega
  · omega
theorem HdJ.bad1 (h : HdJ ts R q t acc) (hk : t.k = 97) (h1 : ¬ isK ts [44, 59, 41] q) : R = .error q := by
  obtain ⟨f, hf, e⟩ := h.name hk
  have he : endF ts q (acc ++ [t.nm]) = .error q := by
    unfold endF
    rw [tk_isnt (fun e => h1 ⟨e.1, by have := e.2; simp only [List.mem_cons, List.not_mem_nil, or_false] at this ⊢; omega⟩)]
  rw [e]
  cases f with
  | zero => rfl
  | succ f =>
    rw [hdF, tk_isnt (fun e => h1 ⟨e.1, by have := mem1 e.2; rw [this]; simp⟩)]
    exact he
theorem HdJ.bad2 (h : HdJ ts R q t acc) (hk : t.k = 97) (h1 : isK ts [44] q) (h2 : ¬ isK ts [97] (q + 1)) : R = .error (q + 1) := by
  obtain ⟨f, hf, e⟩ := h.name hk
  rw [e]
  cases f with
  | zero => have := h1.1; omega
  | succ f =>
    rw [hdF, tk_is h1]
    simp only
    rw [tk_isnt h2]
theorem HdJ.next (h : HdJ ts R q t acc) (hk : t.k = 97) (h1 : isK ts [44] q) (h2 : isK ts [97] (q + 1)) : HdJ ts R (q + 1 + 1) (ts.getD (q + 1) noTk) (acc ++ [t.nm]) := by
  obtain ⟨f, hf, e⟩ := h.name hk
  cases f with
  | zero => have := h1.1; omega
  | succ f =>
    rw [hdF, tk_is h1] at e
    simp only at e
    rw [tk_is h2] at e
    exact Or.inl ⟨mem1 h2.2, f, by omega, e⟩
theorem HdJ.last (h : HdJ ts R q t acc) (hk : t.k = 97) (h1 : isK ts [44, 59, 41] q) (h2 : (ts.getD q noTk).k ≠ 44) : HdJ ts R (q + 1) (ts.getD q noTk) (acc ++ [t.nm]) := by
  obtain ⟨f, hf, e⟩ := h.name hk
  cases f with
  | zero => have := h1.1; omega
  | succ f =>
    rw [hdF, tk_isnt (fun e => h2 (mem1 e.2))] at e
    simp only at e
    unfold endF at e
    rcases mem3 h1.2 with h3 | h3 | h3
    · exact absurd h3 h2
    · rw [tk_is ⟨h1.1, by rw [h3]; simp⟩] at e
      simp only at e
      rw [if_neg (by omega)] at e
      exact Or.inr (Or.inr ⟨h3, e⟩)
    · rw [tk_is ⟨h1.1, by rw [h3]; simp⟩] at e
      simp only at e
      rw [if_pos h3] at e
      exact Or.inr (Or.inl ⟨h3, e⟩)
theorem HdJ.end41 (h : HdJ ts R q t acc) (hk : t.k = 41) : R = .ok (acc, 0, q) := by
  rcases h with h | h | h
  · omega
  · exact h.2
  · omega
theorem HdJ.end59 (h : HdJ ts R q t acc) (hk : t.k ≠ 97) (hk2 : t.k ≠ 41) : R = rngK ts q acc := by
  rcases h with h | h | h
  · exact absurd h.1 hk
  · exact absurd h.1 hk2
  · exact h.2
theorem rngK_no (h : rgI ts q = 0) : rngK ts q acc = .error q := by
  unfold rngK rngF
  by_cases hk : isK ts [97] q
  · rw [tk_is hk]
    simp only
    unfold rgI at h
    rw [if_pos hk] at h
    rw [if_pos h]
  · rw [tk_isnt hk]
theorem rngK_bad (h : rgI ts q ≠ 0) (h2 : ¬ isK ts [41] (q + 1)) : rngK ts q acc = .error (q + 1) := by
  unfold rngK rngF
  by_cases hk : isK ts [97] q
  · rw [tk_is hk]
    simp only
    unfold rgI at h
    rw [if_pos hk] at h
    rw [if_neg h, tk_isnt h2]
  · unfold rgI at h; rw [if_neg hk] at h; exact absurd rfl h
theorem rngK_ok (h : rgI ts q ≠ 0) (h2 : isK ts [41] (q + 1)) : rngK ts q acc = .ok (acc, rgI ts q, q + 1 + 1) := by
  unfold rngK rngF
  by_cases hk : isK ts [97] q
  · rw [tk_is hk]
    simp only
    have e : rgI ts q = rngN (ts.getD q noTk).nm := if_pos hk
    rw [e] at h ⊢
    rw [if_neg h, tk_is h2]
  · unfold rgI at h; rw [if_neg hk] at h; exact absurd rfl h
end

/-- the head in the making: the token in block L, the names' slice x -/
structure HdW (w W : World) (g tb : Nat) (ts : List TkV) (L q : Nat) (t : TkV) (x : Value) (acc : List ByteArray) : Prop where
  pa : PaP W g tb ts q
  blk : W.heap[L]? = some (.cells #[.string (kdT t.k), .string t.nm, .int .i64 (t.v : Int), .int .i64 (t.at' : Int)] 156 (0, 0))
  own : W.ownsRow w.heap.size 9 1 x acc.length (acc.map Value.string)
  ex : Ex g w W
  hL : w.heap.size ≤ L
  hg : g < w.heap.size
  ht : tb < w.heap.size
section
variable {w W W' w3 : World} {g tb L q : Nat} {ts : List TkV} {t : TkV} {x : Value} {acc : List ByteArray}
theorem HdW.lt (h : HdW w W g tb ts L q t x acc) : L < W.heap.size := World.block_lt_of_cell? W ⟨L, 0, none⟩ (cell_of_row _ _ _ _ _ _ h.blk)
theorem HdW.c0 (h : HdW w W g tb ts L q t x acc) : W.cell? ⟨L, 0, none⟩ = some (.string (kdT t.k)) := cell_of_row _ _ _ _ _ _ h.blk
theorem HdW.c1 (h : HdW w W g tb ts L q t x acc) : W.cell? ⟨L, 1, none⟩ = some (.string t.nm) := cell_of_row _ _ _ _ _ _ h.blk
theorem HdW.next {q' : Nat} (h : HdW w W g tb ts L q t x acc) (he : Ex g W W') (hp : PaP W' g tb ts q') : HdW w W' g tb ts L q' t x acc :=
  ⟨hp, (he.block L h.lt (by have := h.hL; have := h.hg; omega)).trans h.blk, own_ex h.own he h.hg, h.ex.trans he, h.hL, h.hg, h.ht⟩
def put4 (W : World) (L : Nat) (u : TkV) : World := (((W.setCell ⟨L, 0, none⟩ (.string (kdT u.k))).setCell ⟨L, 1, none⟩ (.string u.nm)).setCell ⟨L, 2, none⟩ (.int .i64 (u.v : Int))).setCell ⟨L, 3, none⟩ (.int .i64 (u.at' : Int))
theorem HdW.put (h : HdW w W g tb ts L q t x acc) (u : TkV) : HdW w (put4 W L u) g tb ts L q u x acc := by
  have h1 : L ≠ g := by have := h.hL; have := h.hg; omega
  have h2 : L ≠ tb := by have := h.hL; have := h.ht; omega
  have b1 : (W.setCell ⟨L, 0, none⟩ (.string (kdT u.k))).heap[L]? = some (.cells #[.string (kdT u.k), .string t.nm, .int .i64 (t.v : Int), .int .i64 (t.at' : Int)] 156 (0, 0)) := by rw [heap_setCell_same _ _ _ _ _ _ h.blk]; rfl
  have b2 : ((W.setCell ⟨L, 0, none⟩ (.string (kdT u.k))).setCell ⟨L, 1, none⟩ (.string u.nm)).heap[L]? = some (.cells #[.string (kdT u.k), .string u.nm, .int .i64 (t.v : Int), .int .i64 (t.at' : Int)] 156 (0, 0)) := by rw [heap_setCell_same _ _ _ _ _ _ b1]; rfl
  have b3 : (((W.setCell ⟨L, 0, none⟩ (.string (kdT u.k))).setCell ⟨L, 1, none⟩ (.string u.nm)).setCell ⟨L, 2, none⟩ (.int .i64 (u.v : Int))).heap[L]? = some (.cells #[.string (kdT u.k), .string u.nm, .int .i64 (u.v : Int), .int .i64 (t.at' : Int)] 156 (0, 0)) := by rw [heap_setCell_same _ _ _ _ _ _ b2]; rfl
  exact ⟨(((h.pa.set h1 h2).set h1 h2).set h1 h2).set h1 h2, q4T h.blk, own_setT (own_setT (own_setT (own_setT h.own h.blk (by decide)) b1 (by decide)) b2 (by decide)) b3 (by decide), (((h.ex.new h.hL).new h.hL).new h.hL).new h.hL, h.hL, h.hg, h.ht⟩
theorem HdW.face (h : HdW w W g tb ts L q t x acc) : W.cell? ⟨L, 2, none⟩ = some (.int .i64 (t.v : Int)) ∧ W.cell? ⟨L, 3, none⟩ = some (.int .i64 (t.at' : Int)) ∧ ∀ o, W.frozen? ⟨L, o, none⟩ = false :=
  ⟨cell_of_row _ _ _ _ _ _ h.blk, cell_of_row _ _ _ _ _ _ h.blk, fun o => by unfold World.frozen?; rw [h.blk]; simp⟩
theorem HdW.app {o : Obj} {x' : Value} {s : ByteArray} (h : HdW w W g tb ts L q t x acc) (hg : (W.alloc o).grownBy w3 x.ownBlock) (hown : w3.ownsRow w.heap.size 9 1 x' (acc.length + 1) (acc.map Value.string ++ [.string s])) : HdW w w3 g tb ts L q t x' (acc ++ [s]) := by
  have hb : Below w.heap.size W w3 := ((Below.refl w.heap.size W).alloc h.ex.size o).grown hg (by have := h.ex.size; simp; omega) (fun b hb => (h.own.lt b hb).1)
  refine ⟨h.pa.belN hb h.hg h.ht, (kept_of hg h.lt (own_ne h.own ⟨_, h.blk⟩ (by decide))).trans h.blk, ?_, h.ex.belN hb, h.hL, h.hg, h.ht⟩
  rw [List.length_append, List.length_singleton, List.map_append]
  exact hown
end

/-- how head ends -/
def HdE (w : World) (g tb p : Nat) (ts : List TkV) (e : Ending) (w' : World) : Prop :=
  (∃ hd r p' x, headF ts p = .ok (hd, r, p') ∧ e = .returned (.tuple #[x, .int .i64 (r : Int)]) ∧ w'.ownsRow w.heap.size 9 1 x hd.length (hd.map Value.string) ∧ PaP w' g tb ts p' ∧ Ex g w w') ∨ (∃ pe, headF ts p = .error pe ∧ e = .panicked (flt (offZ ts pe)) ∧ Ex g w w')

end Go.Proofs.YtcdfoephhjacdaaGreatDoor

/-
  The program's parser: head, walked.
-/
namespace Go.Proofs.YtcdfoephhjacdaaGreatDoor
open Go.RowKit

set_option maxHeartbeats 16000000 in
set_option maxRecDepth 1000000 in
theorem pHead_calls (w : World) (g tb p : Nat) (ts : List TkV) (h : PaP w g tb ts p) (htb : tb < w.heap.size) (hrg : RgV w) (hVg : 0 ≠ g) (hok : ∀ j, j < ts.length → TkOk (ts.getD j noTk)) (hl : ts.length ≤ 100000) :
    Calls Tryz.prog 108 #[.pointer (some ⟨g, 0, none⟩)] w (HdE w g tb p ts) := by
  obtain ⟨iS, si, sz0, sz1, sz2⟩ := info_parts Tryz.infoStrQ
  obtain ⟨W1, hW1⟩ : ∃ W, W = w.alloc (.cells #[] 9) := ⟨_, rfl⟩
  have hB1 : Below w.heap.size w W1 := by rw [hW1]; exact (Below.refl _ _).alloc (Nat.le_refl _) _
  have hO1 : W1.ownsRow w.heap.size 9 1 (.slice (some ⟨w.heap.size, 0, none⟩) 0 0) 0 [] := by rw [hW1]; exact World.ownsRow_made w #[] 0 (Nat.le_refl _) (by unfold maxLen; omega) rfl
  have hs1 : w.heap.size < W1.heap.size := by rw [hW1]; simp
  have hglt := h.lt
  have HX1 : Hid (Ex g w W1) := hid (Ex.bel hB1)
  have HO1 := hid hO1
  have HP1 := hid (h.below hB1)
  have TA : Hid (TkC g tb ts [97, 59, 41] #[.string ⟨#[97]⟩, .string ⟨#[59]⟩, .string ⟨#[41]⟩] 3) := hid (TkC.mk' [97, 59, 41] rfl rfl (by decide) (by simp) hok hl)
  have TB : Hid (TkC g tb ts [44, 59, 41] #[.string ⟨#[44]⟩, .string ⟨#[59]⟩, .string ⟨#[41]⟩] 3) := hid (TkC.mk' [44, 59, 41] rfl rfl (by decide) (by simp) hok hl)
  have T97 : Hid (TkC g tb ts [97] #[.string ⟨#[97]⟩] 1) := hid (TkC.mk' [97] rfl rfl (by decide) (by simp) hok hl)
  have T41 : Hid (TkC g tb ts [41] #[.string ⟨#[41]⟩] 1) := hid (TkC.mk' [41] rfl rfl (by decide) (by simp) hok hl)
  have KR : Hid (∀ W q, Ex g w W → PaP W g tb ts q → Calls Tryz.prog 132 #[.pointer (some ⟨g, 0, none⟩)] W (RgE W g tb q ts)) := hid fun W q h1 h2 => pRing_calls W g tb q ts h2 (hrg.ex h1 hVg) hVg hok hl
  have HKd : Hid (∀ t : TkV, TkOk t → ((kdT t.k).toList == [44]) = decide (t.k = 44) ∧ ((kdT t.k).toList == [97]) = decide (t.k = 97) ∧ ((kdT t.k).toList == [41]) = decide (t.k = 41)) := hid fun t ht => by
    have e44 : (kdT 44).toList = [44] := by unfold kdT; simp only [ByteArray.toList_eq]; rfl
    have e97 : (kdT 97).toList = [97] := by unfold kdT; simp only [ByteArray.toList_eq]; rfl
    have e41 : (kdT 41).toList = [41] := by unfold kdT; simp only [ByteArray.toList_eq]; rfl
    have h1 := kd_eq ht (show 44 < 256 by decide)
    have h2 := kd_eq ht (show 97 < 256 by decide)
    have h3 := kd_eq ht (show 41 < 256 by decide)
    rw [e44] at h1
    rw [e97] at h2
    rw [e41] at h3
    exact ⟨h1, h2, h3⟩
  have HOk := hid hok
  obtain ⟨R, hR⟩ : ∃ R, R = headF ts p := ⟨_, rfl⟩
  have HA1 : Hid (¬ isK ts [97, 59, 41] p → R = .error p) := hid fun hk => by rw [hR]; exact headJ_no hk
  have HA2 : Hid (isK ts [97, 59, 41] p → HdJ ts R (p + 1) (ts.getD p noTk) []) := hid fun hk => by rw [hR]; exact headJ_yes hk
  generalize hE : HdE w g tb p ts = E
  have HNo : Hid (∀ pe w', R = .error pe → Ex g w w' → E (.panicked (flt (offZ ts pe))) w') := hid fun pe w' h1 h2 => by rw [← hE]; exact Or.inr ⟨pe, by rw [← hR]; exact h1, rfl, h2⟩
  have HYes : Hid (∀ hd r p' x w', R = .ok (hd, r, p') → w'.ownsRow w.heap.size 9 1 x hd.length (hd.map Value.string) → PaP w' g tb ts p' → Ex g w w' → E (.returned (.tuple #[x, .int .i64 (r : Int)])) w') := hid fun hd r p' x w' h1 h2 h3 h4 => by rw [← hE]; exact Or.inl ⟨hd, r, p', x, by rw [← hR]; exact h1, rfl, h2, h3, h4⟩
  clear hE hR h hok hrg hVg hB1 hO1
  by_cases k1 : isK ts [97, 59, 41] p
  case neg =>
    have hRe := HA1.out k1
    have K1 := hid (TA.out.2 W1 p HP1.out k1)
    have HE := hid (fun w' h2 => HNo.out p w' hRe h2)
    clear HA1 HA2 HYes HNo hRe k1 TA TB T97 T41 HKd HP1 KR HOk HO1
    generalize offZ ts p = z at *
    go_enter Tryz.func108, Tryz.ntmps108
    go_upto_region 2 with fail
    rw [← hW1]
    clear hW1
    go_wp2_with fail
    refine K1.out.mono ?_
    rintro e w2 ⟨rfl, hx2⟩
    go_wp2_with fail
    exact ⟨rfl, HE.out _ (HX1.out.trans hx2)⟩
  case pos =>
  obtain ⟨k, nm, v1, a1, e1, e2, e3, e4, hK1⟩ := TA.out.1 W1 p HP1.out k1
  have K1 := hid hK1
  have HT : Hid ((⟨k, nm, v1, a1⟩ : TkV) = ts.getD p noTk) := hid (by rw [e1, e2, e3, e4])
  have HJ0 : Hid (HdJ ts R (p + 1) ⟨k, nm, v1, a1⟩ [] ∧ TkOk ⟨k, nm, v1, a1⟩) := hid (by rw [HT.out]; exact ⟨HA2.out k1, HOk.out p k1.1⟩)
  obtain ⟨N, hN⟩ : ∃ N, N = ts.length := ⟨_, rfl⟩
  have HN := hid hN
  have hp1 : p + 1 ≤ N := by have := k1.1; omega
  have hle : N ≤ 100000 := by omega
  clear hK1 e1 e2 e3 e4 HT HA1 HA2 k1 TA hN hl
  go_enter Tryz.func108, Tryz.ntmps108
  go_upto_region 2 with fail
  rw [← hW1]
  clear hW1
  go_wp2_with fail
  refine K1.out.mono ?_
  rintro e w2 ⟨rfl, hpp2, hx2⟩
  have HO2 : Hid (w2.ownsRow w.heap.size 9 1 (.slice (some ⟨w.heap.size, 0, none⟩) 0 0) 0 []) := hid (own_ex HO1.out hx2 hglt)
  have HX2 := hid (HX1.out.trans hx2)
  have HP2 := hid hpp2
  clear hpp2 hx2 K1 HO1 HX1 HP1
  go_wp2_with fail
  obtain ⟨W3, hW3⟩ : ∃ W, W = w2.alloc (.cells #[.string (kdT k), .string nm, .int .i64 (v1 : Int), .int .i64 (a1 : Int)] 156) := ⟨_, rfl⟩
  have hb3 : Below w2.heap.size w2 W3 := by rw [hW3]; exact (Below.refl _ _).alloc (Nat.le_refl _) _
  have hbl : W3.heap[w2.heap.size]? = some (.cells #[.string (kdT k), .string nm, .int .i64 (v1 : Int), .int .i64 (a1 : Int)] 156 (0, 0)) := by rw [hW3]; exact heap_alloc_new _ _
  have HW3 : Hid (HdW w W3 g tb ts w2.heap.size (p + 1) ⟨k, nm, v1, a1⟩ (.slice (some ⟨w.heap.size, 0, none⟩) 0 0) []) := hid ⟨HP2.out.below hb3, hbl, own_below HO2.out hb3, HX2.out.trans (Ex.bel hb3), HX2.out.size, hglt, htb⟩
  rw [← hW3]
  obtain ⟨L, hL⟩ : ∃ L, L = w2.heap.size := ⟨_, rfl⟩
  rw [← hL] at HW3 ⊢
  clear hW3 hb3 hbl HP2 HO2 HX2 hL
  go_loopw [4] (fun x wr => ∃ (q : Nat) (t : TkV) (acc : List ByteArray) (vx : Value), vx = x ∧ q ≤ N ∧ acc.length ≤ q ∧ Hid (HdJ ts R q t acc ∧ TkOk t ∧ HdW w wr g tb ts L q t vx acc)) (fun _ wr => remOf wr g)
  case atStart => exact ⟨p + 1, _, [], _, rfl, hp1, Nat.zero_le _, hid ⟨HJ0.out.1, HJ0.out.2, HW3.out⟩⟩
  case round =>
    clear HJ0 HW3 hp1
    obtain ⟨q, ⟨k, nm, v1, a1⟩, acc, vx, rfl, hq, hal, HS⟩ := hrel
    have HJ := hid HS.out.1
    have HW := hid HS.out.2.2
    obtain ⟨-, x97, x41⟩ := HKd.out _ HS.out.2.1
    have m97 : ((kdT k).toList == [97]) = decide (k = 97) := x97
    have m41 : ((kdT k).toList == [41]) = decide (k = 41) := x41
    clear x97 x41
    have hrem := HW.out.pa.rem
    rw [← HN.out] at hrem
    have c0 : wr.cell? ⟨L, 0, none⟩ = some (.string (kdT k)) := HW.out.c0
    have c1 : wr.cell? ⟨L, 1, none⟩ = some (.string nm) := HW.out.c1
    clear HS
    by_cases h97 : k = 97
    case neg =>
      rw [decide_eq_false h97] at m97
      obtain ⟨ax, cx, ex⟩ := own_shapeT2 HW.out.own
      by_cases h41 : k = 41
      · rw [decide_eq_true h41] at m41
        have HE := hid (HYes.out acc 0 q vx wr (HJ.out.end41 h41) HW.out.own HW.out.pa HW.out.ex)
        clear HYes HNo HJ HW KR TB T97 T41 HKd HN HOk h97 h41 ex
        generalize kdT k = kd at *
        go_wp2_with fail
        first | exact HE.out | (go_ret2; exact HE.out)
      · rw [decide_eq_false h41] at m41
        have hRK := HJ.out.end59 h97 h41
        have HRK := hid hRK
        have K5 := hid (KR.out wr q HW.out.ex HW.out.pa)
        clear hRK HJ KR TB T97 HKd h97 h41 ex
        generalize kdT k = kd at *
        go_wp2_with fail
        refine K5.out.mono ?_
        rintro e w5 (⟨hr0, rfl, hpp5, hx5⟩ | ⟨hr0, rfl, hx5⟩)
        · have HW5 := hid (HW.out.next hx5 hpp5)
          have HR5 := hid hr0
          have HX5 := hid (HW.out.ex.trans hx5)
          clear hpp5 hx5 K5 HW c0 c1 hr0
          by_cases j1 : isK ts [41] (q + 1)
          case neg =>
            have K6 := hid (T41.out.2 w5 (q + 1) HW5.out.pa j1)
            have HE := hid (fun w' h2 => HNo.out (q + 1) w' (by rw [HRK.out]; exact rngK_bad HR5.out j1) h2)
            clear HYes HNo T41 HRK HR5 j1 HW5 HOk HN
            generalize offZ ts (q + 1) = z at *
            generalize rgI ts q = rr at *
            go_wp2_with fail
            refine K6.out.mono ?_
            rintro e w6 ⟨rfl, hx6⟩
            go_wp2_with fail
            exact ⟨rfl, HE.out _ (HX5.out.trans hx6)⟩
          case pos =>
            obtain ⟨k6, nm6, v6, a6, -, -, -, -, hK6⟩ := T41.out.1 w5 (q + 1) HW5.out.pa j1
            have K6 := hid hK6
            have HE : Hid (∀ w', w'.ownsRow w.heap.size 9 1 vx acc.length (acc.map Value.string) → PaP w' g tb ts (q + 1 + 1) → Ex g w w' → E (.returned (.tuple #[vx, .int .i64 (rgI ts q : Int)])) w') := hid fun w' h1 h2 h3 => HYes.out acc (rgI ts q) (q + 1 + 1) vx w' (by rw [HRK.out]; exact rngK_ok HR5.out j1) h1 h2 h3
            have HO5 := hid HW5.out.own
            clear HYes HNo T41 HRK HR5 j1 HW5 HOk HN hK6
            generalize rgI ts q = rr at *
            go_wp2_with fail
            refine K6.out.mono ?_
            rintro e w6 ⟨rfl, hpp6, hx6⟩
            have HE6 := hid (HE.out w6 (own_ex HO5.out hx6 hglt) hpp6 (HX5.out.trans hx6))
            clear HE hpp6 hx6 K6
            go_wp2_with fail
            first | exact HE6.out | (go_ret2; exact HE6.out)
        · have HE := hid (HNo.out q w5 (by rw [HRK.out]; exact rngK_no hr0) (HW.out.ex.trans hx5))
          clear HYes HNo HRK hr0 hx5 K5 HW
          generalize offZ ts q = z at *
          go_wp2_with fail
          exact ⟨rfl, HE.out⟩
    case pos =>
      rw [decide_eq_true h97] at m97
      obtain ⟨ax, cx, ex⟩ := own_shapeT2 HW.out.own
      obtain ⟨n', hn'⟩ : ∃ n, n = acc.length := ⟨_, rfl⟩
      rw [← hn'] at ex
      subst ex
      have HOA : Hid (wr.ownsRow w.heap.size 9 1 (.slice ax n' cx) n' (acc.map Value.string)) := hid (by have h := HW.out.own; rw [← hn'] at h; exact h)
      have HSz := hid HW.out.ex.size
      have HPush : Hid (∀ (w6 : World) (o : Obj) (x' : Value), (wr.alloc o).grownBy w6 (Value.slice ax n' cx).ownBlock → w6.ownsRow w.heap.size 9 1 x' (n' + 1) (acc.map Value.string ++ [.string nm]) → HdW w w6 g tb ts L q ⟨k, nm, v1, a1⟩ x' (acc ++ [nm])) := hid fun w6 o x' h2 h3 => HW.out.app h2 (by rw [← hn']; exact h3)
      have hnl : n' ≤ 100001 := by omega
      have HAcc : Hid ((acc ++ [nm]).length = n' + 1) := hid (by rw [List.length_append, List.length_singleton, hn'])
      have hal' : n' ≤ q := by omega
      clear hn' HYes KR T41 m41
      have c1a : ∀ o', (wr.alloc o').cell? ⟨L, 1, none⟩ = some (.string nm) := fun o' => (World.cell?_alloc_past _ _ _ HW.out.lt).trans c1
      generalize hkd : kdT k = kd at *
      go_upto_region 5 with (first | (at_builtin; refine wpList_append_lies _ rfl _ _ 26 rfl w.heap.size 9 iS (.string ⟨#[]⟩) 1 16 Tryz.underlying26 si sz0 sz1 sz2 rfl (by decide) (.slice ax n' cx) n' (acc.map Value.string) rfl (HOA.out.alloc _) ⟨_, 0, none⟩ 1 1 [.string nm] rfl rfl (new1_cellT _ _ _) (fun u hu => by simp at hu; subst hu; rfl) (by decide) (by unfold maxLen; omega) (by omega) (by have := HSz.out; simp; omega) _ rfl ?_; intro g6 cp6 w6 hown6 hgrow6 hat6 hlt6; have HW6 := hid (HPush.out w6 _ (.slice (some ⟨g6, 0, none⟩) (n' + 1) cp6) hgrow6 hown6); clear hown6 hgrow6 hat6 hlt6) | fail)
      clear c0 c1 c1a m97 hkd HPush HOA HSz HW
      have HB1 : Hid (¬ isK ts [44, 59, 41] q → R = .error q) := hid fun j => HJ.out.bad1 h97 j
      have HB2 : Hid (isK ts [44] q → ¬ isK ts [97] (q + 1) → R = .error (q + 1)) := hid fun j j2 => HJ.out.bad2 h97 j j2
      have HB3 : Hid (isK ts [44] q → isK ts [97] (q + 1) → HdJ ts R (q + 1 + 1) (ts.getD (q + 1) noTk) (acc ++ [nm])) := hid fun j j2 => HJ.out.next h97 j j2
      have HB4 : Hid (isK ts [44, 59, 41] q → (ts.getD q noTk).k ≠ 44 → HdJ ts R (q + 1) (ts.getD q noTk) (acc ++ [nm])) := hid fun j j2 => HJ.out.last h97 j j2
      clear HJ h97
      generalize acc ++ [nm] = acc' at *
      by_cases j1 : isK ts [44, 59, 41] q
      case neg =>
        have K7 := hid (TB.out.2 w6 q HW6.out.pa j1)
        have HE := hid (fun w' h2 => HNo.out q w' (HB1.out j1) h2)
        have HX6 := hid HW6.out.ex
        clear HB1 HB2 HB3 HB4 TB T97 HKd HN HOk HNo j1 HW6
        generalize offZ ts q = z at *
        go_wp2_with fail
        refine K7.out.mono ?_
        rintro e w7 ⟨rfl, hx7⟩
        go_wp2_with fail
        exact ⟨rfl, HE.out _ (HX6.out.trans hx7)⟩
      case pos =>
        obtain ⟨k7, nm7, v7, a7, e1, e2, e3, e4, hK7⟩ := TB.out.1 w6 q HW6.out.pa j1
        have K7 := hid hK7
        have HT : Hid ((⟨k7, nm7, v7, a7⟩ : TkV) = ts.getD q noTk) := hid (by rw [e1, e2, e3, e4])
        have hu := HOk.out q j1.1
        rw [← HT.out] at hu
        have m44 : ((kdT k7).toList == [44]) = decide (k7 = 44) := (HKd.out _ hu).1
        have HU := hid hu
        have hq1 : q + 1 ≤ N := by have := j1.1; have := HN.out; omega
        clear hK7 e1 e2 e3 e4 HB1 TB hu
        go_wp2_with fail
        refine K7.out.mono ?_
        rintro e w7 ⟨rfl, hpp7, hx7⟩
        have HW7 := hid (HW6.out.next hx7 hpp7)
        have c0 := HW7.out.c0
        have c1 := HW7.out.c1
        obtain ⟨c2, c3, fr⟩ := HW7.out.face
        have f0 := fr 0
        have f1 := fr 1
        have f2 := fr 2
        have f3 := fr 3
        clear hpp7 hx7 K7 HW6 fr
        go_upto_region 6 with fail
        have HW8 : Hid (HdW w (put4 w7 L ⟨k7, nm7, v7, a7⟩) g tb ts L (q + 1) ⟨k7, nm7, v7, a7⟩ (.slice (some ⟨g6, 0, none⟩) (n' + 1) cp6) acc') := hid (HW7.out.put _)
        have HW8' : Hid (HdW w ((((w7.setCell ⟨L, 0, none⟩ (.string (kdT k7))).setCell ⟨L, 1, none⟩ (.string nm7)).setCell ⟨L, 2, none⟩ (.int .i64 (v7 : Int))).setCell ⟨L, 3, none⟩ (.int .i64 (a7 : Int))) g tb ts L (q + 1) ⟨k7, nm7, v7, a7⟩ (.slice (some ⟨g6, 0, none⟩) (n' + 1) cp6) acc') := hid HW8.out
        clear c0 c1 c2 c3 f0 f1 f2 f3 HW7 HW8
        generalize (((w7.setCell ⟨L, 0, none⟩ (.string (kdT k7))).setCell ⟨L, 1, none⟩ (.string nm7)).setCell ⟨L, 2, none⟩ (.int .i64 (v7 : Int))).setCell ⟨L, 3, none⟩ (.int .i64 (a7 : Int)) = W8 at *
        have hrem8 := HW8'.out.pa.rem
        rw [← HN.out] at hrem8
        have d0 : W8.cell? ⟨L, 0, none⟩ = some (.string (kdT k7)) := HW8'.out.c0
        by_cases h44 : k7 = 44
        case neg =>
          rw [decide_eq_false h44] at m44
          have HJ8 : Hid (HdJ ts R (q + 1) ⟨k7, nm7, v7, a7⟩ acc') := hid (by rw [HT.out]; exact HB4.out j1 (by rw [← HT.out]; exact h44))
          clear HB2 HB3 HB4 HT HNo T97 HKd HOk h44 j1
          generalize hkd : kdT k7 = kd at *
          clear hkd
          go_wp2_with fail
          go_roundw
          case rel => exact ⟨q + 1, _, _, _, rfl, hq1, by rw [HAcc.out]; omega, hid ⟨HJ8.out, HU.out, HW8'.out⟩⟩
          case measure => rw [hrem8, hrem]; omega
        case pos =>
          rw [decide_eq_true h44] at m44
          have j44 : isK ts [44] q := ⟨j1.1, by rw [← HT.out]; simpa using h44⟩
          clear HB4 HT h44 j1
          by_cases j2 : isK ts [97] (q + 1)
          case neg =>
            have K9 := hid (T97.out.2 W8 (q + 1) HW8'.out.pa j2)
            have HE := hid (fun w' h2 => HNo.out (q + 1) w' (HB2.out j44 j2) h2)
            have HX8 := hid HW8'.out.ex
            clear HB2 HB3 T97 HKd HN HOk HNo j2 HW8' j44
            generalize offZ ts (q + 1) = z at *
            generalize kdT k7 = kd at *
            go_wp2_with fail
            refine K9.out.mono ?_
            rintro e w9 ⟨rfl, hx9⟩
            go_wp2_with fail
            exact ⟨rfl, HE.out _ (HX8.out.trans hx9)⟩
          case pos =>
            obtain ⟨k9, nm9, v9, a9, e1, e2, e3, e4, hK9⟩ := T97.out.1 W8 (q + 1) HW8'.out.pa j2
            have K9 := hid hK9
            have HT : Hid ((⟨k9, nm9, v9, a9⟩ : TkV) = ts.getD (q + 1) noTk) := hid (by rw [e1, e2, e3, e4])
            have HU9 : Hid (TkOk ⟨k9, nm9, v9, a9⟩) := hid (by rw [HT.out]; exact HOk.out (q + 1) j2.1)
            have HJ9 : Hid (HdJ ts R (q + 1 + 1) ⟨k9, nm9, v9, a9⟩ acc') := hid (by rw [HT.out]; exact HB3.out j44 j2)
            have hq2 : q + 1 + 1 ≤ N := by have := j2.1; have := HN.out; omega
            clear hK9 e1 e2 e3 e4 HT HB2 HB3 T97 HKd HOk HNo j2 j44 HU
            generalize hkd : kdT k7 = kd at *
            go_wp2_with fail
            refine K9.out.mono ?_
            rintro e w9 ⟨rfl, hpp9, hx9⟩
            have HW9 := hid (HW8'.out.next hx9 hpp9)
            have c0 := HW9.out.c0
            have c1 := HW9.out.c1
            obtain ⟨c2, c3, fr⟩ := HW9.out.face
            have f0 := fr 0
            have f1 := fr 1
            have f2 := fr 2
            have f3 := fr 3
            have HW10 : Hid (HdW w (put4 w9 L ⟨k9, nm9, v9, a9⟩) g tb ts L (q + 1 + 1) ⟨k9, nm9, v9, a9⟩ (.slice (some ⟨g6, 0, none⟩) (n' + 1) cp6) acc') := hid (HW9.out.put _)
            have hrem10 := HW10.out.pa.rem
            rw [← HN.out] at hrem10
            have HRem := hid hrem10
            clear hpp9 hx9 K9 HW8' fr HW9 d0 hrem8 hkd hrem10
            go_wp2_with fail
            go_roundw
            case rel => exact ⟨q + 1 + 1, _, _, _, rfl, hq2, by rw [HAcc.out]; omega, hid ⟨HJ9.out, HU9.out, HW10.out⟩⟩
            case measure => rw [hrem]; exact (show remOf (put4 w9 L ⟨k9, nm9, v9, a9⟩) g < N - q by rw [HRem.out]; omega)

end Go.Proofs.YtcdfoephhjacdaaGreatDoor
