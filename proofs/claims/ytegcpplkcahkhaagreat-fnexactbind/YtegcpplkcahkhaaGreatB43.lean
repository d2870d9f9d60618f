import Derived.Test.YtegcpplkcahkhaaGreatB23
import Derived.Test.YtegcpplkcahkhaaGreatB35
import Derived.Test.YtegcpplkcahkhaaGreatB37
import Derived.Test.YtegcpplkcahkhaaGreatB42
/-
  impl.check.
-/
namespace Go.Proofs.YtegcpplkcahkhaaGreat
open Go.RowKit

/-- an error within a part -/
def withinV (part : ByteArray) (e : Value) : Value := .iface 104 (.agg #[.string part, e])
def txAtoms : ByteArray := ⟨#[97, 116, 111, 109, 115]⟩
def txHead : ByteArray := ⟨#[104, 101, 97, 100]⟩
/-- what impl.check answers: nil, a fault, or a fault within a part -/
def CheckE (c p : Int) (x : Value) : Prop := (c = 0 ∧ p = 0 ∧ x = .nilIface) ∨ (c ≠ 0 ∧ (x = faultV c p ∨ ∃ t, x = withinV t (faultV c p)))
theorem CheckE.ok : CheckE 0 0 .nilIface := Or.inl ⟨rfl, rfl, rfl⟩
theorem CheckE.bare (c p : Int) (h : c ≠ 0) : CheckE c p (faultV c p) := Or.inr ⟨h, Or.inl rfl⟩
theorem CheckE.part (c p : Int) (h : c ≠ 0) (t : ByteArray) : CheckE c p (withinV t (faultV c p)) := Or.inr ⟨h, Or.inr ⟨t, rfl⟩⟩

theorem first_or_all (p : Nat → Bool) (n : Nat) : (∀ i, i < n → p i = false) ∨ ∃ i, i < n ∧ p i = true ∧ ∀ j, j < i → p j = false := by
  induction n with
  | zero => exact Or.inl (fun i hi => by omega)
  | succ n ih =>
    rcases ih with h | ⟨i, hi, h1, h2⟩
    · cases hp : p n
      · exact Or.inl (fun i hi => by
          by_cases e : i = n
          · rw [e]; exact hp
          · exact h i (by omega))
      · exact Or.inr ⟨n, by omega, hp, h⟩
    · exact Or.inr ⟨i, by omega, h1, h2⟩
theorem atoms_case (ds : List RelV) (ats : List AtomV) : ((∀ j, j < ats.length → atomCode ds (ats.getD j noAt) = 0) ∧ atomsV ds ats = .nilIface) ∨
    ∃ i, i < ats.length ∧ atomCode ds (ats.getD i noAt) ≠ 0 ∧ (∀ j, j < i → atomCode ds (ats.getD j noAt) = 0) ∧ atomsV ds ats = faultV (atomCode ds (ats.getD i noAt)) i := by
  rcases first_or_all (fun i => decide (atomCode ds (ats.getD i noAt) ≠ 0)) ats.length with h | ⟨i, hi, h1, h2⟩
  · have h' : ∀ j, j < ats.length → atomCode ds (ats.getD j noAt) = 0 := fun j hj => by simpa using h j hj
    exact Or.inl ⟨h', atomsV_ok h'⟩
  · have h1' : atomCode ds (ats.getD i noAt) ≠ 0 := by simpa using h1
    have h2' : ∀ j, j < i → atomCode ds (ats.getD j noAt) = 0 := fun j hj => by simpa using h2 j hj
    exact Or.inr ⟨i, hi, h1', h2', atomsV_bad hi h2' h1'⟩
theorem head_case (VV hd : List ByteArray) : ((∀ j, j < hd.length → badH VV hd j = false) ∧ headV VV hd = .nilIface) ∨
    ∃ i, i < hd.length ∧ badH VV hd i = true ∧ (∀ j, j < i → badH VV hd j = false) ∧ headV VV hd = faultV 7 i := by
  rcases first_or_all (badH VV hd) hd.length with h | ⟨i, hi, h1, h2⟩
  · exact Or.inl ⟨h, headV_ok h⟩
  · exact Or.inr ⟨i, hi, h1, h2, headV_bad hi h2 h1⟩

set_option maxHeartbeats 20000000 in
set_option maxRecDepth 1000000 in
theorem check_calls (w : World) (v vh va : Value) (ds : List RelV) (q : QV) (h : IRelS w v ds) (hr : OkRels ds) (hi : IQ w vh va q) (hq : OkQ q) (hcap : ∀ a n cap, vh = .slice a n cap → n ≤ cap) :
    Calls Tryz.prog 29 #[.agg #[v], .agg #[.string q.name, vh, .int .i64 q.ring, va]] w fun e w' => ∃ x, e = .returned x ∧ CheckE (checkP ds q).1 (checkP ds q).2 x ∧ Below w.heap.size w w' := by
  have hdl := hr.1
  have hal := hq.alen
  have hhl := hq.len
  have h' := h
  obtain ⟨a3, k3, e3, -⟩ := h'
  obtain ⟨a1, k1, e1, -⟩ := hi.head
  obtain ⟨a2, k2, e2, -⟩ := hi.atoms
  subst e1 e2 e3
  have HB1 : Hid (Below w.heap.size w (w.alloc (.cells #[.slice a3 ds.length k3] 35))) := hid ((Below.refl _ _).alloc (Nat.le_refl _) _)
  have c0 : (w.alloc (.cells #[.slice a3 ds.length k3] 35)).cell? ⟨w.heap.size, 0, none⟩ = some (.slice a3 ds.length k3) := by rw [World.cell?_alloc_at _ _ _ _ rfl]; rfl
  obtain ⟨W1, hW1⟩ : ∃ W, W = w.alloc (.cells #[.slice a3 ds.length k3] 35) := ⟨_, rfl⟩
  have hs1 : W1.heap.size = w.heap.size + 1 := by rw [hW1]; simp
  rw [← hW1] at HB1 c0
  have HB2 : Hid (Below W1.heap.size W1 (W1.alloc (.cells #[.string q.name, .slice a1 q.head.length k1, .int .i64 q.ring, .slice a2 q.atoms.length k2] 39))) := hid ((Below.refl _ _).alloc (Nat.le_refl _) _)
  obtain ⟨W0, hW0⟩ : ∃ W, W = W1.alloc (.cells #[.string q.name, .slice a1 q.head.length k1, .int .i64 q.ring, .slice a2 q.atoms.length k2] 39) := ⟨_, rfl⟩
  have q0 : W0.cell? ⟨W1.heap.size, 0, none⟩ = some (.string q.name) := by rw [hW0, World.cell?_alloc_at _ _ _ _ rfl]; rfl
  have q1 : W0.cell? ⟨W1.heap.size, 1, none⟩ = some (.slice a1 q.head.length k1) := by rw [hW0, World.cell?_alloc_at _ _ _ _ rfl]; rfl
  have q2 : W0.cell? ⟨W1.heap.size, 2, none⟩ = some (.int .i64 q.ring) := by rw [hW0, World.cell?_alloc_at _ _ _ _ rfl]; rfl
  have q3 : W0.cell? ⟨W1.heap.size, 3, none⟩ = some (.slice a2 q.atoms.length k2) := by rw [hW0, World.cell?_alloc_at _ _ _ _ rfl]; rfl
  rw [← hW0] at HB2
  have d0 := bcl' HB2.out c0
  have HBW := hid (bt HB1.out HB2.out)
  have HD := hid (h.below HBW.out)
  have HQ := hid (hi.below HBW.out)
  have HOQ := hid hq
  have KD := hid (dataOK_calls W0 _ ds HD.out hr)
  rw [hs1] at q0 q1 q2 q3
  clear hr hq h hi
  obtain ⟨DB, hDB⟩ : ∃ b, b = dataB ds := ⟨_, rfl⟩
  have HDB := hid hDB
  rw [← hDB] at KD
  clear hDB
  go_enter Tryz.func29, Tryz.ntmps29
  go_upto_region 1 with fail
  rw [← hW1, ← hW0]
  clear hW1 hW0 HB1 HB2 c0 hs1
  generalize w.heap.size + 1 = B2 at *
  go_wp2_with fail
  refine KD.out.mono ?_
  rintro e w1 ⟨rfl, hb1⟩
  have HB1 := hid hb1
  clear hb1 KD
  cases DB
  case false =>
    have HR := hid (checkP_data (q := q) HDB.out.symm)
    go_wp2_with fail
    go_ret
    exact ⟨_, rfl, by rw [HR.out]; exact CheckE.bare 1 0 (by decide), bt HBW.out HB1.out⟩
  have x0 := bcl' HB1.out q0
  have x1 := bcl' HB1.out q1
  have x2 := bcl' HB1.out q2
  have x3 := bcl' HB1.out q3
  have KS := hid (hasGoodShape_calls w1 _ _ q (HQ.out.below HB1.out) HOQ.out)
  obtain ⟨SB, hSB⟩ : ∃ b, b = shapeB q := ⟨_, rfl⟩
  have HSB := hid hSB
  rw [← hSB] at KS
  clear hSB
  go_wp2_with fail
  refine KS.out.mono ?_
  rintro e w2 ⟨rfl, hb2⟩
  have HB2 := hid (bt HB1.out hb2)
  clear hb2 KS x0 x1 x2 x3 HB1
  cases SB
  case false =>
    have HR := hid (checkP_shape HDB.out.symm HSB.out.symm)
    go_wp2_with fail
    go_ret
    exact ⟨_, rfl, by rw [HR.out]; exact CheckE.bare 2 0 (by decide), bt HBW.out HB2.out⟩
  have x3 := bcl' HB2.out q3
  have dd := bcl' HB2.out d0
  by_cases h7 : 7 < q.atoms.length
  · have i1 : (7 : Int) < (q.atoms.length : Int) := by omega
    have HR := hid (checkP_atoms HDB.out.symm HSB.out.symm h7)
    generalize q.atoms.length = an at *
    go_wp2_with fail
    go_ret
    exact ⟨_, rfl, by rw [HR.out]; exact CheckE.bare 3 0 (by decide), bt HBW.out HB2.out⟩
  have i1 : ¬ ((7 : Int) < (q.atoms.length : Int)) := by omega
  have h7' : q.atoms.length ≤ 7 := by omega
  have KA := hid (checkAtoms_calls w2 _ _ ds q.atoms (HD.out.below HB2.out) hdl (HQ.out.below HB2.out).atoms hal)
  go_wp2_with fail
  refine KA.out.mono ?_
  rintro e w3 ⟨rfl, hb3⟩
  have HB3 := hid (bt HB2.out hb3)
  clear hb3 KA x3 dd HB2
  rcases atoms_case ds q.atoms with ⟨hok, hav⟩ | ⟨i, hi, hc, hbf, hav⟩
  case inr =>
    have HR := hid (checkP_atom HDB.out.symm HSB.out.symm h7' hi hbf hc)
    rw [hav]
    clear hbf hav
    generalize atomCode ds (q.atoms.getD i noAt) = ac at *
    unfold faultV
    go_wp2_with fail
    go_ret
    exact ⟨_, rfl, by rw [HR.out]; exact CheckE.part ac (i : Int) hc txAtoms, bt HBW.out HB3.out⟩
  rw [hav]
  have x0 := bcl' HB3.out q0
  have x1 := bcl' HB3.out q1
  have x2 := bcl' HB3.out q2
  have x3 := bcl' HB3.out q3
  have KN := hid (variableNumbers_calls w3 _ _ q (HQ.out.below HB3.out) HOQ.out)
  go_wp2_with fail
  refine KN.out.mono ?_
  rintro e w4 ⟨b, rfl, hnb, -, -, hb4⟩
  have HB4 := hid (bt HB3.out hb4)
  clear hb4 KN x0 x1 x2 x3 HB3 hav
  have hnb' := hnb
  obtain ⟨D, hown, -, hsize, -⟩ := hnb'
  have x1 := bcl' HB4.out q1
  by_cases h6 : 6 < (VL q.atoms q.atoms.length).length
  · have i3 : (6 : Int) < ((VL q.atoms q.atoms.length).length : Int) := by omega
    have HR := hid (checkP_vars HDB.out.symm HSB.out.symm h7' hok h6)
    go_wp2_with (first | (at_len; refine wpList_len_own _ rfl _ 76 rfl 9 3 Tryz.underlying76 _ b (VL q.atoms q.atoms.length).length D rfl hown ?_; rw [hsize]) | fail)
    go_ret
    exact ⟨_, rfl, by rw [HR.out]; exact CheckE.bare 6 0 (by decide), bt HBW.out HB4.out⟩
  have i3 : ¬ ((6 : Int) < ((VL q.atoms q.atoms.length).length : Int)) := by omega
  have KH := hid (checkHead_calls w4 _ q.head (VL q.atoms q.atoms.length) b (HQ.out.below HB4.out).head hcap hhl HOQ.out.head hnb)
  go_wp2_with (first | (at_len; refine wpList_len_own _ rfl _ 76 rfl 9 3 Tryz.underlying76 _ b (VL q.atoms q.atoms.length).length D rfl hown ?_; rw [hsize]) | fail)
  refine KH.out.mono ?_
  rintro e w5 ⟨rfl, hw5⟩
  subst w5
  rcases head_case (VL q.atoms q.atoms.length) q.head with ⟨hok2, hhv⟩ | ⟨j, hj, hc, hbf, hhv⟩
  · have HR := hid (checkP_ok HDB.out.symm HSB.out.symm h7' hok (by omega) hok2)
    rw [hhv]
    go_wp2_with fail
    go_ret
    exact ⟨_, rfl, by rw [HR.out]; exact CheckE.ok, bt HBW.out HB4.out⟩
  · have HR := hid (checkP_head HDB.out.symm HSB.out.symm h7' hok (by omega) hj hbf hc)
    rw [hhv]
    unfold faultV
    go_wp2_with fail
    go_ret
    exact ⟨_, rfl, by rw [HR.out]; exact CheckE.part 7 (j : Int) (by decide) txHead, bt HBW.out HB4.out⟩

end Go.Proofs.YtegcpplkcahkhaaGreat

/-
  A checked query: what each atom's table is asked for.
-/
namespace Go.Proofs.YtegcpplkcahkhaaGreat
open Go.RowKit

theorem checkP_zero {ds : List RelV} {q : QV} (h : (checkP ds q).1 = 0) : dataB ds = true ∧ shapeB q = true ∧ q.atoms.length ≤ 7 ∧ (∀ j, j < q.atoms.length → atomCode ds (q.atoms.getD j noAt) = 0) ∧ (VL q.atoms q.atoms.length).length ≤ 6 := by
  cases hd : dataB ds
  · rw [checkP_data hd] at h; cases h
  cases hs : shapeB q
  · rw [checkP_shape hd hs] at h; cases h
  by_cases h7 : q.atoms.length ≤ 7
  · rcases first_or_all (fun i => decide (atomCode ds (q.atoms.getD i noAt) ≠ 0)) q.atoms.length with h1 | ⟨i, hi, h1, h2⟩
    · have hb : ∀ j, j < q.atoms.length → atomCode ds (q.atoms.getD j noAt) = 0 := fun j hj => by simpa using h1 j hj
      refine ⟨rfl, rfl, h7, hb, ?_⟩
      by_cases h6 : (VL q.atoms q.atoms.length).length ≤ 6
      · exact h6
      · rw [checkP_vars hd hs h7 hb (by omega)] at h; cases h
    · have hc : atomCode ds (q.atoms.getD i noAt) ≠ 0 := by simpa using h1
      rw [checkP_atom hd hs h7 hi (fun j hj => by simpa using h2 j hj) hc] at h
      exact absurd h hc
  · rw [checkP_atoms hd hs (by omega)] at h; cases h

theorem addV_mono {L : List ByteArray} {t : TermV} {x : ByteArray} (h : hasT L x = true) : hasT (addV L t) x = true := by
  unfold addV
  split
  · exact h
  · rw [hasT_app, h]; rfl
theorem addV_has {L : List ByteArray} {t : TermV} (h : t.1.toList.isEmpty = false) : hasT (addV L t) t.1 = true := by
  unfold addV
  rw [h, Bool.false_or]
  cases hh : hasT L t.1
  · rw [if_neg (by decide), hasT_app]; simp
  · rw [if_pos rfl]; exact hh
theorem fold_mono {x : ByteArray} : ∀ (l : List TermV) {L : List ByteArray}, hasT L x = true → hasT (l.foldl addV L) x = true
  | [], _, h => h
  | _ :: r, _, h => fold_mono r (addV_mono h)
theorem fold_has {t : TermV} (ht : t.1.toList.isEmpty = false) : ∀ (l : List TermV) {L : List ByteArray}, t ∈ l → hasT (l.foldl addV L) t.1 = true
  | [], _, h => by simp at h
  | a :: r, _, h => by
    rcases List.mem_cons.1 h with rfl | h
    · exact fold_mono r (addV_has ht)
    · exact fold_has ht r h
theorem folds_mono {x : ByteArray} : ∀ (l : List AtomV) {L : List ByteArray}, hasT L x = true → hasT (l.foldl (fun L a => a.2.foldl addV L) L) x = true
  | [], _, h => h
  | a :: r, _, h => folds_mono r (fold_mono a.2 h)
theorem folds_has {t : TermV} (ht : t.1.toList.isEmpty = false) {a : AtomV} (hta : t ∈ a.2) : ∀ (l : List AtomV) {L : List ByteArray}, a ∈ l → hasT (l.foldl (fun L a => a.2.foldl addV L) L) t.1 = true
  | [], _, h => by simp at h
  | b :: r, _, h => by
    rcases List.mem_cons.1 h with rfl | h
    · exact folds_mono r (fold_has ht a.2 hta)
    · exact folds_has ht hta r h
def NeT (L : List ByteArray) : Prop := ∀ y ∈ L, y.toList.isEmpty = false
theorem addV_ne {L : List ByteArray} {t : TermV} (h : NeT L) : NeT (addV L t) := by
  unfold addV
  split
  · exact h
  · rename_i h1
    intro y hy
    rcases List.mem_append.1 hy with hy | hy
    · exact h y hy
    · rw [List.mem_singleton.1 hy]
      cases he : t.1.toList.isEmpty
      · rfl
      · rw [he] at h1; simp at h1
theorem fold_ne : ∀ (l : List TermV) {L : List ByteArray}, NeT L → NeT (l.foldl addV L)
  | [], _, h => h
  | _ :: r, _, h => fold_ne r (addV_ne h)
theorem folds_ne : ∀ (l : List AtomV) {L : List ByteArray}, NeT L → NeT (l.foldl (fun L a => a.2.foldl addV L) L)
  | [], _, h => h
  | a :: r, _, h => folds_ne r (fold_ne a.2 h)
theorem VL_whole (ats : List AtomV) : VL ats ats.length = ats.foldl (fun L a => a.2.foldl addV L) [] := by unfold VL; rw [List.take_length]
theorem VL_ne (ats : List AtomV) {v : Nat} (hv : v < (VL ats ats.length).length) : ((VL ats ats.length).getD v noTx).toList.isEmpty = false := by
  have h := folds_ne ats (L := []) (fun y hy => by simp at hy)
  rw [← VL_whole] at h
  exact h _ (by rw [List.getD_eq_getElem?_getD, List.getElem?_eq_getElem hv]; exact List.getElem_mem _)
theorem getD_memG {α : Type} {l : List α} {d : α} {i : Nat} (h : i < l.length) : l.getD i d ∈ l := by rw [List.getD_eq_getElem?_getD, List.getElem?_eq_getElem h]; exact List.getElem_mem _
theorem VL_all (ats : List AtomV) {j i : Nat} (hj : j < ats.length) (hi : i < (ats.getD j noAt).2.length) (he : ((ats.getD j noAt).2.getD i noTm).1.toList.isEmpty = false) : hasT (VL ats ats.length) ((ats.getD j noAt).2.getD i noTm).1 = true := by
  rw [VL_whole]
  exact folds_has he (getD_memG hi) ats (getD_memG hj)

theorem rel_rows {ds : List RelV} (h : dataB ds = true) {k : Nat} (hk : k < ds.length) : (ds.getD k noRel).ar ≤ 3 ∧ (ds.getD k noRel).rows.length ≤ 2000 ∧ (ds.getD k noRel).ws.length = (ds.getD k noRel).rows.length ∧ rowsB (ds.getD k noRel).rows (ds.getD k noRel).ar = true := by
  unfold dataB at h
  simp only [Bool.and_eq_true, decide_eq_true_eq, List.all_eq_true] at h
  have h1 := h.2 k (List.mem_range.2 hk)
  unfold relAtB relB at h1
  generalize ds.getD k noRel = r at *
  simp only [Bool.and_eq_true, decide_eq_true_eq, List.all_eq_true] at h1
  obtain ⟨⟨⟨⟨⟨⟨⟨h2, h3⟩, h4⟩, h5⟩, h6⟩, h7⟩, h8⟩, -⟩ := h1
  unfold arityB at h3
  simp only [Bool.and_eq_true, decide_eq_true_eq] at h3
  exact ⟨h3.2, h4, h7, h5⟩

/-- what the table of atom j is asked for -/
theorem btH_of {ds : List RelV} {q : QV} (h : (checkP ds q).1 = 0) (hq : OkQ q) {j k : Nat} (hj : j < q.atoms.length) (hk : RelIx ds (q.atoms.getD j noAt).1 (k : Int)) : k < ds.length ∧ BtH (VL q.atoms q.atoms.length) (q.atoms.getD j noAt).2 (ds.getD k noRel) := by
  obtain ⟨hd, hs, h7, hc, h6⟩ := checkP_zero h
  obtain ⟨hkl, hcode⟩ := hk.code_yes
  rw [hc j hj] at hcode
  have har : (ds.getD k noRel).ar = ((q.atoms.getD j noAt).2.length : Int) := by
    by_cases e : (ds.getD k noRel).ar = ((q.atoms.getD j noAt).2.length : Int)
    · exact e
    · rw [if_neg e] at hcode; omega
  obtain ⟨r1, r2, r3, r4⟩ := rel_rows hd hkl
  have hab : atomB (q.atoms.getD j noAt) = true := by
    cases hb : atomB (q.atoms.getD j noAt)
    · rw [shape_atom hj hb] at hs; cases hs
    · rfl
  have htb : ∀ i, i < (q.atoms.getD j noAt).2.length → termB ((q.atoms.getD j noAt).2.getD i noTm) = true := fun i hi => by
    cases hb : termB ((q.atoms.getD j noAt).2.getD i noTm)
    · rw [atom_term hi hb] at hab; cases hab
    · rfl
  refine ⟨hkl, ⟨fun i hi => ?_, by omega, r2, r3, fun i hi he => ?_, fun i hi he => VL_all q.atoms hj hi he, fun v hv => VL_ne q.atoms hv, h6, fun i hi => (hq.atoms j hj).tx i hi⟩⟩
  · unfold rowsB at r4
    rw [List.all_eq_true] at r4
    have h9 := r4 i (by simpa using hi)
    unfold rowAt at h9
    simp only [Bool.and_eq_true, decide_eq_true_eq] at h9
    omega
  · have := htb i hi
    unfold termB at this
    rw [he, if_neg (by decide)] at this
    simp only [Bool.and_eq_true, decide_eq_true_eq] at this
    exact this.2

end Go.Proofs.YtegcpplkcahkhaaGreat

/-
  A list of tables in memory, apart from one another.
-/
namespace Go.Proofs.YtegcpplkcahkhaaGreat
open Go.RowKit

/-- what atom a's table holds -/
def TabOf (ds : List RelV) (V : List ByteArray) (a : AtomV) (t : TbR) : Prop := ∃ k : Nat, RelIx ds a.1 (k : Int) ∧ t.vs = vrsI V a.2 ∧ t.rows.length = t.ws.length ∧ (t.rows.zip t.ws).Perm (fndL V a.2 (ds.getD k noRel).rows (ds.getD k noRel).ws (ds.getD k noRel).rows.length) ∧ (t.rows.Pairwise fun a b => ¬ cmpL b a < 0)

/-- how impl.Bind ends -/
def BndE (w : World) (ds : List RelV) (q : QV) (e : Ending) (w' : World) : Prop := ∃ v, e = .returned v ∧ ∃ tl, TBs w' w.heap.size v tl ∧ tl.length = (if (checkP ds q).1 = 0 then q.atoms.length else 0) ∧ (∀ j, j < tl.length → TabOf ds (VL q.atoms q.atoms.length) (q.atoms.getD j noAt) (tl.getD j noTb)) ∧ Below w.heap.size w w'

theorem RX.set0 {W : World} {p : Nat} {v0 v1 v2 v3 : Value} (h : RX W p v0 v1 v2 v3) (y : Value) : RX (W.setCell ⟨p, 0, none⟩ y) p y v1 v2 v3 := ⟨by rw [heap_setCell_same _ _ _ _ _ _ h.blk]; rfl⟩
theorem RX.set1 {W : World} {p : Nat} {v0 v1 v2 v3 : Value} (h : RX W p v0 v1 v2 v3) (y : Value) : RX (W.setCell ⟨p, 1, none⟩ y) p v0 y v2 v3 := ⟨by rw [heap_setCell_same _ _ _ _ _ _ h.blk]; rfl⟩
end Go.Proofs.YtegcpplkcahkhaaGreat

/-
  Both make the same tables: rows that fit differ at their variables; sorted lists with the same pairs are one.
-/
namespace Go.Proofs.YtegcpplkcahkhaaGreat
open Go.RowKit

theorem atP_col (row : List Int) (V : List ByteArray) (ts : List TermV) : atP row (colP V ts) = (vrs V ts).map fun v => row.getD ((lastO ts ts.length (V.getD v noTx)).getD 0) 0 := by
  unfold atP colP
  rw [List.map_map]
  refine List.map_congr_left fun v _ => ?_
  simp only [Function.comp_def, Int.toNat_natCast]

/-- rows that fit are told by their variables' values -/
theorem fit_inj {V : List ByteArray} {ts : List TermV} {r1 r2 : List Int} (hall : ∀ i, i < ts.length → (ts.getD i noTm).1.toList.isEmpty = false → hasT V (ts.getD i noTm).1 = true) (h1 : fitB ts r1 = true) (h2 : fitB ts r2 = true) (l1 : r1.length = ts.length) (l2 : r2.length = ts.length) (h : atP r1 (colP V ts) = atP r2 (colP V ts)) : r1 = r2 := by
  rw [atP_col, atP_col] at h
  have hv := List.map_inj_left.1 h
  have key : ∀ i, i < ts.length → r1.getD i 0 = r2.getD i 0 := fun i hi => by
    cases he : (ts.getD i noTm).1.toList.isEmpty
    · obtain ⟨v, hvl, hvx⟩ := hasT_ix (hall i hi he)
      have hs : (lastO ts ts.length (ts.getD i noTm).1).isSome = true := lastO_some hi (by simp)
      obtain ⟨q, hq⟩ := Option.isSome_iff_exists.1 hs
      have hm : v ∈ vrs V ts := vrs_mem.2 ⟨hvl, by rw [hvx]; exact hs⟩
      have e := hv v hm
      rw [hvx, hq] at e
      simp only [Option.getD_some] at e
      have hql := lastO_lt hq
      have hqs := lastO_is hq
      rw [fitAt_same (fitB_at h1 hi) he hql hqs, fitAt_same (fitB_at h2 hi) he hql hqs, e]
    · have e1 := fitB_at h1 hi
      have e2 := fitB_at h2 hi
      rw [fitAt_const he, decide_eq_true_eq] at e1 e2
      rw [e1, e2]
  refine List.ext_getElem (by omega) fun i hi1 hi2 => ?_
  have := key i (by omega)
  rw [List.getD_eq_getElem?_getD, List.getElem?_eq_getElem hi1, List.getD_eq_getElem?_getD, List.getElem?_eq_getElem hi2] at this
  simpa using this

def LtL (a b : List Int) : Prop := cmpL a b < 0
theorem LtL.irr {a : List Int} (h : LtL a a) : False := by unfold LtL at h; rw [cmpL_self] at h; omega
theorem LtL.no {a b : List Int} (h : LtL a b) (k : LtL b a) : False := by
  unfold LtL at *
  have := cmpL_neg a b
  omega

theorem rows_strict {rows : List (List Int)} {q : Int} (h : rowsB rows q = true) : ∀ i j, i < j → j < rows.length → LtL (rows.getD i []) (rows.getD j []) := by
  have hs : ∀ j, j + 1 < rows.length → LtL (rows.getD j []) (rows.getD (j + 1) []) := fun j hj => by
    unfold rowsB at h
    rw [List.all_eq_true] at h
    have h9 := h (j + 1) (by simpa using hj)
    unfold rowAt at h9
    simp only [Bool.and_eq_true, decide_eq_true_eq] at h9
    unfold LtL
    simpa using h9.2
  intro i j hij hj
  induction j with
  | zero => omega
  | succ j ih =>
    rcases Nat.lt_or_ge i j with h1 | h1
    · exact cmpL_trans (ih h1 (by omega)) (hs j hj)
    · obtain rfl : i = j := by omega
      exact hs i hj

/-- no two found pairs have the same values -/
theorem fnd_nodup {V : List ByteArray} {ts : List TermV} {r : RelV} {q : Int} (hH : BtH V ts r) (hb : rowsB r.rows q = true) (i : Nat) (hi : i ≤ r.rows.length) : ((fndL V ts r.rows r.ws i).map Prod.fst).Nodup := by
  unfold fndL
  rw [List.map_map]
  refine List.pairwise_map.2 ?_
  refine (List.nodup_range.filter _).imp_of_mem fun {a b} ha hb' hne e => ?_
  obtain ⟨ha1, ha2⟩ := List.mem_filter.1 ha
  obtain ⟨hb1, hb2⟩ := List.mem_filter.1 hb'
  have ha3 : a < r.rows.length := by have := List.mem_range.1 ha1; omega
  have hb3 : b < r.rows.length := by have := List.mem_range.1 hb1; omega
  have e2 := fit_inj hH.all ha2 hb2 (hH.len a ha3) (hH.len b hb3) e
  rcases Nat.lt_trichotomy a b with h1 | h1 | h1
  · have := rows_strict hb a b h1 hb3
    rw [e2] at this
    exact this.irr
  · exact hne h1
  · have := rows_strict hb b a h1 ha3
    rw [e2] at this
    exact this.irr

theorem srt_uniqL : ∀ {l1 l2 : List (List Int × Int)}, l1.Pairwise (fun a b => LtL a.1 b.1) → l2.Pairwise (fun a b => LtL a.1 b.1) → (∀ x, x ∈ l1 ↔ x ∈ l2) → l1 = l2
  | [], [], _, _, _ => rfl
  | [], b :: r2, _, _, h => absurd ((h b).2 (List.mem_cons_self ..)) (by simp)
  | a :: r1, [], _, _, h => absurd ((h a).1 (List.mem_cons_self ..)) (by simp)
  | a :: r1, b :: r2, h1, h2, h => by
    rw [List.pairwise_cons] at h1 h2
    have e : a = b := by
      rcases List.mem_cons.1 ((h a).1 (List.mem_cons_self ..)) with e | ha
      · exact e
      · rcases List.mem_cons.1 ((h b).2 (List.mem_cons_self ..)) with e | hb
        · exact e.symm
        · exact ((h1.1 b hb).no (h2.1 a ha)).elim
    subst e
    rw [srt_uniqL h1.2 h2.2 fun x => ?_]
    constructor
    · intro hx
      rcases List.mem_cons.1 ((h x).1 (List.mem_cons_of_mem _ hx)) with e | hx2
      · subst e; exact (h1.1 x hx).irr.elim
      · exact hx2
    · intro hx
      rcases List.mem_cons.1 ((h x).2 (List.mem_cons_of_mem _ hx)) with e | hx2
      · subst e; exact (h2.1 x hx).irr.elim
      · exact hx2

theorem strict_ofL {rows : List (List Int)} (h : rows.Pairwise fun a b => ¬ cmpL b a < 0) (hn : rows.Nodup) : rows.Pairwise LtL := by
  refine (h.and hn).imp fun {a b} hab => ?_
  obtain ⟨h1, h2⟩ := hab
  unfold LtL
  have h3 := cmpL_neg a b
  have h4 : cmpL a b ≠ 0 := fun e => h2 (cmpL_eq e)
  omega
theorem zip_pw {rows : List (List Int)} {ws : List Int} (hl : rows.length = ws.length) (h : rows.Pairwise LtL) : (rows.zip ws).Pairwise fun a b => LtL a.1 b.1 := by
  have : ((rows.zip ws).map Prod.fst).Pairwise LtL := by rw [List.map_fst_zip (by omega)]; exact h
  exact List.pairwise_map.1 this

/-- two sorted lists of rows with their weights that hold the same pairs are one -/
theorem tab_uniq {r1 r2 : List (List Int)} {w1 w2 : List Int} {l : List (List Int × Int)} (hn : (l.map Prod.fst).Nodup) (l1 : r1.length = w1.length) (l2 : r2.length = w2.length) (p1 : (r1.zip w1).Perm l) (p2 : (r2.zip w2).Perm l) (s1 : r1.Pairwise fun a b => ¬ cmpL b a < 0) (s2 : r2.Pairwise fun a b => ¬ cmpL b a < 0) : r1 = r2 ∧ w1 = w2 := by
  have n1 : r1.Nodup := by
    have := (p1.map Prod.fst).nodup_iff.2 hn
    rwa [List.map_fst_zip (by omega)] at this
  have n2 : r2.Nodup := by
    have := (p2.map Prod.fst).nodup_iff.2 hn
    rwa [List.map_fst_zip (by omega)] at this
  have e := srt_uniqL (zip_pw l1 (strict_ofL s1 n1)) (zip_pw l2 (strict_ofL s2 n2)) fun x => (p1.mem_iff).trans p2.mem_iff.symm
  constructor
  · rw [← List.map_fst_zip (l₁ := r1) (l₂ := w1) (by omega), e, List.map_fst_zip (by omega)]
  · rw [← List.map_snd_zip (l₁ := r1) (l₂ := w1) (by omega), e, List.map_snd_zip (by omega)]

end Go.Proofs.YtegcpplkcahkhaaGreat

/-
  The model's table: row by row by l2Put.
-/
namespace Go.Proofs.YtegcpplkcahkhaaGreat
open Go.RowKit

theorem putL_no {α : Type} (l : List α) (k : Nat) (x : α) : putL l k false x = (l.take k ++ [x]) ++ l.drop k := rfl

theorem put_new {rows : List (List Int)} {ws : List Int} {x : List Int} {w : Int} {k : Nat} {there : Bool} (hs : rows.Pairwise LtL) (hl : rows.length = ws.length) (hx : x ∉ rows) (hF : FndA rows x k there) :
    (putL rows k there x).Pairwise LtL ∧ (putL rows k there x).length = (putL ws k there w).length ∧ ((putL rows k there x).zip (putL ws k there w)).Perm (rows.zip ws ++ [(x, w)]) := by
  obtain ⟨hk, hlt, hge, hth⟩ := hF
  have hne : ∀ i (hi : i < rows.length), cmpL (rows.getD i []) x ≠ 0 := fun i hi e => hx (by
    have := cmpL_eq e
    rw [← this]
    rw [List.getD_eq_getElem?_getD, List.getElem?_eq_getElem hi]
    exact List.getElem_mem _)
  have hf : there = false := by
    cases hb : there
    · rfl
    · obtain ⟨h1, h2⟩ := hth.1 hb
      exact absurd h2 (hne k h1)
  subst hf
  rw [putL_no, putL_no]
  have hpw := List.pairwise_iff_getElem.1 hs
  have hg : ∀ i (hi : i < rows.length), rows.getD i [] = rows[i] := fun i hi => by rw [List.getD_eq_getElem?_getD, List.getElem?_eq_getElem hi]; rfl
  have hxk : ∀ hkl : k < rows.length, LtL x rows[k] := fun hkl => by
    have h1 := hge hkl
    have h2 := hne k hkl
    have h3 := cmpL_neg x (rows.getD k [])
    rw [hg k hkl] at h1 h2 h3
    unfold LtL
    omega
  refine ⟨?_, ?_, ?_⟩
  · refine List.pairwise_append.2 ⟨List.pairwise_append.2 ⟨hs.sublist (List.take_sublist _ _), List.pairwise_singleton _ _, fun a ha b hb => ?_⟩, hs.sublist (List.drop_sublist _ _), fun a ha b hb => ?_⟩
    · rw [List.mem_singleton.1 hb]
      obtain ⟨i, hi, rfl⟩ := List.getElem_of_mem ha
      rw [List.length_take] at hi
      rw [List.getElem_take]
      have := hlt i (by omega)
      rw [hg i (by omega)] at this
      exact this
    · obtain ⟨j, hj, rfl⟩ := List.getElem_of_mem hb
      rw [List.length_drop] at hj
      rw [List.getElem_drop]
      have hkl : k < rows.length := by omega
      have hxj : LtL x (rows[k + j]'(by omega)) := by
        rcases Nat.eq_zero_or_pos j with e | e
        · subst e; exact hxk hkl
        · exact cmpL_trans (hxk hkl) (hpw k (k + j) hkl (by omega) (by omega))
      rcases List.mem_append.1 ha with ha | ha
      · obtain ⟨i, hi, rfl⟩ := List.getElem_of_mem ha
        rw [List.length_take] at hi
        rw [List.getElem_take]
        have := hlt i (by omega)
        rw [hg i (by omega)] at this
        exact cmpL_trans this hxj
      · rw [List.mem_singleton.1 ha]; exact hxj
  · simp only [List.length_append, List.length_take, List.length_drop, List.length_singleton]
    omega
  · have e1 : (rows.take k ++ [x] ++ rows.drop k).zip (ws.take k ++ [w] ++ ws.drop k) = ((rows.take k).zip (ws.take k) ++ [(x, w)]) ++ (rows.drop k).zip (ws.drop k) := by
      rw [List.zip_append (by simp only [List.length_append, List.length_take, List.length_singleton]; omega), List.zip_append (by simp only [List.length_take]; omega)]
      rfl
    have e2 : rows.zip ws = (rows.take k).zip (ws.take k) ++ (rows.drop k).zip (ws.drop k) := by
      rw [← List.zip_append (by simp only [List.length_take]; omega), List.take_append_drop, List.take_append_drop]
    rw [e1, e2, List.append_assoc, List.append_assoc]
    exact List.Perm.append_left _ List.perm_append_comm

/-- the model's table behind i rows -/
def SpT (V : List ByteArray) (ts : List TermV) (r : RelV) (i : Nat) (rows : List (List Int)) (ws : List Int) : Prop := rows.Pairwise LtL ∧ rows.length = ws.length ∧ (rows.zip ws).Perm (fndL V ts r.rows r.ws i)
section
variable {V : List ByteArray} {ts : List TermV} {r : RelV} {i : Nat} {rows : List (List Int)} {ws : List Int}
theorem SpT.start (V : List ByteArray) (ts : List TermV) (r : RelV) : SpT V ts r 0 [] [] := ⟨List.Pairwise.nil, rfl, List.Perm.refl _⟩
theorem SpT.no (h : SpT V ts r i rows ws) (hf : fitB ts (r.rows.getD i []) = false) : SpT V ts r (i + 1) rows ws := ⟨h.1, h.2.1, by rw [fndL_no hf]; exact h.2.2⟩
theorem SpT.yes {q : Int} {k : Nat} {there : Bool} (h : SpT V ts r i rows ws) (hH : BtH V ts r) (hb : rowsB r.rows q = true) (hi : i < r.rows.length) (hf : fitB ts (r.rows.getD i []) = true) (hF : FndA rows (atP (r.rows.getD i []) (colP V ts)) k there) :
    SpT V ts r (i + 1) (putL rows k there (atP (r.rows.getD i []) (colP V ts))) (putL ws k there (r.ws.getD i 0)) := by
  have hn := fnd_nodup hH hb (i + 1) (by omega)
  rw [fndL_yes hf, List.map_append] at hn
  have hx : atP (r.rows.getD i []) (colP V ts) ∉ rows := fun hm => by
    have h1 : atP (r.rows.getD i []) (colP V ts) ∈ (fndL V ts r.rows r.ws i).map Prod.fst := by
      rw [← (h.2.2.map Prod.fst).mem_iff, List.map_fst_zip (by have := h.2.1; omega)]
      exact hm
    exact (List.nodup_append.1 hn).2.2 _ h1 _ (by simp) rfl
  obtain ⟨p1, p2, p3⟩ := put_new (w := r.ws.getD i 0) h.1 h.2.1 hx hF
  exact ⟨p1, p2, by rw [fndL_yes hf]; exact p3.trans (h.2.2.append_right _)⟩
theorem SpT.le (h : SpT V ts r i rows ws) : rows.length ≤ i := by
  have h1 := h.2.2.length_eq
  have h2 := fndL_len V ts r.rows r.ws i
  rw [List.length_zip] at h1
  have := h.2.1
  omega
/-- the program's table is the model's -/
theorem SpT.same {q : Int} {r1 : List (List Int)} {w1 : List Int} (h : SpT V ts r r.rows.length rows ws) (hH : BtH V ts r) (hb : rowsB r.rows q = true) (l1 : r1.length = w1.length) (p1 : (r1.zip w1).Perm (fndL V ts r.rows r.ws r.rows.length)) (s1 : r1.Pairwise fun a b => ¬ cmpL b a < 0) : r1 = rows ∧ w1 = ws :=
  tab_uniq (fnd_nodup hH hb _ (Nat.le_refl _)) l1 h.2.1 p1 h.2.2 s1 (h.1.imp fun {a b} hab => by
    unfold LtL at hab
    have := cmpL_neg a b
    omega)
end

end Go.Proofs.YtegcpplkcahkhaaGreat
