import Derived.Test.YtfjchjhakjghcaaDoorD44
import Derived.Test.YtfjchjhakjghcaaDoorD56
/-
  impl.check.
-/
namespace Go.Proofs.YtfjchjhakjghcaaDoor
open Go.RowKit

/-- an error within a part -/
def withinV (part : ByteArray) (e : Value) : Value := .iface 129 (.agg #[.string part, e])
def txAtoms : ByteArray := ⟨#[97, 116, 111, 109, 115]⟩
def txHead : ByteArray := ⟨#[104, 101, 97, 100]⟩
/-- what impl.check answers: nil, a fault, or a fault within a part -/
def CheckE (c p : Int) (x : Value) : Prop := (c = 0 ∧ p = 0 ∧ x = .nilIface) ∨ (c ≠ 0 ∧ (x = faultV c p ∨ ∃ t, x = withinV t (faultV c p)))
theorem CheckE.ok : CheckE 0 0 .nilIface := Or.inl ⟨rfl, rfl, rfl⟩
theorem CheckE.bare (c p : Int) (h : c ≠ 0) : CheckE c p (faultV c p) := Or.inr ⟨h, Or.inl rfl⟩
theorem CheckE.part (c p : Int) (h : c ≠ 0) (t : ByteArray) : CheckE c p (withinV t (faultV c p)) := Or.inr ⟨h, Or.inr ⟨t, rfl⟩⟩

theorem first_or_all (p : Nat → Bool) (n : Nat) : (∀ i, i < n → p i = false) ∨ ∃ i, i < n ∧ p i = true ∧ ∀ j, j < i → p j = false := by
  induction n with
  | zero => exact Or.inl (fun i hi => by omega)
  | succ n ih =>
    rcases ih with h | ⟨i, hi, h1, h2⟩
    · cases hp : p n
      · exact Or.inl (fun i hi => by
          by_cases e : i = n
          · rw [e]; exact hp
          · exact h i (by omega))
      · exact Or.inr ⟨n, by omega, hp, h⟩
    · exact Or.inr ⟨i, by omega, h1, h2⟩
theorem atoms_case (ds : List RelV) (ats : List AtomV) : ((∀ j, j < ats.length → atomCode ds (ats.getD j noAt) = 0) ∧ atomsV ds ats = .nilIface) ∨
    ∃ i, i < ats.length ∧ atomCode ds (ats.getD i noAt) ≠ 0 ∧ (∀ j, j < i → atomCode ds (ats.getD j noAt) = 0) ∧ atomsV ds ats = faultV (atomCode ds (ats.getD i noAt)) i := by
  rcases first_or_all (fun i => decide (atomCode ds (ats.getD i noAt) ≠ 0)) ats.length with h | ⟨i, hi, h1, h2⟩
  · have h' : ∀ j, j < ats.length → atomCode ds (ats.getD j noAt) = 0 := fun j hj => by simpa using h j hj
    exact Or.inl ⟨h', atomsV_ok h'⟩
  · have h1' : atomCode ds (ats.getD i noAt) ≠ 0 := by simpa using h1
    have h2' : ∀ j, j < i → atomCode ds (ats.getD j noAt) = 0 := fun j hj => by simpa using h2 j hj
    exact Or.inr ⟨i, hi, h1', h2', atomsV_bad hi h2' h1'⟩
theorem head_case (VV hd : List ByteArray) : ((∀ j, j < hd.length → badH VV hd j = false) ∧ headV VV hd = .nilIface) ∨
    ∃ i, i < hd.length ∧ badH VV hd i = true ∧ (∀ j, j < i → badH VV hd j = false) ∧ headV VV hd = faultV 7 i := by
  rcases first_or_all (badH VV hd) hd.length with h | ⟨i, hi, h1, h2⟩
  · exact Or.inl ⟨h, headV_ok h⟩
  · exact Or.inr ⟨i, hi, h1, h2, headV_bad hi h2 h1⟩

set_option maxHeartbeats 20000000 in
set_option maxRecDepth 1000000 in
theorem check_calls (w : World) (v vh va : Value) (ds : List RelV) (q : QV) (h : IRelS w v ds) (hr : OkRels ds) (hi : IQ w vh va q) (hq : OkQ q) (hcap : ∀ a n cap, vh = .slice a n cap → n ≤ cap) :
    Calls Tryd.prog 45 #[.agg #[v], .agg #[.string q.name, vh, .int .i64 q.ring, va]] w fun e w' => ∃ x, e = .returned x ∧ CheckE (checkP ds q).1 (checkP ds q).2 x ∧ Below w.heap.size w w' := by
  have hdl := hr.1
  have hal := hq.alen
  have hhl := hq.len
  have h' := h
  obtain ⟨a3, k3, e3, -⟩ := h'
  obtain ⟨a1, k1, e1, -⟩ := hi.head
  obtain ⟨a2, k2, e2, -⟩ := hi.atoms
  subst e1 e2 e3
  have HB1 : Hid (Below w.heap.size w (w.alloc (.cells #[.slice a3 ds.length k3] 29))) := hid ((Below.refl _ _).alloc (Nat.le_refl _) _)
  have c0 : (w.alloc (.cells #[.slice a3 ds.length k3] 29)).cell? ⟨w.heap.size, 0, none⟩ = some (.slice a3 ds.length k3) := by rw [World.cell?_alloc_at _ _ _ _ rfl]; rfl
  obtain ⟨W1, hW1⟩ : ∃ W, W = w.alloc (.cells #[.slice a3 ds.length k3] 29) := ⟨_, rfl⟩
  have hs1 : W1.heap.size = w.heap.size + 1 := by rw [hW1]; simp
  rw [← hW1] at HB1 c0
  have HB2 : Hid (Below W1.heap.size W1 (W1.alloc (.cells #[.string q.name, .slice a1 q.head.length k1, .int .i64 q.ring, .slice a2 q.atoms.length k2] 41))) := hid ((Below.refl _ _).alloc (Nat.le_refl _) _)
  obtain ⟨W0, hW0⟩ : ∃ W, W = W1.alloc (.cells #[.string q.name, .slice a1 q.head.length k1, .int .i64 q.ring, .slice a2 q.atoms.length k2] 41) := ⟨_, rfl⟩
  have q0 : W0.cell? ⟨W1.heap.size, 0, none⟩ = some (.string q.name) := by rw [hW0, World.cell?_alloc_at _ _ _ _ rfl]; rfl
  have q1 : W0.cell? ⟨W1.heap.size, 1, none⟩ = some (.slice a1 q.head.length k1) := by rw [hW0, World.cell?_alloc_at _ _ _ _ rfl]; rfl
  have q2 : W0.cell? ⟨W1.heap.size, 2, none⟩ = some (.int .i64 q.ring) := by rw [hW0, World.cell?_alloc_at _ _ _ _ rfl]; rfl
  have q3 : W0.cell? ⟨W1.heap.size, 3, none⟩ = some (.slice a2 q.atoms.length k2) := by rw [hW0, World.cell?_alloc_at _ _ _ _ rfl]; rfl
  rw [← hW0] at HB2
  have d0 := bcl' HB2.out c0
  have HBW := hid (bt HB1.out HB2.out)
  have HD := hid (h.below HBW.out)
  have HQ := hid (hi.below HBW.out)
  have HOQ := hid hq
  have KD := hid (dataOK_calls W0 _ ds HD.out hr)
  rw [hs1] at q0 q1 q2 q3
  clear hr hq h hi
  obtain ⟨DB, hDB⟩ : ∃ b, b = dataB ds := ⟨_, rfl⟩
  have HDB := hid hDB
  rw [← hDB] at KD
  clear hDB
  go_enter Tryd.func45, Tryd.ntmps45
  go_upto_region 1 with fail
  rw [← hW1, ← hW0]
  clear hW1 hW0 HB1 HB2 c0 hs1
  generalize w.heap.size + 1 = B2 at *
  go_wp2_with fail
  refine KD.out.mono ?_
  rintro e w1 ⟨rfl, hb1⟩
  have HB1 := hid hb1
  clear hb1 KD
  cases DB
  case false =>
    have HR := hid (checkP_data (q := q) HDB.out.symm)
    go_wp2_with fail
    go_ret
    exact ⟨_, rfl, by rw [HR.out]; exact CheckE.bare 1 0 (by decide), bt HBW.out HB1.out⟩
  have x0 := bcl' HB1.out q0
  have x1 := bcl' HB1.out q1
  have x2 := bcl' HB1.out q2
  have x3 := bcl' HB1.out q3
  have KS := hid (hasGoodShape_calls w1 _ _ q (HQ.out.below HB1.out) HOQ.out)
  obtain ⟨SB, hSB⟩ : ∃ b, b = shapeB q := ⟨_, rfl⟩
  have HSB := hid hSB
  rw [← hSB] at KS
  clear hSB
  go_wp2_with fail
  refine KS.out.mono ?_
  rintro e w2 ⟨rfl, hb2⟩
  have HB2 := hid (bt HB1.out hb2)
  clear hb2 KS x0 x1 x2 x3 HB1
  cases SB
  case false =>
    have HR := hid (checkP_shape HDB.out.symm HSB.out.symm)
    go_wp2_with fail
    go_ret
    exact ⟨_, rfl, by rw [HR.out]; exact CheckE.bare 2 0 (by decide), bt HBW.out HB2.out⟩
  have x3 := bcl' HB2.out q3
  have dd := bcl' HB2.out d0
  by_cases h7 : 7 < q.atoms.length
  · have i1 : (7 : Int) < (q.atoms.length : Int) := by omega
    have HR := hid (checkP_atoms HDB.out.symm HSB.out.symm h7)
    generalize q.atoms.length = an at *
    go_wp2_with fail
    go_ret
    exact ⟨_, rfl, by rw [HR.out]; exact CheckE.bare 3 0 (by decide), bt HBW.out HB2.out⟩
  have i1 : ¬ ((7 : Int) < (q.atoms.length : Int)) := by omega
  have h7' : q.atoms.length ≤ 7 := by omega
  have KA := hid (checkAtoms_calls w2 _ _ ds q.atoms (HD.out.below HB2.out) hdl (HQ.out.below HB2.out).atoms hal)
  go_wp2_with fail
  refine KA.out.mono ?_
  rintro e w3 ⟨rfl, hb3⟩
  have HB3 := hid (bt HB2.out hb3)
  clear hb3 KA x3 dd HB2
  rcases atoms_case ds q.atoms with ⟨hok, hav⟩ | ⟨i, hi, hc, hbf, hav⟩
  case inr =>
    have HR := hid (checkP_atom HDB.out.symm HSB.out.symm h7' hi hbf hc)
    rw [hav]
    clear hbf hav
    generalize atomCode ds (q.atoms.getD i noAt) = ac at *
    unfold faultV
    go_wp2_with fail
    go_ret
    exact ⟨_, rfl, by rw [HR.out]; exact CheckE.part ac (i : Int) hc txAtoms, bt HBW.out HB3.out⟩
  rw [hav]
  have x0 := bcl' HB3.out q0
  have x1 := bcl' HB3.out q1
  have x2 := bcl' HB3.out q2
  have x3 := bcl' HB3.out q3
  have KN := hid (variableNumbers_calls w3 _ _ q (HQ.out.below HB3.out) HOQ.out)
  go_wp2_with fail
  refine KN.out.mono ?_
  rintro e w4 ⟨b, rfl, hnb, -, -, hb4⟩
  have HB4 := hid (bt HB3.out hb4)
  clear hb4 KN x0 x1 x2 x3 HB3 hav
  have hnb' := hnb
  obtain ⟨D, hown, -, hsize, -⟩ := hnb'
  have x1 := bcl' HB4.out q1
  by_cases h6 : 6 < (VL q.atoms q.atoms.length).length
  · have i3 : (6 : Int) < ((VL q.atoms q.atoms.length).length : Int) := by omega
    have HR := hid (checkP_vars HDB.out.symm HSB.out.symm h7' hok h6)
    go_wp2_with (first | (at_len; refine wpList_len_own _ rfl _ 98 rfl 9 3 Tryd.underlying98 _ b (VL q.atoms q.atoms.length).length D rfl hown ?_; rw [hsize]) | fail)
    go_ret
    exact ⟨_, rfl, by rw [HR.out]; exact CheckE.bare 6 0 (by decide), bt HBW.out HB4.out⟩
  have i3 : ¬ ((6 : Int) < ((VL q.atoms q.atoms.length).length : Int)) := by omega
  have KH := hid (checkHead_calls w4 _ q.head (VL q.atoms q.atoms.length) b (HQ.out.below HB4.out).head hcap hhl HOQ.out.head hnb)
  go_wp2_with (first | (at_len; refine wpList_len_own _ rfl _ 98 rfl 9 3 Tryd.underlying98 _ b (VL q.atoms q.atoms.length).length D rfl hown ?_; rw [hsize]) | fail)
  refine KH.out.mono ?_
  rintro e w5 ⟨rfl, hw5⟩
  subst w5
  rcases head_case (VL q.atoms q.atoms.length) q.head with ⟨hok2, hhv⟩ | ⟨j, hj, hc, hbf, hhv⟩
  · have HR := hid (checkP_ok HDB.out.symm HSB.out.symm h7' hok (by omega) hok2)
    rw [hhv]
    go_wp2_with fail
    go_ret
    exact ⟨_, rfl, by rw [HR.out]; exact CheckE.ok, bt HBW.out HB4.out⟩
  · have HR := hid (checkP_head HDB.out.symm HSB.out.symm h7' hok (by omega) hj hbf hc)
    rw [hhv]
    unfold faultV
    go_wp2_with fail
    go_ret
    exact ⟨_, rfl, by rw [HR.out]; exact CheckE.part 7 (j : Int) (by decide) txHead, bt HBW.out HB4.out⟩

end Go.Proofs.YtfjchjhakjghcaaDoor
