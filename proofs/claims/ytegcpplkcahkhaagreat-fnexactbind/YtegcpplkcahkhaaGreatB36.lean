import Derived.Deep.Cut
import Derived.Test.YtegcpplkcahkhaaGreatB14
import Derived.Test.YtegcpplkcahkhaaGreatB21
import Derived.Test.YtegcpplkcahkhaaGreatB22
import Derived.Test.YtegcpplkcahkhaaGreatB24
/-
  The place of a relation of a name: spec.l2Rel.
-/
namespace Go.Proofs.YtegcpplkcahkhaaGreat
open Go.RowKit

/-- z: the first place of a relation of the name s, or -1 -/
def RelIx (ds : List RelV) (s : ByteArray) (z : Int) : Prop :=
  (z = -1 ∧ ∀ i, i < ds.length → ((ds.getD i noRel).name.toList == s.toList) = false) ∨
  ∃ j : Nat, z = j ∧ j < ds.length ∧ ((ds.getD j noRel).name.toList == s.toList) = true ∧ ∀ i, i < j → ((ds.getD i noRel).name.toList == s.toList) = false

theorem RelIx.one {ds : List RelV} {s : ByteArray} {y z : Int} (h : RelIx ds s y) (k : RelIx ds s z) : y = z := by
  rcases h with ⟨e, h⟩ | ⟨j, e, hj, h1, h2⟩ <;> rcases k with ⟨e', k⟩ | ⟨j', e', hj', k1, k2⟩
  · rw [e, e']
  · rw [h j' hj'] at k1; cases k1
  · rw [k j hj] at h1; cases h1
  · rcases Nat.lt_trichotomy j j' with hl | hl | hl
    · rw [k2 j hl] at h1; cases h1
    · rw [e, e', hl]
    · rw [h2 j' hl] at k1; cases k1

set_option maxHeartbeats 4000000 in
set_option maxRecDepth 1000000 in
theorem l2Rel_calls (w : World) (v : Value) (ds : List RelV) (s : ByteArray) (h : IRelS w v ds) (hl : ds.length ≤ 1099511627776) :
    Calls Tryz.prog 23 #[.agg #[v], .string s] w fun e w' => ∃ z : Int, e = .returned (.int .i64 z) ∧ RelIx ds s z ∧ Below w.heap.size w w' := by
  have HB0 : Hid (Below w.heap.size w (w.alloc (.cells #[v] 35))) := hid ((Below.refl _ _).alloc (Nat.le_refl _) _)
  have HD0 : Hid ((w.alloc (.cells #[v] 35)).cell? ⟨w.heap.size, 0, none⟩ = some v) := hid (by simp [go_sem])
  have HI := hid (h.below HB0.out)
  obtain ⟨a, cap, rfl, -⟩ := h
  obtain ⟨a', cap', ee, hc⟩ := HI.out
  simp only [Value.slice.injEq] at ee
  obtain ⟨rfl, -, rfl⟩ := ee
  have HC := hid hc
  have HIX : Hid (∀ z, RelIx ds s z → RelIx ds s z) := hid (fun z h => h)
  obtain ⟨n, hn⟩ : ∃ n, n = ds.length := ⟨_, rfl⟩
  have HN := hid hn
  rw [← hn] at HC HB0 HD0 hl ⊢
  clear hc hn HI HIX
  go_enter Tryz.func23, Tryz.ntmps23
  go_upto_region 1 with fail
  generalize w.alloc (.cells #[.slice a n cap] 35) = W0 at *
  have c0 := HD0.out
  go_wp2_with fail
  clear c0 HD0
  go_loopw [10] (fun t wr => ∃ j : Nat, j ≤ n ∧ t = .int .i64 j ∧ Hid (Below W0.heap.size W0 wr ∧ ∀ i, i < j → ((ds.getD i noRel).name.toList == s.toList) = false)) (fun t _ => n - (intOf t).toNat)
  case atStart => exact ⟨0, Nat.zero_le _, rfl, hid ⟨Below.refl _ _, fun i hi => by omega⟩⟩
  case round =>
    obtain ⟨j, hj, rfl, HH⟩ := hrel
    by_cases hjn : j < n
    · have i1 : (j : Int) < (n : Int) := by omega
      rcases HC.out with h0 | ⟨b, o, rfl, hcell⟩
      · omega
      · obtain ⟨vr, vw, d0, d1, d2, d3, hir⟩ := hcell j hjn
        obtain ⟨ra, rc, er, -⟩ := hir.rows
        obtain ⟨wa, wc, ew, -⟩ := hir.ws
        subst er ew
        clear hir
        have e0 := bcl' HH.out.1 d0
        have e1 := bcl' HH.out.1 d1
        have e2 := bcl' HH.out.1 d2
        have e3 := bcl' HH.out.1 d3
        have HX : Hid (((ds.getD j noRel).name.toList == s.toList) = true → RelIx ds s j) := hid (fun h => Or.inr ⟨j, rfl, by rw [← HN.out]; exact hjn, h, HH.out.2⟩)
        have HY : Hid (((ds.getD j noRel).name.toList == s.toList) = false → ∀ i, i < j + 1 → ((ds.getD i noRel).name.toList == s.toList) = false) := hid (fun h i hi => by
          by_cases e : i = j
          · rw [e]; exact h
          · exact HH.out.2 i (by omega))
        have HW := hid HH.out.1
        clear hcell HH d0 d1 d2 d3
        generalize (ds.getD j noRel).rows.length = rn at *
        generalize (ds.getD j noRel).ws.length = wn at *
        generalize (ds.getD j noRel).ar = ar at *
        generalize (ds.getD j noRel).name = x at *
        cases hb : (x.toList == s.toList)
        · have HZ := hid (HY.out hb)
          clear HX HY
          go_wp2
          go_roundw
          case rel => exact ⟨j + 1, by omega, by go_num, hid ⟨HW.out.alloc HW.out.size _, HZ.out⟩⟩
          case measure => simp [intOf]; omega
        · have HZ := hid (HX.out hb)
          clear HX HY
          go_wp2
          go_ret
          exact ⟨_, rfl, HZ.out, bt HB0.out (HW.out.alloc HW.out.size _)⟩
    · obtain rfl : j = n := by omega
      have i1 : ¬ ((j : Int) < (j : Int)) := by omega
      have HZ : Hid (RelIx ds s (-1)) := hid (Or.inl ⟨rfl, fun i hi => HH.out.2 i (by rw [HN.out]; exact hi)⟩)
      go_wp2
      go_ret
      exact ⟨_, rfl, HZ.out, bt HB0.out HH.out.1⟩

end Go.Proofs.YtegcpplkcahkhaaGreat

/-
  What CheckQuery answers, as a function of its arguments.
-/
namespace Go.Proofs.YtegcpplkcahkhaaGreat
open Go.RowKit

def atomCode (ds : List RelV) (a : AtomV) : Int :=
  match ds.find? (fun r => r.name.toList == a.1.toList) with
  | none => 4
  | some r => if r.ar = (a.2.length : Int) then 0 else 5
def headBad (q : QV) (j : Nat) : Bool := !hasT (VL q.atoms q.atoms.length) (q.head.getD j noTx) || hasT (q.head.take j) (q.head.getD j noTx)
def checkP (ds : List RelV) (q : QV) : Int × Int :=
  if dataB ds = false then (1, 0) else if shapeB q = false then (2, 0) else if 7 < q.atoms.length then (3, 0) else
  match (List.range q.atoms.length).find? (fun i => decide (atomCode ds (q.atoms.getD i noAt) ≠ 0)) with
  | some i => (atomCode ds (q.atoms.getD i noAt), (i : Int))
  | none => if 6 < (VL q.atoms q.atoms.length).length then (6, 0) else
    match (List.range q.head.length).find? (headBad q) with
    | some j => (7, (j : Int))
    | none => (0, 0)

theorem find_range_some {p : Nat → Bool} {n j : Nat} (hj : j < n) (h : p j = true) (hb : ∀ i, i < j → p i = false) : (List.range n).find? p = some j := by
  rw [List.find?_eq_some_iff_getElem]
  refine ⟨h, j, by simpa using hj, by simp, fun i hi => ?_⟩
  simp [hb i hi]
theorem find_range_none {p : Nat → Bool} {n : Nat} (hb : ∀ i, i < n → p i = false) : (List.range n).find? p = none := by
  rw [List.find?_eq_none]
  intro i hi
  rw [hb i (by simpa using hi)]; simp

theorem RelIx.code_no {ds : List RelV} {a : AtomV} (h : RelIx ds a.1 (-1)) : atomCode ds a = 4 := by
  rcases h with ⟨-, h⟩ | ⟨j, e, -⟩
  · unfold atomCode
    have : ds.find? (fun r => r.name.toList == a.1.toList) = none := by
      rw [List.find?_eq_none]
      intro x hx
      obtain ⟨i, hi, e⟩ := List.getElem_of_mem hx
      have := h i hi
      rw [List.getD_eq_getElem?_getD, List.getElem?_eq_getElem hi, Option.getD_some, e] at this
      rw [this]; simp
    rw [this]
  · omega
theorem RelIx.code_yes {ds : List RelV} {a : AtomV} {j : Nat} (h : RelIx ds a.1 (j : Int)) : j < ds.length ∧ atomCode ds a = if (ds.getD j noRel).ar = (a.2.length : Int) then 0 else 5 := by
  rcases h with ⟨e, -⟩ | ⟨k, e, hk, h1, h2⟩
  · omega
  · obtain rfl : j = k := by omega
    refine ⟨hk, ?_⟩
    unfold atomCode
    have : ds.find? (fun r => r.name.toList == a.1.toList) = some (ds.getD j noRel) := by
      rw [List.find?_eq_some_iff_getElem]
      refine ⟨h1, j, hk, ?_, fun i hi => ?_⟩
      · rw [List.getD_eq_getElem?_getD, List.getElem?_eq_getElem hk, Option.getD_some]
      · have := h2 i hi
        rw [List.getD_eq_getElem?_getD, List.getElem?_eq_getElem (by omega), Option.getD_some] at this
        simp [this]
    rw [this]

section
variable {ds : List RelV} {q : QV}
theorem checkP_data (h : dataB ds = false) : checkP ds q = (1, 0) := by unfold checkP; rw [if_pos h]
theorem checkP_shape (h : dataB ds = true) (h2 : shapeB q = false) : checkP ds q = (2, 0) := by unfold checkP; rw [if_neg (by simp [h]), if_pos h2]
theorem checkP_atoms (h : dataB ds = true) (h2 : shapeB q = true) (h3 : 7 < q.atoms.length) : checkP ds q = (3, 0) := by unfold checkP; rw [if_neg (by simp [h]), if_neg (by simp [h2]), if_pos h3]
theorem checkP_atom (h : dataB ds = true) (h2 : shapeB q = true) (h3 : q.atoms.length ≤ 7) {i : Nat} (hi : i < q.atoms.length) (hb : ∀ j, j < i → atomCode ds (q.atoms.getD j noAt) = 0) (hc : atomCode ds (q.atoms.getD i noAt) ≠ 0) :
    checkP ds q = (atomCode ds (q.atoms.getD i noAt), (i : Int)) := by
  unfold checkP
  rw [if_neg (by simp [h]), if_neg (by simp [h2]), if_neg (by omega), find_range_some hi (by simpa using hc) (fun j hj => by simpa using hb j hj)]
theorem checkP_vars (h : dataB ds = true) (h2 : shapeB q = true) (h3 : q.atoms.length ≤ 7) (hb : ∀ j, j < q.atoms.length → atomCode ds (q.atoms.getD j noAt) = 0) (h4 : 6 < (VL q.atoms q.atoms.length).length) : checkP ds q = (6, 0) := by
  unfold checkP
  rw [if_neg (by simp [h]), if_neg (by simp [h2]), if_neg (by omega), find_range_none (fun j hj => by simpa using hb j hj)]
  simp [h4]
theorem checkP_head (h : dataB ds = true) (h2 : shapeB q = true) (h3 : q.atoms.length ≤ 7) (hb : ∀ j, j < q.atoms.length → atomCode ds (q.atoms.getD j noAt) = 0) (h4 : (VL q.atoms q.atoms.length).length ≤ 6) {j : Nat} (hj : j < q.head.length)
    (hh : ∀ i, i < j → headBad q i = false) (hc : headBad q j = true) : checkP ds q = (7, (j : Int)) := by
  unfold checkP
  rw [if_neg (by simp [h]), if_neg (by simp [h2]), if_neg (by omega), find_range_none (fun j hj => by simpa using hb j hj)]
  simp only
  rw [if_neg (by omega), find_range_some hj hc hh]
theorem checkP_ok (h : dataB ds = true) (h2 : shapeB q = true) (h3 : q.atoms.length ≤ 7) (hb : ∀ j, j < q.atoms.length → atomCode ds (q.atoms.getD j noAt) = 0) (h4 : (VL q.atoms q.atoms.length).length ≤ 6)
    (hh : ∀ i, i < q.head.length → headBad q i = false) : checkP ds q = (0, 0) := by
  unfold checkP
  rw [if_neg (by simp [h]), if_neg (by simp [h2]), if_neg (by omega), find_range_none (fun j hj => by simpa using hb j hj)]
  simp only
  rw [if_neg (by omega), find_range_none hh]
end

end Go.Proofs.YtegcpplkcahkhaaGreat

/-
  The place of a relation of a name: impl.relationPlace, by slices.IndexFunc.
-/
namespace Go.Proofs.YtegcpplkcahkhaaGreat
open Go.RowKit

set_option maxHeartbeats 2000000 in
set_option maxRecDepth 1000000 in
theorem relationPlace1_calls (w : World) (n s : ByteArray) (ar : Int) (ra wa : Option Addr) (rn rc wn wc B : Nat) (hB : w.cell? ⟨B, 0, none⟩ = some (.string s)) :
    Calls Tryz.prog 57 #[.agg #[.string n, .int .i64 ar, .slice ra rn rc, .slice wa wn wc], .pointer (some ⟨B, 0, none⟩)] w fun e w' => e = .returned (.bool (n.toList == s.toList)) ∧ Below w.heap.size w w' := by
  have HB := hid ((Below.refl w.heap.size w).alloc (Nat.le_refl _) (.cells #[.string n, .int .i64 ar, .slice ra rn rc, .slice wa wn wc] 65))
  have c1 := bcl' HB.out hB
  have c2 : (w.alloc (.cells #[.string n, .int .i64 ar, .slice ra rn rc, .slice wa wn wc] 65)).cell? ⟨w.heap.size, 0, none⟩ = some (.string n) := by rw [World.cell?_alloc_at _ _ _ _ rfl]; rfl
  go_enter Tryz.func57, Tryz.ntmps57
  go_upto_region 1 with fail
  generalize w.alloc (.cells #[.string n, .int .i64 ar, .slice ra rn rc, .slice wa wn wc] 65) = W1 at *
  cases hb : (n.toList == s.toList)
  · go_wp2_with fail
    go_ret
    exact ⟨ret_bool (by first | exact hb | rfl | simp [hb]), HB.out⟩
  · go_wp2_with fail
    go_ret
    exact ⟨ret_bool (by first | exact hb | rfl | simp [hb]), HB.out⟩

set_option maxHeartbeats 8000000 in
set_option maxRecDepth 1000000 in
theorem indexFunc_calls (w : World) (v : Value) (ds : List RelV) (s : ByteArray) (B : Nat) (hB : w.cell? ⟨B, 0, none⟩ = some (.string s)) (h : IRelS w v ds) (hl : ds.length ≤ 1099511627776) :
    Calls Tryz.prog 56 #[v, .func (.func 57) #[] #[.pointer (some ⟨B, 0, none⟩)]] w fun e w' => ∃ z : Int, e = .returned (.int .i64 z) ∧ RelIx ds s z ∧ Below w.heap.size w w' := by
  obtain ⟨a, cap, rfl, hc⟩ := h
  have HC := hid hc
  obtain ⟨n, hn⟩ : ∃ n, n = ds.length := ⟨_, rfl⟩
  have HN := hid hn
  rw [← hn] at HC hl ⊢
  clear hc hn
  have HS := hid hB
  clear hB
  go_enter Tryz.func56, Tryz.ntmps56
  go_wp2
  go_loopw [8] (fun t wr => ∃ j : Nat, j ≤ n ∧ t = .int .i64 j ∧ Hid (Below w.heap.size w wr ∧ ∀ i, i < j → ((ds.getD i noRel).name.toList == s.toList) = false)) (fun t _ => n - (intOf t).toNat)
  case atStart => exact ⟨0, Nat.zero_le _, rfl, hid ⟨Below.refl _ _, fun i hi => by omega⟩⟩
  case round =>
    obtain ⟨j, hj, rfl, HH⟩ := hrel
    by_cases hjn : j < n
    · have i1 : (j : Int) < (n : Int) := by omega
      rcases HC.out with h0 | ⟨b, o, rfl, hcell⟩
      · omega
      · obtain ⟨vr, vw, d0, d1, d2, d3, hir⟩ := hcell j hjn
        obtain ⟨ra, rc, er, -⟩ := hir.rows
        obtain ⟨wa, wc, ew, -⟩ := hir.ws
        subst er ew
        clear hir
        have e0 := bcl' HH.out.1 d0
        have e1 := bcl' HH.out.1 d1
        have e2 := bcl' HH.out.1 d2
        have e3 := bcl' HH.out.1 d3
        have HX : Hid (((ds.getD j noRel).name.toList == s.toList) = true → RelIx ds s j) := hid (fun h => Or.inr ⟨j, rfl, by rw [← HN.out]; exact hjn, h, HH.out.2⟩)
        have HY : Hid (((ds.getD j noRel).name.toList == s.toList) = false → ∀ i, i < j + 1 → ((ds.getD i noRel).name.toList == s.toList) = false) := hid (fun h i hi => by
          by_cases e : i = j
          · rw [e]; exact h
          · exact HH.out.2 i (by omega))
        have HW := hid HH.out.1
        have hcb := bcl' HH.out.1 HS.out
        clear hcell HH d0 d1 d2 d3
        generalize (ds.getD j noRel).rows.length = rn at *
        generalize (ds.getD j noRel).ws.length = wn at *
        generalize (ds.getD j noRel).ar = ar at *
        generalize (ds.getD j noRel).name = x at *
        have K := hid (relationPlace1_calls wr x s ar ra wa rn rc wn wc B hcb)
        clear hcb
        cases hb : (x.toList == s.toList)
        · have HZ := hid (HY.out hb)
          rw [hb] at K
          clear HX HY
          go_wp2_with fail
          refine K.out.mono ?_
          rintro e w' ⟨rfl, hb'⟩
          have HW' := hid (bt HW.out hb')
          clear e0 e1 e2 e3 hb' HW K
          go_wp2_with fail
          go_roundw
          case rel => exact ⟨j + 1, by omega, by go_num, hid ⟨HW'.out, HZ.out⟩⟩
          case measure => simp [intOf]; omega
        · have HZ := hid (HX.out hb)
          rw [hb] at K
          clear HX HY
          go_wp2_with fail
          refine K.out.mono ?_
          rintro e w' ⟨rfl, hb'⟩
          have HW' := hid (bt HW.out hb')
          clear e0 e1 e2 e3 hb' HW K
          go_wp2_with fail
          go_ret
          exact ⟨_, rfl, HZ.out, HW'.out⟩
    · obtain rfl : j = n := by omega
      have i1 : ¬ ((j : Int) < (j : Int)) := by omega
      have HZ : Hid (RelIx ds s (-1)) := hid (Or.inl ⟨rfl, fun i hi => HH.out.2 i (by rw [HN.out]; exact hi)⟩)
      go_wp2
      go_ret
      exact ⟨_, rfl, HZ.out, HH.out.1⟩

set_option maxHeartbeats 8000000 in
set_option maxRecDepth 1000000 in
theorem relationPlace_calls (w : World) (v : Value) (ds : List RelV) (s : ByteArray) (h : IRelS w v ds) (hl : ds.length ≤ 1099511627776) :
    Calls Tryz.prog 31 #[.agg #[v], .string s] w fun e w' => ∃ z : Int, e = .returned (.int .i64 z) ∧ RelIx ds s z ∧ Below w.heap.size w w' := by
  have h' := h
  obtain ⟨a, cap, rfl, -⟩ := h'
  have hb1 : Below w.heap.size w (w.alloc (.cells #[.slice a ds.length cap] 35)) := (Below.refl _ _).alloc (Nat.le_refl _) _
  have c0 : (w.alloc (.cells #[.slice a ds.length cap] 35)).cell? ⟨w.heap.size, 0, none⟩ = some (.slice a ds.length cap) := by rw [World.cell?_alloc_at _ _ _ _ rfl]; rfl
  obtain ⟨W1, hW1⟩ : ∃ W, W = w.alloc (.cells #[.slice a ds.length cap] 35) := ⟨_, rfl⟩
  have hs1 : W1.heap.size = w.heap.size + 1 := by rw [hW1]; simp
  rw [← hW1] at hb1 c0
  have hb2 : Below W1.heap.size W1 (W1.alloc (.cells #[.string s] 9)) := (Below.refl _ _).alloc (Nat.le_refl _) _
  have c2 : (W1.alloc (.cells #[.string s] 9)).cell? ⟨W1.heap.size, 0, none⟩ = some (.string s) := by rw [World.cell?_alloc_at _ _ _ _ rfl]; rfl
  have c1 := bcl' hb2 c0
  rw [hs1] at c2
  have HB := hid (bt hb1 hb2)
  have K := hid (indexFunc_calls _ _ ds s _ c2 (h.below HB.out) hl)
  go_enter Tryz.func31, Tryz.ntmps31
  go_upto_region 1 with fail
  rw [← hW1]
  clear hW1 hb1 hb2 c0 c2
  generalize W1.alloc (.cells #[.string s] 9) = W2 at *
  go_wp2_with fail
  refine K.out.mono ?_
  rintro e w' ⟨z, rfl, hz, hb⟩
  have HZ := hid (And.intro hz (bt HB.out hb))
  clear hz hb K HB c1
  go_wp2_with fail
  go_ret
  exact ⟨_, rfl, HZ.out.1, HZ.out.2⟩

end Go.Proofs.YtegcpplkcahkhaaGreat
