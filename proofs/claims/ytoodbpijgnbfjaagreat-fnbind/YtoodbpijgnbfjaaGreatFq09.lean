import Derived.Deep.Cut
import Derived.Deep.RegionHeld3
import Derived.Test.YtoodbpijgnbfjaaGreatFq02
import Derived.Test.YtoodbpijgnbfjaaGreatFq03
import Derived.Test.YtoodbpijgnbfjaaGreatFq04
import Derived.Test.YtoodbpijgnbfjaaGreatFq08
namespace Go.Proofs.YtoodbpijgnbfjaaGreat
open Go.RowKit

def RelIx (ds : List RelV) (s : ByteArray) (z : Int) : Prop :=
  (z = -1 ∧ ∀ i, i < ds.length → ((ds.getD i noRel).name.toList == s.toList) = false) ∨
  ∃ j : Nat, z = j ∧ j < ds.length ∧ ((ds.getD j noRel).name.toList == s.toList) = true ∧ ∀ i, i < j → ((ds.getD i noRel).name.toList == s.toList) = false

set_option maxHeartbeats 4000000 in
set_option maxRecDepth 1000000 in
theorem l2Rel_calls (w : World) (v : Value) (ds : List RelV) (s : ByteArray) (h : IRelS w v ds) (hl : ds.length ≤ 1099511627776) :
    Calls Tryz.prog 13 #[.agg #[v], .string s] w fun e w' => ∃ z : Int, e = .returned (.int .i64 z) ∧ RelIx ds s z ∧ Below w.heap.size w w' := by
  have HB0 : Hid (Below w.heap.size w (w.alloc (.cells #[v] 25))) := hid ((Below.refl _ _).alloc (Nat.le_refl _) _)
  have HD0 : Hid ((w.alloc (.cells #[v] 25)).cell? ⟨w.heap.size, 0, none⟩ = some v) := hid (by simp [go_sem])
  have HI := hid (h.below HB0.out)
  obtain ⟨a, cap, rfl, -⟩ := h
  obtain ⟨a', cap', ee, hc⟩ := HI.out
  simp only [Value.slice.injEq] at ee
  obtain ⟨rfl, -, rfl⟩ := ee
  have HC := hid hc
  have HIX : Hid (∀ z, RelIx ds s z → RelIx ds s z) := hid (fun z h => h)
  obtain ⟨n, hn⟩ : ∃ n, n = ds.length := ⟨_, rfl⟩
  have HN := hid hn
  rw [← hn] at HC HB0 HD0 hl ⊢
  clear hc hn HI HIX
  go_enter Tryz.func13, Tryz.ntmps13
  go_upto_region 1 with fail
  generalize w.alloc (.cells #[.slice a n cap] 25) = W0 at *
  have c0 := HD0.out
  go_wp2_with fail
  clear c0 HD0
  go_loopw [10] (fun t wr => ∃ j : Nat, j ≤ n ∧ t = .int .i64 j ∧ Hid (Below W0.heap.size W0 wr ∧ ∀ i, i < j → ((ds.getD i noRel).name.toList == s.toList) = false)) (fun t _ => n - (intOf t).toNat)
  case atStart => exact ⟨0, Nat.zero_le _, rfl, hid ⟨Below.refl _ _, fun i hi => by omega⟩⟩
  case round =>
    obtain ⟨j, hj, rfl, HH⟩ := hrel
    by_cases hjn : j < n
    · have i1 : (j : Int) < (n : Int) := by omega
      rcases HC.out with h0 | ⟨b, o, rfl, hcell⟩
      · omega
      · obtain ⟨vr, vw, d0, d1, d2, d3, hir⟩ := hcell j hjn
        obtain ⟨ra, rc, er, -⟩ := hir.rows
        obtain ⟨wa, wc, ew, -⟩ := hir.ws
        subst er ew
        clear hir
        have e0 := bcl' HH.out.1 d0
        have e1 := bcl' HH.out.1 d1
        have e2 := bcl' HH.out.1 d2
        have e3 := bcl' HH.out.1 d3
        have HX : Hid (((ds.getD j noRel).name.toList == s.toList) = true → RelIx ds s j) := hid (fun h => Or.inr ⟨j, rfl, by rw [← HN.out]; exact hjn, h, HH.out.2⟩)
        have HY : Hid (((ds.getD j noRel).name.toList == s.toList) = false → ∀ i, i < j + 1 → ((ds.getD i noRel).name.toList == s.toList) = false) := hid (fun h i hi => by
          by_cases e : i = j
          · rw [e]; exact h
          · exact HH.out.2 i (by omega))
        have HW := hid HH.out.1
        clear hcell HH d0 d1 d2 d3
        generalize (ds.getD j noRel).rows.length = rn at *
        generalize (ds.getD j noRel).ws.length = wn at *
        generalize (ds.getD j noRel).ar = ar at *
        generalize (ds.getD j noRel).name = x at *
        cases hb : (x.toList == s.toList)
        · have HZ := hid (HY.out hb)
          clear HX HY
          go_wp2
          go_roundw
          case rel => exact ⟨j + 1, by omega, by go_num, hid ⟨HW.out.alloc HW.out.size _, HZ.out⟩⟩
          case measure => simp [intOf]; omega
        · have HZ := hid (HX.out hb)
          clear HX HY
          go_wp2
          go_ret
          exact ⟨_, rfl, HZ.out, bt HB0.out (HW.out.alloc HW.out.size _)⟩
    · obtain rfl : j = n := by omega
      have i1 : ¬ ((j : Int) < (j : Int)) := by omega
      have HZ : Hid (RelIx ds s (-1)) := hid (Or.inl ⟨rfl, fun i hi => HH.out.2 i (by rw [HN.out]; exact hi)⟩)
      go_wp2
      go_ret
      exact ⟨_, rfl, HZ.out, bt HB0.out HH.out.1⟩

end Go.Proofs.YtoodbpijgnbfjaaGreat

namespace Go.Proofs.YtoodbpijgnbfjaaGreat
open Go.RowKit

def valN (V : List ByteArray) (vals : List Int) (t : TermV) : Nat → Int
  | 0 => t.2
  | q + 1 => if t.1.toList == (V.getD q noTx).toList then vals.getD q 0 else valN V vals t q
def valT (V : List ByteArray) (vals : List Int) (t : TermV) : Int := valN V vals t V.length
def trmB (V : List ByteArray) (vals : List Int) (ts : List TermV) (row : List Int) (p : Nat) : Bool := (List.range p).all fun j => decide (row.getD j 0 = valT V vals (ts.getD j noTm))
theorem trmB_succ (V : List ByteArray) (vals : List Int) (ts : List TermV) (row : List Int) (p : Nat) : trmB V vals ts row (p + 1) = (trmB V vals ts row p && decide (row.getD p 0 = valT V vals (ts.getD p noTm))) := by
  unfold trmB
  rw [List.range_succ, List.all_append]
  simp
def relR (V : List ByteArray) (vals : List Int) (ts : List TermV) (rows : List (List Int)) (i : Nat) : Bool := trmB V vals ts (rows.getD i []) ts.length
def relD (ds : List RelV) (V : List ByteArray) (vals : List Int) (a : AtomV) (k : Nat) : Bool := ((ds.getD k noRel).name.toList == a.1.toList) && (List.range (ds.getD k noRel).rows.length).any (relR V vals a.2 (ds.getD k noRel).rows)
def atB (ds : List RelV) (V : List ByteArray) (vals : List Int) (a : AtomV) : Bool := (List.range ds.length).any (relD ds V vals a)
theorem atB_no {ds : List RelV} {V : List ByteArray} {vals : List Int} {a : AtomV} (h : ∀ k, k < ds.length → relD ds V vals a k = false) : atB ds V vals a = false := by
  unfold atB
  rw [List.any_eq_false]
  intro k hk
  rw [h k (List.mem_range.1 hk)]
  decide
theorem atB_yes {ds : List RelV} {V : List ByteArray} {vals : List Int} {a : AtomV} {k i : Nat} (hk : k < ds.length) (hn : ((ds.getD k noRel).name.toList == a.1.toList) = true) (hi : i < (ds.getD k noRel).rows.length) (h : relR V vals a.2 (ds.getD k noRel).rows i = true) : atB ds V vals a = true := by
  unfold atB
  rw [List.any_eq_true]
  refine ⟨k, List.mem_range.2 hk, ?_⟩
  unfold relD
  rw [hn, Bool.true_and, List.any_eq_true]
  exact ⟨i, List.mem_range.2 hi, h⟩
theorem relD_no {ds : List RelV} {V : List ByteArray} {vals : List Int} {a : AtomV} {k : Nat} (h : ∀ i, i < (ds.getD k noRel).rows.length → relR V vals a.2 (ds.getD k noRel).rows i = false) : relD ds V vals a k = false := by
  unfold relD
  have : ((List.range (ds.getD k noRel).rows.length).any (relR V vals a.2 (ds.getD k noRel).rows)) = false := by
    rw [List.any_eq_false]
    intro i hi
    rw [h i (List.mem_range.1 hi)]
    decide
  rw [this, Bool.and_false]

end Go.Proofs.YtoodbpijgnbfjaaGreat

namespace Go.Proofs.YtoodbpijgnbfjaaGreat
open Go.RowKit

def atomCode (ds : List RelV) (a : AtomV) : Int :=
  match ds.find? (fun r => r.name.toList == a.1.toList) with
  | none => 4
  | some r => if r.ar = (a.2.length : Int) then 0 else 5
def headBad (q : QV) (j : Nat) : Bool := !hasT (VL q.atoms q.atoms.length) (q.head.getD j noTx) || hasT (q.head.take j) (q.head.getD j noTx)
def checkP (ds : List RelV) (q : QV) : Int × Int :=
  if dataB ds = false then (1, 0) else if shapeB q = false then (2, 0) else if 7 < q.atoms.length then (3, 0) else
  match (List.range q.atoms.length).find? (fun i => decide (atomCode ds (q.atoms.getD i noAt) ≠ 0)) with
  | some i => (atomCode ds (q.atoms.getD i noAt), (i : Int))
  | none => if 6 < (VL q.atoms q.atoms.length).length then (6, 0) else
    match (List.range q.head.length).find? (headBad q) with
    | some j => (7, (j : Int))
    | none => (0, 0)

theorem find_range_some {p : Nat → Bool} {n j : Nat} (hj : j < n) (h : p j = true) (hb : ∀ i, i < j → p i = false) : (List.range n).find? p = some j := by
  rw [List.find?_eq_some_iff_getElem]
  refine ⟨h, j, by simpa using hj, by simp, fun i hi => ?_⟩
  simp [hb i hi]
theorem find_range_none {p : Nat → Bool} {n : Nat} (hb : ∀ i, i < n → p i = false) : (List.range n).find? p = none := by
  rw [List.find?_eq_none]
  intro i hi
  rw [hb i (by simpa using hi)]; simp

theorem RelIx.code_no {ds : List RelV} {a : AtomV} (h : RelIx ds a.1 (-1)) : atomCode ds a = 4 := by
  rcases h with ⟨-, h⟩ | ⟨j, e, -⟩
  · unfold atomCode
    have : ds.find? (fun r => r.name.toList == a.1.toList) = none := by
      rw [List.find?_eq_none]
      intro x hx
      obtain ⟨i, hi, e⟩ := List.getElem_of_mem hx
      have := h i hi
      rw [List.getD_eq_getElem?_getD, List.getElem?_eq_getElem hi, Option.getD_some, e] at this
      rw [this]; simp
    rw [this]
  · omega
theorem RelIx.code_yes {ds : List RelV} {a : AtomV} {j : Nat} (h : RelIx ds a.1 (j : Int)) : j < ds.length ∧ atomCode ds a = if (ds.getD j noRel).ar = (a.2.length : Int) then 0 else 5 := by
  rcases h with ⟨e, -⟩ | ⟨k, e, hk, h1, h2⟩
  · omega
  · obtain rfl : j = k := by omega
    refine ⟨hk, ?_⟩
    unfold atomCode
    have : ds.find? (fun r => r.name.toList == a.1.toList) = some (ds.getD j noRel) := by
      rw [List.find?_eq_some_iff_getElem]
      refine ⟨h1, j, hk, ?_, fun i hi => ?_⟩
      · rw [List.getD_eq_getElem?_getD, List.getElem?_eq_getElem hk, Option.getD_some]
      · have := h2 i hi
        rw [List.getD_eq_getElem?_getD, List.getElem?_eq_getElem (by omega), Option.getD_some] at this
        simp [this]
    rw [this]

section
variable {ds : List RelV} {q : QV}
theorem checkP_data (h : dataB ds = false) : checkP ds q = (1, 0) := by unfold checkP; rw [if_pos h]
theorem checkP_shape (h : dataB ds = true) (h2 : shapeB q = false) : checkP ds q = (2, 0) := by unfold checkP; rw [if_neg (by simp [h]), if_pos h2]
theorem checkP_atoms (h : dataB ds = true) (h2 : shapeB q = true) (h3 : 7 < q.atoms.length) : checkP ds q = (3, 0) := by unfold checkP; rw [if_neg (by simp [h]), if_neg (by simp [h2]), if_pos h3]
theorem checkP_atom (h : dataB ds = true) (h2 : shapeB q = true) (h3 : q.atoms.length ≤ 7) {i : Nat} (hi : i < q.atoms.length) (hb : ∀ j, j < i → atomCode ds (q.atoms.getD j noAt) = 0) (hc : atomCode ds (q.atoms.getD i noAt) ≠ 0) :
    checkP ds q = (atomCode ds (q.atoms.getD i noAt), (i : Int)) := by
  unfold checkP
  rw [if_neg (by simp [h]), if_neg (by simp [h2]), if_neg (by omega), find_range_some hi (by simpa using hc) (fun j hj => by simpa using hb j hj)]
theorem checkP_vars (h : dataB ds = true) (h2 : shapeB q = true) (h3 : q.atoms.length ≤ 7) (hb : ∀ j, j < q.atoms.length → atomCode ds (q.atoms.getD j noAt) = 0) (h4 : 6 < (VL q.atoms q.atoms.length).length) : checkP ds q = (6, 0) := by
  unfold checkP
  rw [if_neg (by simp [h]), if_neg (by simp [h2]), if_neg (by omega), find_range_none (fun j hj => by simpa using hb j hj)]
  simp [h4]
theorem checkP_head (h : dataB ds = true) (h2 : shapeB q = true) (h3 : q.atoms.length ≤ 7) (hb : ∀ j, j < q.atoms.length → atomCode ds (q.atoms.getD j noAt) = 0) (h4 : (VL q.atoms q.atoms.length).length ≤ 6) {j : Nat} (hj : j < q.head.length)
    (hh : ∀ i, i < j → headBad q i = false) (hc : headBad q j = true) : checkP ds q = (7, (j : Int)) := by
  unfold checkP
  rw [if_neg (by simp [h]), if_neg (by simp [h2]), if_neg (by omega), find_range_none (fun j hj => by simpa using hb j hj)]
  simp only
  rw [if_neg (by omega), find_range_some hj hc hh]
theorem checkP_ok (h : dataB ds = true) (h2 : shapeB q = true) (h3 : q.atoms.length ≤ 7) (hb : ∀ j, j < q.atoms.length → atomCode ds (q.atoms.getD j noAt) = 0) (h4 : (VL q.atoms q.atoms.length).length ≤ 6)
    (hh : ∀ i, i < q.head.length → headBad q i = false) : checkP ds q = (0, 0) := by
  unfold checkP
  rw [if_neg (by simp [h]), if_neg (by simp [h2]), if_neg (by omega), find_range_none (fun j hj => by simpa using hb j hj)]
  simp only
  rw [if_neg (by omega), find_range_none hh]
end

end Go.Proofs.YtoodbpijgnbfjaaGreat

namespace Go.Proofs.YtoodbpijgnbfjaaGreat
open Go.RowKit

set_option maxHeartbeats 2000000 in
set_option maxRecDepth 1000000 in
theorem relationPlace1_calls (w : World) (n s : ByteArray) (ar : Int) (ra wa : Option Addr) (rn rc wn wc B : Nat) (hB : w.cell? ⟨B, 0, none⟩ = some (.string s)) :
    Calls Tryz.prog 46 #[.agg #[.string n, .int .i64 ar, .slice ra rn rc, .slice wa wn wc], .pointer (some ⟨B, 0, none⟩)] w fun e w' => e = .returned (.bool (n.toList == s.toList)) ∧ Below w.heap.size w w' := by
  have HB := hid ((Below.refl w.heap.size w).alloc (Nat.le_refl _) (.cells #[.string n, .int .i64 ar, .slice ra rn rc, .slice wa wn wc] 53))
  have c1 := bcl' HB.out hB
  have c2 : (w.alloc (.cells #[.string n, .int .i64 ar, .slice ra rn rc, .slice wa wn wc] 53)).cell? ⟨w.heap.size, 0, none⟩ = some (.string n) := by rw [World.cell?_alloc_at _ _ _ _ rfl]; rfl
  go_enter Tryz.func46, Tryz.ntmps46
  go_upto_region 1 with fail
  generalize w.alloc (.cells #[.string n, .int .i64 ar, .slice ra rn rc, .slice wa wn wc] 53) = W1 at *
  cases hb : (n.toList == s.toList)
  · go_wp2_with fail
    go_ret
    exact ⟨ret_bool (by first | exact hb | rfl | simp [hb]), HB.out⟩
  · go_wp2_with fail
    go_ret
    exact ⟨ret_bool (by first | exact hb | rfl | simp [hb]), HB.out⟩

set_option maxHeartbeats 8000000 in
set_option maxRecDepth 1000000 in
theorem indexFunc_calls (w : World) (v : Value) (ds : List RelV) (s : ByteArray) (B : Nat) (hB : w.cell? ⟨B, 0, none⟩ = some (.string s)) (h : IRelS w v ds) (hl : ds.length ≤ 1099511627776) :
    Calls Tryz.prog 45 #[v, .func (.func 46) #[] #[.pointer (some ⟨B, 0, none⟩)]] w fun e w' => ∃ z : Int, e = .returned (.int .i64 z) ∧ RelIx ds s z ∧ Below w.heap.size w w' := by
  obtain ⟨a, cap, rfl, hc⟩ := h
  have HC := hid hc
  obtain ⟨n, hn⟩ : ∃ n, n = ds.length := ⟨_, rfl⟩
  have HN := hid hn
  rw [← hn] at HC hl ⊢
  clear hc hn
  have HS := hid hB
  clear hB
  go_enter Tryz.func45, Tryz.ntmps45
  go_wp2
  go_loopw [8] (fun t wr => ∃ j : Nat, j ≤ n ∧ t = .int .i64 j ∧ Hid (Below w.heap.size w wr ∧ ∀ i, i < j → ((ds.getD i noRel).name.toList == s.toList) = false)) (fun t _ => n - (intOf t).toNat)
  case atStart => exact ⟨0, Nat.zero_le _, rfl, hid ⟨Below.refl _ _, fun i hi => by omega⟩⟩
  case round =>
    obtain ⟨j, hj, rfl, HH⟩ := hrel
    by_cases hjn : j < n
    · have i1 : (j : Int) < (n : Int) := by omega
      rcases HC.out with h0 | ⟨b, o, rfl, hcell⟩
      · omega
      · obtain ⟨vr, vw, d0, d1, d2, d3, hir⟩ := hcell j hjn
        obtain ⟨ra, rc, er, -⟩ := hir.rows
        obtain ⟨wa, wc, ew, -⟩ := hir.ws
        subst er ew
        clear hir
        have e0 := bcl' HH.out.1 d0
        have e1 := bcl' HH.out.1 d1
        have e2 := bcl' HH.out.1 d2
        have e3 := bcl' HH.out.1 d3
        have HX : Hid (((ds.getD j noRel).name.toList == s.toList) = true → RelIx ds s j) := hid (fun h => Or.inr ⟨j, rfl, by rw [← HN.out]; exact hjn, h, HH.out.2⟩)
        have HY : Hid (((ds.getD j noRel).name.toList == s.toList) = false → ∀ i, i < j + 1 → ((ds.getD i noRel).name.toList == s.toList) = false) := hid (fun h i hi => by
          by_cases e : i = j
          · rw [e]; exact h
          · exact HH.out.2 i (by omega))
        have HW := hid HH.out.1
        have hcb := bcl' HH.out.1 HS.out
        clear hcell HH d0 d1 d2 d3
        generalize (ds.getD j noRel).rows.length = rn at *
        generalize (ds.getD j noRel).ws.length = wn at *
        generalize (ds.getD j noRel).ar = ar at *
        generalize (ds.getD j noRel).name = x at *
        have K := hid (relationPlace1_calls wr x s ar ra wa rn rc wn wc B hcb)
        clear hcb
        cases hb : (x.toList == s.toList)
        · have HZ := hid (HY.out hb)
          rw [hb] at K
          clear HX HY
          go_wp2_with fail
          refine K.out.mono ?_
          rintro e w' ⟨rfl, hb'⟩
          have HW' := hid (bt HW.out hb')
          clear e0 e1 e2 e3 hb' HW K
          go_wp2_with fail
          go_roundw
          case rel => exact ⟨j + 1, by omega, by go_num, hid ⟨HW'.out, HZ.out⟩⟩
          case measure => simp [intOf]; omega
        · have HZ := hid (HX.out hb)
          rw [hb] at K
          clear HX HY
          go_wp2_with fail
          refine K.out.mono ?_
          rintro e w' ⟨rfl, hb'⟩
          have HW' := hid (bt HW.out hb')
          clear e0 e1 e2 e3 hb' HW K
          go_wp2_with fail
          go_ret
          exact ⟨_, rfl, HZ.out, HW'.out⟩
    · obtain rfl : j = n := by omega
      have i1 : ¬ ((j : Int) < (j : Int)) := by omega
      have HZ : Hid (RelIx ds s (-1)) := hid (Or.inl ⟨rfl, fun i hi => HH.out.2 i (by rw [HN.out]; exact hi)⟩)
      go_wp2
      go_ret
      exact ⟨_, rfl, HZ.out, HH.out.1⟩

set_option maxHeartbeats 8000000 in
set_option maxRecDepth 1000000 in
theorem relationPlace_calls (w : World) (v : Value) (ds : List RelV) (s : ByteArray) (h : IRelS w v ds) (hl : ds.length ≤ 1099511627776) :
    Calls Tryz.prog 23 #[.agg #[v], .string s] w fun e w' => ∃ z : Int, e = .returned (.int .i64 z) ∧ RelIx ds s z ∧ Below w.heap.size w w' := by
  have h' := h
  obtain ⟨a, cap, rfl, -⟩ := h'
  have hb1 : Below w.heap.size w (w.alloc (.cells #[.slice a ds.length cap] 25)) := (Below.refl _ _).alloc (Nat.le_refl _) _
  have c0 : (w.alloc (.cells #[.slice a ds.length cap] 25)).cell? ⟨w.heap.size, 0, none⟩ = some (.slice a ds.length cap) := by rw [World.cell?_alloc_at _ _ _ _ rfl]; rfl
  obtain ⟨W1, hW1⟩ : ∃ W, W = w.alloc (.cells #[.slice a ds.length cap] 25) := ⟨_, rfl⟩
  have hs1 : W1.heap.size = w.heap.size + 1 := by rw [hW1]; simp
  rw [← hW1] at hb1 c0
  have hb2 : Below W1.heap.size W1 (W1.alloc (.cells #[.string s] 9)) := (Below.refl _ _).alloc (Nat.le_refl _) _
  have c2 : (W1.alloc (.cells #[.string s] 9)).cell? ⟨W1.heap.size, 0, none⟩ = some (.string s) := by rw [World.cell?_alloc_at _ _ _ _ rfl]; rfl
  have c1 := bcl' hb2 c0
  rw [hs1] at c2
  have HB := hid (bt hb1 hb2)
  have K := hid (indexFunc_calls _ _ ds s _ c2 (h.below HB.out) hl)
  go_enter Tryz.func23, Tryz.ntmps23
  go_upto_region 1 with fail
  rw [← hW1]
  clear hW1 hb1 hb2 c0 c2
  generalize W1.alloc (.cells #[.string s] 9) = W2 at *
  go_wp2_with fail
  refine K.out.mono ?_
  rintro e w' ⟨z, rfl, hz, hb⟩
  have HZ := hid (And.intro hz (bt HB.out hb))
  clear hz hb K HB c1
  go_wp2_with fail
  go_ret
  exact ⟨_, rfl, HZ.out.1, HZ.out.2⟩

end Go.Proofs.YtoodbpijgnbfjaaGreat

namespace Go.Proofs.YtoodbpijgnbfjaaGreat
open Go.RowKit

def faultV (c p : Int) : Value := .iface 101 (.agg #[.int .i64 c, .int .i64 p])
def atomsV (ds : List RelV) (ats : List AtomV) : Value :=
  match (List.range ats.length).find? (fun i => decide (atomCode ds (ats.getD i noAt) ≠ 0)) with
  | some i => faultV (atomCode ds (ats.getD i noAt)) i
  | none => .nilIface
theorem atomsV_bad {ds : List RelV} {ats : List AtomV} {i : Nat} (hi : i < ats.length) (hb : ∀ j, j < i → atomCode ds (ats.getD j noAt) = 0) (hc : atomCode ds (ats.getD i noAt) ≠ 0) : atomsV ds ats = faultV (atomCode ds (ats.getD i noAt)) i := by
  unfold atomsV
  rw [find_range_some hi (by simpa using hc) (fun j hj => by simpa using hb j hj)]
theorem atomsV_ok {ds : List RelV} {ats : List AtomV} (hb : ∀ j, j < ats.length → atomCode ds (ats.getD j noAt) = 0) : atomsV ds ats = .nilIface := by
  unfold atomsV
  rw [find_range_none (fun j hj => by simpa using hb j hj)]

set_option maxHeartbeats 20000000 in
set_option maxRecDepth 1000000 in
theorem checkAtoms_calls (w : World) (v va : Value) (ds : List RelV) (ats : List AtomV) (h : IRelS w v ds) (hdl : ds.length ≤ 1099511627776) (hi : IAt w va ats) (hal : ats.length ≤ 1048576) :
    Calls Tryz.prog 43 #[.agg #[v], va] w fun e w' => e = .returned (atomsV ds ats) ∧ Below w.heap.size w w' := by
  have h' := h
  obtain ⟨a3, k3, rfl, -⟩ := h'
  have hi' := hi
  obtain ⟨a2, k2, rfl, -⟩ := hi'
  have HBW : Hid (Below w.heap.size w (w.alloc (.cells #[.slice a3 ds.length k3] 25))) := hid ((Below.refl _ _).alloc (Nat.le_refl _) _)
  have d0 : (w.alloc (.cells #[.slice a3 ds.length k3] 25)).cell? ⟨w.heap.size, 0, none⟩ = some (.slice a3 ds.length k3) := by rw [World.cell?_alloc_at _ _ _ _ rfl]; rfl
  obtain ⟨W0, hW0⟩ : ∃ W, W = w.alloc (.cells #[.slice a3 ds.length k3] 25) := ⟨_, rfl⟩
  rw [← hW0] at HBW d0
  have HD := hid (h.below HBW.out)
  have HA := hid (hi.below HBW.out)
  have KL : Hid (∀ W s, Below W0.heap.size W0 W → Calls Tryz.prog 23 #[.agg #[.slice a3 ds.length k3], .string s] W fun e w' => ∃ z : Int, e = .returned (.int .i64 z) ∧ RelIx ds s z ∧ Below W.heap.size W w') := hid (fun W s hb => relationPlace_calls W _ ds s (HD.out.below hb) hdl)
  have HPA : Hid (∀ i, i < ats.length → (∀ j, j < i → atomCode ds (ats.getD j noAt) = 0) → atomCode ds (ats.getD i noAt) ≠ 0 → atomsV ds ats = faultV (atomCode ds (ats.getD i noAt)) i) := hid (fun i hi hb hc => atomsV_bad hi hb hc)
  have HPO : Hid ((∀ j, j < ats.length → atomCode ds (ats.getD j noAt) = 0) → atomsV ds ats = .nilIface) := hid (fun hb => atomsV_ok hb)
  obtain ⟨ax, kx, ee, hca⟩ := HA.out
  simp only [Value.slice.injEq] at ee
  obtain ⟨rfl, -, -⟩ := ee
  have HCA := hid hca
  obtain ⟨ay, ky, ee, hcd⟩ := HD.out
  simp only [Value.slice.injEq] at ee
  obtain ⟨rfl, -, -⟩ := ee
  have HCD := hid hcd
  clear hca hcd h hi HA HD
  obtain ⟨RV, hRV⟩ : ∃ r, r = atomsV ds ats := ⟨_, rfl⟩
  rw [← hRV] at HPA HPO ⊢
  clear hRV
  go_enter Tryz.func43, Tryz.ntmps43
  go_upto_region 1 with fail
  rw [← hW0]
  clear hW0
  obtain ⟨an, han⟩ : ∃ n, n = ats.length := ⟨_, rfl⟩
  obtain ⟨dn, hdn⟩ : ∃ n, n = ds.length := ⟨_, rfl⟩
  have HDN := hid hdn
  rw [← han] at HPA HPO HCA hal ⊢
  rw [← hdn] at KL HCD d0 hdl ⊢
  clear han hdn
  go_wp2_with fail
  go_loopw [10] (fun t wr => ∃ i : Nat, i ≤ an ∧ t = .int .i64 i ∧ Hid (Below W0.heap.size W0 wr ∧ ∀ p, p < i → atomCode ds (ats.getD p noAt) = 0)) (fun t _ => an - (intOf t).toNat)
  case atStart => exact ⟨0, Nat.zero_le _, rfl, hid ⟨Below.refl _ _, fun p hp => by omega⟩⟩
  case round =>
    obtain ⟨i, hin, rfl, HH⟩ := hrel
    by_cases hlt : i < an
    · have i2 : (i : Int) < (an : Int) := by omega
      rcases HCA.out with h0 | ⟨b, o, rfl, hat⟩
      · omega
      · obtain ⟨u, g0, g1, hit⟩ := hat i hlt
        obtain ⟨ua, uc, eu, -⟩ := hit
        subst eu
        have e0 := bcl' HH.out.1 g0
        have e1 := bcl' HH.out.1 g1
        have HPI := hid (HPA.out i hlt HH.out.2)
        have HNX : Hid (atomCode ds (ats.getD i noAt) = 0 → ∀ p, p < i + 1 → atomCode ds (ats.getD p noAt) = 0) := hid (fun h p hp => by
          by_cases e : p = i
          · rw [e]; exact h
          · exact HH.out.2 p (by omega))
        have HNO : Hid (RelIx ds (ats.getD i noAt).1 (-1) → atomCode ds (ats.getD i noAt) = 4) := hid RelIx.code_no
        have HYE : Hid (∀ j : Nat, RelIx ds (ats.getD i noAt).1 (j : Int) → j < dn ∧ atomCode ds (ats.getD i noAt) = if (ds.getD j noRel).ar = ((ats.getD i noAt).2.length : Int) then 0 else 5) := hid (fun j h => by rw [HDN.out]; exact RelIx.code_yes h)
        have HW : Hid (Below W0.heap.size W0 (wr.alloc (.cells #[.string (ats.getD i noAt).1, .slice ua (ats.getD i noAt).2.length uc] 51))) := hid (HH.out.1.alloc HH.out.1.size _)
        have f1 : (wr.alloc (.cells #[.string (ats.getD i noAt).1, .slice ua (ats.getD i noAt).2.length uc] 51)).cell? ⟨wr.heap.size, 0, none⟩ = some (.string (ats.getD i noAt).1) := by rw [World.cell?_alloc_at _ _ _ _ rfl]; rfl
        have f2 : (wr.alloc (.cells #[.string (ats.getD i noAt).1, .slice ua (ats.getD i noAt).2.length uc] 51)).cell? ⟨wr.heap.size, 1, none⟩ = some (.slice ua (ats.getD i noAt).2.length uc) := by rw [World.cell?_alloc_at _ _ _ _ rfl]; rfl
        have dd := bcl' HW.out d0
        clear hat g0 g1 HH HPA
        generalize atomCode ds (ats.getD i noAt) = ac at *
        generalize ats.getD i noAt = at1 at *
        generalize at1.2.length = tn at *
        generalize at1.1 = nm at *
        go_upto_region 4 with fail
        clear e0 e1
        generalize wr.alloc (.cells #[.string nm, .slice ua tn uc] 51) = Wr at *
        generalize wr.heap.size = B3 at *
        go_wp2_with fail
        refine (KL.out Wr nm HW.out).mono ?_
        rintro e w3 ⟨z, rfl, hz, hb3⟩
        have HB3 := hid (bt HW.out hb3)
        have f2' := bcl' hb3 f2
        clear f1 f2 dd hb3 HW
        by_cases hz0 : z < 0
        · obtain rfl : z = -1 := by
            rcases hz with ⟨e, -⟩ | ⟨j, e, -⟩
            · exact e
            · omega
          have hc := HNO.out hz
          subst hc
          have HR := hid (HPI.out (by decide))
          clear HPI HNX HNO HYE hz
          go_wp2_with fail
          go_ret
          exact ⟨by rw [HR.out]; rfl, bt HBW.out HB3.out⟩
        · obtain ⟨j, rfl⟩ : ∃ j : Nat, z = j := ⟨z.toNat, by omega⟩
          obtain ⟨hjd, hc⟩ := HYE.out j hz
          have i3 : (j : Int) < (dn : Int) := by omega
          rcases HCD.out with h0 | ⟨b', o', rfl, hre⟩
          · omega
          · obtain ⟨vr, vw, -, g1, -⟩ := hre j hjd
            have r1 := bcl' HB3.out g1
            have dd := bcl' HB3.out d0
            clear hre g1 HNO HYE hz
            generalize (ds.getD j noRel).ar = ar at *
            by_cases hart : ar = (tn : Int)
            · subst hart
              rw [if_pos rfl] at hc
              have HN := hid (HNX.out hc)
              clear HNX HPI hc
              go_wp2_with fail
              go_quiet (fail)
              go_wp2_with fail
              go_roundw
              case rel => exact ⟨i + 1, by omega, by go_num, hid ⟨below_drewN HB3.out _, HN.out⟩⟩
              case measure => simp [intOf]; omega
            · rw [if_neg hart] at hc
              subst hc
              have HR := hid (HPI.out (by decide))
              clear HNX HPI
              go_wp2_with fail
              go_quiet (fail)
              go_wp2_with fail
              go_ret
              exact ⟨by rw [HR.out]; rfl, below_drewN (bt HBW.out HB3.out) _⟩
    · obtain rfl : i = an := by omega
      have i2 : ¬ ((i : Int) < (i : Int)) := by omega
      have HR := hid (HPO.out HH.out.2)
      have HB := hid HH.out.1
      clear HH HPA HPO
      go_wp2_with fail
      go_ret
      exact ⟨by rw [HR.out]; rfl, bt HBW.out HB.out⟩

end Go.Proofs.YtoodbpijgnbfjaaGreat
