import Derived.Deep.Cut
import Derived.Deep.OwnRows
import Derived.Test.YtegcpplkcahkhaaGreatB03
import Derived.Test.YtegcpplkcahkhaaGreatB09
import Derived.Test.YtegcpplkcahkhaaGreatB19
/-
  The variables of a query in the order of their first places: spec.l3Place, l3Vars.
-/
namespace Go.Proofs.YtegcpplkcahkhaaGreat
open Go.RowKit

def hasT (L : List ByteArray) (s : ByteArray) : Bool := L.any fun x => x.toList == s.toList
def addV (L : List ByteArray) (t : TermV) : List ByteArray := if t.1.toList.isEmpty || hasT L t.1 then L else L ++ [t.1]
/-- after i atoms -/
def VL (ats : List AtomV) (i : Nat) : List ByteArray := (ats.take i).foldl (fun L a => a.2.foldl addV L) []
/-- after i atoms and p terms of the next -/
def VT (ats : List AtomV) (i p : Nat) : List ByteArray := ((ats.getD i noAt).2.take p).foldl addV (VL ats i)

theorem VL_zero (ats : List AtomV) : VL ats 0 = [] := rfl
theorem VT_zero (ats : List AtomV) (i : Nat) : VT ats i 0 = VL ats i := rfl
theorem take_succ_getD {α : Type} (l : List α) (d : α) {i : Nat} (h : i < l.length) : l.take (i + 1) = l.take i ++ [l.getD i d] := by
  rw [List.take_add_one, List.getElem?_eq_getElem h]
  simp [List.getD_eq_getElem?_getD, h]
theorem VL_succ (ats : List AtomV) {i : Nat} (h : i < ats.length) : VL ats (i + 1) = VT ats i (ats.getD i noAt).2.length := by
  unfold VL VT
  rw [take_succ_getD ats noAt h, List.foldl_append, List.take_length]
  rfl
theorem VT_succ (ats : List AtomV) (i : Nat) {p : Nat} (h : p < (ats.getD i noAt).2.length) : VT ats i (p + 1) = addV (VT ats i p) ((ats.getD i noAt).2.getD p noTm) := by
  unfold VT
  rw [take_succ_getD _ noTm h, List.foldl_append]
  rfl
theorem addV_len (L : List ByteArray) (t : TermV) : (addV L t).length ≤ L.length + 1 := by
  unfold addV
  split
  · omega
  · simp
theorem VT_len (ats : List AtomV) (i p : Nat) : (VT ats i p).length ≤ (VL ats i).length + p := by
  induction p with
  | zero => rw [VT_zero]; omega
  | succ p ih =>
    by_cases h : p < (ats.getD i noAt).2.length
    · rw [VT_succ ats i h]
      have := addV_len (VT ats i p) ((ats.getD i noAt).2.getD p noTm)
      omega
    · have : VT ats i (p + 1) = VT ats i p := by
        unfold VT
        rw [List.take_of_length_le (by omega), List.take_of_length_le (by omega)]
      rw [this]; omega
theorem VL_len (ats : List AtomV) (hk : ∀ j, j < ats.length → (ats.getD j noAt).2.length ≤ 1048576) (i : Nat) (hi : i ≤ ats.length) : (VL ats i).length ≤ i * 1048576 := by
  induction i with
  | zero => rw [VL_zero]; simp
  | succ i ih =>
    rw [VL_succ ats (by omega)]
    have h1 := VT_len ats i (ats.getD i noAt).2.length
    have h2 := hk i (by omega)
    have h3 := ih (by omega)
    omega

set_option maxHeartbeats 2000000 in
set_option maxRecDepth 1000000 in
theorem l3Place_calls (w : World) (v : Value) (L : List ByteArray) (s : ByteArray) (h : ISt w v L) (hl : L.length ≤ 1099511627776000) :
    Calls Tryz.prog 48 #[v, .string s] w fun e w' => ∃ z : Int, e = .returned (.int .i64 z) ∧ w' = w ∧ (hasT L s = true → 0 ≤ z) ∧ (hasT L s = false → z = -1) := by
  obtain ⟨a, cap, rfl, hc⟩ := h
  obtain ⟨n, hn⟩ : ∃ n, n = L.length := ⟨_, rfl⟩
  have HC := hid hc
  have HN := hid hn
  rw [← hn] at HC hl ⊢
  clear hc hn
  go_enter Tryz.func48, Tryz.ntmps48
  go_wp2
  go_loopw [9] (fun t wr => ∃ j : Nat, j ≤ n ∧ t = .int .i64 j ∧ wr = w ∧ Hid (∀ i, i < j → ((L.getD i noTx).toList == s.toList) = false)) (fun t _ => n - (intOf t).toNat)
  case atStart => exact ⟨0, Nat.zero_le _, rfl, rfl, hid (fun i hi => by omega)⟩
  case round =>
    obtain ⟨j, hj, rfl, hw, HH⟩ := hrel
    subst hw
    by_cases hjn : j < n
    · have i1 : (j : Int) < (n : Int) := by omega
      rcases HC.out with h0 | ⟨b, o, rfl, hcell⟩
      · omega
      · have c1 := hcell j hjn
        have HX : Hid (((L.getD j noTx).toList == s.toList) = true → hasT L s = true) := hid (fun h => by
          unfold hasT
          rw [List.any_eq_true]
          refine ⟨L.getD j noTx, List.mem_of_getElem? (i := j) ?_, h⟩
          have : j < L.length := by rw [← HN.out]; exact hjn
          simp [List.getD_eq_getElem?_getD, this])
        have HY : Hid (((L.getD j noTx).toList == s.toList) = false → ∀ i, i < j + 1 → ((L.getD i noTx).toList == s.toList) = false) := hid (fun h i hi => by
          by_cases e : i = j
          · rw [e]; exact h
          · exact HH.out i (by omega))
        clear hcell HH
        generalize L.getD j noTx = x at *
        cases hb : (x.toList == s.toList)
        · have HZ := hid (HY.out hb)
          clear HX HY
          go_wp2
          go_roundw
          case rel => exact ⟨j + 1, by omega, by go_num, by trivial, HZ⟩
          case measure => simp [intOf]; omega
        · have HZ := hid (HX.out hb)
          clear HX HY
          go_wp2
          go_ret
          exact ⟨_, rfl, rfl, (fun _ => by omega), (fun h => by rw [HZ.out] at h; cases h)⟩
    · obtain rfl : j = n := by omega
      have i1 : ¬ ((j : Int) < (j : Int)) := by omega
      have HZ : Hid (hasT L s = false) := hid (by
        unfold hasT
        rw [List.any_eq_false]
        intro x hx
        obtain ⟨i, hi, e⟩ := List.getElem_of_mem hx
        have := HH.out i (by rw [HN.out]; exact hi)
        rw [List.getD_eq_getElem?_getD, List.getElem?_eq_getElem hi] at this
        simp only [Option.getD_some] at this
        rw [e] at this
        rw [this]; decide)
      go_wp2
      go_ret
      exact ⟨_, rfl, rfl, (fun h => by rw [HZ.out] at h; cases h), (fun _ => rfl)⟩

end Go.Proofs.YtegcpplkcahkhaaGreat

/-
  spec.l3Vars.
-/
namespace Go.Proofs.YtegcpplkcahkhaaGreat
open Go.RowKit

theorem Tryz.infoSt : (Tryz.prog.info? 9).map (fun i => (i.zero, i.size, i.bytes)) = some (some (.string ⟨#[]⟩), 1, 16) := by kernel_rfl

theorem own_st {w : World} {B : Nat} {v : Value} {L : List ByteArray} (h : w.ownsRow B 9 1 v L.length (L.map Value.string)) : ISt w v L := by
  rcases h.2 with ⟨rfl, h4⟩ | ⟨g, cp, cur, rfl, hb, hc, hr⟩
  · exact ⟨none, 0, by rw [h4], Or.inl h4⟩
  · refine ⟨_, cp, rfl, Or.inr ⟨g, 0, rfl, fun j hj => ?_⟩⟩
    have := h.cellAt j (by omega)
    rw [Nat.zero_add, this, List.getElem?_map, List.getElem?_eq_getElem hj]
    simp [List.getD_eq_getElem?_getD, hj]

theorem bcl' {w w' : World} {a : Addr} {v : Value} (hb : Below w.heap.size w w') (h : w.cell? a = some v) : w'.cell? a = some v :=
  (hb.cell (World.block_lt_of_cell? w _ h)).trans h

set_option maxHeartbeats 8000000 in
set_option maxRecDepth 1000000 in
theorem l3Vars_calls (w : World) (vh va : Value) (q : QV) (h : IQ w vh va q) (hq : OkQ q) :
    Calls Tryz.prog 21 #[.agg #[.string q.name, vh, .int .i64 q.ring, va]] w fun e w' => ∃ v, e = .returned v ∧ w'.ownsRow w.heap.size 9 1 v (VL q.atoms q.atoms.length).length ((VL q.atoms q.atoms.length).map Value.string) ∧ Below w.heap.size w w' := by
  obtain ⟨i0, hi, hz0, hz1, hz2⟩ := info_parts Tryz.infoSt
  have hal := hq.alen
  have HK : Hid (∀ j, j < q.atoms.length → (q.atoms.getD j noAt).2.length ≤ 1048576) := hid (fun j hj => (hq.atoms j hj).len)
  have HI := hid h.atoms
  obtain ⟨a1, k1, e1, -⟩ := h.head
  obtain ⟨a2, k2, e2, -⟩ := h.atoms
  subst e1 e2
  clear h hq
  obtain ⟨W1, hW1⟩ : ∃ W, W = w.alloc (.cells #[.string q.name, .slice a1 q.head.length k1, .int .i64 q.ring, .slice a2 q.atoms.length k2] 39) := ⟨_, rfl⟩
  have c3 : W1.cell? ⟨w.heap.size, 3, none⟩ = some (.slice a2 q.atoms.length k2) := by rw [hW1, World.cell?_alloc_at _ _ _ _ rfl]; rfl
  have HB1 : Hid (Below w.heap.size w W1) := hid (by rw [hW1]; exact (Below.refl _ _).alloc (Nat.le_refl _) _)
  have hs1 : w.heap.size < W1.heap.size := by rw [hW1]; simp
  have hIA := HI.out.below HB1.out
  generalize q.name = nm at *
  generalize q.ring = rg at *
  generalize q.head.length = hn at *
  generalize q.atoms = ats at *
  obtain ⟨n, hn'⟩ : ∃ n, n = ats.length := ⟨_, rfl⟩
  have HN := hid hn'
  obtain ⟨a2', k2', ee, hcell⟩ := hIA
  simp only [Value.slice.injEq] at ee
  obtain ⟨rfl, -, -⟩ := ee
  have HC := hid hcell
  rw [← hn'] at HC HK hal c3 hW1 ⊢
  have HVL : Hid (∀ i, i ≤ n → (VL ats i).length ≤ i * 1048576) := hid (fun i hi => VL_len ats (by rw [← hn']; exact HK.out) i (by omega))
  clear hcell hn' HI
  go_enter Tryz.func21, Tryz.ntmps21
  go_upto_region 1 with fail
  rw [← hW1]
  clear hW1
  have c3a : ∀ o', (W1.alloc o').cell? ⟨w.heap.size, 3, none⟩ = some (.slice a2 n k2) := fun o' => bcl' ((Below.refl _ _).alloc (Nat.le_refl _) o') c3
  go_wp2
  go_loopw [3, 12] (fun v t wr => ∃ (i : Nat) (vs : Value), i ≤ n ∧ t = .int .i64 i ∧ vs = v ∧ Hid (Below W1.heap.size W1 wr ∧ wr.ownsRow W1.heap.size 9 1 vs (VL ats i).length ((VL ats i).map Value.string))) (fun _ t _ => n - (intOf t).toNat)
  case atStart => exact ⟨0, _, Nat.zero_le _, rfl, rfl, hid ⟨(Below.refl _ _).alloc (Nat.le_refl _) _, World.ownsRow_made W1 #[] 0 (Nat.le_refl _) (by decide) rfl⟩⟩
  case round =>
    clear c3 c3a
    obtain ⟨i, vs, hin, rfl, rfl, HH⟩ := hrel
    by_cases hlt : i < n
    · have i1 : (i : Int) < (n : Int) := by omega
      rcases HC.out with h0 | ⟨b, o, rfl, hrel⟩
      · omega
      · obtain ⟨u, d0, d1, hit⟩ := hrel i hlt
        have e0 := bcl' HH.out.1 d0
        have e1 := bcl' HH.out.1 d1
        obtain ⟨ua, uc, eu, hterm⟩ := hit
        subst eu
        have hm := HK.out i hlt
        have hvl := HVL.out i (by omega)
        obtain ⟨m, hm'⟩ : ∃ m, m = (ats.getD i noAt).2.length := ⟨_, rfl⟩
        have HT := hid hterm
        rw [← hm'] at HT e1 hm
        have HM := hid hm'
        clear hrel d0 d1 hterm hm'
        generalize (ats.getD i noAt).1 = rel at *
        generalize wr = Wr at *
        go_upto_region 5 with fail
        have HW : Hid (Below W1.heap.size W1 (Wr.alloc (.cells #[.string rel, .slice ua m uc] 56)) ∧ (Wr.alloc (.cells #[.string rel, .slice ua m uc] 56)).ownsRow W1.heap.size 9 1 vs (VT ats i 0).length ((VT ats i 0).map Value.string)) := hid ⟨HH.out.1.alloc HH.out.1.size _, by rw [VT_zero]; exact HH.out.2.alloc _⟩
        have f1 : (Wr.alloc (.cells #[.string rel, .slice ua m uc] 56)).cell? ⟨Wr.heap.size, 1, none⟩ = some (.slice ua m uc) := by rw [World.cell?_alloc_at _ _ _ _ rfl]; rfl
        clear HH e0 e1
        generalize Wr.alloc (.cells #[.string rel, .slice ua m uc] 56) = Ws at *
        go_wp2_with fail
        clear f1
        go_loopw [3, 19] (fun v t wr => ∃ (p : Nat) (vs : Value), p ≤ m ∧ t = .int .i64 p ∧ vs = v ∧ Hid (Below W1.heap.size W1 wr ∧ wr.ownsRow W1.heap.size 9 1 vs (VT ats i p).length ((VT ats i p).map Value.string))) (fun _ t _ => m - (intOf t).toNat)
        case atStart => exact ⟨0, _, Nat.zero_le _, rfl, rfl, HW⟩
        case round =>
          clear HW
          obtain ⟨p, vs, hpm, rfl, rfl, HG⟩ := hrel
          by_cases hlp : p < m
          · have i2 : (p : Int) < (m : Int) := by omega
            rcases HT.out with h0 | ⟨tb, to, rfl, hts⟩
            · omega
            · obtain ⟨g0', g1'⟩ := hts p hlp
              have g0 := bcl' HG.out.1 g0'
              have g1 := bcl' HG.out.1 g1'
              have hvt := VT_len ats i p
              have hsz := HG.out.1.size
              have HS : Hid (VT ats i (p + 1) = addV (VT ats i p) ((ats.getD i noAt).2.getD p noTm)) := hid (VT_succ ats i (by rw [← HM.out]; exact hlp))
              unfold addV at HS
              have KP := hid (fun (o' : Obj) => l3Place_calls (wr.alloc o') vs (VT ats i p) ((ats.getD i noAt).2.getD p noTm).1 (own_st (HG.out.2.alloc o')) (by omega))
              clear hts g0' g1'
              generalize (ats.getD i noAt).2.getD p noTm = t at *
              generalize t.1 = x at *
              generalize t.2 = y at *
              generalize VT ats i p = L at *
              cases hem : x.toList.isEmpty
              · rw [hem, Bool.false_or] at HS
                have hem2 : (!x.toList.isEmpty) = true := by rw [hem]; rfl
                cases hhas : hasT L x
                · rw [hhas] at HS
                  rw [if_neg (by decide)] at HS
                  go_wp2_with fail
                  refine (KP.out _).mono ?_
                  rintro e w5 ⟨z, rfl, hw5, -, hz⟩
                  subst w5
                  obtain rfl := hz hhas
                  clear hz KP
                  go_wp2_with (first
                    | (at_builtin; refine wpList_append_own _ rfl _ _ 25 rfl W1.heap.size 9 i0 (.string ⟨#[]⟩) 1 16 Tryz.underlying25 hi hz0 hz1 hz2 rfl (by decide) _ _ _ rfl ((HG.out.2.alloc _).alloc _) ⟨wr.heap.size + 1, 0, none⟩ 1 1 [.string x] rfl rfl ?y1 ?y2 ?y3 ?y4 ?y5 ?_)
                    | fail)
                  try (case y1 =>
                    intro j u hj
                    match j, hj with
                    | 0, hj => simp at hj; subst hj; simp [Addr.add])
                  try (case y2 => first | rfl | (intro u hu; simp at hu; subst hu; rfl))
                  try (case y3 => unfold maxLen; (first | omega | (simp; omega)))
                  try (case y4 => (first | omega | (simp; omega)))
                  try (case y5 => (first | omega | (simp; omega)))
                  intro v' w6 hown' hgrow _
                  have HN2 : Hid (Below W1.heap.size W1 w6 ∧ w6.ownsRow W1.heap.size 9 1 v' (VT ats i (p + 1)).length ((VT ats i (p + 1)).map Value.string)) := hid ⟨((HG.out.1.alloc hsz _).alloc (by simp; omega) _).grown hgrow (by simp; omega) (fun j hj => (HG.out.2.lt j hj).1), by rw [HS.out]; simpa using hown'⟩
                  clear hown' hgrow
                  go_wp2
                  go_roundw
                  case rel => exact ⟨p + 1, v', by omega, by go_num, rfl, HN2⟩
                  case measure => simp [intOf]; omega
                · rw [hhas] at HS
                  rw [if_pos rfl] at HS
                  go_wp2_with fail
                  refine (KP.out _).mono ?_
                  rintro e w5 ⟨z, rfl, hw5, hz, -⟩
                  subst w5
                  have hz' : ¬ (z < 0) := by have := hz hhas; omega
                  clear hz KP
                  go_wp2
                  go_roundw
                  case rel => exact ⟨p + 1, vs, by omega, by go_num, rfl, hid ⟨HG.out.1.alloc hsz _, by rw [HS.out]; exact HG.out.2.alloc _⟩⟩
                  case measure => simp [intOf]; omega
              · rw [hem, Bool.true_or, if_pos rfl] at HS
                have hem2 : (!x.toList.isEmpty) = false := by rw [hem]; rfl
                clear KP
                go_wp2
                go_roundw
                case rel => exact ⟨p + 1, vs, by omega, by go_num, rfl, hid ⟨HG.out.1.alloc hsz _, by rw [HS.out]; exact HG.out.2.alloc _⟩⟩
                case measure => simp [intOf]; omega
          · obtain rfl : p = m := by omega
            have i2 : ¬ ((p : Int) < (p : Int)) := by omega
            have HE : Hid (VL ats (i + 1) = VT ats i p) := hid (by rw [HM.out]; exact VL_succ ats (by rw [← HN.out]; exact hlt))
            go_wp2
            go_roundw
            case rel => exact ⟨i + 1, vs, by omega, by go_num, rfl, hid ⟨HG.out.1, by rw [HE.out]; exact HG.out.2⟩⟩
            case measure => simp [intOf]; omega
    · obtain rfl : i = n := by omega
      have i1 : ¬ ((i : Int) < (i : Int)) := by omega
      go_wp2
      go_ret
      refine ⟨_, rfl, ?_, HB1.out.trans (HH.out.1.mono (by omega))⟩
      have := HH.out.2
      refine ⟨this.1, ?_⟩
      rcases this.2 with h0 | ⟨c, cp, cur, h1, h2, h3⟩
      · exact Or.inl h0
      · exact Or.inr ⟨c, cp, cur, h1, by omega, h3⟩

end Go.Proofs.YtegcpplkcahkhaaGreat

/-
  The good shape of queries: spec.l3ShapeOK.
-/
namespace Go.Proofs.YtegcpplkcahkhaaGreat
open Go.RowKit

def termB (t : TermV) : Bool := if t.1.toList.isEmpty then decide (0 ≤ t.2) && decide (t.2 ≤ 1000000) else nameB t.1 && decide (t.2 = 0)
def atomB (a : AtomV) : Bool := nameB a.1 && decide (1 ≤ a.2.length) && a.2.all termB
def shapeB (q : QV) : Bool := nameB q.name && decide (0 ≤ q.ring) && decide (q.ring ≤ 3) && decide (1 ≤ q.atoms.length) && q.head.all nameB && q.atoms.all atomB

theorem all_get {α : Type} (p : α → Bool) (d : α) (l : List α) (h : ∀ i, i < l.length → p (l.getD i d) = true) : l.all p = true := by
  rw [List.all_eq_true]
  intro x hx
  obtain ⟨j, hj, e⟩ := List.getElem_of_mem hx
  have := h j hj
  rw [List.getD_eq_getElem?_getD, List.getElem?_eq_getElem hj] at this
  simp only [Option.getD_some] at this
  rw [← e]; exact this
theorem all_miss {α : Type} (p : α → Bool) (d : α) (l : List α) {j : Nat} (hj : j < l.length) (h : p (l.getD j d) = false) : l.all p = false := by
  rw [List.all_eq_false]
  refine ⟨l.getD j d, List.mem_of_getElem? (i := j) (by simp [List.getD_eq_getElem?_getD, hj]), by rw [h]; decide⟩

theorem shape_head {q : QV} {j : Nat} (hj : j < q.head.length) (h : nameB (q.head.getD j noTx) = false) : shapeB q = false := by
  unfold shapeB; rw [all_miss nameB noTx q.head hj h]; simp
theorem shape_atom {q : QV} {j : Nat} (hj : j < q.atoms.length) (h : atomB (q.atoms.getD j noAt) = false) : shapeB q = false := by
  unfold shapeB; rw [all_miss atomB noAt q.atoms hj h]; simp
theorem atom_term {a : AtomV} {j : Nat} (hj : j < a.2.length) (h : termB (a.2.getD j noTm) = false) : atomB a = false := by
  unfold atomB; rw [all_miss termB noTm a.2 hj h]; simp

theorem between_calls (w : World) (x lo hi : Int) : Calls Tryz.prog 74 #[.int .i64 x, .int .i64 lo, .int .i64 hi] w fun e w' => e = .returned (.bool (decide (lo ≤ x) && decide (x ≤ hi))) ∧ w' = w := by
  by_cases h1 : lo ≤ x
  · by_cases h2 : x ≤ hi
    · rw [decide_eq_true h1, decide_eq_true h2]
      go_enter Tryz.func74, Tryz.ntmps74
      go_wp2
      go_ret
      exact ⟨rfl, rfl⟩
    · rw [decide_eq_true h1, decide_eq_false h2]
      go_enter Tryz.func74, Tryz.ntmps74
      go_wp2
      go_ret
      exact ⟨rfl, rfl⟩
  · rw [decide_eq_false h1]
    go_enter Tryz.func74, Tryz.ntmps74
    go_wp2
    go_ret
    exact ⟨rfl, rfl⟩

end Go.Proofs.YtegcpplkcahkhaaGreat
