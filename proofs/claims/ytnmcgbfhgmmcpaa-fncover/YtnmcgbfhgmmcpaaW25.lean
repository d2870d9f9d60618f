import Derived.Test.YtnmcgbfhgmmcpaaW17
import Derived.Test.YtnmcgbfhgmmcpaaW20
import Derived.Test.YtnmcgbfhgmmcpaaW22
import Derived.Test.YtnmcgbfhgmmcpaaW23
import Derived.Test.YtnmcgbfhgmmcpaaW24
namespace Go.Proofs.Ytnmcgbfhgmmcpaa
open Go.RowKit

set_option maxRecDepth 100000 in
set_option maxHeartbeats 2000000 in
theorem leastSolution_calls (w : World) (u n : Nat) (vr : Value) (L : List (List Nat)) (below : Bool) (hu : u ≤ 7) (hL : L.length ≤ 7) (hb6 : below = true → L.length ≤ 6) (hn : n = if below then u + L.length + L.length else u + L.length) (hn19 : n ≤ 19)
    (hr : RowsAt w vr L) (hlen : ∀ i, i < L.length → (L.getD i []).length ≤ 7) (hin : ∀ i, i < L.length → ∀ j ∈ L.getD i [], j < u)
    (A : Nat → Nat → Rat) (hA : ∀ i, i < L.length → ∀ j, j ≤ n → startC u L below i j = A j i) (hW : ∀ j, j ≤ n → ∀ r, r < L.length → Cov.Whole 1 (A j r)) (hG : Cov.Good L.length n A (fun _ => false) ⟨fun i j => A j i, fun i => n - L.length + i⟩) :
    Calls Try.prog 45 #[.agg #[.int .i64 u, vr, .bool below]] w fun e w' => ∃ g bar' s', e = .returned (.slice (some ⟨g, 0, none⟩) u u) ∧ FrAt w' g u (Cov.xb L.length n s') ∧
      Cov.Aims L.length n (aimC (aimsL u L.length n below u)) (fun _ => false) ⟨fun i j => A j i, fun i => n - L.length + i⟩ bar' s' ∧ Cov.Good L.length n A bar' s' ∧ w.heap.size ≤ g ∧ g < w'.heap.size ∧ Below w.heap.size w w' := by
  have KS : Hid (∀ W, RowsAt W vr L → Calls Try.prog 88 #[.agg #[.int .i64 u, vr, .bool below]] W fun e w' => ∃ V, e = .returned (.agg V) ∧ IsSx V L.length n (startC u L below) (fun i => n - L.length + i) (fun _ => false) ∧ Below W.heap.size W w') := hid (fun W hW' => by
    have := startOf_calls W u vr L below hu hL (by rw [← hn]; exact hn19) hW' hlen hin
    rw [← hn] at this; exact this)
  obtain ⟨a, cap, hvr, -⟩ := id hr
  have KA : Hid (∀ W, Calls Try.prog 89 #[.agg #[.int .i64 u, vr, .bool below]] W fun e w' => ∃ v, e = .returned v ∧ w'.ownsRow W.heap.size 125 20 v (aimsL u L.length n below u).length (aimV (aimsL u L.length n below u)) ∧ Below W.heap.size W w') := hid (fun W => by rw [hvr]; exact aims_calls W u L.length n a cap below hu hb6 hn)
  have HR := hid hr
  have hun : u ≤ n := by rw [hn]; split <;> omega
  obtain ⟨m, hm⟩ : ∃ m, m = L.length := ⟨_, rfl⟩
  obtain ⟨l, hl⟩ : ∃ l, l = aimsL u m n below u := ⟨_, rfl⟩
  have hll : l.length ≤ 9 := by rw [hl, aimsL_length]; split <;> omega
  have hlp : 0 < l.length := by rw [hl, aimsL_length]; split <;> omega
  have HABS : Hid (∀ t ∈ l, t.2.2.natAbs ≤ 1) := hid (by rw [hl]; exact aimsL_abs u m n below u)
  rw [← hm] at KS KA hL hA hW hG ⊢
  rw [← hl] at KA ⊢
  obtain ⟨ln, hln⟩ : ∃ ln, ln = l.length := ⟨_, rfl⟩
  rw [← hln] at KA hll hlp
  have HA := hid hA
  have HW := hid hW
  have HG := hid hG
  have HM := hid hm
  have HLN := hid hln
  clear hA hW hG hm hl hln hb6 hn hlen hin hr hvr
  have hb0 : Below w.heap.size w (w.alloc (.cells #[.int .i64 u, vr, .bool below] 82)) := (Below.refl _ _).alloc (Nat.le_refl _) _
  have hA0 : ArrAt (w.alloc (.cells #[.int .i64 u, vr, .bool below] 82)) w.heap.size 3 (f3 (.int .i64 u) vr (.bool below)) := arrAt_alloc w 3 (f3 (.int .i64 u) vr (.bool below)) 82
  have hz0 : (w.alloc (.cells #[.int .i64 u, vr, .bool below] 82)).heap.size = w.heap.size + 1 := by simp
  go_enter Try.func45, Try.ntmps45
  go_upto_region 1 with fail
  generalize w.alloc (.cells #[.int .i64 u, vr, .bool below] 82) = W at *
  obtain ⟨p0, p1, p2⟩ := hA0.three
  go_upto_region 2 with (first | (go_at_call 88; refine (KS.out _ (HR.out.below hb0)).mono ?_; rintro e w2 ⟨V, rfl, hV, hb2⟩; have HV := hid hV; have HT : Hid ((w2.alloc (.cells zSx 120)).there w2.heap.size 0 V.size) := hid (by rw [hV.1]; exact there_zSx w2 _); have HI : Hid ((Try.prog.info? 120).map (·.size) = some V.size) := hid (by rw [hV.1]; exact infoSx); have HO := hid hV.one; have HSX := hid (hV.stored (there_zSx w2 120)); clear hV) | (refine wpList_alloc_sx rfl rfl ?_) | (refine wpList_store_mid rfl 120 _ _ rfl _ 0 V (by rfl) (by rfl) (by exact HT.out) (by exact HI.out) (by exact HO.out) ?_))
  have hb02 : Below w.heap.size w w2 := bt hb0 hb2
  have hs02 := hb02.size
  have hs2 := hb2.size
  have hb3 : Below w.heap.size w ((w2.alloc (.cells zSx 120)).setCells w2.heap.size 0 V.toList) := below_setCells hs02 _ _ _ (hb02.alloc hs02 _)
  have hA3 : ArrAt ((w2.alloc (.cells zSx 120)).setCells w2.heap.size 0 V.toList) w.heap.size 3 (f3 (.int .i64 u) vr (.bool below)) := ((hA0.below (by omega) hb2).alloc (by omega) _).move (setCells_heap _ _ _ _ _ (by omega))
  have hk1 : w.heap.size < w2.heap.size := by omega
  obtain ⟨k, hk⟩ : ∃ k, k = w2.heap.size := ⟨_, rfl⟩
  rw [← hk] at hb3 hA3 hk1 HSX ⊢
  generalize (w2.alloc (.cells zSx 120)).setCells k 0 V.toList = w3 at *
  have hklt : k < w3.heap.size := HSX.out.lt
  clear HT HI HO HV hb2 hb0 hA0 p0 p1 p2 hb02 hs02 hs2 hk hz0
  obtain ⟨p0, p1, p2⟩ := hA3.three
  go_wp2_with (first | (go_at_call 89; refine (KA.out _).mono ?_; rintro e w4 ⟨v, rfl, hown, hb4⟩; obtain ⟨g, gc, rfl, hg1, hg2⟩ := hown.form hlp))
  have HL0 : Hid (LS w w4 k g gc u m n A l (f3 (.int .i64 u) vr (.bool below)) ⟨fun i j => A j i, fun i => n - m + i⟩ 0 (fun _ => false) ⟨fun i j => A j i, fun i => n - m + i⟩ (startC u L below)) := hid
    { aims := ⟨rfl, rfl⟩
      good := HG.out
      sx := HSX.out.below hb4
      rows := HA.out
      last := fun j _ => by rw [show startC u L below m j = 0 from if_neg (by rw [HM.out]; omega)]; exact ⟨by decide, by decide⟩
      bel := bt hb3 hb4
      own := by rw [← HLN.out]; exact own_base hown (by omega)
      arg := hA3.below (by omega) hb4 }
  clear HSX hown hb4 hb3 hA3 p0 p1 p2 KS KA HR HG HA
  go_loopw [11] (fun t wr => ∃ i : Nat, i ≤ ln ∧ t = .int .i64 i ∧ Hid (∃ bar s C, LS w wr k g gc u m n A l (f3 (.int .i64 u) vr (.bool below)) ⟨fun i j => A j i, fun i => n - m + i⟩ i bar s C)) (fun t _ => ln - (intOf t).toNat)
  case atStart => exact ⟨0, Nat.zero_le _, rfl, hid ⟨_, _, _, HL0.out⟩⟩
  case round =>
    clear HL0
    obtain ⟨i, hi, rfl, hH⟩ := hrel
    obtain ⟨bar, s, C, hLS⟩ := hH.out
    by_cases hil : i < ln
    · have i1 : (i : Int) < (ln : Int) := by omega
      have hil2 : i < l.length := by rw [← HLN.out]; exact hil
      obtain ⟨cs, hcs⟩ : ∃ cs, cs = costV (l.getD i (0, 0, 0)).1 (l.getD i (0, 0, 0)).2.1 (l.getD i (0, 0, 0)).2.2 := ⟨_, rfl⟩
      have HRG : Hid (wr.rangeAt g (i * 20) cs) := hid (by rw [hcs]; exact own_aim hLS.own hil2)
      have HCL : Hid (cs.length = 20) := hid (by rw [hcs]; exact costV_length _ _ _)
      have HCI : Hid ((Try.prog.info? 125).map (·.size) = some cs.length) := hid (by rw [HCL.out]; exact infoC)
      have HCJ : Hid ((Try.prog.info? 125).map (·.size) = some cs.toArray.size) := hid (by rw [show cs.toArray.size = 20 by simpa using HCL.out]; exact infoC)
      have HCO : Hid (cs.toArray.all (·.oneCell') = true) := hid (all_oneCell_toArray (by rw [hcs]; exact costV_one _ _ _))
      have HTh : Hid ((wr.alloc (.cells (arrV 20 (fun _ => .int .i64 0)).toArray 125)).there wr.heap.size 0 cs.toArray.size) := hid (by rw [show cs.toArray.size = 20 by simpa using HCL.out]; exact (arrAt_alloc wr 20 (fun _ => .int .i64 0) 125).there)
      have HR2 : Hid (((wr.alloc (.cells (arrV 20 (fun _ => .int .i64 0)).toArray 125)).setCells wr.heap.size 0 cs.toArray.toList).rangeAt wr.heap.size 0 cs) := hid (by
        have := World.rangeAt_setCells_same (wr.alloc (.cells (arrV 20 (fun _ => .int .i64 0)).toArray 125)) wr.heap.size 0 cs.toArray.toList (by have := HTh.out; simpa using this)
        simpa using this)
      have hbx : Below wr.heap.size wr ((wr.alloc (.cells (arrV 20 (fun _ => .int .i64 0)).toArray 125)).setCells wr.heap.size 0 cs.toArray.toList) := below_setCells (Nat.le_refl _) _ _ _ ((Below.refl _ _).alloc (Nat.le_refl _) _)
      have HBX := hid hbx
      have HLS := hid hLS
      have HCS := hid hcs
      have KL : Hid (∀ W, SxAt W k m n C s.B bar → Calls Try.prog 90 #[.pointer (some ⟨k, 0, none⟩), .agg cs.toArray] W fun e w' => e = .returned (.tuple #[]) ∧ Kb k W w' ∧ ∃ bar' s', Cov.Aim m n (rc (costF (l.getD i (0, 0, 0)).1 (l.getD i (0, 0, 0)).2.1 (l.getD i (0, 0, 0)).2.2)) bar s bar' s' ∧ SxAt w' k m n (full m (costF (l.getD i (0, 0, 0)).1 (l.getD i (0, 0, 0)).2.1 (l.getD i (0, 0, 0)).2.2) s') s'.B bar') := hid (fun W hS => by
        rw [hcs]
        refine leastBy_calls W k m n A C s bar hS hLS.rows hLS.last hLS.good HW.out _ (costF_abs _ _ _ (HABS.out _ ?_))
        rw [List.getD_eq_getElem?_getD, List.getElem?_eq_getElem hil2]
        exact List.getElem_mem _)
      clear hH hLS hcs hbx
      go_wp2_with (first | (refine wpList_load_mid rfl 125 _ rfl g (i * 20) (by rfl) cs _ (by exact HRG.out) Try.underlying125 (by rfl) (by exact HCI.out) ?_) | (refine wpList_alloc_c rfl rfl ?_) | (refine wpList_store_mid rfl 125 _ _ rfl wr.heap.size 0 cs.toArray (by rfl) (by rfl) (by exact HTh.out) (by exact HCJ.out) (by exact HCO.out) ?_) | (refine wpList_load_mid rfl 125 _ rfl wr.heap.size 0 (by rfl) cs _ (by exact HR2.out) Try.underlying125 (by rfl) (by exact HCI.out) ?_) | (go_at_call 90; refine (KL.out _ (HLS.out.sx.below HBX.out)).mono ?_; rintro e w5 ⟨rfl, hK, bar', s', ha, hS'⟩))
      go_roundw
      case rel => exact ⟨i + 1, by omega, by go_num, hid ⟨_, _, _, HLS.out.step hil2 hL HW.out HABS.out hk1 HBX.out hK ha hS'⟩⟩
      case measure => simp [intOf]; omega
    · obtain rfl : i = ln := by omega
      have i1 : ¬ ((i : Int) < (i : Int)) := by omega
      obtain ⟨p0, -, -⟩ := hLS.arg.three
      have KV : Hid (Calls Try.prog 91 #[.pointer (some ⟨k, 0, none⟩), .int .i64 u] wr fun e w' => e = .returned (.slice (some ⟨wr.heap.size, 0, none⟩) u u) ∧ FrAt w' wr.heap.size u (valF C s.B n m) ∧ wr.heap.size < w'.heap.size ∧ Below wr.heap.size wr w') := hid (values_calls wr k m n u C s.B bar hLS.sx (by omega) hun)
      have HLS := hid hLS
      clear hH hLS
      go_wp2_with (first | (go_at_call 91; refine KV.out.mono ?_; rintro e w5 ⟨rfl, hF, hlt, hb5⟩))
      go_ret
      have hLS := HLS.out
      have hwr := hLS.bel.size
      refine ⟨_, bar, s, rfl, ⟨fun j hj => ?_, fun j hj => ?_, hF.free⟩, ?_, hLS.good, hwr, hlt, bt hLS.bel hb5⟩
      · rw [hF.num j hj]
        have : valF C s.B n m j = Cov.xb m n s j := (valF_val (fun a ha b hb e => hLS.good.inv.inj ha hb e) j).trans (Cov.sm_congr (fun a ha => by show (if s.B a = j then C a n else 0) = if s.B a = j then s.T a n else 0; rw [hLS.rows a ha n (Nat.le_refl _)]))
        rw [this]
      · rw [hF.den j hj]
        have : valF C s.B n m j = Cov.xb m n s j := (valF_val (fun a ha b hb e => hLS.good.inv.inj ha hb e) j).trans (Cov.sm_congr (fun a ha => by show (if s.B a = j then C a n else 0) = if s.B a = j then s.T a n else 0; rw [hLS.rows a ha n (Nat.le_refl _)]))
        rw [this]
      · have := hLS.aims
        rw [HLN.out, List.take_length] at this
        exact this

end Go.Proofs.Ytnmcgbfhgmmcpaa

/-
  The cover's and the packing's numbers.
-/
namespace Go.Proofs.Ytnmcgbfhgmmcpaa
open Go.RowKit

def plN (p : Nat → Bool) (k : Nat) : List Nat := (List.range k).filter p
theorem plc_plN (p : Nat → Bool) (k : Nat) : plc p k = (plN p k).map Int.ofNat := rfl

def coverL (bag : List Int) (es : List (List Int)) : List (List Nat) := bag.map fun x => plN (fun i => decide (x ∈ es.getD i [])) es.length
def packL (bag : List Int) (es : List (List Int)) : List (List Nat) := es.map fun e => plN (fun i => decide (bag.getD i 0 ∈ e)) bag.length

theorem coverRows_L (bag : List Int) (es : List (List Int)) : coverRows bag es = (coverL bag es).map (fun l => l.map Int.ofNat) := by
  unfold coverRows coverL
  rw [List.map_map]; rfl
theorem packRows_L (bag : List Int) (es : List (List Int)) : packRows bag es = (packL bag es).map (fun l => l.map Int.ofNat) := by
  unfold packRows packL
  rw [List.map_map]; rfl

theorem pr_rows {W : World} {B pB : Nat} {u : Int} {bel : Bool} {vr : Value} {vs : List Value} {L : List (List Nat)} (h : PR W B pB u bel vr vs (L.map (fun l => l.map Int.ofNat))) : RowsAt W vr L := by
  have hown := h.own
  have hlen := h.len
  rw [List.length_map] at hown hlen
  rcases hown.2 with ⟨rfl, h2⟩ | ⟨g, cap, cur, rfl, hb', hc, hn, -, -, ht⟩
  · exact ⟨none, 0, by rw [h2], fun i hi => by omega⟩
  · refine ⟨_, cap, rfl, fun i hi => ⟨g, 0, vs.getD i undef, rfl, ?_, ?_⟩⟩
    · rw [cell_of_row _ _ _ _ _ _ hc, Nat.zero_add, ← Array.getElem?_toList]
      have : (cur.toList.take (L.length * 1))[i]? = vs[i]? := by rw [ht]
      rw [List.getElem?_take_of_lt (by omega)] at this
      rw [this, List.getD_eq_getElem?_getD, List.getElem?_eq_getElem (by omega)]
      rfl
    · have he := h.each i (by rw [List.length_map]; exact hi)
      have hg : (L.map (fun l => l.map Int.ofNat)).getD i [] = (L.getD i []).map Int.ofNat := by
        rw [List.getD_eq_getElem?_getD, List.getElem?_map, List.getD_eq_getElem?_getD, List.getElem?_eq_getElem hi]
        rfl
      rw [hg] at he
      obtain ⟨a, cp, e, hi2⟩ := own_is he
      rw [List.length_map] at e hi2
      refine ⟨a, cp, e, fun j hj => ?_⟩
      rcases hi2 with h0 | ⟨b, o, ea, hcell⟩
      · omega
      · refine ⟨b, o, ea, (hcell j hj).trans ?_⟩
        generalize L.getD i [] = q at hj ⊢
        rw [List.getD_eq_getElem?_getD, List.getElem?_map, List.getD_eq_getElem?_getD, List.getElem?_eq_getElem hj]
        rfl

/-- the best cover | packing -/
def CoverBest (m u : Nat) (M : Nat → Nat → Rat) (x : Nat → Rat) : Prop := Cov.Cover m u M x ∧ ∀ y, Cov.Cover m u M y → Cov.Lex (Cov.key 1 u x) (Cov.key 1 u y)
def PackBest (m u : Nat) (M : Nat → Nat → Rat) (x : Nat → Rat) : Prop := Cov.Pack m u M x ∧ ∀ y, Cov.Pack m u M y → Cov.Lex (Cov.key (-1) u x) (Cov.key (-1) u y)
/-- one small denominator for all -/
def Parts (u : Nat) (x : Nat → Rat) : Prop := ∃ D : Int, D ≠ 0 ∧ D.natAbs ≤ 5040 ∧ ∀ j, j < u → Cov.Whole 5040 (x j * ((D : Int) : Rat))

theorem parts_xb {m n : Nat} {A : Nat → Nat → Rat} {bar : Nat → Bool} {s : Cov.Sx} (h : Cov.Good m n A bar s) (hm : m ≤ 7) (hA : ∀ j, j ≤ n → ∀ r, r < m → Cov.Whole 1 (A j r)) (u : Nat) : Parts u (Cov.xb m n s) := by
  obtain ⟨D, h0, hD, hw⟩ := h.inv.small hA
  have hf := fac_le hm
  refine ⟨D, h0, by omega, fun j _ => ?_⟩
  by_cases hj : ∃ i, i < m ∧ s.B i = j
  · obtain ⟨i, hi, rfl⟩ := hj
    unfold Cov.xb
    rw [h.inv.val_basic _ hi]
    exact (hw i hi n (Nat.le_refl _)).mono hf
  · unfold Cov.xb
    rw [Cov.val_not (fun i hi e => hj ⟨i, hi, e⟩)]
    exact ⟨0, by simp, by simp⟩

theorem Parts.sm {u : Nat} {x : Nat → Rat} (h : Parts u x) {j : Nat} (hj : j < u) : Sm 5040 (x j) := by
  obtain ⟨D, h0, hD, hw⟩ := h
  exact sm_of_whole h0 hD (hw j hj) (Nat.le_refl _)

theorem Parts.sum {u : Nat} {x : Nat → Rat} (h : Parts u x) {k : Nat} (hk : k ≤ u) (hu : u ≤ 7) : Sm 36000 (Cov.sm k x) := by
  obtain ⟨D, h0, hD, hw⟩ := h
  refine sm_of_whole (D := D) (Z := k * 5040) h0 (by omega) ?_ ?_
  · have : Cov.sm k x * ((D : Int) : Rat) = Cov.sm k (fun j => x j * ((D : Int) : Rat)) := by
      rw [show (fun j => x j * ((D : Int) : Rat)) = (fun j => ((D : Int) : Rat) * x j) from funext fun j => by grind, Cov.sm_mul]; grind
    rw [this]
    exact Cov.whole_sm k (fun j hj => hw j (by omega))
  · have : k * 5040 ≤ 7 * 5040 := Nat.mul_le_mul (by omega) (Nat.le_refl _)
    omega

theorem inc_nonneg (L : List (List Nat)) (r e : Nat) : 0 ≤ inc L r e := by
  unfold inc
  split
  · decide
  · exact Rat.le_refl

set_option maxHeartbeats 1000000 in
theorem solve_cover (w : World) (u : Nat) (vr : Value) (L : List (List Nat)) (hu : u ≤ 7) (hL : L.length ≤ 6) (hr : RowsAt w vr L) (hlen : ∀ i, i < L.length → (L.getD i []).length ≤ 7) (hin : ∀ i, i < L.length → ∀ j ∈ L.getD i [], j < u)
    (hne : ∀ r, r < L.length → ∃ e, e < u ∧ inc L r e = 1) :
    Calls Try.prog 45 #[.agg #[.int .i64 u, vr, .bool true]] w fun e w' => ∃ g x, e = .returned (.slice (some ⟨g, 0, none⟩) u u) ∧ FrAt w' g u x ∧ CoverBest L.length u (inc L) x ∧ Parts u x ∧ w.heap.size ≤ g ∧ g < w'.heap.size ∧ Below w.heap.size w w' := by
  have hg := Cov.cover_good (m := L.length) (u := u) (M := inc L)
  have eB : (fun i => u + L.length + L.length - L.length + i) = fun i => u + L.length + i := funext fun i => by omega
  refine (leastSolution_calls w u (u + L.length + L.length) vr L true hu (by omega) (fun _ => hL) rfl (by omega) hr hlen hin (Cov.coverA L.length u (inc L)) (fun i hi j hj => startC_cover u L i j hi hj) (fun j _ r _ => whole_cover _ _ _ _ _) (by rw [eB]; exact hg)).mono ?_
  rintro e w' ⟨g, bar', s', rfl, hF, ha, hG, h1, h2, hb⟩
  rw [aimC_cover, eB] at ha
  obtain ⟨g1, g2, g3⟩ := Cov.cover_least (fun r _ e _ => inc_nonneg L r e) hne ha
  exact ⟨g, _, rfl, hF, ⟨g2, g3⟩, parts_xb hG (by omega) (fun j _ r _ => whole_cover _ _ _ _ _) u, h1, h2, hb⟩

set_option maxHeartbeats 1000000 in
theorem solve_pack (w : World) (u : Nat) (vr : Value) (L : List (List Nat)) (hu : u ≤ 6) (hL : L.length ≤ 7) (hr : RowsAt w vr L) (hlen : ∀ i, i < L.length → (L.getD i []).length ≤ 7) (hin : ∀ i, i < L.length → ∀ j ∈ L.getD i [], j < u)
    (hne : ∀ e, e < u → ∃ r, r < L.length ∧ inc L r e = 1) :
    Calls Try.prog 45 #[.agg #[.int .i64 u, vr, .bool false]] w fun e w' => ∃ g x, e = .returned (.slice (some ⟨g, 0, none⟩) u u) ∧ FrAt w' g u x ∧ PackBest L.length u (inc L) x ∧ Parts u x ∧ w.heap.size ≤ g ∧ g < w'.heap.size ∧ Below w.heap.size w w' := by
  have hg := Cov.pack_good (m := L.length) (u := u) (M := inc L)
  have eB : (fun i => u + L.length - L.length + i) = fun i => u + i := funext fun i => by omega
  refine (leastSolution_calls w u (u + L.length) vr L false (by omega) (by omega) (fun h => by cases h) rfl (by omega) hr hlen hin (Cov.packA L.length u (inc L)) (fun i hi j hj => startC_pack u L i j hi hj) (fun j _ r _ => whole_pack _ _ _ _ _) (by rw [eB]; exact hg)).mono ?_
  rintro e w' ⟨g, bar', s', rfl, hF, ha, hG, h1, h2, hb⟩
  rw [aimC_pack, eB] at ha
  obtain ⟨g1, g2, g3⟩ := Cov.pack_least (fun r _ e _ => inc_nonneg L r e) hne ha
  exact ⟨g, _, rfl, hF, ⟨g2, g3⟩, parts_xb hG (by omega) (fun j _ r _ => whole_pack _ _ _ _ _) u, h1, h2, hb⟩

/-- numbers as pairs -/
def prs (u : Nat) (x : Nat → Rat) : List (Int × Int) := (List.range u).map fun j => ((x j).num, ((x j).den : Int))
theorem prs_length (u : Nat) (x : Nat → Rat) : (prs u x).length = u := by simp [prs]
theorem prs_get {u : Nat} {x : Nat → Rat} {j : Nat} (h : j < u) : (prs u x).getD j (0, 0) = ((x j).num, ((x j).den : Int)) := by
  unfold prs
  rw [List.getD_eq_getElem?_getD, List.getElem?_map, List.getElem?_range h]
  rfl

theorem frAt_ir {w : World} {g u : Nat} {x : Nat → Rat} (h : FrAt w g u x) : IR w (.slice (some ⟨g, 0, none⟩) u u) (prs u x) := by
  refine ⟨_, u, by rw [prs_length], Or.inr ⟨g, 0, rfl, fun j hj => ?_⟩⟩
  rw [prs_length] at hj
  rw [prs_get hj, Nat.zero_add]
  exact ⟨h.num j hj, h.den j hj⟩

theorem rats_best (w : World) (v : Value) (u : Nat) (x : Nat → Rat) (hu : u ≤ 7) (h : IR w v (prs u x)) (hp : Parts u x) :
    Calls Try.prog 44 #[v] w fun e w' => ∃ v, e = .returned v ∧ w'.ownsRow w.heap.size 28 2 v (prs u x).length (rcs (prs u x)) ∧ Below w.heap.size w w' := by
  refine ratsOf_calls w v (prs u x) h (by rw [prs_length]; omega) (fun j hj => ?_)
  rw [prs_length] at hj
  rw [prs_get hj]
  have := hp.sm hj
  have h1 := this.1
  have h2 := this.2
  refine ⟨⟨?_, ?_⟩, ?_, ?_⟩ <;> simp only <;> omega

theorem okR_of {q : Rat} (h : Sm 1000000 q) : OkR q.num q.den := by
  have h1 := h.1
  have h2 := h.2
  have h3 := q.den_pos
  refine ⟨by omega, by omega, by omega, by omega, ?_⟩
  have := q.reduced
  unfold Nat.Coprime at this
  rw [Int.gcd, Int.natAbs_natCast]
  exact this

theorem addR (p q : Rat) (w : World) (hp : Sm 1000000 p) (hq : Sm 1000000 q) (hs : Sm 1000000 (p + q)) :
    Calls Try.prog 12 #[.agg #[.int .i64 p.num, .int .i64 p.den], .agg #[.int .i64 q.num, .int .i64 q.den]] w fun e w' => e = .returned (.agg #[.int .i64 (p + q).num, .int .i64 (p + q).den]) ∧ Below w.heap.size w w' := by
  have hne : (p.den : Int) * (q.den : Int) ≠ 0 := Int.mul_ne_zero (by have := p.den_nz; omega) (by have := q.den_nz; omega)
  have e : p + q = Rat.divInt (p.num * q.den + q.num * p.den) (p.den * q.den) := by
    rw [← Rat.divInt_add_divInt _ _ (by have := p.den_nz; omega) (by have := q.den_nz; omega), Rat.num_divInt_den, Rat.num_divInt_den]
  obtain ⟨f1, f2⟩ := fr_rat (p.num * q.den + q.num * p.den) (p.den * q.den) hne
  rw [← e] at f1 f2
  have := iAdd_yes p.num p.den q.num q.den w (okR_of hp) (okR_of hq) (by rw [f1, f2]; exact okR_of hs)
  rw [f1, f2] at this
  exact this

theorem sum_best (w : World) (v : Value) (u : Nat) (x : Nat → Rat) (hu : u ≤ 7) (h : IR w v (prs u x)) (hp : Parts u x) :
    Calls Try.prog 48 #[v] w fun e w' => e = .returned (.agg #[.int .i64 (Cov.sm u x).num, .int .i64 (Cov.sm u x).den]) ∧ Below w.heap.size w w' := by
  have := sumOf_calls w v (prs u x) h (by rw [prs_length]; omega) (fun k => ((Cov.sm k x).num, ((Cov.sm k x).den : Int))) rfl (fun k W hk => by
    rw [prs_length] at hk
    rw [prs_get hk]
    exact addR (Cov.sm k x) (x k) W ((hp.sum (by omega) hu).mono (by omega)) ((hp.sm hk).mono (by omega)) ((hp.sum (k := k + 1) (by omega) hu).mono (by omega)))
  rw [prs_length] at this
  exact this

end Go.Proofs.Ytnmcgbfhgmmcpaa
