import Derived.Laws.OwnMore
import Derived.Test.YtcdfoephhjacdaaGreatDoorR12
import Derived.Test.YtcdfoephhjacdaaGreatDoorR21
import Derived.Test.YtcdfoephhjacdaaGreatDoorR50
import Derived.Test.YtcdfoephhjacdaaGreatDoorR51
/-
  Lines that give a row again: what is read then. Plain mathematics.
-/
namespace Go.Proofs.YtcdfoephhjacdaaGreatDoor
open Go.RowKit

def setW (d : RelV) (k : Nat) (x : Int) : RelV := ⟨d.name, d.ar, d.rows, d.ws.set k x⟩
def stD (ds : List RelV) : List RdV := ds.map fun d => rdK d d.rows.length
theorem stD_range (ds : List RelV) : ((List.range ds.length).map fun i => rdK (ds.getD i noRel) (ds.getD i noRel).rows.length) = stD ds := by
  refine List.ext_getElem (by simp [stD]) fun i h1 h2 => ?_
  rw [List.length_map, List.length_range] at h1
  simp [stD, List.getD_eq_getElem?_getD, List.getElem?_eq_getElem h1]
theorem stD_get {ds : List RelV} {i : Nat} (h : i < ds.length) : (stD ds).getD i noRd = rdK (ds.getD i noRel) (ds.getD i noRel).rows.length := by
  unfold stD
  rw [List.getD_eq_getElem?_getD, List.getElem?_map, List.getElem?_eq_getElem h, List.getD_eq_getElem?_getD, List.getElem?_eq_getElem h]
  rfl
theorem set_getD {ds : List RelV} {i j : Nat} {d : RelV} (hi : i < ds.length) : (ds.set i d).getD j noRel = if i = j then d else ds.getD j noRel := by
  rw [List.getD_eq_getElem?_getD, List.getElem?_set]
  by_cases e : i = j
  · subst e; rw [if_pos rfl, if_pos hi, if_pos rfl]; rfl
  · rw [if_neg e, if_neg e, List.getD_eq_getElem?_getD]
theorem data_rg {ds : List RelV} (h : dataB ds = true) {i : Nat} (hi : i < ds.length) : relB (ds.getD i noRel) = true ∧ RG (ds.getD i noRel) ∧ namedB ds i (ds.getD i noRel).name = false := by
  unfold dataB at h
  simp only [Bool.and_eq_true, decide_eq_true_eq, List.all_eq_true, List.mem_range] at h
  have h1 := h.2 i hi
  unfold relAtB at h1
  rw [Bool.and_eq_true, Bool.not_eq_true'] at h1
  exact ⟨h1.1, rg_of h1.1, h1.2⟩
theorem setW_rel {d : RelV} (h : relB d = true) (k : Nat) {x : Int} (hx : -1000000 ≤ x ∧ x ≤ 1000000) : relB (setW d k x) = true := by
  unfold relB at h ⊢
  simp only [Bool.and_eq_true, decide_eq_true_eq, List.all_eq_true] at h ⊢
  obtain ⟨⟨⟨⟨⟨⟨h1, h2⟩, h3⟩, h4⟩, h5⟩, h6⟩, h7⟩ := h
  refine ⟨⟨⟨⟨⟨⟨h1, h2⟩, h3⟩, h4⟩, h5⟩, ?_⟩, fun y hy => ?_⟩
  · show (d.ws.set k x).length = _; rw [List.length_set]; exact h6
  · rcases List.mem_or_eq_of_mem_set hy with h8 | rfl
    · exact h7 y h8
    · unfold wtB; simp only [Bool.and_eq_true, decide_eq_true_eq]; omega
theorem setD_ok {ds : List RelV} (h : dataB ds = true) {i k : Nat} (hi : i < ds.length) {x : Int} (hx : -1000000 ≤ x ∧ x ≤ 1000000) : dataB (ds.set i (setW (ds.getD i noRel) k x)) = true := by
  have hl : ds.length ≤ 50 := by unfold dataB at h; simp only [Bool.and_eq_true, decide_eq_true_eq] at h; exact h.1
  have hnm : ∀ j, ((ds.set i (setW (ds.getD i noRel) k x)).getD j noRel).name = (ds.getD j noRel).name := fun j => by
    rw [set_getD hi]
    by_cases e : i = j
    · subst e; rw [if_pos rfl]; rfl
    · rw [if_neg e]
  refine dataB_true (by rw [List.length_set]; exact hl) fun j hj => ?_
  rw [List.length_set] at hj
  obtain ⟨h1, -, h3⟩ := data_rg h hj
  unfold relAtB
  rw [Bool.and_eq_true, Bool.not_eq_true']
  constructor
  · rw [set_getD hi]
    by_cases e : i = j
    · subst e; rw [if_pos rfl]; exact setW_rel h1 k hx
    · rw [if_neg e]; exact h1
  · unfold namedB at h3 ⊢
    rw [List.any_eq_false] at h3 ⊢
    intro m hm
    rw [hnm, hnm]
    exact h3 m hm
/-- a line's fields: as wt1 finds them -/
theorem RG.parts {d : RelV} (h : RG d) {k : Nat} (hk : k < d.rows.length) : mute (lnF (flW d k)) = false ∧ nmL d ≠ [114, 101, 108] ∧ nameB d.name = true ∧ tupF ((flW d k).drop 1) d.ar.toNat = t3 (d.rows.getD k []) ∧ wtF (((flW d k).drop 1).getD d.ar.toNat []) = d.ws.getD k 0 ∧ ∀ rs : List (T3 × Int), t3 (d.rows.getD k []) ∈ rs.map Prod.fst → stoA d.ar.toNat rs ((flW d k).drop 1) = true := by
  have hnm : nameB d.name = true := by have := h.nm; unfold relName at this; rw [Bool.and_eq_true] at this; exact this.1
  have hne : nmL d ≠ [114, 101, 108] := by
    have := h.nm
    unfold relName at this
    rw [Bool.and_eq_true, Bool.not_eq_true'] at this
    intro e
    have h2 := this.2
    rw [ByteArray.toList_eq] at h2
    rw [show d.name.data.toList = nmL d from rfl, e] at h2
    exact absurd h2 (by decide)
  have hm : mute (lnF (flW d k)) = false := by
    have hlen : (nmL d).length = d.name.size := by unfold nmL; simp
    have hnb := hnm
    unfold nameB at hnb
    simp only [Bool.and_eq_true, decide_eq_true_eq, List.all_eq_true, List.mem_range] at hnb
    cases e : nmL d with
    | nil => rw [e] at hlen; simp at hlen; omega
    | cons c t =>
      obtain ⟨t', e2⟩ := join_head (nmL d) ((d.rows.getD k []).map Lib.itoa ++ [Lib.itoa (d.ws.getD k 0)]) c t e
      unfold mute lnF flW
      rw [e2]
      have hc : c ≠ 35 := fun e3 => by
        have h1 := hnb.1.2
        unfold byteAt at h1
        rw [show d.name.data.toList = nmL d from rfl, e, e3] at h1
        have h2 : letterB 35 = true := h1
        exact absurd h2 (by decide)
      simp [hc]
  have harl : (d.rows.getD k []).length = d.ar.toNat := by have := h.len k hk; omega
  have h1a := h.a1
  have h3a := h.a3
  have hval := h.val k hk
  obtain ⟨f1, f2, f3⟩ := flW_at harl
  have hgx : ∀ j, j < d.ar.toNat → 0 ≤ (d.rows.getD k []).getD j 0 ∧ (d.rows.getD k []).getD j 0 ≤ 1000000 := fun j hj => by
    exact hval _ (getD_memF (by omega))
  have hokj : ∀ j, j < d.ar.toNat → okF (((flW d k).drop 1).getD j []) = true ∧ (numF (((flW d k).drop 1).getD j []) : Int) = (d.rows.getD k []).getD j 0 := fun j hj => by
    rw [f2 j hj]
    have hx := hgx j hj
    obtain ⟨m, hm'⟩ : ∃ m : Nat, (d.rows.getD k []).getD j 0 = (m : Int) := ⟨((d.rows.getD k []).getD j 0).toNat, by omega⟩
    rw [hm']
    obtain ⟨g1, g2⟩ := nat_num (n := m) (most := 1000000) (by omega)
    unfold okF numF
    exact ⟨g1, by rw [g2]⟩
  have hvF : ∀ j, valF ((flW d k).drop 1) d.ar.toNat j = cl ((d.rows.getD k []).getD j 0) := fun j => by
    unfold valF
    by_cases hj : j < d.ar.toNat
    · rw [if_pos hj, (hokj j hj).2, cl_same (hgx j hj)]
    · rw [if_neg hj, List.getD_eq_getElem?_getD, List.getElem?_eq_none (by omega)]; rfl
  have htup : tupF ((flW d k).drop 1) d.ar.toNat = t3 (d.rows.getD k []) := T3.ext3 (hvF 0) (hvF 1) (hvF 2)
  obtain ⟨w1, w2⟩ := wt_num (h.wt k hk).1 (h.wt k hk).2
  refine ⟨hm, hne, hnm, htup, by rw [f3, w2], fun rs hrs => ?_⟩
  unfold stoA
  have hall : (List.range d.ar.toNat).all (fun j => okF (((flW d k).drop 1).getD j [])) = true := by rw [List.all_eq_true]; exact fun j hj => (hokj j (List.mem_range.1 hj)).1
  rw [f1, f3, w1, hall, htup, decide_eq_true hrs]
  simp
theorem again_line {ds : List RelV} (h : dataB ds = true) {i k : Nat} (hi : i < ds.length) (hk : k < (ds.getD i noRel).rows.length) {x : Int} (hx : -1000000 ≤ x ∧ x ≤ 1000000) :
    takA (stD ds) (lnF (flW (setW (ds.getD i noRel) k x) k)) = some (stD (ds.set i (setW (ds.getD i noRel) k x))) := by
  obtain ⟨h1, hG, h3⟩ := data_rg h hi
  have hG' := rg_of (setW_rel h1 k hx)
  obtain ⟨p1, p2, p3, p4, p5, p6⟩ := hG'.parts (k := k) hk
  have hnms : (stD ds).map RdV.nm = ds.map RelV.name := by unfold stD; rw [List.map_map]; rfl
  have hget : ∀ j (hj : j < ds.length), ds[j] = ds.getD j noRel := fun j hj => by rw [List.getD_eq_getElem?_getD, List.getElem?_eq_getElem hj]; rfl
  have hgn : ∀ j (hj : j < (ds.map RelV.name).length), (ds.map RelV.name)[j] = (ds.getD j noRel).name := fun j hj => by
    rw [List.getElem_map, hget]
  have hp : plcP ((stD ds).map RdV.nm) (ds.getD i noRel).name = i := by
    unfold plcP
    rw [hnms, List.findIdx_eq (by rw [List.length_map]; exact hi)]
    refine ⟨by rw [hgn]; simp, fun j hj => ?_⟩
    rw [hgn, beq_txP, decide_eq_false_iff_not]
    unfold namedB at h3
    rw [List.any_eq_false] at h3
    have := h3 j (List.mem_range.2 hj)
    rw [decide_eq_true_eq] at this
    exact this
  have hh : hasP ((stD ds).map RdV.nm) (ds.getD i noRel).name = true := by
    unfold hasP
    rw [hnms, List.any_eq_true]
    exact ⟨(ds.getD i noRel).name, List.mem_map.2 ⟨ds.getD i noRel, by rw [← hget i hi]; exact List.getElem_mem hi, rfl⟩, by simp⟩
  have hmem : t3 ((ds.getD i noRel).rows.getD k []) ∈ (rdK (ds.getD i noRel) (ds.getD i noRel).rows.length).rs.map Prod.fst := by
    unfold rdK
    rw [List.map_map]
    exact List.mem_map.2 ⟨k, List.mem_range.2 hk, rfl⟩
  unfold takA
  rw [if_neg (by rw [p1]; decide)]
  dsimp only
  rw [flW_spl p3]
  have e1 : (flW (setW (ds.getD i noRel) k x) k).getD 0 [] = nmL (setW (ds.getD i noRel) k x) := rfl
  rw [e1, if_neg p2, nm_mk]
  rw [show (setW (ds.getD i noRel) k x).name = (ds.getD i noRel).name from rfl, hp, hh, Bool.true_and, stD_get hi, if_pos (show stoA (rdK (ds.getD i noRel) (ds.getD i noRel).rows.length).ar (rdK (ds.getD i noRel) (ds.getD i noRel).rows.length).rs ((flW (setW (ds.getD i noRel) k x) k).drop 1) = true from p6 _ hmem)]
  congr 1
  have hu : updT (rdK (ds.getD i noRel) (ds.getD i noRel).rows.length).rs (tupF ((flW (setW (ds.getD i noRel) k x) k).drop 1) (ds.getD i noRel).ar.toNat) (wtF (((flW (setW (ds.getD i noRel) k x) k).drop 1).getD (ds.getD i noRel).ar.toNat [])) = (rdK (setW (ds.getD i noRel) k x) (ds.getD i noRel).rows.length).rs := by
    have p4' : tupF ((flW (setW (ds.getD i noRel) k x) k).drop 1) (ds.getD i noRel).ar.toNat = t3 ((ds.getD i noRel).rows.getD k []) := p4
    have p5' : wtF (((flW (setW (ds.getD i noRel) k x) k).drop 1).getD (ds.getD i noRel).ar.toNat []) = x := by
      have hw := hG.ws
      refine p5.trans ?_
      show ((ds.getD i noRel).ws.set k x).getD k 0 = x
      rw [List.getD_eq_getElem?_getD, List.getElem?_set_self (by omega)]; rfl
    rw [p4', p5']
    unfold updT
    rw [if_pos hmem]
    unfold rdK
    rw [List.map_map]
    refine List.map_congr_left fun j hj => ?_
    have hj' := List.mem_range.1 hj
    show (if t3 ((ds.getD i noRel).rows.getD j []) = t3 ((ds.getD i noRel).rows.getD k []) then _ else _) = (t3 ((ds.getD i noRel).rows.getD j []), ((ds.getD i noRel).ws.set k x).getD j 0)
    by_cases e : j = k
    · subst e
      rw [if_pos rfl, List.getD_eq_getElem?_getD (l := (ds.getD i noRel).ws.set j x), List.getElem?_set_self (by rw [hG.ws]; exact hj')]; rfl
    · rw [if_neg fun e2 => e (hG.inj hj' hk e2)]
      show (t3 ((ds.getD i noRel).rows.getD j []), (ds.getD i noRel).ws.getD j 0) = _
      rw [List.getD_eq_getElem?_getD (l := (ds.getD i noRel).ws.set k x), List.getElem?_set_ne (Ne.symm e), ← List.getD_eq_getElem?_getD]
  refine List.ext_getElem (by simp [stD]) fun j g1 g2 => ?_
  rw [List.length_set] at g1
  have g1' : j < ds.length := by simpa [stD] using g1
  rw [List.getElem_set]
  by_cases e : i = j
  · subst e
    rw [if_pos rfl]
    show RdV.mk _ _ (updT (rdK (ds.getD i noRel) (ds.getD i noRel).rows.length).rs (tupF ((flW (setW (ds.getD i noRel) k x) k).drop 1) (ds.getD i noRel).ar.toNat) (wtF (((flW (setW (ds.getD i noRel) k x) k).drop 1).getD (ds.getD i noRel).ar.toNat []))) = _
    rw [hu]
    simp [stD]
    rfl
  · rw [if_neg e]
    simp [stD, e]
theorem dsof_data {ds : List RelV} (h : dataB ds = true) : DsOf (stD ds) ds ∧ ∀ i, i < (stD ds).length → (((stD ds).getD i noRd).rs.map Prod.fst).Nodup := by
  obtain ⟨st, h1, h2, h3⟩ := data_round h
  have e : st = stD ds := by
    rw [data_lines h, prT_rdL _ _ (Nat.le_refl _), List.take_length, rdL_app, data_read h _ (Nat.le_refl _)] at h1
    rw [← stD_range]
    exact (Option.some.inj h1).symm
  subst e
  exact ⟨h2, h3⟩
/-- the whole text: what is printed, and lines behind it -/
theorem again_text {d0 ds : List RelV} (h0 : dataB d0 = true) {ls : List (List UInt8)} (hf : ∀ l ∈ ls, Fre 10 l) (hr : rdL (stD d0) ls = some (stD ds)) :
    prT (spl 10 (datT d0 d0.length ++ txtL ls)) (spl 10 (datT d0 d0.length ++ txtL ls)).length = some (stD ds) := by
  have hGR : ∀ j, j < d0.length → GR (d0.getD j noRel) := (gr_of h0).2
  have e : spl 10 (datT d0 d0.length ++ txtL ls) = (lnsD d0 d0.length ++ ls) ++ [[]] := by
    rw [datT_is hGR _ (Nat.le_refl _), ← txtL_app]
    exact spl_txtL fun l hl => by
      rw [List.mem_append] at hl
      rcases hl with hl | hl
      · exact lnsD_free (names_of h0) _ (Nat.le_refl _) l hl
      · exact hf l hl
  rw [e, prT_rdL _ _ (Nat.le_refl _), List.take_length, rdL_app, rdL_app, data_read h0 _ (Nat.le_refl _), stD_range]
  show ((rdL (stD d0) ls).bind fun st' => rdL st' [[]]) = _
  rw [hr]
  rfl

end Go.Proofs.YtcdfoephhjacdaaGreatDoor

/-
  laws: hDec, hPick.
-/
namespace Go.Proofs.YtcdfoephhjacdaaGreatDoor
open Go.RowKit

set_option maxHeartbeats 400000 in
set_option maxRecDepth 1000000 in
theorem hDecN_calls : ∀ (k n : Nat) (w : World), n ≤ k → n ≤ 1000000000 → Calls Tryz.prog 13 #[.int .i64 (n : Int)] w fun e w' => e = .returned (.string ⟨(Lib.decDigits n).toArray⟩) ∧ ∃ d, w' = w.drewN d := by
  intro k
  induction k with
  | zero =>
    intro n w hn hb
    obtain rfl : n = 0 := by omega
    rw [Lib.decDigits, dif_pos (by omega)]
    go_enter Tryz.func13, Tryz.ntmps13
    go_wp2
    go_ret
    exact ⟨rfl, 0, rfl⟩
  | succ k ih =>
    intro n w hn hb
    by_cases h10 : n < 10
    · rw [Lib.decDigits, dif_pos h10]
      have i1 : ¬ ((n : Int) < 0) := by omega
      have i2 : (n : Int) < 10 := by omega
      go_enter Tryz.func13, Tryz.ntmps13
      go_wp2
      go_ret
      rw [dig_at n h10]
      exact ⟨by simp, 0, rfl⟩
    · rw [Lib.decDigits, dif_neg h10]
      have i1 : ¬ ((n : Int) < 0) := by omega
      have i2 : ¬ ((n : Int) < 10) := by omega
      have KR : Hid (∀ W, Calls Tryz.prog 13 #[.int .i64 ((n : Int) / 10)] W fun e w' => e = .returned (.string ⟨(Lib.decDigits (n / 10)).toArray⟩) ∧ ∃ q, w' = W.drewN q) := hid fun W => by rw [show (n : Int) / 10 = ((n / 10 : Nat) : Int) by omega]; exact ih (n / 10) _ (by omega) (by omega)
      have hd : (⟨#[48, 49, 50, 51, 52, 53, 54, 55, 56, 57]⟩ : ByteArray).extract (n % 10) (n % 10 + 1) = ⟨#[UInt8.ofNat (48 + n % 10)]⟩ := dig_at (n % 10) (by omega)
      have HD := hid hd
      have e1 : (n : Int) / 10 = ((n / 10 : Nat) : Int) := by omega
      have hw1 : IntKind.i64.wrap ((n : Int) / 10) = (n : Int) / 10 := by rw [e1]; exact wrap_small2 _ (by omega)
      obtain ⟨r, hr⟩ : ∃ r, r = n % 10 := ⟨_, rfl⟩
      have hm : (n : Int).tmod 10 = (r : Int) := by rw [Int.tmod_eq_emod_of_nonneg (by omega)]; omega
      have hr10 : r < 10 := by omega
      have hw3 : IntKind.i64.wrap ((r : Int) + 1) = (r : Int) + 1 := wrap_small2 (r + 1) (by omega)
      rw [← hr] at HD ⊢
      clear hd ih e1 hr
      have hdl := digs_len (n / 10) (n / 10) (Nat.le_refl _)
      generalize Lib.decDigits (n / 10) = ds at *
      have hcc : ¬ (9223372036854775807 < ds.length + (min (r + 1) 10 - r)) := by omega
      clear hdl
      go_enter Tryz.func13, Tryz.ntmps13
      go_upto_region 7 with fail
      have i3 : (r : Int) ≤ (r : Int) + 1 := by omega
      have i4 : (r : Int) + 1 ≤ 10 := by omega
      have i5 : ¬ ((r : Int) < 0) := by omega
      have i6 : (0 : Int) ≤ (r : Int) := by omega
      go_region_law (first | (go_simp; go_at_call 13; (with_reducible refine (KR.out _).mono ?_); rintro e w2 ⟨rfl, d2, rfl⟩) | fail)
      all_goals
        go_wp2
        go_ret
        rw [HD.out]
        refine ⟨?_, _, rfl⟩
        show Ending.returned (.string ((⟨ds.toArray⟩ : ByteArray) ++ ⟨[UInt8.ofNat (48 + r)].toArray⟩)) = _
        rw [cat_bytes]
        simp

set_option maxHeartbeats 400000 in
theorem hDec_calls (n : Int) (w : World) (h0 : -1000000000 ≤ n) (h1 : n ≤ 1000000000) : Calls Tryz.prog 13 #[.int .i64 n] w fun e w' => e = .returned (.string ⟨(Lib.itoa n).toArray⟩) ∧ ∃ d, w' = w.drewN d := by
  unfold Lib.itoa
  by_cases h : n < 0
  · rw [if_pos h]
    have KD : Hid (Calls Tryz.prog 13 #[.int .i64 (-n)] w fun e w' => e = .returned (.string ⟨(Lib.decDigits n.natAbs).toArray⟩) ∧ ∃ d, w' = w.drewN d) := hid (by
      rw [show -n = ((n.natAbs : Nat) : Int) by omega]
      exact hDecN_calls _ _ w (Nat.le_refl _) (by omega))
    have hl := digs_len _ n.natAbs (Nat.le_refl _)
    have i0 : ¬ (n = -9223372036854775808) := by omega
    have i3 : (n == -9223372036854775808) = false := by simp; omega
    generalize Lib.decDigits n.natAbs = ds at *
    have hcc : ¬ (9223372036854775807 < 1 + ds.length) := by omega
    go_enter Tryz.func13, Tryz.ntmps13
    go_wp2_with fail
    refine KD.out.mono ?_
    rintro e w2 ⟨rfl, d, rfl⟩
    go_wp2_with fail
    go_ret
    refine ⟨?_, _, rfl⟩
    show Ending.returned (.string ((⟨[45].toArray⟩ : ByteArray) ++ ⟨ds.toArray⟩)) = _
    rw [cat_bytes]
    rfl
  · rw [if_neg h]
    have := hDecN_calls _ n.toNat w (Nat.le_refl _) (by omega)
    rw [show ((n.toNat : Nat) : Int) = n by omega] at this
    exact this

set_option maxHeartbeats 1000000 in
set_option maxRecDepth 100000 in
theorem hPick_calls (W : World) (a : Option Addr) (m cap : Nat) (L : Nat → Int) (i n : Nat) (h : Cod W a L m) (hm : m ≤ 1048576) (hi : i ≤ 1000) (hn : n ≤ 100000) :
    Calls Tryz.prog 12 #[.slice a m cap, .int .i64 (i : Int), .int .i64 (n : Int)] W fun e w' => ∃ z : Nat, e = .returned (.int .i64 (z : Int)) ∧ w' = W ∧ (0 < n → z < n) ∧ z ≤ 100000 := by
  by_cases h0 : m = 0
  · have q0 : ((m : Int) == 0) = true := by simp; omega
    clear h0
    go_enter Tryz.func12, Tryz.ntmps12
    go_wp2
    go_ret
    exact ⟨0, rfl, rfl, fun h => h, by omega⟩
  · have q0 : ((m : Int) == 0) = false := by simp; omega
    by_cases h1 : n ≤ 1
    · have q1 : (n : Int) ≤ 1 := by omega
      go_enter Tryz.func12, Tryz.ntmps12
      go_wp2
      go_ret
      exact ⟨0, rfl, rfl, fun h => h, by omega⟩
    · have q1 : ¬ (n : Int) ≤ 1 := by omega
      obtain ⟨r, hr⟩ : ∃ r, r = i % m := ⟨_, rfl⟩
      have hrm : r < m := by rw [hr]; exact Nat.mod_lt _ (by omega)
      have hre : (i : Int) % (m : Int) = (r : Int) := by rw [hr]; simp
      have hrt : (i : Int).tmod (m : Int) = (r : Int) := by rw [Int.tmod_eq_emod_of_nonneg (by omega)]; exact hre
      obtain ⟨b, o, rfl, hc, x0, x1⟩ := h r hrm
      obtain ⟨x, hx⟩ : ∃ x : Nat, L r = (x : Int) := ⟨(L r).toNat, by omega⟩
      rw [hx] at hc x0 x1
      obtain ⟨z, hz⟩ : ∃ z, z = x % n := ⟨_, rfl⟩
      have hze : (x : Int) % (n : Int) = (z : Int) := by rw [hz]; simp
      have hzt : (x : Int).tmod (n : Int) = (z : Int) := by rw [Int.tmod_eq_emod_of_nonneg (by omega)]; exact hze
      have hzn : z < n := by rw [hz]; exact Nat.mod_lt _ (by omega)
      have r1 : (r : Int) < (m : Int) := by omega
      have m0 : ¬ (m : Int) = 0 := by omega
      have n0 : ¬ (n : Int) = 0 := by omega
      clear hr hx hz h
      go_enter Tryz.func12, Tryz.ntmps12
      go_wp2
      go_ret
      exact ⟨z, by first | rfl | simp [hze, hzt], rfl, fun _ => hzn, by omega⟩

end Go.Proofs.YtcdfoephhjacdaaGreatDoor

/-
  Data with a weight stored anew; a line's text.
-/
namespace Go.Proofs.YtcdfoephhjacdaaGreatDoor
open Go.RowKit

theorem setW_same {ds : List RelV} {i k : Nat} {x : Int} (hi : i < ds.length) (j : Nat) : ((ds.set i (setW (ds.getD i noRel) k x)).getD j noRel).name = (ds.getD j noRel).name ∧ ((ds.set i (setW (ds.getD i noRel) k x)).getD j noRel).ar = (ds.getD j noRel).ar ∧ ((ds.set i (setW (ds.getD i noRel) k x)).getD j noRel).rows = (ds.getD j noRel).rows ∧ ((ds.set i (setW (ds.getD i noRel) k x)).getD j noRel).ws.length = (ds.getD j noRel).ws.length := by
  rw [set_getD hi]
  by_cases e : i = j
  · subst e; rw [if_pos rfl]; exact ⟨rfl, rfl, rfl, by show (List.set _ _ _).length = _; rw [List.length_set]⟩
  · rw [if_neg e]; exact ⟨rfl, rfl, rfl, rfl⟩
theorem SQ.setw {W : World} {B : Nat} {v : Value} {ds : List RelV} {vr vw : Nat → Value} {us : Nat → List Value} (h : SQ W B v ds vr vw us) (ha : ApD ds.length vw us) {i k : Nat} (hi : i < ds.length) (hk : k < (ds.getD i noRel).ws.length) (x : Int) :
    ∃ g c, vw i = .slice (some ⟨g, 0, none⟩) (ds.getD i noRel).ws.length c ∧ (∃ y, W.cell? ⟨g, k, none⟩ = some (.int .i64 y)) ∧ W.frozen? ⟨g, k, none⟩ = false ∧ B ≤ g ∧ (∃ cur, W.heap[g]? = some (.cells cur 3 (0, 0))) ∧ SQ (W.setCell ⟨g, k, none⟩ (.int .i64 x)) B v (ds.set i (setW (ds.getD i noRel) k x)) vr vw us := by
  obtain ⟨g, c, e, -, -⟩ := (h.ow i hi).form (by omega)
  have ho := h.ow i hi
  rw [e] at ho
  have hob : (vw i).ownBlock = some g := by rw [e]; rfl
  obtain ⟨cur, hcur⟩ := own_typ ho (show (Value.slice (some ⟨g, 0, none⟩) (ds.getD i noRel).ws.length c).ownBlock = some g from rfl)
  refine ⟨g, c, e, ⟨(ds.getD i noRel).ws.getD k 0, ?_⟩, ho.frozenAt k, (ho.lt g rfl).1, ⟨cur, hcur⟩, ?_⟩
  · have e9 : ∀ l : List Int, k < l.length → l[k]? = some (l.getD k 0) := fun l hl => by rw [List.getD_eq_getElem?_getD, List.getElem?_eq_getElem hl]; rfl
    rw [ho.cellAt k (by omega), List.getElem?_map, e9 _ hk]
    rfl
  · refine ⟨?_, fun j hj => ?_, fun j hj => ?_, fun j hj => ?_, fun j hj he => ?_⟩
    · rw [List.length_set]
      have e2 : ((List.range ds.length).flatMap fun j => relS ((ds.set i (setW (ds.getD i noRel) k x)).getD j noRel) (vr j) (vw j)) = (List.range ds.length).flatMap fun j => relS (ds.getD j noRel) (vr j) (vw j) := by
        rw [List.flatMap_def, List.flatMap_def]
        congr 1
        refine List.map_congr_left fun j _ => ?_
        obtain ⟨n1, n2, -, -⟩ := setW_same (k := k) (x := x) hi j
        unfold relS
        rw [n1, n2]
      rw [e2]
      exact own_setT h.own hcur (by decide)
    · rw [List.length_set] at hj
      rw [(setW_same (k := k) (x := x) hi j).2.2.1]
      have hr := h.rw j hj
      refine ⟨own_setT hr.own hcur (by decide), hr.len, fun m hm => ?_⟩
      refine own_move (hr.each m hm) fun b hb => Below.heap_setCell _ _ _ _ fun e3 => ?_
      have e4 : b = g := e3
      subst e4
      have hmem : (us j).getD m undef ∈ us j := by
        rw [List.getD_eq_getElem?_getD, List.getElem?_eq_getElem (by have := hr.len; omega)]
        exact List.getElem_mem _
      exact ha.rw j hj i hi _ hmem b hb hob
    · rw [List.length_set] at hj
      rw [set_getD hi]
      by_cases e5 : i = j
      · subst e5
        rw [if_pos rfl, e]
        show World.ownsRow _ B 3 1 _ ((ds.getD i noRel).ws.set k x).length (((ds.getD i noRel).ws.set k x).map (Value.int .i64))
        rw [List.length_set, List.map_set]
        exact (ho.stored k _).1
      · rw [if_neg e5]
        refine own_move (h.ow j hj) fun b hb => Below.heap_setCell _ _ _ _ fun e3 => ?_
        have e4 : b = g := e3
        subst e4
        exact ha.ww i hi j hj e5 b hob hb
    · rw [List.length_set] at hj
      obtain ⟨-, -, n3, n4⟩ := setW_same (k := k) (x := x) hi j
      rw [n3, n4]
      exact h.eq j hj
    · rw [List.length_set] at hj
      rw [(setW_same (k := k) (x := x) hi j).2.2.1] at he
      exact h.nil j hj he
/-- the fields behind a blank -/
def blk (l : List Int) : List UInt8 := l.flatMap fun v => 32 :: Lib.itoa v
theorem blk_snoc (l : List Int) (v : Int) : blk (l ++ [v]) = blk l ++ 32 :: Lib.itoa v := by unfold blk; rw [List.flatMap_append]; simp
theorem line_blk (d : RelV) (k : Nat) : lnF (flW d k) = nmL d ++ blk (d.rows.getD k []) ++ 32 :: Lib.itoa (d.ws.getD k 0) := by
  unfold lnF flW
  have e : ∀ (a : List UInt8) (l : List (List UInt8)), Lib.join (a :: l) [32] = a ++ l.flatMap fun f => 32 :: f := fun a l => by
    induction l generalizing a with
    | nil => rw [Lib.join_one]; simp
    | cons b l ih =>
      have h1 : Lib.join (a :: b :: l) [32] = a ++ [32] ++ Lib.join (b :: l) [32] := by rw [Lib.join_cons, Lib.join_cons]; simp [Lib.joinTail]
      rw [h1, ih b]
      simp
  rw [e, List.flatMap_append, List.flatMap_cons, List.flatMap_nil, List.append_nil]
  unfold blk
  rw [List.flatMap_map, List.append_assoc]
/-- what the loop has come to: text, data wanted -/
structure AgS (d0 ds : List RelV) (T : List UInt8) (m : Nat) : Prop where
  txt : ∃ ls, T = datT d0 d0.length ++ txtL ls ∧ rdL (stD d0) ls = some (stD ds) ∧ ∀ l ∈ ls, Fre 10 l
  ok : dataB ds = true
  len : ds.length = d0.length
  same : ∀ j, (ds.getD j noRel).name = (d0.getD j noRel).name ∧ (ds.getD j noRel).ar = (d0.getD j noRel).ar ∧ (ds.getD j noRel).rows = (d0.getD j noRel).rows
  short : T.length ≤ 6000 + m * 200
theorem AgS.start {d0 : List RelV} (h : dataB d0 = true) (hs : (datT d0 d0.length).length ≤ 6000) : AgS d0 d0 (datT d0 d0.length) 0 :=
  ⟨⟨[], by simp [txtL], rfl, fun l hl => by simp at hl⟩, h, rfl, fun _ => ⟨rfl, rfl, rfl⟩, by omega⟩
theorem itoa_sml (x : Int) (h0 : -1000000 ≤ x) (h1 : x ≤ 1000000) : (Lib.itoa x).length ≤ 21 := by have := itoa_small h0 h1; omega
theorem AgS.step {d0 ds : List RelV} {T : List UInt8} {m i k : Nat} {x : Int} (h : AgS d0 ds T m) (hi : i < ds.length) (hk : k < (ds.getD i noRel).rows.length) (hx : -1000000 ≤ x ∧ x ≤ 1000000) :
    AgS d0 (ds.set i (setW (ds.getD i noRel) k x)) (T ++ (nmL (ds.getD i noRel) ++ blk ((ds.getD i noRel).rows.getD k []) ++ 32 :: Lib.itoa x ++ [10])) (m + 1) := by
  obtain ⟨h1, hG, -⟩ := data_rg h.ok hi
  have hw : ((setW (ds.getD i noRel) k x).ws.getD k 0) = x := by
    show ((ds.getD i noRel).ws.set k x).getD k 0 = x
    rw [List.getD_eq_getElem?_getD, List.getElem?_set_self (by rw [hG.ws]; exact hk)]; rfl
  have hl : lnF (flW (setW (ds.getD i noRel) k x) k) = nmL (ds.getD i noRel) ++ blk ((ds.getD i noRel).rows.getD k []) ++ 32 :: Lib.itoa x := by
    rw [line_blk, hw]; rfl
  have hnm : nameB (ds.getD i noRel).name = true := by have := hG.nm; unfold relName at this; rw [Bool.and_eq_true] at this; exact this.1
  obtain ⟨ls, hT, hr, hf⟩ := h.txt
  refine ⟨⟨ls ++ [lnF (flW (setW (ds.getD i noRel) k x) k)], ?_, ?_, fun l hl2 => ?_⟩, setD_ok h.ok hi hx, by rw [List.length_set]; exact h.len, fun j => ?_, ?_⟩
  · rw [hT, txtL_app, hl]
    simp [txtL]
  · rw [rdL_app, hr]
    show rdL (stD ds) [lnF (flW (setW (ds.getD i noRel) k x) k)] = _
    show (takA (stD ds) (lnF (flW (setW (ds.getD i noRel) k x) k))).bind (fun st' => rdL st' []) = _
    rw [again_line h.ok hi hk hx]
    rfl
  · rw [List.mem_append, List.mem_singleton] at hl2
    rcases hl2 with hl2 | rfl
    · exact hf l hl2
    · exact Fre.join (by decide) _ (flW_free (r := setW (ds.getD i noRel) k x) hnm k (Or.inl rfl))
  · obtain ⟨n1, n2, n3, -⟩ := setW_same (k := k) (x := x) hi j
    obtain ⟨m1, m2, m3⟩ := h.same j
    exact ⟨n1.trans m1, n2.trans m2, n3.trans m3⟩
  · have hgr := (gr_of h.ok).2 i hi
    have h2 := itoa_sml x hx.1 hx.2
    have h3 : (blk ((ds.getD i noRel).rows.getD k [])).length ≤ 3 * 22 := by
      obtain ⟨r1, -, r3⟩ := hgr.row k hk
      have hb : ∀ l : List Int, (∀ y ∈ l, 0 ≤ y ∧ y ≤ 1000000) → (blk l).length ≤ l.length * 22 := fun l => by
        induction l with
        | nil => intro _; simp [blk]
        | cons a l ih =>
          intro hy
          have := ih fun y hy' => hy y (List.mem_cons_of_mem _ hy')
          have h9 := itoa_sml a (by have := hy a List.mem_cons_self; omega) (by have := hy a List.mem_cons_self; omega)
          unfold blk at this ⊢
          rw [List.flatMap_cons, List.length_append, List.length_cons, List.length_cons]
          omega
      have := hb _ r3
      omega
    have := hgr.nm
    have := h.short
    simp only [List.length_append, List.length_cons, List.length_nil]
    omega

end Go.Proofs.YtcdfoephhjacdaaGreatDoor
