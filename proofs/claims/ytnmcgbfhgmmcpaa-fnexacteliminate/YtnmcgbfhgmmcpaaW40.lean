import Derived.Deep.Cut
import Derived.Test.YtnmcgbfhgmmcpaaW07
import Derived.Test.YtnmcgbfhgmmcpaaW36
/-
  impl.topsOf, impl.allHangTogether, impl.isHome, impl.areHomes.
-/
namespace Go.Proofs.Ytnmcgbfhgmmcpaa
open Go.RowKit

def topAt (v : Int) (bs : List (List Int)) (ps : List Int) (i : Nat) : Bool := decide (v ∈ bs.getD i []) && !(decide (0 ≤ ps.getD i 0) && decide (v ∈ bs.getD (ps.getD i 0).toNat []))
def topsN (v : Int) (bs : List (List Int)) (ps : List Int) : Nat → Nat
  | 0 => 0
  | n + 1 => topsN v bs ps n + if topAt v bs ps n then 1 else 0
def togB (k : Int) (bs : List (List Int)) (ps : List Int) : Bool := (List.range k.toNat).all fun v => decide (topsN (v : Int) bs ps bs.length = 1)
def homeB (h : Int) (e : List Int) (bs : List (List Int)) : Bool := if e.length = 0 then decide (h = -1) else decide (0 ≤ h) && decide (h < (bs.length : Int)) && e.all fun x => decide (x ∈ bs.getD h.toNat [])
def homesB (hs : List Int) (es bs : List (List Int)) : Bool := decide (hs.length = es.length) && (List.range es.length).all fun i => homeB (hs.getD i 0) (es.getD i []) bs

theorem topsN_le (v : Int) (bs : List (List Int)) (ps : List Int) : ∀ n, topsN v bs ps n ≤ n
  | 0 => Nat.le_refl _
  | n + 1 => by
    have := topsN_le v bs ps n
    unfold topsN
    split <;> omega

/-- parents within the bags -/
def ParOk (ps : List Int) (n : Nat) : Prop := ps.length = n ∧ ∀ i, i < n → ps.getD i 0 = -1 ∨ (0 ≤ ps.getD i 0 ∧ ps.getD i 0 < (n : Int))

theorem parOk_of {ps : List Int} {n : Nat} (h : parsB ps n = true) : ParOk ps n := by
  unfold parsB at h
  rw [Bool.and_eq_true, decide_eq_true_eq, List.all_eq_true] at h
  have hl : ps.length = n := by omega
  refine ⟨hl, fun i hi => ?_⟩
  have := h.2 i (by simpa [hl] using hi)
  unfold parB at this
  rw [Bool.or_eq_true, Bool.and_eq_true, decide_eq_true_eq, decide_eq_true_eq, decide_eq_true_eq] at this
  omega

set_option maxHeartbeats 4000000 in
set_option maxRecDepth 1000000 in
theorem topsOf_calls (w : World) (vb vp vh vw : Value) (x n d : Int) (bs : List (List Int)) (ps : List Int) (hb : ISS w vb bs) (hl : Short bs) (hl12 : bs.length ≤ 12) (hp : IS w vp ps) (hok : ParOk ps bs.length) :
    Calls Try.prog 97 #[.int .i64 x, .agg #[vb, vp, vh, vw, .int .i64 n, .int .i64 d]] w fun e w' => e = .returned (.int .i64 (topsN x bs ps bs.length)) ∧ Below w.heap.size w w' := by
  have HB0 : Hid (Below w.heap.size w (w.alloc (.cells #[vb, vp, vh, vw, .int .i64 n, .int .i64 d] 53))) := hid ((Below.refl _ _).alloc (Nat.le_refl _) _)
  have c0 : (w.alloc (.cells #[vb, vp, vh, vw, .int .i64 n, .int .i64 d] 53)).cell? ⟨w.heap.size, 0, none⟩ = some vb := by rw [World.cell?_alloc_at _ _ _ _ rfl]; rfl
  have c1 : (w.alloc (.cells #[vb, vp, vh, vw, .int .i64 n, .int .i64 d] 53)).cell? ⟨w.heap.size, 1, none⟩ = some vp := by rw [World.cell?_alloc_at _ _ _ _ rfl]; rfl
  obtain ⟨W, hW⟩ : ∃ W, W = w.alloc (.cells #[vb, vp, vh, vw, .int .i64 n, .int .i64 d] 53) := ⟨_, rfl⟩
  rw [← hW] at HB0 c0 c1
  obtain ⟨hpl, hpo⟩ := hok
  have HP0 := hp.below HB0.out
  have HBS := hb.below HB0.out
  clear hb hp
  obtain ⟨a, cap, rfl, hc⟩ := HBS
  obtain ⟨a2, cap2, rfl, hc2⟩ := HP0
  rw [hpl] at hc2 c1
  obtain ⟨hl1, hl2⟩ := hl
  have HC := hid hc
  have HC2 := hid hc2
  have HL := hid hl2
  have HPO := hid hpo
  have HT : Hid (∀ i, topsN x bs ps (i + 1) = topsN x bs ps i + if topAt x bs ps i then 1 else 0) := hid fun i => rfl
  have HTL := hid (topsN_le x bs ps)
  have HTA : Hid (∀ i, topAt x bs ps i = (decide (x ∈ bs.getD i []) && !(decide (0 ≤ ps.getD i 0) && decide (x ∈ bs.getD (ps.getD i 0).toNat [])))) := hid fun i => rfl
  have HT0 : Hid (topsN x bs ps 0 = 0) := hid rfl
  obtain ⟨m, hm⟩ : ∃ m, m = bs.length := ⟨_, rfl⟩
  have hpl2 : ps.length = m := by omega
  rw [← hm] at HC HC2 HPO hl1 hl12 c0 c1 hW ⊢
  rw [hpl2] at hW ⊢
  clear hc hc2 hl2 hpo hpl hm hpl2
  generalize topsN x bs ps = TN at *
  go_enter Try.func97, Try.ntmps97
  go_upto_region 1 with fail
  rw [← hW]
  clear hW
  go_wp2_with fail
  go_loop [5, 13] (fun s t => ∃ j : Nat, j ≤ m ∧ t = .int .i64 j ∧ s = .int .i64 (TN j)) (fun _ t => m - (intOf t).toNat)
  case atStart => exact ⟨0, Nat.zero_le _, rfl, by rw [HT0.out]; rfl⟩
  case round =>
    obtain ⟨j, hj, rfl, rfl⟩ := hrel
    by_cases hjn : j < m
    · have i1 : (j : Int) < (m : Int) := by omega
      rcases HC.out with h0 | ⟨b, o, rfl, hcell⟩
      · omega
      rcases HC2.out with h0 | ⟨b2, o2, rfl, hcell2⟩
      · omega
      have HCE := hid hcell
      obtain ⟨u, e1, hu⟩ := hcell j hjn
      have e2 := hcell2 j hjn
      have HK1 := hid (sContains_calls W u (bs.getD j []) x hu (HL.out j))
      obtain ⟨a3, cap3, rfl, -⟩ := hu
      have hpo := HPO.out j hjn
      have hta := HTA.out j
      have htt := HT.out j
      have htl := HTL.out j
      clear hcell hcell2
      generalize (bs.getD j []).length = lj at *
      generalize decide (x ∈ bs.getD j []) = f1 at *
      generalize ps.getD j 0 = y at *
      generalize topAt x bs ps j = tp at *
      rcases hpo with rfl | ⟨hy0, hym⟩
      · rw [show (decide ((0 : Int) ≤ -1)) = false by decide, Bool.false_and, Bool.not_false, Bool.and_true] at hta
        subst hta
        go_wp2_with fail
        refine HK1.out.mono ?_
        rintro e w1 ⟨rfl, hw1⟩
        subst w1
        cases tp
        · go_wp2_with fail
          go_round
          case rel => exact ⟨j + 1, by omega, by go_num, by rw [htt]; simp⟩
          case measure => simp [intOf]; omega
        · go_wp2_with fail
          go_round
          case rel => exact ⟨j + 1, by omega, by go_num, by rw [htt]; simp⟩
          case measure => simp [intOf]; omega
      · obtain ⟨z, rfl⟩ : ∃ z : Nat, y = (z : Int) := ⟨y.toNat, by omega⟩
        have hzm : z < m := by omega
        obtain ⟨u2, e3, hu2⟩ := HCE.out z hzm
        rw [show ((z : Int)).toNat = z by omega] at hta
        have HK2 := hid (sContains_calls W u2 (bs.getD z []) x hu2 (HL.out z))
        obtain ⟨a4, cap4, rfl, -⟩ := hu2
        generalize (bs.getD z []).length = lz at *
        generalize decide (x ∈ bs.getD z []) = f2 at *
        rw [decide_eq_true hy0, Bool.true_and] at hta
        go_wp2_with fail
        refine HK2.out.mono ?_
        rintro e w1 ⟨rfl, hw1⟩
        subst w1
        go_wp2_with fail
        refine HK1.out.mono ?_
        rintro e w1 ⟨rfl, hw1⟩
        subst w1
        cases f1 <;> cases f2 <;> (subst hta)
        · go_wp2_with fail
          go_round
          case rel => exact ⟨j + 1, by omega, by go_num, by rw [htt]; simp⟩
          case measure => simp [intOf]; omega
        · go_wp2_with fail
          go_round
          case rel => exact ⟨j + 1, by omega, by go_num, by rw [htt]; simp⟩
          case measure => simp [intOf]; omega
        · go_wp2_with fail
          go_round
          case rel => exact ⟨j + 1, by omega, by go_num, by rw [htt]; simp⟩
          case measure => simp [intOf]; omega
        · go_wp2_with fail
          go_round
          case rel => exact ⟨j + 1, by omega, by go_num, by rw [htt]; simp⟩
          case measure => simp [intOf]; omega
    · obtain rfl : j = m := by omega
      have i1 : ¬ ((j : Int) < (j : Int)) := by omega
      go_wp2_with fail
      go_ret
      exact ⟨rfl, HB0.out⟩

set_option maxHeartbeats 4000000 in
set_option maxRecDepth 1000000 in
theorem allHang_calls (w : World) (vb vp vh vw : Value) (k n d : Int) (bs : List (List Int)) (ps : List Int) (hk : k ≤ 6) (hb : ISS w vb bs) (hl : Short bs) (hl12 : bs.length ≤ 12) (hp : IS w vp ps) (hok : ParOk ps bs.length) :
    Calls Try.prog 72 #[.int .i64 k, .agg #[vb, vp, vh, vw, .int .i64 n, .int .i64 d]] w fun e w' => e = .returned (.bool (togB k bs ps)) ∧ Below w.heap.size w w' := by
  have HB0 : Hid (Below w.heap.size w (w.alloc (.cells #[vb, vp, vh, vw, .int .i64 n, .int .i64 d] 53))) := hid ((Below.refl _ _).alloc (Nat.le_refl _) _)
  have c0 : (w.alloc (.cells #[vb, vp, vh, vw, .int .i64 n, .int .i64 d] 53)).cell? ⟨w.heap.size, 0, none⟩ = some vb := by rw [World.cell?_alloc_at _ _ _ _ rfl]; rfl
  have c1 : (w.alloc (.cells #[vb, vp, vh, vw, .int .i64 n, .int .i64 d] 53)).cell? ⟨w.heap.size, 1, none⟩ = some vp := by rw [World.cell?_alloc_at _ _ _ _ rfl]; rfl
  have c2 : (w.alloc (.cells #[vb, vp, vh, vw, .int .i64 n, .int .i64 d] 53)).cell? ⟨w.heap.size, 2, none⟩ = some vh := by rw [World.cell?_alloc_at _ _ _ _ rfl]; rfl
  have c3 : (w.alloc (.cells #[vb, vp, vh, vw, .int .i64 n, .int .i64 d] 53)).cell? ⟨w.heap.size, 3, none⟩ = some vw := by rw [World.cell?_alloc_at _ _ _ _ rfl]; rfl
  have c4 : (w.alloc (.cells #[vb, vp, vh, vw, .int .i64 n, .int .i64 d] 53)).cell? ⟨w.heap.size, 4, none⟩ = some (.int .i64 n) := by rw [World.cell?_alloc_at _ _ _ _ rfl]; rfl
  have c5 : (w.alloc (.cells #[vb, vp, vh, vw, .int .i64 n, .int .i64 d] 53)).cell? ⟨w.heap.size, 5, none⟩ = some (.int .i64 d) := by rw [World.cell?_alloc_at _ _ _ _ rfl]; rfl
  obtain ⟨W, hW⟩ : ∃ W, W = w.alloc (.cells #[vb, vp, vh, vw, .int .i64 n, .int .i64 d] 53) := ⟨_, rfl⟩
  rw [← hW] at HB0 c0 c1 c2 c3 c4 c5
  have HP := hid (hp.below HB0.out)
  have HBS := hid (hb.below HB0.out)
  have HL := hid hl
  have HOK := hid hok
  obtain ⟨res, hres⟩ : ∃ r, r = togB k bs ps := ⟨_, rfl⟩
  rw [← hres]
  have HF : Hid (∀ v : Nat, v < k.toNat → topsN (v : Int) bs ps bs.length ≠ 1 → res = false) := hid fun v hv e => by
    rw [hres]; unfold togB
    exact range_all_false hv (by simpa using e)
  have HT : Hid ((∀ v : Nat, v < k.toNat → topsN (v : Int) bs ps bs.length = 1) → res = true) := hid fun h1 => by
    rw [hres]; unfold togB
    exact range_all_true (fun v hv => by simpa using h1 v hv)
  clear hb hp hl hok hres
  go_enter Try.func72, Try.ntmps72
  go_upto_region 1 with fail
  rw [← hW]
  clear hW
  go_wp2_with fail
  go_loopw [7] (fun t wr => ∃ v : Nat, (v = 0 ∨ v ≤ k.toNat) ∧ t = .int .i64 v ∧ Below W.heap.size W wr ∧ Hid (∀ i : Nat, i < v → topsN (i : Int) bs ps bs.length = 1)) (fun t _ => k.toNat - (intOf t).toNat)
  case atStart => exact ⟨0, Or.inl rfl, rfl, Below.refl _ _, hid (fun i hi => by omega)⟩
  case round =>
    obtain ⟨v, hv, rfl, hnx, hok⟩ := hrel
    by_cases hvk : (v : Int) < k
    · have d0 := bclp hnx c0
      have d1 := bclp hnx c1
      have d2 := bclp hnx c2
      have d3 := bclp hnx c3
      have d4 := bclp hnx c4
      have d5 := bclp hnx c5
      have KT := hid (topsOf_calls wr vb vp vh vw (v : Int) n d bs ps (HBS.out.below hnx) HL.out hl12 (HP.out.below hnx) HOK.out)
      have fin := HF.out v (by omega)
      have nxt : topsN (v : Int) bs ps bs.length = 1 → Hid (∀ i : Nat, i < v + 1 → topsN (i : Int) bs ps bs.length = 1) := fun e i hi => by
        by_cases e2 : i = v
        · rw [e2]; exact e
        · exact hok.out i (by omega)
      have htl := topsN_le (v : Int) bs ps bs.length
      clear hok
      generalize topsN (v : Int) bs ps bs.length = tn at *
      by_cases ht : tn = 1
      · have hf := nxt ht
        subst ht
        clear fin nxt
        go_wp2_with fail
        refine KT.out.mono ?_
        rintro e w1 ⟨rfl, hb1⟩
        go_wp2_with fail
        go_roundw
        case rel => exact ⟨v + 1, by omega, by go_num, bt hnx hb1, hf⟩
        case measure => simp [intOf]; omega
      · obtain rfl := fin ht
        have e1 : ((tn : Int) != 1) = true := by simp; omega
        clear nxt
        go_wp2_with fail
        refine KT.out.mono ?_
        rintro e w1 ⟨rfl, hb1⟩
        go_wp2_with fail
        go_ret
        exact ⟨rfl, bt HB0.out (bt hnx hb1)⟩
    · obtain rfl := HT.out (fun i hi => hok.out i (by omega))
      clear hok
      go_wp2_with fail
      go_ret
      exact ⟨rfl, bt HB0.out hnx⟩

theorem plc_full {bag edge : List Int} : decide ((plc (fun i => decide (edge.getD i 0 ∈ bag)) edge.length).length = edge.length) = edge.all fun x => decide (x ∈ bag) := by
  have h : (plc (fun i => decide (edge.getD i 0 ∈ bag)) edge.length).length = edge.length ↔ ∀ i, i < edge.length → edge.getD i 0 ∈ bag := by
    unfold plc
    rw [List.length_map]
    have e : edge.length = (List.range edge.length).length := by simp
    constructor
    · intro h i hi
      have h2 : ((List.range edge.length).filter fun i => decide (edge.getD i 0 ∈ bag)).length = (List.range edge.length).length := by rw [h]; exact e
      have := (List.length_filter_eq_length_iff.1 h2) i (by simpa using hi)
      simpa using this
    · intro h
      have : ((List.range edge.length).filter fun i => decide (edge.getD i 0 ∈ bag)).length = (List.range edge.length).length := List.length_filter_eq_length_iff.2 (fun i hi => by simpa using h i (by simpa using hi))
      rw [this, ← e]
  cases hb : (edge.all fun x => decide (x ∈ bag))
  · refine decide_eq_false fun h1 => ?_
    rw [List.all_eq_false] at hb
    obtain ⟨x, hx, hx2⟩ := hb
    obtain ⟨i, hi, e⟩ := getD_mem hx
    exact hx2 (by rw [← e]; simpa using h.1 h1 i hi)
  · refine decide_eq_true (h.2 fun i hi => ?_)
    rw [List.all_eq_true] at hb
    simpa using hb _ (mem_getD hi)

set_option maxHeartbeats 4000000 in
set_option maxRecDepth 1000000 in
theorem isHome_calls (w : World) (ve vb : Value) (h : Int) (e : List Int) (bs : List (List Int)) (he : IS w ve e) (hle : e.length ≤ 1099511627776) (hb : ISS w vb bs) (hl : Short bs) :
    Calls Try.prog 98 #[.int .i64 h, ve, vb] w fun r w' => r = .returned (.bool (homeB h e bs)) ∧ Below w.heap.size w w' := by
  have HE := hid he
  obtain ⟨a, cap, rfl, -⟩ := he
  obtain ⟨a2, cap2, rfl, hc⟩ := hb
  obtain ⟨hl1, hl2⟩ := hl
  obtain ⟨res, hres⟩ : ∃ r, r = homeB h e bs := ⟨_, rfl⟩
  rw [← hres]
  by_cases h0 : e.length = 0
  · have hr : res = decide (h = -1) := by rw [hres]; unfold homeB; rw [if_pos h0]
    clear hres hc HE
    rw [h0]
    by_cases h1 : h = -1
    · rw [decide_eq_true h1] at hr
      subst h1 hr
      go_enter Try.func98, Try.ntmps98
      go_wp2_with fail
      go_ret
      exact ⟨rfl, Below.refl _ _⟩
    · rw [decide_eq_false h1] at hr
      subst hr
      have e1 : (h == -1) = false := by simpa using h1
      go_enter Try.func98, Try.ntmps98
      go_wp2_with fail
      go_ret
      exact ⟨ret_bool (by simp), Below.refl _ _⟩
  have hr : res = (decide (0 ≤ h) && decide (h < (bs.length : Int)) && e.all fun x => decide (x ∈ bs.getD h.toNat [])) := by rw [hres]; unfold homeB; rw [if_neg h0]
  have d0 : ¬ ((e.length : Int) = 0) := by omega
  clear hres
  by_cases h1 : 0 ≤ h
  case neg =>
    rw [decide_eq_false h1, Bool.false_and, Bool.false_and] at hr
    subst hr
    clear hc HE
    generalize e.length = n at *
    go_enter Try.func98, Try.ntmps98
    go_wp2_with fail
    go_ret
    exact ⟨rfl, Below.refl _ _⟩
  by_cases h2 : h < (bs.length : Int)
  case neg =>
    rw [decide_eq_false h2, Bool.and_false, Bool.false_and] at hr
    subst hr
    clear hc HE
    generalize e.length = n at *
    go_enter Try.func98, Try.ntmps98
    go_wp2_with fail
    go_ret
    exact ⟨rfl, Below.refl _ _⟩
  rw [decide_eq_true h1, decide_eq_true h2, Bool.true_and, Bool.true_and] at hr
  obtain ⟨z, rfl⟩ : ∃ z : Nat, h = (z : Int) := ⟨h.toNat, by omega⟩
  rw [show ((z : Int)).toNat = z by omega, ← plc_full] at hr
  rcases hc with hb0 | ⟨b, o, rfl, hcell⟩
  · omega
  obtain ⟨u, c1, hu⟩ := hcell z (by omega)
  have KP := hid (placesIn_calls w _ u e (bs.getD z []) HE.out hu hle (hl2 z))
  obtain ⟨a3, cap3, rfl, -⟩ := hu
  have hlen := plc_le (fun i => decide (e.getD i 0 ∈ bs.getD z [])) e.length
  clear hcell HE
  generalize (bs.getD z []).length = lz at *
  generalize plc (fun i => decide (e.getD i 0 ∈ bs.getD z [])) e.length = pl at *
  have HR := hid hr
  clear hr hl2
  generalize e.length = n at *
  generalize bs.length = nb at *
  go_enter Try.func98, Try.ntmps98
  go_wp2_with fail
  refine KP.out.mono ?_
  rintro r w1 ⟨v, rfl, hown, hbw⟩
  obtain ⟨av, cv, rfl⟩ : ∃ a c, v = .slice a pl.length c := by
    rcases hown.2 with ⟨rfl, hn⟩ | ⟨g, cap, cur, rfl, _⟩
    · exact ⟨none, 0, by rw [hn]⟩
    · exact ⟨_, cap, rfl⟩
  clear hown
  generalize pl.length = m at *
  go_wp2_with fail
  go_ret
  refine ⟨ret_bool ?_, hbw⟩
  rw [HR.out]
  by_cases hmn : m = n
  · subst hmn; simp
  · rw [decide_eq_false hmn]; simp; omega

set_option maxHeartbeats 4000000 in
set_option maxRecDepth 1000000 in
theorem areHomes_calls (w : World) (vh ve vb : Value) (hs : List Int) (es bs : List (List Int)) (hh : IS w vh hs) (he : ISS w ve es) (hle : Short es) (hb : ISS w vb bs) (hl : Short bs) :
    Calls Try.prog 73 #[vh, ve, vb] w fun r w' => r = .returned (.bool (homesB hs es bs)) ∧ Below w.heap.size w w' := by
  have HBS := hid hb
  have HL := hid hl
  obtain ⟨ab, capb, rfl, -⟩ := hb
  obtain ⟨ah, caph, rfl, hch⟩ := hh
  obtain ⟨a, cap, rfl, hc⟩ := he
  obtain ⟨hl1, hl2⟩ := hle
  obtain ⟨res, hres⟩ : ∃ r, r = homesB hs es bs := ⟨_, rfl⟩
  rw [← hres]
  have HR := hid hres
  have HC := hid hc
  have HCH := hid hch
  have HLE := hid hl2
  clear hc hch hl2 hres hl
  by_cases hq : hs.length = es.length
  case neg =>
    have hf : res = false := by rw [HR.out]; unfold homesB; rw [decide_eq_false hq]; rfl
    subst hf
    have i1 : ((hs.length : Int) != (es.length : Int)) = true := by simp; omega
    generalize hs.length = n1 at *
    generalize es.length = n2 at *
    go_enter Try.func73, Try.ntmps73
    go_wp2_with fail
    go_ret
    exact ⟨rfl, Below.refl _ _⟩
  have HF : Hid (∀ j, j < es.length → homeB (hs.getD j 0) (es.getD j []) bs = false → res = false) := hid fun j hj e => by
    rw [HR.out]; unfold homesB
    rw [range_all_false hj e]; simp
  have HT : Hid ((∀ j, j < es.length → homeB (hs.getD j 0) (es.getD j []) bs = true) → res = true) := hid fun h1 => by
    rw [HR.out]; unfold homesB
    rw [decide_eq_true hq, range_all_true h1]; rfl
  clear HR
  rw [hq] at HCH ⊢
  obtain ⟨n, hn⟩ : ∃ n, n = es.length := ⟨_, rfl⟩
  have d1 : ((n : Int) != (n : Int)) = false := by simp
  rw [← hn] at HF HT hl1 HC HCH ⊢
  clear hn hq
  go_enter Try.func73, Try.ntmps73
  go_wp2_with fail
  go_loopw [16] (fun t wr => ∃ j : Nat, j ≤ n ∧ t = .int .i64 j ∧ Below w.heap.size w wr ∧ Hid (∀ i, i < j → homeB (hs.getD i 0) (es.getD i []) bs = true)) (fun t _ => n - (intOf t).toNat)
  case atStart => exact ⟨0, Nat.zero_le _, rfl, Below.refl _ _, hid (fun i hi => by omega)⟩
  case round =>
    obtain ⟨j, hj, rfl, hnx, hok⟩ := hrel
    by_cases hjn : j < n
    · have i1 : (j : Int) < (n : Int) := by omega
      rcases HC.out with h0 | ⟨b, o, rfl, hcell⟩
      · omega
      rcases HCH.out with h0 | ⟨b2, o2, rfl, hcell2⟩
      · omega
      obtain ⟨u, e1, hu⟩ := hcell j hjn
      have c1 := bclp hnx e1
      have c2 := bclp hnx (hcell2 j hjn)
      have KH := hid (isHome_calls wr u _ (hs.getD j 0) (es.getD j []) bs (hu.below hnx) (HLE.out j) (HBS.out.below hnx) HL.out)
      obtain ⟨a1, cap1, rfl, -⟩ := hu
      have fin := HF.out j hjn
      have nxt : homeB (hs.getD j 0) (es.getD j []) bs = true → Hid (∀ i, i < j + 1 → homeB (hs.getD i 0) (es.getD i []) bs = true) := fun e i hi => by
        by_cases e2 : i = j
        · rw [e2]; exact e
        · exact hok.out i (by omega)
      clear hcell hcell2 hok e1
      generalize (es.getD j []).length = m at *
      generalize homeB (hs.getD j 0) (es.getD j []) bs = y at *
      generalize hs.getD j 0 = x at *
      cases y
      · obtain rfl := fin rfl
        clear nxt
        go_wp2_with fail
        refine KH.out.mono ?_
        rintro e w1 ⟨rfl, hb1⟩
        go_wp2_with fail
        go_ret
        exact ⟨rfl, bt hnx hb1⟩
      · have hf := nxt rfl
        clear fin nxt
        go_wp2_with fail
        refine KH.out.mono ?_
        rintro e w1 ⟨rfl, hb1⟩
        go_wp2_with fail
        go_roundw
        case rel => exact ⟨j + 1, by omega, by go_num, bt hnx hb1, hf⟩
        case measure => simp [intOf]; omega
    · obtain rfl : j = n := by omega
      obtain rfl := HT.out hok.out
      have i1 : ¬ ((j : Int) < (j : Int)) := by omega
      clear hok
      go_wp2_with fail
      go_ret
      exact ⟨rfl, hnx⟩

end Go.Proofs.Ytnmcgbfhgmmcpaa
