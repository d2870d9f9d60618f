import Derived.Deep.RegionHeld3
import Derived.Test.YtnmcgbfhgmmcpaaW26
import Derived.Test.YtnmcgbfhgmmcpaaW42
/-
  impl.areWidths.
-/
namespace Go.Proofs.Ytnmcgbfhgmmcpaa
open Go.RowKit

/-- a number as a pair -/
def rp (q : Rat) : Int × Int := (q.num, (q.den : Int))
def widAt (es bs : List (List Int)) (ws : List (Int × Int)) (i : Nat) : Bool := decide (ws.getD i (0, 0) = rp (wdR es (bs.getD i [])))
def widB (es bs : List (List Int)) (ws : List (Int × Int)) (x : Int × Int) : Bool :=
  decide (ws.length = bs.length) && (List.range bs.length).all (widAt es bs ws) && decide (x = rp (mostN (fun i => wdR es (bs.getD i [])) bs.length))

/-- the bag is as CoverOf asks -/
structure GoodBag (es : List (List Int)) (bag : List Int) : Prop where
  set : setB bag = true
  cov : coverB bag es = true

theorem nodup_of_set {l : List Int} (h : setB l = true) : l.Nodup := by
  have key : ∀ j, j < l.length → ∀ i, i < j → l.getD i 0 < l.getD j 0 := by
    intro j
    induction j with
    | zero => intro _ i hi; omega
    | succ j ih =>
      intro hj i hi
      have h1 := (setB_at h hj).2.2
      rw [show j + 1 - 1 = j by omega] at h1
      by_cases e : i = j
      · subst e; omega
      · have := ih (by omega) i (by omega); omega
  unfold List.Nodup
  rw [List.pairwise_iff_getElem]
  intro i j hi hj hij
  have := key j hj i hij
  rw [List.getD_eq_getElem?_getD, List.getD_eq_getElem?_getD, List.getElem?_eq_getElem hj, List.getElem?_eq_getElem hi] at this
  simp only [Option.getD_some] at this
  omega

theorem edges_nodup {es : List (List Int)} (h : edgesB es = true) : ∀ i, i < es.length → (es.getD i []).Nodup := by
  intro i hi
  unfold edgesB at h
  rw [Bool.and_eq_true, List.all_eq_true] at h
  refine nodup_of_set (h.2 _ ?_)
  rw [List.getD_eq_getElem?_getD, List.getElem?_eq_getElem hi]; exact List.getElem_mem hi

theorem cover_has {es : List (List Int)} {bag : List Int} (h : coverB bag es = true) : ∀ r, r < bag.length → ∃ e, e < es.length ∧ bag.getD r 0 ∈ es.getD e [] := by
  intro r hr
  unfold coverB at h
  rw [List.all_eq_true] at h
  have := h _ (bag_get_mem hr)
  rw [List.any_eq_true] at this
  obtain ⟨e, he, hm⟩ := this
  obtain ⟨j, hj, e1⟩ := List.getElem_of_mem he
  exact ⟨j, hj, by rw [List.getD_eq_getElem?_getD (l := es), List.getElem?_eq_getElem hj, Option.getD_some, e1]; simpa using hm⟩

theorem GoodBag.best {es : List (List Int)} {bag : List Int} (h : GoodBag es bag) : ∃ x, CoverBest bag.length es.length (inc (coverL bag es)) x ∧ Parts es.length x :=
  coverBest_exists (by have := setB_len h.set; omega) (cover_has h.cov)

theorem GoodBag.sm {es : List (List Int)} {bag : List Int} (h : GoodBag es bag) (he : edgesB es = true) : Sm 36000 (wdR es bag) := by
  obtain ⟨x, hx, hp⟩ := h.best
  rw [← wdR_eq hx hp]
  exact hp.sum (Nat.le_refl _) (edgesB_len he)
theorem sm_up {q : Rat} (h : Sm 36000 q) : Sm 1000000 q := ⟨by have := h.1; omega, by have := h.2; omega⟩

theorem width_impl (w : World) (vb ve : Value) (bag : List Int) (es : List (List Int)) (hb : IS w vb bag) (h : ISS w ve es) (hl : Short es) (he : edgesB es = true) (hg : GoodBag es bag) :
    Calls Try.prog 9 #[vb, ve] w fun e w' => ∃ vW vD, e = .returned (.agg #[.bool true, .int .i64 (wdR es bag).num, .int .i64 (wdR es bag).den, vW, vD]) ∧ Below w.heap.size w w' := by
  have := setB_len hg.set
  refine (coverOf_yes w vb ve bag es hb h (by omega) hl hg.set he hg.cov).mono ?_
  rintro e w' ⟨x, y, vW, vD, rfl, hx, -, hp, -, -, -, -, hbw⟩
  rw [wdR_eq hx hp]
  exact ⟨vW, vD, rfl, hbw⟩

theorem ir_prs {w : World} {v : Value} {ws : List (Int × Int)} {n : Nat} {f : Nat → Rat} (h : IR w v ws) (hn : ws.length = n) (hf : ∀ i, i < n → ws.getD i (0, 0) = rp (f i)) : IR w v (prs n f) := by
  have e : ws = prs n f := by
    apply List.ext_getElem
    · rw [prs_length, hn]
    · intro i h1 h2
      have := hf i (by omega)
      rw [List.getD_eq_getElem?_getD, List.getElem?_eq_getElem h1, Option.getD_some] at this
      rw [this]
      have h3 := prs_get (x := f) (show i < n by omega)
      rw [List.getD_eq_getElem?_getD, List.getElem?_eq_getElem h2, Option.getD_some] at h3
      rw [h3]; rfl
  rw [← e]; exact h

theorem Try.fieldC1 (b c d e f : Value) (w : World) : Sem.run Try.prog (Instr.field 31 (.agg #[b, c, d, e, f]) 1) w = .ok (.agg #[c, d]) w := by kernel_rfl

theorem wid_of {wr W : World} {B : Nat} {sl : Value} {b o : Nat} {x y : Int} (c3 : wr.cell? ⟨B, 3, none⟩ = some sl) (d1 : wr.cell? ⟨b, o, none⟩ = some (.int .i64 x)) (d2 : wr.cell? ⟨b, o + 1, none⟩ = some (.int .i64 y)) (hb : Below wr.heap.size wr W) :
    W.cell? ⟨B, 3, none⟩ = some sl ∧ W.cell? ⟨b, o, none⟩ = some (.int .i64 x) ∧ W.cell? ⟨b, o + 1, none⟩ = some (.int .i64 y) ∧ Below wr.heap.size wr W :=
  ⟨bclp hb c3, bclp hb d1, bclp hb d2, hb⟩

set_option maxHeartbeats 8000000 in
set_option maxRecDepth 1000000 in
theorem areWidths_calls (w : World) (vb vp vh vw ve : Value) (n d : Int) (bs es : List (List Int)) (ws : List (Int × Int)) (hb : ISS w vb bs) (hl : Short bs) (hl12 : bs.length ≤ 12) (hwv : IR w vw ws)
    (he : ISS w ve es) (hle : Short es) (hee : edgesB es = true) (hg : ∀ i, i < bs.length → GoodBag es (bs.getD i [])) :
    Calls Try.prog 74 #[.agg #[vb, vp, vh, vw, .int .i64 n, .int .i64 d], ve] w fun e w' => e = .returned (.bool (widB es bs ws (n, d))) ∧ Below w.heap.size w w' := by
  have HB0 : Hid (Below w.heap.size w (w.alloc (.cells #[vb, vp, vh, vw, .int .i64 n, .int .i64 d] 53))) := hid ((Below.refl _ _).alloc (Nat.le_refl _) _)
  have c0 : (w.alloc (.cells #[vb, vp, vh, vw, .int .i64 n, .int .i64 d] 53)).cell? ⟨w.heap.size, 0, none⟩ = some vb := by rw [World.cell?_alloc_at _ _ _ _ rfl]; rfl
  have c3 : (w.alloc (.cells #[vb, vp, vh, vw, .int .i64 n, .int .i64 d] 53)).cell? ⟨w.heap.size, 3, none⟩ = some vw := by rw [World.cell?_alloc_at _ _ _ _ rfl]; rfl
  have c4 : (w.alloc (.cells #[vb, vp, vh, vw, .int .i64 n, .int .i64 d] 53)).cell? ⟨w.heap.size, 4, none⟩ = some (.int .i64 n) := by rw [World.cell?_alloc_at _ _ _ _ rfl]; rfl
  have c5 : (w.alloc (.cells #[vb, vp, vh, vw, .int .i64 n, .int .i64 d] 53)).cell? ⟨w.heap.size, 5, none⟩ = some (.int .i64 d) := by rw [World.cell?_alloc_at _ _ _ _ rfl]; rfl
  obtain ⟨W, hW⟩ : ∃ W, W = w.alloc (.cells #[vb, vp, vh, vw, .int .i64 n, .int .i64 d] 53) := ⟨_, rfl⟩
  rw [← hW] at HB0 c0 c3 c4 c5
  have HE := hid (he.below HB0.out)
  have HWW := hid (hwv.below HB0.out)
  have HBS := hid (hb.below HB0.out)
  obtain ⟨ae, cape, rfl, -⟩ := he
  clear hb hwv
  have hbs := HBS.out
  have hww := HWW.out
  obtain ⟨a, cap, rfl, hc⟩ := hbs
  obtain ⟨a4, cap4, rfl, hcw⟩ := hww
  obtain ⟨res, hres⟩ : ∃ r, r = widB es bs ws (n, d) := ⟨_, rfl⟩
  rw [← hres]
  have HR := hid hres
  have HC := hid hc
  have HCW := hid hcw
  have HL := hid hl
  have HLE := hid hle
  have HG := hid hg
  clear hc hcw hl hle hres hg
  by_cases hq : ws.length = bs.length
  case neg =>
    have hf : res = false := by rw [HR.out]; unfold widB; rw [decide_eq_false hq]; simp
    subst hf
    have i1 : ((ws.length : Int) != (bs.length : Int)) = true := by simp; omega
    clear HC HCW HBS HWW HR
    generalize ws.length = n1 at *
    generalize bs.length = n2 at *
    go_enter Try.func74, Try.ntmps74
    go_upto_region 1 with fail
    rw [← hW]
    clear hW
    go_wp2_with fail
    go_ret
    exact ⟨rfl, HB0.out⟩
  have HF : Hid (∀ j, j < bs.length → widAt es bs ws j = false → res = false) := hid fun j hj e => by
    rw [HR.out]; unfold widB
    rw [range_all_false hj e]; simp
  have HT : Hid ((∀ j, j < bs.length → widAt es bs ws j = true) → res = decide ((n, d) = rp (mostN (fun i => wdR es (bs.getD i [])) bs.length))) := hid fun h1 => by
    rw [HR.out]; unfold widB
    rw [decide_eq_true hq, range_all_true h1]; rfl
  have HGR : Hid (∀ wr, Below W.heap.size W wr → (∀ j, j < bs.length → widAt es bs ws j = true) → Calls Try.prog 99 #[.slice a4 ws.length cap4] wr fun e w' => e = .returned (.agg #[.int .i64 (mostN (fun i => wdR es (bs.getD i [])) bs.length).num, .int .i64 (mostN (fun i => wdR es (bs.getD i [])) bs.length).den]) ∧ Below wr.heap.size wr w') := hid fun wr hb h1 =>
    greatestOf_calls wr _ bs.length _ (ir_prs (HWW.out.below hb) hq (fun i hi => of_decide_eq_true (h1 i hi))) (by omega) (fun i hi => sm_up ((HG.out i hi).sm hee))
  clear HR HWW HBS
  rw [hq] at HCW HGR c3 hW ⊢
  obtain ⟨m, hm⟩ : ∃ m, m = bs.length := ⟨_, rfl⟩
  have d1 : ((m : Int) != (m : Int)) = false := by simp
  rw [← hm] at HF HT HC HCW HGR HG hl12 c0 c3 hW ⊢
  clear hm hq
  generalize mostN (fun i => wdR es (bs.getD i [])) m = MX at *
  have HWL : Hid (∀ j, widAt es bs ws j = decide (ws.getD j (0, 0) = rp (wdR es (bs.getD j [])))) := hid fun _ => rfl
  go_enter Try.func74, Try.ntmps74
  go_upto_region 1 with fail
  rw [← hW]
  clear hW
  go_wp2_with fail
  go_loopw [17] (fun t wr => ∃ j : Nat, j ≤ m ∧ t = .int .i64 j ∧ Below W.heap.size W wr ∧ Hid (∀ i, i < j → widAt es bs ws i = true)) (fun t _ => m - (intOf t).toNat)
  case atStart => exact ⟨0, Nat.zero_le _, rfl, Below.refl _ _, hid (fun i hi => by omega)⟩
  case round =>
    obtain ⟨j, hj, rfl, hnx, hok⟩ := hrel
    by_cases hjn : j < m
    · have i1 : (j : Int) < (m : Int) := by omega
      rcases HC.out with h0 | ⟨b, o, rfl, hcell⟩
      · omega
      rcases HCW.out with h0 | ⟨b2, o2, rfl, hcell2⟩
      · omega
      obtain ⟨u, e1, hu⟩ := hcell j hjn
      have k1 := bclp hnx e1
      obtain ⟨w1, w2⟩ := hcell2 j hjn
      have k2 := bclp hnx w1
      have k3 := bclp hnx w2
      have x3 := bclp hnx c3
      have HS : Hid (∀ W', Below wr.heap.size wr W' → _) := hid fun W' hb => wid_of x3 k2 k3 hb
      have KW : Hid (∀ W', Below wr.heap.size wr W' → Calls Try.prog 9 #[u, .slice ae es.length cape] W' fun e w' => ∃ vW vD, e = .returned (.agg #[.bool true, .int .i64 (wdR es (bs.getD j [])).num, .int .i64 (wdR es (bs.getD j [])).den, vW, vD]) ∧ Below W'.heap.size W' w') := hid fun W' hb =>
        width_impl W' _ _ _ es (hu.below (bt hnx hb)) (HE.out.below (bt hnx hb)) HLE.out hee (HG.out j hjn)
      have hwl := HWL.out j
      obtain ⟨a1, cap1, rfl, -⟩ := hu
      have fin := HF.out j hjn
      have nxt : widAt es bs ws j = true → Hid (∀ i, i < j + 1 → widAt es bs ws i = true) := fun e i hi => by
        by_cases e2 : i = j
        · rw [e2]; exact e
        · exact hok.out i (by omega)
      clear hcell hcell2 hok e1 w1 w2
      generalize (bs.getD j []).length = lj at *
      generalize widAt es bs ws j = y at *
      generalize wdR es (bs.getD j []) = q at *
      unfold rp at hwl
      generalize hp : ws.getD j (0, 0) = p at *
      obtain ⟨p1, p2⟩ := p
      clear hp
      simp only at k2 k3 HS
      have HQ := hid hwl
      clear hwl
      generalize q.num = qn at *
      generalize (q.den : Int) = qd at *
      have HSW : Hid (∀ W', (W'.cell? ⟨w.heap.size, 3, none⟩ = some (.slice (some ⟨b2, o2, none⟩) m cap4) ∧ W'.cell? ⟨b2, o2 + j * 2, none⟩ = some (.int .i64 p1) ∧ W'.cell? ⟨b2, o2 + j * 2 + 1, none⟩ = some (.int .i64 p2) ∧ Below wr.heap.size wr W') → Below wr.heap.size wr W') := hid fun W' h => h.2.2.2
      have KX : Hid (∀ W', (W'.cell? ⟨w.heap.size, 3, none⟩ = some (.slice (some ⟨b2, o2, none⟩) m cap4) ∧ W'.cell? ⟨b2, o2 + j * 2, none⟩ = some (.int .i64 p1) ∧ W'.cell? ⟨b2, o2 + j * 2 + 1, none⟩ = some (.int .i64 p2) ∧ Below wr.heap.size wr W') → _) := hid fun W' h => KW.out W' h.2.2.2
      clear KW
      have hq := HQ.out
      clear HQ
      by_cases e1 : p1 = qn
      · subst e1
        by_cases e2 : p2 = qd
        · subst e2
          have hf := nxt (by rw [hq]; simp)
          clear fin nxt hq
          have hfld := Try.fieldC1
          go_wp2_with fail
          go_region_held3 (fun W' => W'.cell? ⟨w.heap.size, 3, none⟩ = some (.slice (some ⟨b2, o2, none⟩) m cap4) ∧ W'.cell? ⟨b2, o2 + j * 2, none⟩ = some (.int .i64 p1) ∧ W'.cell? ⟨b2, o2 + j * 2 + 1, none⟩ = some (.int .i64 p2) ∧ Below wr.heap.size wr W')
            (first | exact HS.out _ (Below.refl _ _).drew | exact HS.out _ (bt (Below.refl _ _).drew hbw) | (refine HS.out _ (bt (HSW.out _ ?_) hbw); assumption))
            (first | (go_at_call 9; refine (KX.out _ ?_).mono ?_; assumption; rintro e w' ⟨vW, vD, rfl, hbw⟩))
          clear hfld
          go_wp2_with fail
          go_roundw
          case rel =>
            refine ⟨j + 1, by omega, by go_num, bt hnx (HSW.out _ ?_), hf⟩
            assumption
          case measure => simp [intOf]; omega
        · obtain rfl := fin (by rw [hq]; simp [e2])
          have x1 : (p2 == qd) = false := by simpa using e2
          clear nxt hq
          have hfld := Try.fieldC1
          go_wp2_with fail
          go_region_held3 (fun W' => W'.cell? ⟨w.heap.size, 3, none⟩ = some (.slice (some ⟨b2, o2, none⟩) m cap4) ∧ W'.cell? ⟨b2, o2 + j * 2, none⟩ = some (.int .i64 p1) ∧ W'.cell? ⟨b2, o2 + j * 2 + 1, none⟩ = some (.int .i64 p2) ∧ Below wr.heap.size wr W')
            (first | exact HS.out _ (Below.refl _ _).drew | exact HS.out _ (bt (Below.refl _ _).drew hbw) | (refine HS.out _ (bt (HSW.out _ ?_) hbw); assumption))
            (first | (go_at_call 9; refine (KX.out _ ?_).mono ?_; assumption; rintro e w' ⟨vW, vD, rfl, hbw⟩))
          clear hfld
          go_wp2_with fail
          go_ret
          refine ⟨rfl, bt HB0.out (bt hnx (HSW.out _ ?_))⟩
          assumption
      · obtain rfl := fin (by rw [hq]; simp [e1])
        have x1 : (p1 == qn) = false := by simpa using e1
        clear nxt hq
        have hfld := Try.fieldC1
        go_wp2_with fail
        go_region_held3 (fun W' => W'.cell? ⟨w.heap.size, 3, none⟩ = some (.slice (some ⟨b2, o2, none⟩) m cap4) ∧ W'.cell? ⟨b2, o2 + j * 2, none⟩ = some (.int .i64 p1) ∧ W'.cell? ⟨b2, o2 + j * 2 + 1, none⟩ = some (.int .i64 p2) ∧ Below wr.heap.size wr W')
          (first | exact HS.out _ (Below.refl _ _).drew | exact HS.out _ (bt (Below.refl _ _).drew hbw) | (refine HS.out _ (bt (HSW.out _ ?_) hbw); assumption))
          (first | (go_at_call 9; refine (KX.out _ ?_).mono ?_; assumption; rintro e w' ⟨vW, vD, rfl, hbw⟩))
        clear hfld
        go_wp2_with fail
        go_ret
        refine ⟨rfl, bt HB0.out (bt hnx (HSW.out _ ?_))⟩
        assumption
    · obtain rfl : j = m := by omega
      have i1 : ¬ ((j : Int) < (j : Int)) := by omega
      have hr := HT.out hok.out
      have x3 := bclp hnx c3
      have x4 := bclp hnx c4
      have x5 := bclp hnx c5
      have HS : Hid (∀ W', Below wr.heap.size wr W' → W'.cell? ⟨w.heap.size, 3, none⟩ = some (.slice a4 j cap4) ∧ W'.cell? ⟨w.heap.size, 4, none⟩ = some (.int .i64 n) ∧ W'.cell? ⟨w.heap.size, 4 + 1, none⟩ = some (.int .i64 d) ∧ Below wr.heap.size wr W') := hid fun W' hb => ⟨bclp hb x3, bclp hb x4, bclp hb x5, hb⟩
      have HSW : Hid (∀ W', (W'.cell? ⟨w.heap.size, 3, none⟩ = some (.slice a4 j cap4) ∧ W'.cell? ⟨w.heap.size, 4, none⟩ = some (.int .i64 n) ∧ W'.cell? ⟨w.heap.size, 4 + 1, none⟩ = some (.int .i64 d) ∧ Below wr.heap.size wr W') → Below wr.heap.size wr W') := hid fun W' h => h.2.2.2
      have KX : Hid (∀ W', (W'.cell? ⟨w.heap.size, 3, none⟩ = some (.slice a4 j cap4) ∧ W'.cell? ⟨w.heap.size, 4, none⟩ = some (.int .i64 n) ∧ W'.cell? ⟨w.heap.size, 4 + 1, none⟩ = some (.int .i64 d) ∧ Below wr.heap.size wr W') → _) := hid fun W' h => HGR.out W' (bt hnx h.2.2.2) hok.out
      clear HGR HT HF hok
      unfold rp at hr
      generalize MX.num = qn at *
      generalize (MX.den : Int) = qd at *
      by_cases e1 : n = qn
      · subst e1
        by_cases e2 : d = qd
        · subst e2
          obtain rfl : res = true := by rw [hr]; simp
          clear hr
          go_wp2_with fail
          go_region_held3 (fun W' => W'.cell? ⟨w.heap.size, 3, none⟩ = some (.slice a4 j cap4) ∧ W'.cell? ⟨w.heap.size, 4, none⟩ = some (.int .i64 n) ∧ W'.cell? ⟨w.heap.size, 4 + 1, none⟩ = some (.int .i64 d) ∧ Below wr.heap.size wr W')
            (first | exact HS.out _ (Below.refl _ _).drew | exact HS.out _ (bt (Below.refl _ _).drew hbw) | (refine HS.out _ (bt (HSW.out _ ?_) hbw); assumption))
            (first | (go_at_call 99; refine (KX.out _ ?_).mono ?_; assumption; rintro e w' ⟨rfl, hbw⟩))
          go_wp2_with fail
          go_ret
          refine ⟨rfl, bt HB0.out (bt hnx (HSW.out _ ?_))⟩
          assumption
        · obtain rfl : res = false := by rw [hr]; simp [e2]
          have x1 : (d == qd) = false := by simpa using e2
          clear hr
          go_wp2_with fail
          go_region_held3 (fun W' => W'.cell? ⟨w.heap.size, 3, none⟩ = some (.slice a4 j cap4) ∧ W'.cell? ⟨w.heap.size, 4, none⟩ = some (.int .i64 n) ∧ W'.cell? ⟨w.heap.size, 4 + 1, none⟩ = some (.int .i64 d) ∧ Below wr.heap.size wr W')
            (first | exact HS.out _ (Below.refl _ _).drew | exact HS.out _ (bt (Below.refl _ _).drew hbw) | (refine HS.out _ (bt (HSW.out _ ?_) hbw); assumption))
            (first | (go_at_call 99; refine (KX.out _ ?_).mono ?_; assumption; rintro e w' ⟨rfl, hbw⟩))
          go_wp2_with fail
          go_ret
          refine ⟨rfl, bt HB0.out (bt hnx (HSW.out _ ?_))⟩
          assumption
      · obtain rfl : res = false := by rw [hr]; simp [e1]
        have x1 : (n == qn) = false := by simpa using e1
        clear hr
        go_wp2_with fail
        go_region_held3 (fun W' => W'.cell? ⟨w.heap.size, 3, none⟩ = some (.slice a4 j cap4) ∧ W'.cell? ⟨w.heap.size, 4, none⟩ = some (.int .i64 n) ∧ W'.cell? ⟨w.heap.size, 4 + 1, none⟩ = some (.int .i64 d) ∧ Below wr.heap.size wr W')
          (first | exact HS.out _ (Below.refl _ _).drew | exact HS.out _ (bt (Below.refl _ _).drew hbw) | (refine HS.out _ (bt (HSW.out _ ?_) hbw); assumption))
          (first | (go_at_call 99; refine (KX.out _ ?_).mono ?_; assumption; rintro e w' ⟨rfl, hbw⟩))
        go_wp2_with fail
        go_ret
        refine ⟨rfl, bt HB0.out (bt hnx (HSW.out _ ?_))⟩
        assumption

end Go.Proofs.Ytnmcgbfhgmmcpaa

/-
  impl.PlanOK.
-/
namespace Go.Proofs.Ytnmcgbfhgmmcpaa
open Go.RowKit

def planB (k : Int) (es bs : List (List Int)) (ps hs : List Int) (ws : List (Int × Int)) (x : Int × Int) : Bool :=
  patB k es && bagsB k bs && parsB ps bs.length && togB k bs ps && homesB hs es bs && widB es bs ws x

theorem set_mono {l : List Int} (h : setB l = true) : ∀ j, j < l.length → ∀ i, i ≤ j → l.getD i 0 ≤ l.getD j 0 := by
  intro j
  induction j with
  | zero => intro _ i hi; rw [show i = 0 by omega]; exact Int.le_refl _
  | succ j ih =>
    intro hj i hi
    have h1 := (setB_at h hj).2.2
    rw [show j + 1 - 1 = j by omega] at h1
    by_cases e : i = j + 1
    · subst e; exact Int.le_refl _
    · have := ih (by omega) i (by omega); omega

theorem set_low {k : Int} {l : List Int} (h : setB l = true) (hk : lowB k l = true) {x : Int} (hx : x ∈ l) : 0 ≤ x ∧ x < k := by
  obtain ⟨i, hi, rfl⟩ := getD_mem hx
  refine ⟨(setB_at h hi).1, ?_⟩
  unfold lowB at hk
  rw [Bool.or_eq_true, decide_eq_true_eq, decide_eq_true_eq] at hk
  have := set_mono h (l.length - 1) (by omega) i (by omega)
  omega

theorem good_of {k : Int} {es : List (List Int)} {bag : List Int} (hp : patB k es = true) (h1 : setB bag = true) (h2 : lowB k bag = true) : GoodBag es bag := by
  refine ⟨h1, ?_⟩
  unfold coverB
  rw [List.all_eq_true]
  intro x hx
  obtain ⟨h3, h4⟩ := set_low h1 h2 hx
  unfold patB at hp
  rw [Bool.and_eq_true, List.all_eq_true] at hp
  have := hp.2 x.toNat (by simp; omega)
  unfold inEs at this
  rw [show ((x.toNat : Nat) : Int) = x by omega] at this
  exact this

theorem pat_parts {k : Int} {es : List (List Int)} (hp : patB k es = true) : 0 ≤ k ∧ k ≤ 6 ∧ edgesB es = true := by
  unfold patB at hp
  rw [Bool.and_eq_true, Bool.and_eq_true, Bool.and_eq_true, Bool.and_eq_true, decide_eq_true_eq, decide_eq_true_eq] at hp
  exact ⟨hp.1.1.1.1, hp.1.1.1.2, hp.1.1.2⟩

theorem bags_good {k : Int} {es bs : List (List Int)} (hp : patB k es = true) (hb : bagsB k bs = true) : bs.length ≤ 12 ∧ ∀ i, i < bs.length → GoodBag es (bs.getD i []) := by
  unfold bagsB at hb
  rw [Bool.and_eq_true, decide_eq_true_eq, List.all_eq_true] at hb
  refine ⟨hb.1, fun i hi => ?_⟩
  have := hb.2 (bs.getD i []) (by rw [List.getD_eq_getElem?_getD, List.getElem?_eq_getElem hi]; exact List.getElem_mem hi)
  unfold bagB at this
  rw [Bool.and_eq_true, Bool.and_eq_true] at this
  exact good_of hp this.1.2 this.2

set_option maxHeartbeats 8000000 in
set_option maxRecDepth 1000000 in
theorem planOK_calls (w : World) (vb vp vh vw ve : Value) (k n d : Int) (es bs : List (List Int)) (ps hs : List Int) (ws : List (Int × Int)) (he : ISS w ve es) (hle : Short es) (hb : ISS w vb bs) (hl : Short bs)
    (hp : IS w vp ps) (hpl : ps.length ≤ 1099511627776) (hh : IS w vh hs) (hwv : IR w vw ws) :
    Calls Try.prog 26 #[.int .i64 k, ve, .agg #[vb, vp, vh, vw, .int .i64 n, .int .i64 d]] w fun e w' => e = .returned (.bool (planB k es bs ps hs ws (n, d))) ∧ Below w.heap.size w w' := by
  have HB0 : Hid (Below w.heap.size w (w.alloc (.cells #[vb, vp, vh, vw, .int .i64 n, .int .i64 d] 53))) := hid ((Below.refl _ _).alloc (Nat.le_refl _) _)
  have c0 : (w.alloc (.cells #[vb, vp, vh, vw, .int .i64 n, .int .i64 d] 53)).cell? ⟨w.heap.size, 0, none⟩ = some vb := by rw [World.cell?_alloc_at _ _ _ _ rfl]; rfl
  have c1 : (w.alloc (.cells #[vb, vp, vh, vw, .int .i64 n, .int .i64 d] 53)).cell? ⟨w.heap.size, 1, none⟩ = some vp := by rw [World.cell?_alloc_at _ _ _ _ rfl]; rfl
  have c2 : (w.alloc (.cells #[vb, vp, vh, vw, .int .i64 n, .int .i64 d] 53)).cell? ⟨w.heap.size, 2, none⟩ = some vh := by rw [World.cell?_alloc_at _ _ _ _ rfl]; rfl
  have c3 : (w.alloc (.cells #[vb, vp, vh, vw, .int .i64 n, .int .i64 d] 53)).cell? ⟨w.heap.size, 3, none⟩ = some vw := by rw [World.cell?_alloc_at _ _ _ _ rfl]; rfl
  have c4 : (w.alloc (.cells #[vb, vp, vh, vw, .int .i64 n, .int .i64 d] 53)).cell? ⟨w.heap.size, 4, none⟩ = some (.int .i64 n) := by rw [World.cell?_alloc_at _ _ _ _ rfl]; rfl
  have c5 : (w.alloc (.cells #[vb, vp, vh, vw, .int .i64 n, .int .i64 d] 53)).cell? ⟨w.heap.size, 5, none⟩ = some (.int .i64 d) := by rw [World.cell?_alloc_at _ _ _ _ rfl]; rfl
  obtain ⟨W, hW⟩ : ∃ W, W = w.alloc (.cells #[vb, vp, vh, vw, .int .i64 n, .int .i64 d] 53) := ⟨_, rfl⟩
  rw [← hW] at HB0 c0 c1 c2 c3 c4 c5
  have HE := hid (he.below HB0.out)
  have HBS := hid (hb.below HB0.out)
  have HP := hid (hp.below HB0.out)
  have HH := hid (hh.below HB0.out)
  have HWV := hid (hwv.below HB0.out)
  have HL := hid hl
  have HLE := hid hle
  obtain ⟨ae, cape, rfl, -⟩ := he
  obtain ⟨ab, capb, rfl, -⟩ := hb
  obtain ⟨ap, capp, rfl, -⟩ := hp
  obtain ⟨ah, caph, rfl, -⟩ := hh
  obtain ⟨aw, capw, rfl, -⟩ := hwv
  obtain ⟨res, hres⟩ : ∃ r, r = planB k es bs ps hs ws (n, d) := ⟨_, rfl⟩
  rw [← hres]
  have HR : Hid (res = _) := hid hres
  clear hl hle hres
  have K1 := hid (isPattern_calls W _ k es HE.out HLE.out)
  go_enter Try.func26, Try.ntmps26
  go_upto_region 1 with fail
  rw [← hW]
  clear hW
  go_wp2_with fail
  refine K1.out.mono ?_
  rintro e w1 ⟨rfl, hb1⟩
  have HB1 := hid hb1
  clear K1 hb1
  cases hpat : patB k es
  · obtain rfl : res = false := by rw [HR.out]; unfold planB; rw [hpat]; simp
    go_wp2_with fail
    go_ret
    exact ⟨rfl, bt HB0.out HB1.out⟩
  obtain ⟨hk0, hk6, hee⟩ := pat_parts hpat
  have K2 := hid (areBags_calls w1 _ k bs (HBS.out.below HB1.out) HL.out)
  have x0 := bclp HB1.out c0
  have x1 := bclp HB1.out c1
  have HPAT := hid hpat
  clear hpat
  go_wp2_with fail
  refine K2.out.mono ?_
  rintro e w2 ⟨rfl, hw2⟩
  subst w2
  clear K2
  cases hbag : bagsB k bs
  · obtain rfl : res = false := by rw [HR.out]; unfold planB; rw [hbag]; simp
    go_wp2_with fail
    go_ret
    exact ⟨rfl, bt HB0.out HB1.out⟩
  have hg := bags_good HPAT.out hbag
  have hl12 := hg.1
  have HG := hid hg.2
  have K3 := hid (areParents_calls w1 _ ps bs.length (HP.out.below HB1.out) hpl)
  have HBAG := hid hbag
  clear hbag hg
  go_wp2_with fail
  refine K3.out.mono ?_
  rintro e w2 ⟨rfl, hw2⟩
  subst w2
  clear K3
  cases hpar : parsB ps bs.length
  · obtain rfl : res = false := by rw [HR.out]; unfold planB; rw [hpar]; simp
    go_wp2_with fail
    go_ret
    exact ⟨rfl, bt HB0.out HB1.out⟩
  have hpo := parOk_of hpar
  have K4 := hid (allHang_calls w1 _ _ (.slice ah hs.length caph) (.slice aw ws.length capw) k n d bs ps hk6 (HBS.out.below HB1.out) HL.out hl12 (HP.out.below HB1.out) hpo)
  have x2 := bclp HB1.out c2
  have x3 := bclp HB1.out c3
  have x4 := bclp HB1.out c4
  have x5 := bclp HB1.out c5
  have HPAR := hid hpar
  clear hpar hpo
  go_wp2_with fail
  refine K4.out.mono ?_
  rintro e w2 ⟨rfl, hb2⟩
  have HB2 := hid (bt HB1.out hb2)
  clear K4 hb2 x0 x1 x2 x3 x4 x5
  cases htog : togB k bs ps
  · obtain rfl : res = false := by rw [HR.out]; unfold planB; rw [htog]; simp
    go_wp2_with fail
    go_ret
    exact ⟨rfl, bt HB0.out HB2.out⟩
  have K5 := hid (areHomes_calls w2 _ _ _ hs es bs (HH.out.below HB2.out) (HE.out.below HB2.out) HLE.out (HBS.out.below HB2.out) HL.out)
  have x0 := bclp HB2.out c0
  have x2 := bclp HB2.out c2
  have HTOG := hid htog
  clear htog
  go_wp2_with fail
  refine K5.out.mono ?_
  rintro e w3 ⟨rfl, hb3⟩
  have HB3 := hid (bt HB2.out hb3)
  clear K5 hb3 x0 x2
  cases hhom : homesB hs es bs
  · obtain rfl : res = false := by rw [HR.out]; unfold planB; rw [hhom]; simp
    go_wp2_with fail
    go_ret
    exact ⟨rfl, bt HB0.out HB3.out⟩
  have hr : res = widB es bs ws (n, d) := by rw [HR.out]; unfold planB; rw [HPAT.out, HBAG.out, HPAR.out, HTOG.out, hhom]; rfl
  have K6 := hid (areWidths_calls w3 _ (.slice ap ps.length capp) (.slice ah hs.length caph) _ _ n d bs es ws (HBS.out.below HB3.out) HL.out hl12 (HWV.out.below HB3.out) (HE.out.below HB3.out) HLE.out hee HG.out)
  rw [← hr] at K6
  have x0 := bclp HB3.out c0
  have x1 := bclp HB3.out c1
  have x2 := bclp HB3.out c2
  have x3 := bclp HB3.out c3
  have x4 := bclp HB3.out c4
  have x5 := bclp HB3.out c5
  clear hhom hr HR
  go_wp2_with fail
  refine K6.out.mono ?_
  rintro e w4 ⟨rfl, hb4⟩
  go_wp2_with fail
  go_ret
  exact ⟨rfl, bt HB0.out (bt HB3.out hb4)⟩

end Go.Proofs.Ytnmcgbfhgmmcpaa
