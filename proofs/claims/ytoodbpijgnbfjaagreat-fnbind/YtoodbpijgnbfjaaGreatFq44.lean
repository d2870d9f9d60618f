import Derived.Test.YtoodbpijgnbfjaaGreatFq23
import Derived.Test.YtoodbpijgnbfjaaGreatFq41
import Derived.Test.YtoodbpijgnbfjaaGreatFq42
import Derived.Test.YtoodbpijgnbfjaaGreatFq43
namespace Go.Proofs.YtoodbpijgnbfjaaGreat
open Go.RowKit

def mkX (h r v n0 : Nat) (tl : List TbV) (o : List Int) (f : Nat → List Int → Nat) (g0 g1 : Nat → List Int → Value) (hv : Value) (uh : List Value) : JX where
  h := h
  r := r
  v := v
  n0 := n0
  nT := tl.length
  H := fun t => hasO o (sdT o (tl.getD t noTv)).vars
  D := fun t p => p = [] ∨ ∃ r ∈ (sdT o (tl.getD t noTv)).rows, p <+: r
  N := fun t => nN (sdT o (tl.getD t noTv)).vars.length (sdT o (tl.getD t noTv)).rows
  f := f
  g0 := g0
  g1 := g1
  hv := hv
  uh := uh
  hav := havJ tl o

theorem getD_in {tl : List TbV} {t : Nat} (h : t < tl.length) : tl.getD t noTv ∈ tl := by rw [List.getD_eq_getElem?_getD, List.getElem?_eq_getElem h]; exact List.getElem_mem _
theorem sds_in {tl : List TbV} {o : List Int} {t : Nat} (h : t < tl.length) : sdO o (sdT o (tl.getD t noTv)) ∈ sdsJ tl o := List.mem_map.2 ⟨_, List.mem_map.2 ⟨_, getD_in h, rfl⟩, rfl⟩
theorem in_sds {tl : List TbV} {o : List Int} {s : Sd} (h : s ∈ sdsJ tl o) : ∃ t, t < tl.length ∧ s = sdO o (sdT o (tl.getD t noTv)) := by
  obtain ⟨m, hm, rfl⟩ := List.mem_map.1 h
  obtain ⟨t, ht, rfl⟩ := List.mem_map.1 hm
  obtain ⟨i, hi, rfl⟩ := List.getElem_of_mem ht
  exact ⟨i, hi, by rw [List.getD_eq_getElem?_getD, List.getElem?_eq_getElem hi]; rfl⟩
section
variable {h r v n0 : Nat} {tl : List TbV} {o : List Int} {f : Nat → List Int → Nat} {g0 g1 : Nat → List Int → Value} {hv : Value} {uh : List Value}
theorem mkX_hd (p : List Int) : (mkX h r v n0 tl o f g0 g1 hv uh).Hd p ↔ Hld (sdsJ tl o) p := by
  constructor
  · intro hd s hs
    obtain ⟨t, ht, rfl⟩ := in_sds hs
    exact hd t ht
  · intro hd t ht
    exact hd _ (sds_in ht)
theorem mkX_snoc (p : List Int) (hd : (mkX h r v n0 tl o f g0 g1 hv uh).Hd p) (y : Int) (hy : y ∈ nxJ tl o p) : (mkX h r v n0 tl o f g0 g1 hv uh).Hd (p ++ [y]) := (mkX_hd _).2 (((mkX_hd _).1 hd).snoc (sdsJ_ok tl o) hy)
theorem sdT_vars (o : List Int) (t : TbV) : (sdT o t).vars = shr o t.vs := rfl
theorem plc_congr {p q : Nat → Bool} {k : Nat} (h : ∀ i, i < k → p i = q i) : plc p k = plc q k := by
  unfold plc
  congr 1
  exact List.filter_congr fun i hi => h i (List.mem_range.1 hi)
theorem srt_ne {l : List (List Int)} (h : l ≠ []) : srt l ≠ [] := fun e => h (by
  cases l with
  | nil => rfl
  | cons a l =>
    have : a ∈ srt (a :: l) := ((srt_ok _ (a :: l) (Nat.le_refl _)).2 a).2 List.mem_cons_self
    rw [e] at this
    cases this)
theorem mkX_math (ht : ∀ t ∈ tl, TvJ t) (hne : ∀ t ∈ tl, t.rows ≠ []) (hc : CovJ tl o) (hl : tl.length ≤ 1000) (hol : o.length ≤ 1000) : JMx (mkX h r v n0 tl o f g0 g1 hv uh) (nxJ tl o) o.length := by
  have hT : ∀ t, t < tl.length → TM (sdT o (tl.getD t noTv)).rows (fun p => p = [] ∨ ∃ r ∈ (sdT o (tl.getD t noTv)).rows, p <+: r) (nN (sdT o (tl.getD t noTv)).vars.length (sdT o (tl.getD t noTv)).rows) := fun t _ => nN_tm (sdT_ok o _).sl (sdT_ok o _).len
  refine ⟨fun t h1 q hq y => (hT t h1).mem q hq y, fun t h1 q hq => (hT t h1).asc q hq, fun t h1 q _ => ?_, hl, hol, by show (havJ tl o).length = _; unfold havJ; rw [List.length_map], fun k hk => ?_, fun k hk => ?_, fun p hp hd t h1 hH => ?_, fun p hp hd g hg hH => ?_⟩
  · have h2 := nN_len (sdT o (tl.getD t noTv)).vars.length (sdT o (tl.getD t noTv)).rows q
    have h3 := sdT_rows o (tl.getD t noTv)
    have h4 := (ht _ (getD_in h1)).n
    show (nN _ _ q).length ≤ 1000000
    omega
  · show (havJ tl o).getD k [] = plc (fun t => hasO o (sdT o (tl.getD t noTv)).vars k) tl.length
    unfold havJ
    rw [List.getD_eq_getElem?_getD, List.getElem?_map, List.getElem?_eq_getElem hk]
    show plc _ (tl.map TbV.vs).length = _
    rw [List.length_map]
    refine plc_congr fun i hi => ?_
    rw [sdT_vars, hasO_shr hk]
    have e1 : (tl.map TbV.vs).getD i [] = (tl.getD i noTv).vs := by
      rw [List.getD_eq_getElem?_getD, List.getElem?_map, List.getElem?_eq_getElem hi, List.getD_eq_getElem?_getD, List.getElem?_eq_getElem hi]
      rfl
    have e2 : o.getD k 0 = o[k] := by rw [List.getD_eq_getElem?_getD, List.getElem?_eq_getElem hk]; rfl
    rw [e1, e2]
  · obtain ⟨t, h1, h2⟩ := hc k hk
    obtain ⟨i, hi, rfl⟩ := List.getElem_of_mem h1
    refine ⟨i, hi, ?_⟩
    show hasO o (sdT o (tl.getD i noTv)).vars k = true
    rw [sdT_vars, hasO_shr hk, List.getD_eq_getElem?_getD, List.getElem?_eq_getElem hi]
    exact decide_eq_true h2
  · have hlt : (prt (hasO o (sdT o (tl.getD t noTv)).vars) p).length < (sdT o (tl.getD t noTv)).vars.length := (cntJ hp).2 hH
    have hD : prt (hasO o (sdT o (tl.getD t noTv)).vars) p = [] ∨ ∃ r ∈ (sdT o (tl.getD t noTv)).rows, prt (hasO o (sdT o (tl.getD t noTv)).vars) p <+: r := hd t h1
    have hR : ∃ r ∈ (sdT o (tl.getD t noTv)).rows, prt (hasO o (sdT o (tl.getD t noTv)).vars) p <+: r := by
      rcases hD with h2 | h2
      · have : (sdT o (tl.getD t noTv)).rows ≠ [] := srt_ne (by simpa using hne _ (getD_in h1))
        obtain ⟨r, hr⟩ := List.exists_mem_of_ne_nil _ this
        exact ⟨r, hr, by rw [h2]; exact List.nil_prefix⟩
      · exact h2
    obtain ⟨r, hr, tail, e⟩ := hR
    have hrl := (sdT_ok o (tl.getD t noTv)).len r hr
    cases tail with
    | nil => rw [List.append_nil] at e; rw [e] at hlt; omega
    | cons y tail =>
      have : y ∈ nN (sdT o (tl.getD t noTv)).vars.length (sdT o (tl.getD t noTv)).rows (prt (hasO o (sdT o (tl.getD t noTv)).vars) p) := ((hT t h1).mem _ hD y).2 (Or.inr ⟨r, hr, tail, by rw [← e]; simp⟩)
      exact List.length_pos_of_mem this
  · have hh : Hld (sdsJ tl o) p := (mkX_hd (h := h) (r := r) (v := v) (n0 := n0) (f := f) (g0 := g0) (g1 := g1) (hv := hv) (uh := uh) p).1 hd
    have := nxtS_by (sdsJ_ok tl o) (sds_in hg) hh (by exact hH)
    show nxtS (sdsJ tl o) p = _
    rw [this]
    unfold nxtBy
    refine List.filter_congr fun y _ => ?_
    rw [Bool.eq_iff_iff, mayB_iff, List.all_eq_true]
    constructor
    · intro h1 t h2
      obtain ⟨i, hi, h3, rfl⟩ := mem_plc.1 h2
      exact decide_eq_true (h1 _ (sds_in hi) h3)
    · intro h1 s hs h2
      obtain ⟨t, h3, rfl⟩ := in_sds hs
      exact of_decide_eq_true (h1 (t : Int) (mem_plc.2 ⟨t, h3, h2, rfl⟩))
end
theorem TR.iff {W : World} {B : Nat} {D D' : List Int → Prop} {N N' : List Int → List Int} {f : List Int → Nat} {g0 g1 : List Int → Value} (h : TR W B D N N f g0 g1) (hD : ∀ p, D p ↔ D' p) (hN : ∀ p, D p → N' p = N p) : TR W B D' N' N' f g0 g1 := by
  have e : D = D' := funext fun p => propext (hD p)
  subst e
  exact h.same hN hN
theorem TrO.tr {B : Nat} {W : World} {o : List Int} {t : TbV} {c : Option Addr} (h : TrO B W (sdT o t).rows c) : ((sdT o t).rows = [] ∧ c = none) ∨ ((sdT o t).rows ≠ [] ∧ ∃ f g0 g1, c = some ⟨f [], 0, none⟩ ∧ TR W B (fun p => p = [] ∨ ∃ r ∈ (sdT o t).rows, p <+: r) (nN (sdT o t).vars.length (sdT o t).rows) (nN (sdT o t).vars.length (sdT o t).rows) f g0 g1) := by
  rcases h with h | ⟨h1, D, N, f, g0, g1, h2, h3, h4, h5⟩
  · exact Or.inl h
  · have hT : TM (sdT o t).rows (fun p => p = [] ∨ ∃ r ∈ (sdT o t).rows, p <+: r) (nN (sdT o t).vars.length (sdT o t).rows) := nN_tm (sdT_ok o t).sl (sdT_ok o t).len
    refine Or.inr ⟨h1, f, g0, g1, h2, h4.iff h3.dom fun p hp => ?_⟩
    refine asc_uniq (hT.asc p ((h3.dom p).1 hp)) (h3.asc p hp) fun y => ?_
    rw [hT.mem p ((h3.dom p).1 hp) y, h3.mem p hp y]
    exact (h3.dom _).symm

end Go.Proofs.YtoodbpijgnbfjaaGreat

namespace Go.Proofs.YtoodbpijgnbfjaaGreat
open Go.RowKit Meet
theorem eqlIn_nilp {P : Program} {t e : TypeId} (d : Nat) (w : World) (y : Addr) (h : P.underlying t = some (.pointer e)) : (Op.equalIn (d + 1) t (.pointer none) (.pointer (some y))).run P w = .ok false w := by simp [Op.equalIn, run_underlying h]
theorem eql_nilp {P : Program} {t e : TypeId} (w : World) (y : Addr) (h : P.underlying t = some (.pointer e)) : (binOp .eql t (.pointer none) (.pointer (some y))).run P w = .ok (.bool false) w := by
  simp only [binOp]
  simp [Op.equal, Op.maxDepth, eqlIn_nilp 9999 w y h]

def nilIn (cs : List (Option Addr)) : Bool := decide (none ∈ cs)

set_option maxHeartbeats 2000000 in
set_option maxRecDepth 100000 in
theorem nilIndex_calls (w : World) (B n : Nat) (v : Value) (cs : List (Option Addr)) (h : w.ownsRow B 96 1 v n (cs.map Value.pointer)) (hn : cs.length = n) (hl : n ≤ 1099511627776) :
    Calls Tryz.prog 64 #[v, .pointer none] w fun e w' => (∃ k : Int, e = .returned (.int .i64 k) ∧ decide (0 ≤ k) = nilIn cs) ∧ w' = w := by
  have HC : Hid (∀ j, j < n → ∃ b o c, v = .slice (some ⟨b, o, none⟩) n c ∧ w.cell? ⟨b, o + j, none⟩ = some (.pointer (cs.getD j none))) := hid fun j hj => by
    rcases h.2 with ⟨rfl, rfl⟩ | ⟨g, cap, cur, rfl, -⟩
    · omega
    · refine ⟨g, 0, cap, rfl, ?_⟩
      have := h.cellAt (j := j) (by omega)
      rw [Nat.zero_add]
      rw [List.getD_eq_getElem?_getD, List.getElem?_eq_getElem (by omega)]
      refine this.trans ?_
      rw [List.getElem?_map, List.getElem?_eq_getElem (by omega)]
      rfl
  obtain ⟨a, cap, rfl⟩ := own_shapeJ h
  obtain ⟨res, hres⟩ : ∃ r, r = nilIn cs := ⟨_, rfl⟩
  rw [← hres]
  have HR := hid hres
  have HN := hid hn
  clear h hn hres
  go_enter Tryz.func64, Tryz.ntmps64
  go_wp2
  go_loop [8] (fun t => ∃ j : Nat, j ≤ n ∧ t = .int .i64 j ∧ Hid (∀ i, i < j → cs.getD i none ≠ none)) (fun t => n - (intOf t).toNat)
  case atStart => exact ⟨0, Nat.zero_le _, rfl, hid (fun i hi => by omega)⟩
  case round =>
    obtain ⟨j, hj, rfl, hok⟩ := hrel
    by_cases hjn : j < n
    · have i1 : (j : Int) < (n : Int) := by omega
      obtain ⟨b, o, c, ea, c1⟩ := HC.out j hjn
      cases ea
      have fin : cs.getD j none = none → Hid (res = true) := fun e => HR.out.trans (decide_eq_true (by
        have h1 : j < cs.length := by rw [HN.out]; exact hjn
        have : cs.getD j none ∈ cs := by rw [List.getD_eq_getElem?_getD, List.getElem?_eq_getElem h1]; exact List.getElem_mem _
        rw [e] at this; exact this))
      have nxt : cs.getD j none ≠ none → Hid (∀ i, i < j + 1 → cs.getD i none ≠ none) := fun e => hid fun i hi => by
        by_cases e2 : i = j
        · rw [e2]; exact e
        · exact hok.out i (by omega)
      clear hok
      generalize cs.getD j none = y at *
      cases y with
      | none =>
        have hf := fin rfl
        clear fin nxt
        go_wp2
        go_ret
        exact ⟨⟨_, rfl, by rw [hf.out]; simp⟩, rfl⟩
      | some y =>
        have hf := nxt (by simp)
        clear fin nxt
        have hq : ∀ w : World, (binOp .eql 96 (.pointer none) (.pointer (some y))).run Tryz.prog w = .ok (.bool false) w := fun w => eql_nilp w y Tryz.underlying96
        go_wp2
        go_round
        case rel => exact ⟨j + 1, by omega, by go_num, hf⟩
        case measure => simp [intOf]; omega
    · obtain rfl : j = n := by omega
      have hf : Hid (res = false) := hid (HR.out.trans (decide_eq_false (fun hm => by
        obtain ⟨i, hi, e⟩ := List.getElem_of_mem hm
        exact hok.out i (by rw [← HN.out]; exact hi) (by rw [List.getD_eq_getElem?_getD, List.getElem?_eq_getElem hi]; exact e))))
      have i1 : ¬ ((j : Int) < (j : Int)) := by omega
      clear hok
      go_wp2
      go_ret
      exact ⟨⟨_, rfl, by rw [hf.out]; simp⟩, rfl⟩

theorem nilContains_calls (w : World) (B n : Nat) (v : Value) (cs : List (Option Addr)) (h : w.ownsRow B 96 1 v n (cs.map Value.pointer)) (hn : cs.length = n) (hl : n ≤ 1099511627776) :
    Calls Tryz.prog 38 #[v, .pointer none] w fun e w' => e = .returned (.bool (nilIn cs)) ∧ w' = w := by
  have HI := hid (nilIndex_calls w B n v cs h hn hl)
  generalize nilIn cs = res at *
  clear h
  go_enter Tryz.func38, Tryz.ntmps38
  go_wp2_with (first | (go_at_call 64; refine HI.out.mono ?_; rintro e w' ⟨⟨k, rfl, hk⟩, rfl⟩))
  go_ret
  exact ⟨rfl, rfl⟩

end Go.Proofs.YtoodbpijgnbfjaaGreat
