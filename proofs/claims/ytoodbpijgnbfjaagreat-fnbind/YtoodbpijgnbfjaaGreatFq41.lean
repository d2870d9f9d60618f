import Derived.Test.YtoodbpijgnbfjaaGreatFq02
import Derived.Test.YtoodbpijgnbfjaaGreatFq21
import Derived.Test.YtoodbpijgnbfjaaGreatFq22
import Derived.Test.YtoodbpijgnbfjaaGreatFq23
import Derived.Test.YtoodbpijgnbfjaaGreatFq39
import Derived.Test.YtoodbpijgnbfjaaGreatFq40
namespace Go.Proofs.YtoodbpijgnbfjaaGreat
open Go.RowKit Meet

set_option maxHeartbeats 4000000 in
set_option maxRecDepth 1000000 in
theorem edgesOf_calls (w : World) (vt : Value) (tl : List TbV) (h : ITs w vt tl) (hl : tl.length ≤ 1048576) :
    Calls Tryz.prog 67 #[vt] w fun e w' => ∃ v, e = .returned v ∧ ISS w' v (tl.map TbV.vs) ∧ Below w.heap.size w w' := by
  obtain ⟨iS, hj, hy0, hy1, hy2⟩ := info_parts Tryz.infoIS
  obtain ⟨at', ct, rfl, hc⟩ := h
  have HC : Hid (∀ W, Below w.heap.size w W → ∀ j, j < tl.length → ∃ b oo v0, at' = some ⟨b, oo, none⟩ ∧ TabAt W b (oo + j * 3) (tl.getD j noTv) ∧ W.cell? ⟨b, oo + j * 3, none⟩ = some v0 ∧ IS w v0 (tl.getD j noTv).vs) := hid fun W hW j hj => by
    rcases hc with h0 | ⟨b, oo, rfl, h⟩
    · omega
    · obtain ⟨v0, v1, v2, c0, c1, c2, hI⟩ := h j hj
      exact ⟨b, oo, v0, rfl, (h j hj).below hW, bclT hW c0, hI.vs⟩
  have HE : Hid (∀ (W : World) (v : Value) (us : List Value), Below w.heap.size w W → W.ownsRow w.heap.size 33 1 v tl.length us → (∀ i, i < tl.length → IS w (us.getD i undef) (tl.getD i noTv).vs) → ISS W v (tl.map TbV.vs)) := hid fun W v us hW ho hu => by
    have eg : ∀ i, i < tl.length → (tl.map TbV.vs).getD i [] = (tl.getD i noTv).vs := fun i hi => by rw [List.getD_eq_getElem?_getD, List.getElem?_map, List.getD_eq_getElem?_getD, List.getElem?_eq_getElem hi]; rfl
    have hln := ho.1
    rcases ho.2 with ⟨rfl, hn⟩ | ⟨g, cap, cur, rfl, hb', hh, hn, -, -, ht⟩
    · exact ⟨none, 0, by rw [List.length_map, hn], Or.inl (by rw [List.length_map]; exact hn)⟩
    · refine ⟨_, cap, by rw [List.length_map], Or.inr ⟨g, 0, rfl, fun j hj => ?_⟩⟩
      rw [List.length_map] at hj
      refine ⟨us.getD j undef, ?_, by rw [eg j hj]; exact (hu j hj).below hW⟩
      rw [Nat.zero_add, cell_of_row _ _ _ _ _ _ hh, ← Array.getElem?_toList, ← List.getElem?_take_of_lt (by omega : j < tl.length * 1), ht, List.getD_eq_getElem?_getD, List.getElem?_eq_getElem (by omega)]
      rfl
  obtain ⟨n, hn⟩ : ∃ n, n = tl.length := ⟨_, rfl⟩
  rw [← hn] at hl HC HE ⊢
  clear hn hc
  obtain ⟨Wm, hmk', hownm, hgrm⟩ := run_makeSlice_owned (P := Tryz.prog) w w.heap.size 32 33 iS (.slice none 0 0) 1 Tryz.underlying32 hj hy0 hy1 .i64 .i64 n (by omega) (by rw [hy2]; omega) (by unfold maxLen; omega) (by omega)
  have hmk : Sem.run Tryz.prog (Instr.makeSlice 32 (.int .i64 0) (.int .i64 (n : Int))) w = .ok (.slice (some ⟨w.heap.size, 0, none⟩) 0 n) Wm := hmk'
  have hBm : Below w.heap.size w Wm := (Below.refl _ _).grown hgrm (Nat.le_refl _) (fun k hk => by cases hk)
  have HBM := hid hBm
  have HOM := hid hownm
  clear hmk' hownm hgrm hBm
  go_enter Tryz.func67, Tryz.ntmps67
  go_upto_block 0 with fail
  clear hmk
  go_wp2_with fail
  go_loopw [3, 11] (fun u t wr => ∃ (j : Nat) (vv : Value), j ≤ n ∧ t = .int .i64 j ∧ vv = u ∧ Hid (∃ us, Below w.heap.size w wr ∧ wr.ownsRow w.heap.size 33 1 vv j us ∧ ∀ i, i < j → IS w (us.getD i undef) (tl.getD i noTv).vs)) (fun _ t _ => n - (intOf t).toNat)
  case atStart => exact ⟨0, _, Nat.zero_le _, rfl, rfl, hid ⟨[], HBM.out, HOM.out, fun i hi => by omega⟩⟩
  case round =>
    clear HBM HOM
    obtain ⟨j, vv, hjn, rfl, rfl, HT⟩ := hrel
    obtain ⟨us, hB, hO, hU⟩ := HT.out
    have HB := hid hB
    have HO := hid hO
    have HU := hid hU
    clear HT hB hO hU
    by_cases hlt : j < n
    · have i1 : (j : Int) < (n : Int) := by omega
      obtain ⟨b, oo, v0', ea, ⟨v0, v1, v2, c0, c1, c2, hI⟩, c0', hIv⟩ := HC.out wr HB.out j hlt
      subst ea
      obtain rfl : v0' = v0 := by rw [c0] at c0'; exact (Option.some.inj c0').symm
      obtain ⟨a0, k0, e0, -⟩ := hI.vs
      obtain ⟨a1, k1, e1, -⟩ := hI.rows
      obtain ⟨a2, k2, e2, -⟩ := hI.ws
      subst e0 e1 e2
      have HIv := hid hIv
      clear c0' hI hIv
      generalize (tl.getD j noTv).rows.length = nr at *
      generalize (tl.getD j noTv).ws.length = n2 at *
      obtain ⟨W3, hW3⟩ : ∃ W3, W3 = wr.alloc (.cells #[.slice a0 (tl.getD j noTv).vs.length k0, .slice a1 nr k1, .slice a2 n2 k2] 71) := ⟨_, rfl⟩
      have hB3 : Below wr.heap.size wr W3 := by rw [hW3]; exact (Below.refl _ _).alloc (Nat.le_refl _) _
      have d0 : W3.cell? ⟨wr.heap.size, 0, none⟩ = some (.slice a0 (tl.getD j noTv).vs.length k0) := by rw [hW3, World.cell?_alloc_at _ _ _ _ rfl]; rfl
      have HB3 := hid (bt HB.out hB3)
      have HO3 := hid (own_below HO.out hB3)
      have hs3 := HB3.out.size
      clear hB3
      have hlu : us.length = j := by have := HO.out.1; omega
      have HLU := hid hlu
      clear hlu
      obtain ⟨nv, hnv⟩ : ∃ nv, nv = (tl.getD j noTv).vs.length := ⟨_, rfl⟩
      rw [← hnv] at c0 d0 hW3
      have HIv2 : Hid (IS w (.slice a0 nv k0) (tl.getD j noTv).vs) := hid (by rw [hnv]; exact HIv.out)
      clear hnv HIv
      go_upto_region 5 with fail
      rw [← hW3]
      clear hW3 c0 c1 c2
      go_wp2_with (first | (at_builtin; refine wpList_append_lies _ rfl _ _ 32 rfl w.heap.size 33 iS (.slice none 0 0) 1 24 Tryz.underlying32 hj hy0 hy1 hy2 rfl (by decide) vv _ us rfl (HO3.out.alloc _) ⟨_, 0, none⟩ 1 1 [.slice a0 nv k0] rfl rfl (new1_cell _ _ _) (fun u hu => by simp at hu; subst hu; rfl) (by decide) (by unfold maxLen; omega) (by omega) (by simp; omega) _ rfl ?_; intro g6 cp6 w6 hown6 hgrow6 hat6 hlt6) | fail)
      have HN : Hid (∃ us', Below w.heap.size w w6 ∧ w6.ownsRow w.heap.size 33 1 (.slice (some ⟨g6, 0, none⟩) (j + 1) cp6) (j + 1) us' ∧ ∀ i, i < j + 1 → IS w (us'.getD i undef) (tl.getD i noTv).vs) := hid ⟨us ++ [.slice a0 nv k0], (HB3.out.alloc hs3 _).grown hgrow6 (by simp; omega) (fun q hq => (HO3.out.lt q hq).1), hown6, fun i hi => by
        by_cases e : i < j
        · rw [List.getD_eq_getElem?_getD, List.getElem?_append_left (by rw [HLU.out]; exact e), ← List.getD_eq_getElem?_getD]
          exact HU.out i e
        · obtain rfl : i = j := by omega
          rw [List.getD_eq_getElem?_getD, List.getElem?_append_right (by rw [HLU.out]; exact Nat.le_refl _), HLU.out, Nat.sub_self]
          exact HIv2.out⟩
      clear hown6 hgrow6 hat6 hlt6 HB3 HO3
      go_roundw
      case rel => exact ⟨j + 1, _, by omega, by go_num, rfl, HN⟩
      case measure => simp [intOf]; omega
    · obtain rfl : j = n := by omega
      have i1 : ¬ ((j : Int) < (j : Int)) := by omega
      have HF := hid (HE.out wr vv us HB.out HO.out HU.out)
      clear HC HE HO HU
      go_wp2_with fail
      go_ret
      exact ⟨vv, rfl, HF.out, HB.out⟩

def havJ (tl : List TbV) (o : List Int) : List (List Int) := o.map fun x => plc (fun i => decide (x ∈ (tl.map TbV.vs).getD i [])) (tl.map TbV.vs).length

set_option maxHeartbeats 4000000 in
set_option maxRecDepth 1000000 in
theorem tablesWith_calls (w : World) (vt vo : Value) (tl : List TbV) (o : List Int) (h : ITs w vt tl) (ho : IS w vo o) (hl : tl.length ≤ 1000) (hol : o.length ≤ 1000) (hvs : ∀ t ∈ tl, t.vs.length ≤ 1000) :
    Calls Tryz.prog 40 #[vo, vt] w fun e w' => ∃ v us, e = .returned v ∧ RQ w' w.heap.size v us (havJ tl o) ∧ (∃ g, v.ownBlock = some g) ∧ Below w.heap.size w w' := by
  obtain ⟨iS, hj, hy0, hy1, hy2⟩ := info_parts Tryz.infoIS
  have KE : Hid (∀ W, Below w.heap.size w W → Calls Tryz.prog 67 #[vt] W fun e w' => ∃ v, e = .returned v ∧ ISS w' v (tl.map TbV.vs) ∧ Below W.heap.size W w') := hid fun W hW => edgesOf_calls W vt tl (h.below hW) (by omega)
  have KW : Hid (∀ W v x, ISS W v (tl.map TbV.vs) → Calls Tryz.prog 66 #[.int .i64 x, v] W fun e w' => ∃ v', e = .returned v' ∧ w'.ownsRow W.heap.size 3 1 v' (plc (fun i => decide (x ∈ (tl.map TbV.vs).getD i [])) (tl.map TbV.vs).length).length ((plc (fun i => decide (x ∈ (tl.map TbV.vs).getD i [])) (tl.map TbV.vs).length).map (Value.int .i64)) ∧ Below W.heap.size W w') := hid fun W v x hv => edgesWith_calls W v x _ hv ⟨by rw [List.length_map]; omega, fun j => by
    rw [List.getD_eq_getElem?_getD, List.getElem?_map]
    cases e : tl[j]? with
    | none => exact Nat.zero_le _
    | some t => have := hvs t (List.mem_of_getElem? e); show t.vs.length ≤ _; omega⟩
  obtain ⟨at', ct, rfl, -⟩ := h
  obtain ⟨ao, co, rfl, hco⟩ := ho
  have HC : Hid (∀ W, Below w.heap.size w W → ∀ j, j < o.length → ∃ b oo, ao = some ⟨b, oo, none⟩ ∧ W.cell? ⟨b, oo + j, none⟩ = some (.int .i64 (o.getD j 0))) := hid fun W hW j hj => by
    rcases hco with h0 | ⟨b, oo, rfl, h⟩
    · omega
    · exact ⟨b, oo, rfl, bclT hW (h j hj)⟩
  have HP : Hid (∀ j, j < o.length → havJ tl (o.take (j + 1)) = havJ tl (o.take j) ++ [plc (fun i => decide (o.getD j 0 ∈ (tl.map TbV.vs).getD i [])) (tl.map TbV.vs).length]) := hid fun j hj => by
    unfold havJ
    rw [take_snoc hj, List.map_append]
    rfl
  have HPl : Hid (∀ j, j ≤ o.length → (havJ tl (o.take j)).length = j) := hid fun j hj => by unfold havJ; rw [List.length_map, List.length_take]; omega
  have HPn : Hid (havJ tl (o.take o.length) = havJ tl o) := hid (by rw [List.take_length])
  have HP0 : Hid (havJ tl (o.take 0) = []) := hid rfl
  obtain ⟨n, hn⟩ : ∃ n, n = o.length := ⟨_, rfl⟩
  rw [← hn] at hol HC HP HPl HPn ⊢
  clear hn hco hvs
  obtain ⟨nT, hnT⟩ : ∃ nT, nT = tl.length := ⟨_, rfl⟩
  rw [← hnT] at hl KE ⊢
  clear hnT
  obtain ⟨Wm, hmk', hownm, hgrm⟩ := run_makeSlice_owned (P := Tryz.prog) w w.heap.size 32 33 iS (.slice none 0 0) 1 Tryz.underlying32 hj hy0 hy1 .i64 .i64 n (by omega) (by rw [hy2]; omega) (by unfold maxLen; omega) (by omega)
  have hmk : Sem.run Tryz.prog (Instr.makeSlice 32 (.int .i64 0) (.int .i64 (n : Int))) w = .ok (.slice (some ⟨w.heap.size, 0, none⟩) 0 n) Wm := hmk'
  have hBm : Below w.heap.size w Wm := (Below.refl _ _).grown hgrm (Nat.le_refl _) (fun k hk => by cases hk)
  have HBM := hid hBm
  have HOM := hid hownm
  clear hmk' hownm hgrm hBm
  go_enter Tryz.func40, Tryz.ntmps40
  go_upto_block 0 with fail
  clear hmk
  go_wp2_with fail
  go_loopw [5, 13] (fun u t wr => ∃ (j : Nat) (vv : Value), j ≤ n ∧ t = .int .i64 j ∧ vv = u ∧ Hid (∃ us, Below w.heap.size w wr ∧ RQ wr w.heap.size vv us (havJ tl (o.take j)) ∧ ∃ g, vv.ownBlock = some g)) (fun _ t _ => n - (intOf t).toNat)
  case atStart => exact ⟨0, _, Nat.zero_le _, rfl, rfl, hid ⟨[], HBM.out, (by rw [HP0.out]; exact ⟨HOM.out, rfl, fun i hi => by simp at hi, fun i j _ hj => by simp at hj⟩), _, rfl⟩⟩
  case round =>
    clear HBM HOM
    obtain ⟨j, vv, hjn, rfl, rfl, HT⟩ := hrel
    obtain ⟨us, hB, hQ, hg⟩ := HT.out
    have HG := hid hg
    have HB := hid hB
    have HQ := hid hQ
    clear HT hB hQ hg
    by_cases hlt : j < n
    · have i1 : (j : Int) < (n : Int) := by omega
      obtain ⟨b, oo, ea, c1⟩ := HC.out wr HB.out j hlt
      subst ea
      have HPj := hid (HP.out j hlt)
      have hlj := HPl.out j hjn
      have KE1 := hid (KE.out wr HB.out)
      have KW1 : Hid (∀ W v, ISS W v (tl.map TbV.vs) → _) := hid fun W v hv => KW.out W v (o.getD j 0) hv
      generalize plc (fun i => decide (o.getD j 0 ∈ (tl.map TbV.vs).getD i [])) (tl.map TbV.vs).length = pj at *
      generalize o.getD j 0 = ov at *
      clear HC HP HPl KE KW
      go_wp2_with (first
        | (go_at_call 67; refine KE1.out.mono ?_; rintro e w2 ⟨v2, rfl, hI2, hb2⟩)
        | (go_at_call 66; refine (KW1.out w2 v2 hI2).mono ?_; rintro e w3 ⟨v3, rfl, ho3, hb3⟩; have hQ3 := HQ.out.below (bt hb2 hb3); have hB3 := bt HB.out (bt hb2 hb3); have hs3 := hB3.size; have ho3' : w3.ownsRow w.heap.size 33 1 vv j us := (by have := hQ3.own; rw [hlj] at this; exact this); obtain ⟨a3, k3, e3⟩ := own_shape ho3; subst e3)
        | (at_builtin; refine wpList_append_lies _ rfl _ _ 32 rfl w.heap.size 33 iS (.slice none 0 0) 1 24 Tryz.underlying32 hj hy0 hy1 hy2 rfl (by decide) vv _ us rfl (ho3'.alloc _) ⟨_, 0, none⟩ 1 1 [.slice a3 pj.length k3] rfl rfl (new1_cell _ _ _) (fun u hu => by simp at hu; subst hu; rfl) (by decide) (by unfold maxLen; omega) (by omega) (by simp; omega) _ rfl ?_; intro g6 cp6 w6 hown6 hgrow6 hat6 hlt6)
        | fail)
      have HN : Hid (∃ us', Below w.heap.size w w6 ∧ RQ w6 w.heap.size (.slice (some ⟨g6, 0, none⟩) (j + 1) cp6) us' (havJ tl (o.take (j + 1))) ∧ ∃ g, (Value.slice (some ⟨g6, 0, none⟩) (j + 1) cp6).ownBlock = some g) := hid ⟨us ++ [.slice a3 pj.length k3], (hB3.alloc hs3 _).grown hgrow6 (by simp; omega) (fun q hq => (ho3'.lt q hq).1), (by
        rw [HPj.out]
        exact hQ3.step (own_base ho3 (Nat.le_trans HB.out.size hb2.size)) (fun i hi g h1 h2 => by
          have a1 := ((HQ.out.each i hi).lt g h1).2
          have a2 := (ho3.lt g h2).1
          have := hb2.size
          omega) (by rw [hlj]; exact hown6) hgrow6), _, rfl⟩
      clear hown6 hgrow6 hat6 hlt6 hQ3 hB3 ho3' ho3 hI2 hb2 hb3
      go_roundw
      case rel => exact ⟨j + 1, _, by omega, by go_num, rfl, HN⟩
      case measure => simp [intOf]; omega
    · obtain rfl : j = n := by omega
      have i1 : ¬ ((j : Int) < (j : Int)) := by omega
      rw [HPn.out] at HQ
      clear HC KE KW HP HPl HPn
      go_wp2_with fail
      go_ret
      exact ⟨vv, rfl, ⟨us, HQ.out⟩, HG.out, HB.out⟩

end Go.Proofs.YtoodbpijgnbfjaaGreat

namespace Go.Proofs.YtoodbpijgnbfjaaGreat
open Go.RowKit Meet

structure JMx (x : JX) (nxt : List Int → List Int) (no : Nat) : Prop where
  mem : ∀ t, t < x.nT → ∀ q, x.D t q → ∀ y, y ∈ x.N t q ↔ x.D t (q ++ [y])
  asc : ∀ t, t < x.nT → ∀ q, x.D t q → (x.N t q).Pairwise (· < ·)
  len : ∀ t, t < x.nT → ∀ q, x.D t q → (x.N t q).length ≤ 1000000
  lT : x.nT ≤ 1000
  lo : no ≤ 1000
  hl : x.hav.length = no
  hav : ∀ k, k < no → x.hav.getD k [] = plc (fun t => x.H t k) x.nT
  some : ∀ k, k < no → ∃ t, t < x.nT ∧ x.H t k = true
  more : ∀ p, p.length < no → (∀ t, t < x.nT → x.D t (prt (x.H t) p)) → ∀ t, t < x.nT → x.H t p.length = true → 0 < (x.N t (prt (x.H t) p)).length
  nx : ∀ p, p.length < no → (∀ t, t < x.nT → x.D t (prt (x.H t) p)) → ∀ g, g < x.nT → x.H g p.length = true → nxt p = (x.N g (prt (x.H g) p)).filter fun y => (plc (fun t => x.H t p.length) x.nT).all fun t => decide (y ∈ x.N t.toNat (prt (x.H t.toNat) p))
def JX.Hd (x : JX) (p : List Int) : Prop := ∀ t, t < x.nT → x.D t (prt (x.H t) p)
def JX.tk (x : JX) (p : List Int) (j : Nat) : Nat := ((plc (fun t => x.H t p.length) x.nT).getD j 0).toNat
def JX.nh (x : JX) (p : List Int) : Nat := (plc (fun t => x.H t p.length) x.nT).length
def JX.nd (x : JX) (p : List Int) (j : Nat) : Nat := x.f (x.tk p j) (prt (x.H (x.tk p j)) p)
def JX.vl (x : JX) (p : List Int) (j : Nat) : List Int := x.N (x.tk p j) (prt (x.H (x.tk p j)) p)
theorem JX.tk_ok (x : JX) (p : List Int) {j : Nat} (hj : j < x.nh p) : x.tk p j < x.nT ∧ x.H (x.tk p j) p.length = true ∧ (plc (fun t => x.H t p.length) x.nT).getD j 0 = (x.tk p j : Int) := by
  have hm : (plc (fun t => x.H t p.length) x.nT).getD j 0 ∈ plc (fun t => x.H t p.length) x.nT := mem_getD hj
  unfold plc at hm
  obtain ⟨i, hi, e⟩ := List.mem_map.1 hm
  obtain ⟨h1, h2⟩ := List.mem_filter.1 hi
  have e2 : x.tk p j = i := by
    unfold JX.tk
    unfold plc
    rw [← e]
    rfl
  rw [e2]
  exact ⟨List.mem_range.1 h1, h2, by unfold plc; exact e.symm⟩
theorem JX.tk_all (x : JX) (p : List Int) {t : Nat} (ht : t < x.nT) (hH : x.H t p.length = true) : ∃ j, j < x.nh p ∧ x.tk p j = t := by
  have hm : (t : Int) ∈ plc (fun t => x.H t p.length) x.nT := by
    unfold plc
    exact List.mem_map.2 ⟨t, List.mem_filter.2 ⟨List.mem_range.2 ht, hH⟩, rfl⟩
  obtain ⟨j, hj, e⟩ := getD_mem hm
  exact ⟨j, hj, by unfold JX.tk; rw [e]; omega⟩
def JX.all (x : JX) (p : List Int) (y : Int) : Bool := (List.range (x.nh p)).all fun j => decide (y ∈ x.vl p j)
theorem JX.all_eq (x : JX) (p : List Int) (y : Int) : ((plc (fun t => x.H t p.length) x.nT).all fun t => decide (y ∈ x.N t.toNat (prt (x.H t.toNat) p))) = x.all p y := by
  rw [Bool.eq_iff_iff, List.all_eq_true]
  unfold JX.all
  rw [List.all_eq_true]
  constructor
  · intro h j hj
    exact h _ (mem_getD (List.mem_range.1 hj))
  · intro h t ht
    obtain ⟨j, hj, e⟩ := getD_mem ht
    have := h j (List.mem_range.2 hj)
    unfold JX.vl JX.tk at this
    rw [e] at this
    exact this

structure LG (x : JX) (B : Nat) (wr : World) (bB bH cu cc : Nat) (vp vb vt : Value) (p : List Int) (q : Nat → Nat) : Prop where
  dat : Dat x wr
  brn : Brn x x.n0 wr vp vb p
  bx : BrX wr bB vp vb
  lB : x.n0 ≤ bB
  bh : wr.heap[bH]? = some (.cells #[vt] 33 (0, 0))
  lH : x.n0 ≤ bH
  nr : ¬ RBk x wr bH
  hB : x.n0 ≤ B
  cur : wr.ownsRow B 153 2 (.slice (some ⟨cu, 0, none⟩) (x.nh p) cc) (x.nh p) (curC (x.nd p) q (x.nh p))
section
variable {x : JX} {B : Nat} {X Y : World} {bB bH cu cc : Nat} {vp vb vt : Value} {p : List Int} {q : Nat → Nat}
theorem LG.below (h : LG x B X bB bH cu cc vp vb vt p q) (hx : x.Ok) (hb : Below X.heap.size X Y) : LG x B Y bB bH cu cc vp vb vt p q := by
  have hlt := h.bx.lt
  have hk : KT x.n0 X Y := KT.of_below hb (by have := h.lB; omega)
  exact ⟨h.dat.kt hk hx, h.brn.below hb, h.bx.below hb, h.lB, (hb.block _ (lt_some h.bh)).trans h.bh, h.lH, fun h1 => h.nr ((RBk.eq (hk.bel.block _ hx.r) _).1 h1), h.hB, own_below h.cur hb⟩
theorem LG.kp {S : Nat → Prop} (h : LG x B X bB bH cu cc vp vb vt p q) (hx : x.Ok) (hk : KpS x S X Y) : LG x B Y bB bH cu cc vp vb vt p q := by
  have hs := hk.sb hx h.dat.ty
  refine ⟨h.dat.kp hk hx, h.brn.sb hs (Nat.le_refl _), (hs.same _ _ _ _ h.lB h.bx (by decide) (by decide) (Or.inl (by decide))).trans h.bx, h.lB, (hs.same _ _ _ _ h.lH h.bh (by decide) (by decide) (Or.inr h.nr)).trans h.bh, h.lH, hk.nr (lt_some h.bh) h.nr, h.hB, own_move h.cur fun g hg => ?_⟩
  obtain ⟨cur, hc⟩ := own_typ h.cur hg
  exact (hk.same g _ hc (Or.inl rfl) (KpS.not hx h.dat.ty (Nat.le_trans h.hB (h.cur.lt g hg).1) hc (Or.inl (by decide)))).trans hc.symm
theorem curC_set (nd q : Nat → Nat) (n i v : Nat) (hi : i < n) : (curC nd q n).set (i * 2 + 1) (.int .i64 v) = curC nd (fun j => if j = i then v else q j) n := by
  induction n with
  | zero => omega
  | succ n ih =>
    rw [curC_succ, curC_succ]
    by_cases e : i < n
    · rw [List.set_append_left _ _ (by rw [curC_len]; omega), ih e, if_neg (by omega)]
    · obtain rfl : i = n := by omega
      rw [List.set_append_right _ _ (by rw [curC_len]; omega), curC_len, if_pos rfl, show i * 2 + 1 - i * 2 = 1 by omega]
      congr 1
      unfold curC
      simp only [List.flatMap]
      congr 1
      refine List.map_congr_left fun j hj => ?_
      rw [if_neg (by have := List.mem_range.1 hj; omega)]
theorem LG.seek (h : LG x B X bB bH cu cc vp vb vt p q) (hx : x.Ok) {i : Nat} (hi : i < x.nh p) (v : Nat) : LG x B (X.setCell ⟨cu, i * 2 + 1, none⟩ (.int .i64 v)) bB bH cu cc vp vb vt p (fun j => if j = i then v else q j) ∧ KT B X (X.setCell ⟨cu, i * 2 + 1, none⟩ (.int .i64 v)) := by
  obtain ⟨cur, hc⟩ := own_typ h.cur (g := cu) rfl
  have hcu := (h.cur.lt cu rfl).1
  have hkt : KT B X (X.setCell ⟨cu, i * 2 + 1, none⟩ (.int .i64 v)) := KT.set _ hcu hc (Or.inl rfl)
  have hk := hkt.mono h.hB
  have hs := hk.sb (x := x)
  refine ⟨⟨h.dat.kt hk hx, h.brn.sb hs (Nat.le_refl _), (hs.same _ _ _ _ h.lB h.bx (by decide) (by decide) (Or.inl (by decide))).trans h.bx, h.lB, (hs.same _ _ _ _ h.lH h.bh (by decide) (by decide) (Or.inr h.nr)).trans h.bh, h.lH, fun h1 => h.nr ((RBk.eq (hk.bel.block _ hx.r) _).1 h1), h.hB, ?_⟩, hkt⟩
  have := (h.cur.stored (i * 2 + 1) (.int .i64 v)).1
  rw [curC_set _ _ _ _ _ hi] at this
  exact this
theorem LG.cq (h : LG x B X bB bH cu cc vp vb vt p q) {nxt : List Int → List Int} {no : Nat} (hm : JMx x nxt no) (hp : p.length < no) (hd : x.Hd p) {i : Nat} (hi : i < x.nh p) : ∃ fb cap gb cb, Cq X cu (i * 2) (x.nd p i) fb cap (.slice (some ⟨gb, 0, none⟩) (x.vl p i).length cb) (x.vl p i) (q i) ∧ (x.vl p i).length ≤ cap ∧
    ∀ j, j < (x.vl p i).length → X.cell? ⟨gb, j, none⟩ = some (.pointer (some ⟨x.f (x.tk p i) (prt (x.H (x.tk p i)) p ++ [(x.vl p i).getD j 0]), 0, none⟩)) := by
  obtain ⟨h1, h2, -⟩ := x.tk_ok p hi
  have hT := h.dat.tr _ h1
  have hD := hd _ h1
  have h0 := hm.more p hp hd _ h1 h2
  have ho0 := hT.o0 _ hD
  have ho1 := hT.o1 _ hD
  obtain ⟨ga, ca, ea, -⟩ := own_at ho0 h0
  obtain ⟨gb, cb, eb, -⟩ := own_at ho1 h0
  have hca : (x.vl p i).length ≤ ca := by
    rcases ho0.2 with ⟨-, h2⟩ | ⟨g, cap, cur, e, -, -, hn, -⟩
    · exact absurd h2 (by omega)
    · rw [ea] at e
      simp only [Value.slice.injEq] at e
      have : (x.vl p i).length ≤ cap := hn
      omega
  obtain ⟨g1, g2⟩ := curC_get (x.nd p) q (x.nh p) i hi
  refine ⟨ga, ca, gb, cb, ⟨?_, ?_, ?_, ?_, ?_, fun j hj => ?_⟩, hca, fun j hj => ?_⟩
  · rw [h.cur.cellAt (i * 2) (by omega)]; exact g1
  · rw [h.cur.cellAt (i * 2 + 1) (by omega)]; exact g2
  · exact h.cur.frozenAt _
  · have := hT.c0 hD; rw [ea] at this; exact this
  · have := hT.c1 hD; rw [eb] at this; exact this
  · have hj' : j < (x.N (x.tk p i) (prt (x.H (x.tk p i)) p)).length := hj
    obtain ⟨g, c, e, h3⟩ := own_at ho0 hj
    rw [ea] at e
    simp only [Value.slice.injEq, Option.some.injEq, Addr.mk.injEq] at e
    rw [e.1.1, h3, List.getElem?_map, List.getElem?_eq_getElem hj']
    show _ = some (Value.int .i64 ((x.N (x.tk p i) (prt (x.H (x.tk p i)) p)).getD j 0))
    rw [List.getD_eq_getElem?_getD, List.getElem?_eq_getElem hj']
    rfl
  · have hj' : j < (x.N (x.tk p i) (prt (x.H (x.tk p i)) p)).length := hj
    obtain ⟨g, c, e, h3⟩ := own_at ho1 hj
    rw [eb] at e
    simp only [Value.slice.injEq, Option.some.injEq, Addr.mk.injEq] at e
    rw [e.1.1, h3, List.getElem?_map, List.getElem?_eq_getElem hj']
    show _ = some (Value.pointer (some ⟨x.f (x.tk p i) (prt (x.H (x.tk p i)) p ++ [(x.N (x.tk p i) (prt (x.H (x.tk p i)) p)).getD j 0]), 0, none⟩))
    rw [List.getD_eq_getElem?_getD, List.getElem?_eq_getElem hj']
    rfl
end

end Go.Proofs.YtoodbpijgnbfjaaGreat

namespace Go.Proofs.YtoodbpijgnbfjaaGreat
open Go.RowKit Meet

def TrO (B : Nat) (W : World) (rows : List (List Int)) (c : Option Addr) : Prop := rows = [] ∧ c = none ∨ rows ≠ [] ∧ ∃ D N f g0 g1, c = some ⟨f [], 0, none⟩ ∧ TM rows D N ∧ TR W B D N N f g0 g1 ∧ ∀ p, D p → (N p).length ≤ rows.length
theorem TR.move {W W' : World} {B : Nat} {D : List Int → Prop} {N0 N1 : List Int → List Int} {f : List Int → Nat} {g0 g1 : List Int → Value} (h : TR W B D N0 N1 f g0 g1) (hk : ∀ k, B ≤ k → k < W.heap.size → W'.heap[k]? = W.heap[k]?) : TR W' B D N0 N1 f g0 g1 :=
  ⟨fun p hp => (hk _ (h.low p hp) (h.lt hp)).trans (h.blk p hp), h.low, fun p hp => own_move (h.o0 p hp) fun g hg => hk g ((h.o0 p hp).lt g hg).1 ((h.o0 p hp).lt g hg).2, fun p hp => own_move (h.o1 p hp) fun g hg => hk g ((h.o1 p hp).lt g hg).1 ((h.o1 p hp).lt g hg).2, h.inj, h.a0, h.a1⟩
def ElT (B bx : Nat) (v : Value) (W : World) (rows : List (List Int)) (c : Option Addr) : Prop := ∀ W', (∀ k, k < W.heap.size → v.ownBlock ≠ some k → k ≠ bx → W'.heap[k]? = W.heap[k]?) → TrO B W' rows c
structure RtS (W : World) (B bx : Nat) (v : Value) (rl : List (List (List Int))) (cs : List (Option Addr)) : Prop where
  own : W.ownsRow B 96 1 v rl.length (cs.map Value.pointer)
  len : cs.length = rl.length
  el : ∀ t, t < rl.length → ElT B bx v W (rl.getD t []) (cs.getD t none)
theorem RtS.below {W W' : World} {B bx : Nat} {v : Value} {rl : List (List (List Int))} {cs : List (Option Addr)} (h : RtS W B bx v rl cs) (hb : Below W.heap.size W W') : RtS W' B bx v rl cs :=
  ⟨own_below h.own hb, h.len, fun t ht X hX => h.el t ht X fun k hk h1 h2 => by rw [hX k (Nat.lt_of_lt_of_le hk hb.size) h1 h2]; exact hb.block k hk⟩
theorem RtS.push {wr W w3 : World} {B bx g c : Nat} {v y : Value} {rl : List (List (List Int))} {cs : List (Option Addr)} {rows : List (List Int)} {ca : Option Addr} {o : Obj} (h : RtS wr B bx v rl cs) (hB : B ≤ wr.heap.size) (hbx : bx < wr.heap.size) (hb : Below wr.heap.size wr W) (he : TrO wr.heap.size W rows ca) (hg : (W.alloc o).grownBy w3 v.ownBlock)
    (hown : w3.ownsRow B 96 1 (.slice (some ⟨g, 0, none⟩) (rl.length + 1) c) (rl.length + 1) (cs.map Value.pointer ++ [.pointer ca])) (hat : v.ownBlock = some g ∨ g = (W.alloc o).heap.size) (hgb : g ≠ bx) :
    RtS (w3.setCell ⟨bx, 1, none⟩ y) B bx (.slice (some ⟨g, 0, none⟩) (rl.length + 1) c) (rl ++ [rows]) (cs ++ [ca]) := by
  have hs := hb.size
  have hs3 := hg.size
  rw [World.size_alloc] at hs3 hat
  have hsz : (w3.setCell ⟨bx, 1, none⟩ y).heap.size = w3.heap.size := by simp [World.setCell]
  refine ⟨?_, by simp [h.len], fun t ht W' hW' => ?_⟩
  · rw [List.length_append, List.length_singleton, List.map_append]
    refine own_move hown fun k hk => Below.heap_setCell _ _ _ _ fun e => ?_
    have : k = g := by simpa [Value.ownBlock] using hk.symm
    exact hgb (this.symm.trans e)
  have key : ∀ k, k < W.heap.size → v.ownBlock ≠ some k → g ≠ k → k ≠ bx → W'.heap[k]? = W.heap[k]? := fun k hk h1 h2 h3 => by
    rw [hW' k (by rw [hsz]; omega) (fun e => h2 (by simpa [Value.ownBlock] using e)) h3, Below.heap_setCell _ _ _ _ (by exact h3), hg.block k (by rw [World.size_alloc]; omega) (fun e => h1 e.symm)]
    exact Below.heap_alloc _ _ _ hk
  have hvl : ∀ k, v.ownBlock = some k → k < wr.heap.size := fun k hk => (h.own.lt k hk).2
  rw [List.length_append, List.length_singleton] at ht
  by_cases e : t < rl.length
  · have e1 : (rl ++ [rows]).getD t [] = rl.getD t [] := by rw [List.getD_eq_getElem?_getD, List.getElem?_append_left e, ← List.getD_eq_getElem?_getD]
    have e2 : (cs ++ [ca]).getD t none = cs.getD t none := by rw [List.getD_eq_getElem?_getD, List.getElem?_append_left (by rw [h.len]; exact e), ← List.getD_eq_getElem?_getD]
    rw [e1, e2]
    refine h.el t e W' fun k hk h1 h3 => ?_
    rw [key k (by omega) h1 (fun e => ?_) h3]
    · exact hb.block k hk
    · subst e
      rcases hat with h2 | h2
      · exact h1 h2
      · omega
  · have ht' : t = rl.length := by omega
    subst ht'
    have e1 : (rl ++ [rows]).getD rl.length [] = rows := by rw [List.getD_eq_getElem?_getD, List.getElem?_append_right (Nat.le_refl _), Nat.sub_self]; rfl
    have e2 : (cs ++ [ca]).getD rl.length none = ca := by rw [List.getD_eq_getElem?_getD, List.getElem?_append_right (by rw [h.len]; exact Nat.le_refl _), h.len, Nat.sub_self]; rfl
    rw [e1, e2]
    rcases he with ⟨h1, h2⟩ | ⟨h1, D, N, f, g0, g1, h2, h3, h4, h5⟩
    · exact Or.inl ⟨h1, h2⟩
    · refine Or.inr ⟨h1, D, N, f, g0, g1, h2, h3, (h4.move fun k hk1 hk2 => key k hk2 (fun e => ?_) (fun e => ?_) (by omega)).base hB, h5⟩
      · have := hvl k e; omega
      · subst e
        rcases hat with h6 | h6
        · have := hvl _ h6; omega
        · omega
def plO (vs : List Int) (o : List Int) : List Int := (o.filter fun v => decide (v ∈ vs)).map fun v => (bsQ vs v : Int)
theorem plO_snoc (vs o : List Int) (v : Int) : plO vs (o ++ [v]) = plO vs o ++ (if v ∈ vs then [(bsQ vs v : Int)] else []) := by
  unfold plO
  rw [List.filter_append, List.map_append]
  congr 1
  by_cases h : v ∈ vs
  · rw [if_pos h]; simp [h]
  · rw [if_neg h]; simp [h]
theorem bsF_mem {vs : List Int} (ha : vs.Pairwise (· < ·)) (v : Int) : bsF vs v = decide (v ∈ vs) := by
  unfold bsF
  by_cases h : v ∈ vs
  · obtain ⟨h1, h2⟩ := bs_hit (asc_of ha) h
    rw [decide_eq_true h, decide_eq_true h1, decide_eq_true h2]
    rfl
  · rw [decide_eq_false h]
    by_cases h1 : bsQ vs v < vs.length
    · rw [decide_eq_true h1, decide_eq_false (bs_miss h h1)]; rfl
    · rw [decide_eq_false h1]; rfl
theorem plO_in {vs o : List Int} (ha : vs.Pairwise (· < ·)) : ∀ q ∈ plO vs o, 0 ≤ q ∧ q < vs.length := fun q hq => by
  obtain ⟨v, hv, rfl⟩ := List.mem_map.1 hq
  have := (bs_hit (asc_of ha) (of_decide_eq_true (List.mem_filter.1 hv).2)).1
  omega
theorem plO_rows {vs o : List Int} (ha : vs.Pairwise (· < ·)) (rows : List (List Int)) : prjL rows (plO vs o) = rows.map (prjR vs (shr o vs)) := by
  unfold prjL
  refine List.map_congr_left fun r _ => ?_
  unfold atP plO prjR shr
  rw [List.map_map]
  refine List.map_congr_left fun v hv => ?_
  obtain ⟨h1, h2⟩ := bs_hit (asc_of ha) (of_decide_eq_true (List.mem_filter.1 hv).2)
  show r.getD ((bsQ vs v : Int)).toNat 0 = vlF vs r v
  rw [show ((bsQ vs v : Int)).toNat = bsQ vs v by omega]
  have := vlF_at vs r (bsQ vs v) ha h1
  rw [h2] at this
  exact this.symm

end Go.Proofs.YtoodbpijgnbfjaaGreat
