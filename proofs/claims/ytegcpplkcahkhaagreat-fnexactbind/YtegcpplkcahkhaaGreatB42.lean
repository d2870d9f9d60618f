import Derived.Deep.RegionHeld3
import Derived.Test.YtegcpplkcahkhaaGreatB24
import Derived.Test.YtegcpplkcahkhaaGreatB33
import Derived.Test.YtegcpplkcahkhaaGreatB41
/-
  What impl.boundTable answers; a table's block; a table with its lists.
-/
namespace Go.Proofs.YtegcpplkcahkhaaGreat
open Go.RowKit

/-- the places of the variables' values -/
def colP (V : List ByteArray) (ts : List TermV) : List Int := (vrs V ts).map fun v => (((lastO ts ts.length (V.getD v noTx)).getD 0 : Nat) : Int)
theorem colP_len (V : List ByteArray) (ts : List TermV) : (colP V ts).length = (vrs V ts).length := by simp [colP]
theorem colP_in {V : List ByteArray} {ts : List TermV} {n : Nat} (hn : ts.length ≤ n) : ∀ p ∈ colP V ts, 0 ≤ p ∧ p < (n : Int) := by
  intro p hp
  obtain ⟨v, hv, rfl⟩ := List.mem_map.1 hp
  obtain ⟨-, h2⟩ := vrs_mem.1 hv
  cases hq : lastO ts ts.length (V.getD v noTx) with
  | none => rw [hq] at h2; cases h2
  | some q =>
    have := lastO_lt hq
    simp only [Option.getD_some]
    omega
theorem colP_succ {V : List ByteArray} {ts : List TermV} {p : Nat} (h : p < (vrs V ts).length) : ((colP V ts).take (p + 1)).map (Value.int .i64) = ((colP V ts).take p).map (Value.int .i64) ++ [.int .i64 (((lastO ts ts.length (V.getD ((vrs V ts).getD p 0) noTx)).getD 0 : Nat) : Int)] := by
  have e : (vrs V ts).getD p 0 = (vrs V ts)[p] := by simp [List.getD_eq_getElem?_getD, h]
  rw [e, List.take_add_one, colP, List.getElem?_map, List.getElem?_eq_getElem h, List.map_append]; rfl

/-- what fits among the first i rows: the variables' values, the weight -/
def fndL (V : List ByteArray) (ts : List TermV) (rows : List (List Int)) (ws : List Int) (i : Nat) : List (List Int × Int) :=
  ((List.range i).filter fun j => fitB ts (rows.getD j [])).map fun j => (atP (rows.getD j []) (colP V ts), ws.getD j 0)
theorem fndL_no {V : List ByteArray} {ts : List TermV} {rows : List (List Int)} {ws : List Int} {i : Nat} (h : fitB ts (rows.getD i []) = false) : fndL V ts rows ws (i + 1) = fndL V ts rows ws i := by
  unfold fndL
  rw [List.range_succ, List.filter_append, List.filter_cons_of_neg (p := fun j => fitB ts (rows.getD j [])) (by show ¬ fitB ts (rows.getD i []) = true; rw [h]; decide), List.filter_nil, List.append_nil]
theorem fndL_yes {V : List ByteArray} {ts : List TermV} {rows : List (List Int)} {ws : List Int} {i : Nat} (h : fitB ts (rows.getD i []) = true) : fndL V ts rows ws (i + 1) = fndL V ts rows ws i ++ [(atP (rows.getD i []) (colP V ts), ws.getD i 0)] := by
  unfold fndL
  rw [List.range_succ, List.filter_append, List.map_append]
  congr 1
  rw [List.filter_cons_of_pos (p := fun j => fitB ts (rows.getD j [])) h]
  rfl
theorem fndL_len (V : List ByteArray) (ts : List TermV) (rows : List (List Int)) (ws : List Int) (i : Nat) : (fndL V ts rows ws i).length ≤ i := by
  unfold fndL
  rw [List.length_map]
  exact Nat.le_trans (List.length_filter_le _ _) (by simp)

structure TbX (W : World) (p : Nat) (v0 v1 v2 : Value) : Prop where
  blk : W.heap[p]? = some (.cells #[v0, v1, v2] 60 (0, 0))
section
variable {W W' w3 : World} {p : Nat} {v0 v1 v2 : Value}
theorem TbX.lt (h : TbX W p v0 v1 v2) : p < W.heap.size := by
  rcases Nat.lt_or_ge p W.heap.size with h1 | h1
  · exact h1
  · have := h.blk; rw [Array.getElem?_eq_none h1] at this; cases this
theorem TbX.below (h : TbX W p v0 v1 v2) (hb : Below W.heap.size W W') : TbX W' p v0 v1 v2 := ⟨(hb.block p h.lt).trans h.blk⟩
theorem TbX.keep {B : Nat} (h : TbX W p v0 v1 v2) (hb : Below B W W') (hp : p < B) : TbX W' p v0 v1 v2 := ⟨(hb.block p hp).trans h.blk⟩
theorem TbX.c0 (h : TbX W p v0 v1 v2) : W.cell? ⟨p, 0, none⟩ = some v0 := by rw [cell_of_row _ _ _ _ _ _ h.blk]; rfl
theorem TbX.c1 (h : TbX W p v0 v1 v2) : W.cell? ⟨p, 1, none⟩ = some v1 := by rw [cell_of_row _ _ _ _ _ _ h.blk]; rfl
theorem TbX.c2 (h : TbX W p v0 v1 v2) : W.cell? ⟨p, 2, none⟩ = some v2 := by rw [cell_of_row _ _ _ _ _ _ h.blk]; rfl
theorem TbX.free (h : TbX W p v0 v1 v2) (j : Nat) : W.frozen? ⟨p, j, none⟩ = false := by unfold World.frozen?; rw [h.blk]; simp
theorem TbX.typ (h : TbX W p v0 v1 v2) : ∃ cur, W.heap[p]? = some (.cells cur 60 (0, 0)) := ⟨_, h.blk⟩
theorem TbX.made (W : World) (v0 v1 v2 : Value) : TbX (W.alloc (.cells #[v0, v1, v2] 60)) W.heap.size v0 v1 v2 := ⟨heap_alloc_new _ _⟩
theorem TbX.set0 (h : TbX W p v0 v1 v2) (y : Value) : TbX (W.setCell ⟨p, 0, none⟩ y) p y v1 v2 := ⟨by rw [heap_setCell_same _ _ _ _ _ _ h.blk]; rfl⟩
theorem TbX.set1 (h : TbX W p v0 v1 v2) (y : Value) : TbX (W.setCell ⟨p, 1, none⟩ y) p v0 y v2 := ⟨by rw [heap_setCell_same _ _ _ _ _ _ h.blk]; rfl⟩
theorem TbX.set2 (h : TbX W p v0 v1 v2) (y : Value) : TbX (W.setCell ⟨p, 2, none⟩ y) p v0 v1 y := ⟨by rw [heap_setCell_same _ _ _ _ _ _ h.blk]; rfl⟩
theorem TbX.other (h : TbX W p v0 v1 v2) {q j : Nat} (hne : p ≠ q) (y : Value) : TbX (W.setCell ⟨q, j, none⟩ y) p v0 v1 v2 := ⟨(Below.heap_setCell _ _ _ _ hne).trans h.blk⟩
end

theorem own_keepT {W : World} {B n s p off : Nat} {e : TypeId} {v y : Value} {xs : List Value} (h : W.ownsRow B e s v n xs) (ht : ∃ cur, W.heap[p]? = some (.cells cur 60 (0, 0))) (hne : e ≠ 60) : (W.setCell ⟨p, off, none⟩ y).ownsRow B e s v n xs :=
  own_move h fun g hg => Below.heap_setCell _ _ _ _ (by
    rintro rfl
    exact own_ne h ht hne hg.symm)
theorem typ_setT {W : World} {p q off : Nat} {y : Value} (ht : ∃ cur, W.heap[p]? = some (.cells cur 60 (0, 0))) : ∃ cur, (W.setCell ⟨q, off, none⟩ y).heap[p]? = some (.cells cur 60 (0, 0)) := by
  obtain ⟨cur, h⟩ := ht
  by_cases e : p = q
  · subst e; exact ⟨_, heap_setCell_same _ _ _ _ _ _ h⟩
  · exact ⟨cur, (Below.heap_setCell _ _ _ _ e).trans h⟩

theorem TW.set {W : World} {B p off : Nat} {v0 v1 v2 y : Value} {us : List Value} {vs ws : List Int} {rows : List (List Int)} (h : TW W B v0 v1 v2 us vs rows ws) (ht : ∃ cur, W.heap[p]? = some (.cells cur 60 (0, 0))) : TW (W.setCell ⟨p, off, none⟩ y) B v0 v1 v2 us vs rows ws :=
  ⟨own_keepT h.o0 ht (by decide), ⟨own_keepT h.rq.own ht (by decide), h.rq.len, fun i hi => own_keepT (h.rq.each i hi) ht (by decide), h.rq.ap⟩, own_keepT h.o2 ht (by decide), h.a02, h.a0, h.a2⟩

theorem vrsI_get {V : List ByteArray} {ts : List TermV} {p : Nat} (h : p < (vrsI V ts).length) : ∃ v q : Nat, (vrsI V ts).getD p 0 = (v : Int) ∧ v < V.length ∧ lastO ts ts.length (V.getD v noTx) = some q ∧ ((colP V ts).take (p + 1)).map (Value.int .i64) = ((colP V ts).take p).map (Value.int .i64) ++ [.int .i64 (q : Int)] := by
  have h' : p < (vrs V ts).length := by simpa [vrsI] using h
  have hm : (vrs V ts).getD p 0 ∈ vrs V ts := by rw [List.getD_eq_getElem?_getD, List.getElem?_eq_getElem h']; exact List.getElem_mem _
  obtain ⟨h1, h2⟩ := vrs_mem.1 hm
  obtain ⟨q, hq⟩ := Option.isSome_iff_exists.1 h2
  refine ⟨(vrs V ts).getD p 0, q, ?_, h1, hq, ?_⟩
  · rw [List.getD_eq_getElem?_getD, vrsI, List.getElem?_map, List.getElem?_eq_getElem h', List.getD_eq_getElem?_getD, List.getElem?_eq_getElem h']; rfl
  · rw [colP_succ h', hq]; rfl
theorem colP_all (V : List ByteArray) (ts : List TermV) : (colP V ts).take (vrsI V ts).length = colP V ts := by
  rw [show (vrsI V ts).length = (colP V ts).length by simp [vrsI, colP], List.take_length]

theorem zip_wt (es : List WtV) : (wls es).zip (wws es) = es.map fun e => e.2 := by
  unfold wls wws
  rw [List.zip_map']
theorem bt_end {w3 w4 w6 : World} {B : Nat} {v0 vR vW : Value} {vs : List Int} {es' : List WtV} (ho : w3.ownsRow B 3 1 v0 vs.length (vs.map (Value.int .i64))) (hB : B ≤ w3.heap.size) (h34 : Below w3.heap.size w3 w4) (h46 : Below w4.heap.size w4 w6)
    (hRQ : RQ w6 w4.heap.size vR (wus es') (wls es')) (hoW : w6.ownsRow w4.heap.size 3 1 vW (wws es').length ((wws es').map (Value.int .i64))) (hap : ∀ i, i < es'.length → ApW ((wus es').getD i undef) vW) : TW w6 B v0 vR vW (wus es') vs (wls es') (wws es') := by
  have hs := h34.size
  have hl : (wls es').length = es'.length := by simp [wls]
  refine ⟨own_below ho (bt h34 h46), hRQ.base (by omega), own_base hoW (by omega), fun g h1 h2 => ?_, fun i hi g h1 h2 => ?_, fun i hi => hap i (by omega)⟩
  · have h3 := (ho.lt g h1).2
    have h4 := (hoW.lt g h2).1
    omega
  · have h3 := (ho.lt g h2).2
    have h4 := ((hRQ.each i hi).lt g h1).1
    omega

/-- what boundTable is asked for -/
structure BtH (V : List ByteArray) (ts : List TermV) (r : RelV) : Prop where
  len : ∀ j, j < r.rows.length → (r.rows.getD j []).length = ts.length
  tl : ts.length ≤ 3
  n : r.rows.length ≤ 2000
  wl : r.ws.length = r.rows.length
  hz : ∀ i, i < ts.length → (ts.getD i noTm).1.toList.isEmpty = false → (ts.getD i noTm).2 = 0
  all : ∀ i, i < ts.length → (ts.getD i noTm).1.toList.isEmpty = false → hasT V (ts.getD i noTm).1 = true
  ne : ∀ v, v < V.length → (V.getD v noTx).toList.isEmpty = false
  vl : V.length ≤ 6
  sz : ∀ i, i < ts.length → (ts.getD i noTm).1.size ≤ 1048576

end Go.Proofs.YtegcpplkcahkhaaGreat

/-
  impl.boundTable.
-/
namespace Go.Proofs.YtegcpplkcahkhaaGreat
open Go.RowKit Go.Maps

/-- how impl.boundTable ends -/
def BtE (w : World) (V : List ByteArray) (ts : List TermV) (r : RelV) (e : Ending) (w' : World) : Prop := ∃ v0 v1 v2 us rows ws, e = .returned (.agg #[v0, v1, v2]) ∧ TW w' w.heap.size v0 v1 v2 us (vrsI V ts) rows ws ∧ rows.length = ws.length ∧ (rows.zip ws).Perm (fndL V ts r.rows r.ws r.rows.length) ∧ (rows.Pairwise fun a b => ¬ cmpL b a < 0) ∧ Below w.heap.size w w'

set_option maxHeartbeats 16000000 in
set_option maxRecDepth 1000000 in
theorem boundTable_calls (w : World) (nm : ByteArray) (ar : Int) (vr vw vt : Value) (r : RelV) (ts : List TermV) (nb : Nat) (V : List ByteArray) (hI : IRel w vr vw r) (ht : ITm w vt ts) (hN : Numb w nb V) (H : BtH V ts r) :
    Calls Tryz.prog 32 #[.agg #[.string nm, .int .i64 ar, vr, vw], vt, .map (some nb)] w (BtE w V ts r) := by
  obtain ⟨iT, hi, hz0, hz1, hz2⟩ := info_parts Tryz.infoSI
  obtain ⟨W0, hW0⟩ : ∃ W, W = (w.alloc (.cells #[.string nm, .int .i64 ar, vr, vw] 65)).alloc (.cells #[.slice none 0 0, .slice none 0 0, .slice none 0 0] 60) := ⟨_, rfl⟩
  have HB0 : Hid (Below w.heap.size w W0) := hid (by rw [hW0]; exact ((Below.refl _ _).alloc (Nat.le_refl _) _).alloc (by simp) _)
  have HR0 : Hid (RX W0 w.heap.size (.string nm) (.int .i64 ar) vr vw) := hid (by rw [hW0]; exact (RX.made _ _ _ _ _).below ((Below.refl _ _).alloc (Nat.le_refl _) _))
  have HP0 : Hid (TbX W0 (w.heap.size + 1) (.slice none 0 0) (.slice none 0 0) (.slice none 0 0)) := hid (by
    have := TbX.made (w.alloc (.cells #[.string nm, .int .i64 ar, vr, vw] 65)) (.slice none 0 0) (.slice none 0 0) (.slice none 0 0)
    rw [World.size_alloc] at this
    rw [hW0]; exact this)
  have KV := hid (variablePlaces_calls W0 vt ts nb V (ht.below HB0.out) (hN.bel HB0.out) (by have := H.tl; omega) (by have := H.vl; omega) H.ne H.all H.sz)
  have HH := hid H
  have HI := hid hI
  have HT := hid ht
  obtain ⟨a1, k1, e1, -⟩ := hI.rows
  obtain ⟨a2, k2, e2, -⟩ := hI.ws
  obtain ⟨a3, k3, e3, -⟩ := ht
  subst e1 e2 e3
  clear hI hN H
  have KK : Hid (∀ (mb : Nat) W, Calls Tryz.prog 60 #[.map (some mb)] W fun e w' => e = .returned (.func (.func 86) #[] #[.pointer (some ⟨W.heap.size, 0, none⟩)]) ∧ w' = W.alloc (.cells #[.map (some mb)] 108)) := hid fun mb W => keysB_calls (some mb) W
  generalize hln : ts.length = nt at *
  generalize hrn : r.rows.length = nr at *
  generalize hwn : r.ws.length = nw at *
  go_enter Tryz.func32, Tryz.ntmps32
  go_upto_region 1 with fail
  rw [← hW0]
  clear hW0
  go_upto_region 2 with (first | (go_at_call 58; refine KV.out.mono ?_; rintro e W1 ⟨b1, rfl, hb1, ⟨D, nn, hvp⟩, hB1⟩) | fail)
  have HVp := hid hvp
  have KS := hid (sortedB_calls W1 b1 nn V ts D (by rw [hln]; exact hvp) (by rw [hln]; have := HH.out.tl; omega))
  have HB1 := hid hB1
  clear hvp KV hB1
  go_upto_region 3 with (first | (go_at_call 60; refine (KK.out b1 W1).mono ?_; rintro e w2 ⟨rfl, rfl⟩) | (go_at_call 59; refine KS.out.mono ?_; rintro e W2 ⟨v0, rfl, ho0, hB2⟩; obtain ⟨a0, k0, e0⟩ := own_shapeW ho0; subst e0) | fail)
  have HT8 : Hid (TbX (W2.alloc (.cells #[.slice a0 (vrsI V ts).length k0, .slice none 0 0, .slice none 0 0] 60)) W2.heap.size (.slice a0 (vrsI V ts).length k0) (.slice none 0 0) (.slice none 0 0)) := hid (TbX.made W2 _ _ _)
  have hA1 : Below W1.heap.size W1 (W1.alloc (.cells #[.map (some b1)] 108)) := (Below.refl _ _).alloc (Nat.le_refl _) _
  have hA2 : Below W2.heap.size W2 (W2.alloc (.cells #[.slice a0 (vrsI V ts).length k0, .slice none 0 0, .slice none 0 0] 60)) := (Below.refl _ _).alloc (Nat.le_refl _) _
  have HB13 := hid (bt (bt hA1 hB2) hA2)
  have HB03 := hid (bt HB1.out HB13.out)
  have HO0 := hid (own_base (own_below ho0 hA2) (show w.heap.size ≤ _ by have h1 := HB0.out.size; have h2 := HB1.out.size; simp; omega))
  have hP8 : w.heap.size + 1 < W2.heap.size := by have h1 := HP0.out.lt; have h2 := HB1.out.size; have h3 := hB2.size; simp at h3; omega
  clear KS KK ho0 hB2 hA1 hA2
  obtain ⟨P8, hp8⟩ : ∃ P, P = W2.heap.size := ⟨_, rfl⟩
  rw [← hp8] at HT8 hP8 ⊢
  clear hp8
  obtain ⟨nv, hnv⟩ : ∃ n, n = (vrsI V ts).length := ⟨_, rfl⟩
  have HNV := hid hnv
  rw [← hnv] at HT8 HB13 HB03 HO0 ⊢
  generalize W2.alloc (.cells #[.slice a0 nv k0, .slice none 0 0, .slice none 0 0] 60) = W3 at *
  have HBw3 := hid (bt HB0.out HB03.out)
  have HRx := hid (HR0.out.below HB03.out)
  have HP6 := hid (HP0.out.below HB03.out)
  have HV3 := hid (HVp.out.bel HB13.out)
  have HC0 : Hid (∀ W, Below W3.heap.size W3 W → ∀ p, p < nv → ∃ b o, a0 = some ⟨b, o, none⟩ ∧ W.cell? ⟨b, o + p, none⟩ = some (.int .i64 ((vrsI V ts).getD p 0))) := hid fun W hW p hp => by
    obtain ⟨a', c', e', h'⟩ := own_is (by rw [← hnv]; exact HO0.out)
    simp only [Value.slice.injEq] at e'
    obtain ⟨rfl, -, -⟩ := e'
    rcases h' with h0 | ⟨b, o, rfl, h⟩
    · omega
    · exact ⟨b, o, rfl, bcl' hW (h p (by omega))⟩
  have HCol : Hid (∀ p, p < nv → ∃ v q : Nat, (vrsI V ts).getD p 0 = (v : Int) ∧ v < V.length ∧ lastO ts nt (V.getD v noTx) = some q ∧ ((colP V ts).take (p + 1)).map (Value.int .i64) = ((colP V ts).take p).map (Value.int .i64) ++ [.int .i64 (q : Int)]) := hid fun p hp => by
    have := vrsI_get (V := V) (ts := ts) (p := p) (by omega)
    rw [hln] at this
    exact this
  have hnvl : nv ≤ 6 := by
    rw [hnv]
    have h1 : (vrsI V ts).length ≤ V.length := by unfold vrsI vrs; rw [List.length_map]; exact Nat.le_trans (List.length_filter_le _ _) (by simp)
    have := HH.out.vl
    omega
  have hvl := HH.out.vl
  clear hnv HB1 HB13 HR0 HP0 HVp
  have d0 := HT8.out.c0
  go_wp2_with fail
  clear d0
  go_loopw [9, 25] (fun x t wr => ∃ (p : Nat) (vC : Value), p ≤ nv ∧ t = .int .i64 p ∧ vC = x ∧ Hid (Below W3.heap.size W3 wr ∧ wr.ownsRow W3.heap.size 3 1 vC p (((colP V ts).take p).map (Value.int .i64)))) (fun _ t _ => nv - (intOf t).toNat)
  case atStart => exact ⟨0, _, Nat.zero_le _, rfl, rfl, hid ⟨Below.refl _ _, World.ownsRow_nil _ _ _ _⟩⟩
  case round =>
    obtain ⟨p, vC, hpn, rfl, rfl, HG⟩ := hrel
    by_cases hlp : p < nv
    · have i1 : (p : Int) < (nv : Int) := by omega
      obtain ⟨b, o, ea, g0⟩ := HC0.out wr HG.out.1 p hlp
      subst ea
      obtain ⟨v, q, hv, hvl2, hlast, hsucc⟩ := HCol.out p hlp
      rw [hv] at g0
      have HS := hid hsucc
      have hvp := HV3.out.bel HG.out.1
      have hown := hvp.own
      have hq : q < nt := lastO_lt hlast
      have hat : ∀ c : Int, D.atKey (.int .i64 (v : Int)) (.lit (.int .i64 0)) = .lit (.int .i64 c) → c = (q : Int) := fun c hc => by
        have := hvp.val v hvl2 q hlast (.lit (.int .i64 0))
        rw [hc] at this
        simpa using this
      have hsz := HG.out.1.size
      clear hvp hsucc hlast hv
      go_wp2_with (first | (at_lookup; refine wpList_lookup_own_int _ rfl _ _ 108 rfl 3 3 .i64 Tryz.lawI Tryz.underlying108 Tryz.underlying3 (Tryz.zeroN _) b1 nn D rfl hown _ _ rfl (keyOf_int_mk Tryz.underlying3 (WalkArith.wf_i64 (by omega))) ?_; intro cL hatk hwc; obtain rfl := hat cL hatk) | (at_builtin; refine wpList_append_lies _ rfl _ _ 57 rfl W3.heap.size 3 iT (.int .i64 0) 1 8 Tryz.underlying57 hi hz0 hz1 hz2 rfl (by decide) vC _ _ rfl (HG.out.2.alloc _) ⟨_, 0, none⟩ 1 1 [.int .i64 (q : Int)] rfl rfl (new1_cell _ _ _) (fun u hu => by simp at hu; subst hu; rfl) (by decide) (by unfold maxLen; omega) (by omega) (by simp; omega) _ rfl ?_; intro g8 cp8 w8 hown8 hgrow8 hat8 hlt8) | fail)
      have HN2 : Hid (Below W3.heap.size W3 w8 ∧ w8.ownsRow W3.heap.size 3 1 (.slice (some ⟨g8, 0, none⟩) (p + 1) cp8) (p + 1) (((colP V ts).take (p + 1)).map (Value.int .i64))) := hid ⟨(HG.out.1.alloc hsz _).grown hgrow8 (by simp; omega) (fun j hj => (HG.out.2.lt j hj).1), by rw [HS.out]; exact hown8⟩
      clear hown8 hgrow8 hat8 hlt8 hown hatk hwc
      go_wp2_with fail
      go_roundw
      case rel => exact ⟨p + 1, _, by omega, by go_num, rfl, HN2⟩
      case measure => simp [intOf]; omega
    · obtain rfl : p = nv := by omega
      have i1 : ¬ ((p : Int) < (p : Int)) := by omega
      obtain ⟨iW, hj, hy0, hy1, hy2⟩ := info_parts Tryz.infoWt
      obtain ⟨aC, kC, eC⟩ := own_shapeW HG.out.2
      subst eC
      have HB4 := hid HG.out.1
      have HOC : Hid (wr.ownsRow W3.heap.size 3 1 (.slice aC p kC) (colP V ts).length ((colP V ts).map (Value.int .i64))) := hid (by
        have := HG.out.2
        rw [HNV.out, colP_all] at this
        rw [HNV.out, show (colP V ts).length = (vrsI V ts).length by simp [colP, vrsI]]
        exact this)
      clear HG HC0 HCol
      have HBw4 := hid (bt HBw3.out HB4.out)
      have HRx4 := hid (HRx.out.below HB4.out)
      generalize wr = W4 at *
      have HI4 : Hid (∀ W, Below W4.heap.size W4 W → IRel W (.slice a1 nr k1) (.slice a2 nw k2) r) := hid fun W hW => HI.out.below (bt HBw4.out hW)
      have HRow : Hid (∀ W, Below W4.heap.size W4 W → ∀ i, i < nr → ∃ b o u, a1 = some ⟨b, o, none⟩ ∧ W.cell? ⟨b, o + i, none⟩ = some u ∧ IS W u (r.rows.getD i [])) := hid fun W hW i hi => by
        obtain ⟨a', c', e', h'⟩ := (HI4.out W hW).rows
        simp only [Value.slice.injEq] at e'
        obtain ⟨rfl, -, -⟩ := e'
        rcases h' with h0 | ⟨b, o, rfl, h⟩
        · omega
        · obtain ⟨u, h1, h2⟩ := h i (by omega)
          exact ⟨b, o, u, rfl, h1, h2⟩
      have hwl : nw = nr := by rw [← hwn, ← hrn]; exact HH.out.wl
      have HWt : Hid (∀ W, Below W4.heap.size W4 W → ∀ i, i < nr → ∃ b o, a2 = some ⟨b, o, none⟩ ∧ W.cell? ⟨b, o + i, none⟩ = some (.int .i64 (r.ws.getD i 0))) := hid fun W hW i hi => by
        obtain ⟨a', c', e', h'⟩ := (HI4.out W hW).ws
        simp only [Value.slice.injEq] at e'
        obtain ⟨rfl, -, -⟩ := e'
        rcases h' with h0 | ⟨b, o, rfl, h⟩
        · omega
        · exact ⟨b, o, rfl, h i (by omega)⟩
      have hrl : nr ≤ 2000 := by rw [← hrn]; exact HH.out.n
      have hntl : nt ≤ 3 := by rw [← hln]; exact HH.out.tl
      have HLen : Hid (∀ i, i < nr → (r.rows.getD i []).length = nt) := hid fun i hi => by rw [← hln]; exact HH.out.len i (by omega)
      have KF : Hid (∀ W u i, Below W4.heap.size W4 W → i < nr → IS W u (r.rows.getD i []) → Calls Tryz.prog 61 #[u, .slice a3 nt k3] W fun e w' => e = .returned (.bool (fitB ts (r.rows.getD i []))) ∧ Below W.heap.size W w') := hid fun W u i hW hi hu =>
        fits_calls W u _ (r.rows.getD i []) ts hu (HT.out.below (bt HBw4.out hW)) (by rw [HLen.out i hi]; omega) (by rw [HLen.out i hi]; omega) HH.out.hz
      have KVa : Hid (∀ W u i, Below W4.heap.size W4 W → i < nr → IS W u (r.rows.getD i []) → Calls Tryz.prog 62 #[u, .slice aC p kC] W fun e w' => ∃ v, e = .returned v ∧ w'.ownsRow W.heap.size 3 1 v (atP (r.rows.getD i []) (colP V ts)).length ((atP (r.rows.getD i []) (colP V ts)).map (Value.int .i64)) ∧ Below W.heap.size W w') := hid fun W u i hW hi hu =>
        valuesAt_calls W u _ (r.rows.getD i []) (colP V ts) hu (own_is (own_below HOC.out hW)) (by simp [colP]; have : (vrs V ts).length = p := (by rw [HNV.out]; simp [vrsI]); omega) (fun q hq => by have := colP_in (V := V) (ts := ts) (Nat.le_refl _) q hq; rw [HLen.out i hi]; omega)
      have hfl : ∀ i, (fndL V ts r.rows r.ws i).length ≤ i := fndL_len V ts r.rows r.ws
      have HFl := hid hfl
      clear hfl
      have d2 := HRx4.out.c2
      go_wp2_with fail
      clear d2
      go_loopw [12, 39] (fun x t wr => ∃ (i : Nat) (vF : Value), i ≤ nr ∧ t = .int .i64 i ∧ vF = x ∧ Hid (Below W4.heap.size W4 wr ∧ WF wr W4.heap.size vF (fndL V ts r.rows r.ws i))) (fun _ t _ => nr - (intOf t).toNat)
      case atStart => exact ⟨0, _, Nat.zero_le _, rfl, rfl, hid ⟨Below.refl _ _, WF.nil _ _⟩⟩
      case round =>
        obtain ⟨i, vF, hin, rfl, rfl, HF⟩ := hrel
        by_cases hil : i < nr
        · have i2 : (i : Int) < (nr : Int) := by omega
          obtain ⟨b, o, u, ea, g0, hu⟩ := HRow.out wr HF.out.1 i hil
          subst ea
          obtain ⟨au, cu, eu, hcu⟩ := hu
          have HU : Hid (IS wr u (r.rows.getD i [])) := hid ⟨au, cu, eu, hcu⟩
          rw [HLen.out i hil] at eu
          subst eu
          clear hcu
          have KF1 := hid (KF.out wr _ i HF.out.1 hil HU.out)
          cases hfit : fitB ts (r.rows.getD i [])
          · rw [hfit] at KF1
            have HFn := hid (fndL_no (V := V) (ws := r.ws) hfit)
            go_wp2_with fail
            refine KF1.out.mono ?_
            rintro e w5 ⟨rfl, hb5⟩
            have HF5 : Hid (Below W4.heap.size W4 w5 ∧ WF w5 W4.heap.size vF (fndL V ts r.rows r.ws (i + 1))) := hid ⟨bt HF.out.1 hb5, by rw [HFn.out]; exact HF.out.2.below hb5⟩
            clear hb5 KF1 HF HU g0
            go_wp2_with fail
            go_roundw
            case rel => exact ⟨i + 1, _, by omega, by go_num, rfl, HF5⟩
            case measure => simp [intOf]; omega
          · rw [hfit] at KF1
            have HFy := hid (fndL_yes (V := V) (ws := r.ws) hfit)
            go_upto_region 14 with (first | (go_at_call 61; refine KF1.out.mono ?_; rintro e w5 ⟨rfl, hb5⟩) | fail)
            have HB5 := hid (bt HF.out.1 hb5)
            have HF5 := hid (HF.out.2.below hb5)
            have HU5 := hid (HU.out.below hb5)
            have r3 := (HRx4.out.below HB5.out).c3
            obtain ⟨b4, o4, e4, r4⟩ := HWt.out w5 HB5.out i hil
            subst e4
            have KVb : Hid (Calls Tryz.prog 62 #[.slice au nt cu, .slice aC p kC] w5.drew fun e w' => ∃ v, e = .returned v ∧ w'.ownsRow w5.heap.size 3 1 v (atP (r.rows.getD i []) (colP V ts)).length ((atP (r.rows.getD i []) (colP V ts)).map (Value.int .i64)) ∧ Below w5.heap.size w5 w') := hid ((KVa.out w5.drew _ i HB5.out.drew hil (HU5.out.below (Below.refl _ _).drew)).mono fun e w' ⟨v, h1, h2, h3⟩ => ⟨v, h1, h2, ⟨h3.os, h3.tape, h3.output, h3.size, h3.block⟩⟩)
            obtain ⟨xs, hownF, hstep⟩ := HF5.out.row HB5.out.size
            have HOF := hid hownF
            have HSt := hid hstep
            have hll := HFl.out i
            have iw : (i : Int) < (nw : Int) := by omega
            clear hownF hstep KF1 HF HU g0 hb5 HF5 HU5
            generalize hll2 : (fndL V ts r.rows r.ws i).length = ll at *
            generalize hrow : atP (r.rows.getD i []) (colP V ts) = vals at *
            generalize hwt : r.ws.getD i 0 = wt at *
            have hs5 := HB5.out.size
            have HWb : Hid (∀ w7 : World, Below w5.heap.size w5 w7 → w7.cell? ⟨w.heap.size, 3, none⟩ = some (.slice (some ⟨b4, o4, none⟩) nw k2) ∧ w7.cell? ⟨b4, o4 + i, none⟩ = some (.int .i64 wt)) := hid fun w7 h7 => ⟨bcl' h7 r3, bcl' h7 r4⟩
            go_region_law (first
              | (go_simp; go_at_call 62; (with_reducible refine KVb.out.mono ?_); rintro e w7 ⟨vV, rfl, hoV, hb7⟩; have HB7 := hid hb7; have HOV := hid hoV; obtain ⟨r3b, r4b⟩ := HWb.out w7 hb7; obtain ⟨aV, kV, eV⟩ := own_shapeW hoV; subst eV; have hs7 : W4.heap.size ≤ w7.heap.size := Nat.le_trans hs5 hb7.size; clear hoV hb7)
              | (refine step_append_lies _ (by rfl) _ _ _ (by rfl) W4.heap.size 118 iW (.agg #[.slice none 0 0, .int .i64 0]) 2 32 Tryz.underlying114 hj hy0 hy1 hy2 rfl (by decide) vF ll xs (by rfl) ((own_below HOF.out HB7.out).alloc _) ⟨_, 0, none⟩ 1 1 [.slice aV vals.length kV, .int .i64 wt] (by rfl) (by rfl) (new2_cellB _ _ _ _) (fun u hu => by simp at hu; rcases hu with rfl | rfl <;> rfl) (by decide) (by unfold maxLen; omega) (by omega) (by simp; omega) _ rfl ?_; intro g8 cp8 w8 hown8 hgrow8 hat8 hlt8; have HZ : Hid (Below W4.heap.size W4 w8 ∧ WF w8 W4.heap.size (.slice (some ⟨g8, 0, none⟩) (ll + 1) cp8) (fndL V ts r.rows r.ws (i + 1))) := hid ⟨((bt HB5.out HB7.out).alloc hs7 _).grown hgrow8 (by simp; omega) (fun j hj => (HOF.out.lt j hj).1), by rw [HFy.out]; exact HSt.out w7 _ vals wt _ w8 _ HB7.out HOV.out hgrow8 hown8⟩; clear hown8 hgrow8 hat8 hlt8)
              | fail)
            all_goals
              clear r3 r4 KVb HWb HSt HOF
              go_wp2_with fail
              go_roundw
              case rel => exact ⟨i + 1, _, by omega, by go_num, rfl, HZ⟩
              case measure => simp [intOf]; omega
        · obtain rfl : i = nr := by omega
          have i2 : ¬ ((i : Int) < (i : Int)) := by omega
          obtain ⟨es, hq, hes⟩ := HF.out.2
          have hel : es.length ≤ 2000 := by
            have h1 := HFl.out i
            rw [← hes, List.length_map] at h1
            omega
          have KSo := hid (sortedRows_calls wr W4.heap.size vF es hq (fun e he => by
            have h1 : e.2 ∈ fndL V ts r.rows r.ws i := by rw [← hes]; exact List.mem_map.2 ⟨e, he, rfl⟩
            unfold fndL at h1
            obtain ⟨j, -, h2⟩ := List.mem_map.1 h1
            rw [← h2]
            have h3 : (vrs V ts).length = p := by rw [HNV.out]; simp [vrsI]
            show (atP (r.rows.getD j []) (colP V ts)).length ≤ _
            rw [atP_len, colP_len, h3]
            omega) (Nat.le_trans hel (by omega)) HF.out.1.size)
          obtain ⟨aF, kF, eF⟩ := own_shapeW hq.own
          subst eF
          have HE := hid hes
          have HBr := hid HF.out.1
          clear HF hq hes KF KVa HRow HWt HI4 HFl
          generalize es.length = le at *
          go_upto_region 17 with (first | (go_at_call 63; refine KSo.out.mono ?_; rintro e w6 ⟨es', vR, vW, rfl, hp, hs, hRQ, hoW, hap, hb6⟩; obtain ⟨aR, kR, eR⟩ := own_shapeW hRQ.own; obtain ⟨aW, kW, eW⟩ := own_shapeW hoW; subst eR eW; have HB6 := hid (HBr.out.trans hb6); have HX8 := hid ((HT8.out.below HB4.out).below HB6.out); have c80 := HX8.out.c0; have c81 := HX8.out.c1; have c82 := HX8.out.c2; have f81 := HX8.out.free 1; have f82 := HX8.out.free 2) | fail)
          have HTW : Hid (TW w6 w.heap.size (.slice a0 p k0) (.slice aR (wls es').length kR) (.slice aW (wws es').length kW) (wus es') (vrsI V ts) (wls es') (wws es')) := hid (bt_end (by rw [← HNV.out]; exact HO0.out) HBw3.out.size HB4.out HB6.out hRQ hoW hap)
          have HBf := hid (bt HBw4.out HB6.out)
          have HFin : Hid ((wls es').length = (wws es').length ∧ ((wls es').zip (wws es')).Perm (fndL V ts r.rows r.ws i) ∧ ((wls es').Pairwise fun a b => ¬ cmpL b a < 0)) := hid ⟨by simp [wls, wws], by rw [zip_wt, ← HE.out]; exact hp.map _, List.pairwise_map.2 (hs.imp fun h => by omega)⟩
          have HX6 := hid ((HP6.out.below HB4.out).below HB6.out)
          clear hRQ hoW hap hp hs hb6 HP6 HT8 HE HBr HB6 KSo c80 c81 c82 f81 f82 HO0
          obtain ⟨P6, hp6⟩ : ∃ P, P = w.heap.size + 1 := ⟨_, rfl⟩
          have HP6 : Hid (w.heap.size ≤ P6) := hid (by omega)
          have hP8' : w.heap.size ≤ P8 := by omega
          rw [← hp6] at HX6 hP8 ⊢
          clear hp6
          have hne : P6 ≠ P8 := by omega
          generalize (wls es').length = lR at *
          generalize (wws es').length = lW at *
          have HY8 := hid ((HX8.out.set1 (.slice aR lR kR)).set2 (.slice aW lW kW))
          have HY6 := hid ((HX6.out.other (j := 1) hne (.slice aR lR kR)).other (j := 2) hne (.slice aW lW kW))
          have HTW7 := hid ((HTW.out.set (p := P8) (off := 1) (y := .slice aR lR kR) HX8.out.typ).set (p := P8) (off := 2) (y := .slice aW lW kW) (typ_setT HX8.out.typ))
          have HBf7 := hid ((HBf.out.setCell (p := ⟨P8, 1, none⟩) hP8' (.slice aR lR kR)).setCell (p := ⟨P8, 2, none⟩) hP8' (.slice aW lW kW))
          clear HX8 HX6 HTW HBf
          generalize (w6.setCell ⟨P8, 1, none⟩ (.slice aR lR kR)).setCell ⟨P8, 2, none⟩ (.slice aW lW kW) = W7 at *
          have e0 := HY8.out.c0
          have e1 := HY8.out.c1
          have e2 := HY8.out.c2
          have b0 := HY6.out.c0
          have b1' := HY6.out.c1
          have b2 := HY6.out.c2
          have f0 := HY6.out.free 0
          have f1 := HY6.out.free 1
          have f2 := HY6.out.free 2
          have HTy := hid HY6.out.typ
          go_wp2_with fail
          refine bodyPost_ret (v := .agg #[.slice a0 p k0, .slice aR lR kR, .slice aW lW kW]) (by simp [results, Tryz.results32, go_sem, b0, b1', b2]) rfl ⟨_, _, _, wus es', wls es', wws es', rfl, ?_, (by simp [wls, wws]), by rw [hrn]; exact HFin.out.2.1, HFin.out.2.2.imp fun h => Int.not_lt.2 h, ((HBf7.out.setCell HP6.out _).setCell HP6.out _).setCell HP6.out _⟩
          exact ((HTW7.out.set HTy.out).set (typ_setT HTy.out)).set (typ_setT (typ_setT HTy.out))

end Go.Proofs.YtegcpplkcahkhaaGreat
