import Derived.Test.YtcgboccdffgkfaaDoorPa20
import Derived.Test.YtcgboccdffgkfaaDoorPa30
import Derived.Test.YtcgboccdffgkfaaDoorPa33
/-
  impl: (*reading).take.
-/
namespace Go.Proofs.YtcgboccdffgkfaaDoor
open Go.RowKit Go.Maps

theorem spl_pos (c : UInt8) (l : List UInt8) : 1 ≤ (spl c l).length := by
  induction l with
  | nil => simp [spl]
  | cons x r ih => rw [spl]; split <;> simp_all
theorem spl_le (c : UInt8) (l : List UInt8) : (spl c l).length ≤ l.length + 1 := by
  induction l with
  | nil => simp [spl]
  | cons x r ih => rw [spl]; split <;> simp_all; omega
theorem spl_len (c : UInt8) (l : List UInt8) : ∀ j, ((spl c l).getD j []).length ≤ l.length := by
  induction l with
  | nil => intro j; cases j <;> simp [spl]
  | cons x r ih =>
    intro j
    rw [spl]
    split
    · cases j with
      | zero => simp
      | succ j => rw [List.getD_cons_succ]; have := ih j; rw [List.length_cons]; omega
    · cases j with
      | zero =>
        have := ih 0
        rw [List.getD_cons_zero]
        cases hs : spl c r with
        | nil => simp
        | cons y t => rw [hs] at this; simp at this ⊢; omega
      | succ j =>
        rw [List.getD_cons_succ]
        have := ih (j + 1)
        cases hs : spl c r with
        | nil => simp
        | cons y t => rw [hs] at this; rw [List.tail_cons]; rw [List.getD_cons_succ] at this; rw [List.length_cons]; omega

/-- the place of a name -/
def plcP (L : List ByteArray) (s : ByteArray) : Nat := L.findIdx fun x => x.toList == s.toList
theorem plcP_of {L : List ByteArray} {s : ByteArray} (h : hasP L s = true) : plcP L s < L.length ∧ L.getD (plcP L s) noTxP = s := by
  unfold hasP at h
  have h1 : plcP L s < L.length := List.findIdx_lt_length_of_exists (by rw [List.any_eq_true] at h; exact h)
  refine ⟨h1, ?_⟩
  have h2 := List.findIdx_getElem (w := h1)
  rw [beq_txP] at h2
  rw [List.getD_eq_getElem?_getD, List.getElem?_eq_getElem h1]
  exact of_decide_eq_true h2

/-- a line that says nothing -/
def mute (l : List UInt8) : Bool := l.isEmpty || decide (l.head? = some 35)
/-- the state behind a line -/
def takA (st : List RdV) (l : List UInt8) : Option (List RdV) :=
  if mute l then some st
  else
    let f := spl 32 l
    if f.getD 0 [] = [114, 101, 108] then
      (if decA st (f.drop 1) then some (st ++ [⟨⟨((f.drop 1).getD 0 []).toArray⟩, numN ⟨((f.drop 1).getD 1 []).toArray⟩ 3, []⟩]) else none)
    else
      let L := st.map RdV.nm
      let s : ByteArray := ⟨(f.getD 0 []).toArray⟩
      let r := st.getD (plcP L s) noRd
      if hasP L s && stoA r.ar r.rs (f.drop 1) then some (st.set (plcP L s) ⟨r.nm, r.ar, updT r.rs (tupF (f.drop 1) r.ar) (wtF ((f.drop 1).getD r.ar []))⟩) else none

/-- how take ends -/
def TakE (w : World) (B R : Nat) (st : List RdV) (bP : Nat) (l : List UInt8) (e : Ending) (w' : World) : Prop :=
  e = .returned (.bool (takA st l).isSome) ∧ Below B w w' ∧ KeepS w w' ∧ ∀ st', takA st l = some st' → ∃ vR' rb' mb' DD', RdI w' B R st' vR' bP rb' mb' DD'
/-- what holds of the relations so far -/
def StOk (st : List RdV) : Prop := st.length ≤ 50 ∧ ∀ i, i < st.length → (st.getD i noRd).rs.length ≤ 2000 ∧ 1 ≤ (st.getD i noRd).ar ∧ (st.getD i noRd).ar ≤ 3

theorem fs_drop {W : World} {g n : Nat} {fs : List (List UInt8)} (hn : fs.length = n) (h1 : 1 ≤ n) (hc : ∀ j, j < n → W.cell? ⟨g, j, none⟩ = some (.string ⟨(fs.getD j []).toArray⟩)) : FS W (.slice (if n = 1 then some ⟨g, 0, none⟩ else some ⟨g, 1, none⟩) (n - 1) (n - 1)) (fs.drop 1) := by
  have hl : (fs.drop 1).length = n - 1 := by rw [List.length_drop, hn]
  refine ⟨_, _, by rw [hl], by rw [hl]; exact Nat.le_refl _, ?_⟩
  by_cases e : n = 1
  · exact Or.inl (by omega)
  · refine Or.inr ⟨g, 1, by rw [if_neg e], fun j hj => ?_⟩
    rw [hc (1 + j) (by omega), List.getD_eq_getElem?_getD, List.getD_eq_getElem?_getD, List.getElem?_drop]
theorem tx_cells (w : World) (l : List (List UInt8)) : ∀ j, j < l.length → (w.alloc (.cells (l.map tx).toArray 9)).cell? ⟨w.heap.size, j, none⟩ = some (.string ⟨(l.getD j []).toArray⟩) := fun j hj => by
  rw [World.cell?_alloc_at _ _ _ _ rfl]
  simp only [List.getElem?_toArray, List.getElem?_map, List.getElem?_eq_getElem hj, Option.map_some, List.getD_eq_getElem?_getD, Option.getD_some]
  rfl

theorem lookOkP {W : World} {b : Nat} {L : List ByteArray} (h : PlcM W b L) (s : ByteArray) (hs : s.size ≤ 9223372036854775807) : ∃ c : Int, (hasP L s = true → c = (plcP L s : Nat)) ∧ ∀ d : Nat, (Instr.lookup 41 (.map (some b)) (.string s) true).run Tryd.prog (W.drewN d) = .ok (.tuple #[.int .i64 c, .bool (hasP L s)]) (W.drewN d) := by
  obtain ⟨D, hown, hhas, hsize, hat⟩ := h
  have key : ∀ d : Nat, ∃ c : Int, (Instr.lookup 41 (.map (some b)) (.string s) true).run Tryd.prog (W.drewN d) = .ok (.tuple #[.int .i64 c, .bool (hasP L s)]) (W.drewN d) ∧ D.atKey (.string s.data.toList) (.lit (.int .i64 0)) = .lit (.int .i64 c) := fun d => by
    have hd : (W.drewN d).ownsMap Tryd.prog 9 (plainElem Tryd.prog 3) b L.length D := hown
    obtain ⟨v, ps, hrun, hv⟩ := hd.look_ok Tryd.lawPl Tryd.underlying41 (Tryd.zeroPl _) (plainElem_int Tryd.underlying3 (by decide)) (WideMaps.keyOf_string_mk Tryd.underlying9 hs)
    obtain ⟨c, rfl, hc, -⟩ := plainElem_int_inv Tryd.underlying3 hv
    rw [hhas s] at hrun
    simp only [Prod.mk.injEq] at hc
    exact ⟨c, hrun, hc.1⟩
  obtain ⟨c, -, hc⟩ := key 0
  refine ⟨c, fun hh => ?_, fun d => ?_⟩
  · obtain ⟨h1, h2⟩ := plcP_of hh
    have := hat _ h1 (.lit (.int .i64 0))
    rw [h2, hc] at this
    simpa using this
  · obtain ⟨c', h1, h2⟩ := key d
    rw [hc] at h2
    simp only [DataW.lit.injEq, Lit.int.injEq, true_and] at h2
    rw [h2]
    exact h1

set_option maxHeartbeats 8000000 in
set_option maxRecDepth 1000000 in
theorem take_calls (w : World) (B R : Nat) (st : List RdV) (vR : Value) (bP : Nat) (rb mb : Nat → Nat) (DD : Nat → DataW Unit) (h : RdI w B R st vR bP rb mb DD) (hok : StOk st) (s : ByteArray) (hs : s.size ≤ 1000000) (m : Int) (hm : w.cell? ⟨0, 0, none⟩ = some (.int .i64 m)) :
    Calls Tryd.prog 17 #[.pointer (some ⟨R, 0, none⟩), .string s] w (TakE w B R st bP s.data.toList) := by
  have hBw : B ≤ w.heap.size := Nat.le_trans h.lo.1 (Nat.le_of_lt (heap_lt h.blk))
  by_cases h0 : s.size = 0
  · have e1 : s = ⟨#[]⟩ := by
      obtain ⟨⟨l⟩⟩ := s
      simp [ByteArray.size] at h0
      simp [h0]
    subst e1
    have hA : takA st (⟨#[]⟩ : ByteArray).data.toList = some st := rfl
    have HF : Hid (∀ e, e = .returned (.bool true) → TakE w B R st bP (⟨#[]⟩ : ByteArray).data.toList e w) := hid fun e he => ⟨by rw [hA]; exact he, Below.refl _ _, KeepS.below (Below.refl _ _), fun st' hs' => by rw [hA] at hs'; cases hs'; exact ⟨_, _, _, _, h⟩⟩
    clear h hm hA
    go_enter Tryd.func17, Tryd.ntmps17
    go_wp2_with fail
    go_ret
    exact HF.out _ rfl
  have hne := not_empty h0
  have i0 : (0 : Int) < (s.size : Int) := by omega
  have hp0 : 0 < s.size := by omega
  have hb0 := byteAt_eq s 0 hp0
  have hlen : s.data.toList.length = s.size := by simp
  have hhd : s.data.toList.head? = some (s.data.toList.getD 0 0) := by
    cases hl : s.data.toList with
    | nil => rw [hl] at hlen; simp at hlen; omega
    | cons x r => rfl
  by_cases hsh : s.data.toList.head? = some 35
  · have hA : takA st s.data.toList = some st := by unfold takA mute; rw [decide_eq_true hsh, Bool.or_true, if_pos rfl]
    have HF : Hid (∀ e, e = .returned (.bool true) → TakE w B R st bP s.data.toList e w) := hid fun e he => ⟨by rw [hA]; exact he, Below.refl _ _, KeepS.below (Below.refl _ _), fun st' hs' => by rw [hA] at hs'; cases hs'; exact ⟨_, _, _, _, h⟩⟩
    have q3 : (((s[0]'hp0).toNat : Int) == 35) = true := by
      rw [← hb0]
      rw [hhd, Option.some.injEq] at hsh
      unfold byteAt
      rw [hsh]; rfl
    clear h hm hA hsh hhd hb0 hlen
    go_enter Tryd.func17, Tryd.ntmps17
    go_wp2_with fail
    go_ret
    exact HF.out _ rfl
  have q3 : (((s[0]'hp0).toNat : Int) == 35) = false := by
    rw [← hb0]
    rw [hhd, Option.some.injEq] at hsh
    unfold byteAt
    simp only [beq_eq_false_iff_ne, ne_eq]
    exact fun e => hsh (UInt8.toNat_inj.1 (by show _ = 35; omega))
  have hmu : mute s.data.toList = false := by
    unfold mute
    rw [decide_eq_false hsh, Bool.or_false]
    cases hl : s.data.toList with
    | nil => rw [hl] at hlen; simp at hlen; omega
    | cons x r => rfl
  obtain ⟨f, hfd⟩ : ∃ f, f = spl 32 s.data.toList := ⟨_, rfl⟩
  have hf1 : 1 ≤ f.length := by rw [hfd]; exact spl_pos _ _
  have hfl : ∀ j, (f.getD j []).length ≤ 1000000 := fun j => by rw [hfd]; exact Nat.le_trans (spl_len _ _ j) (by omega)
  have KS := hid (Tryd.c_Split s 32 m w (by omega) hm)
  rw [← hfd] at KS
  have HA : Hid (takA st s.data.toList = if f.getD 0 [] = [114, 101, 108] then (if decA st (f.drop 1) then some (st ++ [⟨⟨((f.drop 1).getD 0 []).toArray⟩, numN ⟨((f.drop 1).getD 1 []).toArray⟩ 3, []⟩]) else none) else (if hasP (st.map RdV.nm) ⟨(f.getD 0 []).toArray⟩ && stoA (st.getD (plcP (st.map RdV.nm) ⟨(f.getD 0 []).toArray⟩) noRd).ar (st.getD (plcP (st.map RdV.nm) ⟨(f.getD 0 []).toArray⟩) noRd).rs (f.drop 1) then some (st.set (plcP (st.map RdV.nm) ⟨(f.getD 0 []).toArray⟩) ⟨(st.getD (plcP (st.map RdV.nm) ⟨(f.getD 0 []).toArray⟩) noRd).nm, (st.getD (plcP (st.map RdV.nm) ⟨(f.getD 0 []).toArray⟩) noRd).ar, updT (st.getD (plcP (st.map RdV.nm) ⟨(f.getD 0 []).toArray⟩) noRd).rs (tupF (f.drop 1) (st.getD (plcP (st.map RdV.nm) ⟨(f.getD 0 []).toArray⟩) noRd).ar) (wtF ((f.drop 1).getD (st.getD (plcP (st.map RdV.nm) ⟨(f.getD 0 []).toArray⟩) noRd).ar []))⟩) else none)) := hid (by unfold takA; rw [hmu, if_neg (by decide), ← hfd])
  have hA1 : Below w.heap.size w (w.alloc (.cells (f.map tx).toArray 9)) := (Below.refl _ _).alloc (Nat.le_refl _) _
  have HFS : Hid (FS (w.alloc (.cells (f.map tx).toArray 9)) (.slice (if f.length = 1 then some ⟨w.heap.size, 0, none⟩ else some ⟨w.heap.size, 1, none⟩) (f.length - 1) (f.length - 1)) (f.drop 1)) := hid (fs_drop rfl hf1 (tx_cells w f))
  have H1 := hid (h.below hA1)
  have c00 : (w.alloc (.cells (f.map tx).toArray 9)).cell? ⟨w.heap.size, 0, none⟩ = some (.string ⟨(f.getD 0 []).toArray⟩) := tx_cells w f 0 (by omega)
  have HB1 := hid hA1
  have HfD : Hid (∀ j, ((f.drop 1).getD j []).length ≤ 1000000) := hid fun j => by rw [List.getD_eq_getElem?_getD, List.getElem?_drop, ← List.getD_eq_getElem?_getD]; exact hfl _
  have hs0 : (⟨(f.getD 0 []).toArray⟩ : ByteArray).size ≤ 1000000 := by show (f.getD 0 []).toArray.size ≤ _; rw [List.size_toArray]; exact hfl 0
  have hn1 : (1 : Int) ≤ (f.length : Int) := by omega
  clear hA1 h hm hfl hhd hb0 hlen hsh hmu hfd
  by_cases hrel : f.getD 0 [] = [114, 101, 108]
  · have KD := hid (declare_calls _ B R st vR bP rb mb DD H1.out _ _ HFS.out HfD.out hok.1)
    have q4 : ((⟨(f.getD 0 []).toArray⟩ : ByteArray).toList == [114, 101, 108]) = true := by rw [ByteArray.toList_eq, hrel]; rfl
    have HE : Hid (∀ e w', DecE (w.alloc (.cells (f.map tx).toArray 9)) B R st bP (f.drop 1) e w' → TakE w B R st bP s.data.toList e w') := hid fun e w' ⟨h1, h2, h3⟩ => by
      rw [if_pos hrel] at HA
      have hA := HA.out
      cases hd : decA st (f.drop 1)
      · rw [hd] at hA h1
        refine ⟨by rw [hA]; exact h1, (bt HB1.out (h2 hd)).mono hBw, KeepS.below (bt HB1.out (h2 hd)), fun st' hs' => ?_⟩
        rw [hA] at hs'; cases hs'
      · rw [hd] at hA h1
        obtain ⟨vR', rb', mb', DD', hr, hb, hks⟩ := h3 hd
        refine ⟨by rw [hA]; exact h1, (HB1.out.mono hBw).trans hb, (KeepS.below HB1.out).trans hks, fun st' hs' => ?_⟩
        rw [hA] at hs'
        cases hs'
        exact ⟨_, _, _, _, hr⟩
    clear HA HFS H1 HfD HB1 hrel
    generalize w.alloc (.cells (f.map tx).toArray 9) = W1 at *
    generalize (⟨(f.getD 0 []).toArray⟩ : ByteArray) = f0 at *
    generalize f.drop 1 = fd at *
    generalize f.length = n at *
    go_enter Tryd.func17, Tryd.ntmps17
    go_wp2_with (first | (go_at_call 16; refine KS.out.mono ?_; rintro e w1 ⟨rfl, rfl⟩) | (go_at_call 37; refine KD.out.mono ?_; intro e w2 hD; have HDE := hid hD; obtain ⟨rfl, -, -⟩ := hD) | fail)
    all_goals
      go_ret
      exact HE.out _ _ HDE.out
  · have q4 : ((⟨(f.getD 0 []).toArray⟩ : ByteArray).toList == [114, 101, 108]) = false := by
      rw [ByteArray.toList_eq]
      simp only [beq_eq_false_iff_ne, ne_eq]
      exact fun e => hrel (by simpa using e)
    rw [if_neg hrel] at HA
    clear hrel
    have hs9 : (⟨(f.getD 0 []).toArray⟩ : ByteArray).size ≤ 9223372036854775807 := by omega
    obtain ⟨cc, hcp, hlk⟩ := lookOkP H1.out.num ⟨(f.getD 0 []).toArray⟩ hs9
    have c0 : (w.alloc (.cells (f.map tx).toArray 9)).cell? ⟨R, 0, none⟩ = some vR := by rw [cell_of_row _ _ _ _ _ _ H1.out.blk]; rfl
    have c1 : (w.alloc (.cells (f.map tx).toArray 9)).cell? ⟨R, 1, none⟩ = some (.map (some bP)) := by rw [cell_of_row _ _ _ _ _ _ H1.out.blk]; rfl
    cases hk : hasP (st.map RdV.nm) ⟨(f.getD 0 []).toArray⟩
    · have HE : Hid (∀ e w', e = .returned (.bool false) → Below (w.alloc (.cells (f.map tx).toArray 9)).heap.size (w.alloc (.cells (f.map tx).toArray 9)) w' → TakE w B R st bP s.data.toList e w') := hid fun e w' h1 h2 => by
        have hA := HA.out
        rw [hk, Bool.false_and, if_neg (by decide)] at hA
        exact ⟨by rw [hA]; exact h1, (bt HB1.out h2).mono hBw, KeepS.below (bt HB1.out h2), fun st' hs' => by rw [hA] at hs'; cases hs'⟩
      rw [hk] at hlk
      clear HA HFS HfD hcp H1 HB1 hk
      generalize w.alloc (.cells (f.map tx).toArray 9) = W1 at *
      generalize (⟨(f.getD 0 []).toArray⟩ : ByteArray) = f0 at *
      generalize f.length = n at *
      go_enter Tryd.func17, Tryd.ntmps17
      go_upto_region 6 with (first | (go_at_call 16; refine KS.out.mono ?_; rintro e w1 ⟨rfl, rfl⟩) | fail)
      go_quiet (fail)
      clear hlk
      go_upto_region 7 with fail
      go_quiet (fail)
      go_wp2_with fail
      go_ret
      exact HE.out _ _ rfl (below_drewN (below_drewN (Below.refl _ _) _) _)
    · obtain ⟨hpl, hpg⟩ := plcP_of hk
      rw [List.length_map] at hpl
      have hcc := hcp hk
      subst hcc
      rw [hk] at hlk
      rw [hk, Bool.true_and] at HA
      obtain ⟨i, hi⟩ : ∃ i, i = plcP (st.map RdV.nm) ⟨(f.getD 0 []).toArray⟩ := ⟨_, rfl⟩
      rw [← hi] at hpl hlk HA
      clear hcp hk hpg hi
      obtain ⟨gR, cR, rfl, -⟩ := H1.out.own.form (by omega)
      have c2 : (w.alloc (.cells (f.map tx).toArray 9)).cell? ⟨gR, i, none⟩ = some (.pointer (some ⟨rb i, 0, none⟩)) := by
        rw [H1.out.own.cellAt i (by omega), List.getElem?_map, List.getElem?_range hpl]; rfl
      have hii : (i : Int) < (st.length : Int) := by omega
      have HST : Hid (∀ W, Below (w.alloc (.cells (f.map tx).toArray 9)).heap.size (w.alloc (.cells (f.map tx).toArray 9)) W → Calls Tryd.prog 38 #[.pointer (some ⟨rb i, 0, none⟩), .slice (if f.length = 1 then some ⟨w.heap.size, 0, none⟩ else some ⟨w.heap.size, 1, none⟩) (f.length - 1) (f.length - 1)] W fun e w' => e = .returned (.bool (stoA (st.getD i noRd).ar (st.getD i noRd).rs (f.drop 1))) ∧ W.grownBy w' (some (mb i)) ∧ (stoA (st.getD i noRd).ar (st.getD i noRd).rs (f.drop 1) = true → ∃ D', Tps w' (mb i) (updT (st.getD i noRd).rs (tupF (f.drop 1) (st.getD i noRd).ar) (wtF ((f.drop 1).getD (st.getD i noRd).ar []))) D')) := hid fun W hW => by
        have hI := H1.out.below hW
        have hc := hI.rel i hpl
        have hk := hok.2 i hpl
        refine (store_calls W (rb i) (mb i) (st.getD i noRd).ar (st.getD i noRd).rs (DD i) _ (f.drop 1) (by rw [cell_of_row _ _ _ _ _ _ hc]; rfl) (by rw [cell_of_row _ _ _ _ _ _ hc]; rfl) (hI.tps i hpl) hk.1 hk.2 (HFS.out.below hW) HfD.out).mono ?_
        rintro e w' ⟨h1, h2, h3⟩
        refine ⟨h1, ?_, fun ht => (h3 ht).2⟩
        cases hb : stoA (st.getD i noRd).ar (st.getD i noRd).rs (f.drop 1)
        · have := h2 hb
          exact ⟨this.os, this.tape, this.output, this.size, fun k hk _ => this.block k hk⟩
        · exact (h3 hb).1
      have HE : Hid (∀ W b w', Below (w.alloc (.cells (f.map tx).toArray 9)).heap.size (w.alloc (.cells (f.map tx).toArray 9)) W → b = stoA (st.getD i noRd).ar (st.getD i noRd).rs (f.drop 1) → W.grownBy w' (some (mb i)) → (stoA (st.getD i noRd).ar (st.getD i noRd).rs (f.drop 1) = true → ∃ D', Tps w' (mb i) (updT (st.getD i noRd).rs (tupF (f.drop 1) (st.getD i noRd).ar) (wtF ((f.drop 1).getD (st.getD i noRd).ar []))) D') → TakE w B R st bP s.data.toList (.returned (.bool b)) w') := hid fun W b w' hW hb hg ht => by
        have hI := H1.out.below hW
        have hA := HA.out
        have hlo := (hI.lo.2.2 i hpl).2
        have hBW : Below B w w' := ((bt HB1.out hW).mono hBw).grown hg (Nat.le_trans hBw (bt HB1.out hW).size) (fun k e => by cases e; exact hlo)
        have hKS : KeepS w w' := (KeepS.below (bt HB1.out hW)).trans fun k cur hk => hg.block k (heap_lt hk) (fun e => by
          obtain ⟨es, cc, hm'⟩ := (hI.tps i hpl).blk
          rw [← Option.some.inj e, hk] at hm'
          cases hm')
        subst hb
        cases hb : stoA (st.getD i noRd).ar (st.getD i noRd).rs (f.drop 1)
        · rw [hb] at hA
          exact ⟨by rw [hA]; rfl, hBW, hKS, fun st' hs' => by rw [hA] at hs'; cases hs'⟩
        · rw [hb] at hA
          obtain ⟨D', hD'⟩ := ht hb
          refine ⟨by rw [hA]; rfl, hBW, hKS, fun st' hs' => ?_⟩
          rw [hA] at hs'
          cases hs'
          exact ⟨_, _, _, _, hI.put hpl hg hD'⟩
      have HCK : Hid (∀ W w', Below (w.alloc (.cells (f.map tx).toArray 9)).heap.size (w.alloc (.cells (f.map tx).toArray 9)) W → W.grownBy w' (some (mb i)) → w'.cell? ⟨R, 0, none⟩ = some (.slice (some ⟨gR, 0, none⟩) st.length cR) ∧ w'.cell? ⟨gR, i, none⟩ = some (.pointer (some ⟨rb i, 0, none⟩))) := hid fun W w' hW hg => by
        have hI := H1.out.below hW
        obtain ⟨es, cc, hm'⟩ := (hI.tps i hpl).blk
        have hne : ∀ {k : Nat} {o : Nat} {v : Value}, W.cell? ⟨k, o, none⟩ = some v → k ≠ mb i := fun {k o v} hc e => by
          subst e
          unfold World.cell? at hc
          rw [hm'] at hc
          cases hc
        have e0 := bclR hW c0
        have e2 := bclR hW c2
        exact ⟨(hg.cell_far ⟨R, 0, none⟩ (World.block_lt_of_cell? W _ e0) (fun e => hne e0 (Option.some.inj e))).trans e0, (hg.cell_far ⟨gR, i, none⟩ (World.block_lt_of_cell? W _ e2) (fun e => hne e2 (Option.some.inj e))).trans e2⟩
      clear HA HFS HfD H1 HB1
      generalize w.alloc (.cells (f.map tx).toArray 9) = W1 at *
      generalize (⟨(f.getD 0 []).toArray⟩ : ByteArray) = f0 at *
      generalize f.drop 1 = fd at *
      generalize f.length = n at *
      generalize stoA (st.getD i noRd).ar (st.getD i noRd).rs fd = bA at *
      by_cases hone : n = 1
      · subst hone
        rw [if_pos rfl] at HST
        go_enter Tryd.func17, Tryd.ntmps17
        go_upto_region 6 with (first | (go_at_call 16; refine KS.out.mono ?_; rintro e w1 ⟨rfl, rfl⟩) | fail)
        go_quiet (fail)
        have HBq := hid (below_drewN (Below.refl w1.heap.size w1) nq)
        have c0' := bclR HBq.out c0
        have c2' := bclR HBq.out c2
        clear hlk c0 c1 c2 c00
        generalize w1.drewN nq = wq at *
        go_upto_region 7 with fail
        go_region_held_law (fun W => W.cell? ⟨R, 0, none⟩ = some (.slice (some ⟨gR, 0, none⟩) st.length cR) ∧ W.cell? ⟨gR, i, none⟩ = some (.pointer (some ⟨rb i, 0, none⟩)))
          (first | exact ⟨c0', c2'⟩ | exact HCK.out _ _ HBq.out.drew hg5 | fail)
          (first | (go_simp; go_at_call 38; refine (HST.out _ HBq.out.drew).mono ?_; rintro e w5 ⟨rfl, hg5, ht5⟩) | fail)
        all_goals go_wp2_with fail
        all_goals
          go_ret
          exact HE.out _ _ _ HBq.out.drew rfl hg5 ht5
      · rw [if_neg hone] at HST
        go_enter Tryd.func17, Tryd.ntmps17
        go_upto_region 6 with (first | (go_at_call 16; refine KS.out.mono ?_; rintro e w1 ⟨rfl, rfl⟩) | fail)
        go_quiet (fail)
        have HBq := hid (below_drewN (Below.refl w1.heap.size w1) nq)
        have c0' := bclR HBq.out c0
        have c2' := bclR HBq.out c2
        clear hlk c0 c1 c2 c00
        generalize w1.drewN nq = wq at *
        go_upto_region 7 with fail
        go_region_held_law (fun W => W.cell? ⟨R, 0, none⟩ = some (.slice (some ⟨gR, 0, none⟩) st.length cR) ∧ W.cell? ⟨gR, i, none⟩ = some (.pointer (some ⟨rb i, 0, none⟩)))
          (first | exact ⟨c0', c2'⟩ | exact HCK.out _ _ HBq.out.drew hg5 | fail)
          (first | (go_simp; go_at_call 38; refine (HST.out _ HBq.out.drew).mono ?_; rintro e w5 ⟨rfl, hg5, ht5⟩) | fail)
        all_goals go_wp2_with fail
        all_goals
          go_ret
          exact HE.out _ _ _ HBq.out.drew rfl hg5 ht5

end Go.Proofs.YtcgboccdffgkfaaDoor

/-
  The data in the making: relations, each with lists of its own.
-/
namespace Go.Proofs.YtcgboccdffgkfaaDoor
open Go.RowKit

/-- a relation that has been read -/
structure RelOf (r : RdV) (d : RelV) : Prop where
  name : d.name = r.nm
  ar : d.ar = (r.ar : Int)
  ex : ∃ ss : List T3, ss.Perm (r.rs.map Prod.fst) ∧ (ss.Pairwise fun a b => ¬ cmpL (tl b) (tl a) < 0) ∧ d.rows = rowsT r.ar ss ∧ d.ws = wtsT r.rs ss

/-- the cells of a relation -/
def relC (d : RelV) (vr vw : Value) : List Value := [.string d.name, .int .i64 d.ar, vr, vw]

structure DQ (W : World) (B : Nat) (v : Value) (ds : List RelV) (vr vw : Nat → Value) (us : Nat → List Value) (lo hi : Nat → Nat) : Prop where
  own : W.ownsRow B 55 4 v ds.length ((List.range ds.length).flatMap fun i => relC (ds.getD i noRel) (vr i) (vw i))
  rq : ∀ i, i < ds.length → RQ W (lo i) (vr i) (us i) (ds.getD i noRel).rows
  ow : ∀ i, i < ds.length → W.ownsRow (lo i) 3 1 (vw i) (ds.getD i noRel).ws.length ((ds.getD i noRel).ws.map (Value.int .i64))
  ap : ∀ i, i < ds.length → ∀ j, j < (ds.getD i noRel).rows.length → ApR ((us i).getD j undef) (vw i)
  up : ∀ i, i < ds.length → (∀ g, (vw i).ownBlock = some g → g < hi i) ∧ ∀ j, j < (ds.getD i noRel).rows.length → ∀ g, ((us i).getD j undef).ownBlock = some g → g < hi i
  low : ∀ i, i < ds.length → B ≤ lo i ∧ hi i ≤ W.heap.size
  sep : ∀ i j, i < j → j < ds.length → hi i ≤ lo j

section
variable {W W' w3 : World} {B p q : Nat} {v v' v2 v3 : Value} {ds : List RelV} {vr vw : Nat → Value} {us : Nat → List Value} {lo hi : Nat → Nat} {d : RelV} {o : Obj} {us5 : List Value} {E0 hi' : Nat}
theorem DQ.nil (W : World) (B : Nat) : DQ W B (.slice none 0 0) [] vr vw us lo hi :=
  ⟨World.ownsRow_nil _ _ _ _, fun _ h => absurd h (Nat.not_lt_zero _), fun _ h => absurd h (Nat.not_lt_zero _), fun _ h => absurd h (Nat.not_lt_zero _), fun _ h => absurd h (Nat.not_lt_zero _), fun _ h => absurd h (Nat.not_lt_zero _), fun _ _ _ h => absurd h (Nat.not_lt_zero _)⟩
theorem DQ.below (h : DQ W B v ds vr vw us lo hi) (hb : Below W.heap.size W W') : DQ W' B v ds vr vw us lo hi :=
  ⟨own_below h.own hb, fun i hi' => (h.rq i hi').below hb, fun i hi' => own_below (h.ow i hi') hb, h.ap, h.up, fun i hi' => ⟨(h.low i hi').1, Nat.le_trans (h.low i hi').2 hb.size⟩, h.sep⟩
theorem DQ.base {B' : Nat} (h : DQ W B v ds vr vw us lo hi) (hB : B' ≤ B) : DQ W B' v ds vr vw us lo hi :=
  ⟨own_base h.own hB, h.rq, h.ow, h.ap, h.up, fun i hi' => ⟨Nat.le_trans hB (h.low i hi').1, (h.low i hi').2⟩, h.sep⟩
/-- a store into a block of another type -/
theorem RQ.setG {W : World} {B p off : Nat} {v y : Value} {us : List Value} {ls : List (List Int)} {e : TypeId} (h : RQ W B v us ls) (ht : ∃ cur, W.heap[p]? = some (.cells cur e (0, 0))) (h1 : 53 ≠ e) (h2 : 3 ≠ e) : RQ (W.setCell ⟨p, off, none⟩ y) B v us ls :=
  ⟨own_keepR h.own ht h1, h.len, fun i hi => own_keepR (h.each i hi) ht h2, h.ap⟩
theorem DQ.set (h : DQ W B v ds vr vw us lo hi) {off : Nat} {y : Value} (ht : ∃ cur, W.heap[p]? = some (.cells cur 24 (0, 0))) : DQ (W.setCell ⟨p, off, none⟩ y) B v ds vr vw us lo hi :=
  ⟨own_keepR h.own ht (by decide), fun i hi' => (h.rq i hi').setG ht (by decide) (by decide), fun i hi' => own_keepR (h.ow i hi') ht (by decide), h.ap, h.up, fun i hi' => ⟨(h.low i hi').1, by rw [World.size_setCell]; exact (h.low i hi').2⟩, h.sep⟩
theorem own_grownG {W w3 : World} {B B' n n' s s' : Nat} {e e' : TypeId} {v u : Value} {xs ys : List Value} {o : Obj} (h : W.ownsRow B e s u n xs) (hv : W.ownsRow B' e' s' v n' ys) (hne : e ≠ e') (hg : (W.alloc o).grownBy w3 v.ownBlock) : w3.ownsRow B e s u n xs :=
  own_move h fun g hgx => kept_of hg (h.lt g hgx).2 (own_ne hv (own_typ h hgx) (Ne.symm hne))
theorem RQ.grownG {W w3 : World} {B B' n' s' : Nat} {e' : TypeId} {v u : Value} {us : List Value} {ls : List (List Int)} {ys : List Value} {o : Obj} (h : RQ W B u us ls) (hv : W.ownsRow B' e' s' v n' ys) (h1 : 53 ≠ e') (h2 : 3 ≠ e') (hg : (W.alloc o).grownBy w3 v.ownBlock) : RQ w3 B u us ls :=
  ⟨own_grownG h.own hv h1 hg, h.len, fun i hi => own_grownG (h.each i hi) hv h2 hg, h.ap⟩
def updF {α : Type} (f : Nat → α) (n : Nat) (x : α) : Nat → α := fun i => if i = n then x else f i
theorem updF_same {α : Type} (f : Nat → α) (n : Nat) (x : α) : updF f n x n = x := if_pos rfl
theorem updF_other {α : Type} (f : Nat → α) {n i : Nat} (x : α) (h : i ≠ n) : updF f n x i = f i := if_neg h
/-- one relation more -/
theorem DQ.push (h : DQ W B v ds vr vw us lo hi) (hE : hi' = W.heap.size) (hq : RQ W E0 v2 us5 d.rows) (ho : W.ownsRow E0 3 1 v3 d.ws.length (d.ws.map (Value.int .i64))) (ha : ∀ j, j < d.rows.length → ApR (us5.getD j undef) v3) (hE0 : B ≤ E0) (hup : ∀ i, i < ds.length → hi i ≤ E0)
    (hown : w3.ownsRow B 55 4 v' (ds.length + 1) (((List.range ds.length).flatMap fun i => relC (ds.getD i noRel) (vr i) (vw i)) ++ relC d v2 v3)) (hg : (W.alloc o).grownBy w3 v.ownBlock) (ht : ∃ cur, w3.heap[p]? = some (.cells cur 24 (0, 0))) :
    DQ (w3.setCell ⟨p, 0, none⟩ v') B v' (ds ++ [d]) (updF vr ds.length v2) (updF vw ds.length v3) (updF us ds.length us5) (updF lo ds.length E0) (updF hi ds.length hi') := by
  have hlen : (ds ++ [d]).length = ds.length + 1 := by simp
  have hget : ∀ i, i < ds.length → (ds ++ [d]).getD i noRel = ds.getD i noRel := fun i hi => by rw [List.getD_eq_getElem?_getD, List.getElem?_append_left hi, ← List.getD_eq_getElem?_getD]
  have hgetn : (ds ++ [d]).getD ds.length noRel = d := by simp [List.getD_eq_getElem?_getD]
  have hsz : W.heap.size ≤ (w3.setCell ⟨p, 0, none⟩ v').heap.size := by rw [World.size_setCell]; have := hg.size; simp at this; omega
  subst hE
  refine ⟨?_, fun i hi' => ?_, fun i hi' => ?_, fun i hi' => ?_, fun i hi' => ?_, fun i hi' => ?_, fun i j hij hj => ?_⟩
  · rw [hlen]
    have e : ((List.range (ds.length + 1)).flatMap fun i => relC ((ds ++ [d]).getD i noRel) (updF vr ds.length v2 i) (updF vw ds.length v3 i)) = ((List.range ds.length).flatMap fun i => relC (ds.getD i noRel) (vr i) (vw i)) ++ relC d v2 v3 := by
      rw [List.range_succ, List.flatMap_append]
      congr 1
      · rw [List.flatMap_def, List.flatMap_def]
        congr 1
        refine List.map_congr_left fun i hi => ?_
        have hi2 := List.mem_range.1 hi
        rw [hget i hi2, updF_other _ _ (by omega), updF_other _ _ (by omega)]
      · rw [List.flatMap_singleton, hgetn, updF_same, updF_same]
    rw [e]
    exact own_keepR hown ht (by decide)
  · rw [hlen] at hi'
    by_cases e : i = ds.length
    · subst e
      rw [hgetn, updF_same, updF_same, updF_same]
      exact (hq.grownG h.own (by decide) (by decide) hg).setG ht (by decide) (by decide)
    · rw [hget i (by omega), updF_other _ _ e, updF_other _ _ e, updF_other _ _ e]
      exact ((h.rq i (by omega)).grownG h.own (by decide) (by decide) hg).setG ht (by decide) (by decide)
  · rw [hlen] at hi'
    by_cases e : i = ds.length
    · subst e
      rw [hgetn, updF_same, updF_same]
      exact own_keepR (own_grownG ho h.own (by decide) hg) ht (by decide)
    · rw [hget i (by omega), updF_other _ _ e, updF_other _ _ e]
      exact own_keepR (own_grownG (h.ow i (by omega)) h.own (by decide) hg) ht (by decide)
  · rw [hlen] at hi'
    by_cases e : i = ds.length
    · subst e
      rw [hgetn, updF_same, updF_same]
      exact ha
    · rw [hget i (by omega), updF_other _ _ e, updF_other _ _ e]
      exact h.ap i (by omega)
  · rw [hlen] at hi'
    by_cases e : i = ds.length
    · subst e
      rw [hgetn, updF_same, updF_same, updF_same]
      exact ⟨fun g hg' => (ho.lt g hg').2, fun j hj g hg' => ((hq.each j hj).lt g hg').2⟩
    · rw [hget i (by omega), updF_other _ _ e, updF_other _ _ e, updF_other _ _ e]
      exact h.up i (by omega)
  · rw [hlen] at hi'
    by_cases e : i = ds.length
    · subst e
      rw [updF_same, updF_same]
      exact ⟨hE0, hsz⟩
    · rw [updF_other _ _ e, updF_other _ _ e]
      exact ⟨(h.low i (by omega)).1, Nat.le_trans (h.low i (by omega)).2 hsz⟩
  · rw [hlen] at hj
    rw [updF_other _ _ (by omega : i ≠ ds.length)]
    by_cases e : j = ds.length
    · subst e
      rw [updF_same]
      exact hup i hij
    · rw [updF_other _ _ e]
      exact h.sep i j hij (by omega)
end

end Go.Proofs.YtcgboccdffgkfaaDoor

/-
  impl: (*reading).data.
-/
namespace Go.Proofs.YtcgboccdffgkfaaDoor
open Go.RowKit Go.Maps

theorem Tryd.infoRe : (Tryd.prog.info? 55).map (fun i => (i.zero, i.size, i.bytes)) = some (some (.agg #[.string ⟨#[]⟩, .int .i64 0, .slice none 0 0, .slice none 0 0]), 4, 72) := by kernel_rfl

/-- the relations that have been read, in their order -/
def DsOf (st : List RdV) (ds : List RelV) : Prop := ds.length = st.length ∧ ∀ i, i < st.length → RelOf (st.getD i noRd) (ds.getD i noRel)
/-- the first k of them -/
def DsTo (st : List RdV) (k : Nat) (ds : List RelV) : Prop := ds.length = k ∧ ∀ i, i < k → RelOf (st.getD i noRd) (ds.getD i noRel)
theorem DsTo.push {st : List RdV} {k : Nat} {ds : List RelV} {d : RelV} (h : DsTo st k ds) (hd : RelOf (st.getD k noRd) d) : DsTo st (k + 1) (ds ++ [d]) := by
  refine ⟨by rw [List.length_append, h.1]; rfl, fun i hi => ?_⟩
  by_cases e : i < k
  · have e1 : (ds ++ [d]).getD i noRel = ds.getD i noRel := by rw [List.getD_eq_getElem?_getD, List.getElem?_append_left (by rw [h.1]; exact e), ← List.getD_eq_getElem?_getD]
    rw [e1]; exact h.2 i e
  · obtain rfl : i = k := by omega
    have : (ds ++ [d]).getD i noRel = d := by rw [← h.1]; simp [List.getD_eq_getElem?_getD]
    rw [this]; exact hd
theorem bx_set {W : World} {p q : Nat} {t : TypeId} {v y : Value} (h : Boxed W p t v) (hne : p ≠ q) : Boxed (W.setCell ⟨q, 0, none⟩ y) p t v := (Below.heap_setCell _ _ _ _ hne).trans h
theorem bx_below {W W' : World} {p : Nat} {t : TypeId} {v : Value} (h : Boxed W p t v) (hb : Below W.heap.size W W') : Boxed W' p t v := (hb.block p h.lt).trans h
theorem bx_grown {W w3 : World} {p B n s : Nat} {t e : TypeId} {v u : Value} {xs : List Value} {o : Obj} (h : Boxed W p t v) (hu : W.ownsRow B e s u n xs) (hne : e ≠ t) (hg : (W.alloc o).grownBy w3 u.ownBlock) : Boxed w3 p t v := (kept_of hg h.lt (own_ne hu ⟨_, h⟩ hne)).trans h

/-- the loop's state -/
def DSt (w : World) (st : List RdV) (q p : Nat) (k : Nat) (W : World) : Prop := ∃ v ds vr vw us lo hi, Below w.heap.size w W ∧ Boxed W q 24 (.slice none 0 0) ∧ Boxed W p 24 v ∧ DsTo st k ds ∧ DQ W w.heap.size v ds vr vw us lo hi

/-- how data ends -/
def DatE (w : World) (st : List RdV) (e : Ending) (w' : World) : Prop := ∃ v ds vr vw us lo hi, e = .returned (.agg #[v]) ∧ DsOf st ds ∧ DQ w' w.heap.size v ds vr vw us lo hi ∧ Below w.heap.size w w'

set_option maxHeartbeats 8000000 in
set_option maxRecDepth 1000000 in
theorem data_calls (w : World) (B R : Nat) (st : List RdV) (vR : Value) (bP : Nat) (rb mb : Nat → Nat) (DD : Nat → DataW Unit) (h : RdI w B R st vR bP rb mb DD) (hok : StOk st) :
    Calls Tryd.prog 18 #[.pointer (some ⟨R, 0, none⟩)] w (DatE w st) := by
  obtain ⟨i0, hi, hz0, hz1, hz2⟩ := info_parts Tryd.infoRe
  obtain ⟨W1, hW1⟩ : ∃ W1, W1 = (w.alloc (.cells #[.slice none 0 0] 24)).alloc (.cells #[.slice none 0 0] 24) := ⟨_, rfl⟩
  have hB1 : Below w.heap.size w W1 := by rw [hW1]; exact ((Below.refl _ _).alloc (Nat.le_refl _) _).alloc (by simp) _
  have HS1 : Hid (DSt w st w.heap.size (w.heap.size + 1) 0 W1) := hid ⟨_, [], fun _ => undef, fun _ => undef, fun _ => [], fun _ => 0, fun _ => 0, hB1, by rw [hW1]; exact (Boxed.new w _ _).alloc _, by rw [hW1]; have := Boxed.new (w.alloc (.cells #[.slice none 0 0] 24)) 24 (.slice none 0 0); rw [World.size_alloc] at this; exact this, ⟨rfl, fun i hi => absurd hi (Nat.not_lt_zero _)⟩, DQ.nil _ _⟩
  obtain ⟨aR, cR, rfl⟩ := own_shapeR h.own
  have c0 : W1.cell? ⟨R, 0, none⟩ = some (.slice aR st.length cR) := bclR hB1 (by rw [cell_of_row _ _ _ _ _ _ h.blk]; rfl)
  have H := hid h
  have HOK := hid hok
  clear hB1 h hok
  obtain ⟨n, hn⟩ : ∃ n, n = st.length := ⟨_, rfl⟩
  have HN := hid hn
  rw [← hn] at c0
  have hn50 : n ≤ 50 := by rw [hn]; exact HOK.out.1
  clear hn
  go_enter Tryd.func18, Tryd.ntmps18
  go_upto_region 2 with fail
  rw [← hW1]
  clear hW1
  go_wp2_with fail
  clear c0
  go_loopw [11] (fun t wr => ∃ i : Nat, i ≤ n ∧ t = .int .i64 i ∧ Hid (DSt w st w.heap.size (w.heap.size + 1) i wr)) (fun t _ => n - (intOf t).toNat)
  case atStart => exact ⟨0, Nat.zero_le _, rfl, HS1⟩
  case round =>
    clear HS1
    obtain ⟨i, hin, rfl, HH⟩ := hrel
    obtain ⟨v, ds, vr, vw, us, lo, hi', hB, hq, hp, hds, hD⟩ := HH.out
    have HB := hid hB
    have HQb := hid hq
    have HPb := hid hp
    have HDS := hid hds
    have HD := hid hD
    clear HH hB hq hp hds hD
    by_cases hlt : i < n
    · have i1 : (i : Int) < (n : Int) := by omega
      have hls : i < st.length := by rw [← HN.out]; exact hlt
      obtain ⟨gR, cR', eR, -⟩ := H.out.own.form (by omega)
      simp only [Value.slice.injEq, true_and] at eR
      obtain ⟨rfl, rfl⟩ := eR
      have c2 : wr.cell? ⟨gR, i, none⟩ = some (.pointer (some ⟨rb i, 0, none⟩)) := bclR HB.out (by rw [H.out.own.cellAt i (by omega), List.getElem?_map, List.getElem?_range hls]; rfl)
      have KR : Hid (∀ W, Below w.heap.size w W → Calls Tryd.prog 39 #[.pointer (some ⟨rb i, 0, none⟩)] W fun e w' => ∃ (v2 v3 : Value) (us5 : List Value) (d : RelV), e = .returned (.agg #[.string d.name, .int .i64 d.ar, v2, v3]) ∧ RelOf (st.getD i noRd) d ∧ RQ w' W.heap.size v2 us5 d.rows ∧ w'.ownsRow W.heap.size 3 1 v3 d.ws.length (d.ws.map (Value.int .i64)) ∧ (∀ j, j < d.rows.length → ApR (us5.getD j undef) v3) ∧ Below W.heap.size W w') := hid fun W hW => by
        have hI := H.out.below hW
        have hc := hI.rel i hls
        have hk := HOK.out.2 i hls
        refine (relation_calls W (rb i) (mb i) (st.getD i noRd).nm (st.getD i noRd).ar (st.getD i noRd).rs (DD i) (by rw [cell_of_row _ _ _ _ _ _ hc]; rfl) (by rw [cell_of_row _ _ _ _ _ _ hc]; rfl) (by rw [cell_of_row _ _ _ _ _ _ hc]; rfl) (hI.tps i hls) hk.1 hk.2).mono ?_
        rintro e w' ⟨v2, v3, us5, ss, rfl, h1, h2, h3, h4, h5, h6⟩
        exact ⟨v2, v3, us5, ⟨(st.getD i noRd).nm, ((st.getD i noRd).ar : Int), rowsT (st.getD i noRd).ar ss, wtsT (st.getD i noRd).rs ss⟩, rfl, ⟨rfl, rfl, ss, h1, h2, rfl, rfl⟩, h3, h4, fun j hj => h5 j (by simpa [rowsT] using hj), h6⟩
      have hlds : ds.length = i := HDS.out.1
      go_upto_region 5 with fail
      have c1 := HPb.out.cell
      go_region_law (first
        | (refine step_append_lies _ (by rfl) _ _ 22 (by rfl) w.heap.size 55 i0 (.agg #[.string ⟨#[]⟩, .int .i64 0, .slice none 0 0, .slice none 0 0]) 4 72 Tryd.underlying22 hi hz0 hz1 hz2 rfl (by decide) v _ _ (by rfl) (HD5.out.own.alloc _) ⟨w5.heap.size, 0, none⟩ 1 1 (relC d5 (.slice a25 d5.rows.length k25) (.slice a35 d5.ws.length k35)) (by rfl) rfl HNW.out HONE.out (by decide) (by unfold maxLen; omega) (by omega) (by have := HB5.out.size; simp; omega) _ rfl ?_; intro g6 cp6 w6 hown6 hgrow6 hat6 hlt6; have b6 := bx_grown HP5.out HD5.out.own (by decide) hgrow6; have c6 := b6.cell; have f6 := b6.frozen)
        | (go_simp; go_at_call 39; (with_reducible refine (KR.out _ HB.out.drew).mono ?_); rintro e w5 ⟨v25, v35, us5, d5, rfl, hro5, hrq5, how5, hap5, hb5'⟩; have hb5 := drew_below2R hb5'; have HB5 := hid (bt HB.out hb5); have HP5 := hid (bx_below HPb.out hb5); have HQ5 := hid (bx_below HQb.out hb5); have HD5 := hid (HD.out.below hb5); have HX5 := hid (And.intro hro5 (And.intro hrq5 (And.intro how5 (And.intro hap5 hb5)))); have c5 := HP5.out.cell; have c5c : ∀ ob, (w5.alloc ob).cell? ⟨w.heap.size + 1, 0, none⟩ = some v := fun ob => (HP5.out.alloc ob).cell; obtain ⟨a25, k25, e25⟩ := own_shapeR hrq5.own; obtain ⟨a35, k35, e35⟩ := own_shapeR how5; subst e25 e35; have HONE : Hid (∀ u ∈ relC d5 (.slice a25 d5.rows.length k25) (.slice a35 d5.ws.length k35), u.oneCell' = true) := hid (fun u hu => by simp [relC] at hu; rcases hu with rfl | rfl | rfl | rfl <;> rfl); have HNW : Hid (∀ j u, (relC d5 (.slice a25 d5.rows.length k25) (.slice a35 d5.ws.length k35))[j]? = some u → (w5.alloc (.cells #[.string d5.name, .int .i64 d5.ar, .slice a25 d5.rows.length k25, .slice a35 d5.ws.length k35] 55)).cell? ((⟨w5.heap.size, 0, none⟩ : Addr).add j) = some u) := hid (World.news_of_block (World.alloc_heap_new w5 _)); clear hro5 hrq5 how5 hap5 hb5')
        | fail)
      all_goals
        go_wp2_with fail
        go_roundw
        case rel =>
          obtain ⟨hro, hrq, how, hap, hb5⟩ := HX5.out
          have hN := HD5.out.push (hi' := w5.heap.size) rfl hrq how hap HB.out.size (fun j hj => (HD.out.low j hj).2) hown6 hgrow6 ⟨_, b6⟩
          simp only [hlds] at hN
          refine ⟨i + 1, by omega, by go_num, hid ⟨_, _, _, _, _, _, _, ((HB5.out.alloc HB5.out.size _).grown hgrow6 (by have := HB5.out.size; simp; omega) (fun g hg => (HD5.out.own.lt g hg).1)).setCell (by simp) _, bx_set (bx_grown HQ5.out HD5.out.own (by decide) hgrow6) (by omega), Boxed.set _ b6, HDS.out.push hro, hN⟩⟩
        case measure => simp [intOf]; omega
    · obtain rfl : i = n := by omega
      have i1 : ¬ ((i : Int) < (i : Int)) := by omega
      have HF : Hid (DsOf st ds) := hid ⟨by rw [← HN.out]; exact HDS.out.1, fun j hj => HDS.out.2 j (by rw [HN.out]; exact hj)⟩
      obtain ⟨aV, cV, rfl⟩ := own_shapeR HD.out.own
      have b1 := HQb.out.cell
      have f1 := HQb.out.frozen
      have d1 := HPb.out.cell
      have HTy : Hid (∃ cur, wr.heap[w.heap.size]? = some (.cells cur 24 (0, 0))) := hid ⟨_, HQb.out⟩
      generalize ds.length = ld at *
      go_wp2_with fail
      refine bodyPost_ret (v := .agg #[.slice aV ld cV]) (by simp [results, Tryd.results18, go_sem, b1]) rfl ?_
      exact ⟨_, ds, vr, vw, us, lo, hi', rfl, HF.out, HD.out.set HTy.out, HB.out.setCell (Nat.le_refl _) _⟩

end Go.Proofs.YtcgboccdffgkfaaDoor

/-
  The lines of a text, one after another.
-/
namespace Go.Proofs.YtcgboccdffgkfaaDoor
open Go.RowKit

/-- the state behind k lines -/
def prT (ls : List (List UInt8)) : Nat → Option (List RdV)
  | 0 => some []
  | k + 1 => (prT ls k).bind fun st => takA st (ls.getD k [])

theorem stOk_nil : StOk [] := ⟨Nat.zero_le _, fun _ hi => absurd hi (Nat.not_lt_zero _)⟩
theorem takA_ok {st st' : List RdV} {l : List UInt8} (hs : StOk st) (h : takA st l = some st') : StOk st' := by
  unfold takA at h
  split at h
  · cases h; exact hs
  · dsimp only at h
    split at h
    · split at h
      · rename_i hd
        cases h
        unfold decA at hd
        simp only [Bool.and_eq_true, decide_eq_true_eq, Bool.not_eq_true', decide_eq_false_iff_not] at hd
        obtain ⟨⟨⟨⟨⟨-, h50⟩, -⟩, -⟩, har⟩, -⟩ := hd
        unfold arityB at har
        simp only [Bool.and_eq_true, decide_eq_true_eq] at har
        refine ⟨by rw [List.length_append, List.length_singleton]; have := hs.1; omega, fun i hi => ?_⟩
        rw [List.length_append, List.length_singleton] at hi
        by_cases e : i < st.length
        · rw [List.getD_eq_getElem?_getD, List.getElem?_append_left e, ← List.getD_eq_getElem?_getD]
          exact hs.2 i e
        · obtain rfl : i = st.length := by omega
          rw [List.getD_eq_getElem?_getD, List.getElem?_append_right (Nat.le_refl _), Nat.sub_self]
          exact ⟨Nat.zero_le _, by show 1 ≤ numN _ 3; omega, by show numN _ 3 ≤ 3; omega⟩
      · cases h
    · split at h
      · rename_i hd
        cases h
        simp only [Bool.and_eq_true] at hd
        obtain ⟨hk, hsto⟩ := hd
        have hpl := (plcP_of hk).1
        rw [List.length_map] at hpl
        unfold stoA at hsto
        simp only [Bool.and_eq_true, Bool.or_eq_true, decide_eq_true_eq, Bool.not_eq_true', decide_eq_false_iff_not] at hsto
        obtain ⟨-, hfull⟩ := hsto
        refine ⟨by rw [List.length_set]; exact hs.1, fun i hi => ?_⟩
        rw [List.length_set] at hi
        generalize plcP (st.map RdV.nm) ⟨((spl 32 l).getD 0 []).toArray⟩ = p at *
        by_cases e : i = p
        · subst e
          rw [getD_set_same hpl]
          have h3 := hs.2 i hpl
          refine ⟨?_, h3.2⟩
          show (updT _ _ _).length ≤ 2000
          rw [updT_len]
          split
          · exact h3.1
          · rename_i hno
            rcases hfull with hf | hf
            · exact absurd hf hno
            · have := h3.1; omega
        · rw [getD_set_other e]
          exact hs.2 i hi
      · cases h
theorem prT_ok {ls : List (List UInt8)} : ∀ {k : Nat} {st : List RdV}, prT ls k = some st → StOk st
  | 0, st, h => by cases h; exact stOk_nil
  | k + 1, st, h => by
    rw [prT, Option.bind_eq_some_iff] at h
    obtain ⟨st0, h0, h1⟩ := h
    exact takA_ok (prT_ok h0) h1

/-- how impl.ParseData ends -/
def ParE (w : World) (l : List UInt8) (e : Ending) (w' : World) : Prop := Below w.heap.size w w' ∧
  ((60000 < l.length ∧ e = .returned (.tuple #[.agg #[.slice none 0 0], .int .i64 (-1)])) ∨
   (l.length ≤ 60000 ∧ ∃ k, k < (spl 10 l).length ∧ (∃ st, prT (spl 10 l) k = some st) ∧ prT (spl 10 l) (k + 1) = none ∧ e = .returned (.tuple #[.agg #[.slice none 0 0], .int .i64 ((k : Int) + 1)])) ∨
   (l.length ≤ 60000 ∧ ∃ st, prT (spl 10 l) (spl 10 l).length = some st ∧ ∃ v ds vr vw us lo hi, e = .returned (.tuple #[.agg #[v], .int .i64 0]) ∧ DsOf st ds ∧ DQ w' w.heap.size v ds vr vw us lo hi))

end Go.Proofs.YtcgboccdffgkfaaDoor

/-
  impl.ParseData.
-/
namespace Go.Proofs.YtcgboccdffgkfaaDoor
open Go.RowKit Go.Maps

theorem RdI.start (W : World) (B : Nat) (hB : B ≤ W.heap.size) (f g : Nat → Nat) (h : Nat → DataW Unit) : RdI ((W.alloc (.map #[] 0)).alloc (.cells #[.slice none 0 0, .map (some W.heap.size)] 44)) B (W.heap.size + 1) [] (.slice none 0 0) W.heap.size f g h := by
  have e := World.alloc_heap_new (W.alloc (.map #[] 0)) (.cells #[.slice none 0 0, .map (some W.heap.size)] 44)
  rw [World.size_alloc] at e
  exact ⟨e, World.ownsRow_nil _ _ _ _, (PlcM.start W).bel ((Below.refl _ _).alloc (Nat.le_refl _) _), fun _ hi => absurd hi (Nat.not_lt_zero _), fun _ hi => absurd hi (Nat.not_lt_zero _), ⟨by omega, hB, fun _ hi => absurd hi (Nat.not_lt_zero _)⟩, fun _ hi => absurd hi (Nat.not_lt_zero _)⟩

/-- the loop's state -/
def PSt (W1 : World) (B R bP G : Nat) (ls : List (List UInt8)) (i : Nat) (W : World) : Prop := ∃ st vR rb mb DD, prT ls i = some st ∧ RdI W B R st vR bP rb mb DD ∧ Below B W1 W ∧ W.heap[G]? = some (.cells (ls.map tx).toArray 9 (0, 0))

set_option maxHeartbeats 8000000 in
set_option maxRecDepth 1000000 in
theorem iParse_calls (w : World) (s : ByteArray) (m : Int) (hm : w.cell? ⟨0, 0, none⟩ = some (.int .i64 m)) (hs : s.size ≤ 1099511627776) :
    Calls Tryd.prog 6 #[.string s] w (ParE w s.data.toList) := by
  have hmm := @run_makeMap Tryd.prog
  have hlen : s.data.toList.length = s.size := by simp
  obtain ⟨W1, hW1⟩ : ∃ W1, W1 = w.alloc (.cells #[.slice none 0 0] 24) := ⟨_, rfl⟩
  have HB1 : Hid (Below w.heap.size w W1) := hid (by rw [hW1]; exact (Below.refl _ _).alloc (Nat.le_refl _) _)
  have HX1 : Hid (Boxed W1 w.heap.size 24 (.slice none 0 0)) := hid (by rw [hW1]; exact Boxed.new _ _ _)
  have hs1 : W1.heap.size = w.heap.size + 1 := by rw [hW1]; simp
  have HS1 := hid hs1
  have b1 := HX1.out.cell
  have f1 := HX1.out.frozen
  by_cases hbig : 60000 < s.size
  · have q1 : (60000 : Int) < (s.size : Int) := by omega
    have HF : Hid (∀ w', Below w.heap.size w w' → ParE w s.data.toList (.returned (.tuple #[.agg #[.slice none 0 0], .int .i64 (-1)])) w') := hid fun w' hb => ⟨hb, Or.inl ⟨by omega, rfl⟩⟩
    clear hlen hbig hs1 hmm
    go_enter Tryd.func6, Tryd.ntmps6
    go_upto_region 1 with fail
    rw [← hW1]
    clear hW1
    go_wp2_with fail
    refine bodyPost_ret (v := .tuple #[.agg #[.slice none 0 0], .int .i64 (-1)]) (by simp [results, Tryd.results6, go_sem, b1]) rfl ?_
    exact HF.out _ (HB1.out.setCell (Nat.le_refl _) _)
  · have q1 : ¬ ((60000 : Int) < (s.size : Int)) := by omega
    have hsm : s.size ≤ 60000 := by omega
    obtain ⟨ls, hls⟩ : ∃ ls, ls = spl 10 s.data.toList := ⟨_, rfl⟩
    obtain ⟨W2, hW2⟩ : ∃ W2, W2 = (W1.alloc (.map #[] 0)).alloc (.cells #[.slice none 0 0, .map (some W1.heap.size)] 44) := ⟨_, rfl⟩
    have hB2 : Below W1.heap.size W1 W2 := by rw [hW2]; exact ((Below.refl _ _).alloc (Nat.le_refl _) _).alloc (by simp) _
    have HR2 : Hid (RdI W2 W1.heap.size (W1.heap.size + 1) [] (.slice none 0 0) W1.heap.size (fun _ => 0) (fun _ => 0) (fun _ => .map [])) := hid (by rw [hW2]; exact RdI.start W1 _ (Nat.le_refl _) _ _ _)
    have HB2 := hid hB2
    have KS := hid (Tryd.c_Split s 10 m W2 (by omega) (bclR (bt HB1.out hB2) hm))
    rw [← hls] at KS
    have HP0 : Hid (PSt W1 W1.heap.size (W1.heap.size + 1) W1.heap.size W2.heap.size ls 0 (W2.alloc (.cells (ls.map tx).toArray 9))) := hid ⟨[], _, _, _, _, rfl, HR2.out.below ((Below.refl _ _).alloc (Nat.le_refl _) _), bt hB2 ((Below.refl _ _).alloc (Nat.le_refl _) _), World.alloc_heap_new _ _⟩
    have hlz : ls.length ≤ 60001 := by rw [hls]; have := spl_le 10 s.data.toList; omega
    have HLl : Hid (∀ j, (ls.getD j []).length ≤ 60000) := hid fun j => by rw [hls]; have := spl_len 10 s.data.toList j; omega
    have HM := hid hm
    have HFn : Hid (∀ k w', k < ls.length → (∃ st, prT ls k = some st) → prT ls (k + 1) = none → Below w.heap.size w w' → ParE w s.data.toList (.returned (.tuple #[.agg #[.slice none 0 0], .int .i64 ((k : Int) + 1)])) w') := hid fun k w' hk h1 h2 hb => ⟨hb, Or.inr (Or.inl ⟨by omega, k, by rw [← hls]; exact hk, by rw [← hls]; exact h1, by rw [← hls]; exact h2, rfl⟩)⟩
    have HFy : Hid (∀ v w' st ds vr vw us lo hi, prT ls ls.length = some st → DsOf st ds → DQ w' w.heap.size v ds vr vw us lo hi → Below w.heap.size w w' → ParE w s.data.toList (.returned (.tuple #[.agg #[v], .int .i64 0])) w') := hid fun v w' st ds vr vw us lo hi h1 h2 h3 hb => ⟨hb, Or.inr (Or.inr ⟨by omega, st, by rw [← hls]; exact h1, v, ds, vr, vw, us, lo, hi, rfl, h2, h3⟩)⟩
    clear hlen hbig hs1 hB2 HR2 hm hls hsm
    go_enter Tryd.func6, Tryd.ntmps6
    go_upto_region 1 with fail
    rw [← hW1]
    clear hW1
    go_upto_region 4 with fail
    rw [← hW2]
    clear hW2
    obtain ⟨n, hn⟩ : ∃ n, n = ls.length := ⟨_, rfl⟩
    have HN := hid hn
    rw [← hn] at KS hlz
    clear hn
    obtain ⟨P, hP⟩ : ∃ P, P = W1.heap.size := ⟨_, rfl⟩
    have HPe := hid hP
    rw [← hP] at HP0 ⊢
    clear hP
    go_wp2_with (first | (go_at_call 16; refine KS.out.mono ?_; rintro e w3 ⟨rfl, rfl⟩) | fail)
    clear KS
    obtain ⟨G, hG⟩ : ∃ G, G = W2.heap.size := ⟨_, rfl⟩
    rw [← hG] at HP0 ⊢
    clear hG
    go_loopw [16] (fun t wr => ∃ i : Nat, i ≤ n ∧ t = .int .i64 i ∧ Hid (PSt W1 P (P + 1) P G ls i wr)) (fun t _ => n - (intOf t).toNat)
    case atStart => exact ⟨0, Nat.zero_le _, rfl, HP0⟩
    case round =>
      clear HP0
      obtain ⟨i, hin, rfl, HH⟩ := hrel
      obtain ⟨st, vR, rb, mb, DD, hst, hI, hB, hL⟩ := HH.out
      have HST := hid hst
      have HI := hid hI
      have HB := hid hB
      have HL := hid hL
      clear HH hst hI hB hL
      have HBw : Hid (Below w.heap.size w wr) := hid (by
        have := HB.out
        rw [HPe.out] at this
        exact bt HB1.out this)
      have b2 : wr.cell? ⟨w.heap.size, 0, none⟩ = some (.slice none 0 0) := (HB.out.cell (p := ⟨w.heap.size, 0, none⟩) (by have := HPe.out; have := HS1.out; show w.heap.size < P; omega)).trans b1
      have HBx : Hid (wr.heap[w.heap.size]? = W1.heap[w.heap.size]?) := hid (HB.out.block _ (by have := HPe.out; have := HS1.out; omega))
      have f2 : wr.frozen? ⟨w.heap.size, 0, none⟩ = false := by rw [World.frozen?_of_block HBx.out]; exact f1
      by_cases hlt : i < n
      · have i1 : (i : Int) < (n : Int) := by omega
        have hil : i < ls.length := by rw [← HN.out]; exact hlt
        have cl : wr.cell? ⟨G, i, none⟩ = some (.string ⟨(ls.getD i []).toArray⟩) := by
          rw [cell_of_row _ _ _ _ _ _ HL.out]
          simp only [List.getElem?_toArray, List.getElem?_map, List.getElem?_eq_getElem hil, Option.map_some, List.getD_eq_getElem?_getD, Option.getD_some]
          rfl
        have KT := hid (take_calls wr P (P + 1) st vR P rb mb DD HI.out (prT_ok HST.out) ⟨(ls.getD i []).toArray⟩ (by show (ls.getD i []).toArray.size ≤ _; rw [List.size_toArray]; have := HLl.out i; omega) m (bclR HBw.out HM.out))
        have HNx : Hid (prT ls (i + 1) = takA st (ls.getD i [])) := hid (by rw [prT, HST.out]; rfl)
        rw [show (⟨(ls.getD i []).toArray⟩ : ByteArray).data.toList = ls.getD i [] from by simp] at KT
        unfold TakE at KT
        cases hta : takA st (ls.getD i []) with
        | none =>
          rw [hta] at KT HNx
          clear hta
          generalize ls.getD i [] = li at *
          go_wp2_with (first | (go_at_call 17; refine KT.out.mono ?_; rintro e w5 ⟨rfl, hb5, hks5, -⟩; have b5 : w5.cell? ⟨w.heap.size, 0, none⟩ = some (.slice none 0 0) := ((hb5.cell (p := ⟨w.heap.size, 0, none⟩) (by have := HPe.out; have := HS1.out; show w.heap.size < P; omega)).trans b2); have f5 : w5.frozen? ⟨w.heap.size, 0, none⟩ = false := (by rw [World.frozen?_of_block (hb5.block _ (by have := HPe.out; have := HS1.out; omega : w.heap.size < P))]; exact f2)) | fail)
          refine bodyPost_ret (v := .tuple #[.agg #[.slice none 0 0], .int .i64 ((i : Int) + 1)]) (by simp [results, Tryd.results6, go_sem, b5]) rfl ?_
          exact HFn.out i _ hil ⟨st, HST.out⟩ HNx.out ((HBw.out.trans (hb5.mono (by have := HPe.out; have := HS1.out; omega))).setCell (Nat.le_refl _) _)
        | some st' =>
          rw [hta] at KT HNx
          clear hta
          generalize ls.getD i [] = li at *
          go_wp2_with (first | (go_at_call 17; refine KT.out.mono ?_; rintro e w5 ⟨rfl, hb5, hks5, hr5⟩) | fail)
          go_roundw
          case rel =>
            obtain ⟨vR', rb', mb', DD', hr⟩ := hr5 st' rfl
            exact ⟨i + 1, by omega, by go_num, hid ⟨st', vR', rb', mb', DD', HNx.out, hr, HB.out.trans hb5, (hks5 G _ HL.out).trans HL.out⟩⟩
          case measure => simp [intOf]; omega
      · obtain rfl : i = n := by omega
        have i1 : ¬ ((i : Int) < (i : Int)) := by omega
        have KD := hid (data_calls wr P (P + 1) st vR P rb mb DD HI.out (prT_ok HST.out))
        go_wp2_with (first | (go_at_call 18; refine KD.out.mono ?_; rintro e w5 ⟨v5, ds5, vr5, vw5, us5, lo5, hi5, rfl, hds5, hdq5, hb5⟩; have HX5 := hid (And.intro hds5 (And.intro hdq5 hb5)); have b5 := bclR hb5 b2; have f5 : w5.frozen? ⟨w.heap.size, 0, none⟩ = false := (by rw [World.frozen?_of_block (hb5.block _ (World.block_lt_of_cell? wr _ b2))]; exact f2); obtain ⟨a5, c5, e5⟩ := own_shapeR hdq5.own; subst e5; clear hds5 hdq5 hb5) | fail)
        refine bodyPost_ret (v := .tuple #[.agg #[.slice a5 ds5.length c5], .int .i64 0]) (by simp [results, Tryd.results6, go_sem, b5]) rfl ?_
        have hty : ∃ cur, w5.heap[w.heap.size]? = some (.cells cur 24 (0, 0)) := ⟨_, ((HX5.out.2.2.block _ (World.block_lt_of_cell? wr _ b2)).trans HBx.out).trans HX1.out⟩
        refine HFy.out _ _ st ds5 vr5 vw5 us5 lo5 hi5 (by rw [← HN.out]; exact HST.out) HX5.out.1 ?_ ((bt HBw.out HX5.out.2.2).setCell (Nat.le_refl _) _)
        exact (HX5.out.2.1.base (Nat.le_trans (Nat.le_refl _) HBw.out.size)).set hty

end Go.Proofs.YtcgboccdffgkfaaDoor
