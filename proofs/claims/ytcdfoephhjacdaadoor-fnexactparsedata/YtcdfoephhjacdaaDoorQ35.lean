import Derived.Test.YtcdfoephhjacdaaDoorQ30
import Derived.Test.YtcdfoephhjacdaaDoorQ33
import Derived.Test.YtcdfoephhjacdaaDoorQ34
/-
  strings.Split at one byte, by the shelf's contract.
-/
namespace Go.Proofs
open Go.RowKit Go.Proofs.YtcdfoephhjacdaaDoor
theorem Tryd.c_Split (s : ByteArray) (c : UInt8) (m : Int) (w : World) (hs : s.size < 4294967281) (hm : w.cell? ⟨2, 0, none⟩ = some (.int .i64 m)) :
    Calls Tryd.prog 17 #[.string s, .string ⟨#[c]⟩] w fun e w' => e = .returned (.slice (some ⟨w.heap.size, 0, none⟩) (spl c s.data.toList).length (spl c s.data.toList).length) ∧ w' = w.alloc (.cells ((spl c s.data.toList).map tx).toArray 9) := by
  have h1 : 1 ≤ (⟨#[c]⟩ : ByteArray).size := Nat.le_refl _
  have hl := Lib.splitB_all ⟨#[c]⟩ h1 0 _ s rfl
  have e := splitB_spl s c
  have hlen : Lib.countB s ⟨#[c]⟩ + 1 = (spl c s.data.toList).length := by rw [← hl, e, List.length_map]
  have K := Any.strings_Split Tryd.lays146 (by kernel_rfl) s ⟨#[c]⟩ m w hs hm h1
  rw [e, hlen, List.map_map] at K
  exact K
end Go.Proofs

/-
  impl: (*reading).take.
-/
namespace Go.Proofs.YtcdfoephhjacdaaDoor
open Go.RowKit Go.Maps

theorem spl_pos (c : UInt8) (l : List UInt8) : 1 ≤ (spl c l).length := by
  induction l with
  | nil => simp [spl]
  | cons x r ih => rw [spl]; split <;> simp_all
theorem spl_le (c : UInt8) (l : List UInt8) : (spl c l).length ≤ l.length + 1 := by
  induction l with
  | nil => simp [spl]
  | cons x r ih => rw [spl]; split <;> simp_all; omega
theorem spl_len (c : UInt8) (l : List UInt8) : ∀ j, ((spl c l).getD j []).length ≤ l.length := by
  induction l with
  | nil => intro j; cases j <;> simp [spl]
  | cons x r ih =>
    intro j
    rw [spl]
    split
    · cases j with
      | zero => simp
      | succ j => rw [List.getD_cons_succ]; have := ih j; rw [List.length_cons]; omega
    · cases j with
      | zero =>
        have := ih 0
        rw [List.getD_cons_zero]
        cases hs : spl c r with
        | nil => simp
        | cons y t => rw [hs] at this; simp at this ⊢; omega
      | succ j =>
        rw [List.getD_cons_succ]
        have := ih (j + 1)
        cases hs : spl c r with
        | nil => simp
        | cons y t => rw [hs] at this; rw [List.tail_cons]; rw [List.getD_cons_succ] at this; rw [List.length_cons]; omega

/-- the place of a name -/
def plcP (L : List ByteArray) (s : ByteArray) : Nat := L.findIdx fun x => x.toList == s.toList
theorem plcP_of {L : List ByteArray} {s : ByteArray} (h : hasP L s = true) : plcP L s < L.length ∧ L.getD (plcP L s) noTxP = s := by
  unfold hasP at h
  have h1 : plcP L s < L.length := List.findIdx_lt_length_of_exists (by rw [List.any_eq_true] at h; exact h)
  refine ⟨h1, ?_⟩
  have h2 := List.findIdx_getElem (w := h1)
  rw [beq_txP] at h2
  rw [List.getD_eq_getElem?_getD, List.getElem?_eq_getElem h1]
  exact of_decide_eq_true h2

/-- a line that says nothing -/
def mute (l : List UInt8) : Bool := l.isEmpty || decide (l.head? = some 35)
/-- the state behind a line -/
def takA (st : List RdV) (l : List UInt8) : Option (List RdV) :=
  if mute l then some st
  else
    let f := spl 32 l
    if f.getD 0 [] = [114, 101, 108] then
      (if decA st (f.drop 1) then some (st ++ [⟨⟨((f.drop 1).getD 0 []).toArray⟩, numN ⟨((f.drop 1).getD 1 []).toArray⟩ 3, []⟩]) else none)
    else
      let L := st.map RdV.nm
      let s : ByteArray := ⟨(f.getD 0 []).toArray⟩
      let r := st.getD (plcP L s) noRd
      if hasP L s && stoA r.ar r.rs (f.drop 1) then some (st.set (plcP L s) ⟨r.nm, r.ar, updT r.rs (tupF (f.drop 1) r.ar) (wtF ((f.drop 1).getD r.ar []))⟩) else none

/-- how take ends -/
def TakE (w : World) (B R : Nat) (st : List RdV) (bP : Nat) (l : List UInt8) (e : Ending) (w' : World) : Prop :=
  e = .returned (.bool (takA st l).isSome) ∧ Below B w w' ∧ KeepS w w' ∧ ∀ st', takA st l = some st' → ∃ vR' rb' mb' DD', RdI w' B R st' vR' bP rb' mb' DD'
/-- what holds of the relations so far -/
def StOk (st : List RdV) : Prop := st.length ≤ 50 ∧ ∀ i, i < st.length → (st.getD i noRd).rs.length ≤ 2000 ∧ 1 ≤ (st.getD i noRd).ar ∧ (st.getD i noRd).ar ≤ 3

theorem fs_drop {W : World} {g n : Nat} {fs : List (List UInt8)} (hn : fs.length = n) (h1 : 1 ≤ n) (hc : ∀ j, j < n → W.cell? ⟨g, j, none⟩ = some (.string ⟨(fs.getD j []).toArray⟩)) : FS W (.slice (if n = 1 then some ⟨g, 0, none⟩ else some ⟨g, 1, none⟩) (n - 1) (n - 1)) (fs.drop 1) := by
  have hl : (fs.drop 1).length = n - 1 := by rw [List.length_drop, hn]
  refine ⟨_, _, by rw [hl], by rw [hl]; exact Nat.le_refl _, ?_⟩
  by_cases e : n = 1
  · exact Or.inl (by omega)
  · refine Or.inr ⟨g, 1, by rw [if_neg e], fun j hj => ?_⟩
    rw [hc (1 + j) (by omega), List.getD_eq_getElem?_getD, List.getD_eq_getElem?_getD, List.getElem?_drop]
theorem tx_cells (w : World) (l : List (List UInt8)) : ∀ j, j < l.length → (w.alloc (.cells (l.map tx).toArray 9)).cell? ⟨w.heap.size, j, none⟩ = some (.string ⟨(l.getD j []).toArray⟩) := fun j hj => by
  rw [World.cell?_alloc_at _ _ _ _ rfl]
  simp only [List.getElem?_toArray, List.getElem?_map, List.getElem?_eq_getElem hj, Option.map_some, List.getD_eq_getElem?_getD, Option.getD_some]
  rfl

theorem lookOkP {W : World} {b : Nat} {L : List ByteArray} (h : PlcM W b L) (s : ByteArray) (hs : s.size ≤ 9223372036854775807) : ∃ c : Int, (hasP L s = true → c = (plcP L s : Nat)) ∧ ∀ d : Nat, (Instr.lookup 41 (.map (some b)) (.string s) true).run Tryd.prog (W.drewN d) = .ok (.tuple #[.int .i64 c, .bool (hasP L s)]) (W.drewN d) := by
  obtain ⟨D, hown, hhas, hsize, hat⟩ := h
  have key : ∀ d : Nat, ∃ c : Int, (Instr.lookup 41 (.map (some b)) (.string s) true).run Tryd.prog (W.drewN d) = .ok (.tuple #[.int .i64 c, .bool (hasP L s)]) (W.drewN d) ∧ D.atKey (.string s.data.toList) (.lit (.int .i64 0)) = .lit (.int .i64 c) := fun d => by
    have hd : (W.drewN d).ownsMap Tryd.prog 9 (plainElem Tryd.prog 3) b L.length D := hown
    obtain ⟨v, ps, hrun, hv⟩ := hd.look_ok Tryd.lawPl Tryd.underlying41 (Tryd.zeroPl _) (plainElem_int Tryd.underlying3 (by decide)) (WideMaps.keyOf_string_mk Tryd.underlying9 hs)
    obtain ⟨c, rfl, hc, -⟩ := plainElem_int_inv Tryd.underlying3 hv
    rw [hhas s] at hrun
    simp only [Prod.mk.injEq] at hc
    exact ⟨c, hrun, hc.1⟩
  obtain ⟨c, -, hc⟩ := key 0
  refine ⟨c, fun hh => ?_, fun d => ?_⟩
  · obtain ⟨h1, h2⟩ := plcP_of hh
    have := hat _ h1 (.lit (.int .i64 0))
    rw [h2, hc] at this
    simpa using this
  · obtain ⟨c', h1, h2⟩ := key d
    rw [hc] at h2
    simp only [DataW.lit.injEq, Lit.int.injEq, true_and] at h2
    rw [h2]
    exact h1

set_option maxHeartbeats 8000000 in
set_option maxRecDepth 1000000 in
theorem take_calls (w : World) (B R : Nat) (st : List RdV) (vR : Value) (bP : Nat) (rb mb : Nat → Nat) (DD : Nat → DataW Unit) (h : RdI w B R st vR bP rb mb DD) (hok : StOk st) (s : ByteArray) (hs : s.size ≤ 1000000) (m : Int) (hm : w.cell? ⟨2, 0, none⟩ = some (.int .i64 m)) :
    Calls Tryd.prog 18 #[.pointer (some ⟨R, 0, none⟩), .string s] w (TakE w B R st bP s.data.toList) := by
  have hBw : B ≤ w.heap.size := Nat.le_trans h.lo.1 (Nat.le_of_lt (heap_lt h.blk))
  by_cases h0 : s.size = 0
  · have e1 : s = ⟨#[]⟩ := by
      obtain ⟨⟨l⟩⟩ := s
      simp [ByteArray.size] at h0
      simp [h0]
    subst e1
    have hA : takA st (⟨#[]⟩ : ByteArray).data.toList = some st := rfl
    have HF : Hid (∀ e, e = .returned (.bool true) → TakE w B R st bP (⟨#[]⟩ : ByteArray).data.toList e w) := hid fun e he => ⟨by rw [hA]; exact he, Below.refl _ _, KeepS.below (Below.refl _ _), fun st' hs' => by rw [hA] at hs'; cases hs'; exact ⟨_, _, _, _, h⟩⟩
    clear h hm hA
    go_enter Tryd.func18, Tryd.ntmps18
    go_wp2_with fail
    go_ret
    exact HF.out _ rfl
  have hne := not_empty h0
  have i0 : (0 : Int) < (s.size : Int) := by omega
  have hp0 : 0 < s.size := by omega
  have hb0 := byteAt_eq s 0 hp0
  have hlen : s.data.toList.length = s.size := by simp
  have hhd : s.data.toList.head? = some (s.data.toList.getD 0 0) := by
    cases hl : s.data.toList with
    | nil => rw [hl] at hlen; simp at hlen; omega
    | cons x r => rfl
  by_cases hsh : s.data.toList.head? = some 35
  · have hA : takA st s.data.toList = some st := by unfold takA mute; rw [decide_eq_true hsh, Bool.or_true, if_pos rfl]
    have HF : Hid (∀ e, e = .returned (.bool true) → TakE w B R st bP s.data.toList e w) := hid fun e he => ⟨by rw [hA]; exact he, Below.refl _ _, KeepS.below (Below.refl _ _), fun st' hs' => by rw [hA] at hs'; cases hs'; exact ⟨_, _, _, _, h⟩⟩
    have q3 : (((s[0]'hp0).toNat : Int) == 35) = true := by
      rw [← hb0]
      rw [hhd, Option.some.injEq] at hsh
      unfold byteAt
      rw [hsh]; rfl
    clear h hm hA hsh hhd hb0 hlen
    go_enter Tryd.func18, Tryd.ntmps18
    go_wp2_with fail
    go_ret
    exact HF.out _ rfl
  have q3 : (((s[0]'hp0).toNat : Int) == 35) = false := by
    rw [← hb0]
    rw [hhd, Option.some.injEq] at hsh
    unfold byteAt
    simp only [beq_eq_false_iff_ne, ne_eq]
    exact fun e => hsh (UInt8.toNat_inj.1 (by show _ = 35; omega))
  have hmu : mute s.data.toList = false := by
    unfold mute
    rw [decide_eq_false hsh, Bool.or_false]
    cases hl : s.data.toList with
    | nil => rw [hl] at hlen; simp at hlen; omega
    | cons x r => rfl
  obtain ⟨f, hfd⟩ : ∃ f, f = spl 32 s.data.toList := ⟨_, rfl⟩
  have hf1 : 1 ≤ f.length := by rw [hfd]; exact spl_pos _ _
  have hfl : ∀ j, (f.getD j []).length ≤ 1000000 := fun j => by rw [hfd]; exact Nat.le_trans (spl_len _ _ j) (by omega)
  have KS := hid (Tryd.c_Split s 32 m w (by omega) hm)
  rw [← hfd] at KS
  have HA : Hid (takA st s.data.toList = if f.getD 0 [] = [114, 101, 108] then (if decA st (f.drop 1) then some (st ++ [⟨⟨((f.drop 1).getD 0 []).toArray⟩, numN ⟨((f.drop 1).getD 1 []).toArray⟩ 3, []⟩]) else none) else (if hasP (st.map RdV.nm) ⟨(f.getD 0 []).toArray⟩ && stoA (st.getD (plcP (st.map RdV.nm) ⟨(f.getD 0 []).toArray⟩) noRd).ar (st.getD (plcP (st.map RdV.nm) ⟨(f.getD 0 []).toArray⟩) noRd).rs (f.drop 1) then some (st.set (plcP (st.map RdV.nm) ⟨(f.getD 0 []).toArray⟩) ⟨(st.getD (plcP (st.map RdV.nm) ⟨(f.getD 0 []).toArray⟩) noRd).nm, (st.getD (plcP (st.map RdV.nm) ⟨(f.getD 0 []).toArray⟩) noRd).ar, updT (st.getD (plcP (st.map RdV.nm) ⟨(f.getD 0 []).toArray⟩) noRd).rs (tupF (f.drop 1) (st.getD (plcP (st.map RdV.nm) ⟨(f.getD 0 []).toArray⟩) noRd).ar) (wtF ((f.drop 1).getD (st.getD (plcP (st.map RdV.nm) ⟨(f.getD 0 []).toArray⟩) noRd).ar []))⟩) else none)) := hid (by unfold takA; rw [hmu, if_neg (by decide), ← hfd])
  have hA1 : Below w.heap.size w (w.alloc (.cells (f.map tx).toArray 9)) := (Below.refl _ _).alloc (Nat.le_refl _) _
  have HFS : Hid (FS (w.alloc (.cells (f.map tx).toArray 9)) (.slice (if f.length = 1 then some ⟨w.heap.size, 0, none⟩ else some ⟨w.heap.size, 1, none⟩) (f.length - 1) (f.length - 1)) (f.drop 1)) := hid (fs_drop rfl hf1 (tx_cells w f))
  have H1 := hid (h.below hA1)
  have c00 : (w.alloc (.cells (f.map tx).toArray 9)).cell? ⟨w.heap.size, 0, none⟩ = some (.string ⟨(f.getD 0 []).toArray⟩) := tx_cells w f 0 (by omega)
  have HB1 := hid hA1
  have HfD : Hid (∀ j, ((f.drop 1).getD j []).length ≤ 1000000) := hid fun j => by rw [List.getD_eq_getElem?_getD, List.getElem?_drop, ← List.getD_eq_getElem?_getD]; exact hfl _
  have hs0 : (⟨(f.getD 0 []).toArray⟩ : ByteArray).size ≤ 1000000 := by show (f.getD 0 []).toArray.size ≤ _; rw [List.size_toArray]; exact hfl 0
  have hn1 : (1 : Int) ≤ (f.length : Int) := by omega
  clear hA1 h hm hfl hhd hb0 hlen hsh hmu hfd
  by_cases hrel : f.getD 0 [] = [114, 101, 108]
  · have KD := hid (declare_calls _ B R st vR bP rb mb DD H1.out _ _ HFS.out HfD.out hok.1)
    have q4 : ((⟨(f.getD 0 []).toArray⟩ : ByteArray).toList == [114, 101, 108]) = true := by rw [ByteArray.toList_eq, hrel]; rfl
    have HE : Hid (∀ e w', DecE (w.alloc (.cells (f.map tx).toArray 9)) B R st bP (f.drop 1) e w' → TakE w B R st bP s.data.toList e w') := hid fun e w' ⟨h1, h2, h3⟩ => by
      rw [if_pos hrel] at HA
      have hA := HA.out
      cases hd : decA st (f.drop 1)
      · rw [hd] at hA h1
        refine ⟨by rw [hA]; exact h1, (bt HB1.out (h2 hd)).mono hBw, KeepS.below (bt HB1.out (h2 hd)), fun st' hs' => ?_⟩
        rw [hA] at hs'; cases hs'
      · rw [hd] at hA h1
        obtain ⟨vR', rb', mb', DD', hr, hb, hks⟩ := h3 hd
        refine ⟨by rw [hA]; exact h1, (HB1.out.mono hBw).trans hb, (KeepS.below HB1.out).trans hks, fun st' hs' => ?_⟩
        rw [hA] at hs'
        cases hs'
        exact ⟨_, _, _, _, hr⟩
    clear HA HFS H1 HfD HB1 hrel
    generalize w.alloc (.cells (f.map tx).toArray 9) = W1 at *
    generalize (⟨(f.getD 0 []).toArray⟩ : ByteArray) = f0 at *
    generalize f.drop 1 = fd at *
    generalize f.length = n at *
    go_enter Tryd.func18, Tryd.ntmps18
    go_wp2_with (first | (go_at_call 17; refine KS.out.mono ?_; rintro e w1 ⟨rfl, rfl⟩) | (go_at_call 39; refine KD.out.mono ?_; intro e w2 hD; have HDE := hid hD; obtain ⟨rfl, -, -⟩ := hD) | fail)
    all_goals
      go_ret
      exact HE.out _ _ HDE.out
  · have q4 : ((⟨(f.getD 0 []).toArray⟩ : ByteArray).toList == [114, 101, 108]) = false := by
      rw [ByteArray.toList_eq]
      simp only [beq_eq_false_iff_ne, ne_eq]
      exact fun e => hrel (by simpa using e)
    rw [if_neg hrel] at HA
    clear hrel
    have hs9 : (⟨(f.getD 0 []).toArray⟩ : ByteArray).size ≤ 9223372036854775807 := by omega
    obtain ⟨cc, hcp, hlk⟩ := lookOkP H1.out.num ⟨(f.getD 0 []).toArray⟩ hs9
    have c0 : (w.alloc (.cells (f.map tx).toArray 9)).cell? ⟨R, 0, none⟩ = some vR := by rw [cell_of_row _ _ _ _ _ _ H1.out.blk]; rfl
    have c1 : (w.alloc (.cells (f.map tx).toArray 9)).cell? ⟨R, 1, none⟩ = some (.map (some bP)) := by rw [cell_of_row _ _ _ _ _ _ H1.out.blk]; rfl
    cases hk : hasP (st.map RdV.nm) ⟨(f.getD 0 []).toArray⟩
    · have HE : Hid (∀ e w', e = .returned (.bool false) → Below (w.alloc (.cells (f.map tx).toArray 9)).heap.size (w.alloc (.cells (f.map tx).toArray 9)) w' → TakE w B R st bP s.data.toList e w') := hid fun e w' h1 h2 => by
        have hA := HA.out
        rw [hk, Bool.false_and, if_neg (by decide)] at hA
        exact ⟨by rw [hA]; exact h1, (bt HB1.out h2).mono hBw, KeepS.below (bt HB1.out h2), fun st' hs' => by rw [hA] at hs'; cases hs'⟩
      rw [hk] at hlk
      clear HA HFS HfD hcp H1 HB1 hk
      generalize w.alloc (.cells (f.map tx).toArray 9) = W1 at *
      generalize (⟨(f.getD 0 []).toArray⟩ : ByteArray) = f0 at *
      generalize f.length = n at *
      go_enter Tryd.func18, Tryd.ntmps18
      go_upto_region 6 with (first | (go_at_call 17; refine KS.out.mono ?_; rintro e w1 ⟨rfl, rfl⟩) | fail)
      go_quiet (fail)
      clear hlk
      go_upto_region 7 with fail
      go_quiet (fail)
      go_wp2_with fail
      go_ret
      exact HE.out _ _ rfl (below_drewN (below_drewN (Below.refl _ _) _) _)
    · obtain ⟨hpl, hpg⟩ := plcP_of hk
      rw [List.length_map] at hpl
      have hcc := hcp hk
      subst hcc
      rw [hk] at hlk
      rw [hk, Bool.true_and] at HA
      obtain ⟨i, hi⟩ : ∃ i, i = plcP (st.map RdV.nm) ⟨(f.getD 0 []).toArray⟩ := ⟨_, rfl⟩
      rw [← hi] at hpl hlk HA
      clear hcp hk hpg hi
      obtain ⟨gR, cR, rfl, -⟩ := H1.out.own.form (by omega)
      have c2 : (w.alloc (.cells (f.map tx).toArray 9)).cell? ⟨gR, i, none⟩ = some (.pointer (some ⟨rb i, 0, none⟩)) := by
        rw [H1.out.own.cellAt i (by omega), List.getElem?_map, List.getElem?_range hpl]; rfl
      have hii : (i : Int) < (st.length : Int) := by omega
      have HST : Hid (∀ W, Below (w.alloc (.cells (f.map tx).toArray 9)).heap.size (w.alloc (.cells (f.map tx).toArray 9)) W → Calls Tryd.prog 40 #[.pointer (some ⟨rb i, 0, none⟩), .slice (if f.length = 1 then some ⟨w.heap.size, 0, none⟩ else some ⟨w.heap.size, 1, none⟩) (f.length - 1) (f.length - 1)] W fun e w' => e = .returned (.bool (stoA (st.getD i noRd).ar (st.getD i noRd).rs (f.drop 1))) ∧ W.grownBy w' (some (mb i)) ∧ (stoA (st.getD i noRd).ar (st.getD i noRd).rs (f.drop 1) = true → ∃ D', Tps w' (mb i) (updT (st.getD i noRd).rs (tupF (f.drop 1) (st.getD i noRd).ar) (wtF ((f.drop 1).getD (st.getD i noRd).ar []))) D')) := hid fun W hW => by
        have hI := H1.out.below hW
        have hc := hI.rel i hpl
        have hk := hok.2 i hpl
        refine (store_calls W (rb i) (mb i) (st.getD i noRd).ar (st.getD i noRd).rs (DD i) _ (f.drop 1) (by rw [cell_of_row _ _ _ _ _ _ hc]; rfl) (by rw [cell_of_row _ _ _ _ _ _ hc]; rfl) (hI.tps i hpl) hk.1 hk.2 (HFS.out.below hW) HfD.out).mono ?_
        rintro e w' ⟨h1, h2, h3⟩
        refine ⟨h1, ?_, fun ht => (h3 ht).2⟩
        cases hb : stoA (st.getD i noRd).ar (st.getD i noRd).rs (f.drop 1)
        · have := h2 hb
          exact ⟨this.os, this.tape, this.output, this.size, fun k hk _ => this.block k hk⟩
        · exact (h3 hb).1
      have HE : Hid (∀ W b w', Below (w.alloc (.cells (f.map tx).toArray 9)).heap.size (w.alloc (.cells (f.map tx).toArray 9)) W → b = stoA (st.getD i noRd).ar (st.getD i noRd).rs (f.drop 1) → W.grownBy w' (some (mb i)) → (stoA (st.getD i noRd).ar (st.getD i noRd).rs (f.drop 1) = true → ∃ D', Tps w' (mb i) (updT (st.getD i noRd).rs (tupF (f.drop 1) (st.getD i noRd).ar) (wtF ((f.drop 1).getD (st.getD i noRd).ar []))) D') → TakE w B R st bP s.data.toList (.returned (.bool b)) w') := hid fun W b w' hW hb hg ht => by
        have hI := H1.out.below hW
        have hA := HA.out
        have hlo := (hI.lo.2.2 i hpl).2
        have hBW : Below B w w' := ((bt HB1.out hW).mono hBw).grown hg (Nat.le_trans hBw (bt HB1.out hW).size) (fun k e => by cases e; exact hlo)
        have hKS : KeepS w w' := (KeepS.below (bt HB1.out hW)).trans fun k cur hk => hg.block k (heap_lt hk) (fun e => by
          obtain ⟨es, cc, hm'⟩ := (hI.tps i hpl).blk
          rw [← Option.some.inj e, hk] at hm'
          cases hm')
        subst hb
        cases hb : stoA (st.getD i noRd).ar (st.getD i noRd).rs (f.drop 1)
        · rw [hb] at hA
          exact ⟨by rw [hA]; rfl, hBW, hKS, fun st' hs' => by rw [hA] at hs'; cases hs'⟩
        · rw [hb] at hA
          obtain ⟨D', hD'⟩ := ht hb
          refine ⟨by rw [hA]; rfl, hBW, hKS, fun st' hs' => ?_⟩
          rw [hA] at hs'
          cases hs'
          exact ⟨_, _, _, _, hI.put hpl hg hD'⟩
      have HCK : Hid (∀ W w', Below (w.alloc (.cells (f.map tx).toArray 9)).heap.size (w.alloc (.cells (f.map tx).toArray 9)) W → W.grownBy w' (some (mb i)) → w'.cell? ⟨R, 0, none⟩ = some (.slice (some ⟨gR, 0, none⟩) st.length cR) ∧ w'.cell? ⟨gR, i, none⟩ = some (.pointer (some ⟨rb i, 0, none⟩))) := hid fun W w' hW hg => by
        have hI := H1.out.below hW
        obtain ⟨es, cc, hm'⟩ := (hI.tps i hpl).blk
        have hne : ∀ {k : Nat} {o : Nat} {v : Value}, W.cell? ⟨k, o, none⟩ = some v → k ≠ mb i := fun {k o v} hc e => by
          subst e
          unfold World.cell? at hc
          rw [hm'] at hc
          cases hc
        have e0 := bclR hW c0
        have e2 := bclR hW c2
        exact ⟨(hg.cell_far ⟨R, 0, none⟩ (World.block_lt_of_cell? W _ e0) (fun e => hne e0 (Option.some.inj e))).trans e0, (hg.cell_far ⟨gR, i, none⟩ (World.block_lt_of_cell? W _ e2) (fun e => hne e2 (Option.some.inj e))).trans e2⟩
      clear HA HFS HfD H1 HB1
      generalize w.alloc (.cells (f.map tx).toArray 9) = W1 at *
      generalize (⟨(f.getD 0 []).toArray⟩ : ByteArray) = f0 at *
      generalize f.drop 1 = fd at *
      generalize f.length = n at *
      generalize stoA (st.getD i noRd).ar (st.getD i noRd).rs fd = bA at *
      by_cases hone : n = 1
      · subst hone
        rw [if_pos rfl] at HST
        go_enter Tryd.func18, Tryd.ntmps18
        go_upto_region 6 with (first | (go_at_call 17; refine KS.out.mono ?_; rintro e w1 ⟨rfl, rfl⟩) | fail)
        go_quiet (fail)
        have HBq := hid (below_drewN (Below.refl w1.heap.size w1) nq)
        have c0' := bclR HBq.out c0
        have c2' := bclR HBq.out c2
        clear hlk c0 c1 c2 c00
        generalize w1.drewN nq = wq at *
        go_upto_region 7 with fail
        go_region_held_law (fun W => W.cell? ⟨R, 0, none⟩ = some (.slice (some ⟨gR, 0, none⟩) st.length cR) ∧ W.cell? ⟨gR, i, none⟩ = some (.pointer (some ⟨rb i, 0, none⟩)))
          (first | exact ⟨c0', c2'⟩ | exact HCK.out _ _ HBq.out.drew hg5 | fail)
          (first | (go_simp; go_at_call 40; refine (HST.out _ HBq.out.drew).mono ?_; rintro e w5 ⟨rfl, hg5, ht5⟩) | fail)
        all_goals go_wp2_with fail
        all_goals
          go_ret
          exact HE.out _ _ _ HBq.out.drew rfl hg5 ht5
      · rw [if_neg hone] at HST
        go_enter Tryd.func18, Tryd.ntmps18
        go_upto_region 6 with (first | (go_at_call 17; refine KS.out.mono ?_; rintro e w1 ⟨rfl, rfl⟩) | fail)
        go_quiet (fail)
        have HBq := hid (below_drewN (Below.refl w1.heap.size w1) nq)
        have c0' := bclR HBq.out c0
        have c2' := bclR HBq.out c2
        clear hlk c0 c1 c2 c00
        generalize w1.drewN nq = wq at *
        go_upto_region 7 with fail
        go_region_held_law (fun W => W.cell? ⟨R, 0, none⟩ = some (.slice (some ⟨gR, 0, none⟩) st.length cR) ∧ W.cell? ⟨gR, i, none⟩ = some (.pointer (some ⟨rb i, 0, none⟩)))
          (first | exact ⟨c0', c2'⟩ | exact HCK.out _ _ HBq.out.drew hg5 | fail)
          (first | (go_simp; go_at_call 40; refine (HST.out _ HBq.out.drew).mono ?_; rintro e w5 ⟨rfl, hg5, ht5⟩) | fail)
        all_goals go_wp2_with fail
        all_goals
          go_ret
          exact HE.out _ _ _ HBq.out.drew rfl hg5 ht5

end Go.Proofs.YtcdfoephhjacdaaDoor
