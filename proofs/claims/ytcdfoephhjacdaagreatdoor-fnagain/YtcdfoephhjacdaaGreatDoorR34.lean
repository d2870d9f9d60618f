import Derived.Lib.CountLaws
import Derived.Shelf.Strings.Split
import Derived.Test.YtcdfoephhjacdaaGreatDoorProg
import Derived.Test.YtcdfoephhjacdaaGreatDoorR03
import Derived.Test.YtcdfoephhjacdaaGreatDoorR06
import Derived.Test.YtcdfoephhjacdaaGreatDoorR33
/-
  The library's cutting at one byte is ours.
-/
namespace Go.Proofs.YtcdfoephhjacdaaGreatDoor

theorem spl_part (c : UInt8) : ∀ l : List UInt8, (∀ x ∈ l, x ≠ c) ∨ ∃ a r, l = a ++ c :: r ∧ ∀ x ∈ a, x ≠ c
  | [] => Or.inl fun x hx => by cases hx
  | x :: l => by
    by_cases e : x = c
    · exact Or.inr ⟨[], l, by rw [e]; rfl, fun y hy => by cases hy⟩
    · rcases spl_part c l with h | ⟨a, r, h1, h2⟩
      · exact Or.inl fun y hy => by
          rcases List.mem_cons.1 hy with rfl | hy
          · exact e
          · exact h y hy
      · exact Or.inr ⟨x :: a, r, by rw [h1]; rfl, fun y hy => by
          rcases List.mem_cons.1 hy with rfl | hy
          · exact e
          · exact h2 y hy⟩
theorem occ_no {l : List UInt8} {c : UInt8} {j : Nat} (h : l[j]? ≠ some c) : Lib.occAt l [c] j = false := by
  cases e : Lib.occAt l [c] j
  · rfl
  · exact absurd (Lib.occAt_head rfl e) h
theorem split_spl (c : UInt8) : ∀ (k : Nat) (l : List UInt8), l.length ≤ k → Lib.splitK [c] 0 (Lib.count l [c]) l = spl c l := by
  intro k
  induction k with
  | zero =>
    intro l h
    obtain rfl : l = [] := List.length_eq_zero_iff.1 (by omega)
    rw [Lib.count_miss (Lib.index_none fun j hj => occ_no (by simp))]
    rfl
  | succ k ih =>
    intro l h
    rcases spl_part c l with h1 | ⟨a, r, rfl, h2⟩
    · rw [Lib.count_miss (Lib.index_none fun j hj => occ_no fun e => h1 c (List.mem_of_getElem? e) rfl), spl_none h1]
      rfl
    · have hi : Lib.index (a ++ c :: r) [c] = (a.length : Int) := Lib.index_first (by simp) (by unfold Lib.occAt; simp) fun j hj => occ_no fun e => by
        rw [List.getElem?_append_left hj] at e
        exact h2 c (List.mem_of_getElem? e) rfl
      have hd : (a ++ c :: r).drop (a.length + 1) = r := by
        rw [← List.drop_drop, List.drop_left]; rfl
      rw [Lib.count_hit (by simp) hi, List.length_singleton, hd, Nat.add_comm 1, Lib.splitK, if_neg (by rw [hi]; simp), hi, List.length_singleton, spl_cut r h2]
      show List.take (a.length + 0) (a ++ c :: r) :: Lib.splitK [c] 0 (Lib.count r [c]) (List.drop (a.length + 1) (a ++ c :: r)) = _
      rw [hd, Nat.add_zero, List.take_left, ih r (by rw [List.length_append, List.length_cons] at h; omega)]

theorem splitB_spl (s : ByteArray) (c : UInt8) : Lib.splitB ⟨#[c]⟩ 0 (Lib.countB s ⟨#[c]⟩) s = (spl c s.data.toList).map fun l => ⟨l.toArray⟩ := by
  have h := Lib.splitB_data ⟨#[c]⟩ 0 (Lib.countB s ⟨#[c]⟩) s
  have h2 : Lib.splitK [c] 0 (Lib.countB s ⟨#[c]⟩) s.data.toList = spl c s.data.toList := split_spl c _ _ (Nat.le_refl _)
  rw [show (⟨#[c]⟩ : ByteArray).data.toList = [c] from rfl, h2] at h
  rw [← h, List.map_map]
  symm
  rw [List.map_congr_left (g := id) (fun x _ => by simp), List.map_id]

end Go.Proofs.YtcdfoephhjacdaaGreatDoor

namespace Go.Proofs
open Go.Shelf
def Tryz.lays146_ren : Go.Shelf.Ren := ⟨fun | 146 => 19 | 221 => 38 | 268 => 59 | 138 => 60 | 143 => 61 | 195 => 88 | 197 => 89 | 218 => 90 | 219 => 91 | 260 => 112 | 217 => 104 | 225 => 113 | 224 => 114 | 267 => 115 | 266 => 126 | 314 => 133 | n => n, fun | 9 => 9 | 31 => 26 | 3 => 3 | 4 => 4 | 0 => 0 | 105 => 182 | 21 => 21 | 5 => 5 | 46 => 204 | 119 => 221 | 139 => 224 | 138 => 223 | 146 => 225 | 51 => 211 | n => n, fun | 1 => 3 | 3 => 5 | 4 => 6 | n => n⟩
theorem Tryz.lays146 : Go.Proofs.Lays.n146 Tryz.prog Tryz.lays146_ren := {
  mixed := by kernel_rfl
  f138 := Tryz.func60.trans (congrArg some (by kernel_rfl))
  f143 := Tryz.func61.trans (congrArg some (by kernel_rfl))
  f146 := Tryz.func19.trans (congrArg some (by kernel_rfl))
  f195 := Tryz.func88.trans (congrArg some (by kernel_rfl))
  f197 := Tryz.func89.trans (congrArg some (by kernel_rfl))
  f217 := Tryz.func104.trans (congrArg some (by kernel_rfl))
  f218 := Tryz.func90.trans (congrArg some (by kernel_rfl))
  f219 := Tryz.func91.trans (congrArg some (by kernel_rfl))
  f221 := Tryz.func38.trans (congrArg some (by kernel_rfl))
  f224 := Tryz.func114.trans (congrArg some (by kernel_rfl))
  f225 := Tryz.func113.trans (congrArg some (by kernel_rfl))
  f260 := Tryz.func112.trans (congrArg some (by kernel_rfl))
  f266 := Tryz.func126.trans (congrArg some (by kernel_rfl))
  f267 := Tryz.func115.trans (congrArg some (by kernel_rfl))
  f268 := Tryz.func59.trans (congrArg some (by kernel_rfl))
  f314 := Tryz.func133.trans (congrArg some (by kernel_rfl))
  t0 := Tryz.underlying0
  a0 := Tryz.isAgg0
  z0 := Tryz.sizeOf0
  v0 := Tryz.zeroValue0
  t3 := Tryz.underlying3
  a3 := Tryz.isAgg3
  z3 := Tryz.sizeOf3
  v3 := Tryz.zeroValue3
  t4 := Tryz.underlying4
  a4 := Tryz.isAgg4
  z4 := Tryz.sizeOf4
  v4 := Tryz.zeroValue4
  t5 := Tryz.underlying5
  a5 := Tryz.isAgg5
  z5 := Tryz.sizeOf5
  v5 := Tryz.zeroValue5
  t9 := Tryz.underlying9
  a9 := Tryz.isAgg9
  z9 := Tryz.sizeOf9
  v9 := Tryz.zeroValue9
  t21 := Tryz.underlying21
  a21 := Tryz.isAgg21
  z21 := Tryz.sizeOf21
  v21 := Tryz.zeroValue21
  t31 := Tryz.underlying26
  a31 := Tryz.isAgg26
  z31 := Tryz.sizeOf26
  v31 := Tryz.zeroValue26
  t46 := Tryz.underlying204
  a46 := Tryz.isAgg204
  z46 := Tryz.sizeOf204
  v46 := Tryz.zeroValue204
  t51 := Tryz.underlying211
  a51 := Tryz.isAgg211
  z51 := Tryz.sizeOf211
  v51 := Tryz.zeroValue211
  t105 := Tryz.underlying182
  a105 := Tryz.isAgg182
  z105 := Tryz.sizeOf182
  v105 := Tryz.zeroValue182
  t119 := Tryz.underlying221
  a119 := Tryz.isAgg221
  z119 := Tryz.sizeOf221
  t138 := Tryz.underlying223
  a138 := Tryz.isAgg223
  z138 := Tryz.sizeOf223
  v138 := Tryz.zeroValue223
  t139 := Tryz.underlying224
  a139 := Tryz.isAgg224
  z139 := Tryz.sizeOf224
  v139 := Tryz.zeroValue224
  t146 := Tryz.underlying225
  a146 := Tryz.isAgg225
  z146 := Tryz.sizeOf225
  v146 := Tryz.zeroValue225
  g1 := by kernel_rfl
  g3 := by kernel_rfl
  g4 := by kernel_rfl }
end Go.Proofs

/-
  strings.Split at one byte, by the shelf's contract.
-/
namespace Go.Proofs
open Go.RowKit Go.Proofs.YtcdfoephhjacdaaGreatDoor
theorem Tryz.c_Split (s : ByteArray) (c : UInt8) (m : Int) (w : World) (hs : s.size < 4294967281) (hm : w.cell? ⟨3, 0, none⟩ = some (.int .i64 m)) :
    Calls Tryz.prog 19 #[.string s, .string ⟨#[c]⟩] w fun e w' => e = .returned (.slice (some ⟨w.heap.size, 0, none⟩) (spl c s.data.toList).length (spl c s.data.toList).length) ∧ w' = w.alloc (.cells ((spl c s.data.toList).map tx).toArray 9) := by
  have h1 : 1 ≤ (⟨#[c]⟩ : ByteArray).size := Nat.le_refl _
  have hl := Lib.splitB_all ⟨#[c]⟩ h1 0 _ s rfl
  have e := splitB_spl s c
  have hlen : Lib.countB s ⟨#[c]⟩ + 1 = (spl c s.data.toList).length := by rw [← hl, e, List.length_map]
  have K := Any.strings_Split Tryz.lays146 (by kernel_rfl) s ⟨#[c]⟩ m w hs hm h1
  rw [e, hlen, List.map_map] at K
  exact K
end Go.Proofs

/-
  impl: (*reading).take.
-/
namespace Go.Proofs.YtcdfoephhjacdaaGreatDoor
open Go.RowKit Go.Maps

theorem spl_pos (c : UInt8) (l : List UInt8) : 1 ≤ (spl c l).length := by
  induction l with
  | nil => simp [spl]
  | cons x r ih => rw [spl]; split <;> simp_all
theorem spl_le (c : UInt8) (l : List UInt8) : (spl c l).length ≤ l.length + 1 := by
  induction l with
  | nil => simp [spl]
  | cons x r ih => rw [spl]; split <;> simp_all; omega
theorem spl_len (c : UInt8) (l : List UInt8) : ∀ j, ((spl c l).getD j []).length ≤ l.length := by
  induction l with
  | nil => intro j; cases j <;> simp [spl]
  | cons x r ih =>
    intro j
    rw [spl]
    split
    · cases j with
      | zero => simp
      | succ j => rw [List.getD_cons_succ]; have := ih j; rw [List.length_cons]; omega
    · cases j with
      | zero =>
        have := ih 0
        rw [List.getD_cons_zero]
        cases hs : spl c r with
        | nil => simp
        | cons y t => rw [hs] at this; simp at this ⊢; omega
      | succ j =>
        rw [List.getD_cons_succ]
        have := ih (j + 1)
        cases hs : spl c r with
        | nil => simp
        | cons y t => rw [hs] at this; rw [List.tail_cons]; rw [List.getD_cons_succ] at this; rw [List.length_cons]; omega

/-- the place of a name -/
def plcP (L : List ByteArray) (s : ByteArray) : Nat := L.findIdx fun x => x.toList == s.toList
theorem plcP_of {L : List ByteArray} {s : ByteArray} (h : hasP L s = true) : plcP L s < L.length ∧ L.getD (plcP L s) noTxP = s := by
  unfold hasP at h
  have h1 : plcP L s < L.length := List.findIdx_lt_length_of_exists (by rw [List.any_eq_true] at h; exact h)
  refine ⟨h1, ?_⟩
  have h2 := List.findIdx_getElem (w := h1)
  rw [beq_txP] at h2
  rw [List.getD_eq_getElem?_getD, List.getElem?_eq_getElem h1]
  exact of_decide_eq_true h2

/-- a line that says nothing -/
def mute (l : List UInt8) : Bool := l.isEmpty || decide (l.head? = some 35)
/-- the state behind a line -/
def takA (st : List RdV) (l : List UInt8) : Option (List RdV) :=
  if mute l then some st
  else
    let f := spl 32 l
    if f.getD 0 [] = [114, 101, 108] then
      (if decA st (f.drop 1) then some (st ++ [⟨⟨((f.drop 1).getD 0 []).toArray⟩, numN ⟨((f.drop 1).getD 1 []).toArray⟩ 3, []⟩]) else none)
    else
      let L := st.map RdV.nm
      let s : ByteArray := ⟨(f.getD 0 []).toArray⟩
      let r := st.getD (plcP L s) noRd
      if hasP L s && stoA r.ar r.rs (f.drop 1) then some (st.set (plcP L s) ⟨r.nm, r.ar, updT r.rs (tupF (f.drop 1) r.ar) (wtF ((f.drop 1).getD r.ar []))⟩) else none

/-- how take ends -/
def TakE (w : World) (B R : Nat) (st : List RdV) (bP : Nat) (l : List UInt8) (e : Ending) (w' : World) : Prop :=
  e = .returned (.bool (takA st l).isSome) ∧ Below B w w' ∧ KeepS w w' ∧ ∀ st', takA st l = some st' → ∃ vR' rb' mb' DD', RdI w' B R st' vR' bP rb' mb' DD'
/-- what holds of the relations so far -/
def StOk (st : List RdV) : Prop := st.length ≤ 50 ∧ ∀ i, i < st.length → (st.getD i noRd).rs.length ≤ 2000 ∧ 1 ≤ (st.getD i noRd).ar ∧ (st.getD i noRd).ar ≤ 3

theorem fs_drop {W : World} {g n : Nat} {fs : List (List UInt8)} (hn : fs.length = n) (h1 : 1 ≤ n) (hc : ∀ j, j < n → W.cell? ⟨g, j, none⟩ = some (.string ⟨(fs.getD j []).toArray⟩)) : FS W (.slice (if n = 1 then some ⟨g, 0, none⟩ else some ⟨g, 1, none⟩) (n - 1) (n - 1)) (fs.drop 1) := by
  have hl : (fs.drop 1).length = n - 1 := by rw [List.length_drop, hn]
  refine ⟨_, _, by rw [hl], by rw [hl]; exact Nat.le_refl _, ?_⟩
  by_cases e : n = 1
  · exact Or.inl (by omega)
  · refine Or.inr ⟨g, 1, by rw [if_neg e], fun j hj => ?_⟩
    rw [hc (1 + j) (by omega), List.getD_eq_getElem?_getD, List.getD_eq_getElem?_getD, List.getElem?_drop]
theorem tx_cells (w : World) (l : List (List UInt8)) : ∀ j, j < l.length → (w.alloc (.cells (l.map tx).toArray 9)).cell? ⟨w.heap.size, j, none⟩ = some (.string ⟨(l.getD j []).toArray⟩) := fun j hj => by
  rw [World.cell?_alloc_at _ _ _ _ rfl]
  simp only [List.getElem?_toArray, List.getElem?_map, List.getElem?_eq_getElem hj, Option.map_some, List.getD_eq_getElem?_getD, Option.getD_some]
  rfl

theorem lookOkP {W : World} {b : Nat} {L : List ByteArray} (h : PlcM W b L) (s : ByteArray) (hs : s.size ≤ 9223372036854775807) : ∃ c : Int, (hasP L s = true → c = (plcP L s : Nat)) ∧ ∀ d : Nat, (Instr.lookup 59 (.map (some b)) (.string s) true).run Tryz.prog (W.drewN d) = .ok (.tuple #[.int .i64 c, .bool (hasP L s)]) (W.drewN d) := by
  obtain ⟨D, hown, hhas, hsize, hat⟩ := h
  have key : ∀ d : Nat, ∃ c : Int, (Instr.lookup 59 (.map (some b)) (.string s) true).run Tryz.prog (W.drewN d) = .ok (.tuple #[.int .i64 c, .bool (hasP L s)]) (W.drewN d) ∧ D.atKey (.string s.data.toList) (.lit (.int .i64 0)) = .lit (.int .i64 c) := fun d => by
    have hd : (W.drewN d).ownsMap Tryz.prog 9 (plainElem Tryz.prog 3) b L.length D := hown
    obtain ⟨v, ps, hrun, hv⟩ := hd.look_ok Tryz.lawPl Tryz.underlying59 (Tryz.zeroPl _) (plainElem_int Tryz.underlying3 (by decide)) (WideMaps.keyOf_string_mk Tryz.underlying9 hs)
    obtain ⟨c, rfl, hc, -⟩ := plainElem_int_inv Tryz.underlying3 hv
    rw [hhas s] at hrun
    simp only [Prod.mk.injEq] at hc
    exact ⟨c, hrun, hc.1⟩
  obtain ⟨c, -, hc⟩ := key 0
  refine ⟨c, fun hh => ?_, fun d => ?_⟩
  · obtain ⟨h1, h2⟩ := plcP_of hh
    have := hat _ h1 (.lit (.int .i64 0))
    rw [h2, hc] at this
    simpa using this
  · obtain ⟨c', h1, h2⟩ := key d
    rw [hc] at h2
    simp only [DataW.lit.injEq, Lit.int.injEq, true_and] at h2
    rw [h2]
    exact h1

set_option maxHeartbeats 8000000 in
set_option maxRecDepth 1000000 in
theorem take_calls (w : World) (B R : Nat) (st : List RdV) (vR : Value) (bP : Nat) (rb mb : Nat → Nat) (DD : Nat → DataW Unit) (h : RdI w B R st vR bP rb mb DD) (hok : StOk st) (s : ByteArray) (hs : s.size ≤ 1000000) (m : Int) (hm : w.cell? ⟨3, 0, none⟩ = some (.int .i64 m)) :
    Calls Tryz.prog 20 #[.pointer (some ⟨R, 0, none⟩), .string s] w (TakE w B R st bP s.data.toList) := by
  have hBw : B ≤ w.heap.size := Nat.le_trans h.lo.1 (Nat.le_of_lt (heap_lt h.blk))
  by_cases h0 : s.size = 0
  · have e1 : s = ⟨#[]⟩ := by
      obtain ⟨⟨l⟩⟩ := s
      simp [ByteArray.size] at h0
      simp [h0]
    subst e1
    have hA : takA st (⟨#[]⟩ : ByteArray).data.toList = some st := rfl
    have HF : Hid (∀ e, e = .returned (.bool true) → TakE w B R st bP (⟨#[]⟩ : ByteArray).data.toList e w) := hid fun e he => ⟨by rw [hA]; exact he, Below.refl _ _, KeepS.below (Below.refl _ _), fun st' hs' => by rw [hA] at hs'; cases hs'; exact ⟨_, _, _, _, h⟩⟩
    clear h hm hA
    go_enter Tryz.func20, Tryz.ntmps20
    go_wp2_with fail
    go_ret
    exact HF.out _ rfl
  have hne := not_empty h0
  have i0 : (0 : Int) < (s.size : Int) := by omega
  have hp0 : 0 < s.size := by omega
  have hb0 := byteAt_eq s 0 hp0
  have hlen : s.data.toList.length = s.size := by simp
  have hhd : s.data.toList.head? = some (s.data.toList.getD 0 0) := by
    cases hl : s.data.toList with
    | nil => rw [hl] at hlen; simp at hlen; omega
    | cons x r => rfl
  by_cases hsh : s.data.toList.head? = some 35
  · have hA : takA st s.data.toList = some st := by unfold takA mute; rw [decide_eq_true hsh, Bool.or_true, if_pos rfl]
    have HF : Hid (∀ e, e = .returned (.bool true) → TakE w B R st bP s.data.toList e w) := hid fun e he => ⟨by rw [hA]; exact he, Below.refl _ _, KeepS.below (Below.refl _ _), fun st' hs' => by rw [hA] at hs'; cases hs'; exact ⟨_, _, _, _, h⟩⟩
    have q3 : (((s[0]'hp0).toNat : Int) == 35) = true := by
      rw [← hb0]
      rw [hhd, Option.some.injEq] at hsh
      unfold byteAt
      rw [hsh]; rfl
    clear h hm hA hsh hhd hb0 hlen
    go_enter Tryz.func20, Tryz.ntmps20
    go_wp2_with fail
    go_ret
    exact HF.out _ rfl
  have q3 : (((s[0]'hp0).toNat : Int) == 35) = false := by
    rw [← hb0]
    rw [hhd, Option.some.injEq] at hsh
    unfold byteAt
    simp only [beq_eq_false_iff_ne, ne_eq]
    exact fun e => hsh (UInt8.toNat_inj.1 (by show _ = 35; omega))
  have hmu : mute s.data.toList = false := by
    unfold mute
    rw [decide_eq_false hsh, Bool.or_false]
    cases hl : s.data.toList with
    | nil => rw [hl] at hlen; simp at hlen; omega
    | cons x r => rfl
  obtain ⟨f, hfd⟩ : ∃ f, f = spl 32 s.data.toList := ⟨_, rfl⟩
  have hf1 : 1 ≤ f.length := by rw [hfd]; exact spl_pos _ _
  have hfl : ∀ j, (f.getD j []).length ≤ 1000000 := fun j => by rw [hfd]; exact Nat.le_trans (spl_len _ _ j) (by omega)
  have KS := hid (Tryz.c_Split s 32 m w (by omega) hm)
  rw [← hfd] at KS
  have HA : Hid (takA st s.data.toList = if f.getD 0 [] = [114, 101, 108] then (if decA st (f.drop 1) then some (st ++ [⟨⟨((f.drop 1).getD 0 []).toArray⟩, numN ⟨((f.drop 1).getD 1 []).toArray⟩ 3, []⟩]) else none) else (if hasP (st.map RdV.nm) ⟨(f.getD 0 []).toArray⟩ && stoA (st.getD (plcP (st.map RdV.nm) ⟨(f.getD 0 []).toArray⟩) noRd).ar (st.getD (plcP (st.map RdV.nm) ⟨(f.getD 0 []).toArray⟩) noRd).rs (f.drop 1) then some (st.set (plcP (st.map RdV.nm) ⟨(f.getD 0 []).toArray⟩) ⟨(st.getD (plcP (st.map RdV.nm) ⟨(f.getD 0 []).toArray⟩) noRd).nm, (st.getD (plcP (st.map RdV.nm) ⟨(f.getD 0 []).toArray⟩) noRd).ar, updT (st.getD (plcP (st.map RdV.nm) ⟨(f.getD 0 []).toArray⟩) noRd).rs (tupF (f.drop 1) (st.getD (plcP (st.map RdV.nm) ⟨(f.getD 0 []).toArray⟩) noRd).ar) (wtF ((f.drop 1).getD (st.getD (plcP (st.map RdV.nm) ⟨(f.getD 0 []).toArray⟩) noRd).ar []))⟩) else none)) := hid (by unfold takA; rw [hmu, if_neg (by decide), ← hfd])
  have hA1 : Below w.heap.size w (w.alloc (.cells (f.map tx).toArray 9)) := (Below.refl _ _).alloc (Nat.le_refl _) _
  have HFS : Hid (FS (w.alloc (.cells (f.map tx).toArray 9)) (.slice (if f.length = 1 then some ⟨w.heap.size, 0, none⟩ else some ⟨w.heap.size, 1, none⟩) (f.length - 1) (f.length - 1)) (f.drop 1)) := hid (fs_drop rfl hf1 (tx_cells w f))
  have H1 := hid (h.below hA1)
  have c00 : (w.alloc (.cells (f.map tx).toArray 9)).cell? ⟨w.heap.size, 0, none⟩ = some (.string ⟨(f.getD 0 []).toArray⟩) := tx_cells w f 0 (by omega)
  have HB1 := hid hA1
  have HfD : Hid (∀ j, ((f.drop 1).getD j []).length ≤ 1000000) := hid fun j => by rw [List.getD_eq_getElem?_getD, List.getElem?_drop, ← List.getD_eq_getElem?_getD]; exact hfl _
  have hs0 : (⟨(f.getD 0 []).toArray⟩ : ByteArray).size ≤ 1000000 := by show (f.getD 0 []).toArray.size ≤ _; rw [List.size_toArray]; exact hfl 0
  have hn1 : (1 : Int) ≤ (f.length : Int) := by omega
  clear hA1 h hm hfl hhd hb0 hlen hsh hmu hfd
  by_cases hrel : f.getD 0 [] = [114, 101, 108]
  · have KD := hid (declare_calls _ B R st vR bP rb mb DD H1.out _ _ HFS.out HfD.out hok.1)
    have q4 : ((⟨(f.getD 0 []).toArray⟩ : ByteArray).toList == [114, 101, 108]) = true := by rw [ByteArray.toList_eq, hrel]; rfl
    have HE : Hid (∀ e w', DecE (w.alloc (.cells (f.map tx).toArray 9)) B R st bP (f.drop 1) e w' → TakE w B R st bP s.data.toList e w') := hid fun e w' ⟨h1, h2, h3⟩ => by
      rw [if_pos hrel] at HA
      have hA := HA.out
      cases hd : decA st (f.drop 1)
      · rw [hd] at hA h1
        refine ⟨by rw [hA]; exact h1, (bt HB1.out (h2 hd)).mono hBw, KeepS.below (bt HB1.out (h2 hd)), fun st' hs' => ?_⟩
        rw [hA] at hs'; cases hs'
      · rw [hd] at hA h1
        obtain ⟨vR', rb', mb', DD', hr, hb, hks⟩ := h3 hd
        refine ⟨by rw [hA]; exact h1, (HB1.out.mono hBw).trans hb, (KeepS.below HB1.out).trans hks, fun st' hs' => ?_⟩
        rw [hA] at hs'
        cases hs'
        exact ⟨_, _, _, _, hr⟩
    clear HA HFS H1 HfD HB1 hrel
    generalize w.alloc (.cells (f.map tx).toArray 9) = W1 at *
    generalize (⟨(f.getD 0 []).toArray⟩ : ByteArray) = f0 at *
    generalize f.drop 1 = fd at *
    generalize f.length = n at *
    go_enter Tryz.func20, Tryz.ntmps20
    go_wp2_with (first | (go_at_call 19; refine KS.out.mono ?_; rintro e w1 ⟨rfl, rfl⟩) | (go_at_call 39; refine KD.out.mono ?_; intro e w2 hD; have HDE := hid hD; obtain ⟨rfl, -, -⟩ := hD) | fail)
    all_goals
      go_ret
      exact HE.out _ _ HDE.out
  · have q4 : ((⟨(f.getD 0 []).toArray⟩ : ByteArray).toList == [114, 101, 108]) = false := by
      rw [ByteArray.toList_eq]
      simp only [beq_eq_false_iff_ne, ne_eq]
      exact fun e => hrel (by simpa using e)
    rw [if_neg hrel] at HA
    clear hrel
    have hs9 : (⟨(f.getD 0 []).toArray⟩ : ByteArray).size ≤ 9223372036854775807 := by omega
    obtain ⟨cc, hcp, hlk⟩ := lookOkP H1.out.num ⟨(f.getD 0 []).toArray⟩ hs9
    have c0 : (w.alloc (.cells (f.map tx).toArray 9)).cell? ⟨R, 0, none⟩ = some vR := by rw [cell_of_row _ _ _ _ _ _ H1.out.blk]; rfl
    have c1 : (w.alloc (.cells (f.map tx).toArray 9)).cell? ⟨R, 1, none⟩ = some (.map (some bP)) := by rw [cell_of_row _ _ _ _ _ _ H1.out.blk]; rfl
    cases hk : hasP (st.map RdV.nm) ⟨(f.getD 0 []).toArray⟩
    · have HE : Hid (∀ e w', e = .returned (.bool false) → Below (w.alloc (.cells (f.map tx).toArray 9)).heap.size (w.alloc (.cells (f.map tx).toArray 9)) w' → TakE w B R st bP s.data.toList e w') := hid fun e w' h1 h2 => by
        have hA := HA.out
        rw [hk, Bool.false_and, if_neg (by decide)] at hA
        exact ⟨by rw [hA]; exact h1, (bt HB1.out h2).mono hBw, KeepS.below (bt HB1.out h2), fun st' hs' => by rw [hA] at hs'; cases hs'⟩
      rw [hk] at hlk
      clear HA HFS HfD hcp H1 HB1 hk
      generalize w.alloc (.cells (f.map tx).toArray 9) = W1 at *
      generalize (⟨(f.getD 0 []).toArray⟩ : ByteArray) = f0 at *
      generalize f.length = n at *
      go_enter Tryz.func20, Tryz.ntmps20
      go_upto_region 6 with (first | (go_at_call 19; refine KS.out.mono ?_; rintro e w1 ⟨rfl, rfl⟩) | fail)
      go_quiet (fail)
      clear hlk
      go_upto_region 7 with fail
      go_quiet (fail)
      go_wp2_with fail
      go_ret
      exact HE.out _ _ rfl (below_drewN (below_drewN (Below.refl _ _) _) _)
    · obtain ⟨hpl, hpg⟩ := plcP_of hk
      rw [List.length_map] at hpl
      have hcc := hcp hk
      subst hcc
      rw [hk] at hlk
      rw [hk, Bool.true_and] at HA
      obtain ⟨i, hi⟩ : ∃ i, i = plcP (st.map RdV.nm) ⟨(f.getD 0 []).toArray⟩ := ⟨_, rfl⟩
      rw [← hi] at hpl hlk HA
      clear hcp hk hpg hi
      obtain ⟨gR, cR, rfl, -⟩ := H1.out.own.form (by omega)
      have c2 : (w.alloc (.cells (f.map tx).toArray 9)).cell? ⟨gR, i, none⟩ = some (.pointer (some ⟨rb i, 0, none⟩)) := by
        rw [H1.out.own.cellAt i (by omega), List.getElem?_map, List.getElem?_range hpl]; rfl
      have hii : (i : Int) < (st.length : Int) := by omega
      have HST : Hid (∀ W, Below (w.alloc (.cells (f.map tx).toArray 9)).heap.size (w.alloc (.cells (f.map tx).toArray 9)) W → Calls Tryz.prog 40 #[.pointer (some ⟨rb i, 0, none⟩), .slice (if f.length = 1 then some ⟨w.heap.size, 0, none⟩ else some ⟨w.heap.size, 1, none⟩) (f.length - 1) (f.length - 1)] W fun e w' => e = .returned (.bool (stoA (st.getD i noRd).ar (st.getD i noRd).rs (f.drop 1))) ∧ W.grownBy w' (some (mb i)) ∧ (stoA (st.getD i noRd).ar (st.getD i noRd).rs (f.drop 1) = true → ∃ D', Tps w' (mb i) (updT (st.getD i noRd).rs (tupF (f.drop 1) (st.getD i noRd).ar) (wtF ((f.drop 1).getD (st.getD i noRd).ar []))) D')) := hid fun W hW => by
        have hI := H1.out.below hW
        have hc := hI.rel i hpl
        have hk := hok.2 i hpl
        refine (store_calls W (rb i) (mb i) (st.getD i noRd).ar (st.getD i noRd).rs (DD i) _ (f.drop 1) (by rw [cell_of_row _ _ _ _ _ _ hc]; rfl) (by rw [cell_of_row _ _ _ _ _ _ hc]; rfl) (hI.tps i hpl) hk.1 hk.2 (HFS.out.below hW) HfD.out).mono ?_
        rintro e w' ⟨h1, h2, h3⟩
        refine ⟨h1, ?_, fun ht => (h3 ht).2⟩
        cases hb : stoA (st.getD i noRd).ar (st.getD i noRd).rs (f.drop 1)
        · have := h2 hb
          exact ⟨this.os, this.tape, this.output, this.size, fun k hk _ => this.block k hk⟩
        · exact (h3 hb).1
      have HE : Hid (∀ W b w', Below (w.alloc (.cells (f.map tx).toArray 9)).heap.size (w.alloc (.cells (f.map tx).toArray 9)) W → b = stoA (st.getD i noRd).ar (st.getD i noRd).rs (f.drop 1) → W.grownBy w' (some (mb i)) → (stoA (st.getD i noRd).ar (st.getD i noRd).rs (f.drop 1) = true → ∃ D', Tps w' (mb i) (updT (st.getD i noRd).rs (tupF (f.drop 1) (st.getD i noRd).ar) (wtF ((f.drop 1).getD (st.getD i noRd).ar []))) D') → TakE w B R st bP s.data.toList (.returned (.bool b)) w') := hid fun W b w' hW hb hg ht => by
        have hI := H1.out.below hW
        have hA := HA.out
        have hlo := (hI.lo.2.2 i hpl).2
        have hBW : Below B w w' := ((bt HB1.out hW).mono hBw).grown hg (Nat.le_trans hBw (bt HB1.out hW).size) (fun k e => by cases e; exact hlo)
        have hKS : KeepS w w' := (KeepS.below (bt HB1.out hW)).trans fun k cur hk => hg.block k (heap_lt hk) (fun e => by
          obtain ⟨es, cc, hm'⟩ := (hI.tps i hpl).blk
          rw [← Option.some.inj e, hk] at hm'
          cases hm')
        subst hb
        cases hb : stoA (st.getD i noRd).ar (st.getD i noRd).rs (f.drop 1)
        · rw [hb] at hA
          exact ⟨by rw [hA]; rfl, hBW, hKS, fun st' hs' => by rw [hA] at hs'; cases hs'⟩
        · rw [hb] at hA
          obtain ⟨D', hD'⟩ := ht hb
          refine ⟨by rw [hA]; rfl, hBW, hKS, fun st' hs' => ?_⟩
          rw [hA] at hs'
          cases hs'
          exact ⟨_, _, _, _, hI.put hpl hg hD'⟩
      have HCK : Hid (∀ W w', Below (w.alloc (.cells (f.map tx).toArray 9)).heap.size (w.alloc (.cells (f.map tx).toArray 9)) W → W.grownBy w' (some (mb i)) → w'.cell? ⟨R, 0, none⟩ = some (.slice (some ⟨gR, 0, none⟩) st.length cR) ∧ w'.cell? ⟨gR, i, none⟩ = some (.pointer (some ⟨rb i, 0, none⟩))) := hid fun W w' hW hg => by
        have hI := H1.out.below hW
        obtain ⟨es, cc, hm'⟩ := (hI.tps i hpl).blk
        have hne : ∀ {k : Nat} {o : Nat} {v : Value}, W.cell? ⟨k, o, none⟩ = some v → k ≠ mb i := fun {k o v} hc e => by
          subst e
          unfold World.cell? at hc
          rw [hm'] at hc
          cases hc
        have e0 := bclR hW c0
        have e2 := bclR hW c2
        exact ⟨(hg.cell_far ⟨R, 0, none⟩ (World.block_lt_of_cell? W _ e0) (fun e => hne e0 (Option.some.inj e))).trans e0, (hg.cell_far ⟨gR, i, none⟩ (World.block_lt_of_cell? W _ e2) (fun e => hne e2 (Option.some.inj e))).trans e2⟩
      clear HA HFS HfD H1 HB1
      generalize w.alloc (.cells (f.map tx).toArray 9) = W1 at *
      generalize (⟨(f.getD 0 []).toArray⟩ : ByteArray) = f0 at *
      generalize f.drop 1 = fd at *
      generalize f.length = n at *
      generalize stoA (st.getD i noRd).ar (st.getD i noRd).rs fd = bA at *
      by_cases hone : n = 1
      · subst hone
        rw [if_pos rfl] at HST
        go_enter Tryz.func20, Tryz.ntmps20
        go_upto_region 6 with (first | (go_at_call 19; refine KS.out.mono ?_; rintro e w1 ⟨rfl, rfl⟩) | fail)
        go_quiet (fail)
        have HBq := hid (below_drewN (Below.refl w1.heap.size w1) nq)
        have c0' := bclR HBq.out c0
        have c2' := bclR HBq.out c2
        clear hlk c0 c1 c2 c00
        generalize w1.drewN nq = wq at *
        go_upto_region 7 with fail
        go_region_held_law (fun W => W.cell? ⟨R, 0, none⟩ = some (.slice (some ⟨gR, 0, none⟩) st.length cR) ∧ W.cell? ⟨gR, i, none⟩ = some (.pointer (some ⟨rb i, 0, none⟩)))
          (first | exact ⟨c0', c2'⟩ | exact HCK.out _ _ HBq.out.drew hg5 | fail)
          (first | (go_simp; go_at_call 40; refine (HST.out _ HBq.out.drew).mono ?_; rintro e w5 ⟨rfl, hg5, ht5⟩) | fail)
        all_goals go_wp2_with fail
        all_goals
          go_ret
          exact HE.out _ _ _ HBq.out.drew rfl hg5 ht5
      · rw [if_neg hone] at HST
        go_enter Tryz.func20, Tryz.ntmps20
        go_upto_region 6 with (first | (go_at_call 19; refine KS.out.mono ?_; rintro e w1 ⟨rfl, rfl⟩) | fail)
        go_quiet (fail)
        have HBq := hid (below_drewN (Below.refl w1.heap.size w1) nq)
        have c0' := bclR HBq.out c0
        have c2' := bclR HBq.out c2
        clear hlk c0 c1 c2 c00
        generalize w1.drewN nq = wq at *
        go_upto_region 7 with fail
        go_region_held_law (fun W => W.cell? ⟨R, 0, none⟩ = some (.slice (some ⟨gR, 0, none⟩) st.length cR) ∧ W.cell? ⟨gR, i, none⟩ = some (.pointer (some ⟨rb i, 0, none⟩)))
          (first | exact ⟨c0', c2'⟩ | exact HCK.out _ _ HBq.out.drew hg5 | fail)
          (first | (go_simp; go_at_call 40; refine (HST.out _ HBq.out.drew).mono ?_; rintro e w5 ⟨rfl, hg5, ht5⟩) | fail)
        all_goals go_wp2_with fail
        all_goals
          go_ret
          exact HE.out _ _ _ HBq.out.drew rfl hg5 ht5

end Go.Proofs.YtcdfoephhjacdaaGreatDoor

/-
  The data in the making: relations, each with lists of its own.
-/
namespace Go.Proofs.YtcdfoephhjacdaaGreatDoor
open Go.RowKit

/-- a relation that has been read -/
structure RelOf (r : RdV) (d : RelV) : Prop where
  name : d.name = r.nm
  ar : d.ar = (r.ar : Int)
  ex : ∃ ss : List T3, ss.Perm (r.rs.map Prod.fst) ∧ (ss.Pairwise fun a b => ¬ cmpL (tl b) (tl a) < 0) ∧ d.rows = rowsT r.ar ss ∧ d.ws = wtsT r.rs ss

/-- the cells of a relation -/
def relC (d : RelV) (vr vw : Value) : List Value := [.string d.name, .int .i64 d.ar, vr, vw]

structure DQ (W : World) (B : Nat) (v : Value) (ds : List RelV) (vr vw : Nat → Value) (us : Nat → List Value) (lo hi : Nat → Nat) : Prop where
  own : W.ownsRow B 45 4 v ds.length ((List.range ds.length).flatMap fun i => relC (ds.getD i noRel) (vr i) (vw i))
  rq : ∀ i, i < ds.length → RQ W (lo i) (vr i) (us i) (ds.getD i noRel).rows
  ow : ∀ i, i < ds.length → W.ownsRow (lo i) 3 1 (vw i) (ds.getD i noRel).ws.length ((ds.getD i noRel).ws.map (Value.int .i64))
  ap : ∀ i, i < ds.length → ∀ j, j < (ds.getD i noRel).rows.length → ApR ((us i).getD j undef) (vw i)
  up : ∀ i, i < ds.length → (∀ g, (vw i).ownBlock = some g → g < hi i) ∧ ∀ j, j < (ds.getD i noRel).rows.length → ∀ g, ((us i).getD j undef).ownBlock = some g → g < hi i
  low : ∀ i, i < ds.length → B ≤ lo i ∧ hi i ≤ W.heap.size
  sep : ∀ i j, i < j → j < ds.length → hi i ≤ lo j

section
variable {W W' w3 : World} {B p q : Nat} {v v' v2 v3 : Value} {ds : List RelV} {vr vw : Nat → Value} {us : Nat → List Value} {lo hi : Nat → Nat} {d : RelV} {o : Obj} {us5 : List Value} {E0 hi' : Nat}
theorem DQ.nil (W : World) (B : Nat) : DQ W B (.slice none 0 0) [] vr vw us lo hi :=
  ⟨World.ownsRow_nil _ _ _ _, fun _ h => absurd h (Nat.not_lt_zero _), fun _ h => absurd h (Nat.not_lt_zero _), fun _ h => absurd h (Nat.not_lt_zero _), fun _ h => absurd h (Nat.not_lt_zero _), fun _ h => absurd h (Nat.not_lt_zero _), fun _ _ _ h => absurd h (Nat.not_lt_zero _)⟩
theorem DQ.below (h : DQ W B v ds vr vw us lo hi) (hb : Below W.heap.size W W') : DQ W' B v ds vr vw us lo hi :=
  ⟨own_below h.own hb, fun i hi' => (h.rq i hi').below hb, fun i hi' => own_below (h.ow i hi') hb, h.ap, h.up, fun i hi' => ⟨(h.low i hi').1, Nat.le_trans (h.low i hi').2 hb.size⟩, h.sep⟩
theorem DQ.base {B' : Nat} (h : DQ W B v ds vr vw us lo hi) (hB : B' ≤ B) : DQ W B' v ds vr vw us lo hi :=
  ⟨own_base h.own hB, h.rq, h.ow, h.ap, h.up, fun i hi' => ⟨Nat.le_trans hB (h.low i hi').1, (h.low i hi').2⟩, h.sep⟩
/-- a store into a block of another type -/
theorem RQ.setG {W : World} {B p off : Nat} {v y : Value} {us : List Value} {ls : List (List Int)} {e : TypeId} (h : RQ W B v us ls) (ht : ∃ cur, W.heap[p]? = some (.cells cur e (0, 0))) (h1 : 43 ≠ e) (h2 : 3 ≠ e) : RQ (W.setCell ⟨p, off, none⟩ y) B v us ls :=
  ⟨own_keepR h.own ht h1, h.len, fun i hi => own_keepR (h.each i hi) ht h2, h.ap⟩
theorem DQ.set (h : DQ W B v ds vr vw us lo hi) {off : Nat} {y : Value} (ht : ∃ cur, W.heap[p]? = some (.cells cur 25 (0, 0))) : DQ (W.setCell ⟨p, off, none⟩ y) B v ds vr vw us lo hi :=
  ⟨own_keepR h.own ht (by decide), fun i hi' => (h.rq i hi').setG ht (by decide) (by decide), fun i hi' => own_keepR (h.ow i hi') ht (by decide), h.ap, h.up, fun i hi' => ⟨(h.low i hi').1, by rw [World.size_setCell]; exact (h.low i hi').2⟩, h.sep⟩
theorem own_grownG {W w3 : World} {B B' n n' s s' : Nat} {e e' : TypeId} {v u : Value} {xs ys : List Value} {o : Obj} (h : W.ownsRow B e s u n xs) (hv : W.ownsRow B' e' s' v n' ys) (hne : e ≠ e') (hg : (W.alloc o).grownBy w3 v.ownBlock) : w3.ownsRow B e s u n xs :=
  own_move h fun g hgx => kept_of hg (h.lt g hgx).2 (own_ne hv (own_typ h hgx) (Ne.symm hne))
theorem RQ.grownG {W w3 : World} {B B' n' s' : Nat} {e' : TypeId} {v u : Value} {us : List Value} {ls : List (List Int)} {ys : List Value} {o : Obj} (h : RQ W B u us ls) (hv : W.ownsRow B' e' s' v n' ys) (h1 : 43 ≠ e') (h2 : 3 ≠ e') (hg : (W.alloc o).grownBy w3 v.ownBlock) : RQ w3 B u us ls :=
  ⟨own_grownG h.own hv h1 hg, h.len, fun i hi => own_grownG (h.each i hi) hv h2 hg, h.ap⟩
def updF {α : Type} (f : Nat → α) (n : Nat) (x : α) : Nat → α := fun i => if i = n then x else f i
theorem updF_same {α : Type} (f : Nat → α) (n : Nat) (x : α) : updF f n x n = x := if_pos rfl
theorem updF_other {α : Type} (f : Nat → α) {n i : Nat} (x : α) (h : i ≠ n) : updF f n x i = f i := if_neg h
/-- one relation more -/
theorem DQ.push (h : DQ W B v ds vr vw us lo hi) (hE : hi' = W.heap.size) (hq : RQ W E0 v2 us5 d.rows) (ho : W.ownsRow E0 3 1 v3 d.ws.length (d.ws.map (Value.int .i64))) (ha : ∀ j, j < d.rows.length → ApR (us5.getD j undef) v3) (hE0 : B ≤ E0) (hup : ∀ i, i < ds.length → hi i ≤ E0)
    (hown : w3.ownsRow B 45 4 v' (ds.length + 1) (((List.range ds.length).flatMap fun i => relC (ds.getD i noRel) (vr i) (vw i)) ++ relC d v2 v3)) (hg : (W.alloc o).grownBy w3 v.ownBlock) (ht : ∃ cur, w3.heap[p]? = some (.cells cur 25 (0, 0))) :
    DQ (w3.setCell ⟨p, 0, none⟩ v') B v' (ds ++ [d]) (updF vr ds.length v2) (updF vw ds.length v3) (updF us ds.length us5) (updF lo ds.length E0) (updF hi ds.length hi') := by
  have hlen : (ds ++ [d]).length = ds.length + 1 := by simp
  have hget : ∀ i, i < ds.length → (ds ++ [d]).getD i noRel = ds.getD i noRel := fun i hi => by rw [List.getD_eq_getElem?_getD, List.getElem?_append_left hi, ← List.getD_eq_getElem?_getD]
  have hgetn : (ds ++ [d]).getD ds.length noRel = d := by simp [List.getD_eq_getElem?_getD]
  have hsz : W.heap.size ≤ (w3.setCell ⟨p, 0, none⟩ v').heap.size := by rw [World.size_setCell]; have := hg.size; simp at this; omega
  subst hE
  refine ⟨?_, fun i hi' => ?_, fun i hi' => ?_, fun i hi' => ?_, fun i hi' => ?_, fun i hi' => ?_, fun i j hij hj => ?_⟩
  · rw [hlen]
    have e : ((List.range (ds.length + 1)).flatMap fun i => relC ((ds ++ [d]).getD i noRel) (updF vr ds.length v2 i) (updF vw ds.length v3 i)) = ((List.range ds.length).flatMap fun i => relC (ds.getD i noRel) (vr i) (vw i)) ++ relC d v2 v3 := by
      rw [List.range_succ, List.flatMap_append]
      congr 1
      · rw [List.flatMap_def, List.flatMap_def]
        congr 1
        refine List.map_congr_left fun i hi => ?_
        have hi2 := List.mem_range.1 hi
        rw [hget i hi2, updF_other _ _ (by omega), updF_other _ _ (by omega)]
      · rw [List.flatMap_singleton, hgetn, updF_same, updF_same]
    rw [e]
    exact own_keepR hown ht (by decide)
  · rw [hlen] at hi'
    by_cases e : i = ds.length
    · subst e
      rw [hgetn, updF_same, updF_same, updF_same]
      exact (hq.grownG h.own (by decide) (by decide) hg).setG ht (by decide) (by decide)
    · rw [hget i (by omega), updF_other _ _ e, updF_other _ _ e, updF_other _ _ e]
      exact ((h.rq i (by omega)).grownG h.own (by decide) (by decide) hg).setG ht (by decide) (by decide)
  · rw [hlen] at hi'
    by_cases e : i = ds.length
    · subst e
      rw [hgetn, updF_same, updF_same]
      exact own_keepR (own_grownG ho h.own (by decide) hg) ht (by decide)
    · rw [hget i (by omega), updF_other _ _ e, updF_other _ _ e]
      exact own_keepR (own_grownG (h.ow i (by omega)) h.own (by decide) hg) ht (by decide)
  · rw [hlen] at hi'
    by_cases e : i = ds.length
    · subst e
      rw [hgetn, updF_same, updF_same]
      exact ha
    · rw [hget i (by omega), updF_other _ _ e, updF_other _ _ e]
      exact h.ap i (by omega)
  · rw [hlen] at hi'
    by_cases e : i = ds.length
    · subst e
      rw [hgetn, updF_same, updF_same, updF_same]
      exact ⟨fun g hg' => (ho.lt g hg').2, fun j hj g hg' => ((hq.each j hj).lt g hg').2⟩
    · rw [hget i (by omega), updF_other _ _ e, updF_other _ _ e, updF_other _ _ e]
      exact h.up i (by omega)
  · rw [hlen] at hi'
    by_cases e : i = ds.length
    · subst e
      rw [updF_same, updF_same]
      exact ⟨hE0, hsz⟩
    · rw [updF_other _ _ e, updF_other _ _ e]
      exact ⟨(h.low i (by omega)).1, Nat.le_trans (h.low i (by omega)).2 hsz⟩
  · rw [hlen] at hj
    rw [updF_other _ _ (by omega : i ≠ ds.length)]
    by_cases e : j = ds.length
    · subst e
      rw [updF_same]
      exact hup i hij
    · rw [updF_other _ _ e]
      exact h.sep i j hij (by omega)
end

end Go.Proofs.YtcdfoephhjacdaaGreatDoor
