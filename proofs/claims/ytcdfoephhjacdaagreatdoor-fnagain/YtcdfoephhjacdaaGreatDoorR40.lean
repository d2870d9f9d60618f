import Derived.Laws.Tables
import Derived.Lib.BufferWrite
import Derived.Lib.Bytealg
import Derived.Lib.UnsafeStr
import Derived.Test.YtcdfoephhjacdaaGreatDoorR08
import Derived.Test.YtcdfoephhjacdaaGreatDoorR20
import Derived.Test.YtcdfoephhjacdaaGreatDoorR36
/-
  A word of a query's text: plain mathematics.
-/
namespace Go.Proofs.YtcdfoephhjacdaaGreatDoor
open Go.RowKit

def trm0 (l : List UInt8) : List UInt8 := l.dropWhile fun b => b == 48
def trmB (s : ByteArray) : ByteArray := ⟨(trm0 s.data.toList).toArray⟩
theorem trmB_list (s : ByteArray) : (trmB s).data.toList = trm0 s.data.toList := by unfold trmB; simp
theorem dv_cons (b : UInt8) (l : List UInt8) (h : b = 48) : dv (b :: l) = dv l := by
  subst h
  rfl
theorem dv_trm : ∀ l : List UInt8, dv (trm0 l) = dv l
  | [] => rfl
  | b :: l => by
    unfold trm0
    rw [List.dropWhile_cons]
    by_cases h : (b == 48) = true
    · rw [if_pos h, dv_cons b l (by simpa using h)]
      exact dv_trm l
    · rw [if_neg h]
theorem trm_head : ∀ (l : List UInt8) (b : UInt8), (trm0 l).head? = some b → b ≠ 48
  | [], b, h => by simp [trm0] at h
  | x :: l, b, h => by
    unfold trm0 at h
    rw [List.dropWhile_cons] at h
    by_cases hx : (x == 48) = true
    · rw [if_pos hx] at h
      exact trm_head l b h
    · rw [if_neg hx] at h
      simp at h
      subst h
      simpa using hx
theorem trm_mem (l : List UInt8) (b : UInt8) (h : b ∈ trm0 l) : b ∈ l := (List.dropWhile_sublist _).subset h
theorem trm_num {l : List UInt8} (hd : ∀ b ∈ l, dgt b = true) (hne : trm0 l ≠ []) : NumT (trm0 l) :=
  ⟨hne, fun b hb => hd b (trm_mem l b hb), fun h => absurd rfl (trm_head l 48 h)⟩
theorem trm_none {l : List UInt8} (h : trm0 l = []) : dv l = 0 := by rw [← dv_trm, h]; rfl
theorem trm_first {b : UInt8} {l : List UInt8} (h : b ≠ 48) : trm0 (b :: l) = b :: l := by
  unfold trm0
  rw [List.dropWhile_cons, if_neg (by simpa using h)]

/-- what wordToken makes of a word -/
def wdG (s : ByteArray) : Bool := if nameB s then true else if (trmB s).size = 0 then decide (s.size ≠ 0) else numG (trmB s) 1000000
def wtK (s : ByteArray) : Nat := if nameB s then 97 else 48
def wdN (s : ByteArray) : ByteArray := if nameB s then s else ⟨#[]⟩
def wtV (s : ByteArray) : Nat := if nameB s then 0 else if (trmB s).size = 0 then 0 else numN (trmB s) 1000000

/-- how long the word at o is -/
def wln (s : ByteArray) (o : Nat) : Nat := if digitB (byteAt s o) then rn digitB s o else rn nbyteB s o
theorem wln_le (s : ByteArray) (o : Nat) (ho : o ≤ s.size) : o + wln s o ≤ s.size := by
  unfold wln
  split
  · exact rn_le _ _ _ ho
  · exact rn_le _ _ _ ho
theorem ext_list (s : ByteArray) (o n : Nat) : (s.extract o (o + n)).data.toList = stretch s o n := by
  rw [ByteArray.data_extract, Array.toList_extract, List.extract_eq_take_drop]
  unfold stretch
  rw [show o + n - o = n by omega]
theorem take_mem {α : Type} (p : α → Bool) : ∀ (l : List α) (b : α), b ∈ l.takeWhile p → p b = true
  | [], b, h => by simp at h
  | x :: l, b, h => by
    rw [List.takeWhile_cons] at h
    by_cases hx : p x = true
    · rw [if_pos hx, List.mem_cons] at h
      rcases h with rfl | h
      · exact hx
      · exact take_mem p l b h
    · rw [if_neg hx] at h; simp at h
theorem stretch_all (p : Int → Bool) (s : ByteArray) (o : Nat) : ∀ b ∈ stretch s o (rn p s o), p (b.toNat : Int) = true := fun b hb => by
  unfold stretch rn at hb
  have e : (s.data.toList.drop o).take ((s.data.toList.drop o).takeWhile fun b => p (b.toNat : Int)).length = (s.data.toList.drop o).takeWhile fun b => p (b.toNat : Int) := by
    have h := List.takeWhile_prefix (l := s.data.toList.drop o) (fun b => p (b.toNat : Int))
    exact (List.prefix_iff_eq_take.1 h).symm
  rw [e] at hb
  exact take_mem (fun b => p (b.toNat : Int)) _ b hb
theorem stretch_get {s : ByteArray} {o n i : Nat} (hi : i < n) (h : o + i < s.size) : (stretch s o n)[i]? = some (s.data.toList.getD (o + i) 0) := by
  unfold stretch
  rw [List.getElem?_take_of_lt hi, byte_drop h]
theorem ext_byte {s : ByteArray} {o n i : Nat} (hi : i < n) (h : o + n ≤ s.size) : byteAt (s.extract o (o + n)) i = byteAt s (o + i) := by
  unfold byteAt
  rw [ext_list, List.getD_eq_getElem?_getD, stretch_get hi (by omega)]
  rfl
theorem nbyte_letter {x : Int} (h : letterB x = true) : nbyteB x = true := by unfold nbyteB; rw [h]; rfl
theorem letter_notdig {x : Int} (h : letterB x = true) : digitB x = false := by
  unfold letterB at h
  unfold digitB
  simp only [Bool.or_eq_true, Bool.and_eq_true, decide_eq_true_eq] at h
  rw [Bool.and_eq_false_iff]
  simp only [decide_eq_false_iff_not]
  omega
theorem numG_no {s : ByteArray} {b : UInt8} {l : List UInt8} (h : s.data.toList = b :: l) (hb : digitB (b.toNat : Int) = false) : numG s 1000000 = false :=
  (num_no fun hn _ => by
    have := hn.dg b (by rw [h]; simp)
    rw [← byte_dgt, hb] at this
    cases this).2
theorem trmB_same {s : ByteArray} {b : UInt8} {l : List UInt8} (h : s.data.toList = b :: l) (hb : b ≠ 48) : trmB s = s := by
  unfold trmB
  rw [h, trm_first hb, ← h]
theorem word_head {s : ByteArray} {o n : Nat} (hn : 0 < n) (h : o + n ≤ s.size) : ∃ l, (s.extract o (o + n)).data.toList = s.data.toList.getD o 0 :: l := by
  rw [ext_list]
  have h0 := stretch_get (s := s) (o := o) hn (by omega)
  cases hs : stretch s o n with
  | nil => rw [hs] at h0; simp at h0
  | cons a l =>
    rw [hs, List.getElem?_cons_zero, Nat.add_zero] at h0
    exact ⟨l, by rw [Option.some.inj h0]⟩
theorem word_bad {s : ByteArray} {o n : Nat} (hn : o + n ≤ s.size) (hl : letterB (byteAt s o) = false ∨ 30 < n) (hd : digitB (byteAt s o) = false) : wdG (s.extract o (o + n)) = false := by
  have hsz : (s.extract o (o + n)).size = n := ext_size s o n hn
  have hnm : nameB (s.extract o (o + n)) = false := by
    unfold nameB
    rw [hsz]
    rcases hl with hl | hl
    · by_cases h0 : 0 < n
      · have hb0 := ext_byte (s := s) (o := o) (n := n) h0 hn
        rw [Nat.add_zero] at hb0
        rw [hb0, hl]
        simp
      · rw [show n = 0 by omega]; simp
    · rw [decide_eq_false (show ¬ n ≤ 30 by omega)]
      simp
  unfold wdG
  rw [hnm, if_neg (by decide)]
  by_cases h0 : 0 < n
  · obtain ⟨l, hl2⟩ := word_head h0 hn
    have hb : digitB (((s.data.toList.getD o 0).toNat : Nat) : Int) = false := hd
    have hne : s.data.toList.getD o 0 ≠ 48 := fun e => by rw [e] at hb; revert hb; decide
    rw [trmB_same hl2 hne, if_neg (by rw [hsz]; omega)]
    exact numG_no hl2 hb
  · have hz : n = 0 := by omega
    have he : (s.extract o (o + n)).data.toList = [] := by rw [ext_list, hz]; rfl
    have ht : (trmB (s.extract o (o + n))).size = 0 := by
      unfold trmB
      rw [he]
      rfl
    rw [if_pos ht, hsz, hz]
    rfl
/-- the token of the word at o, where neither a separator nor a symbol stands -/
theorem word_nx {s : ByteArray} {o : Nat} (ho : o < s.size) (h0 : sepB (byteAt s o) = false) (h1 : symB (byteAt s o) = false) (h2 : ¬ (byteAt s o = 58 ∧ o + 1 < s.size ∧ byteAt s (o + 1) = 45)) :
    nx s o = if wdG (s.extract o (o + wln s o)) then some (some (wtK (s.extract o (o + wln s o)), wdN (s.extract o (o + wln s o)), wtV (s.extract o (o + wln s o))), wln s o) else none := by
  have hw := wln_le s o (by omega)
  have hsz := ext_size s o _ hw
  unfold nx
  rw [if_neg (by rw [h0]; decide)]
  by_cases hl : letterB (byteAt s o) = true
  · rw [if_pos hl]
    have hd := letter_notdig hl
    have ew : wln s o = rn nbyteB s o := by unfold wln; rw [if_neg (by rw [hd]; decide)]
    have hp : 0 < rn nbyteB s o := rn_pos ho (nbyte_letter hl)
    by_cases h30 : rn nbyteB s o ≤ 30
    · rw [if_pos h30]
      have hnm : nameB (s.extract o (o + wln s o)) = true := by
        refine nameB_all (by rw [hsz, ew]; exact hp) (by rw [hsz, ew]; exact h30) (by rw [ext_byte (by rw [ew]; exact hp) hw, Nat.add_zero]; exact hl) (fun i hi => ?_)
        rw [hsz] at hi
        have hm := stretch_get (s := s) (o := o) hi (by omega)
        have hmem := List.mem_of_getElem? hm
        rw [ew] at hmem
        rw [ext_byte hi hw]
        exact stretch_all nbyteB s o _ hmem
      unfold wdG wtK wdN wtV
      rw [hnm, ew]
      rfl
    · rw [if_neg h30, if_neg]
      rw [word_bad hw (Or.inr (by rw [ew]; omega)) hd]
      decide
  · have hl' : letterB (byteAt s o) = false := by simpa using hl
    rw [if_neg hl]
    by_cases hd : digitB (byteAt s o) = true
    · rw [if_pos hd]
      have ew : wln s o = rn digitB s o := by unfold wln; rw [if_pos hd]
      have hp : 0 < rn digitB s o := rn_pos ho hd
      have hnm : nameB (s.extract o (o + wln s o)) = false := by
        unfold nameB
        rw [ext_byte (by rw [ew]; exact hp) hw, Nat.add_zero, hl']
        simp
      have hdg : ∀ b ∈ (s.extract o (o + wln s o)).data.toList, dgt b = true := fun b hb => by
        rw [ext_list, ew] at hb
        rw [← byte_dgt]
        exact stretch_all digitB s o b hb
      have hdv : dv (stretch s o (rn digitB s o)) = dv (s.extract o (o + wln s o)).data.toList := by rw [ext_list, ew]
      unfold wdG wtK wdN wtV
      rw [hnm, hdv]
      simp only [Bool.false_eq_true, if_false]
      by_cases ht : (trmB (s.extract o (o + wln s o))).size = 0
      · have htl : trm0 (s.extract o (o + wln s o)).data.toList = [] := by
          rw [← trmB_list]
          have : (trmB (s.extract o (o + wln s o))).data.toList.length = 0 := by simpa using ht
          exact List.length_eq_zero_iff.1 this
        have hz := trm_none htl
        rw [if_pos ht, if_pos ht, hz, if_pos (by omega), hsz, decide_eq_true (show wln s o ≠ 0 by rw [ew]; omega), ew]
        rfl
      · have htl : trm0 (s.extract o (o + wln s o)).data.toList ≠ [] := fun e => ht (by
          have := trmB_list (s.extract o (o + wln s o))
          rw [e] at this
          have h3 := congrArg List.length this
          simpa using h3)
        have hnum := trm_num hdg htl
        have hdt := dv_trm (s.extract o (o + wln s o)).data.toList
        rw [if_neg ht, if_neg ht]
        by_cases hm : dv (s.extract o (o + wln s o)).data.toList ≤ 1000000
        · rw [if_pos hm]
          have hy := num_yes (s := trmB (s.extract o (o + wln s o))) (most := 1000000) (by rw [trmB_list]; exact hnum) (by rw [trmB_list, hdt]; exact hm)
          rw [hy.1, hy.2, trmB_list, hdt, ew]
          rfl
        · rw [if_neg hm]
          have hy := num_no (s := trmB (s.extract o (o + wln s o))) (most := 1000000) (fun _ h => hm (by rw [trmB_list, hdt] at h; exact h))
          rw [hy.2]
          rfl
    · have hd' : digitB (byteAt s o) = false := by simpa using hd
      rw [if_neg hd]
      have hb := word_bad hw (Or.inl hl') hd'
      rw [hb]
      by_cases h58 : byteAt s o = 58
      · rw [if_pos h58, if_neg (fun e => h2 ⟨h58, e⟩)]
        rfl
      · rw [if_neg h58, if_neg (by rw [h1]; decide)]
        rfl

end Go.Proofs.YtcdfoephhjacdaaGreatDoor

/-
  strings.Clone: the same text.
-/
namespace Go.Proofs.YtcdfoephhjacdaaGreatDoor
open Go.RowKit

theorem Tryz.cellsU8 : Tryz.prog.cellsOf 5 = 1 := by kernel_rfl
theorem Tryz.sizeU8 : (Tryz.prog.info? 5).map (·.size) = some 1 := by kernel_rfl

/-- the row that a text is copied into, and what it holds then -/
theorem copied_row (w : World) (s : ByteArray) : ∃ Y : Array Value,
    (Builtin.copy_ #[22, 9] 3 #[.slice (some ⟨w.heap.size, 0, none⟩) s.size s.size, .string s]).run Tryz.prog (w.alloc (.cells (madeCells #[.int .u8 0] s.size) 5)) = .ok (goInt s.size) ((w.alloc (.cells (madeCells #[.int .u8 0] s.size) 5)).setRow w.heap.size Y) ∧
    Y.size = s.size ∧ Y.toList = Lib.byteCells s.data.toList ∧ ((w.alloc (.cells (madeCells #[.int .u8 0] s.size) 5)).setRow w.heap.size Y).heap[w.heap.size]? = some (.cells Y 5 (0, 0)) := by
  have hl : (madeCells #[Value.int .u8 0] s.size).size = s.size := by rw [size_madeCells]
  refine ⟨_, Lib.run_copy_row_string (P := Tryz.prog) _ 22 9 3 5 w.heap.size 0 s.size s.size s _ 5 Tryz.underlying22 Tryz.sizeU8 (heap_alloc_new w _) (Nat.le_refl _) (by omega), ?_, ?_, setRow_heap _ _ _ _ 5 (0, 0) (heap_alloc_new w _)⟩
  · simp [Lib.byteCells_length, hl]
  · simp [hl]

set_option maxHeartbeats 4000000 in
set_option maxRecDepth 100000 in
theorem sliteClone_calls (s : ByteArray) (w : World) (hs : s.size ≤ 281474976710656) :
    Calls Tryz.prog 92 #[.string s] w fun e w' => e = .returned (.string s) ∧ Below w.heap.size w w' := by
  by_cases h0 : s.size = 0
  · obtain rfl : s = ⟨#[]⟩ := ByteArray.ext (Array.eq_empty_of_size_eq_zero h0)
    go_enter Tryz.func92, Tryz.ntmps92
    go_wp2
    go_ret
    exact ⟨rfl, Below.refl _ _⟩
  · have i0 : ¬ ((s.size : Int) = 0) := by omega
    have i1 : (0 : Int) < (s.size : Int) := by omega
    have hmk := run_make_row' (P := Tryz.prog) 22 5 (.int .u8 0) 1 Tryz.underlying22 (by kernel_rfl) rfl .i64 .i64 s.size (by omega) (by omega)
    obtain ⟨Y, hcp, hYs, hYl, hgY⟩ := copied_row w s
    have hne : s.data.toList ≠ [] := fun e => h0 (by rw [Lib.size_eq, e]; rfl)
    have hus := Lib.run_unsafeString_row (P := Tryz.prog) ((w.alloc (.cells (madeCells #[.int .u8 0] s.size) 5)).setRow w.heap.size Y) 104 3 9 5 Tryz.underlying104 Tryz.cellsU8 w.heap.size Y.size (by unfold World.shape?; rw [hgY]) s.data.toList hne (by rw [← Lib.size_eq]; omega) (by rw [← Lib.size_eq]; omega)
      (fun j x hx => Lib.cells_of_row hgY Y.size j _ (by rw [List.take_of_length_le (by rw [Array.length_toList]; exact Nat.le_refl _), hYl]; simp [Lib.byteCells, hx]))
    rw [← Lib.size_eq] at hus
    have hb1 : Below w.heap.size w (w.alloc (.cells (madeCells #[.int .u8 0] s.size) 5)) := (Below.refl _ w).alloc (Nat.le_refl _) _
    have hb2 : Below w.heap.size (w.alloc (.cells (madeCells #[.int .u8 0] s.size) 5)) ((w.alloc (.cells (madeCells #[.int .u8 0] s.size) 5)).setRow w.heap.size Y) := ⟨rfl, rfl, rfl, by simp, fun k hk => setRow_other _ _ _ _ (by omega)⟩
    have HB := hid (Lib.below_freeze (hb1.trans hb2) (p := ⟨w.heap.size, 0, none⟩) (Nat.le_refl _) s.size)
    clear hb1 hb2
    clear hYs hYl hgY
    go_enter Tryz.func92, Tryz.ntmps92
    go_wp2
    go_ret
    exact ⟨rfl, HB.out⟩

theorem clone_calls (s : ByteArray) (w : World) (hs : s.size ≤ 281474976710656) :
    Calls Tryz.prog 62 #[.string s] w fun e w' => e = .returned (.string s) ∧ Below w.heap.size w w' := by
  have K := hid (sliteClone_calls s w hs)
  go_enter Tryz.func62, Tryz.ntmps62
  go_wp2_with (first | (go_at_call 92; refine K.out.mono ?_; rintro e w' ⟨rfl, hb⟩) | fail)
  go_ret
  exact ⟨rfl, hb⟩

end Go.Proofs.YtcdfoephhjacdaaGreatDoor

/-
  The program's words: separators, prefixes, zeros, wordAt.
-/
namespace Go.Proofs.YtcdfoephhjacdaaGreatDoor
open Go.RowKit

set_option maxHeartbeats 2000000 in
set_option maxRecDepth 1000000 in
theorem sliteIx_calls (s : ByteArray) (c : Int) (w : World) :
    Calls Tryz.prog 104 #[.string s, .int .u8 c] w fun e w' => e = .returned (.int .i64 (Lib.indexByte s.data.toList c.toNat.toUInt8)) ∧ w' = w := by
  go_enter Tryz.func104, Tryz.ntmps104
  go_wp2
  rw [run_callFunc_extern Tryz.func126 (by kernel_rfl) (by kernel_rfl) (by kernel_rfl) (e := Extern.BytealgIndexByte.indexByte) (by kernel_rfl), Lib.run_indexByteString]
  simp only [Result.andThen]
  rw [Oper.upon_value]
  go_wp2
  go_ret
  exact ⟨rfl, rfl⟩
theorem indexByte_calls (s : ByteArray) (c : Int) (w : World) :
    Calls Tryz.prog 76 #[.string s, .int .u8 c] w fun e w' => e = .returned (.int .i64 (Lib.indexByte s.data.toList c.toNat.toUInt8)) ∧ w' = w := by
  have K := hid (sliteIx_calls s c w)
  go_enter Tryz.func76, Tryz.ntmps76
  go_wp2_with (first | (go_at_call 104; refine K.out.mono ?_; rintro e w' ⟨rfl, hw'⟩; subst w') | fail)
  go_ret
  exact ⟨rfl, rfl⟩
set_option maxRecDepth 100000 in
theorem sep_ix (b : UInt8) : (0 ≤ Lib.indexByte [9, 10, 13, 32] b) ↔ sepB (b.toNat : Int) = true := by
  have h : ∀ n : Fin 256, (decide (0 ≤ Lib.indexByte [9, 10, 13, 32] (UInt8.ofNat n.val)) = sepB ((UInt8.ofNat n.val).toNat : Int)) := by decide
  have hb := h ⟨b.toNat, b.toNat_lt⟩
  simp only [UInt8.ofNat_toNat] at hb
  rw [← hb, decide_eq_true_iff]

set_option maxHeartbeats 2000000 in
set_option maxRecDepth 1000000 in
theorem slitePre_calls (s t : ByteArray) (w : World) :
    Calls Tryz.prog 105 #[.string s, .string t] w fun e w' => e = .returned (.bool (decide (t.size ≤ s.size) && ((s.extract 0 t.size).toList == t.toList))) ∧ w' = w := by
  by_cases h : t.size ≤ s.size
  · have i1 : (t.size : Int) ≤ (s.size : Int) := by omega
    rw [decide_eq_true h, Bool.true_and]
    go_enter Tryz.func105, Tryz.ntmps105
    go_wp2
    go_ret
    exact ⟨by first | rfl | simp, rfl⟩
  · have i1 : ¬ ((t.size : Int) ≤ (s.size : Int)) := by omega
    rw [decide_eq_false h, Bool.false_and]
    go_enter Tryz.func105, Tryz.ntmps105
    go_wp2
    go_ret
    exact ⟨rfl, rfl⟩
theorem hasPre_calls (s t : ByteArray) (w : World) :
    Calls Tryz.prog 77 #[.string s, .string t] w fun e w' => e = .returned (.bool (decide (t.size ≤ s.size) && ((s.extract 0 t.size).toList == t.toList))) ∧ w' = w := by
  have K := hid (slitePre_calls s t w)
  generalize (decide (t.size ≤ s.size) && ((s.extract 0 t.size).toList == t.toList)) = b at *
  go_enter Tryz.func77, Tryz.ntmps77
  go_wp2_with (first | (go_at_call 105; refine K.out.mono ?_; rintro e w' ⟨rfl, hw'⟩; subst w') | fail)
  go_ret
  exact ⟨rfl, rfl⟩

/-- behind the first i bytes -/
def frm (s : ByteArray) (i : Nat) : ByteArray := s.extract i s.size
theorem frm_size (s : ByteArray) (i : Nat) : (frm s i).size = s.size - i := by unfold frm; rw [ByteArray.size_extract]; omega
theorem frm_list (s : ByteArray) (i : Nat) : (frm s i).data.toList = s.data.toList.drop i := by
  unfold frm
  rw [ByteArray.data_extract, Array.toList_extract, List.extract_eq_take_drop]
  exact List.take_of_length_le (by simp)
theorem frm_next (s : ByteArray) (i : Nat) : (frm s i).extract 1 (frm s i).size = frm s (i + 1) := by
  have : ((frm s i).extract 1 (frm s i).size).data.toList = (frm s (i + 1)).data.toList := by
    rw [ByteArray.data_extract, Array.toList_extract, List.extract_eq_take_drop, frm_list, frm_list, List.drop_drop]
    exact List.take_of_length_le (by rw [frm_size]; simp; omega)
  exact ByteArray.ext (Array.toList_inj.1 this)
theorem frm_zero (s : ByteArray) : frm s 0 = s := by
  have : (frm s 0).data.toList = s.data.toList := by rw [frm_list, List.drop_zero]
  exact ByteArray.ext (Array.toList_inj.1 this)
theorem frm_byte {s : ByteArray} {i : Nat} (h : 0 < (frm s i).size) : ((frm s i)[0]'h).toNat = (s.data.toList.getD i 0).toNat := by
  have e := byteAt_eq (frm s i) 0 h
  unfold byteAt at e
  rw [frm_list] at e
  have hl : i < s.data.toList.length := by rw [frm_size] at h; simp; omega
  rw [List.getD_eq_getElem?_getD, List.getElem?_drop, Nat.add_zero] at e
  rw [List.getD_eq_getElem?_getD]
  omega
theorem trm_drop : ∀ (l : List UInt8), ∃ i, i ≤ l.length ∧ (∀ j, j < i → l.getD j 0 = 48) ∧ trm0 l = l.drop i ∧ (i < l.length → l.getD i 0 ≠ 48)
  | [] => ⟨0, Nat.le_refl _, fun j hj => by omega, rfl, fun h => by simp at h⟩
  | b :: l => by
    by_cases h : (b == 48) = true
    · obtain ⟨i, h1, h2, h3, h4⟩ := trm_drop l
      refine ⟨i + 1, by simpa using h1, fun j hj => ?_, ?_, fun hi => ?_⟩
      · cases j with
        | zero => simpa using h
        | succ j => simpa using h2 j (by omega)
      · unfold trm0; rw [List.dropWhile_cons, if_pos h]; exact h3
      · simpa using h4 (by simpa using hi)
    · exact ⟨0, Nat.zero_le _, fun j hj => by omega, by unfold trm0; rw [List.dropWhile_cons, if_neg h]; rfl, fun _ => by simpa using h⟩

set_option maxHeartbeats 4000000 in
set_option maxRecDepth 1000000 in
theorem trimByte_calls (s : ByteArray) (w : World) :
    Calls Tryz.prog 127 #[.string s, .int .u8 48] w fun e w' => e = .returned (.string (trmB s)) ∧ w' = w := by
  obtain ⟨n, hn, hz, ht, hne⟩ := trm_drop s.data.toList
  have hl : s.data.toList.length = s.size := by simp
  have et : trmB s = frm s n := ByteArray.ext (Array.toList_inj.1 (by rw [trmB_list, frm_list, ht]))
  rw [et]
  have HZ := hid hz
  have HNE := hid hne
  have HX0 : Hid (s = frm s 0) := hid (frm_zero s).symm
  have hn' : n ≤ s.size := by omega
  clear hz hne ht et hl hn
  go_enter Tryz.func127, Tryz.ntmps127
  go_wp2
  go_loopw [0] (fun x wr => ∃ i : Nat, i ≤ n ∧ wr = w ∧ ∃ t : ByteArray, x = .string t ∧ Hid (t = frm s i)) (fun x _ => match x with | .string t => t.size | _ => 0)
  case atStart => exact ⟨0, Nat.zero_le _, rfl, s, rfl, HX0⟩
  case round =>
    clear HX0
    obtain ⟨i, hi, hw, t, rfl, HT⟩ := hrel
    subst hw
    have hts : t.size = s.size - i := by rw [HT.out, frm_size]
    by_cases hin : i < n
    · have hp : 0 < t.size := by omega
      have ip : (0 : Int) < (t.size : Int) := by omega
      have hb : (((t[0]'hp).toNat : Int) == 48) = true := by
        have e : (t[0]'hp).toNat = 48 := by
          have hp' : 0 < (frm s i).size := by rw [← HT.out]; exact hp
          have h1 := frm_byte hp'
          rw [HZ.out i hin] at h1
          have : (t[0]'hp).toNat = ((frm s i)[0]'hp').toNat := by congr 1; simp only [HT.out]
          rw [this, h1]; rfl
        rw [e]; rfl
      have HN : Hid (t.extract 1 t.size = frm s (i + 1)) := hid (by rw [HT.out]; exact frm_next s i)
      have i1 : (1 : Int) ≤ (t.size : Int) := by omega
      clear hts HT
      go_wp2
      go_roundw
      case rel => exact ⟨i + 1, by omega, (by first | rfl | trivial), _, rfl, HN⟩
      case measure => simp; omega
    · obtain rfl : i = n := by omega
      have HE := hid HT.out
      by_cases hp : 0 < t.size
      · have ip : (0 : Int) < (t.size : Int) := by omega
        have hb : (((t[0]'hp).toNat : Int) == 48) = false := by
          have e : (t[0]'hp).toNat ≠ 48 := by
            have hp' : 0 < (frm s i).size := by rw [← HT.out]; exact hp
            have h1 := frm_byte hp'
            have h2 := HNE.out (by simp; omega)
            have : (t[0]'hp).toNat = ((frm s i)[0]'hp').toNat := by congr 1; simp only [HT.out]
            rw [this, h1]
            intro e
            exact h2 (UInt8.toNat_inj.1 e)
          simp; omega
        clear hts HT
        go_wp2
        go_ret
        exact ⟨congrArg (fun z => Ending.returned (Value.string z)) HE.out, rfl⟩
      · have ip : ¬ ((0 : Int) < (t.size : Int)) := by omega
        clear hts HT
        go_wp2
        go_ret
        exact ⟨congrArg (fun z => Ending.returned (Value.string z)) HE.out, rfl⟩

set_option maxHeartbeats 2000000 in
set_option maxRecDepth 1000000 in
theorem trimLeft_calls (s : ByteArray) (w : World) :
    Calls Tryz.prog 106 #[.string s, .string ⟨#[48]⟩] w fun e w' => e = .returned (.string (trmB s)) ∧ w' = w := by
  by_cases h0 : s.size = 0
  · have e1 : s = ⟨#[]⟩ := by
      obtain ⟨⟨l⟩⟩ := s
      simp [ByteArray.size] at h0
      simp [h0]
    subst e1
    go_enter Tryz.func106, Tryz.ntmps106
    go_wp2
    go_ret
    exact ⟨rfl, rfl⟩
  · have hne := not_empty h0
    have K := hid (trimByte_calls s w)
    generalize trmB s = t at *
    go_enter Tryz.func106, Tryz.ntmps106
    go_wp2_with (first | (go_at_call 127; refine K.out.mono ?_; rintro e w' ⟨rfl, hw'⟩; subst w') | fail)
    go_ret
    exact ⟨rfl, rfl⟩

end Go.Proofs.YtcdfoephhjacdaaGreatDoor

/-
  The program's words: wordAt, wordToken.
-/
namespace Go.Proofs.YtcdfoephhjacdaaGreatDoor
open Go.RowKit

theorem frm_at {s : ByteArray} {o i : Nat} : byteAt (frm s o) i = byteAt s (o + i) := by
  unfold byteAt
  rw [frm_list, List.getD_eq_getElem?_getD, List.getElem?_drop, List.getD_eq_getElem?_getD]
theorem frm_rn (p : Int → Bool) (s : ByteArray) (o : Nat) : rn p (frm s o) 0 = rn p s o := by
  unfold rn
  rw [frm_list, List.drop_drop, Nat.add_zero]
theorem frm_wln (s : ByteArray) (o : Nat) : wln (frm s o) 0 = wln s o := by
  unfold wln
  rw [frm_at, Nat.add_zero, frm_rn, frm_rn]
theorem frm_ext (s : ByteArray) (o n : Nat) : (frm s o).extract 0 n = s.extract o (o + n) := by
  have : ((frm s o).extract 0 n).data.toList = (s.extract o (o + n)).data.toList := by
    rw [ext_list]
    have h := ext_list (frm s o) 0 n
    rw [Nat.zero_add] at h
    rw [h]
    unfold stretch
    rw [frm_list, List.drop_drop, Nat.add_zero]
  exact ByteArray.ext (Array.toList_inj.1 this)

set_option maxHeartbeats 4000000 in
set_option maxRecDepth 1000000 in
theorem wordAt_calls (w : World) (t : ByteArray) (ht : 0 < t.size) (hs : t.size ≤ 1099511627776) :
    Calls Tryz.prog 78 #[.string t] w fun e w' => e = .returned (.string (t.extract 0 (wln t 0))) ∧ w' = w := by
  have hb0 := byteAt_eq t 0 ht
  have KD := isDigit_calls w ((t[0]'ht).toNat : Int)
  cases hd : digitB (byteAt t 0)
  · have ew : wln t 0 = rn nbyteB t 0 := by unfold wln; rw [hd]; rfl
    rw [ew]
    rw [← hb0, hd, hb0] at KD
    have HKD := hid KD
    have HRn : Hid (∀ q : Nat, q ≤ t.size → (∀ i, i < q → nbyteB (byteAt t i) = true) → (q = t.size ∨ nbyteB (byteAt t q) = false) → rn nbyteB t 0 = q) := hid fun q h1 h2 h3 => rn_eq (fun i hi => by rw [Nat.zero_add]; exact h2 i hi) (by omega) (by rw [Nat.zero_add]; exact h3)
    clear KD ew hb0 hd
    generalize rn nbyteB t 0 = n at *
    go_enter Tryz.func78, Tryz.ntmps78
    go_wp2_with (first | (go_at_call 93; refine HKD.out.mono ?_; rintro e w' ⟨rfl, hw'⟩; subst w') | fail)
    go_loopw [4] (fun x wr => ∃ q : Nat, q ≤ t.size ∧ wr = w ∧ x = .int .i64 (q : Int) ∧ Hid (∀ i, i < q → nbyteB (byteAt t i) = true)) (fun x _ => t.size - (intOf x).toNat)
    case atStart => exact ⟨0, Nat.zero_le _, rfl, rfl, hid fun i hi => by omega⟩
    case round =>
      clear HKD
      obtain ⟨q, hq, hw, rfl, HJ⟩ := hrel
      subst hw
      by_cases hlt : q < t.size
      · have iq : (q : Int) < (t.size : Int) := by omega
        have hbq := byteAt_eq t q hlt
        have K := isNameByte_calls wr ((t[q]'hlt).toNat : Int)
        cases hn : nbyteB (byteAt t q)
        · have HR := hid (HRn.out q hq HJ.out (Or.inr hn))
          rw [← hbq, hn, hbq] at K
          have HK := hid K
          have iqs : (q : Int) ≤ (t.size : Int) := by omega
          clear K HRn HJ hn hbq
          go_wp2_with (first | (go_at_call 85; refine HK.out.mono ?_; rintro e w' ⟨rfl, hw'⟩; subst w') | fail)
          go_ret
          exact ⟨by rw [HR.out]; rfl, rfl⟩
        · have HN : Hid (∀ i, i < q + 1 → nbyteB (byteAt t i) = true) := hid fun i hi => by
            by_cases e : i = q
            · rw [e]; exact hn
            · exact HJ.out i (by omega)
          rw [← hbq, hn, hbq] at K
          have HK := hid K
          clear K HRn HJ hn hbq
          go_wp2_with (first | (go_at_call 85; refine HK.out.mono ?_; rintro e w' ⟨rfl, hw'⟩; subst w') | fail)
          go_roundw
          case rel => exact ⟨q + 1, by omega, (by first | rfl | trivial), by go_num, HN⟩
          case measure => simp [intOf]; omega
      · have iq : ¬ ((q : Int) < (t.size : Int)) := by omega
        have HR := hid (HRn.out q hq HJ.out (Or.inl (by omega)))
        have iqs : (q : Int) ≤ (t.size : Int) := by omega
        clear HRn HJ
        go_wp2_with fail
        go_ret
        exact ⟨by rw [HR.out]; rfl, rfl⟩
  · have ew : wln t 0 = rn digitB t 0 := by unfold wln; rw [hd]; rfl
    rw [ew]
    rw [← hb0, hd, hb0] at KD
    have HKD := hid KD
    have HRn : Hid (∀ q : Nat, q ≤ t.size → (∀ i, i < q → digitB (byteAt t i) = true) → (q = t.size ∨ digitB (byteAt t q) = false) → rn digitB t 0 = q) := hid fun q h1 h2 h3 => rn_eq (fun i hi => by rw [Nat.zero_add]; exact h2 i hi) (by omega) (by rw [Nat.zero_add]; exact h3)
    clear KD ew hb0 hd
    generalize rn digitB t 0 = n at *
    go_enter Tryz.func78, Tryz.ntmps78
    go_wp2_with (first | (go_at_call 93; refine HKD.out.mono ?_; rintro e w' ⟨rfl, hw'⟩; subst w') | fail)
    go_loopw [4] (fun x wr => ∃ q : Nat, q ≤ t.size ∧ wr = w ∧ x = .int .i64 (q : Int) ∧ Hid (∀ i, i < q → digitB (byteAt t i) = true)) (fun x _ => t.size - (intOf x).toNat)
    case atStart => exact ⟨0, Nat.zero_le _, rfl, rfl, hid fun i hi => by omega⟩
    case round =>
      clear HKD
      obtain ⟨q, hq, hw, rfl, HJ⟩ := hrel
      subst hw
      by_cases hlt : q < t.size
      · have iq : (q : Int) < (t.size : Int) := by omega
        have hbq := byteAt_eq t q hlt
        have K := isDigit_calls wr ((t[q]'hlt).toNat : Int)
        cases hn : digitB (byteAt t q)
        · have HR := hid (HRn.out q hq HJ.out (Or.inr hn))
          rw [← hbq, hn, hbq] at K
          have HK := hid K
          have iqs : (q : Int) ≤ (t.size : Int) := by omega
          clear K HRn HJ hn hbq
          go_wp2_with (first | (go_at_call 93; refine HK.out.mono ?_; rintro e w' ⟨rfl, hw'⟩; subst w') | fail)
          go_ret
          exact ⟨by rw [HR.out]; rfl, rfl⟩
        · have HN : Hid (∀ i, i < q + 1 → digitB (byteAt t i) = true) := hid fun i hi => by
            by_cases e : i = q
            · rw [e]; exact hn
            · exact HJ.out i (by omega)
          rw [← hbq, hn, hbq] at K
          have HK := hid K
          clear K HRn HJ hn hbq
          go_wp2_with (first | (go_at_call 93; refine HK.out.mono ?_; rintro e w' ⟨rfl, hw'⟩; subst w') | fail)
          go_roundw
          case rel => exact ⟨q + 1, by omega, (by first | rfl | trivial), by go_num, HN⟩
          case measure => simp [intOf]; omega
      · have iq : ¬ ((q : Int) < (t.size : Int)) := by omega
        have HR := hid (HRn.out q hq HJ.out (Or.inl (by omega)))
        have iqs : (q : Int) ≤ (t.size : Int) := by omega
        clear HRn HJ
        go_wp2_with fail
        go_ret
        exact ⟨by rw [HR.out]; rfl, rfl⟩

/-- how wordToken ends -/
def WtE (w : World) (s : ByteArray) (e : Ending) (w' : World) : Prop := ∃ k nm v, (wdG s = true → k = kdT (wtK s) ∧ nm = wdN s ∧ v = wtV s) ∧ e = .returned (.tuple #[.agg #[.string k, .string nm, .int .i64 ((v : Nat) : Int), .int .i64 0], .bool (wdG s)]) ∧ Below w.heap.size w w'

set_option maxHeartbeats 4000000 in
set_option maxRecDepth 1000000 in
theorem wordToken_calls (w : World) (s : ByteArray) (hs : s.size ≤ 1099511627) : Calls Tryz.prog 79 #[.string s] w (WtE w s) := by
  obtain ⟨W1, hW1⟩ : ∃ W, W = w.alloc (.cells #[.string ⟨#[]⟩, .string ⟨#[]⟩, .int .i64 0, .int .i64 0] 156) := ⟨_, rfl⟩
  have hb1 : Below w.heap.size w W1 := by rw [hW1]; exact (Below.refl _ _).alloc (Nat.le_refl _) _
  have hbl : W1.heap[w.heap.size]? = some (.cells #[.string ⟨#[]⟩, .string ⟨#[]⟩, .int .i64 0, .int .i64 0] 156 (0, 0)) := by rw [hW1]; exact heap_alloc_new _ _
  have hs1 : w.heap.size < W1.heap.size := by rw [hW1]; simp
  have KN := hid (isName_calls W1 s (by omega))
  generalize hE : WtE w s = E
  have HFin : Hid (∀ (W : World) (k nm : ByteArray) (v : Nat), W.heap[w.heap.size]? = some (.cells #[.string ⟨#[]⟩, .string ⟨#[]⟩, .int .i64 0, .int .i64 0] 156 (0, 0)) → Below w.heap.size w W → (wdG s = true → k = kdT (wtK s) ∧ nm = wdN s ∧ v = wtV s) → ∃ WF, WF = (((W.setCell ⟨w.heap.size, 0, none⟩ (.string k)).setCell ⟨w.heap.size, 1, none⟩ (.string nm)).setCell ⟨w.heap.size, 2, none⟩ (.int .i64 (v : Int))).setCell ⟨w.heap.size, 3, none⟩ (.int .i64 0) ∧ WF.heap[w.heap.size]? = some (.cells #[.string k, .string nm, .int .i64 (v : Int), .int .i64 0] 156 (0, 0)) ∧ E (.returned (.tuple #[.agg #[.string k, .string nm, .int .i64 (v : Int), .int .i64 0], .bool (wdG s)])) WF ∧ W.cell? ⟨w.heap.size, 0, none⟩ = some (.string ⟨#[]⟩) ∧ W.cell? ⟨w.heap.size, 1, none⟩ = some (.string ⟨#[]⟩) ∧ W.cell? ⟨w.heap.size, 2, none⟩ = some (.int .i64 0) ∧ W.cell? ⟨w.heap.size, 3, none⟩ = some (.int .i64 0) ∧ W.frozen? ⟨w.heap.size, 0, none⟩ = false ∧ W.frozen? ⟨w.heap.size, 1, none⟩ = false ∧ W.frozen? ⟨w.heap.size, 2, none⟩ = false ∧ W.frozen? ⟨w.heap.size, 3, none⟩ = false) := hid fun W k nm v hW hb hv => by
    have fr : ∀ q, W.frozen? ⟨w.heap.size, q, none⟩ = false := fun q => by unfold World.frozen?; rw [hW]; simp
    exact ⟨_, rfl, q4T hW, by rw [← hE]; exact ⟨k, nm, v, hv, rfl, (((hb.setCell (Nat.le_refl _) _).setCell (Nat.le_refl _) _).setCell (Nat.le_refl _) _).setCell (Nat.le_refl _) _⟩, cell_of_row _ _ _ _ _ _ hW, cell_of_row _ _ _ _ _ _ hW, cell_of_row _ _ _ _ _ _ hW, cell_of_row _ _ _ _ _ _ hW, fr 0, fr 1, fr 2, fr 3⟩
  clear hE
  cases hnm : nameB s
  case true =>
    rw [hnm] at KN
    have KC := hid (clone_calls s W1 (by omega))
    have hg : wdG s = true := by unfold wdG; rw [hnm]; rfl
    have HV : Hid (kdT 97 = kdT (wtK s) ∧ s = wdN s ∧ 0 = wtV s) := hid (by unfold wtK wdN wtV; rw [hnm]; exact ⟨rfl, rfl, rfl⟩)
    have HBL := hid hbl
    have HB1 := hid hb1
    rw [hg] at HFin
    clear hg hnm hbl hb1
    go_enter Tryz.func79, Tryz.ntmps79
    go_upto_region 1 with fail
    rw [← hW1]
    clear hW1
    go_upto_region 2 with (first | (go_at_call 54; refine KN.out.mono ?_; rintro e w' ⟨rfl, hw'⟩; subst w') | fail)
    clear KN
    go_cut [3] from 4 (fun x wx => x = .bool true ∧ Hid (wx.heap[w.heap.size]? = some (.cells #[.string ⟨#[97]⟩, .string s, .int .i64 0, .int .i64 0] 156 (0, 0)) ∧ E (.returned (.tuple #[.agg #[.string ⟨#[97]⟩, .string s, .int .i64 0, .int .i64 0], .bool true])) wx))
    case first =>
      go_wp2_with fail
      refine KC.out.mono ?_
      rintro e w2 ⟨rfl, hb2⟩
      obtain ⟨WF, hWF, hq, hEF, r0, r1, r2, r3, f0, f1, f2, f3⟩ := HFin.out w2 ⟨#[97]⟩ s 0 ((hb2.block w.heap.size hs1).trans HBL.out) (HB1.out.trans (hb2.mono (by omega))) (fun _ => HV.out)
      have HR : Hid (WF.heap[w.heap.size]? = some (.cells #[.string ⟨#[97]⟩, .string s, .int .i64 0, .int .i64 0] 156 (0, 0)) ∧ E (.returned (.tuple #[.agg #[.string ⟨#[97]⟩, .string s, .int .i64 0, .int .i64 0], .bool true])) WF) := hid ⟨hq, hEF⟩
      have HWF : Hid (WF = (((w2.setCell ⟨w.heap.size, 0, none⟩ (.string ⟨#[97]⟩)).setCell ⟨w.heap.size, 1, none⟩ (.string s)).setCell ⟨w.heap.size, 2, none⟩ (.int .i64 0)).setCell ⟨w.heap.size, 3, none⟩ (.int .i64 0)) := hid hWF
      clear hWF hq hEF hb2 KC HFin HV
      go_wp2_with fail
      go_meet
      exact ⟨rfl, by rw [← HWF.out]; exact HR⟩
    case rest =>
      obtain ⟨rfl, HH⟩ := hcut
      have hq := HH.out.1
      have HE := hid HH.out.2
      have q0 : wc.cell? ⟨w.heap.size, 0, none⟩ = some (.string ⟨#[97]⟩) := cell_of_row _ _ _ _ _ _ hq
      have q1 : wc.cell? ⟨w.heap.size, 1, none⟩ = some (.string s) := cell_of_row _ _ _ _ _ _ hq
      have q2 : wc.cell? ⟨w.heap.size, 2, none⟩ = some (.int .i64 0) := cell_of_row _ _ _ _ _ _ hq
      have q3 : wc.cell? ⟨w.heap.size, 3, none⟩ = some (.int .i64 0) := cell_of_row _ _ _ _ _ _ hq
      clear HH hq
      rename_i KK1 hKK1
      refine hKK1 _ _ ?_
      refine wp_ret ?_
      refine bodyPost_ret (v := .tuple #[.agg #[.string ⟨#[97]⟩, .string s, .int .i64 0, .int .i64 0], .bool true]) (by simp [results, Tryz.results79, go_sem, q0, q1, q2, q3]) rfl ?_
      exact HE.out
  case false =>
    rw [hnm] at KN
    have KT := hid (trimLeft_calls s W1)
    have HBL := hid hbl
    have HB1 := hid hb1
    by_cases h0 : (trmB s).size = 0
    · have et : trmB s = ⟨#[]⟩ := by
        generalize trmB s = t at h0
        obtain ⟨⟨l⟩⟩ := t
        simp [ByteArray.size] at h0
        simp [h0]
      have hg : wdG s = decide (s.size ≠ 0) := by unfold wdG; rw [hnm, if_neg (by decide), if_pos h0]
      have HV : Hid (kdT 48 = kdT (wtK s) ∧ ⟨#[]⟩ = wdN s ∧ 0 = wtV s) := hid (by unfold wtK wdN wtV; rw [hnm, if_pos h0]; exact ⟨rfl, rfl, rfl⟩)
      rw [et] at KT
      have hbe : (!s.toList.isEmpty) = wdG s := by
        rw [hg]
        by_cases hz : s.size = 0
        · have : s = ⟨#[]⟩ := by
            obtain ⟨⟨l⟩⟩ := s
            simp [ByteArray.size] at hz
            simp [hz]
          subst this
          simp only [ByteArray.toList_eq]; rfl
        · rw [not_empty hz, decide_eq_true hz]; rfl
      clear hg hnm hbl hb1 et h0
      generalize wdG s = gb at *
      go_enter Tryz.func79, Tryz.ntmps79
      go_upto_region 1 with fail
      rw [← hW1]
      clear hW1
      go_upto_region 5 with (first | (go_at_call 54; refine KN.out.mono ?_; rintro e w' ⟨rfl, hw'⟩; subst w') | (go_at_call 106; refine KT.out.mono ?_; rintro e w' ⟨rfl, hw'⟩; subst w') | fail)
      clear KN KT
      obtain ⟨WF, hWF, hq, hEF, r0, r1, r2, r3, f0, f1, f2, f3⟩ := HFin.out W1 ⟨#[48]⟩ ⟨#[]⟩ 0 HBL.out HB1.out (fun _ => HV.out)
      have HR : Hid (WF.heap[w.heap.size]? = some (.cells #[.string ⟨#[48]⟩, .string ⟨#[]⟩, .int .i64 0, .int .i64 0] 156 (0, 0)) ∧ E (.returned (.tuple #[.agg #[.string ⟨#[48]⟩, .string ⟨#[]⟩, .int .i64 0, .int .i64 0], .bool gb])) WF) := hid ⟨hq, hEF⟩
      have HWF : Hid (WF = (((W1.setCell ⟨w.heap.size, 0, none⟩ (.string ⟨#[48]⟩)).setCell ⟨w.heap.size, 1, none⟩ (.string ⟨#[]⟩)).setCell ⟨w.heap.size, 2, none⟩ (.int .i64 0)).setCell ⟨w.heap.size, 3, none⟩ (.int .i64 0)) := hid hWF
      clear hWF hq hEF HFin HV
      go_cut [3] from 4 (fun x wx => x = .bool gb ∧ Hid (wx.heap[w.heap.size]? = some (.cells #[.string ⟨#[48]⟩, .string ⟨#[]⟩, .int .i64 0, .int .i64 0] 156 (0, 0)) ∧ E (.returned (.tuple #[.agg #[.string ⟨#[48]⟩, .string ⟨#[]⟩, .int .i64 0, .int .i64 0], .bool gb])) wx))
      case first =>
        go_wp2_with fail
        go_meet
        exact ⟨by first | rfl | (rw [hbe]) | (simp [hbe]), by rw [← HWF.out]; exact HR⟩
      case rest =>
        obtain ⟨rfl, HH⟩ := hcut
        have hq := HH.out.1
        have HE := hid HH.out.2
        have q0 : wc.cell? ⟨w.heap.size, 0, none⟩ = some (.string ⟨#[48]⟩) := cell_of_row _ _ _ _ _ _ hq
        have q1 : wc.cell? ⟨w.heap.size, 1, none⟩ = some (.string ⟨#[]⟩) := cell_of_row _ _ _ _ _ _ hq
        have q2 : wc.cell? ⟨w.heap.size, 2, none⟩ = some (.int .i64 0) := cell_of_row _ _ _ _ _ _ hq
        have q3 : wc.cell? ⟨w.heap.size, 3, none⟩ = some (.int .i64 0) := cell_of_row _ _ _ _ _ _ hq
        clear HH hq
        rename_i KK1 hKK1
        refine hKK1 _ _ ?_
        refine wp_ret ?_
        refine bodyPost_ret (v := .tuple #[.agg #[.string ⟨#[48]⟩, .string ⟨#[]⟩, .int .i64 0, .int .i64 0], .bool gb]) (by simp [results, Tryz.results79, go_sem, q0, q1, q2, q3]) rfl ?_
        exact HE.out
    · have hne := not_empty h0
      have hg : wdG s = numG (trmB s) 1000000 := by unfold wdG; rw [hnm, if_neg (by decide), if_neg h0]
      have HV : Hid (kdT 48 = kdT (wtK s) ∧ ⟨#[]⟩ = wdN s ∧ numN (trmB s) 1000000 = wtV s) := hid (by unfold wtK wdN wtV; rw [hnm, if_neg (by decide), if_neg (by decide), if_neg (by decide), if_neg h0]; exact ⟨rfl, rfl, rfl⟩)
      have htl : (trmB s).size ≤ s.size := by
        have h1 := (List.dropWhile_sublist (l := s.data.toList) (fun b => b == 48)).length_le
        have h2 : (trmB s).size = (trm0 s.data.toList).length := by rw [← trmB_list]; simp
        rw [h2]
        have h3 : s.data.toList.length = s.size := by simp
        unfold trm0
        omega
      have KM := hid (readNumber_calls W1 (trmB s) 1000000 (by omega) (by omega))
      rw [hg] at HFin
      clear hg hnm hbl hb1 h0
      generalize trmB s = t at *
      generalize numN t 1000000 = nv at *
      generalize numG t 1000000 = gb at *
      go_enter Tryz.func79, Tryz.ntmps79
      go_upto_region 1 with fail
      rw [← hW1]
      clear hW1
      go_upto_region 7 with (first | (go_at_call 54; refine KN.out.mono ?_; rintro e w' ⟨rfl, hw'⟩; subst w') | (go_at_call 106; refine KT.out.mono ?_; rintro e w' ⟨rfl, hw'⟩; subst w') | (go_at_call 63; refine KM.out.mono ?_; rintro e w' ⟨rfl, hw'⟩; subst w') | fail)
      clear KN KT KM
      obtain ⟨WF, hWF, hq, hEF, r0, r1, r2, r3, f0, f1, f2, f3⟩ := HFin.out W1 ⟨#[48]⟩ ⟨#[]⟩ nv HBL.out HB1.out (fun _ => HV.out)
      have HR : Hid (WF.heap[w.heap.size]? = some (.cells #[.string ⟨#[48]⟩, .string ⟨#[]⟩, .int .i64 (nv : Int), .int .i64 0] 156 (0, 0)) ∧ E (.returned (.tuple #[.agg #[.string ⟨#[48]⟩, .string ⟨#[]⟩, .int .i64 (nv : Int), .int .i64 0], .bool gb])) WF) := hid ⟨hq, hEF⟩
      have HWF : Hid (WF = (((W1.setCell ⟨w.heap.size, 0, none⟩ (.string ⟨#[48]⟩)).setCell ⟨w.heap.size, 1, none⟩ (.string ⟨#[]⟩)).setCell ⟨w.heap.size, 2, none⟩ (.int .i64 (nv : Int))).setCell ⟨w.heap.size, 3, none⟩ (.int .i64 0)) := hid hWF
      clear hWF hq hEF HFin HV
      go_cut [3] from 4 (fun x wx => x = .bool gb ∧ Hid (wx.heap[w.heap.size]? = some (.cells #[.string ⟨#[48]⟩, .string ⟨#[]⟩, .int .i64 (nv : Int), .int .i64 0] 156 (0, 0)) ∧ E (.returned (.tuple #[.agg #[.string ⟨#[48]⟩, .string ⟨#[]⟩, .int .i64 (nv : Int), .int .i64 0], .bool gb])) wx))
      case first =>
        go_wp2_with fail
        go_meet
        exact ⟨rfl, by rw [← HWF.out]; exact HR⟩
      case rest =>
        obtain ⟨rfl, HH⟩ := hcut
        have hq := HH.out.1
        have HE := hid HH.out.2
        have q0 : wc.cell? ⟨w.heap.size, 0, none⟩ = some (.string ⟨#[48]⟩) := cell_of_row _ _ _ _ _ _ hq
        have q1 : wc.cell? ⟨w.heap.size, 1, none⟩ = some (.string ⟨#[]⟩) := cell_of_row _ _ _ _ _ _ hq
        have q2 : wc.cell? ⟨w.heap.size, 2, none⟩ = some (.int .i64 (nv : Int)) := cell_of_row _ _ _ _ _ _ hq
        have q3 : wc.cell? ⟨w.heap.size, 3, none⟩ = some (.int .i64 0) := cell_of_row _ _ _ _ _ _ hq
        clear HH hq
        rename_i KK1 hKK1
        refine hKK1 _ _ ?_
        refine wp_ret ?_
        refine bodyPost_ret (v := .tuple #[.agg #[.string ⟨#[48]⟩, .string ⟨#[]⟩, .int .i64 (nv : Int), .int .i64 0], .bool gb]) (by simp [results, Tryz.results79, go_sem, q0, q1, q2, q3]) rfl ?_
        exact HE.out

end Go.Proofs.YtcdfoephhjacdaaGreatDoor
