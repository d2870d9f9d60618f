import Derived.Deep.AppendLies
import Derived.Deep.CutBlock
import Derived.Deep.CutRange
import Derived.Laws.Tables
import Derived.Lib.BufferWrite
import Derived.Lib.Bytealg
import Derived.Lib.UnsafeStr
import Derived.Test.YtkponghbekpocaaGreatDoorRg17
import Derived.Test.YtkponghbekpocaaGreatDoorRg19
import Derived.Test.YtkponghbekpocaaGreatDoorRg20
import Derived.Test.YtkponghbekpocaaGreatDoorRg24
/-
  strings.Clone: the same text.
-/
namespace Go.Proofs.YtkponghbekpocaaGreatDoor
open Go.RowKit

theorem Tryz.cellsU8 : Tryz.prog.cellsOf 5 = 1 := by kernel_rfl
theorem Tryz.sizeU8 : (Tryz.prog.info? 5).map (·.size) = some 1 := by kernel_rfl

/-- the row that a text is copied into, and what it holds then -/
theorem copied_row (w : World) (s : ByteArray) : ∃ Y : Array Value,
    (Builtin.copy_ #[22, 9] 3 #[.slice (some ⟨w.heap.size, 0, none⟩) s.size s.size, .string s]).run Tryz.prog (w.alloc (.cells (madeCells #[.int .u8 0] s.size) 5)) = .ok (goInt s.size) ((w.alloc (.cells (madeCells #[.int .u8 0] s.size) 5)).setRow w.heap.size Y) ∧
    Y.size = s.size ∧ Y.toList = Lib.byteCells s.data.toList ∧ ((w.alloc (.cells (madeCells #[.int .u8 0] s.size) 5)).setRow w.heap.size Y).heap[w.heap.size]? = some (.cells Y 5 (0, 0)) := by
  have hl : (madeCells #[Value.int .u8 0] s.size).size = s.size := by rw [size_madeCells]
  refine ⟨_, Lib.run_copy_row_string (P := Tryz.prog) _ 22 9 3 5 w.heap.size 0 s.size s.size s _ 5 Tryz.underlying22 Tryz.sizeU8 (heap_alloc_new w _) (Nat.le_refl _) (by omega), ?_, ?_, setRow_heap _ _ _ _ 5 (0, 0) (heap_alloc_new w _)⟩
  · simp [Lib.byteCells_length, hl]
  · simp [hl]

set_option maxHeartbeats 4000000 in
set_option maxRecDepth 100000 in
theorem sliteClone_calls (s : ByteArray) (w : World) (hs : s.size ≤ 281474976710656) :
    Calls Tryz.prog 92 #[.string s] w fun e w' => e = .returned (.string s) ∧ Below w.heap.size w w' := by
  by_cases h0 : s.size = 0
  · obtain rfl : s = ⟨#[]⟩ := ByteArray.ext (Array.eq_empty_of_size_eq_zero h0)
    go_enter Tryz.func92, Tryz.ntmps92
    go_wp2
    go_ret
    exact ⟨rfl, Below.refl _ _⟩
  · have i0 : ¬ ((s.size : Int) = 0) := by omega
    have i1 : (0 : Int) < (s.size : Int) := by omega
    have hmk := run_make_row' (P := Tryz.prog) 22 5 (.int .u8 0) 1 Tryz.underlying22 (by kernel_rfl) rfl .i64 .i64 s.size (by omega) (by omega)
    obtain ⟨Y, hcp, hYs, hYl, hgY⟩ := copied_row w s
    have hne : s.data.toList ≠ [] := fun e => h0 (by rw [Lib.size_eq, e]; rfl)
    have hus := Lib.run_unsafeString_row (P := Tryz.prog) ((w.alloc (.cells (madeCells #[.int .u8 0] s.size) 5)).setRow w.heap.size Y) 104 3 9 5 Tryz.underlying104 Tryz.cellsU8 w.heap.size Y.size (by unfold World.shape?; rw [hgY]) s.data.toList hne (by rw [← Lib.size_eq]; omega) (by rw [← Lib.size_eq]; omega)
      (fun j x hx => Lib.cells_of_row hgY Y.size j _ (by rw [List.take_of_length_le (by rw [Array.length_toList]; exact Nat.le_refl _), hYl]; simp [Lib.byteCells, hx]))
    rw [← Lib.size_eq] at hus
    have hb1 : Below w.heap.size w (w.alloc (.cells (madeCells #[.int .u8 0] s.size) 5)) := (Below.refl _ w).alloc (Nat.le_refl _) _
    have hb2 : Below w.heap.size (w.alloc (.cells (madeCells #[.int .u8 0] s.size) 5)) ((w.alloc (.cells (madeCells #[.int .u8 0] s.size) 5)).setRow w.heap.size Y) := ⟨rfl, rfl, rfl, by simp, fun k hk => setRow_other _ _ _ _ (by omega)⟩
    have HB := hid (Lib.below_freeze (hb1.trans hb2) (p := ⟨w.heap.size, 0, none⟩) (Nat.le_refl _) s.size)
    clear hb1 hb2
    clear hYs hYl hgY
    go_enter Tryz.func92, Tryz.ntmps92
    go_wp2
    go_ret
    exact ⟨rfl, HB.out⟩

theorem clone_calls (s : ByteArray) (w : World) (hs : s.size ≤ 281474976710656) :
    Calls Tryz.prog 62 #[.string s] w fun e w' => e = .returned (.string s) ∧ Below w.heap.size w w' := by
  have K := hid (sliteClone_calls s w hs)
  go_enter Tryz.func62, Tryz.ntmps62
  go_wp2_with (first | (go_at_call 92; refine K.out.mono ?_; rintro e w' ⟨rfl, hb⟩) | fail)
  go_ret
  exact ⟨rfl, hb⟩

end Go.Proofs.YtkponghbekpocaaGreatDoor

/-
  The program's words: separators, prefixes, zeros, wordAt.
-/
namespace Go.Proofs.YtkponghbekpocaaGreatDoor
open Go.RowKit

set_option maxHeartbeats 2000000 in
set_option maxRecDepth 1000000 in
theorem sliteIx_calls (s : ByteArray) (c : Int) (w : World) :
    Calls Tryz.prog 104 #[.string s, .int .u8 c] w fun e w' => e = .returned (.int .i64 (Lib.indexByte s.data.toList c.toNat.toUInt8)) ∧ w' = w := by
  go_enter Tryz.func104, Tryz.ntmps104
  go_wp2
  rw [run_callFunc_extern Tryz.func126 (by kernel_rfl) (by kernel_rfl) (by kernel_rfl) (e := Extern.BytealgIndexByte.indexByte) (by kernel_rfl), Lib.run_indexByteString]
  simp only [Result.andThen]
  rw [Oper.upon_value]
  go_wp2
  go_ret
  exact ⟨rfl, rfl⟩
theorem indexByte_calls (s : ByteArray) (c : Int) (w : World) :
    Calls Tryz.prog 76 #[.string s, .int .u8 c] w fun e w' => e = .returned (.int .i64 (Lib.indexByte s.data.toList c.toNat.toUInt8)) ∧ w' = w := by
  have K := hid (sliteIx_calls s c w)
  go_enter Tryz.func76, Tryz.ntmps76
  go_wp2_with (first | (go_at_call 104; refine K.out.mono ?_; rintro e w' ⟨rfl, hw'⟩; subst w') | fail)
  go_ret
  exact ⟨rfl, rfl⟩
set_option maxRecDepth 100000 in
theorem sep_ix (b : UInt8) : (0 ≤ Lib.indexByte [9, 10, 13, 32] b) ↔ sepB (b.toNat : Int) = true := by
  have h : ∀ n : Fin 256, (decide (0 ≤ Lib.indexByte [9, 10, 13, 32] (UInt8.ofNat n.val)) = sepB ((UInt8.ofNat n.val).toNat : Int)) := by decide
  have hb := h ⟨b.toNat, b.toNat_lt⟩
  simp only [UInt8.ofNat_toNat] at hb
  rw [← hb, decide_eq_true_iff]

set_option maxHeartbeats 2000000 in
set_option maxRecDepth 1000000 in
theorem slitePre_calls (s t : ByteArray) (w : World) :
    Calls Tryz.prog 105 #[.string s, .string t] w fun e w' => e = .returned (.bool (decide (t.size ≤ s.size) && ((s.extract 0 t.size).toList == t.toList))) ∧ w' = w := by
  by_cases h : t.size ≤ s.size
  · have i1 : (t.size : Int) ≤ (s.size : Int) := by omega
    rw [decide_eq_true h, Bool.true_and]
    go_enter Tryz.func105, Tryz.ntmps105
    go_wp2
    go_ret
    exact ⟨by first | rfl | simp, rfl⟩
  · have i1 : ¬ ((t.size : Int) ≤ (s.size : Int)) := by omega
    rw [decide_eq_false h, Bool.false_and]
    go_enter Tryz.func105, Tryz.ntmps105
    go_wp2
    go_ret
    exact ⟨rfl, rfl⟩
theorem hasPre_calls (s t : ByteArray) (w : World) :
    Calls Tryz.prog 77 #[.string s, .string t] w fun e w' => e = .returned (.bool (decide (t.size ≤ s.size) && ((s.extract 0 t.size).toList == t.toList))) ∧ w' = w := by
  have K := hid (slitePre_calls s t w)
  generalize (decide (t.size ≤ s.size) && ((s.extract 0 t.size).toList == t.toList)) = b at *
  go_enter Tryz.func77, Tryz.ntmps77
  go_wp2_with (first | (go_at_call 105; refine K.out.mono ?_; rintro e w' ⟨rfl, hw'⟩; subst w') | fail)
  go_ret
  exact ⟨rfl, rfl⟩

/-- behind the first i bytes -/
def frm (s : ByteArray) (i : Nat) : ByteArray := s.extract i s.size
theorem frm_size (s : ByteArray) (i : Nat) : (frm s i).size = s.size - i := by unfold frm; rw [ByteArray.size_extract]; omega
theorem frm_list (s : ByteArray) (i : Nat) : (frm s i).data.toList = s.data.toList.drop i := by
  unfold frm
  rw [ByteArray.data_extract, Array.toList_extract, List.extract_eq_take_drop]
  exact List.take_of_length_le (by simp)
theorem frm_next (s : ByteArray) (i : Nat) : (frm s i).extract 1 (frm s i).size = frm s (i + 1) := by
  have : ((frm s i).extract 1 (frm s i).size).data.toList = (frm s (i + 1)).data.toList := by
    rw [ByteArray.data_extract, Array.toList_extract, List.extract_eq_take_drop, frm_list, frm_list, List.drop_drop]
    exact List.take_of_length_le (by rw [frm_size]; simp; omega)
  exact ByteArray.ext (Array.toList_inj.1 this)
theorem frm_zero (s : ByteArray) : frm s 0 = s := by
  have : (frm s 0).data.toList = s.data.toList := by rw [frm_list, List.drop_zero]
  exact ByteArray.ext (Array.toList_inj.1 this)
theorem frm_byte {s : ByteArray} {i : Nat} (h : 0 < (frm s i).size) : ((frm s i)[0]'h).toNat = (s.data.toList.getD i 0).toNat := by
  have e := byteAt_eq (frm s i) 0 h
  unfold byteAt at e
  rw [frm_list] at e
  have hl : i < s.data.toList.length := by rw [frm_size] at h; simp; omega
  rw [List.getD_eq_getElem?_getD, List.getElem?_drop, Nat.add_zero] at e
  rw [List.getD_eq_getElem?_getD]
  omega
theorem trm_drop : ∀ (l : List UInt8), ∃ i, i ≤ l.length ∧ (∀ j, j < i → l.getD j 0 = 48) ∧ trm0 l = l.drop i ∧ (i < l.length → l.getD i 0 ≠ 48)
  | [] => ⟨0, Nat.le_refl _, fun j hj => by omega, rfl, fun h => by simp at h⟩
  | b :: l => by
    by_cases h : (b == 48) = true
    · obtain ⟨i, h1, h2, h3, h4⟩ := trm_drop l
      refine ⟨i + 1, by simpa using h1, fun j hj => ?_, ?_, fun hi => ?_⟩
      · cases j with
        | zero => simpa using h
        | succ j => simpa using h2 j (by omega)
      · unfold trm0; rw [List.dropWhile_cons, if_pos h]; exact h3
      · simpa using h4 (by simpa using hi)
    · exact ⟨0, Nat.zero_le _, fun j hj => by omega, by unfold trm0; rw [List.dropWhile_cons, if_neg h]; rfl, fun _ => by simpa using h⟩

set_option maxHeartbeats 4000000 in
set_option maxRecDepth 1000000 in
theorem trimByte_calls (s : ByteArray) (w : World) :
    Calls Tryz.prog 127 #[.string s, .int .u8 48] w fun e w' => e = .returned (.string (trmB s)) ∧ w' = w := by
  obtain ⟨n, hn, hz, ht, hne⟩ := trm_drop s.data.toList
  have hl : s.data.toList.length = s.size := by simp
  have et : trmB s = frm s n := ByteArray.ext (Array.toList_inj.1 (by rw [trmB_list, frm_list, ht]))
  rw [et]
  have HZ := hid hz
  have HNE := hid hne
  have HX0 : Hid (s = frm s 0) := hid (frm_zero s).symm
  have hn' : n ≤ s.size := by omega
  clear hz hne ht et hl hn
  go_enter Tryz.func127, Tryz.ntmps127
  go_wp2
  go_loopw [0] (fun x wr => ∃ i : Nat, i ≤ n ∧ wr = w ∧ ∃ t : ByteArray, x = .string t ∧ Hid (t = frm s i)) (fun x _ => match x with | .string t => t.size | _ => 0)
  case atStart => exact ⟨0, Nat.zero_le _, rfl, s, rfl, HX0⟩
  case round =>
    clear HX0
    obtain ⟨i, hi, hw, t, rfl, HT⟩ := hrel
    subst hw
    have hts : t.size = s.size - i := by rw [HT.out, frm_size]
    by_cases hin : i < n
    · have hp : 0 < t.size := by omega
      have ip : (0 : Int) < (t.size : Int) := by omega
      have hb : (((t[0]'hp).toNat : Int) == 48) = true := by
        have e : (t[0]'hp).toNat = 48 := by
          have hp' : 0 < (frm s i).size := by rw [← HT.out]; exact hp
          have h1 := frm_byte hp'
          rw [HZ.out i hin] at h1
          have : (t[0]'hp).toNat = ((frm s i)[0]'hp').toNat := by congr 1; simp only [HT.out]
          rw [this, h1]; rfl
        rw [e]; rfl
      have HN : Hid (t.extract 1 t.size = frm s (i + 1)) := hid (by rw [HT.out]; exact frm_next s i)
      have i1 : (1 : Int) ≤ (t.size : Int) := by omega
      clear hts HT
      go_wp2
      go_roundw
      case rel => exact ⟨i + 1, by omega, (by first | rfl | trivial), _, rfl, HN⟩
      case measure => simp; omega
    · obtain rfl : i = n := by omega
      have HE := hid HT.out
      by_cases hp : 0 < t.size
      · have ip : (0 : Int) < (t.size : Int) := by omega
        have hb : (((t[0]'hp).toNat : Int) == 48) = false := by
          have e : (t[0]'hp).toNat ≠ 48 := by
            have hp' : 0 < (frm s i).size := by rw [← HT.out]; exact hp
            have h1 := frm_byte hp'
            have h2 := HNE.out (by simp; omega)
            have : (t[0]'hp).toNat = ((frm s i)[0]'hp').toNat := by congr 1; simp only [HT.out]
            rw [this, h1]
            intro e
            exact h2 (UInt8.toNat_inj.1 e)
          simp; omega
        clear hts HT
        go_wp2
        go_ret
        exact ⟨congrArg (fun z => Ending.returned (Value.string z)) HE.out, rfl⟩
      · have ip : ¬ ((0 : Int) < (t.size : Int)) := by omega
        clear hts HT
        go_wp2
        go_ret
        exact ⟨congrArg (fun z => Ending.returned (Value.string z)) HE.out, rfl⟩

set_option maxHeartbeats 2000000 in
set_option maxRecDepth 1000000 in
theorem trimLeft_calls (s : ByteArray) (w : World) :
    Calls Tryz.prog 106 #[.string s, .string ⟨#[48]⟩] w fun e w' => e = .returned (.string (trmB s)) ∧ w' = w := by
  by_cases h0 : s.size = 0
  · have e1 : s = ⟨#[]⟩ := by
      obtain ⟨⟨l⟩⟩ := s
      simp [ByteArray.size] at h0
      simp [h0]
    subst e1
    go_enter Tryz.func106, Tryz.ntmps106
    go_wp2
    go_ret
    exact ⟨rfl, rfl⟩
  · have hne := not_empty h0
    have K := hid (trimByte_calls s w)
    generalize trmB s = t at *
    go_enter Tryz.func106, Tryz.ntmps106
    go_wp2_with (first | (go_at_call 127; refine K.out.mono ?_; rintro e w' ⟨rfl, hw'⟩; subst w') | fail)
    go_ret
    exact ⟨rfl, rfl⟩

end Go.Proofs.YtkponghbekpocaaGreatDoor

/-
  The program's words: wordAt, wordToken.
-/
namespace Go.Proofs.YtkponghbekpocaaGreatDoor
open Go.RowKit

theorem frm_at {s : ByteArray} {o i : Nat} : byteAt (frm s o) i = byteAt s (o + i) := by
  unfold byteAt
  rw [frm_list, List.getD_eq_getElem?_getD, List.getElem?_drop, List.getD_eq_getElem?_getD]
theorem frm_rn (p : Int → Bool) (s : ByteArray) (o : Nat) : rn p (frm s o) 0 = rn p s o := by
  unfold rn
  rw [frm_list, List.drop_drop, Nat.add_zero]
theorem frm_wln (s : ByteArray) (o : Nat) : wln (frm s o) 0 = wln s o := by
  unfold wln
  rw [frm_at, Nat.add_zero, frm_rn, frm_rn]
theorem frm_ext (s : ByteArray) (o n : Nat) : (frm s o).extract 0 n = s.extract o (o + n) := by
  have : ((frm s o).extract 0 n).data.toList = (s.extract o (o + n)).data.toList := by
    rw [ext_list]
    have h := ext_list (frm s o) 0 n
    rw [Nat.zero_add] at h
    rw [h]
    unfold stretch
    rw [frm_list, List.drop_drop, Nat.add_zero]
  exact ByteArray.ext (Array.toList_inj.1 this)

set_option maxHeartbeats 4000000 in
set_option maxRecDepth 1000000 in
theorem wordAt_calls (w : World) (t : ByteArray) (ht : 0 < t.size) (hs : t.size ≤ 1099511627776) :
    Calls Tryz.prog 78 #[.string t] w fun e w' => e = .returned (.string (t.extract 0 (wln t 0))) ∧ w' = w := by
  have hb0 := byteAt_eq t 0 ht
  have KD := isDigit_calls w ((t[0]'ht).toNat : Int)
  cases hd : digitB (byteAt t 0)
  · have ew : wln t 0 = rn nbyteB t 0 := by unfold wln; rw [hd]; rfl
    rw [ew]
    rw [← hb0, hd, hb0] at KD
    have HKD := hid KD
    have HRn : Hid (∀ q : Nat, q ≤ t.size → (∀ i, i < q → nbyteB (byteAt t i) = true) → (q = t.size ∨ nbyteB (byteAt t q) = false) → rn nbyteB t 0 = q) := hid fun q h1 h2 h3 => rn_eq (fun i hi => by rw [Nat.zero_add]; exact h2 i hi) (by omega) (by rw [Nat.zero_add]; exact h3)
    clear KD ew hb0 hd
    generalize rn nbyteB t 0 = n at *
    go_enter Tryz.func78, Tryz.ntmps78
    go_wp2_with (first | (go_at_call 93; refine HKD.out.mono ?_; rintro e w' ⟨rfl, hw'⟩; subst w') | fail)
    go_loopw [4] (fun x wr => ∃ q : Nat, q ≤ t.size ∧ wr = w ∧ x = .int .i64 (q : Int) ∧ Hid (∀ i, i < q → nbyteB (byteAt t i) = true)) (fun x _ => t.size - (intOf x).toNat)
    case atStart => exact ⟨0, Nat.zero_le _, rfl, rfl, hid fun i hi => by omega⟩
    case round =>
      clear HKD
      obtain ⟨q, hq, hw, rfl, HJ⟩ := hrel
      subst hw
      by_cases hlt : q < t.size
      · have iq : (q : Int) < (t.size : Int) := by omega
        have hbq := byteAt_eq t q hlt
        have K := isNameByte_calls wr ((t[q]'hlt).toNat : Int)
        cases hn : nbyteB (byteAt t q)
        · have HR := hid (HRn.out q hq HJ.out (Or.inr hn))
          rw [← hbq, hn, hbq] at K
          have HK := hid K
          have iqs : (q : Int) ≤ (t.size : Int) := by omega
          clear K HRn HJ hn hbq
          go_wp2_with (first | (go_at_call 85; refine HK.out.mono ?_; rintro e w' ⟨rfl, hw'⟩; subst w') | fail)
          go_ret
          exact ⟨by rw [HR.out]; rfl, rfl⟩
        · have HN : Hid (∀ i, i < q + 1 → nbyteB (byteAt t i) = true) := hid fun i hi => by
            by_cases e : i = q
            · rw [e]; exact hn
            · exact HJ.out i (by omega)
          rw [← hbq, hn, hbq] at K
          have HK := hid K
          clear K HRn HJ hn hbq
          go_wp2_with (first | (go_at_call 85; refine HK.out.mono ?_; rintro e w' ⟨rfl, hw'⟩; subst w') | fail)
          go_roundw
          case rel => exact ⟨q + 1, by omega, (by first | rfl | trivial), by go_num, HN⟩
          case measure => simp [intOf]; omega
      · have iq : ¬ ((q : Int) < (t.size : Int)) := by omega
        have HR := hid (HRn.out q hq HJ.out (Or.inl (by omega)))
        have iqs : (q : Int) ≤ (t.size : Int) := by omega
        clear HRn HJ
        go_wp2_with fail
        go_ret
        exact ⟨by rw [HR.out]; rfl, rfl⟩
  · have ew : wln t 0 = rn digitB t 0 := by unfold wln; rw [hd]; rfl
    rw [ew]
    rw [← hb0, hd, hb0] at KD
    have HKD := hid KD
    have HRn : Hid (∀ q : Nat, q ≤ t.size → (∀ i, i < q → digitB (byteAt t i) = true) → (q = t.size ∨ digitB (byteAt t q) = false) → rn digitB t 0 = q) := hid fun q h1 h2 h3 => rn_eq (fun i hi => by rw [Nat.zero_add]; exact h2 i hi) (by omega) (by rw [Nat.zero_add]; exact h3)
    clear KD ew hb0 hd
    generalize rn digitB t 0 = n at *
    go_enter Tryz.func78, Tryz.ntmps78
    go_wp2_with (first | (go_at_call 93; refine HKD.out.mono ?_; rintro e w' ⟨rfl, hw'⟩; subst w') | fail)
    go_loopw [4] (fun x wr => ∃ q : Nat, q ≤ t.size ∧ wr = w ∧ x = .int .i64 (q : Int) ∧ Hid (∀ i, i < q → digitB (byteAt t i) = true)) (fun x _ => t.size - (intOf x).toNat)
    case atStart => exact ⟨0, Nat.zero_le _, rfl, rfl, hid fun i hi => by omega⟩
    case round =>
      clear HKD
      obtain ⟨q, hq, hw, rfl, HJ⟩ := hrel
      subst hw
      by_cases hlt : q < t.size
      · have iq : (q : Int) < (t.size : Int) := by omega
        have hbq := byteAt_eq t q hlt
        have K := isDigit_calls wr ((t[q]'hlt).toNat : Int)
        cases hn : digitB (byteAt t q)
        · have HR := hid (HRn.out q hq HJ.out (Or.inr hn))
          rw [← hbq, hn, hbq] at K
          have HK := hid K
          have iqs : (q : Int) ≤ (t.size : Int) := by omega
          clear K HRn HJ hn hbq
          go_wp2_with (first | (go_at_call 93; refine HK.out.mono ?_; rintro e w' ⟨rfl, hw'⟩; subst w') | fail)
          go_ret
          exact ⟨by rw [HR.out]; rfl, rfl⟩
        · have HN : Hid (∀ i, i < q + 1 → digitB (byteAt t i) = true) := hid fun i hi => by
            by_cases e : i = q
            · rw [e]; exact hn
            · exact HJ.out i (by omega)
          rw [← hbq, hn, hbq] at K
          have HK := hid K
          clear K HRn HJ hn hbq
          go_wp2_with (first | (go_at_call 93; refine HK.out.mono ?_; rintro e w' ⟨rfl, hw'⟩; subst w') | fail)
          go_roundw
          case rel => exact ⟨q + 1, by omega, (by first | rfl | trivial), by go_num, HN⟩
          case measure => simp [intOf]; omega
      · have iq : ¬ ((q : Int) < (t.size : Int)) := by omega
        have HR := hid (HRn.out q hq HJ.out (Or.inl (by omega)))
        have iqs : (q : Int) ≤ (t.size : Int) := by omega
        clear HRn HJ
        go_wp2_with fail
        go_ret
        exact ⟨by rw [HR.out]; rfl, rfl⟩

/-- how wordToken ends -/
def WtE (w : World) (s : ByteArray) (e : Ending) (w' : World) : Prop := ∃ k nm v, (wdG s = true → k = kdT (wtK s) ∧ nm = wdN s ∧ v = wtV s) ∧ e = .returned (.tuple #[.agg #[.string k, .string nm, .int .i64 ((v : Nat) : Int), .int .i64 0], .bool (wdG s)]) ∧ Below w.heap.size w w'

set_option maxHeartbeats 4000000 in
set_option maxRecDepth 1000000 in
theorem wordToken_calls (w : World) (s : ByteArray) (hs : s.size ≤ 1099511627) : Calls Tryz.prog 79 #[.string s] w (WtE w s) := by
  obtain ⟨W1, hW1⟩ : ∃ W, W = w.alloc (.cells #[.string ⟨#[]⟩, .string ⟨#[]⟩, .int .i64 0, .int .i64 0] 156) := ⟨_, rfl⟩
  have hb1 : Below w.heap.size w W1 := by rw [hW1]; exact (Below.refl _ _).alloc (Nat.le_refl _) _
  have hbl : W1.heap[w.heap.size]? = some (.cells #[.string ⟨#[]⟩, .string ⟨#[]⟩, .int .i64 0, .int .i64 0] 156 (0, 0)) := by rw [hW1]; exact heap_alloc_new _ _
  have hs1 : w.heap.size < W1.heap.size := by rw [hW1]; simp
  have KN := hid (isName_calls W1 s (by omega))
  generalize hE : WtE w s = E
  have HFin : Hid (∀ (W : World) (k nm : ByteArray) (v : Nat), W.heap[w.heap.size]? = some (.cells #[.string ⟨#[]⟩, .string ⟨#[]⟩, .int .i64 0, .int .i64 0] 156 (0, 0)) → Below w.heap.size w W → (wdG s = true → k = kdT (wtK s) ∧ nm = wdN s ∧ v = wtV s) → ∃ WF, WF = (((W.setCell ⟨w.heap.size, 0, none⟩ (.string k)).setCell ⟨w.heap.size, 1, none⟩ (.string nm)).setCell ⟨w.heap.size, 2, none⟩ (.int .i64 (v : Int))).setCell ⟨w.heap.size, 3, none⟩ (.int .i64 0) ∧ WF.heap[w.heap.size]? = some (.cells #[.string k, .string nm, .int .i64 (v : Int), .int .i64 0] 156 (0, 0)) ∧ E (.returned (.tuple #[.agg #[.string k, .string nm, .int .i64 (v : Int), .int .i64 0], .bool (wdG s)])) WF ∧ W.cell? ⟨w.heap.size, 0, none⟩ = some (.string ⟨#[]⟩) ∧ W.cell? ⟨w.heap.size, 1, none⟩ = some (.string ⟨#[]⟩) ∧ W.cell? ⟨w.heap.size, 2, none⟩ = some (.int .i64 0) ∧ W.cell? ⟨w.heap.size, 3, none⟩ = some (.int .i64 0) ∧ W.frozen? ⟨w.heap.size, 0, none⟩ = false ∧ W.frozen? ⟨w.heap.size, 1, none⟩ = false ∧ W.frozen? ⟨w.heap.size, 2, none⟩ = false ∧ W.frozen? ⟨w.heap.size, 3, none⟩ = false) := hid fun W k nm v hW hb hv => by
    have fr : ∀ q, W.frozen? ⟨w.heap.size, q, none⟩ = false := fun q => by unfold World.frozen?; rw [hW]; simp
    exact ⟨_, rfl, q4T hW, by rw [← hE]; exact ⟨k, nm, v, hv, rfl, (((hb.setCell (Nat.le_refl _) _).setCell (Nat.le_refl _) _).setCell (Nat.le_refl _) _).setCell (Nat.le_refl _) _⟩, cell_of_row _ _ _ _ _ _ hW, cell_of_row _ _ _ _ _ _ hW, cell_of_row _ _ _ _ _ _ hW, cell_of_row _ _ _ _ _ _ hW, fr 0, fr 1, fr 2, fr 3⟩
  clear hE
  cases hnm : nameB s
  case true =>
    rw [hnm] at KN
    have KC := hid (clone_calls s W1 (by omega))
    have hg : wdG s = true := by unfold wdG; rw [hnm]; rfl
    have HV : Hid (kdT 97 = kdT (wtK s) ∧ s = wdN s ∧ 0 = wtV s) := hid (by unfold wtK wdN wtV; rw [hnm]; exact ⟨rfl, rfl, rfl⟩)
    have HBL := hid hbl
    have HB1 := hid hb1
    rw [hg] at HFin
    clear hg hnm hbl hb1
    go_enter Tryz.func79, Tryz.ntmps79
    go_upto_region 1 with fail
    rw [← hW1]
    clear hW1
    go_upto_region 2 with (first | (go_at_call 54; refine KN.out.mono ?_; rintro e w' ⟨rfl, hw'⟩; subst w') | fail)
    clear KN
    go_cut [3] from 4 (fun x wx => x = .bool true ∧ Hid (wx.heap[w.heap.size]? = some (.cells #[.string ⟨#[97]⟩, .string s, .int .i64 0, .int .i64 0] 156 (0, 0)) ∧ E (.returned (.tuple #[.agg #[.string ⟨#[97]⟩, .string s, .int .i64 0, .int .i64 0], .bool true])) wx))
    case first =>
      go_wp2_with fail
      refine KC.out.mono ?_
      rintro e w2 ⟨rfl, hb2⟩
      obtain ⟨WF, hWF, hq, hEF, r0, r1, r2, r3, f0, f1, f2, f3⟩ := HFin.out w2 ⟨#[97]⟩ s 0 ((hb2.block w.heap.size hs1).trans HBL.out) (HB1.out.trans (hb2.mono (by omega))) (fun _ => HV.out)
      have HR : Hid (WF.heap[w.heap.size]? = some (.cells #[.string ⟨#[97]⟩, .string s, .int .i64 0, .int .i64 0] 156 (0, 0)) ∧ E (.returned (.tuple #[.agg #[.string ⟨#[97]⟩, .string s, .int .i64 0, .int .i64 0], .bool true])) WF) := hid ⟨hq, hEF⟩
      have HWF : Hid (WF = (((w2.setCell ⟨w.heap.size, 0, none⟩ (.string ⟨#[97]⟩)).setCell ⟨w.heap.size, 1, none⟩ (.string s)).setCell ⟨w.heap.size, 2, none⟩ (.int .i64 0)).setCell ⟨w.heap.size, 3, none⟩ (.int .i64 0)) := hid hWF
      clear hWF hq hEF hb2 KC HFin HV
      go_wp2_with fail
      go_meet
      exact ⟨rfl, by rw [← HWF.out]; exact HR⟩
    case rest =>
      obtain ⟨rfl, HH⟩ := hcut
      have hq := HH.out.1
      have HE := hid HH.out.2
      have q0 : wc.cell? ⟨w.heap.size, 0, none⟩ = some (.string ⟨#[97]⟩) := cell_of_row _ _ _ _ _ _ hq
      have q1 : wc.cell? ⟨w.heap.size, 1, none⟩ = some (.string s) := cell_of_row _ _ _ _ _ _ hq
      have q2 : wc.cell? ⟨w.heap.size, 2, none⟩ = some (.int .i64 0) := cell_of_row _ _ _ _ _ _ hq
      have q3 : wc.cell? ⟨w.heap.size, 3, none⟩ = some (.int .i64 0) := cell_of_row _ _ _ _ _ _ hq
      clear HH hq
      rename_i KK1 hKK1
      refine hKK1 _ _ ?_
      refine wp_ret ?_
      refine bodyPost_ret (v := .tuple #[.agg #[.string ⟨#[97]⟩, .string s, .int .i64 0, .int .i64 0], .bool true]) (by simp [results, Tryz.results79, go_sem, q0, q1, q2, q3]) rfl ?_
      exact HE.out
  case false =>
    rw [hnm] at KN
    have KT := hid (trimLeft_calls s W1)
    have HBL := hid hbl
    have HB1 := hid hb1
    by_cases h0 : (trmB s).size = 0
    · have et : trmB s = ⟨#[]⟩ := by
        generalize trmB s = t at h0
        obtain ⟨⟨l⟩⟩ := t
        simp [ByteArray.size] at h0
        simp [h0]
      have hg : wdG s = decide (s.size ≠ 0) := by unfold wdG; rw [hnm, if_neg (by decide), if_pos h0]
      have HV : Hid (kdT 48 = kdT (wtK s) ∧ ⟨#[]⟩ = wdN s ∧ 0 = wtV s) := hid (by unfold wtK wdN wtV; rw [hnm, if_pos h0]; exact ⟨rfl, rfl, rfl⟩)
      rw [et] at KT
      have hbe : (!s.toList.isEmpty) = wdG s := by
        rw [hg]
        by_cases hz : s.size = 0
        · have : s = ⟨#[]⟩ := by
            obtain ⟨⟨l⟩⟩ := s
            simp [ByteArray.size] at hz
            simp [hz]
          subst this
          simp only [ByteArray.toList_eq]; rfl
        · rw [not_empty hz, decide_eq_true hz]; rfl
      clear hg hnm hbl hb1 et h0
      generalize wdG s = gb at *
      go_enter Tryz.func79, Tryz.ntmps79
      go_upto_region 1 with fail
      rw [← hW1]
      clear hW1
      go_upto_region 5 with (first | (go_at_call 54; refine KN.out.mono ?_; rintro e w' ⟨rfl, hw'⟩; subst w') | (go_at_call 106; refine KT.out.mono ?_; rintro e w' ⟨rfl, hw'⟩; subst w') | fail)
      clear KN KT
      obtain ⟨WF, hWF, hq, hEF, r0, r1, r2, r3, f0, f1, f2, f3⟩ := HFin.out W1 ⟨#[48]⟩ ⟨#[]⟩ 0 HBL.out HB1.out (fun _ => HV.out)
      have HR : Hid (WF.heap[w.heap.size]? = some (.cells #[.string ⟨#[48]⟩, .string ⟨#[]⟩, .int .i64 0, .int .i64 0] 156 (0, 0)) ∧ E (.returned (.tuple #[.agg #[.string ⟨#[48]⟩, .string ⟨#[]⟩, .int .i64 0, .int .i64 0], .bool gb])) WF) := hid ⟨hq, hEF⟩
      have HWF : Hid (WF = (((W1.setCell ⟨w.heap.size, 0, none⟩ (.string ⟨#[48]⟩)).setCell ⟨w.heap.size, 1, none⟩ (.string ⟨#[]⟩)).setCell ⟨w.heap.size, 2, none⟩ (.int .i64 0)).setCell ⟨w.heap.size, 3, none⟩ (.int .i64 0)) := hid hWF
      clear hWF hq hEF HFin HV
      go_cut [3] from 4 (fun x wx => x = .bool gb ∧ Hid (wx.heap[w.heap.size]? = some (.cells #[.string ⟨#[48]⟩, .string ⟨#[]⟩, .int .i64 0, .int .i64 0] 156 (0, 0)) ∧ E (.returned (.tuple #[.agg #[.string ⟨#[48]⟩, .string ⟨#[]⟩, .int .i64 0, .int .i64 0], .bool gb])) wx))
      case first =>
        go_wp2_with fail
        go_meet
        exact ⟨by first | rfl | (rw [hbe]) | (simp [hbe]), by rw [← HWF.out]; exact HR⟩
      case rest =>
        obtain ⟨rfl, HH⟩ := hcut
        have hq := HH.out.1
        have HE := hid HH.out.2
        have q0 : wc.cell? ⟨w.heap.size, 0, none⟩ = some (.string ⟨#[48]⟩) := cell_of_row _ _ _ _ _ _ hq
        have q1 : wc.cell? ⟨w.heap.size, 1, none⟩ = some (.string ⟨#[]⟩) := cell_of_row _ _ _ _ _ _ hq
        have q2 : wc.cell? ⟨w.heap.size, 2, none⟩ = some (.int .i64 0) := cell_of_row _ _ _ _ _ _ hq
        have q3 : wc.cell? ⟨w.heap.size, 3, none⟩ = some (.int .i64 0) := cell_of_row _ _ _ _ _ _ hq
        clear HH hq
        rename_i KK1 hKK1
        refine hKK1 _ _ ?_
        refine wp_ret ?_
        refine bodyPost_ret (v := .tuple #[.agg #[.string ⟨#[48]⟩, .string ⟨#[]⟩, .int .i64 0, .int .i64 0], .bool gb]) (by simp [results, Tryz.results79, go_sem, q0, q1, q2, q3]) rfl ?_
        exact HE.out
    · have hne := not_empty h0
      have hg : wdG s = numG (trmB s) 1000000 := by unfold wdG; rw [hnm, if_neg (by decide), if_neg h0]
      have HV : Hid (kdT 48 = kdT (wtK s) ∧ ⟨#[]⟩ = wdN s ∧ numN (trmB s) 1000000 = wtV s) := hid (by unfold wtK wdN wtV; rw [hnm, if_neg (by decide), if_neg (by decide), if_neg (by decide), if_neg h0]; exact ⟨rfl, rfl, rfl⟩)
      have htl : (trmB s).size ≤ s.size := by
        have h1 := (List.dropWhile_sublist (l := s.data.toList) (fun b => b == 48)).length_le
        have h2 : (trmB s).size = (trm0 s.data.toList).length := by rw [← trmB_list]; simp
        rw [h2]
        have h3 : s.data.toList.length = s.size := by simp
        unfold trm0
        omega
      have KM := hid (readNumber_calls W1 (trmB s) 1000000 (by omega) (by omega))
      rw [hg] at HFin
      clear hg hnm hbl hb1 h0
      generalize trmB s = t at *
      generalize numN t 1000000 = nv at *
      generalize numG t 1000000 = gb at *
      go_enter Tryz.func79, Tryz.ntmps79
      go_upto_region 1 with fail
      rw [← hW1]
      clear hW1
      go_upto_region 7 with (first | (go_at_call 54; refine KN.out.mono ?_; rintro e w' ⟨rfl, hw'⟩; subst w') | (go_at_call 106; refine KT.out.mono ?_; rintro e w' ⟨rfl, hw'⟩; subst w') | (go_at_call 63; refine KM.out.mono ?_; rintro e w' ⟨rfl, hw'⟩; subst w') | fail)
      clear KN KT KM
      obtain ⟨WF, hWF, hq, hEF, r0, r1, r2, r3, f0, f1, f2, f3⟩ := HFin.out W1 ⟨#[48]⟩ ⟨#[]⟩ nv HBL.out HB1.out (fun _ => HV.out)
      have HR : Hid (WF.heap[w.heap.size]? = some (.cells #[.string ⟨#[48]⟩, .string ⟨#[]⟩, .int .i64 (nv : Int), .int .i64 0] 156 (0, 0)) ∧ E (.returned (.tuple #[.agg #[.string ⟨#[48]⟩, .string ⟨#[]⟩, .int .i64 (nv : Int), .int .i64 0], .bool gb])) WF) := hid ⟨hq, hEF⟩
      have HWF : Hid (WF = (((W1.setCell ⟨w.heap.size, 0, none⟩ (.string ⟨#[48]⟩)).setCell ⟨w.heap.size, 1, none⟩ (.string ⟨#[]⟩)).setCell ⟨w.heap.size, 2, none⟩ (.int .i64 (nv : Int))).setCell ⟨w.heap.size, 3, none⟩ (.int .i64 0)) := hid hWF
      clear hWF hq hEF HFin HV
      go_cut [3] from 4 (fun x wx => x = .bool gb ∧ Hid (wx.heap[w.heap.size]? = some (.cells #[.string ⟨#[48]⟩, .string ⟨#[]⟩, .int .i64 (nv : Int), .int .i64 0] 156 (0, 0)) ∧ E (.returned (.tuple #[.agg #[.string ⟨#[48]⟩, .string ⟨#[]⟩, .int .i64 (nv : Int), .int .i64 0], .bool gb])) wx))
      case first =>
        go_wp2_with fail
        go_meet
        exact ⟨rfl, by rw [← HWF.out]; exact HR⟩
      case rest =>
        obtain ⟨rfl, HH⟩ := hcut
        have hq := HH.out.1
        have HE := hid HH.out.2
        have q0 : wc.cell? ⟨w.heap.size, 0, none⟩ = some (.string ⟨#[48]⟩) := cell_of_row _ _ _ _ _ _ hq
        have q1 : wc.cell? ⟨w.heap.size, 1, none⟩ = some (.string ⟨#[]⟩) := cell_of_row _ _ _ _ _ _ hq
        have q2 : wc.cell? ⟨w.heap.size, 2, none⟩ = some (.int .i64 (nv : Int)) := cell_of_row _ _ _ _ _ _ hq
        have q3 : wc.cell? ⟨w.heap.size, 3, none⟩ = some (.int .i64 0) := cell_of_row _ _ _ _ _ _ hq
        clear HH hq
        rename_i KK1 hKK1
        refine hKK1 _ _ ?_
        refine wp_ret ?_
        refine bodyPost_ret (v := .tuple #[.agg #[.string ⟨#[48]⟩, .string ⟨#[]⟩, .int .i64 (nv : Int), .int .i64 0], .bool gb]) (by simp [results, Tryz.results79, go_sem, q0, q1, q2, q3]) rfl ?_
        exact HE.out

end Go.Proofs.YtkponghbekpocaaGreatDoor

/-
  spec.l3Lex.
-/
namespace Go.Proofs.YtkponghbekpocaaGreatDoor
open Go.RowKit

theorem new4_cell (w : World) (x y z u : Value) (t : TypeId) : ∀ j v, [x, y, z, u][j]? = some v → (w.alloc (.cells #[x, y, z, u] t)).cell? ((⟨w.heap.size, 0, none⟩ : Addr).add j) = some v := by
  intro j v hj
  have e : (⟨w.heap.size, 0, none⟩ : Addr).add j = ⟨w.heap.size, j, none⟩ := by unfold Addr.add; by_cases h0 : j = 0 <;> simp [h0]
  rw [e, World.cell?_alloc_at _ _ _ _ rfl]
  match j, hj with
  | 0, hj => simpa using hj
  | 1, hj => simpa using hj
  | 2, hj => simpa using hj
  | 3, hj => simpa using hj
  | j + 4, hj => simp at hj
theorem fl_snoc (acc : List TkV) (t : TkV) : (acc ++ [t]).flatMap stk = acc.flatMap stk ++ stk t := by rw [List.flatMap_append]; simp
theorem info_parts4 {P : Program} {t : TypeId} {z : Value} {n m : Nat} (h : (P.info? t).map (fun i => (i.zero, i.size, i.bytes)) = some (some z, n, m)) : ∃ i, P.info? t = some i ∧ i.zero = some z ∧ i.size = n ∧ i.bytes = m := by
  cases e : P.info? t with
  | none => rw [e] at h; cases h
  | some i =>
    rw [e] at h
    simp only [Option.map_some, Option.some.injEq, Prod.mk.injEq] at h
    exact ⟨i, rfl, h.1, h.2.1, h.2.2⟩

/-- the number that the model reads: it stays great once it is -/
structure Sat (l : List UInt8) (z : Nat) : Prop where
  le : dv l ≤ 1000000 → z = dv l
  gt : 1000000 < dv l → 1000000 < z
  most : z ≤ 10000009
theorem Sat.start : Sat [] 0 := ⟨fun _ => rfl, fun h => by simp [dv] at h, by omega⟩
theorem Sat.step {l : List UInt8} {z : Nat} {b : UInt8} (h : Sat l z) (hb : b.toNat - 48 ≤ 9) (hz : z ≤ 1000000) : Sat (l ++ [b]) (z * 10 + (b.toNat - 48)) := by
  have e := dv_snoc l b
  have h1 : z = dv l := by
    by_cases hd : dv l ≤ 1000000
    · exact h.le hd
    · have := h.gt (by omega); omega
  exact ⟨fun _ => by rw [e, h1], fun hg => by rw [e] at hg; rw [h1]; exact hg, by omega⟩
theorem Sat.over {l : List UInt8} {z : Nat} {b : UInt8} (h : Sat l z) (hz : 1000000 < z) : Sat (l ++ [b]) z := by
  have e := dv_snoc l b
  have h1 : 1000000 < dv l := by
    by_cases hd : dv l ≤ 1000000
    · have := h.le hd; omega
    · omega
  exact ⟨fun hd => by rw [e] at hd; omega, fun _ => hz, h.most⟩
theorem stretch_zero (s : ByteArray) (o : Nat) : stretch s o 0 = [] := by simp [stretch]
theorem stretch_succ {s : ByteArray} {o n : Nat} (h : o + n < s.size) : stretch s o (n + 1) = stretch s o n ++ [s.data.toList.getD (o + n) 0] := by
  unfold stretch
  rw [List.take_add_one, byte_drop h]
  rfl

theorem own_shapeT {w : World} {B n s : Nat} {e : TypeId} {v : Value} {xs : List Value} (h : w.ownsRow B e s v n xs) : ∃ a cap, v = .slice a n cap := by
  rcases h.2 with ⟨rfl, h2⟩ | ⟨g, cap, cur, rfl, -⟩
  · exact ⟨none, 0, by rw [h2]⟩
  · exact ⟨_, cap, rfl⟩
theorem nx_sep {s : ByteArray} {o : Nat} (h : sepB (byteAt s o) = true) : nx s o = some (none, 1) := by unfold nx; rw [if_pos h]
theorem nx_oth {s : ByteArray} {o : Nat} (h0 : sepB (byteAt s o) = false) (h1 : letterB (byteAt s o) = false) (h2 : digitB (byteAt s o) = false) : nx s o = if byteAt s o = 58 then (if o + 1 < s.size ∧ byteAt s (o + 1) = 45 then some (some (58, ⟨#[]⟩, 0), 2) else none) else if symB (byteAt s o) then some (some ((byteAt s o).toNat, ⟨#[]⟩, 0), 1) else none := by unfold nx; rw [if_neg (by rw [h0]; decide), if_neg (by rw [h1]; decide), if_neg (by rw [h2]; decide)]
end Go.Proofs.YtkponghbekpocaaGreatDoor

/-
  The program's tokens: the loop's state; the symbols.
-/
namespace Go.Proofs.YtkponghbekpocaaGreatDoor
open Go.RowKit

def syK (k : Nat) : Nat := if k = 0 then 40 else if k = 1 then 41 else if k = 2 then 44 else if k = 3 then 59 else if k = 4 then 46 else 58
def syT (k : Nat) : ByteArray := if k = 0 then ⟨#[40]⟩ else if k = 1 then ⟨#[41]⟩ else if k = 2 then ⟨#[44]⟩ else if k = 3 then ⟨#[59]⟩ else if k = 4 then ⟨#[46]⟩ else ⟨#[58, 45]⟩
def syN (k : Nat) : Nat := if k < 5 then 1 else 2
/-- the symbols in their variable -/
def SyV (W : World) : Prop := ∀ k : Nat, k < 6 → W.cell? ⟨2, k, none⟩ = some (.string (syT k))
theorem SyV.below {W W' : World} (h : SyV W) (hb : Below W.heap.size W W') : SyV W' := fun k hk => (hb.cell (p := ⟨2, k, none⟩) (World.block_lt_of_cell? W _ (h k hk))).trans (h k hk)
theorem SyV.belN {N : Nat} {W W' : World} (h : SyV W) (hb : Below N W W') (hN : 2 < N) : SyV W' := fun k hk => (hb.cell (p := ⟨2, k, none⟩) hN).trans (h k hk)
theorem sy_size : ∀ k : Nat, k < 6 → (syT k).size = syN k
  | 0, _ => rfl
  | 1, _ => rfl
  | 2, _ => rfl
  | 3, _ => rfl
  | 4, _ => rfl
  | 5, _ => rfl
  | k + 6, h => by omega
theorem sy_one : ∀ k : Nat, k < 6 → (syT k).extract 0 1 = kdT (syK k)
  | 0, _ => by decide
  | 1, _ => by decide
  | 2, _ => by decide
  | 3, _ => by decide
  | 4, _ => by decide
  | 5, _ => by decide
  | k + 6, h => by omega
theorem Tryz.indexY (w : World) : ∀ k : Nat, k < 6 → Sem.run Tryz.prog (Instr.index 153 (.agg #[.string (syT 0), .string (syT 1), .string (syT 2), .string (syT 3), .string (syT 4), .string (syT 5)]) (.int .i64 (k : Int))) w = .ok (.string (syT k)) w
  | 0, _ => by kernel_rfl
  | 1, _ => by kernel_rfl
  | 2, _ => by kernel_rfl
  | 3, _ => by kernel_rfl
  | 4, _ => by kernel_rfl
  | 5, _ => by kernel_rfl
  | k + 6, h => by omega
/-- whether the k-th symbol stands at o -/
def syB (s : ByteArray) (o k : Nat) : Bool := decide ((syT k).size ≤ (frm s o).size) && (((frm s o).extract 0 (syT k).size).toList == (syT k).toList)
theorem toList_one (c : UInt8) : (⟨#[c]⟩ : ByteArray).toList = [c] := by rw [ByteArray.toList_eq]
theorem syB_one {s : ByteArray} {o c : Nat} (ho : o < s.size) (hc : c < 256) : (decide ((⟨#[UInt8.ofNat c]⟩ : ByteArray).size ≤ (frm s o).size) && (((frm s o).extract 0 (⟨#[UInt8.ofNat c]⟩ : ByteArray).size).toList == (⟨#[UInt8.ofNat c]⟩ : ByteArray).toList)) = decide (byteAt s o = (c : Int)) := by
  have e1 : (⟨#[UInt8.ofNat c]⟩ : ByteArray).size = 1 := rfl
  rw [e1, decide_eq_true (show 1 ≤ (frm s o).size by rw [frm_size]; omega), Bool.true_and, frm_ext, ByteArray.toList_eq, ext_list, toList_one]
  have h1 : stretch s o 1 = [s.data.toList.getD o 0] := by
    have := stretch_succ (s := s) (o := o) (n := 0) (by omega)
    rw [Nat.add_zero] at this
    rw [this, stretch_zero]; rfl
  rw [h1]
  by_cases h : byteAt s o = (c : Int)
  · rw [decide_eq_true h]
    have : s.data.toList.getD o 0 = UInt8.ofNat c := UInt8.toNat_inj.1 (by rw [UInt8.toNat_ofNat_of_lt' (by simpa using hc)]; unfold byteAt at h; omega)
    rw [this]; simp
  · rw [decide_eq_false h]
    have : s.data.toList.getD o 0 ≠ UInt8.ofNat c := fun e => h (by unfold byteAt; rw [e, UInt8.toNat_ofNat_of_lt' (by simpa using hc)])
    simpa using this
theorem syB_two {s : ByteArray} {o : Nat} (ho : o < s.size) : syB s o 5 = decide (byteAt s o = 58 ∧ o + 1 < s.size ∧ byteAt s (o + 1) = 45) := by
  unfold syB
  have e1 : (syT 5).size = 2 := rfl
  have e2 : (syT 5).toList = [58, 45] := by rw [ByteArray.toList_eq]; rfl
  rw [e1, e2, frm_size, frm_ext, ByteArray.toList_eq, ext_list]
  by_cases h1 : o + 1 < s.size
  · rw [decide_eq_true (show 2 ≤ s.size - o by omega), Bool.true_and]
    have h2 : stretch s o 2 = [s.data.toList.getD o 0, s.data.toList.getD (o + 1) 0] := by
      rw [show (2 : Nat) = 1 + 1 from rfl, stretch_succ h1, show (1 : Nat) = 0 + 1 from rfl, stretch_succ (by omega), stretch_zero]
      rfl
    rw [h2]
    by_cases h : byteAt s o = 58 ∧ o + 1 < s.size ∧ byteAt s (o + 1) = 45
    · rw [decide_eq_true h]
      have a1 : s.data.toList.getD o 0 = 58 := UInt8.toNat_inj.1 (by have := h.1; unfold byteAt at this; show _ = 58; omega)
      have a2 : s.data.toList.getD (o + 1) 0 = 45 := UInt8.toNat_inj.1 (by have := h.2.2; unfold byteAt at this; show _ = 45; omega)
      rw [a1, a2]; rfl
    · rw [decide_eq_false h]
      by_cases e : [s.data.toList.getD o 0, s.data.toList.getD (o + 1) 0] = [58, 45]
      · exfalso
        simp only [List.cons.injEq, and_true] at e
        exact h ⟨by unfold byteAt; rw [e.1]; rfl, h1, by unfold byteAt; rw [e.2]; rfl⟩
      · simpa using e
  · rw [decide_eq_false (show ¬ 2 ≤ s.size - o by omega), Bool.false_and, decide_eq_false (fun h => h1 h.2.1)]
theorem syB_k {s : ByteArray} {o : Nat} (ho : o < s.size) : ∀ k : Nat, k < 5 → syB s o k = decide (byteAt s o = ((syK k : Nat) : Int))
  | 0, _ => syB_one ho (by decide)
  | 1, _ => syB_one ho (by decide)
  | 2, _ => syB_one ho (by decide)
  | 3, _ => syB_one ho (by decide)
  | 4, _ => syB_one ho (by decide)
  | k + 5, h => by omega
/-- a symbol's token -/
theorem sy_nx {s : ByteArray} {o k : Nat} (ho : o < s.size) (hk : k < 6) (hb : syB s o k = true) : nx s o = some (some (syK k, ⟨#[]⟩, 0), syN k) := by
  by_cases h5 : k < 5
  · rw [syB_k ho k h5, decide_eq_true_iff] at hb
    have hv : syK k = 40 ∨ syK k = 41 ∨ syK k = 44 ∨ syK k = 59 ∨ syK k = 46 := by
      unfold syK
      match k, h5 with
      | 0, _ => simp
      | 1, _ => simp
      | 2, _ => simp
      | 3, _ => simp
      | 4, _ => simp
    have hn : syN k = 1 := if_pos h5
    rw [hn]
    generalize syK k = c at *
    have h0 : sepB (byteAt s o) = false := by rw [hb]; rcases hv with rfl | rfl | rfl | rfl | rfl <;> decide
    have h1 : letterB (byteAt s o) = false := by rw [hb]; rcases hv with rfl | rfl | rfl | rfl | rfl <;> decide
    have h2 : digitB (byteAt s o) = false := by rw [hb]; rcases hv with rfl | rfl | rfl | rfl | rfl <;> decide
    have h3 : symB (byteAt s o) = true := by rw [hb]; rcases hv with rfl | rfl | rfl | rfl | rfl <;> decide
    rw [nx_oth h0 h1 h2, if_neg (by rw [hb]; omega), if_pos h3, hb]
    simp
  · have : k = 5 := by omega
    subst this
    rw [syB_two ho, decide_eq_true_iff] at hb
    have h0 : sepB (byteAt s o) = false := by rw [hb.1]; decide
    have h1 : letterB (byteAt s o) = false := by rw [hb.1]; decide
    have h2 : digitB (byteAt s o) = false := by rw [hb.1]; decide
    rw [nx_oth h0 h1 h2, if_pos hb.1, if_pos hb.2]
    rfl
theorem sy_none {s : ByteArray} {o : Nat} (ho : o < s.size) (h : ∀ k, k < 6 → syB s o k = false) : symB (byteAt s o) = false ∧ ¬ (byteAt s o = 58 ∧ o + 1 < s.size ∧ byteAt s (o + 1) = 45) := by
  refine ⟨?_, fun e => ?_⟩
  · have hk : ∀ k, k < 5 → ¬ byteAt s o = ((syK k : Nat) : Int) := fun k hk e => by
      have := h k (by omega)
      rw [syB_k ho k hk, decide_eq_true e] at this
      cases this
    have h0 := hk 0 (by omega)
    have h1 := hk 1 (by omega)
    have h2 := hk 2 (by omega)
    have h3 := hk 3 (by omega)
    have h4 := hk 4 (by omega)
    have e0 : ((syK 0 : Nat) : Int) = 40 := rfl
    have e1 : ((syK 1 : Nat) : Int) = 41 := rfl
    have e2 : ((syK 2 : Nat) : Int) = 44 := rfl
    have e3 : ((syK 3 : Nat) : Int) = 59 := rfl
    have e4 : ((syK 4 : Nat) : Int) = 46 := rfl
    unfold symB
    simp only [Bool.or_eq_false_iff, decide_eq_false_iff_not]
    omega
  · have := h 5 (by omega)
    rw [syB_two ho, decide_eq_true e] at this
    cases this

/-- how tokensOf ends -/
def TokE (w : World) (s : ByteArray) (e : Ending) (w' : World) : Prop :=
  (∃ a cap, (lexA s).2 = none ∧ e = .returned (.tuple #[.slice a (lexA s).1.length cap, .nilIface]) ∧ w'.ownsRow w.heap.size 156 4 (.slice a (lexA s).1.length cap) (lexA s).1.length ((lexA s).1.flatMap tkv) ∧ Below w.heap.size w w') ∨ (∃ o, (lexA s).2 = some o ∧ e = .returned (.tuple #[.slice none 0 0, .iface 78 (.agg #[.int .i64 2, .int .i64 (o : Int)])]) ∧ Below w.heap.size w w')
/-- the loop's state -/
def TyS (w : World) (s : ByteArray) (o : Nat) (acc : List TkV) (x : Value) (wr : World) : Prop := LexI s o acc ∧ acc.length ≤ o ∧ wr.ownsRow w.heap.size 156 4 x acc.length (acc.flatMap tkv) ∧ Below w.heap.size w wr
theorem TyS.bad {w wr wr' : World} {s : ByteArray} {o : Nat} {acc : List TkV} {x : Value} (h : TyS w s o acc x wr) (ho : o < s.size) (hn : nx s o = none) (hb : Below w.heap.size w wr') : TokE w s (.returned (.tuple #[.slice none 0 0, .iface 78 (.agg #[.int .i64 2, .int .i64 (o : Int)])])) wr' :=
  Or.inr ⟨o, by rw [h.1.bad ho hn], rfl, hb⟩
theorem TyS.done {w wr : World} {s : ByteArray} {acc : List TkV} {x : Value} (h : TyS w s s.size acc x wr) : TokE w s (.returned (.tuple #[x, .nilIface])) wr := by
  obtain ⟨a, cap, e⟩ := own_shapeT2 h.2.2.1
  have hl := h.1.done
  subst e
  exact Or.inl ⟨a, cap, by rw [hl], by rw [hl], by rw [hl]; exact h.2.2.1, h.2.2.2⟩
theorem TyS.tok {w wr w3 : World} {s : ByteArray} {o n k v : Nat} {nm : ByteArray} {acc : List TkV} {x x' : Value} {ob : Obj} (h : TyS w s o acc x wr) (ho : o < s.size) (hn : nx s o = some (some (k, nm, v), n))
    (hown : w3.ownsRow w.heap.size 156 4 x' (acc.length + 1) (acc.flatMap tkv ++ tkv ⟨k, nm, v, o⟩)) (hg : (wr.alloc ob).grownBy w3 x.ownBlock) : TyS w s (o + n) (acc ++ [⟨k, nm, v, o⟩]) x' w3 := by
  obtain ⟨-, h1, h2⟩ := nx_tok ho hn
  refine ⟨h.1.tok ho hn h1 h2, by rw [List.length_append, List.length_singleton]; have := h.2.1; omega, ?_, ?_⟩
  · rw [List.length_append, List.length_singleton, List.flatMap_append, List.flatMap_cons, List.flatMap_nil, List.append_nil]; exact hown
  · have hs := h.2.2.2.size
    exact (h.2.2.2.alloc hs _).grown hg (by simp; omega) (fun g hg => (h.2.2.1.lt g hg).1)
theorem TyS.bel {w wr w3 : World} {s : ByteArray} {o : Nat} {acc : List TkV} {x : Value} (h : TyS w s o acc x wr) (hb : Below wr.heap.size wr w3) : TyS w s o acc x w3 :=
  ⟨h.1, h.2.1, own_below h.2.2.1 hb, h.2.2.2.trans (hb.mono h.2.2.2.size)⟩
theorem Tryz.infoTkI : (Tryz.prog.info? 156).map (fun i => (i.zero, i.size, i.bytes)) = some (some (.agg #[.string ⟨#[]⟩, .string ⟨#[]⟩, .int .i64 0, .int .i64 0]), 4, 48) := by kernel_rfl

end Go.Proofs.YtkponghbekpocaaGreatDoor

/-
  spec.ParseQuery, over its parser's contract.
-/
namespace Go.Proofs.YtkponghbekpocaaGreatDoor
open Go.RowKit

theorem flat_at {α : Type} (f : α → List Value) (m : Nat) (hf : ∀ x, (f x).length = m) (d : α) : ∀ (l : List α) (j i : Nat), j < l.length → i < m → (l.flatMap f)[j * m + i]? = (f (l.getD j d))[i]?
  | [], j, i, hj, _ => by simp at hj
  | x :: l, 0, i, _, hi => by
    rw [List.flatMap_cons, Nat.zero_mul, Nat.zero_add, List.getElem?_append_left (by rw [hf]; exact hi)]
    rfl
  | x :: l, j + 1, i, hj, hi => by
    rw [List.flatMap_cons, List.getElem?_append_right (by rw [hf, Nat.succ_mul]; omega), hf]
    rw [show (j + 1) * m + i - m = j * m + i by rw [Nat.succ_mul]; omega]
    exact flat_at f m hf d l j i (by simpa using hj) hi
end Go.Proofs.YtkponghbekpocaaGreatDoor
