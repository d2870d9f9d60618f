import Derived.Lib.Bytealg
import Derived.Test.YtcdfoephhjacdaaDoorQ70
import Derived.Test.YtcdfoephhjacdaaDoorQ71
import Derived.Test.YtcdfoephhjacdaaDoorQ77
/-
  The program's words: separators, prefixes, zeros, wordAt.
-/
namespace Go.Proofs.YtcdfoephhjacdaaDoor
open Go.RowKit

set_option maxHeartbeats 2000000 in
set_option maxRecDepth 1000000 in
theorem sliteIx_calls (s : ByteArray) (c : Int) (w : World) :
    Calls Tryd.prog 107 #[.string s, .int .u8 c] w fun e w' => e = .returned (.int .i64 (Lib.indexByte s.data.toList c.toNat.toUInt8)) ∧ w' = w := by
  go_enter Tryd.func107, Tryd.ntmps107
  go_wp2
  rw [run_callFunc_extern Tryd.func126 (by kernel_rfl) (by kernel_rfl) (by kernel_rfl) (e := Extern.BytealgIndexByte.indexByte) (by kernel_rfl), Lib.run_indexByteString]
  simp only [Result.andThen]
  rw [Oper.upon_value]
  go_wp2
  go_ret
  exact ⟨rfl, rfl⟩
theorem indexByte_calls (s : ByteArray) (c : Int) (w : World) :
    Calls Tryd.prog 85 #[.string s, .int .u8 c] w fun e w' => e = .returned (.int .i64 (Lib.indexByte s.data.toList c.toNat.toUInt8)) ∧ w' = w := by
  have K := hid (sliteIx_calls s c w)
  go_enter Tryd.func85, Tryd.ntmps85
  go_wp2_with (first | (go_at_call 107; refine K.out.mono ?_; rintro e w' ⟨rfl, hw'⟩; subst w') | fail)
  go_ret
  exact ⟨rfl, rfl⟩
set_option maxRecDepth 100000 in
theorem sep_ix (b : UInt8) : (0 ≤ Lib.indexByte [9, 10, 13, 32] b) ↔ sepB (b.toNat : Int) = true := by
  have h : ∀ n : Fin 256, (decide (0 ≤ Lib.indexByte [9, 10, 13, 32] (UInt8.ofNat n.val)) = sepB ((UInt8.ofNat n.val).toNat : Int)) := by decide
  have hb := h ⟨b.toNat, b.toNat_lt⟩
  simp only [UInt8.ofNat_toNat] at hb
  rw [← hb, decide_eq_true_iff]

set_option maxHeartbeats 2000000 in
set_option maxRecDepth 1000000 in
theorem slitePre_calls (s t : ByteArray) (w : World) :
    Calls Tryd.prog 108 #[.string s, .string t] w fun e w' => e = .returned (.bool (decide (t.size ≤ s.size) && ((s.extract 0 t.size).toList == t.toList))) ∧ w' = w := by
  by_cases h : t.size ≤ s.size
  · have i1 : (t.size : Int) ≤ (s.size : Int) := by omega
    rw [decide_eq_true h, Bool.true_and]
    go_enter Tryd.func108, Tryd.ntmps108
    go_wp2
    go_ret
    exact ⟨by first | rfl | simp, rfl⟩
  · have i1 : ¬ ((t.size : Int) ≤ (s.size : Int)) := by omega
    rw [decide_eq_false h, Bool.false_and]
    go_enter Tryd.func108, Tryd.ntmps108
    go_wp2
    go_ret
    exact ⟨rfl, rfl⟩
theorem hasPre_calls (s t : ByteArray) (w : World) :
    Calls Tryd.prog 86 #[.string s, .string t] w fun e w' => e = .returned (.bool (decide (t.size ≤ s.size) && ((s.extract 0 t.size).toList == t.toList))) ∧ w' = w := by
  have K := hid (slitePre_calls s t w)
  generalize (decide (t.size ≤ s.size) && ((s.extract 0 t.size).toList == t.toList)) = b at *
  go_enter Tryd.func86, Tryd.ntmps86
  go_wp2_with (first | (go_at_call 108; refine K.out.mono ?_; rintro e w' ⟨rfl, hw'⟩; subst w') | fail)
  go_ret
  exact ⟨rfl, rfl⟩

/-- behind the first i bytes -/
def frm (s : ByteArray) (i : Nat) : ByteArray := s.extract i s.size
theorem frm_size (s : ByteArray) (i : Nat) : (frm s i).size = s.size - i := by unfold frm; rw [ByteArray.size_extract]; omega
theorem frm_list (s : ByteArray) (i : Nat) : (frm s i).data.toList = s.data.toList.drop i := by
  unfold frm
  rw [ByteArray.data_extract, Array.toList_extract, List.extract_eq_take_drop]
  exact List.take_of_length_le (by simp)
theorem frm_next (s : ByteArray) (i : Nat) : (frm s i).extract 1 (frm s i).size = frm s (i + 1) := by
  have : ((frm s i).extract 1 (frm s i).size).data.toList = (frm s (i + 1)).data.toList := by
    rw [ByteArray.data_extract, Array.toList_extract, List.extract_eq_take_drop, frm_list, frm_list, List.drop_drop]
    exact List.take_of_length_le (by rw [frm_size]; simp; omega)
  exact ByteArray.ext (Array.toList_inj.1 this)
theorem frm_zero (s : ByteArray) : frm s 0 = s := by
  have : (frm s 0).data.toList = s.data.toList := by rw [frm_list, List.drop_zero]
  exact ByteArray.ext (Array.toList_inj.1 this)
theorem frm_byte {s : ByteArray} {i : Nat} (h : 0 < (frm s i).size) : ((frm s i)[0]'h).toNat = (s.data.toList.getD i 0).toNat := by
  have e := byteAt_eq (frm s i) 0 h
  unfold byteAt at e
  rw [frm_list] at e
  have hl : i < s.data.toList.length := by rw [frm_size] at h; simp; omega
  rw [List.getD_eq_getElem?_getD, List.getElem?_drop, Nat.add_zero] at e
  rw [List.getD_eq_getElem?_getD]
  omega
theorem trm_drop : ∀ (l : List UInt8), ∃ i, i ≤ l.length ∧ (∀ j, j < i → l.getD j 0 = 48) ∧ trm0 l = l.drop i ∧ (i < l.length → l.getD i 0 ≠ 48)
  | [] => ⟨0, Nat.le_refl _, fun j hj => by omega, rfl, fun h => by simp at h⟩
  | b :: l => by
    by_cases h : (b == 48) = true
    · obtain ⟨i, h1, h2, h3, h4⟩ := trm_drop l
      refine ⟨i + 1, by simpa using h1, fun j hj => ?_, ?_, fun hi => ?_⟩
      · cases j with
        | zero => simpa using h
        | succ j => simpa using h2 j (by omega)
      · unfold trm0; rw [List.dropWhile_cons, if_pos h]; exact h3
      · simpa using h4 (by simpa using hi)
    · exact ⟨0, Nat.zero_le _, fun j hj => by omega, by unfold trm0; rw [List.dropWhile_cons, if_neg h]; rfl, fun _ => by simpa using h⟩

set_option maxHeartbeats 4000000 in
set_option maxRecDepth 1000000 in
theorem trimByte_calls (s : ByteArray) (w : World) :
    Calls Tryd.prog 127 #[.string s, .int .u8 48] w fun e w' => e = .returned (.string (trmB s)) ∧ w' = w := by
  obtain ⟨n, hn, hz, ht, hne⟩ := trm_drop s.data.toList
  have hl : s.data.toList.length = s.size := by simp
  have et : trmB s = frm s n := ByteArray.ext (Array.toList_inj.1 (by rw [trmB_list, frm_list, ht]))
  rw [et]
  have HZ := hid hz
  have HNE := hid hne
  have HX0 : Hid (s = frm s 0) := hid (frm_zero s).symm
  have hn' : n ≤ s.size := by omega
  clear hz hne ht et hl hn
  go_enter Tryd.func127, Tryd.ntmps127
  go_wp2
  go_loopw [0] (fun x wr => ∃ i : Nat, i ≤ n ∧ wr = w ∧ ∃ t : ByteArray, x = .string t ∧ Hid (t = frm s i)) (fun x _ => match x with | .string t => t.size | _ => 0)
  case atStart => exact ⟨0, Nat.zero_le _, rfl, s, rfl, HX0⟩
  case round =>
    clear HX0
    obtain ⟨i, hi, hw, t, rfl, HT⟩ := hrel
    subst hw
    have hts : t.size = s.size - i := by rw [HT.out, frm_size]
    by_cases hin : i < n
    · have hp : 0 < t.size := by omega
      have ip : (0 : Int) < (t.size : Int) := by omega
      have hb : (((t[0]'hp).toNat : Int) == 48) = true := by
        have e : (t[0]'hp).toNat = 48 := by
          have hp' : 0 < (frm s i).size := by rw [← HT.out]; exact hp
          have h1 := frm_byte hp'
          rw [HZ.out i hin] at h1
          have : (t[0]'hp).toNat = ((frm s i)[0]'hp').toNat := by congr 1; simp only [HT.out]
          rw [this, h1]; rfl
        rw [e]; rfl
      have HN : Hid (t.extract 1 t.size = frm s (i + 1)) := hid (by rw [HT.out]; exact frm_next s i)
      have i1 : (1 : Int) ≤ (t.size : Int) := by omega
      clear hts HT
      go_wp2
      go_roundw
      case rel => exact ⟨i + 1, by omega, (by first | rfl | trivial), _, rfl, HN⟩
      case measure => simp; omega
    · obtain rfl : i = n := by omega
      have HE := hid HT.out
      by_cases hp : 0 < t.size
      · have ip : (0 : Int) < (t.size : Int) := by omega
        have hb : (((t[0]'hp).toNat : Int) == 48) = false := by
          have e : (t[0]'hp).toNat ≠ 48 := by
            have hp' : 0 < (frm s i).size := by rw [← HT.out]; exact hp
            have h1 := frm_byte hp'
            have h2 := HNE.out (by simp; omega)
            have : (t[0]'hp).toNat = ((frm s i)[0]'hp').toNat := by congr 1; simp only [HT.out]
            rw [this, h1]
            intro e
            exact h2 (UInt8.toNat_inj.1 e)
          simp; omega
        clear hts HT
        go_wp2
        go_ret
        exact ⟨congrArg (fun z => Ending.returned (Value.string z)) HE.out, rfl⟩
      · have ip : ¬ ((0 : Int) < (t.size : Int)) := by omega
        clear hts HT
        go_wp2
        go_ret
        exact ⟨congrArg (fun z => Ending.returned (Value.string z)) HE.out, rfl⟩

set_option maxHeartbeats 2000000 in
set_option maxRecDepth 1000000 in
theorem trimLeft_calls (s : ByteArray) (w : World) :
    Calls Tryd.prog 110 #[.string s, .string ⟨#[48]⟩] w fun e w' => e = .returned (.string (trmB s)) ∧ w' = w := by
  by_cases h0 : s.size = 0
  · have e1 : s = ⟨#[]⟩ := by
      obtain ⟨⟨l⟩⟩ := s
      simp [ByteArray.size] at h0
      simp [h0]
    subst e1
    go_enter Tryd.func110, Tryd.ntmps110
    go_wp2
    go_ret
    exact ⟨rfl, rfl⟩
  · have hne := not_empty h0
    have K := hid (trimByte_calls s w)
    generalize trmB s = t at *
    go_enter Tryd.func110, Tryd.ntmps110
    go_wp2_with (first | (go_at_call 127; refine K.out.mono ?_; rintro e w' ⟨rfl, hw'⟩; subst w') | fail)
    go_ret
    exact ⟨rfl, rfl⟩

end Go.Proofs.YtcdfoephhjacdaaDoor

/-
  The program's words: wordAt, wordToken.
-/
namespace Go.Proofs.YtcdfoephhjacdaaDoor
open Go.RowKit

theorem frm_at {s : ByteArray} {o i : Nat} : byteAt (frm s o) i = byteAt s (o + i) := by
  unfold byteAt
  rw [frm_list, List.getD_eq_getElem?_getD, List.getElem?_drop, List.getD_eq_getElem?_getD]
theorem frm_rn (p : Int → Bool) (s : ByteArray) (o : Nat) : rn p (frm s o) 0 = rn p s o := by
  unfold rn
  rw [frm_list, List.drop_drop, Nat.add_zero]
theorem frm_wln (s : ByteArray) (o : Nat) : wln (frm s o) 0 = wln s o := by
  unfold wln
  rw [frm_at, Nat.add_zero, frm_rn, frm_rn]
theorem frm_ext (s : ByteArray) (o n : Nat) : (frm s o).extract 0 n = s.extract o (o + n) := by
  have : ((frm s o).extract 0 n).data.toList = (s.extract o (o + n)).data.toList := by
    rw [ext_list]
    have h := ext_list (frm s o) 0 n
    rw [Nat.zero_add] at h
    rw [h]
    unfold stretch
    rw [frm_list, List.drop_drop, Nat.add_zero]
  exact ByteArray.ext (Array.toList_inj.1 this)

set_option maxHeartbeats 4000000 in
set_option maxRecDepth 1000000 in
theorem wordAt_calls (w : World) (t : ByteArray) (ht : 0 < t.size) (hs : t.size ≤ 1099511627776) :
    Calls Tryd.prog 87 #[.string t] w fun e w' => e = .returned (.string (t.extract 0 (wln t 0))) ∧ w' = w := by
  have hb0 := byteAt_eq t 0 ht
  have KD := isDigit_calls w ((t[0]'ht).toNat : Int)
  cases hd : digitB (byteAt t 0)
  · have ew : wln t 0 = rn nbyteB t 0 := by unfold wln; rw [hd]; rfl
    rw [ew]
    rw [← hb0, hd, hb0] at KD
    have HKD := hid KD
    have HRn : Hid (∀ q : Nat, q ≤ t.size → (∀ i, i < q → nbyteB (byteAt t i) = true) → (q = t.size ∨ nbyteB (byteAt t q) = false) → rn nbyteB t 0 = q) := hid fun q h1 h2 h3 => rn_eq (fun i hi => by rw [Nat.zero_add]; exact h2 i hi) (by omega) (by rw [Nat.zero_add]; exact h3)
    clear KD ew hb0 hd
    generalize rn nbyteB t 0 = n at *
    go_enter Tryd.func87, Tryd.ntmps87
    go_wp2_with (first | (go_at_call 100; refine HKD.out.mono ?_; rintro e w' ⟨rfl, hw'⟩; subst w') | fail)
    go_loopw [4] (fun x wr => ∃ q : Nat, q ≤ t.size ∧ wr = w ∧ x = .int .i64 (q : Int) ∧ Hid (∀ i, i < q → nbyteB (byteAt t i) = true)) (fun x _ => t.size - (intOf x).toNat)
    case atStart => exact ⟨0, Nat.zero_le _, rfl, rfl, hid fun i hi => by omega⟩
    case round =>
      clear HKD
      obtain ⟨q, hq, hw, rfl, HJ⟩ := hrel
      subst hw
      by_cases hlt : q < t.size
      · have iq : (q : Int) < (t.size : Int) := by omega
        have hbq := byteAt_eq t q hlt
        have K := isNameByte_calls wr ((t[q]'hlt).toNat : Int)
        cases hn : nbyteB (byteAt t q)
        · have HR := hid (HRn.out q hq HJ.out (Or.inr hn))
          rw [← hbq, hn, hbq] at K
          have HK := hid K
          have iqs : (q : Int) ≤ (t.size : Int) := by omega
          clear K HRn HJ hn hbq
          go_wp2_with (first | (go_at_call 109; refine HK.out.mono ?_; rintro e w' ⟨rfl, hw'⟩; subst w') | fail)
          go_ret
          exact ⟨by rw [HR.out]; rfl, rfl⟩
        · have HN : Hid (∀ i, i < q + 1 → nbyteB (byteAt t i) = true) := hid fun i hi => by
            by_cases e : i = q
            · rw [e]; exact hn
            · exact HJ.out i (by omega)
          rw [← hbq, hn, hbq] at K
          have HK := hid K
          clear K HRn HJ hn hbq
          go_wp2_with (first | (go_at_call 109; refine HK.out.mono ?_; rintro e w' ⟨rfl, hw'⟩; subst w') | fail)
          go_roundw
          case rel => exact ⟨q + 1, by omega, (by first | rfl | trivial), by go_num, HN⟩
          case measure => simp [intOf]; omega
      · have iq : ¬ ((q : Int) < (t.size : Int)) := by omega
        have HR := hid (HRn.out q hq HJ.out (Or.inl (by omega)))
        have iqs : (q : Int) ≤ (t.size : Int) := by omega
        clear HRn HJ
        go_wp2_with fail
        go_ret
        exact ⟨by rw [HR.out]; rfl, rfl⟩
  · have ew : wln t 0 = rn digitB t 0 := by unfold wln; rw [hd]; rfl
    rw [ew]
    rw [← hb0, hd, hb0] at KD
    have HKD := hid KD
    have HRn : Hid (∀ q : Nat, q ≤ t.size → (∀ i, i < q → digitB (byteAt t i) = true) → (q = t.size ∨ digitB (byteAt t q) = false) → rn digitB t 0 = q) := hid fun q h1 h2 h3 => rn_eq (fun i hi => by rw [Nat.zero_add]; exact h2 i hi) (by omega) (by rw [Nat.zero_add]; exact h3)
    clear KD ew hb0 hd
    generalize rn digitB t 0 = n at *
    go_enter Tryd.func87, Tryd.ntmps87
    go_wp2_with (first | (go_at_call 100; refine HKD.out.mono ?_; rintro e w' ⟨rfl, hw'⟩; subst w') | fail)
    go_loopw [4] (fun x wr => ∃ q : Nat, q ≤ t.size ∧ wr = w ∧ x = .int .i64 (q : Int) ∧ Hid (∀ i, i < q → digitB (byteAt t i) = true)) (fun x _ => t.size - (intOf x).toNat)
    case atStart => exact ⟨0, Nat.zero_le _, rfl, rfl, hid fun i hi => by omega⟩
    case round =>
      clear HKD
      obtain ⟨q, hq, hw, rfl, HJ⟩ := hrel
      subst hw
      by_cases hlt : q < t.size
      · have iq : (q : Int) < (t.size : Int) := by omega
        have hbq := byteAt_eq t q hlt
        have K := isDigit_calls wr ((t[q]'hlt).toNat : Int)
        cases hn : digitB (byteAt t q)
        · have HR := hid (HRn.out q hq HJ.out (Or.inr hn))
          rw [← hbq, hn, hbq] at K
          have HK := hid K
          have iqs : (q : Int) ≤ (t.size : Int) := by omega
          clear K HRn HJ hn hbq
          go_wp2_with (first | (go_at_call 100; refine HK.out.mono ?_; rintro e w' ⟨rfl, hw'⟩; subst w') | fail)
          go_ret
          exact ⟨by rw [HR.out]; rfl, rfl⟩
        · have HN : Hid (∀ i, i < q + 1 → digitB (byteAt t i) = true) := hid fun i hi => by
            by_cases e : i = q
            · rw [e]; exact hn
            · exact HJ.out i (by omega)
          rw [← hbq, hn, hbq] at K
          have HK := hid K
          clear K HRn HJ hn hbq
          go_wp2_with (first | (go_at_call 100; refine HK.out.mono ?_; rintro e w' ⟨rfl, hw'⟩; subst w') | fail)
          go_roundw
          case rel => exact ⟨q + 1, by omega, (by first | rfl | trivial), by go_num, HN⟩
          case measure => simp [intOf]; omega
      · have iq : ¬ ((q : Int) < (t.size : Int)) := by omega
        have HR := hid (HRn.out q hq HJ.out (Or.inl (by omega)))
        have iqs : (q : Int) ≤ (t.size : Int) := by omega
        clear HRn HJ
        go_wp2_with fail
        go_ret
        exact ⟨by rw [HR.out]; rfl, rfl⟩

/-- how wordToken ends -/
def WtE (w : World) (s : ByteArray) (e : Ending) (w' : World) : Prop := ∃ k nm v, (wdG s = true → k = kdT (wtK s) ∧ nm = wdN s ∧ v = wtV s) ∧ e = .returned (.tuple #[.agg #[.string k, .string nm, .int .i64 ((v : Nat) : Int), .int .i64 0], .bool (wdG s)]) ∧ Below w.heap.size w w'

set_option maxHeartbeats 4000000 in
set_option maxRecDepth 1000000 in
theorem wordToken_calls (w : World) (s : ByteArray) (hs : s.size ≤ 1099511627) : Calls Tryd.prog 88 #[.string s] w (WtE w s) := by
  obtain ⟨W1, hW1⟩ : ∃ W, W = w.alloc (.cells #[.string ⟨#[]⟩, .string ⟨#[]⟩, .int .i64 0, .int .i64 0] 151) := ⟨_, rfl⟩
  have hb1 : Below w.heap.size w W1 := by rw [hW1]; exact (Below.refl _ _).alloc (Nat.le_refl _) _
  have hbl : W1.heap[w.heap.size]? = some (.cells #[.string ⟨#[]⟩, .string ⟨#[]⟩, .int .i64 0, .int .i64 0] 151 (0, 0)) := by rw [hW1]; exact heap_alloc_new _ _
  have hs1 : w.heap.size < W1.heap.size := by rw [hW1]; simp
  have KN := hid (isName_calls W1 s (by omega))
  generalize hE : WtE w s = E
  have HFin : Hid (∀ (W : World) (k nm : ByteArray) (v : Nat), W.heap[w.heap.size]? = some (.cells #[.string ⟨#[]⟩, .string ⟨#[]⟩, .int .i64 0, .int .i64 0] 151 (0, 0)) → Below w.heap.size w W → (wdG s = true → k = kdT (wtK s) ∧ nm = wdN s ∧ v = wtV s) → ∃ WF, WF = (((W.setCell ⟨w.heap.size, 0, none⟩ (.string k)).setCell ⟨w.heap.size, 1, none⟩ (.string nm)).setCell ⟨w.heap.size, 2, none⟩ (.int .i64 (v : Int))).setCell ⟨w.heap.size, 3, none⟩ (.int .i64 0) ∧ WF.heap[w.heap.size]? = some (.cells #[.string k, .string nm, .int .i64 (v : Int), .int .i64 0] 151 (0, 0)) ∧ E (.returned (.tuple #[.agg #[.string k, .string nm, .int .i64 (v : Int), .int .i64 0], .bool (wdG s)])) WF ∧ W.cell? ⟨w.heap.size, 0, none⟩ = some (.string ⟨#[]⟩) ∧ W.cell? ⟨w.heap.size, 1, none⟩ = some (.string ⟨#[]⟩) ∧ W.cell? ⟨w.heap.size, 2, none⟩ = some (.int .i64 0) ∧ W.cell? ⟨w.heap.size, 3, none⟩ = some (.int .i64 0) ∧ W.frozen? ⟨w.heap.size, 0, none⟩ = false ∧ W.frozen? ⟨w.heap.size, 1, none⟩ = false ∧ W.frozen? ⟨w.heap.size, 2, none⟩ = false ∧ W.frozen? ⟨w.heap.size, 3, none⟩ = false) := hid fun W k nm v hW hb hv => by
    have fr : ∀ q, W.frozen? ⟨w.heap.size, q, none⟩ = false := fun q => by unfold World.frozen?; rw [hW]; simp
    exact ⟨_, rfl, q4T hW, by rw [← hE]; exact ⟨k, nm, v, hv, rfl, (((hb.setCell (Nat.le_refl _) _).setCell (Nat.le_refl _) _).setCell (Nat.le_refl _) _).setCell (Nat.le_refl _) _⟩, cell_of_row _ _ _ _ _ _ hW, cell_of_row _ _ _ _ _ _ hW, cell_of_row _ _ _ _ _ _ hW, cell_of_row _ _ _ _ _ _ hW, fr 0, fr 1, fr 2, fr 3⟩
  clear hE
  cases hnm : nameB s
  case true =>
    rw [hnm] at KN
    have KC := hid (clone_calls s W1 (by omega))
    have hg : wdG s = true := by unfold wdG; rw [hnm]; rfl
    have HV : Hid (kdT 97 = kdT (wtK s) ∧ s = wdN s ∧ 0 = wtV s) := hid (by unfold wtK wdN wtV; rw [hnm]; exact ⟨rfl, rfl, rfl⟩)
    have HBL := hid hbl
    have HB1 := hid hb1
    rw [hg] at HFin
    clear hg hnm hbl hb1
    go_enter Tryd.func88, Tryd.ntmps88
    go_upto_region 1 with fail
    rw [← hW1]
    clear hW1
    go_upto_region 2 with (first | (go_at_call 101; refine KN.out.mono ?_; rintro e w' ⟨rfl, hw'⟩; subst w') | fail)
    clear KN
    go_cut [3] from 4 (fun x wx => x = .bool true ∧ Hid (wx.heap[w.heap.size]? = some (.cells #[.string ⟨#[97]⟩, .string s, .int .i64 0, .int .i64 0] 151 (0, 0)) ∧ E (.returned (.tuple #[.agg #[.string ⟨#[97]⟩, .string s, .int .i64 0, .int .i64 0], .bool true])) wx))
    case first =>
      go_wp2_with fail
      refine KC.out.mono ?_
      rintro e w2 ⟨rfl, hb2⟩
      obtain ⟨WF, hWF, hq, hEF, r0, r1, r2, r3, f0, f1, f2, f3⟩ := HFin.out w2 ⟨#[97]⟩ s 0 ((hb2.block w.heap.size hs1).trans HBL.out) (HB1.out.trans (hb2.mono (by omega))) (fun _ => HV.out)
      have HR : Hid (WF.heap[w.heap.size]? = some (.cells #[.string ⟨#[97]⟩, .string s, .int .i64 0, .int .i64 0] 151 (0, 0)) ∧ E (.returned (.tuple #[.agg #[.string ⟨#[97]⟩, .string s, .int .i64 0, .int .i64 0], .bool true])) WF) := hid ⟨hq, hEF⟩
      have HWF : Hid (WF = (((w2.setCell ⟨w.heap.size, 0, none⟩ (.string ⟨#[97]⟩)).setCell ⟨w.heap.size, 1, none⟩ (.string s)).setCell ⟨w.heap.size, 2, none⟩ (.int .i64 0)).setCell ⟨w.heap.size, 3, none⟩ (.int .i64 0)) := hid hWF
      clear hWF hq hEF hb2 KC HFin HV
      go_wp2_with fail
      go_meet
      exact ⟨rfl, by rw [← HWF.out]; exact HR⟩
    case rest =>
      obtain ⟨rfl, HH⟩ := hcut
      have hq := HH.out.1
      have HE := hid HH.out.2
      have q0 : wc.cell? ⟨w.heap.size, 0, none⟩ = some (.string ⟨#[97]⟩) := cell_of_row _ _ _ _ _ _ hq
      have q1 : wc.cell? ⟨w.heap.size, 1, none⟩ = some (.string s) := cell_of_row _ _ _ _ _ _ hq
      have q2 : wc.cell? ⟨w.heap.size, 2, none⟩ = some (.int .i64 0) := cell_of_row _ _ _ _ _ _ hq
      have q3 : wc.cell? ⟨w.heap.size, 3, none⟩ = some (.int .i64 0) := cell_of_row _ _ _ _ _ _ hq
      clear HH hq
      rename_i KK1 hKK1
      refine hKK1 _ _ ?_
      refine wp_ret ?_
      refine bodyPost_ret (v := .tuple #[.agg #[.string ⟨#[97]⟩, .string s, .int .i64 0, .int .i64 0], .bool true]) (by simp [results, Tryd.results88, go_sem, q0, q1, q2, q3]) rfl ?_
      exact HE.out
  case false =>
    rw [hnm] at KN
    have KT := hid (trimLeft_calls s W1)
    have HBL := hid hbl
    have HB1 := hid hb1
    by_cases h0 : (trmB s).size = 0
    · have et : trmB s = ⟨#[]⟩ := by
        generalize trmB s = t at h0
        obtain ⟨⟨l⟩⟩ := t
        simp [ByteArray.size] at h0
        simp [h0]
      have hg : wdG s = decide (s.size ≠ 0) := by unfold wdG; rw [hnm, if_neg (by decide), if_pos h0]
      have HV : Hid (kdT 48 = kdT (wtK s) ∧ ⟨#[]⟩ = wdN s ∧ 0 = wtV s) := hid (by unfold wtK wdN wtV; rw [hnm, if_pos h0]; exact ⟨rfl, rfl, rfl⟩)
      rw [et] at KT
      have hbe : (!s.toList.isEmpty) = wdG s := by
        rw [hg]
        by_cases hz : s.size = 0
        · have : s = ⟨#[]⟩ := by
            obtain ⟨⟨l⟩⟩ := s
            simp [ByteArray.size] at hz
            simp [hz]
          subst this
          simp only [ByteArray.toList_eq]; rfl
        · rw [not_empty hz, decide_eq_true hz]; rfl
      clear hg hnm hbl hb1 et h0
      generalize wdG s = gb at *
      go_enter Tryd.func88, Tryd.ntmps88
      go_upto_region 1 with fail
      rw [← hW1]
      clear hW1
      go_upto_region 5 with (first | (go_at_call 101; refine KN.out.mono ?_; rintro e w' ⟨rfl, hw'⟩; subst w') | (go_at_call 110; refine KT.out.mono ?_; rintro e w' ⟨rfl, hw'⟩; subst w') | fail)
      clear KN KT
      obtain ⟨WF, hWF, hq, hEF, r0, r1, r2, r3, f0, f1, f2, f3⟩ := HFin.out W1 ⟨#[48]⟩ ⟨#[]⟩ 0 HBL.out HB1.out (fun _ => HV.out)
      have HR : Hid (WF.heap[w.heap.size]? = some (.cells #[.string ⟨#[48]⟩, .string ⟨#[]⟩, .int .i64 0, .int .i64 0] 151 (0, 0)) ∧ E (.returned (.tuple #[.agg #[.string ⟨#[48]⟩, .string ⟨#[]⟩, .int .i64 0, .int .i64 0], .bool gb])) WF) := hid ⟨hq, hEF⟩
      have HWF : Hid (WF = (((W1.setCell ⟨w.heap.size, 0, none⟩ (.string ⟨#[48]⟩)).setCell ⟨w.heap.size, 1, none⟩ (.string ⟨#[]⟩)).setCell ⟨w.heap.size, 2, none⟩ (.int .i64 0)).setCell ⟨w.heap.size, 3, none⟩ (.int .i64 0)) := hid hWF
      clear hWF hq hEF HFin HV
      go_cut [3] from 4 (fun x wx => x = .bool gb ∧ Hid (wx.heap[w.heap.size]? = some (.cells #[.string ⟨#[48]⟩, .string ⟨#[]⟩, .int .i64 0, .int .i64 0] 151 (0, 0)) ∧ E (.returned (.tuple #[.agg #[.string ⟨#[48]⟩, .string ⟨#[]⟩, .int .i64 0, .int .i64 0], .bool gb])) wx))
      case first =>
        go_wp2_with fail
        go_meet
        exact ⟨by first | rfl | (rw [hbe]) | (simp [hbe]), by rw [← HWF.out]; exact HR⟩
      case rest =>
        obtain ⟨rfl, HH⟩ := hcut
        have hq := HH.out.1
        have HE := hid HH.out.2
        have q0 : wc.cell? ⟨w.heap.size, 0, none⟩ = some (.string ⟨#[48]⟩) := cell_of_row _ _ _ _ _ _ hq
        have q1 : wc.cell? ⟨w.heap.size, 1, none⟩ = some (.string ⟨#[]⟩) := cell_of_row _ _ _ _ _ _ hq
        have q2 : wc.cell? ⟨w.heap.size, 2, none⟩ = some (.int .i64 0) := cell_of_row _ _ _ _ _ _ hq
        have q3 : wc.cell? ⟨w.heap.size, 3, none⟩ = some (.int .i64 0) := cell_of_row _ _ _ _ _ _ hq
        clear HH hq
        rename_i KK1 hKK1
        refine hKK1 _ _ ?_
        refine wp_ret ?_
        refine bodyPost_ret (v := .tuple #[.agg #[.string ⟨#[48]⟩, .string ⟨#[]⟩, .int .i64 0, .int .i64 0], .bool gb]) (by simp [results, Tryd.results88, go_sem, q0, q1, q2, q3]) rfl ?_
        exact HE.out
    · have hne := not_empty h0
      have hg : wdG s = numG (trmB s) 1000000 := by unfold wdG; rw [hnm, if_neg (by decide), if_neg h0]
      have HV : Hid (kdT 48 = kdT (wtK s) ∧ ⟨#[]⟩ = wdN s ∧ numN (trmB s) 1000000 = wtV s) := hid (by unfold wtK wdN wtV; rw [hnm, if_neg (by decide), if_neg (by decide), if_neg (by decide), if_neg h0]; exact ⟨rfl, rfl, rfl⟩)
      have htl : (trmB s).size ≤ s.size := by
        have h1 := (List.dropWhile_sublist (l := s.data.toList) (fun b => b == 48)).length_le
        have h2 : (trmB s).size = (trm0 s.data.toList).length := by rw [← trmB_list]; simp
        rw [h2]
        have h3 : s.data.toList.length = s.size := by simp
        unfold trm0
        omega
      have KM := hid (readNumber_calls W1 (trmB s) 1000000 (by omega) (by omega))
      rw [hg] at HFin
      clear hg hnm hbl hb1 h0
      generalize trmB s = t at *
      generalize numN t 1000000 = nv at *
      generalize numG t 1000000 = gb at *
      go_enter Tryd.func88, Tryd.ntmps88
      go_upto_region 1 with fail
      rw [← hW1]
      clear hW1
      go_upto_region 7 with (first | (go_at_call 101; refine KN.out.mono ?_; rintro e w' ⟨rfl, hw'⟩; subst w') | (go_at_call 110; refine KT.out.mono ?_; rintro e w' ⟨rfl, hw'⟩; subst w') | (go_at_call 74; refine KM.out.mono ?_; rintro e w' ⟨rfl, hw'⟩; subst w') | fail)
      clear KN KT KM
      obtain ⟨WF, hWF, hq, hEF, r0, r1, r2, r3, f0, f1, f2, f3⟩ := HFin.out W1 ⟨#[48]⟩ ⟨#[]⟩ nv HBL.out HB1.out (fun _ => HV.out)
      have HR : Hid (WF.heap[w.heap.size]? = some (.cells #[.string ⟨#[48]⟩, .string ⟨#[]⟩, .int .i64 (nv : Int), .int .i64 0] 151 (0, 0)) ∧ E (.returned (.tuple #[.agg #[.string ⟨#[48]⟩, .string ⟨#[]⟩, .int .i64 (nv : Int), .int .i64 0], .bool gb])) WF) := hid ⟨hq, hEF⟩
      have HWF : Hid (WF = (((W1.setCell ⟨w.heap.size, 0, none⟩ (.string ⟨#[48]⟩)).setCell ⟨w.heap.size, 1, none⟩ (.string ⟨#[]⟩)).setCell ⟨w.heap.size, 2, none⟩ (.int .i64 (nv : Int))).setCell ⟨w.heap.size, 3, none⟩ (.int .i64 0)) := hid hWF
      clear hWF hq hEF HFin HV
      go_cut [3] from 4 (fun x wx => x = .bool gb ∧ Hid (wx.heap[w.heap.size]? = some (.cells #[.string ⟨#[48]⟩, .string ⟨#[]⟩, .int .i64 (nv : Int), .int .i64 0] 151 (0, 0)) ∧ E (.returned (.tuple #[.agg #[.string ⟨#[48]⟩, .string ⟨#[]⟩, .int .i64 (nv : Int), .int .i64 0], .bool gb])) wx))
      case first =>
        go_wp2_with fail
        go_meet
        exact ⟨rfl, by rw [← HWF.out]; exact HR⟩
      case rest =>
        obtain ⟨rfl, HH⟩ := hcut
        have hq := HH.out.1
        have HE := hid HH.out.2
        have q0 : wc.cell? ⟨w.heap.size, 0, none⟩ = some (.string ⟨#[48]⟩) := cell_of_row _ _ _ _ _ _ hq
        have q1 : wc.cell? ⟨w.heap.size, 1, none⟩ = some (.string ⟨#[]⟩) := cell_of_row _ _ _ _ _ _ hq
        have q2 : wc.cell? ⟨w.heap.size, 2, none⟩ = some (.int .i64 (nv : Int)) := cell_of_row _ _ _ _ _ _ hq
        have q3 : wc.cell? ⟨w.heap.size, 3, none⟩ = some (.int .i64 0) := cell_of_row _ _ _ _ _ _ hq
        clear HH hq
        rename_i KK1 hKK1
        refine hKK1 _ _ ?_
        refine wp_ret ?_
        refine bodyPost_ret (v := .tuple #[.agg #[.string ⟨#[48]⟩, .string ⟨#[]⟩, .int .i64 (nv : Int), .int .i64 0], .bool gb]) (by simp [results, Tryd.results88, go_sem, q0, q1, q2, q3]) rfl ?_
        exact HE.out

end Go.Proofs.YtcdfoephhjacdaaDoor
