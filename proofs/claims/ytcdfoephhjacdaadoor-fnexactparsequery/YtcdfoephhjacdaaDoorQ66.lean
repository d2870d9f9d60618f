import Derived.Deep.AppendLies
import Derived.Deep.CutBlock
import Derived.Deep.CutRange
import Derived.Test.YtcdfoephhjacdaaDoorQ58
/-
  spec.l3Lex.
-/
namespace Go.Proofs.YtcdfoephhjacdaaDoor
open Go.RowKit

theorem new4_cell (w : World) (x y z u : Value) (t : TypeId) : ∀ j v, [x, y, z, u][j]? = some v → (w.alloc (.cells #[x, y, z, u] t)).cell? ((⟨w.heap.size, 0, none⟩ : Addr).add j) = some v := by
  intro j v hj
  have e : (⟨w.heap.size, 0, none⟩ : Addr).add j = ⟨w.heap.size, j, none⟩ := by unfold Addr.add; by_cases h0 : j = 0 <;> simp [h0]
  rw [e, World.cell?_alloc_at _ _ _ _ rfl]
  match j, hj with
  | 0, hj => simpa using hj
  | 1, hj => simpa using hj
  | 2, hj => simpa using hj
  | 3, hj => simpa using hj
  | j + 4, hj => simp at hj
theorem Tryd.infoTkS : (Tryd.prog.info? 57).map (fun i => (i.zero, i.size, i.bytes)) = some (some (.agg #[.int .u8 0, .string ⟨#[]⟩, .int .i64 0, .int .i64 0]), 4, 40) := by kernel_rfl
theorem fl_snoc (acc : List TkV) (t : TkV) : (acc ++ [t]).flatMap stk = acc.flatMap stk ++ stk t := by rw [List.flatMap_append]; simp
theorem info_parts4 {P : Program} {t : TypeId} {z : Value} {n m : Nat} (h : (P.info? t).map (fun i => (i.zero, i.size, i.bytes)) = some (some z, n, m)) : ∃ i, P.info? t = some i ∧ i.zero = some z ∧ i.size = n ∧ i.bytes = m := by
  cases e : P.info? t with
  | none => rw [e] at h; cases h
  | some i =>
    rw [e] at h
    simp only [Option.map_some, Option.some.injEq, Prod.mk.injEq] at h
    exact ⟨i, rfl, h.1, h.2.1, h.2.2⟩

/-- the number that the model reads: it stays great once it is -/
structure Sat (l : List UInt8) (z : Nat) : Prop where
  le : dv l ≤ 1000000 → z = dv l
  gt : 1000000 < dv l → 1000000 < z
  most : z ≤ 10000009
theorem Sat.start : Sat [] 0 := ⟨fun _ => rfl, fun h => by simp [dv] at h, by omega⟩
theorem Sat.step {l : List UInt8} {z : Nat} {b : UInt8} (h : Sat l z) (hb : b.toNat - 48 ≤ 9) (hz : z ≤ 1000000) : Sat (l ++ [b]) (z * 10 + (b.toNat - 48)) := by
  have e := dv_snoc l b
  have h1 : z = dv l := by
    by_cases hd : dv l ≤ 1000000
    · exact h.le hd
    · have := h.gt (by omega); omega
  exact ⟨fun _ => by rw [e, h1], fun hg => by rw [e] at hg; rw [h1]; exact hg, by omega⟩
theorem Sat.over {l : List UInt8} {z : Nat} {b : UInt8} (h : Sat l z) (hz : 1000000 < z) : Sat (l ++ [b]) z := by
  have e := dv_snoc l b
  have h1 : 1000000 < dv l := by
    by_cases hd : dv l ≤ 1000000
    · have := h.le hd; omega
    · omega
  exact ⟨fun hd => by rw [e] at hd; omega, fun _ => hz, h.most⟩
theorem stretch_zero (s : ByteArray) (o : Nat) : stretch s o 0 = [] := by simp [stretch]
theorem stretch_succ {s : ByteArray} {o n : Nat} (h : o + n < s.size) : stretch s o (n + 1) = stretch s o n ++ [s.data.toList.getD (o + n) 0] := by
  unfold stretch
  rw [List.take_add_one, byte_drop h]
  rfl

/-- how spec.l3Lex ends -/
def LexE (w : World) (s : ByteArray) (e : Ending) (w' : World) : Prop := ∃ a cap z, e = .returned (.tuple #[.slice a (lexA s).1.length cap, .int .i64 z]) ∧ z = (match (lexA s).2 with | none => -1 | some o => (o : Int)) ∧ w'.ownsRow w.heap.size 57 4 (.slice a (lexA s).1.length cap) (lexA s).1.length ((lexA s).1.flatMap stk) ∧ Below w.heap.size w w'
/-- the state of the loop -/
def LxS (w : World) (s : ByteArray) (o : Nat) (acc : List TkV) (x : Value) (wr : World) : Prop := LexI s o acc ∧ acc.length ≤ o ∧ wr.ownsRow w.heap.size 57 4 x acc.length (acc.flatMap stk) ∧ Below w.heap.size w wr
theorem own_shapeT {w : World} {B n s : Nat} {e : TypeId} {v : Value} {xs : List Value} (h : w.ownsRow B e s v n xs) : ∃ a cap, v = .slice a n cap := by
  rcases h.2 with ⟨rfl, h2⟩ | ⟨g, cap, cur, rfl, -⟩
  · exact ⟨none, 0, by rw [h2]⟩
  · exact ⟨_, cap, rfl⟩
theorem LxS.bad {w wr : World} {s : ByteArray} {o : Nat} {acc : List TkV} {x : Value} (h : LxS w s o acc x wr) (ho : o < s.size) (hn : nx s o = none) : LexE w s (.returned (.tuple #[x, .int .i64 (o : Int)])) wr := by
  obtain ⟨a, cap, e⟩ := own_shapeT h.2.2.1
  have hl := h.1.bad ho hn
  subst e
  refine ⟨a, cap, _, ?_, rfl, ?_, h.2.2.2⟩
  · rw [hl]
  · rw [hl]; exact h.2.2.1
theorem LxS.done {w wr : World} {s : ByteArray} {acc : List TkV} {x : Value} (h : LxS w s s.size acc x wr) : LexE w s (.returned (.tuple #[x, .int .i64 (-1)])) wr := by
  obtain ⟨a, cap, e⟩ := own_shapeT h.2.2.1
  have hl := h.1.done
  subst e
  refine ⟨a, cap, _, ?_, rfl, ?_, h.2.2.2⟩
  · rw [hl]
  · rw [hl]; exact h.2.2.1
theorem LxS.tok {w wr w3 : World} {s : ByteArray} {o n k v : Nat} {nm : ByteArray} {acc : List TkV} {x x' : Value} {ob : Obj} (h : LxS w s o acc x wr) (ho : o < s.size) (hn : nx s o = some (some (k, nm, v), n)) (h1 : 0 < n) (h2 : o + n ≤ s.size)
    (hown : w3.ownsRow w.heap.size 57 4 x' (acc.length + 1) (acc.flatMap stk ++ stk ⟨k, nm, v, o⟩)) (hg : (wr.alloc ob).grownBy w3 x.ownBlock) : LxS w s (o + n) (acc ++ [⟨k, nm, v, o⟩]) x' w3 := by
  refine ⟨h.1.tok ho hn h1 h2, by rw [List.length_append, List.length_singleton]; have := h.2.1; omega, ?_, ?_⟩
  · rw [List.length_append, List.length_singleton, fl_snoc]; exact hown
  · have hs := h.2.2.2.size
    exact (h.2.2.2.alloc hs _).grown hg (by simp; omega) (fun g hg => (h.2.2.1.lt g hg).1)

theorem nx_sep {s : ByteArray} {o : Nat} (h : sepB (byteAt s o) = true) : nx s o = some (none, 1) := by unfold nx; rw [if_pos h]
theorem nx_let {s : ByteArray} {o : Nat} (h0 : sepB (byteAt s o) = false) (h : letterB (byteAt s o) = true) : nx s o = if rn nbyteB s o ≤ 30 then some (some (97, s.extract o (o + rn nbyteB s o), 0), rn nbyteB s o) else none := by unfold nx; rw [if_neg (by rw [h0]; decide), if_pos h]
theorem nx_dig {s : ByteArray} {o : Nat} (h0 : sepB (byteAt s o) = false) (h1 : letterB (byteAt s o) = false) (h : digitB (byteAt s o) = true) : nx s o = if dv (stretch s o (rn digitB s o)) ≤ 1000000 then some (some (48, ⟨#[]⟩, dv (stretch s o (rn digitB s o))), rn digitB s o) else none := by unfold nx; rw [if_neg (by rw [h0]; decide), if_neg (by rw [h1]; decide), if_pos h]
theorem nx_oth {s : ByteArray} {o : Nat} (h0 : sepB (byteAt s o) = false) (h1 : letterB (byteAt s o) = false) (h2 : digitB (byteAt s o) = false) : nx s o = if byteAt s o = 58 then (if o + 1 < s.size ∧ byteAt s (o + 1) = 45 then some (some (58, ⟨#[]⟩, 0), 2) else none) else if symB (byteAt s o) then some (some ((byteAt s o).toNat, ⟨#[]⟩, 0), 1) else none := by unfold nx; rw [if_neg (by rw [h0]; decide), if_neg (by rw [h1]; decide), if_neg (by rw [h2]; decide)]
theorem sep_no {c : Int} (h : sepB c = false) : (c == 9) = false ∧ (c == 10) = false ∧ (c == 13) = false ∧ (c == 32) = false := by
  unfold sepB at h
  simp only [Bool.or_eq_false_iff, decide_eq_false_iff_not] at h
  simp [h]
theorem sym_no {c : Int} (h : symB c = false) : (c == 40) = false ∧ (c == 41) = false ∧ (c == 44) = false ∧ (c == 59) = false ∧ (c == 46) = false := by
  unfold symB at h
  simp only [Bool.or_eq_false_iff, decide_eq_false_iff_not] at h
  simp [h]
theorem one_sym {s : ByteArray} {o c : Nat} (ho : o < s.size) (hc : byteAt s o = (c : Int)) (hc8 : c < 256) : s.extract o (o + 1) = ⟨#[UInt8.ofNat c]⟩ := by
  have hle : s.data.toList.length = s.size := by simp
  have hl : o < s.data.toList.length := by omega
  have hb : s.data.toList.getD o 0 = UInt8.ofNat c := by
    have : ((s.data.toList.getD o 0).toNat : Int) = (c : Int) := hc
    exact UInt8.toNat_inj.1 (by rw [UInt8.toNat_ofNat_of_lt' (by simpa using hc8)]; omega)
  rw [List.getD_eq_getElem?_getD, List.getElem?_eq_getElem hl, Option.getD_some] at hb
  have e : (s.data.toList.take (o + 1)).drop o = [UInt8.ofNat c] := by
    rw [List.take_add_one, List.getElem?_eq_getElem hl, List.drop_append_of_le_length (by rw [List.length_take]; omega), List.drop_eq_nil_of_le (by rw [List.length_take]; omega), hb]; rfl
  have ex : s.extract o (o + 1) = ⟨((s.data.toList.take (o + 1)).drop o).toArray⟩ := by
    have : (s.extract o (o + 1)).data.toList = (s.data.toList.take (o + 1)).drop o := by
      rw [ByteArray.data_extract, Array.toList_extract, List.extract_eq_take_drop]
      rw [List.drop_take]
    rw [← this]
  rw [ex, e]


theorem stretch_eq {s : ByteArray} {o q : Nat} (h1 : o ≤ q) (hq : q < s.size) : stretch s o (q + 1 - o) = stretch s o (q - o) ++ [s.data.toList.getD q 0] := by
  rw [show q + 1 - o = (q - o) + 1 by omega, stretch_succ (by omega), show o + (q - o) = q by omega]
theorem byteAt_get (s : ByteArray) (q : Nat) (h : q < s.size) : (s.data.toList.getD q 0).toNat = (s[q]'h).toNat := by
  have := byteAt_eq s q h
  unfold byteAt at this
  omega
theorem sym_eq {c : Int} (h : c = 40 ∨ c = 41 ∨ c = 44 ∨ c = 59 ∨ c = 46) : (c == 40) = true ∨ ((c == 40) = false ∧ (c == 41) = true) ∨ ((c == 40) = false ∧ (c == 41) = false ∧ (c == 44) = true) ∨ ((c == 40) = false ∧ (c == 41) = false ∧ (c == 44) = false ∧ (c == 59) = true) ∨ ((c == 40) = false ∧ (c == 41) = false ∧ (c == 44) = false ∧ (c == 59) = false ∧ (c == 46) = true) := by
  rcases h with rfl | rfl | rfl | rfl | rfl <;> simp
theorem dig_iff {x : Int} : digitB x = true ↔ 48 ≤ x ∧ x ≤ 57 := by
  unfold digitB
  simp
theorem dig_sat {s : ByteArray} {o q z : Nat} (h : Sat (stretch s o (q - o)) z) (h1 : o ≤ q) (hq : q < s.size) (hd : digitB (byteAt s q) = true) : (z ≤ 1000000 → Sat (stretch s o (q + 1 - o)) (z * 10 + ((s[q]'hq).toNat - 48))) ∧ (1000000 < z → Sat (stretch s o (q + 1 - o)) z) := by
  rw [stretch_eq h1 hq]
  have e := byteAt_get s q hq
  rw [byteAt_eq s q hq] at hd
  have := dig_iff.1 hd
  refine ⟨fun hz => ?_, fun hz => h.over hz⟩
  rw [← e]
  exact h.step (by omega) hz

set_option maxHeartbeats 16000000 in
set_option maxRecDepth 1000000 in
theorem l3Lex_calls (w : World) (s : ByteArray) (hs : s.size ≤ 1048576) : Calls Tryd.prog 23 #[.string s] w (LexE w s) := by
  obtain ⟨iT, hi, hz0, hz1, hz2⟩ := info_parts4 Tryd.infoTkS
  have HS0 : Hid (LxS w s 0 [] (.slice (some ⟨w.heap.size, 0, none⟩) 0 0) (w.alloc (.cells #[] 57))) := hid ⟨LexI.start s, Nat.zero_le _, World.ownsRow_made w #[] 0 (Nat.le_refl _) (by unfold maxLen; omega) rfl, (Below.refl _ _).alloc (Nat.le_refl _) _⟩
  generalize hE : LexE w s = E
  have HBad : Hid (∀ o acc x wr, LxS w s o acc x wr → o < s.size → nx s o = none → E (.returned (.tuple #[x, .int .i64 (o : Int)])) wr) := hid fun o acc x wr h h1 h2 => by rw [← hE]; exact h.bad h1 h2
  have HDone : Hid (∀ acc x wr, LxS w s s.size acc x wr → E (.returned (.tuple #[x, .int .i64 (-1)])) wr) := hid fun acc x wr h => by rw [← hE]; exact h.done
  clear hE
  go_enter Tryd.func23, Tryd.ntmps23
  go_wp2
  go_loopw [4, 5] (fun x t wr => ∃ (o : Nat) (acc : List TkV) (vx : Value), o ≤ s.size ∧ t = .int .i64 o ∧ vx = x ∧ Hid (LxS w s o acc vx wr)) (fun _ t _ => s.size - (intOf t).toNat)
  case atStart => exact ⟨0, [], _, Nat.zero_le _, rfl, rfl, HS0⟩
  case round =>
    clear HS0
    obtain ⟨o, acc, vx, hos, rfl, rfl, HL⟩ := hrel
    by_cases ho : o < s.size
    · have i1 : (o : Int) < (s.size : Int) := by omega
      have hb := byteAt_eq s o ho
      have hal := HL.out.2.1
      have HO := hid HL.out.2.2.1
      have HSz := hid HL.out.2.2.2.size
      cases hsep : sepB (byteAt s o)
      case true =>
        as_aux_lemma =>
          have HN : Hid (LxS w s (o + 1) acc vx wr) := hid ⟨HL.out.1.sep ho (nx_sep hsep) (by omega) (by omega), by omega, HL.out.2.2.1, HL.out.2.2.2⟩
          have hcs : byteAt s o = 9 ∨ byteAt s o = 10 ∨ byteAt s o = 13 ∨ byteAt s o = 32 := by
            unfold sepB at hsep
            simp only [Bool.or_eq_true, decide_eq_true_eq] at hsep
            omega
          rw [hb] at hcs
          clear HL HO hsep hb HBad HDone HSz
          rcases hcs with hc | hc | hc | hc
          all_goals
            go_wp2_with fail
            go_roundw
            case rel => exact ⟨o + 1, acc, vx, by omega, by go_num, rfl, HN⟩
            case measure => simp [intOf]; omega
      case false =>
        have hsn := sep_no hsep
        rw [hb] at hsn
        obtain ⟨n9, n10, n13, n32⟩ := hsn
        have KL := l2Letter_calls wr ((s[o]'ho).toNat : Int)
        have KD := l2Digit_calls wr ((s[o]'ho).toNat : Int)
        cases hlet : letterB (byteAt s o)
        case true =>
          have HNX := hid (nx_let hsep hlet)
          have HNB : Hid (nbyteB (byteAt s o) = true) := hid (by unfold nbyteB; rw [hlet]; rfl)
          have HRn : Hid (∀ q : Nat, o ≤ q → q ≤ s.size → (∀ i, o ≤ i → i < q → nbyteB (byteAt s i) = true) → (q = s.size ∨ nbyteB (byteAt s q) = false) → rn nbyteB s o = q - o ∧ o < q) := hid fun q h0 h1 h2 h3 => by
            refine ⟨rn_eq (fun i hi => h2 _ (by omega) (by omega)) (by omega) (by rw [show o + (q - o) = q by omega]; exact h3), ?_⟩
            by_cases e : o = q
            · subst e
              rcases h3 with h3 | h3
              · omega
              · rw [HNB.out] at h3; cases h3
            · omega
          rw [hb] at hlet
          rw [hlet] at KL
          have HKL := hid KL
          clear KL KD hsep hlet hb
          go_upto_block 3 with (first | (go_at_call 48; refine HKL.out.mono ?_; rintro e w' ⟨rfl, hw'⟩; subst w') | fail)
          clear HKL
          go_cut [6] from 46 to 69 (fun t wx => ∃ q : Nat, t = .int .i64 (q : Int) ∧ wx = wr ∧ o < q ∧ q ≤ s.size ∧ Hid (rn nbyteB s o = q - o))
          case first =>
            as_aux_lemma =>
              clear HBad HDone HL HO HSz HNX hal
              go_wp2_with fail
              generalize wr = W2 at *
              go_loopw [6] (fun t wr => ∃ q : Nat, o ≤ q ∧ q ≤ s.size ∧ t = .int .i64 (q : Int) ∧ wr = W2 ∧ Hid (∀ i, o ≤ i → i < q → nbyteB (byteAt s i) = true)) (fun t _ => s.size - (intOf t).toNat)
              case atStart => exact ⟨o, Nat.le_refl _, hos, rfl, rfl, hid fun i h1 h2 => by omega⟩
              case round =>
                obtain ⟨q, hoq, hqs, rfl, hw, HJ⟩ := hrel
                subst hw
                by_cases hq : q < s.size
                · have iq : (q : Int) < (s.size : Int) := by omega
                  have hbq := byteAt_eq s q hq
                  have KL := l2Letter_calls wr ((s[q]'hq).toNat : Int)
                  have KD := l2Digit_calls wr ((s[q]'hq).toNat : Int)
                  have HNxt : Hid (nbyteB (byteAt s q) = true → ∀ i, o ≤ i → i < q + 1 → nbyteB (byteAt s i) = true) := hid fun h i h1 h2 => by
                    by_cases e : i = q
                    · rw [e]; exact h
                    · exact HJ.out i h1 (by omega)
                  cases hl1 : letterB (byteAt s q)
                  · cases hd1 : digitB (byteAt s q)
                    · by_cases h95 : byteAt s q = 95
                      · have HN := hid (HNxt.out (by unfold nbyteB; rw [hl1, hd1, decide_eq_true h95]; rfl))
                        have h95' : ((((s[q]'hq).toNat : Int)) == 95) = true := by rw [← hbq]; simpa using h95
                        rw [hbq] at hl1 hd1
                        rw [hl1] at KL
                        rw [hd1] at KD
                        have HKL := hid KL
                        have HKD := hid KD
                        clear KL KD HNxt HJ hl1 hd1 hbq h95
                        go_wp2_with (first | (go_at_call 48; refine HKL.out.mono ?_; rintro e w' ⟨rfl, hw'⟩; subst w') | (go_at_call 49; refine HKD.out.mono ?_; rintro e w' ⟨rfl, hw'⟩; subst w') | fail)
                        go_roundw
                        case rel => exact ⟨q + 1, by omega, by omega, by go_num, (by first | rfl | trivial), HN⟩
                        case measure => simp [intOf]; omega
                      · have hstop : q = s.size ∨ nbyteB (byteAt s q) = false := Or.inr (by unfold nbyteB; rw [hl1, hd1, decide_eq_false h95]; rfl)
                        have h95' : ((((s[q]'hq).toNat : Int)) == 95) = false := by rw [← hbq]; simpa using h95
                        rw [hbq] at hl1 hd1
                        rw [hl1] at KL
                        rw [hd1] at KD
                        have HKL := hid KL
                        have HKD := hid KD
                        have HRq := hid (HRn.out q hoq hqs HJ.out hstop)
                        clear KL KD HNxt hl1 hd1 hbq h95 HJ HRn hstop
                        go_wp2_with (first | (go_at_call 48; refine HKL.out.mono ?_; rintro e w' ⟨rfl, hw'⟩; subst w') | (go_at_call 49; refine HKD.out.mono ?_; rintro e w' ⟨rfl, hw'⟩; subst w') | fail)
                        go_meet
                        exact ⟨q, rfl, rfl, HRq.out.2, hqs, hid HRq.out.1⟩
                    · have HN := hid (HNxt.out (by unfold nbyteB; rw [hl1, hd1]; rfl))
                      rw [hbq] at hl1 hd1
                      rw [hl1] at KL
                      rw [hd1] at KD
                      have HKL := hid KL
                      have HKD := hid KD
                      clear KL KD HNxt HJ hl1 hd1 hbq
                      go_wp2_with (first | (go_at_call 48; refine HKL.out.mono ?_; rintro e w' ⟨rfl, hw'⟩; subst w') | (go_at_call 49; refine HKD.out.mono ?_; rintro e w' ⟨rfl, hw'⟩; subst w') | fail)
                      go_roundw
                      case rel => exact ⟨q + 1, by omega, by omega, by go_num, (by first | rfl | trivial), HN⟩
                      case measure => simp [intOf]; omega
                  · have HN := hid (HNxt.out (by unfold nbyteB; rw [hl1]; rfl))
                    rw [hbq] at hl1
                    rw [hl1] at KL
                    have HKL := hid KL
                    clear KL KD HNxt HJ hl1 hbq
                    go_wp2_with (first | (go_at_call 48; refine HKL.out.mono ?_; rintro e w' ⟨rfl, hw'⟩; subst w') | fail)
                    go_roundw
                    case rel => exact ⟨q + 1, by omega, by omega, by go_num, (by first | rfl | trivial), HN⟩
                    case measure => simp [intOf]; omega
                · have iq : ¬ ((q : Int) < (s.size : Int)) := by omega
                  have HRq := hid (HRn.out q hoq hqs HJ.out (Or.inl (by omega)))
                  clear HJ HRn
                  go_wp2_with fail
                  go_meet
                  exact ⟨q, rfl, rfl, HRq.out.2, hqs, hid HRq.out.1⟩
          case rest =>
          obtain ⟨q, rfl, hw, hoq, hqs, HRq⟩ := hcut
          subst wc
          have ioq : (o : Int) ≤ (q : Int) := by omega
          have iqs : (q : Int) ≤ (s.size : Int) := by omega
          by_cases h30 : q - o ≤ 30
          · have hnx : nx s o = some (some (97, s.extract o q, 0), q - o) := by rw [HNX.out, HRq.out, if_pos h30, show o + (q - o) = q by omega]
            as_aux_lemma =>
              have HTok : Hid (∀ (w8 : World) (x' : Value) (ob : Obj), w8.ownsRow w.heap.size 57 4 x' (acc.length + 1) (acc.flatMap stk ++ [.int .u8 110, .string (s.extract o q), .int .i64 0, .int .i64 (o : Int)]) → (wr.alloc ob).grownBy w8 vx.ownBlock → LxS w s q (acc ++ [⟨97, s.extract o q, 0, o⟩]) x' w8) := hid fun w8 x' ob h1 h2 => by
                have := HL.out.tok ho hnx (by omega) (by omega) h1 h2
                rw [show o + (q - o) = q by omega] at this
                exact this
              have i30 : ¬ ((30 : Int) < (q : Int) - (o : Int)) := by omega
              clear HRq HNX HRn hnx HBad HDone HNB HL
              go_wp2_with (first | (at_builtin; refine wpList_append_lies _ rfl _ _ 49 rfl w.heap.size 57 iT (.agg #[.int .u8 0, .string ⟨#[]⟩, .int .i64 0, .int .i64 0]) 4 40 Tryd.underlying49 hi hz0 hz1 hz2 rfl (by decide) vx acc.length (acc.flatMap stk) rfl (HO.out.alloc _) ⟨_, 0, none⟩ 1 1 [.int .u8 110, .string (s.extract o q), .int .i64 0, .int .i64 (o : Int)] rfl rfl (new4_cell _ _ _ _ _ _) (fun u hu => by simp at hu; rcases hu with rfl | rfl | rfl | rfl <;> rfl) (by decide) (by unfold maxLen; omega) (by omega) (by have := HSz.out; simp; omega) _ rfl ?_; intro g8 cp8 w8 hown8 hgrow8 hat8 hlt8; have HN8 := hid (HTok.out w8 _ _ hown8 hgrow8); clear hown8 hgrow8 hat8 hlt8) | fail)
              go_roundw
              case rel => exact ⟨q, _, _, by omega, by go_num, rfl, HN8⟩
              case measure => simp [intOf]; omega
          · have hnx : nx s o = none := by rw [HNX.out, HRq.out, if_neg h30]
            as_aux_lemma =>
              have HE := hid (HBad.out o acc vx wr HL.out ho hnx)
              have i30 : (30 : Int) < (q : Int) - (o : Int) := by omega
              clear HRq HNX HRn hnx HBad HDone HNB HL
              go_wp2_with fail
              exact HE.out
        case false =>
          cases hdig : digitB (byteAt s o)
          case true =>
            have HNX := hid (nx_dig hsep hlet hdig)
            have HNB : Hid (digitB (byteAt s o) = true) := hid hdig
            have HRn : Hid (∀ q : Nat, o ≤ q → q ≤ s.size → (∀ i, o ≤ i → i < q → digitB (byteAt s i) = true) → (q = s.size ∨ digitB (byteAt s q) = false) → rn digitB s o = q - o ∧ o < q) := hid fun q h0 h1 h2 h3 => by
              refine ⟨rn_eq (fun i hi => h2 _ (by omega) (by omega)) (by omega) (by rw [show o + (q - o) = q by omega]; exact h3), ?_⟩
              by_cases e : o = q
              · subst e
                rcases h3 with h3 | h3
                · omega
                · rw [HNB.out] at h3; cases h3
              · omega
            rw [hb] at hlet hdig
            rw [hlet] at KL
            rw [hdig] at KD
            have HKL := hid KL
            have HKD := hid KD
            clear KL KD hsep hlet hdig hb
            go_upto_block 5 with (first | (go_at_call 48; refine HKL.out.mono ?_; rintro e w' ⟨rfl, hw'⟩; subst w') | (go_at_call 49; refine HKD.out.mono ?_; rintro e w' ⟨rfl, hw'⟩; subst w') | fail)
            clear HKL HKD
            go_cut [6, 7] from 90 to 111 (fun t u wx => ∃ q z : Nat, t = .int .i64 (q : Int) ∧ u = .int .i64 (z : Int) ∧ wx = wr ∧ o < q ∧ q ≤ s.size ∧ z ≤ 10000009 ∧ Hid (rn digitB s o = q - o) ∧ Hid (Sat (stretch s o (q - o)) z))
            case first =>
              as_aux_lemma =>
                clear HBad HDone HL HO HSz HNX hal
                go_wp2_with fail
                generalize wr = W2 at *
                go_loopw [6, 7] (fun t u wr => ∃ q z : Nat, o ≤ q ∧ q ≤ s.size ∧ z ≤ 10000009 ∧ t = .int .i64 (q : Int) ∧ u = .int .i64 (z : Int) ∧ wr = W2 ∧ Hid (∀ i, o ≤ i → i < q → digitB (byteAt s i) = true) ∧ Hid (Sat (stretch s o (q - o)) z)) (fun t _ _ => s.size - (intOf t).toNat)
                case atStart => exact ⟨o, 0, Nat.le_refl _, hos, by omega, rfl, rfl, rfl, hid fun i h1 h2 => by omega, hid (by rw [Nat.sub_self, stretch_zero]; exact Sat.start)⟩
                case round =>
                  obtain ⟨q, z, hoq, hqs, hz, rfl, rfl, hw, HJ, HZ⟩ := hrel
                  subst hw
                  by_cases hq : q < s.size
                  · have iq : (q : Int) < (s.size : Int) := by omega
                    have hbq := byteAt_eq s q hq
                    have KD := l2Digit_calls wr ((s[q]'hq).toNat : Int)
                    have HNxt : Hid (digitB (byteAt s q) = true → ∀ i, o ≤ i → i < q + 1 → digitB (byteAt s i) = true) := hid fun h i h1 h2 => by
                      by_cases e : i = q
                      · rw [e]; exact h
                      · exact HJ.out i h1 (by omega)
                    cases hd1 : digitB (byteAt s q)
                    · have HRq := hid (HRn.out q hoq hqs HJ.out (Or.inr hd1))
                      rw [hbq] at hd1
                      rw [hd1] at KD
                      have HKD := hid KD
                      clear KD HNxt hd1 hbq HJ HRn
                      go_wp2_with (first | (go_at_call 49; refine HKD.out.mono ?_; rintro e w' ⟨rfl, hw'⟩; subst w') | fail)
                      go_meet
                      exact ⟨q, z, rfl, rfl, rfl, HRq.out.2, hqs, hz, hid HRq.out.1, HZ⟩
                    · have HN := hid (HNxt.out hd1)
                      have HS2 := hid (dig_sat HZ.out hoq hq hd1)
                      rw [hbq] at hd1
                      rw [hd1] at KD
                      have HKD := hid KD
                      obtain ⟨d1, d2⟩ := dig_iff.1 hd1
                      clear KD HNxt hd1 hbq HJ HRn HZ
                      by_cases hzz : z ≤ 1000000
                      · have HZ2 := hid (HS2.out.1 hzz)
                        have iz : (z : Int) ≤ 1000000 := by omega
                        generalize hbv : (s[q]'hq).toNat = b at *
                        have hw1 : IntKind.u8.wrap ((b : Int) - 48) = (b : Int) - 48 := by simp [IntKind.wrap, IntKind.bits, IntKind.signed]; omega
                        clear HS2
                        go_wp2_with (first | (go_at_call 49; refine HKD.out.mono ?_; rintro e w' ⟨rfl, hw'⟩; subst w') | fail)
                        go_roundw
                        case rel => exact ⟨q + 1, z * 10 + (b - 48), by omega, by omega, by omega, by go_num, by congr 1; first | omega | (simp [IntKind.wrap, IntKind.bits, IntKind.signed]; omega), (by first | rfl | trivial), HN, HZ2⟩
                        case measure => simp [intOf]; omega
                      · have HZ2 := hid (HS2.out.2 (by omega))
                        have iz : ¬ ((z : Int) ≤ 1000000) := by omega
                        clear HS2 d1 d2
                        go_wp2_with (first | (go_at_call 49; refine HKD.out.mono ?_; rintro e w' ⟨rfl, hw'⟩; subst w') | fail)
                        go_roundw
                        case rel => exact ⟨q + 1, z, by omega, by omega, hz, by go_num, rfl, (by first | rfl | trivial), HN, HZ2⟩
                        case measure => simp [intOf]; omega
                  · have iq : ¬ ((q : Int) < (s.size : Int)) := by omega
                    have HRq := hid (HRn.out q hoq hqs HJ.out (Or.inl (by omega)))
                    clear HJ HRn
                    go_wp2_with fail
                    go_meet
                    exact ⟨q, z, rfl, rfl, rfl, HRq.out.2, hqs, hz, hid HRq.out.1, HZ⟩
            case rest =>
            obtain ⟨q, z, rfl, rfl, hw, hoq, hqs, hzm, HRq, HZ⟩ := hcut
            subst wc
            by_cases hzz : z ≤ 1000000
            · have hdz : dv (stretch s o (q - o)) = z := by
                by_cases hd : dv (stretch s o (q - o)) ≤ 1000000
                · exact (HZ.out.le hd).symm
                · have := HZ.out.gt (by omega); omega
              have hnx : nx s o = some (some (48, ⟨#[]⟩, z), q - o) := by rw [HNX.out, HRq.out, hdz, if_pos hzz]
              as_aux_lemma =>
                have HTok : Hid (∀ (w8 : World) (x' : Value) (ob : Obj), w8.ownsRow w.heap.size 57 4 x' (acc.length + 1) (acc.flatMap stk ++ [.int .u8 100, .string ⟨#[]⟩, .int .i64 (z : Int), .int .i64 (o : Int)]) → (wr.alloc ob).grownBy w8 vx.ownBlock → LxS w s q (acc ++ [⟨48, ⟨#[]⟩, z, o⟩]) x' w8) := hid fun w8 x' ob h1 h2 => by
                  have := HL.out.tok ho hnx (by omega) (by omega) h1 h2
                  rw [show o + (q - o) = q by omega] at this
                  exact this
                have iz : ¬ ((1000000 : Int) < (z : Int)) := by omega
                clear HRq HNX HRn hnx HBad HDone HNB HL HZ hdz
                go_wp2_with (first | (at_builtin; refine wpList_append_lies _ rfl _ _ 49 rfl w.heap.size 57 iT (.agg #[.int .u8 0, .string ⟨#[]⟩, .int .i64 0, .int .i64 0]) 4 40 Tryd.underlying49 hi hz0 hz1 hz2 rfl (by decide) vx acc.length (acc.flatMap stk) rfl (HO.out.alloc _) ⟨_, 0, none⟩ 1 1 [.int .u8 100, .string ⟨#[]⟩, .int .i64 (z : Int), .int .i64 (o : Int)] rfl rfl (new4_cell _ _ _ _ _ _) (fun u hu => by simp at hu; rcases hu with rfl | rfl | rfl | rfl <;> rfl) (by decide) (by unfold maxLen; omega) (by omega) (by have := HSz.out; simp; omega) _ rfl ?_; intro g8 cp8 w8 hown8 hgrow8 hat8 hlt8; have HN8 := hid (HTok.out w8 _ _ hown8 hgrow8); clear hown8 hgrow8 hat8 hlt8) | fail)
                go_roundw
                case rel => exact ⟨q, _, _, by omega, by go_num, rfl, HN8⟩
                case measure => simp [intOf]; omega
            · have hdz : 1000000 < dv (stretch s o (q - o)) := by
                by_cases hd : dv (stretch s o (q - o)) ≤ 1000000
                · have := HZ.out.le hd; omega
                · omega
              have hnx : nx s o = none := by rw [HNX.out, HRq.out, if_neg (by omega)]
              as_aux_lemma =>
                have HE := hid (HBad.out o acc vx wr HL.out ho hnx)
                have iz : (1000000 : Int) < (z : Int) := by omega
                clear HRq HNX HRn hnx HBad HDone HNB HL HZ hdz
                go_wp2_with fail
                exact HE.out
          case false =>
            have hnx0 := nx_oth hsep hlet hdig
            have HB := hid hb
            have HKL : Hid (Calls Tryd.prog 48 #[.int .u8 ((s[o]'ho).toNat : Int)] wr fun e w' => e = .returned (.bool false) ∧ w' = wr) := hid (by rw [hb] at hlet; rw [hlet] at KL; exact KL)
            have HKD : Hid (Calls Tryd.prog 49 #[.int .u8 ((s[o]'ho).toNat : Int)] wr fun e w' => e = .returned (.bool false) ∧ w' = wr) := hid (by rw [hb] at hdig; rw [hdig] at KD; exact KD)
            clear KL KD hsep hlet hdig
            by_cases h58 : byteAt s o = 58
            · rw [if_pos h58] at hnx0
              as_aux_lemma =>
                have hc58 : (((s[o]'ho).toNat : Int) == 58) = true := by rw [← hb]; simpa using h58
                clear hb h58 HB
                by_cases ho1 : o + 1 < s.size
                · have i2 : ¬ ((s.size : Int) ≤ (o : Int) + 1) := by omega
                  have i3 : (o : Int) + 1 < (s.size : Int) := by omega
                  have hb1 := byteAt_eq s (o + 1) ho1
                  by_cases h45 : byteAt s (o + 1) = 45
                  · rw [if_pos ⟨ho1, h45⟩] at hnx0
                    have hc45 : (((s[o + 1]'ho1).toNat : Int) != 45) = false := by rw [← hb1, h45]; rfl
                    have HTok : Hid (∀ (w8 : World) (x' : Value) (ob : Obj), w8.ownsRow w.heap.size 57 4 x' (acc.length + 1) (acc.flatMap stk ++ [.int .u8 115, .string ⟨#[58, 45]⟩, .int .i64 0, .int .i64 (o : Int)]) → (wr.alloc ob).grownBy w8 vx.ownBlock → LxS w s (o + 2) (acc ++ [⟨58, ⟨#[]⟩, 0, o⟩]) x' w8) := hid fun w8 x' ob h1 h2 => by
                      exact HL.out.tok ho hnx0 (by omega) (by omega) h1 h2
                    clear hnx0 HBad HDone HL hb1 h45
                    go_wp2_with (first | (go_at_call 48; refine HKL.out.mono ?_; rintro e w' ⟨rfl, hw'⟩; subst w') | (go_at_call 49; refine HKD.out.mono ?_; rintro e w' ⟨rfl, hw'⟩; subst w') | (at_builtin; refine wpList_append_lies _ rfl _ _ 49 rfl w.heap.size 57 iT (.agg #[.int .u8 0, .string ⟨#[]⟩, .int .i64 0, .int .i64 0]) 4 40 Tryd.underlying49 hi hz0 hz1 hz2 rfl (by decide) vx acc.length (acc.flatMap stk) rfl (HO.out.alloc _) ⟨_, 0, none⟩ 1 1 [.int .u8 115, .string ⟨#[58, 45]⟩, .int .i64 0, .int .i64 (o : Int)] rfl rfl (new4_cell _ _ _ _ _ _) (fun u hu => by simp at hu; rcases hu with rfl | rfl | rfl | rfl <;> rfl) (by decide) (by unfold maxLen; omega) (by omega) (by have := HSz.out; simp; omega) _ rfl ?_; intro g8 cp8 w8 hown8 hgrow8 hat8 hlt8; have HN8 := hid (HTok.out w8 _ _ hown8 hgrow8); clear hown8 hgrow8 hat8 hlt8) | fail)
                    go_roundw
                    case rel => exact ⟨o + 2, _, _, by omega, by go_num, rfl, HN8⟩
                    case measure => simp [intOf]; omega
                  · rw [if_neg (fun e => h45 e.2)] at hnx0
                    have hc45 : (((s[o + 1]'ho1).toNat : Int) != 45) = true := by rw [← hb1]; simpa using h45
                    have HE := hid (HBad.out o acc vx wr HL.out ho hnx0)
                    clear hnx0 HBad HDone HL hb1 h45
                    go_wp2_with (first | (go_at_call 48; refine HKL.out.mono ?_; rintro e w' ⟨rfl, hw'⟩; subst w') | (go_at_call 49; refine HKD.out.mono ?_; rintro e w' ⟨rfl, hw'⟩; subst w') | fail)
                    exact HE.out
                · rw [if_neg (fun e => ho1 e.1)] at hnx0
                  have i2 : (s.size : Int) ≤ (o : Int) + 1 := by omega
                  have HE := hid (HBad.out o acc vx wr HL.out ho hnx0)
                  clear hnx0 HBad HDone HL
                  go_wp2_with (first | (go_at_call 48; refine HKL.out.mono ?_; rintro e w' ⟨rfl, hw'⟩; subst w') | (go_at_call 49; refine HKD.out.mono ?_; rintro e w' ⟨rfl, hw'⟩; subst w') | fail)
                  exact HE.out
            · rw [if_neg h58] at hnx0
              have n58 : (((s[o]'ho).toNat : Int) == 58) = false := by rw [← hb]; simpa using h58
              cases hsym : symB (byteAt s o)
              case true =>
                rw [if_pos hsym] at hnx0
                as_aux_lemma =>
                  have hcs : byteAt s o = 40 ∨ byteAt s o = 41 ∨ byteAt s o = 44 ∨ byteAt s o = 59 ∨ byteAt s o = 46 := by
                    unfold symB at hsym
                    simp only [Bool.or_eq_true, decide_eq_true_eq] at hsym
                    omega
                  have HTok : Hid (∀ (w8 : World) (x' : Value) (ob : Obj), w8.ownsRow w.heap.size 57 4 x' (acc.length + 1) (acc.flatMap stk ++ [.int .u8 115, .string (s.extract o (o + 1)), .int .i64 0, .int .i64 (o : Int)]) → (wr.alloc ob).grownBy w8 vx.ownBlock → LxS w s (o + 1) (acc ++ [⟨(byteAt s o).toNat, ⟨#[]⟩, 0, o⟩]) x' w8) := hid fun w8 x' ob h1 h2 => by
                    refine HL.out.tok ho hnx0 (by omega) (by omega) ?_ h2
                    rcases hcs with hc | hc | hc | hc | hc
                    all_goals
                      rw [one_sym ho hc (by decide)] at h1
                      rw [hc]
                      exact h1
                  have ioq : (o : Int) ≤ (o : Int) + 1 := by omega
                  have iqs : (o : Int) + 1 ≤ (s.size : Int) := by omega
                  have hfs := sym_eq hcs
                  rw [hb] at hfs
                  clear hcs
                  have hoo : ((o + 1 : Nat) : Int) = (o : Int) + 1 := by omega
                  clear HBad HDone HL hb HB hsym h58 hnx0
                  rcases hfs with f40 | ⟨f40, f41⟩ | ⟨f40, f41, f44⟩ | ⟨f40, f41, f44, f59⟩ | ⟨f40, f41, f44, f59, f46⟩
                  all_goals
                    go_wp2_with (first | (go_at_call 48; refine HKL.out.mono ?_; rintro e w' ⟨rfl, hw'⟩; subst w') | (go_at_call 49; refine HKD.out.mono ?_; rintro e w' ⟨rfl, hw'⟩; subst w') | (at_builtin; refine wpList_append_lies _ rfl _ _ 49 rfl w.heap.size 57 iT (.agg #[.int .u8 0, .string ⟨#[]⟩, .int .i64 0, .int .i64 0]) 4 40 Tryd.underlying49 hi hz0 hz1 hz2 rfl (by decide) vx acc.length (acc.flatMap stk) rfl (HO.out.alloc _) ⟨_, 0, none⟩ 1 1 [.int .u8 115, .string (s.extract o (o + 1)), .int .i64 0, .int .i64 (o : Int)] rfl rfl (new4_cell _ _ _ _ _ _) (fun u hu => by simp at hu; rcases hu with rfl | rfl | rfl | rfl <;> rfl) (by decide) (by unfold maxLen; omega) (by omega) (by have := HSz.out; simp; omega) _ rfl ?_; intro g8 cp8 w8 hown8 hgrow8 hat8 hlt8; have HN8 := hid (HTok.out w8 _ _ hown8 hgrow8); clear hown8 hgrow8 hat8 hlt8) | fail)
                    go_roundw
                    case rel => exact ⟨o + 1, _, _, by omega, by go_num, rfl, HN8⟩
                    case measure => simp [intOf]; omega
              case false =>
                rw [if_neg (by rw [hsym]; decide)] at hnx0
                as_aux_lemma =>
                  have hsn := sym_no hsym
                  rw [hb] at hsn
                  obtain ⟨m40, m41, m44, m59, m46⟩ := hsn
                  have HE := hid (HBad.out o acc vx wr HL.out ho hnx0)
                  clear hnx0 HBad HDone HL hb HB hsym h58
                  go_wp2_with (first | (go_at_call 48; refine HKL.out.mono ?_; rintro e w' ⟨rfl, hw'⟩; subst w') | (go_at_call 49; refine HKD.out.mono ?_; rintro e w' ⟨rfl, hw'⟩; subst w') | fail)
                  exact HE.out
    · obtain rfl : o = s.size := by omega
      as_aux_lemma =>
        have i1 : ¬ ((s.size : Int) < (s.size : Int)) := by omega
        have HE := hid (HDone.out acc vx wr HL.out)
        clear HL HBad HDone
        go_wp2_with fail
        exact HE.out

end Go.Proofs.YtcdfoephhjacdaaDoor
