import Derived.Deep.AppendLies
import Derived.Deep.CutBlock
import Derived.Deep.CutRange
import Derived.Test.YtcdfoephhjacdaaGreatDoorR17
/-
  spec.l3Lex.
-/
namespace Go.Proofs.YtcdfoephhjacdaaGreatDoor
open Go.RowKit

theorem new4_cell (w : World) (x y z u : Value) (t : TypeId) : ∀ j v, [x, y, z, u][j]? = some v → (w.alloc (.cells #[x, y, z, u] t)).cell? ((⟨w.heap.size, 0, none⟩ : Addr).add j) = some v := by
  intro j v hj
  have e : (⟨w.heap.size, 0, none⟩ : Addr).add j = ⟨w.heap.size, j, none⟩ := by unfold Addr.add; by_cases h0 : j = 0 <;> simp [h0]
  rw [e, World.cell?_alloc_at _ _ _ _ rfl]
  match j, hj with
  | 0, hj => simpa using hj
  | 1, hj => simpa using hj
  | 2, hj => simpa using hj
  | 3, hj => simpa using hj
  | j + 4, hj => simp at hj
theorem fl_snoc (acc : List TkV) (t : TkV) : (acc ++ [t]).flatMap stk = acc.flatMap stk ++ stk t := by rw [List.flatMap_append]; simp
theorem info_parts4 {P : Program} {t : TypeId} {z : Value} {n m : Nat} (h : (P.info? t).map (fun i => (i.zero, i.size, i.bytes)) = some (some z, n, m)) : ∃ i, P.info? t = some i ∧ i.zero = some z ∧ i.size = n ∧ i.bytes = m := by
  cases e : P.info? t with
  | none => rw [e] at h; cases h
  | some i =>
    rw [e] at h
    simp only [Option.map_some, Option.some.injEq, Prod.mk.injEq] at h
    exact ⟨i, rfl, h.1, h.2.1, h.2.2⟩

/-- the number that the model reads: it stays great once it is -/
structure Sat (l : List UInt8) (z : Nat) : Prop where
  le : dv l ≤ 1000000 → z = dv l
  gt : 1000000 < dv l → 1000000 < z
  most : z ≤ 10000009
theorem Sat.start : Sat [] 0 := ⟨fun _ => rfl, fun h => by simp [dv] at h, by omega⟩
theorem Sat.step {l : List UInt8} {z : Nat} {b : UInt8} (h : Sat l z) (hb : b.toNat - 48 ≤ 9) (hz : z ≤ 1000000) : Sat (l ++ [b]) (z * 10 + (b.toNat - 48)) := by
  have e := dv_snoc l b
  have h1 : z = dv l := by
    by_cases hd : dv l ≤ 1000000
    · exact h.le hd
    · have := h.gt (by omega); omega
  exact ⟨fun _ => by rw [e, h1], fun hg => by rw [e] at hg; rw [h1]; exact hg, by omega⟩
theorem Sat.over {l : List UInt8} {z : Nat} {b : UInt8} (h : Sat l z) (hz : 1000000 < z) : Sat (l ++ [b]) z := by
  have e := dv_snoc l b
  have h1 : 1000000 < dv l := by
    by_cases hd : dv l ≤ 1000000
    · have := h.le hd; omega
    · omega
  exact ⟨fun hd => by rw [e] at hd; omega, fun _ => hz, h.most⟩
theorem stretch_zero (s : ByteArray) (o : Nat) : stretch s o 0 = [] := by simp [stretch]
theorem stretch_succ {s : ByteArray} {o n : Nat} (h : o + n < s.size) : stretch s o (n + 1) = stretch s o n ++ [s.data.toList.getD (o + n) 0] := by
  unfold stretch
  rw [List.take_add_one, byte_drop h]
  rfl

theorem own_shapeT {w : World} {B n s : Nat} {e : TypeId} {v : Value} {xs : List Value} (h : w.ownsRow B e s v n xs) : ∃ a cap, v = .slice a n cap := by
  rcases h.2 with ⟨rfl, h2⟩ | ⟨g, cap, cur, rfl, -⟩
  · exact ⟨none, 0, by rw [h2]⟩
  · exact ⟨_, cap, rfl⟩
theorem nx_sep {s : ByteArray} {o : Nat} (h : sepB (byteAt s o) = true) : nx s o = some (none, 1) := by unfold nx; rw [if_pos h]
theorem nx_let {s : ByteArray} {o : Nat} (h0 : sepB (byteAt s o) = false) (h : letterB (byteAt s o) = true) : nx s o = if rn nbyteB s o ≤ 30 then some (some (97, s.extract o (o + rn nbyteB s o), 0), rn nbyteB s o) else none := by unfold nx; rw [if_neg (by rw [h0]; decide), if_pos h]
theorem nx_dig {s : ByteArray} {o : Nat} (h0 : sepB (byteAt s o) = false) (h1 : letterB (byteAt s o) = false) (h : digitB (byteAt s o) = true) : nx s o = if dv (stretch s o (rn digitB s o)) ≤ 1000000 then some (some (48, ⟨#[]⟩, dv (stretch s o (rn digitB s o))), rn digitB s o) else none := by unfold nx; rw [if_neg (by rw [h0]; decide), if_neg (by rw [h1]; decide), if_pos h]
theorem nx_oth {s : ByteArray} {o : Nat} (h0 : sepB (byteAt s o) = false) (h1 : letterB (byteAt s o) = false) (h2 : digitB (byteAt s o) = false) : nx s o = if byteAt s o = 58 then (if o + 1 < s.size ∧ byteAt s (o + 1) = 45 then some (some (58, ⟨#[]⟩, 0), 2) else none) else if symB (byteAt s o) then some (some ((byteAt s o).toNat, ⟨#[]⟩, 0), 1) else none := by unfold nx; rw [if_neg (by rw [h0]; decide), if_neg (by rw [h1]; decide), if_neg (by rw [h2]; decide)]
theorem sep_no {c : Int} (h : sepB c = false) : (c == 9) = false ∧ (c == 10) = false ∧ (c == 13) = false ∧ (c == 32) = false := by
  unfold sepB at h
  simp only [Bool.or_eq_false_iff, decide_eq_false_iff_not] at h
  simp [h]
theorem sym_no {c : Int} (h : symB c = false) : (c == 40) = false ∧ (c == 41) = false ∧ (c == 44) = false ∧ (c == 59) = false ∧ (c == 46) = false := by
  unfold symB at h
  simp only [Bool.or_eq_false_iff, decide_eq_false_iff_not] at h
  simp [h]
theorem one_sym {s : ByteArray} {o c : Nat} (ho : o < s.size) (hc : byteAt s o = (c : Int)) (hc8 : c < 256) : s.extract o (o + 1) = ⟨#[UInt8.ofNat c]⟩ := by
  have hle : s.data.toList.length = s.size := by simp
  have hl : o < s.data.toList.length := by omega
  have hb : s.data.toList.getD o 0 = UInt8.ofNat c := by
    have : ((s.data.toList.getD o 0).toNat : Int) = (c : Int) := hc
    exact UInt8.toNat_inj.1 (by rw [UInt8.toNat_ofNat_of_lt' (by simpa using hc8)]; omega)
  rw [List.getD_eq_getElem?_getD, List.getElem?_eq_getElem hl, Option.getD_some] at hb
  have e : (s.data.toList.take (o + 1)).drop o = [UInt8.ofNat c] := by
    rw [List.take_add_one, List.getElem?_eq_getElem hl, List.drop_append_of_le_length (by rw [List.length_take]; omega), List.drop_eq_nil_of_le (by rw [List.length_take]; omega), hb]; rfl
  have ex : s.extract o (o + 1) = ⟨((s.data.toList.take (o + 1)).drop o).toArray⟩ := by
    have : (s.extract o (o + 1)).data.toList = (s.data.toList.take (o + 1)).drop o := by
      rw [ByteArray.data_extract, Array.toList_extract, List.extract_eq_take_drop]
      rw [List.drop_take]
    rw [← this]
  rw [ex, e]


theorem stretch_eq {s : ByteArray} {o q : Nat} (h1 : o ≤ q) (hq : q < s.size) : stretch s o (q + 1 - o) = stretch s o (q - o) ++ [s.data.toList.getD q 0] := by
  rw [show q + 1 - o = (q - o) + 1 by omega, stretch_succ (by omega), show o + (q - o) = q by omega]
theorem byteAt_get (s : ByteArray) (q : Nat) (h : q < s.size) : (s.data.toList.getD q 0).toNat = (s[q]'h).toNat := by
  have := byteAt_eq s q h
  unfold byteAt at this
  omega
theorem sym_eq {c : Int} (h : c = 40 ∨ c = 41 ∨ c = 44 ∨ c = 59 ∨ c = 46) : (c == 40) = true ∨ ((c == 40) = false ∧ (c == 41) = true) ∨ ((c == 40) = false ∧ (c == 41) = false ∧ (c == 44) = true) ∨ ((c == 40) = false ∧ (c == 41) = false ∧ (c == 44) = false ∧ (c == 59) = true) ∨ ((c == 40) = false ∧ (c == 41) = false ∧ (c == 44) = false ∧ (c == 59) = false ∧ (c == 46) = true) := by
  rcases h with rfl | rfl | rfl | rfl | rfl <;> simp
theorem dig_iff {x : Int} : digitB x = true ↔ 48 ≤ x ∧ x ≤ 57 := by
  unfold digitB
  simp
theorem dig_sat {s : ByteArray} {o q z : Nat} (h : Sat (stretch s o (q - o)) z) (h1 : o ≤ q) (hq : q < s.size) (hd : digitB (byteAt s q) = true) : (z ≤ 1000000 → Sat (stretch s o (q + 1 - o)) (z * 10 + ((s[q]'hq).toNat - 48))) ∧ (1000000 < z → Sat (stretch s o (q + 1 - o)) z) := by
  rw [stretch_eq h1 hq]
  have e := byteAt_get s q hq
  rw [byteAt_eq s q hq] at hd
  have := dig_iff.1 hd
  refine ⟨fun hz => ?_, fun hz => h.over hz⟩
  rw [← e]
  exact h.step (by omega) hz

end Go.Proofs.YtcdfoephhjacdaaGreatDoor
