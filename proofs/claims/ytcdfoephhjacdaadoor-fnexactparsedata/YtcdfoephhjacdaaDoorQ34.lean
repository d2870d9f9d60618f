import Derived.Lib.CountLaws
import Derived.Shelf.Strings.Split
import Derived.Test.YtcdfoephhjacdaaDoorProg
import Derived.Test.YtcdfoephhjacdaaDoorQ30
/-
  The library's cutting at one byte is ours.
-/
namespace Go.Proofs.YtcdfoephhjacdaaDoor

theorem spl_part (c : UInt8) : ∀ l : List UInt8, (∀ x ∈ l, x ≠ c) ∨ ∃ a r, l = a ++ c :: r ∧ ∀ x ∈ a, x ≠ c
  | [] => Or.inl fun x hx => by cases hx
  | x :: l => by
    by_cases e : x = c
    · exact Or.inr ⟨[], l, by rw [e]; rfl, fun y hy => by cases hy⟩
    · rcases spl_part c l with h | ⟨a, r, h1, h2⟩
      · exact Or.inl fun y hy => by
          rcases List.mem_cons.1 hy with rfl | hy
          · exact e
          · exact h y hy
      · exact Or.inr ⟨x :: a, r, by rw [h1]; rfl, fun y hy => by
          rcases List.mem_cons.1 hy with rfl | hy
          · exact e
          · exact h2 y hy⟩
theorem occ_no {l : List UInt8} {c : UInt8} {j : Nat} (h : l[j]? ≠ some c) : Lib.occAt l [c] j = false := by
  cases e : Lib.occAt l [c] j
  · rfl
  · exact absurd (Lib.occAt_head rfl e) h
theorem split_spl (c : UInt8) : ∀ (k : Nat) (l : List UInt8), l.length ≤ k → Lib.splitK [c] 0 (Lib.count l [c]) l = spl c l := by
  intro k
  induction k with
  | zero =>
    intro l h
    obtain rfl : l = [] := List.length_eq_zero_iff.1 (by omega)
    rw [Lib.count_miss (Lib.index_none fun j hj => occ_no (by simp))]
    rfl
  | succ k ih =>
    intro l h
    rcases spl_part c l with h1 | ⟨a, r, rfl, h2⟩
    · rw [Lib.count_miss (Lib.index_none fun j hj => occ_no fun e => h1 c (List.mem_of_getElem? e) rfl), spl_none h1]
      rfl
    · have hi : Lib.index (a ++ c :: r) [c] = (a.length : Int) := Lib.index_first (by simp) (by unfold Lib.occAt; simp) fun j hj => occ_no fun e => by
        rw [List.getElem?_append_left hj] at e
        exact h2 c (List.mem_of_getElem? e) rfl
      have hd : (a ++ c :: r).drop (a.length + 1) = r := by
        rw [← List.drop_drop, List.drop_left]; rfl
      rw [Lib.count_hit (by simp) hi, List.length_singleton, hd, Nat.add_comm 1, Lib.splitK, if_neg (by rw [hi]; simp), hi, List.length_singleton, spl_cut r h2]
      show List.take (a.length + 0) (a ++ c :: r) :: Lib.splitK [c] 0 (Lib.count r [c]) (List.drop (a.length + 1) (a ++ c :: r)) = _
      rw [hd, Nat.add_zero, List.take_left, ih r (by rw [List.length_append, List.length_cons] at h; omega)]

theorem splitB_spl (s : ByteArray) (c : UInt8) : Lib.splitB ⟨#[c]⟩ 0 (Lib.countB s ⟨#[c]⟩) s = (spl c s.data.toList).map fun l => ⟨l.toArray⟩ := by
  have h := Lib.splitB_data ⟨#[c]⟩ 0 (Lib.countB s ⟨#[c]⟩) s
  have h2 : Lib.splitK [c] 0 (Lib.countB s ⟨#[c]⟩) s.data.toList = spl c s.data.toList := split_spl c _ _ (Nat.le_refl _)
  rw [show (⟨#[c]⟩ : ByteArray).data.toList = [c] from rfl, h2] at h
  rw [← h, List.map_map]
  symm
  rw [List.map_congr_left (g := id) (fun x _ => by simp), List.map_id]

end Go.Proofs.YtcdfoephhjacdaaDoor

namespace Go.Proofs
open Go.Shelf
def Tryd.lays146_ren : Go.Shelf.Ren := ⟨fun | 146 => 17 | 221 => 38 | 268 => 70 | 138 => 71 | 143 => 72 | 195 => 95 | 197 => 96 | 218 => 97 | 219 => 98 | 260 => 116 | 217 => 107 | 225 => 117 | 224 => 118 | 267 => 119 | 266 => 126 | 314 => 133 | n => n, fun | 9 => 9 | 31 => 30 | 3 => 3 | 4 => 4 | 0 => 0 | 105 => 176 | 21 => 21 | 5 => 5 | 46 => 191 | 119 => 206 | 139 => 209 | 138 => 208 | 146 => 211 | 51 => 210 | n => n, fun | 1 => 2 | 3 => 3 | 4 => 4 | n => n⟩
theorem Tryd.lays146 : Go.Proofs.Lays.n146 Tryd.prog Tryd.lays146_ren := {
  mixed := by kernel_rfl
  f138 := Tryd.func71.trans (congrArg some (by kernel_rfl))
  f143 := Tryd.func72.trans (congrArg some (by kernel_rfl))
  f146 := Tryd.func17.trans (congrArg some (by kernel_rfl))
  f195 := Tryd.func95.trans (congrArg some (by kernel_rfl))
  f197 := Tryd.func96.trans (congrArg some (by kernel_rfl))
  f217 := Tryd.func107.trans (congrArg some (by kernel_rfl))
  f218 := Tryd.func97.trans (congrArg some (by kernel_rfl))
  f219 := Tryd.func98.trans (congrArg some (by kernel_rfl))
  f221 := Tryd.func38.trans (congrArg some (by kernel_rfl))
  f224 := Tryd.func118.trans (congrArg some (by kernel_rfl))
  f225 := Tryd.func117.trans (congrArg some (by kernel_rfl))
  f260 := Tryd.func116.trans (congrArg some (by kernel_rfl))
  f266 := Tryd.func126.trans (congrArg some (by kernel_rfl))
  f267 := Tryd.func119.trans (congrArg some (by kernel_rfl))
  f268 := Tryd.func70.trans (congrArg some (by kernel_rfl))
  f314 := Tryd.func133.trans (congrArg some (by kernel_rfl))
  t0 := Tryd.underlying0
  a0 := Tryd.isAgg0
  z0 := Tryd.sizeOf0
  v0 := Tryd.zeroValue0
  t3 := Tryd.underlying3
  a3 := Tryd.isAgg3
  z3 := Tryd.sizeOf3
  v3 := Tryd.zeroValue3
  t4 := Tryd.underlying4
  a4 := Tryd.isAgg4
  z4 := Tryd.sizeOf4
  v4 := Tryd.zeroValue4
  t5 := Tryd.underlying5
  a5 := Tryd.isAgg5
  z5 := Tryd.sizeOf5
  v5 := Tryd.zeroValue5
  t9 := Tryd.underlying9
  a9 := Tryd.isAgg9
  z9 := Tryd.sizeOf9
  v9 := Tryd.zeroValue9
  t21 := Tryd.underlying21
  a21 := Tryd.isAgg21
  z21 := Tryd.sizeOf21
  v21 := Tryd.zeroValue21
  t31 := Tryd.underlying30
  a31 := Tryd.isAgg30
  z31 := Tryd.sizeOf30
  v31 := Tryd.zeroValue30
  t46 := Tryd.underlying191
  a46 := Tryd.isAgg191
  z46 := Tryd.sizeOf191
  v46 := Tryd.zeroValue191
  t51 := Tryd.underlying210
  a51 := Tryd.isAgg210
  z51 := Tryd.sizeOf210
  v51 := Tryd.zeroValue210
  t105 := Tryd.underlying176
  a105 := Tryd.isAgg176
  z105 := Tryd.sizeOf176
  v105 := Tryd.zeroValue176
  t119 := Tryd.underlying206
  a119 := Tryd.isAgg206
  z119 := Tryd.sizeOf206
  t138 := Tryd.underlying208
  a138 := Tryd.isAgg208
  z138 := Tryd.sizeOf208
  v138 := Tryd.zeroValue208
  t139 := Tryd.underlying209
  a139 := Tryd.isAgg209
  z139 := Tryd.sizeOf209
  v139 := Tryd.zeroValue209
  t146 := Tryd.underlying211
  a146 := Tryd.isAgg211
  z146 := Tryd.sizeOf211
  v146 := Tryd.zeroValue211
  g1 := by kernel_rfl
  g3 := by kernel_rfl
  g4 := by kernel_rfl }
end Go.Proofs
