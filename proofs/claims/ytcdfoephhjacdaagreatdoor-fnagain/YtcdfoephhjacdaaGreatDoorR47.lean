import Derived.Deep.CutRange
import Derived.Deep.RegionLaw
import Derived.Laws.BytesArg
import Derived.Lib.AppendStr
import Derived.Lib.UnsafeStr
import Derived.Shelf.Strconv.Itoa3
import Derived.Shelf.Strings.Builder1
import Derived.Shelf.Strings.BuilderK
import Derived.Shelf.Strings.OnBuilder
import Derived.Test.YtcdfoephhjacdaaGreatDoorR10
import Derived.Test.YtcdfoephhjacdaaGreatDoorR12
import Derived.Test.YtcdfoephhjacdaaGreatDoorR14
/-
  spec.PrintData.
-/
namespace Go.Proofs.YtcdfoephhjacdaaGreatDoor
open Go.RowKit

theorem Tryz.infoByte : (Tryz.prog.info? 5).map (fun i => (i.zero, i.size, i.bytes)) = some (some (.int .u8 0), 1, 1) := by kernel_rfl

/-- a relation's block -/
structure RXp (W : World) (p : Nat) (nm : ByteArray) (ar : Int) (v2 v3 : Value) : Prop where
  blk : W.heap[p]? = some (.cells #[.string nm, .int .i64 ar, v2, v3] 45 (0, 0))
section
variable {W W' w3 : World} {p : Nat} {nm : ByteArray} {ar : Int} {v2 v3 : Value}
theorem RXp.lt (h : RXp W p nm ar v2 v3) : p < W.heap.size := by
  rcases Nat.lt_or_ge p W.heap.size with h1 | h1
  · exact h1
  · have := h.blk; rw [Array.getElem?_eq_none h1] at this; cases this
theorem RXp.below (h : RXp W p nm ar v2 v3) (hb : Below W.heap.size W W') : RXp W' p nm ar v2 v3 := ⟨(hb.block p h.lt).trans h.blk⟩
theorem RXp.c0 (h : RXp W p nm ar v2 v3) : W.cell? ⟨p, 0, none⟩ = some (.string nm) := by rw [cell_of_row _ _ _ _ _ _ h.blk]; rfl
theorem RXp.c1 (h : RXp W p nm ar v2 v3) : W.cell? ⟨p, 1, none⟩ = some (.int .i64 ar) := by rw [cell_of_row _ _ _ _ _ _ h.blk]; rfl
theorem RXp.c2 (h : RXp W p nm ar v2 v3) : W.cell? ⟨p, 2, none⟩ = some v2 := by rw [cell_of_row _ _ _ _ _ _ h.blk]; rfl
theorem RXp.c3 (h : RXp W p nm ar v2 v3) : W.cell? ⟨p, 3, none⟩ = some v3 := by rw [cell_of_row _ _ _ _ _ _ h.blk]; rfl
theorem RXp.made (W : World) (nm : ByteArray) (ar : Int) (v2 v3 : Value) : RXp (W.alloc (.cells #[.string nm, .int .i64 ar, v2, v3] 45)) W.heap.size nm ar v2 v3 := ⟨heap_alloc_new _ _⟩
theorem RXp.typ (h : RXp W p nm ar v2 v3) : ∃ cur, W.heap[p]? = some (.cells cur 45 (0, 0)) := ⟨_, h.blk⟩
theorem RXp.grown {B s n : Nat} {u : Value} {e : TypeId} {xs : List Value} (h : RXp W p nm ar v2 v3) (hu : W.ownsRow B e s u n xs) (he : e ≠ 45) (hg : W.grownBy w3 u.ownBlock) : RXp w3 p nm ar v2 v3 := ⟨(hg.block p h.lt (own_ne hu h.typ he)).trans h.blk⟩
end

/-- the bytes so far -/
structure OB (w W : World) (v : Value) (l : List UInt8) : Prop where
  bw : Below w.heap.size w W
  own : W.ownsRow w.heap.size 5 1 v l.length (Lib.byteCells l)
theorem OB.below {w W W' : World} {v : Value} {l : List UInt8} (h : OB w W v l) (hb : Below W.heap.size W W') : OB w W' v l := ⟨bt h.bw hb, own_below h.own hb⟩
theorem OB.push {w W w3 : World} {v v' : Value} {l l2 : List UInt8} {s : ByteArray} (h : OB w W v l) (hs : s = ⟨l2.toArray⟩) (hown : w3.ownsRow w.heap.size 5 1 v' (l.length + s.size) (Lib.byteCells l ++ Lib.strCells s)) (hg : W.grownBy w3 v.ownBlock) : OB w w3 v' (l ++ l2) := by
  have hz : s.size = l2.length := by rw [hs]; show l2.toArray.size = _; simp
  have e : Lib.strCells s = Lib.byteCells l2 := by rw [hs]; simp [Lib.strCells, Lib.byteCells]
  refine ⟨h.bw.grown hg h.bw.size (fun q hq => (h.own.lt q hq).1), ?_⟩
  rw [hz, e] at hown
  rw [List.length_append]
  unfold Lib.byteCells at *
  rw [List.map_append]
  exact hown

end Go.Proofs.YtcdfoephhjacdaaGreatDoor

/-
  spec.PrintData, walked.
-/
namespace Go.Proofs.YtcdfoephhjacdaaGreatDoor
open Go.RowKit

theorem OB.conv {w W : World} {a : Option Addr} {n cap : Nat} {l : List UInt8} (h : OB w W (.slice a n cap) l) : (convert 22 9 (.slice a n cap)).run Tryz.prog W = .ok (.string ⟨l.toArray⟩) W := by
  rcases h.own.2 with ⟨e, hn⟩ | ⟨g, c, cur, e, -, hg, hnc, -, -, ht⟩
  · simp only [Value.slice.injEq] at e
    obtain ⟨rfl, rfl, rfl⟩ := e
    rw [run_convert_bytes_nil W 22 5 Tryz.underlying22 Tryz.underlying5 0 0 9 Tryz.underlying9]
    rw [List.length_eq_zero_iff.1 hn]
    rfl
  · simp only [Value.slice.injEq] at e
    obtain ⟨rfl, rfl, rfl⟩ := e
    rw [run_convert_bytes_arg W 22 5 Tryz.underlying22 Tryz.underlying5 g 0 l.length cap (l.map fun b => (b.toNat : Int)) (by simp) (fun i hi => ?_) 9 Tryz.underlying9]
    · congr 1
      unfold strOfNums
      simp only [List.map_map]
      congr 3
      conv => rhs; rw [← List.map_id l]
      exact List.map_congr_left fun b _ => by simp
    · have hl : (Lib.byteCells l)[i]? = some (.int .u8 (l[i].toNat : Int)) := by unfold Lib.byteCells; rw [List.getElem?_map, List.getElem?_eq_getElem hi]; rfl
      rw [Nat.zero_add, cell_of_row _ _ _ _ _ _ hg, ← Array.getElem?_toList, ← List.getElem?_take_of_lt (i := i) (j := l.length * 1) (by omega), ht, hl, List.getD_eq_getElem?_getD, List.getElem?_map, List.getElem?_eq_getElem hi]
      rfl

def prtT (ds : List RelV) : List UInt8 := if dataB ds = true then datT ds ds.length else []

end Go.Proofs.YtcdfoephhjacdaaGreatDoor

namespace Go.Proofs
open Go.Shelf
def Tryz.lays156_ren : Go.Shelf.Ren := ⟨fun | 156 => 31 | 165 => 56 | 166 => 43 | 167 => 44 | 169 => 26 | 240 => 74 | 241 => 86 | 276 => 99 | 277 => 111 | n => n, fun | 31 => 26 | 9 => 9 | 3 => 3 | 4 => 4 | 0 => 0 | 20 => 20 | 72 => 69 | 76 => 101 | 70 => 67 | 37 => 22 | 75 => 74 | 127 => 104 | 164 => 111 | 5 => 5 | 80 => 72 | n => n, fun | n => n⟩
theorem Tryz.lays156 : Go.Proofs.Lays.n156 Tryz.prog Tryz.lays156_ren := {
  mixed := by kernel_rfl
  f156 := Tryz.func31.trans (congrArg some (by kernel_rfl))
  f165 := Tryz.func56.trans (congrArg some (by kernel_rfl))
  f166 := Tryz.func43.trans (congrArg some (by kernel_rfl))
  f169 := Tryz.func26.trans (congrArg some (by kernel_rfl))
  f240 := Tryz.func74.trans (congrArg some (by kernel_rfl))
  f241 := Tryz.func86.trans (congrArg some (by kernel_rfl))
  f276 := Tryz.func99.trans (congrArg some (by kernel_rfl))
  f277 := Tryz.func111.trans (congrArg some (by kernel_rfl))
  t0 := Tryz.underlying0
  a0 := Tryz.isAgg0
  z0 := Tryz.sizeOf0
  v0 := Tryz.zeroValue0
  t3 := Tryz.underlying3
  a3 := Tryz.isAgg3
  z3 := Tryz.sizeOf3
  v3 := Tryz.zeroValue3
  t4 := Tryz.underlying4
  a4 := Tryz.isAgg4
  z4 := Tryz.sizeOf4
  v4 := Tryz.zeroValue4
  t9 := Tryz.underlying9
  a9 := Tryz.isAgg9
  z9 := Tryz.sizeOf9
  v9 := Tryz.zeroValue9
  t20 := Tryz.underlying20
  a20 := Tryz.isAgg20
  z20 := Tryz.sizeOf20
  v20 := Tryz.zeroValue20
  t31 := Tryz.underlying26
  a31 := Tryz.isAgg26
  z31 := Tryz.sizeOf26
  v31 := Tryz.zeroValue26
  t37 := Tryz.underlying22
  a37 := Tryz.isAgg22
  z37 := Tryz.sizeOf22
  v37 := Tryz.zeroValue22
  t70 := Tryz.underlying67
  a70 := Tryz.isAgg67
  z70 := Tryz.sizeOf67
  v70 := Tryz.zeroValue67
  t72 := Tryz.underlying69
  a72 := Tryz.isAgg69
  z72 := Tryz.sizeOf69
  v72 := Tryz.zeroValue69
  t75 := Tryz.underlying74
  a75 := Tryz.isAgg74
  z75 := Tryz.sizeOf74
  v75 := Tryz.zeroValue74
  t76 := Tryz.underlying101
  a76 := Tryz.isAgg101
  z76 := Tryz.sizeOf101
  v76 := Tryz.zeroValue101
  t127 := Tryz.underlying104
  a127 := Tryz.isAgg104
  z127 := Tryz.sizeOf104
  v127 := Tryz.zeroValue104
  t164 := Tryz.underlying111
  a164 := Tryz.isAgg111
  z164 := Tryz.sizeOf111
  v164 := Tryz.zeroValue111 }
def Tryz.laysItoa_ren : Go.Shelf.Ren := ⟨fun | 171 => 24 | 243 => 45 | 246 => 75 | 283 => 100 | 284 => 101 | 285 => 102 | 286 => 103 | 129 => 122 | 317 => 121 | 318 => 123 | 319 => 124 | 320 => 125 | 337 => 144 | 338 => 145 | n => n, fun | 3 => 3 | 9 => 9 | 2 => 2 | 4 => 4 | 171 => 190 | 0 => 0 | 53 => 191 | 37 => 22 | 5 => 5 | 173 => 194 | 212 => 210 | 51 => 211 | 20 => 20 | 213 => 212 | 46 => 204 | 232 => 242 | 233 => 243 | n => n, fun | 17 => 4 | 18 => 7 | 19 => 8 | n => n⟩
theorem Tryz.laysItoa : Go.Proofs.LaysM.n171 Tryz.prog Tryz.laysItoa_ren := {
  mixed := by kernel_rfl
  f129 := Tryz.func122.trans (congrArg some (by kernel_rfl))
  f171 := Tryz.func24.trans (congrArg some (by kernel_rfl))
  f243 := Tryz.func45.trans (congrArg some (by kernel_rfl))
  f246 := Tryz.func75.trans (congrArg some (by kernel_rfl))
  f283 := Tryz.func100.trans (congrArg some (by kernel_rfl))
  f284 := Tryz.func101.trans (congrArg some (by kernel_rfl))
  f285 := Tryz.func102.trans (congrArg some (by kernel_rfl))
  f286 := Tryz.func103.trans (congrArg some (by kernel_rfl))
  f317 := Tryz.func121.trans (congrArg some (by kernel_rfl))
  f318 := Tryz.func123.trans (congrArg some (by kernel_rfl))
  f319 := Tryz.func124.trans (congrArg some (by kernel_rfl))
  f320 := Tryz.func125.trans (congrArg some (by kernel_rfl))
  f337 := Tryz.func144.trans (congrArg some (by kernel_rfl))
  f338 := Tryz.func145.trans (congrArg some (by kernel_rfl))
  t0 := Tryz.underlying0
  a0 := Tryz.isAgg0
  z0 := Tryz.sizeOf0
  v0 := Tryz.zeroValue0
  t2 := Tryz.underlying2
  a2 := Tryz.isAgg2
  z2 := Tryz.sizeOf2
  v2 := Tryz.zeroValue2
  t3 := Tryz.underlying3
  a3 := Tryz.isAgg3
  z3 := Tryz.sizeOf3
  v3 := Tryz.zeroValue3
  t4 := Tryz.underlying4
  a4 := Tryz.isAgg4
  z4 := Tryz.sizeOf4
  v4 := Tryz.zeroValue4
  t5 := Tryz.underlying5
  a5 := Tryz.isAgg5
  z5 := Tryz.sizeOf5
  v5 := Tryz.zeroValue5
  t9 := Tryz.underlying9
  a9 := Tryz.isAgg9
  z9 := Tryz.sizeOf9
  v9 := Tryz.zeroValue9
  t20 := Tryz.underlying20
  a20 := Tryz.isAgg20
  z20 := Tryz.sizeOf20
  v20 := Tryz.zeroValue20
  t37 := Tryz.underlying22
  a37 := Tryz.isAgg22
  z37 := Tryz.sizeOf22
  v37 := Tryz.zeroValue22
  t46 := Tryz.underlying204
  a46 := Tryz.isAgg204
  z46 := Tryz.sizeOf204
  v46 := Tryz.zeroValue204
  t51 := Tryz.underlying211
  a51 := Tryz.isAgg211
  z51 := Tryz.sizeOf211
  v51 := Tryz.zeroValue211
  t53 := Tryz.underlying191
  a53 := Tryz.isAgg191
  z53 := Tryz.sizeOf191
  v53 := Tryz.zeroValue191
  t171 := Tryz.underlying190
  a171 := Tryz.isAgg190
  z171 := Tryz.sizeOf190
  v171 := Tryz.zeroValue190
  t173 := Tryz.underlying194
  a173 := Tryz.isAgg194
  z173 := Tryz.sizeOf194
  v173 := Tryz.zeroValue194
  t212 := Tryz.underlying210
  a212 := Tryz.isAgg210
  z212 := Tryz.sizeOf210
  v212 := Tryz.zeroValue210
  t213 := Tryz.underlying212
  a213 := Tryz.isAgg212
  z213 := Tryz.sizeOf212
  t232 := Tryz.underlying242
  a232 := Tryz.isAgg242
  z232 := Tryz.sizeOf242
  v232 := Tryz.zeroValue242
  t233 := Tryz.underlying243
  a233 := Tryz.isAgg243
  z233 := Tryz.sizeOf243
  v233 := Tryz.zeroValue243
  g17 := by kernel_rfl
  g18 := by kernel_rfl
  g19 := by kernel_rfl
  i0 := by kernel_rfl
  i2 := by kernel_rfl
  i3 := by kernel_rfl
  i4 := by kernel_rfl
  i5 := by kernel_rfl
  i9 := by kernel_rfl
  i20 := by kernel_rfl
  i37 := by kernel_rfl
  i46 := by kernel_rfl
  i51 := by kernel_rfl
  i53 := by kernel_rfl
  i171 := by kernel_rfl
  i173 := by kernel_rfl
  i212 := by kernel_rfl
  i232 := by kernel_rfl
  i233 := by kernel_rfl
  m17 := by kernel_rfl
  m18 := by kernel_rfl
  m19 := by kernel_rfl }
theorem Tryz.lays167 : Go.Proofs.Lays.n167 Tryz.prog Tryz.lays156_ren := { Tryz.lays156 with f167 := Tryz.func44.trans (congrArg some (by kernel_rfl)), t5 := Tryz.underlying5, a5 := Tryz.isAgg5, z5 := Tryz.sizeOf5, v5 := Tryz.zeroValue5 }
end Go.Proofs

/-
  The library's contracts at this program.
-/
namespace Go.Proofs
open Go.Shelf Go.RowKit
theorem Tryz.bx156 : Builder.Extra Tryz.prog Tryz.lays156_ren where
  sizeBuilder := by kernel_rfl
  liesBuilder := by kernel_rfl
  t5 := Tryz.underlying5
  a5 := Tryz.isAgg5
  z5 := Tryz.sizeOf5
  v5 := Tryz.zeroValue5
  infoByte := by kernel_rfl
  cellsByte := by kernel_rfl
  sizeByte := by kernel_rfl
  neB5 := by decide
theorem Tryz.c_Join (bk o c : Nat) (xs : List ByteArray) (sep : ByteArray) (w : World) (hcells : ∀ (j : Nat) x, xs[j]? = some x → w.cell? ⟨bk, o + j, none⟩ = some (.string x)) (hbk : bk < w.heap.size) (hN : xs.length ≤ 140737488355328) (hcap : xs.length ≤ c) (hlen : (Lib.join (xs.map (·.data.toList)) sep.data.toList).length ≤ 140737488355328) :
    Calls Tryz.prog 31 #[.slice (some ⟨bk, o, none⟩) xs.length c, .string sep] w fun e w' => e = .returned (.string ⟨(Lib.join (xs.map (·.data.toList)) sep.data.toList).toArray⟩) ∧ Below w.heap.size w w' := Any.strings_Join Tryz.lays156 Tryz.bx156 bk o c xs sep w hcells hbk hN hcap hlen
theorem Tryz.c_WriteString (B b : Nat) (bs : List Value) (s : ByteArray) (w : World) (h : Lib.IsBuilderF 69 5 B b bs w) (hlen : bs.length + s.size ≤ 140737488355328) (hBw : B ≤ w.heap.size) :
    Calls Tryz.prog 43 #[.pointer (some ⟨b, 0, none⟩), .string s] w fun e w' => e = .returned (.tuple #[.int .i64 s.size, .nilIface]) ∧ (Lib.BuilderAtF 69 5 B b (.pointer (some ⟨b, 0, none⟩)) (bs ++ Lib.strCells s) w' ∧ Below B w w' ∧ Lib.OthersKept 5 (some b) w w') := Any.Builder_WriteString_k { Tryz.lays156 with } Tryz.bx156 B b bs s w h hlen hBw
theorem Tryz.c_WriteByte (B b : Nat) (bs : List Value) (c : Int) (w : World) (h : Lib.IsBuilderF 69 5 B b bs w) (hlen : bs.length + 1 ≤ 140737488355328) (hBw : B ≤ w.heap.size) :
    Calls Tryz.prog 44 #[.pointer (some ⟨b, 0, none⟩), .int .u8 c] w fun e w' => e = .returned .nilIface ∧ (Lib.BuilderAtF 69 5 B b (.pointer (some ⟨b, 0, none⟩)) (bs ++ [.int .u8 c]) w' ∧ Below B w w' ∧ Lib.OthersKept 5 (some b) w w') := Any.Builder_WriteByte_k Tryz.lays167 Tryz.bx156 B b bs c w h hlen hBw
theorem Tryz.c_String (B b : Nat) (l : List UInt8) (w : World) (h : Lib.IsBuilderF 69 5 B b (Lib.byteCells l) w) (hBw : B ≤ w.heap.size) :
    Calls Tryz.prog 26 #[.pointer (some ⟨b, 0, none⟩)] w fun e w' => e = .returned (.string ⟨l.toArray⟩) ∧ (Lib.IsBuilderF 69 5 B b (Lib.byteCells l) w' ∧ Below B w w' ∧ Lib.OthersKept 5 (some b) w w') := Any.Builder_String_any_k { Tryz.lays156 with } Tryz.bx156 B b l w h hBw
theorem below_grow (w : World) (k : Nat) (os : Array Obj) : Below w.heap.size w (Sort.grow (w.drewN k) os) :=
  ⟨rfl, rfl, rfl, by show w.heap.size ≤ (w.heap ++ os).size; simp, fun i hi => by show (w.heap ++ os)[i]? = _; rw [Array.getElem?_append_left hi]⟩
theorem Tryz.c_Itoa (n : Int) (h0 : -9223372036854775808 ≤ n) (h1 : n ≤ 9223372036854775807) (w : World) (htab : Lib.TabIs Tryz.prog w "internal/strconv.uint64pow10" .u64 Lib.pow10Tab) :
    Calls Tryz.prog 24 #[.int .i64 n] w fun e w' => e = .returned (.string ⟨(Lib.itoa n).toArray⟩) ∧ Below w.heap.size w w' :=
  Calls.mono (show Calls Tryz.prog 24 #[.int .i64 n] w fun e w' => e = .returned (.string ⟨(Lib.itoa n).toArray⟩) ∧ ∃ k os, w' = Sort.grow (w.drewN k) os from Any.strconv_Itoa Tryz.laysItoa n h0 h1 w htab) fun e w' ⟨h1, k, os, h2⟩ => ⟨h1, by rw [h2]; exact below_grow w k os⟩
end Go.Proofs

/-
  impl.printFields.
-/
namespace Go.Proofs.YtcdfoephhjacdaaGreatDoor
open Go.RowKit

theorem own_typ2 {w : World} {B n s g : Nat} {e : TypeId} {v : Value} {xs : List Value} (h : w.ownsRow B e s v n xs) (hg : v.ownBlock = some g) : ∃ cur, w.heap[g]? = some (Obj.cells cur e (0, 0)) := by
  rcases h.2 with ⟨rfl, -⟩ | ⟨g', cap, cur, rfl, -, h3, -⟩
  · simp [Value.ownBlock] at hg
  · simp only [Value.ownBlock, Option.some.injEq] at hg
    subst hg
    exact ⟨cur, h3⟩
theorem kept_of2 {W w3 : World} {v : Value} {o : Obj} {b : Nat} (hg : (W.alloc o).grownBy w3 v.ownBlock) (hb : b < W.heap.size) (hne : some b ≠ v.ownBlock) : w3.heap[b]? = W.heap[b]? :=
  (hg.block b (by simp; omega) hne).trans (Below.heap_alloc _ _ _ hb)
theorem ownF_move {w w' : World} {B n s : Nat} {e : TypeId} {v : Value} {xs : List Value} (h : w.ownsRowF B e s v n xs) (hb : ∀ g, v.ownBlock = some g → w'.heap[g]? = w.heap[g]?) : w'.ownsRowF B e s v n xs := by
  refine ⟨h.1, ?_⟩
  rcases h.2 with h1 | ⟨g, cap, cur, fz, rfl, h2, h3, h4⟩
  · exact Or.inl h1
  · exact Or.inr ⟨g, cap, cur, fz, rfl, h2, (hb g rfl).trans h3, h4⟩
theorem ownF_lt {w : World} {B n s : Nat} {e : TypeId} {v : Value} {xs : List Value} (h : w.ownsRowF B e s v n xs) {g : Nat} (hg : v.ownBlock = some g) : g < w.heap.size ∧ ∃ cur fz, w.heap[g]? = some (Obj.cells cur e fz) := by
  rcases h.2 with ⟨rfl, -⟩ | ⟨g', cap, cur, fz, rfl, h2, h3, h4⟩
  · simp [Value.ownBlock] at hg
  · simp only [Value.ownBlock, Option.some.injEq] at hg
    subst hg
    refine ⟨?_, cur, fz, h3⟩
    rcases Nat.lt_or_ge g' w.heap.size with h1 | h1
    · exact h1
    · rw [Array.getElem?_eq_none h1] at h3; cases h3
theorem own_neF {w : World} {B b n s : Nat} {e e' : TypeId} {v : Value} {xs : List Value} (h : w.ownsRow B e s v n xs) (ht : ∃ cur fz, w.heap[b]? = some (Obj.cells cur e' fz)) (hne : e ≠ e') : some b ≠ v.ownBlock := fun e2 => by
  obtain ⟨cur, h1⟩ := own_typ2 h e2.symm
  obtain ⟨cur', fz, h2⟩ := ht
  rw [h1] at h2
  simp only [Option.some.injEq, Obj.cells.injEq] at h2
  exact hne h2.2.1

/-- a builder with its bytes; what lay ahead of it stands -/
structure PB (w W : World) (B b : Nat) (l : List UInt8) : Prop where
  isb : Lib.IsBuilderF 69 5 B b (Lib.byteCells l) W
  bw : Below w.heap.size w W
  lo : w.heap.size ≤ B
  bz : B ≤ W.heap.size

theorem isb_move {W W' : World} {B b : Nat} {bs : List Value} (h : Lib.IsBuilderF 69 5 B b bs W) (hk : ∀ g : Nat, (∃ cur fz, W.heap[g]? = some (Obj.cells cur 69 fz)) ∨ (∃ cur fz, W.heap[g]? = some (Obj.cells cur 5 fz)) → W'.heap[g]? = W.heap[g]?) : Lib.IsBuilderF 69 5 B b bs W' := by
  have key : ∀ p, Lib.BuilderAtF 69 5 B b p bs W → Lib.BuilderAtF 69 5 B b p bs W' := fun p ⟨h1, v, h2, h3, h4⟩ =>
    ⟨h1, v, (hk b (Or.inl ⟨_, _, h2⟩)).trans h2, ownF_move h3 fun g hg => hk g (Or.inr (ownF_lt h3 hg).2), h4⟩
  rcases h with h | h
  · exact Or.inl (key _ h)
  · exact Or.inr (key _ h)

section
variable {w W W' w3 : World} {B b : Nat} {l l2 : List UInt8}
theorem cells_lt {W : World} {g : Nat} {o : Obj} (h : W.heap[g]? = some o) : g < W.heap.size := by
  rcases Nat.lt_or_ge g W.heap.size with h1 | h1
  · exact h1
  · rw [Array.getElem?_eq_none h1] at h; cases h
theorem PB.below (h : PB w W B b l) (hb : Below W.heap.size W W') : PB w W' B b l :=
  ⟨isb_move h.isb fun g hg => hb.block g (by rcases hg with ⟨_, _, h1⟩ | ⟨_, _, h1⟩ <;> exact cells_lt h1), bt h.bw hb, h.lo, Nat.le_trans h.bz hb.size⟩
theorem PB.grown {Bu n s : Nat} {e : TypeId} {u : Value} {xs : List Value} {o : Obj} (h : PB w W B b l) (hu : W.ownsRow Bu e s u n xs) (he : e ≠ 69 ∧ e ≠ 5) (hBu : w.heap.size ≤ Bu) (hg : (W.alloc o).grownBy w3 u.ownBlock) : PB w w3 B b l :=
  ⟨isb_move h.isb fun g hg' => by
    rcases hg' with hg' | hg'
    · obtain ⟨_, _, h1⟩ := hg'; exact kept_of2 hg (cells_lt h1) (own_neF hu ⟨_, _, h1⟩ he.1)
    · obtain ⟨_, _, h1⟩ := hg'; exact kept_of2 hg (cells_lt h1) (own_neF hu ⟨_, _, h1⟩ he.2), (h.bw.alloc h.bw.size _).grown hg (by have := h.bw.size; simp; omega) (fun q hq => Nat.le_trans hBu (hu.lt q hq).1), h.lo, by
    have h1 := hg.size
    have h2 := h.bz
    rw [World.size_alloc] at h1
    omega⟩
theorem PB.wrote {bs : List Value} (h : PB w W B b l) (ha : Lib.BuilderAtF 69 5 B b (.pointer (some ⟨b, 0, none⟩)) bs W') (hb : Below B W W') (e : bs = Lib.byteCells l2) : PB w W' B b l2 :=
  ⟨by rw [← e]; exact Or.inr ha, h.bw.trans (hb.mono h.lo), h.lo, Nat.le_trans h.bz hb.size⟩
theorem kept_below {e : TypeId} {x : Option Nat} (hb : Below W.heap.size W W') : Lib.OthersKept e x W W' := fun _ _ h _ _ => (hb.block _ (cells_lt h)).trans h
theorem RXp.kept {p : Nat} {nm : ByteArray} {ar : Int} {v2 v3 : Value} (h : RXp W p nm ar v2 v3) (hk : Lib.OthersKept 5 (some b) W W') (hne : p ≠ b) : RXp W' p nm ar v2 v3 :=
  ⟨hk p _ h.blk (by simpa using hne) (fun c fz e => by
    simp only [Obj.cells.injEq] at e
    exact absurd e.2.1 (by decide))⟩
theorem PB.typ (h : PB w W B b l) : ∃ cur fz, W.heap[b]? = some (Obj.cells cur 69 fz) := by
  rcases h.isb with ⟨_, v, h2, _⟩ | ⟨_, v, h2, _⟩
  · exact ⟨_, _, h2⟩
  · exact ⟨_, _, h2⟩
theorem PB.ne {p : Nat} {nm : ByteArray} {ar : Int} {v2 v3 : Value} (h : PB w W B b l) (hX : RXp W p nm ar v2 v3) : p ≠ b := fun e => by
  obtain ⟨_, _, h1⟩ := h.typ
  rw [← e, hX.blk] at h1
  simp at h1
end

theorem cells_cat (l j : List UInt8) : Lib.byteCells l ++ Lib.strCells ⟨j.toArray⟩ = Lib.byteCells (l ++ j) := by simp [Lib.byteCells, Lib.strCells]
theorem cells_snoc (l : List UInt8) (c : UInt8) : Lib.byteCells l ++ [.int .u8 c.toNat] = Lib.byteCells (l ++ [c]) := by simp [Lib.byteCells]

set_option maxHeartbeats 2000000 in
set_option maxRecDepth 1000000 in
theorem printFields_calls (w W : World) (B b : Nat) (l : List UInt8) (hP : PB w W B b l) (bk o c : Nat) (xs : List ByteArray) (hc : ∀ (j : Nat) x, xs[j]? = some x → W.cell? ⟨bk, o + j, none⟩ = some (.string x)) (hbk : bk < W.heap.size) (hn : xs.length ≤ 100000) (hcap : xs.length ≤ c) (hlen : l.length + (Lib.join (xs.map (·.data.toList)) [32]).length + 1 ≤ 140737488355328) :
    Calls Tryz.prog 23 #[.pointer (some ⟨b, 0, none⟩), .slice (some ⟨bk, o, none⟩) xs.length c] W fun e w' => (∃ v, e = .returned v) ∧ PB w w' B b (l ++ Lib.join (xs.map (·.data.toList)) [32] ++ [10]) ∧ Lib.OthersKept 5 (some b) W w' := by
  have KJ := hid (Tryz.c_Join bk o c xs ⟨#[32]⟩ W hc hbk (by omega) hcap (by show (Lib.join (xs.map (·.data.toList)) [32]).length ≤ _; omega))
  obtain ⟨jt, hj⟩ : ∃ jt, jt = Lib.join (xs.map (·.data.toList)) [32] := ⟨_, rfl⟩
  have KJ' : Hid (Calls Tryz.prog 31 #[.slice (some ⟨bk, o, none⟩) xs.length c, .string ⟨#[32]⟩] W fun e w' => e = .returned (.string ⟨jt.toArray⟩) ∧ Below W.heap.size W w') := hid (by rw [hj]; exact KJ.out)
  rw [← hj] at hlen ⊢
  have HP := hid hP
  clear KJ hj hc hP
  generalize xs.length = n at *
  go_enter Tryz.func23, Tryz.ntmps23
  go_wp2_with fail
  refine KJ'.out.mono ?_
  rintro e w1 ⟨rfl, hb1⟩
  have HP1 := hid (HP.out.below hb1)
  have HK1 : Hid (Lib.OthersKept 5 (some b) W w1) := hid (kept_below hb1)
  have KW := hid (Tryz.c_WriteString B b (Lib.byteCells l) ⟨jt.toArray⟩ w1 HP1.out.isb (by rw [Lib.byteCells_length]; show l.length + jt.toArray.size ≤ _; simp; omega) HP1.out.bz)
  clear hb1 KJ' HP
  go_wp2_with fail
  refine KW.out.mono ?_
  rintro e w2 ⟨rfl, ha2, hb2, hk2⟩
  have HP2 : Hid (PB w w2 B b (l ++ jt)) := hid (HP1.out.wrote ha2 hb2 (cells_cat l jt))
  have HK2 := hid (HK1.out.trans hk2)
  have KB := hid (Tryz.c_WriteByte B b (Lib.byteCells (l ++ jt)) 10 w2 HP2.out.isb (by rw [Lib.byteCells_length, List.length_append]; omega) HP2.out.bz)
  clear ha2 hb2 hk2 KW HP1 HK1
  go_wp2_with fail
  refine KB.out.mono ?_
  rintro e w3 ⟨rfl, ha3, hb3, hk3⟩
  have HP3 : Hid (PB w w3 B b (l ++ jt ++ [10])) := hid (HP2.out.wrote ha3 hb3 (cells_snoc (l ++ jt) 10))
  have HK3 := hid (HK2.out.trans hk3)
  clear ha3 hb3 hk3 KB HP2 HK2
  go_wp2_with fail
  go_end0
  exact ⟨⟨_, rfl⟩, HP3.out, HK3.out⟩

theorem tab_below {w W : World} (h : Lib.TabIs Tryz.prog w "internal/strconv.uint64pow10" .u64 Lib.pow10Tab) (hb : Below w.heap.size w W) : Lib.TabIs Tryz.prog W "internal/strconv.uint64pow10" .u64 Lib.pow10Tab := by
  unfold Lib.TabIs World.var? at *
  cases hg : Tryz.prog.globalNamed "internal/strconv.uint64pow10" with
  | none => rw [hg] at h; simp at h
  | some g =>
    rw [hg] at h
    simp only [Option.bind_some] at h ⊢
    have hlt : g < w.heap.size := by
      rcases Nat.lt_or_ge g w.heap.size with h1 | h1
      · exact h1
      · rw [Array.getElem?_eq_none h1] at h; simp at h
    rw [hb.block g hlt]
    exact h

end Go.Proofs.YtcdfoephhjacdaaGreatDoor
