import Derived.Shelf.Strconv.Itoa3
import Derived.Shelf.Strings.Builder1
import Derived.Shelf.Strings.BuilderK
import Derived.Shelf.Strings.OnBuilder
import Derived.Test.YtcgboccdffgkfaaDoorPd23
namespace Go.Proofs
open Go.Shelf
def Tryd.lays156_ren : Go.Shelf.Ren := ⟨fun | 156 => 52 | 165 => 81 | 166 => 51 | 167 => 53 | 169 => 31 | 240 => 80 | 241 => 96 | 276 => 95 | 277 => 113 | n => n, fun | 31 => 37 | 9 => 9 | 3 => 3 | 4 => 4 | 0 => 0 | 20 => 20 | 72 => 61 | 76 => 86 | 70 => 59 | 37 => 51 | 75 => 85 | 127 => 90 | 164 => 128 | 5 => 5 | 80 => 64 | n => n, fun | n => n⟩
theorem Tryd.lays156 : Go.Proofs.Lays.n156 Tryd.prog Tryd.lays156_ren := {
  mixed := by kernel_rfl
  f156 := Tryd.func52.trans (congrArg some (by kernel_rfl))
  f165 := Tryd.func81.trans (congrArg some (by kernel_rfl))
  f166 := Tryd.func51.trans (congrArg some (by kernel_rfl))
  f169 := Tryd.func31.trans (congrArg some (by kernel_rfl))
  f240 := Tryd.func80.trans (congrArg some (by kernel_rfl))
  f241 := Tryd.func96.trans (congrArg some (by kernel_rfl))
  f276 := Tryd.func95.trans (congrArg some (by kernel_rfl))
  f277 := Tryd.func113.trans (congrArg some (by kernel_rfl))
  t0 := Tryd.underlying0
  a0 := Tryd.isAgg0
  z0 := Tryd.sizeOf0
  v0 := Tryd.zeroValue0
  t3 := Tryd.underlying3
  a3 := Tryd.isAgg3
  z3 := Tryd.sizeOf3
  v3 := Tryd.zeroValue3
  t4 := Tryd.underlying4
  a4 := Tryd.isAgg4
  z4 := Tryd.sizeOf4
  v4 := Tryd.zeroValue4
  t9 := Tryd.underlying9
  a9 := Tryd.isAgg9
  z9 := Tryd.sizeOf9
  v9 := Tryd.zeroValue9
  t20 := Tryd.underlying20
  a20 := Tryd.isAgg20
  z20 := Tryd.sizeOf20
  v20 := Tryd.zeroValue20
  t31 := Tryd.underlying37
  a31 := Tryd.isAgg37
  z31 := Tryd.sizeOf37
  v31 := Tryd.zeroValue37
  t37 := Tryd.underlying51
  a37 := Tryd.isAgg51
  z37 := Tryd.sizeOf51
  v37 := Tryd.zeroValue51
  t70 := Tryd.underlying59
  a70 := Tryd.isAgg59
  z70 := Tryd.sizeOf59
  v70 := Tryd.zeroValue59
  t72 := Tryd.underlying61
  a72 := Tryd.isAgg61
  z72 := Tryd.sizeOf61
  v72 := Tryd.zeroValue61
  t75 := Tryd.underlying85
  a75 := Tryd.isAgg85
  z75 := Tryd.sizeOf85
  v75 := Tryd.zeroValue85
  t76 := Tryd.underlying86
  a76 := Tryd.isAgg86
  z76 := Tryd.sizeOf86
  v76 := Tryd.zeroValue86
  t127 := Tryd.underlying90
  a127 := Tryd.isAgg90
  z127 := Tryd.sizeOf90
  v127 := Tryd.zeroValue90
  t164 := Tryd.underlying128
  a164 := Tryd.isAgg128
  z164 := Tryd.sizeOf128
  v164 := Tryd.zeroValue128 }
def Tryd.laysItoa_ren : Go.Shelf.Ren := ⟨fun | 171 => 29 | 243 => 54 | 246 => 82 | 283 => 97 | 284 => 98 | 285 => 99 | 286 => 100 | 129 => 115 | 317 => 114 | 318 => 116 | 319 => 117 | 320 => 118 | 337 => 132 | 338 => 133 | n => n, fun | 3 => 3 | 9 => 9 | 2 => 2 | 4 => 4 | 171 => 130 | 0 => 0 | 53 => 131 | 37 => 51 | 5 => 5 | 173 => 134 | 212 => 144 | 51 => 145 | 20 => 20 | 213 => 146 | 46 => 137 | 232 => 168 | 233 => 169 | n => n, fun | 17 => 1 | 18 => 4 | 19 => 5 | n => n⟩
theorem Tryd.laysItoa : Go.Proofs.LaysM.n171 Tryd.prog Tryd.laysItoa_ren := {
  mixed := by kernel_rfl
  f129 := Tryd.func115.trans (congrArg some (by kernel_rfl))
  f171 := Tryd.func29.trans (congrArg some (by kernel_rfl))
  f243 := Tryd.func54.trans (congrArg some (by kernel_rfl))
  f246 := Tryd.func82.trans (congrArg some (by kernel_rfl))
  f283 := Tryd.func97.trans (congrArg some (by kernel_rfl))
  f284 := Tryd.func98.trans (congrArg some (by kernel_rfl))
  f285 := Tryd.func99.trans (congrArg some (by kernel_rfl))
  f286 := Tryd.func100.trans (congrArg some (by kernel_rfl))
  f317 := Tryd.func114.trans (congrArg some (by kernel_rfl))
  f318 := Tryd.func116.trans (congrArg some (by kernel_rfl))
  f319 := Tryd.func117.trans (congrArg some (by kernel_rfl))
  f320 := Tryd.func118.trans (congrArg some (by kernel_rfl))
  f337 := Tryd.func132.trans (congrArg some (by kernel_rfl))
  f338 := Tryd.func133.trans (congrArg some (by kernel_rfl))
  t0 := Tryd.underlying0
  a0 := Tryd.isAgg0
  z0 := Tryd.sizeOf0
  v0 := Tryd.zeroValue0
  t2 := Tryd.underlying2
  a2 := Tryd.isAgg2
  z2 := Tryd.sizeOf2
  v2 := Tryd.zeroValue2
  t3 := Tryd.underlying3
  a3 := Tryd.isAgg3
  z3 := Tryd.sizeOf3
  v3 := Tryd.zeroValue3
  t4 := Tryd.underlying4
  a4 := Tryd.isAgg4
  z4 := Tryd.sizeOf4
  v4 := Tryd.zeroValue4
  t5 := Tryd.underlying5
  a5 := Tryd.isAgg5
  z5 := Tryd.sizeOf5
  v5 := Tryd.zeroValue5
  t9 := Tryd.underlying9
  a9 := Tryd.isAgg9
  z9 := Tryd.sizeOf9
  v9 := Tryd.zeroValue9
  t20 := Tryd.underlying20
  a20 := Tryd.isAgg20
  z20 := Tryd.sizeOf20
  v20 := Tryd.zeroValue20
  t37 := Tryd.underlying51
  a37 := Tryd.isAgg51
  z37 := Tryd.sizeOf51
  v37 := Tryd.zeroValue51
  t46 := Tryd.underlying137
  a46 := Tryd.isAgg137
  z46 := Tryd.sizeOf137
  v46 := Tryd.zeroValue137
  t51 := Tryd.underlying145
  a51 := Tryd.isAgg145
  z51 := Tryd.sizeOf145
  v51 := Tryd.zeroValue145
  t53 := Tryd.underlying131
  a53 := Tryd.isAgg131
  z53 := Tryd.sizeOf131
  v53 := Tryd.zeroValue131
  t171 := Tryd.underlying130
  a171 := Tryd.isAgg130
  z171 := Tryd.sizeOf130
  v171 := Tryd.zeroValue130
  t173 := Tryd.underlying134
  a173 := Tryd.isAgg134
  z173 := Tryd.sizeOf134
  v173 := Tryd.zeroValue134
  t212 := Tryd.underlying144
  a212 := Tryd.isAgg144
  z212 := Tryd.sizeOf144
  v212 := Tryd.zeroValue144
  t213 := Tryd.underlying146
  a213 := Tryd.isAgg146
  z213 := Tryd.sizeOf146
  t232 := Tryd.underlying168
  a232 := Tryd.isAgg168
  z232 := Tryd.sizeOf168
  v232 := Tryd.zeroValue168
  t233 := Tryd.underlying169
  a233 := Tryd.isAgg169
  z233 := Tryd.sizeOf169
  v233 := Tryd.zeroValue169
  g17 := by kernel_rfl
  g18 := by kernel_rfl
  g19 := by kernel_rfl
  i0 := by kernel_rfl
  i2 := by kernel_rfl
  i3 := by kernel_rfl
  i4 := by kernel_rfl
  i5 := by kernel_rfl
  i9 := by kernel_rfl
  i20 := by kernel_rfl
  i37 := by kernel_rfl
  i46 := by kernel_rfl
  i51 := by kernel_rfl
  i53 := by kernel_rfl
  i171 := by kernel_rfl
  i173 := by kernel_rfl
  i212 := by kernel_rfl
  i232 := by kernel_rfl
  i233 := by kernel_rfl
  m17 := by kernel_rfl
  m18 := by kernel_rfl
  m19 := by kernel_rfl }
theorem Tryd.lays167 : Go.Proofs.Lays.n167 Tryd.prog Tryd.lays156_ren := { Tryd.lays156 with f167 := Tryd.func53.trans (congrArg some (by kernel_rfl)), t5 := Tryd.underlying5, a5 := Tryd.isAgg5, z5 := Tryd.sizeOf5, v5 := Tryd.zeroValue5 }
end Go.Proofs

/-
  The library's contracts at this program.
-/
namespace Go.Proofs
open Go.Shelf Go.RowKit
theorem Tryd.bx156 : Builder.Extra Tryd.prog Tryd.lays156_ren where
  sizeBuilder := by kernel_rfl
  liesBuilder := by kernel_rfl
  t5 := Tryd.underlying5
  a5 := Tryd.isAgg5
  z5 := Tryd.sizeOf5
  v5 := Tryd.zeroValue5
  infoByte := by kernel_rfl
  cellsByte := by kernel_rfl
  sizeByte := by kernel_rfl
  neB5 := by decide
theorem Tryd.c_Join (bk o c : Nat) (xs : List ByteArray) (sep : ByteArray) (w : World) (hcells : ∀ (j : Nat) x, xs[j]? = some x → w.cell? ⟨bk, o + j, none⟩ = some (.string x)) (hbk : bk < w.heap.size) (hN : xs.length ≤ 140737488355328) (hcap : xs.length ≤ c) (hlen : (Lib.join (xs.map (·.data.toList)) sep.data.toList).length ≤ 140737488355328) :
    Calls Tryd.prog 52 #[.slice (some ⟨bk, o, none⟩) xs.length c, .string sep] w fun e w' => e = .returned (.string ⟨(Lib.join (xs.map (·.data.toList)) sep.data.toList).toArray⟩) ∧ Below w.heap.size w w' := Any.strings_Join Tryd.lays156 Tryd.bx156 bk o c xs sep w hcells hbk hN hcap hlen
theorem Tryd.c_WriteString (B b : Nat) (bs : List Value) (s : ByteArray) (w : World) (h : Lib.IsBuilderF 61 5 B b bs w) (hlen : bs.length + s.size ≤ 140737488355328) (hBw : B ≤ w.heap.size) :
    Calls Tryd.prog 51 #[.pointer (some ⟨b, 0, none⟩), .string s] w fun e w' => e = .returned (.tuple #[.int .i64 s.size, .nilIface]) ∧ (Lib.BuilderAtF 61 5 B b (.pointer (some ⟨b, 0, none⟩)) (bs ++ Lib.strCells s) w' ∧ Below B w w' ∧ Lib.OthersKept 5 (some b) w w') := Any.Builder_WriteString_k { Tryd.lays156 with } Tryd.bx156 B b bs s w h hlen hBw
theorem Tryd.c_WriteByte (B b : Nat) (bs : List Value) (c : Int) (w : World) (h : Lib.IsBuilderF 61 5 B b bs w) (hlen : bs.length + 1 ≤ 140737488355328) (hBw : B ≤ w.heap.size) :
    Calls Tryd.prog 53 #[.pointer (some ⟨b, 0, none⟩), .int .u8 c] w fun e w' => e = .returned .nilIface ∧ (Lib.BuilderAtF 61 5 B b (.pointer (some ⟨b, 0, none⟩)) (bs ++ [.int .u8 c]) w' ∧ Below B w w' ∧ Lib.OthersKept 5 (some b) w w') := Any.Builder_WriteByte_k Tryd.lays167 Tryd.bx156 B b bs c w h hlen hBw
theorem Tryd.c_String (B b : Nat) (l : List UInt8) (w : World) (h : Lib.IsBuilderF 61 5 B b (Lib.byteCells l) w) (hBw : B ≤ w.heap.size) :
    Calls Tryd.prog 31 #[.pointer (some ⟨b, 0, none⟩)] w fun e w' => e = .returned (.string ⟨l.toArray⟩) ∧ (Lib.IsBuilderF 61 5 B b (Lib.byteCells l) w' ∧ Below B w w' ∧ Lib.OthersKept 5 (some b) w w') := Any.Builder_String_any_k { Tryd.lays156 with } Tryd.bx156 B b l w h hBw
theorem below_grow (w : World) (k : Nat) (os : Array Obj) : Below w.heap.size w (Sort.grow (w.drewN k) os) :=
  ⟨rfl, rfl, rfl, by show w.heap.size ≤ (w.heap ++ os).size; simp, fun i hi => by show (w.heap ++ os)[i]? = _; rw [Array.getElem?_append_left hi]⟩
theorem Tryd.c_Itoa (n : Int) (h0 : -9223372036854775808 ≤ n) (h1 : n ≤ 9223372036854775807) (w : World) (htab : Lib.TabIs Tryd.prog w "internal/strconv.uint64pow10" .u64 Lib.pow10Tab) :
    Calls Tryd.prog 29 #[.int .i64 n] w fun e w' => e = .returned (.string ⟨(Lib.itoa n).toArray⟩) ∧ Below w.heap.size w w' :=
  Calls.mono (show Calls Tryd.prog 29 #[.int .i64 n] w fun e w' => e = .returned (.string ⟨(Lib.itoa n).toArray⟩) ∧ ∃ k os, w' = Sort.grow (w.drewN k) os from Any.strconv_Itoa Tryd.laysItoa n h0 h1 w htab) fun e w' ⟨h1, k, os, h2⟩ => ⟨h1, by rw [h2]; exact below_grow w k os⟩
end Go.Proofs

/-
  impl.printFields.
-/
namespace Go.Proofs.YtcgboccdffgkfaaDoor
open Go.RowKit

theorem own_typ2 {w : World} {B n s g : Nat} {e : TypeId} {v : Value} {xs : List Value} (h : w.ownsRow B e s v n xs) (hg : v.ownBlock = some g) : ∃ cur, w.heap[g]? = some (Obj.cells cur e (0, 0)) := by
  rcases h.2 with ⟨rfl, -⟩ | ⟨g', cap, cur, rfl, -, h3, -⟩
  · simp [Value.ownBlock] at hg
  · simp only [Value.ownBlock, Option.some.injEq] at hg
    subst hg
    exact ⟨cur, h3⟩
theorem kept_of2 {W w3 : World} {v : Value} {o : Obj} {b : Nat} (hg : (W.alloc o).grownBy w3 v.ownBlock) (hb : b < W.heap.size) (hne : some b ≠ v.ownBlock) : w3.heap[b]? = W.heap[b]? :=
  (hg.block b (by simp; omega) hne).trans (Below.heap_alloc _ _ _ hb)
theorem ownF_move {w w' : World} {B n s : Nat} {e : TypeId} {v : Value} {xs : List Value} (h : w.ownsRowF B e s v n xs) (hb : ∀ g, v.ownBlock = some g → w'.heap[g]? = w.heap[g]?) : w'.ownsRowF B e s v n xs := by
  refine ⟨h.1, ?_⟩
  rcases h.2 with h1 | ⟨g, cap, cur, fz, rfl, h2, h3, h4⟩
  · exact Or.inl h1
  · exact Or.inr ⟨g, cap, cur, fz, rfl, h2, (hb g rfl).trans h3, h4⟩
theorem ownF_lt {w : World} {B n s : Nat} {e : TypeId} {v : Value} {xs : List Value} (h : w.ownsRowF B e s v n xs) {g : Nat} (hg : v.ownBlock = some g) : g < w.heap.size ∧ ∃ cur fz, w.heap[g]? = some (Obj.cells cur e fz) := by
  rcases h.2 with ⟨rfl, -⟩ | ⟨g', cap, cur, fz, rfl, h2, h3, h4⟩
  · simp [Value.ownBlock] at hg
  · simp only [Value.ownBlock, Option.some.injEq] at hg
    subst hg
    refine ⟨?_, cur, fz, h3⟩
    rcases Nat.lt_or_ge g' w.heap.size with h1 | h1
    · exact h1
    · rw [Array.getElem?_eq_none h1] at h3; cases h3
theorem own_neF {w : World} {B b n s : Nat} {e e' : TypeId} {v : Value} {xs : List Value} (h : w.ownsRow B e s v n xs) (ht : ∃ cur fz, w.heap[b]? = some (Obj.cells cur e' fz)) (hne : e ≠ e') : some b ≠ v.ownBlock := fun e2 => by
  obtain ⟨cur, h1⟩ := own_typ2 h e2.symm
  obtain ⟨cur', fz, h2⟩ := ht
  rw [h1] at h2
  simp only [Option.some.injEq, Obj.cells.injEq] at h2
  exact hne h2.2.1

/-- a builder with its bytes; what lay ahead of it stands -/
structure PB (w W : World) (B b : Nat) (l : List UInt8) : Prop where
  isb : Lib.IsBuilderF 61 5 B b (Lib.byteCells l) W
  bw : Below w.heap.size w W
  lo : w.heap.size ≤ B
  bz : B ≤ W.heap.size

theorem isb_move {W W' : World} {B b : Nat} {bs : List Value} (h : Lib.IsBuilderF 61 5 B b bs W) (hk : ∀ g : Nat, (∃ cur fz, W.heap[g]? = some (Obj.cells cur 61 fz)) ∨ (∃ cur fz, W.heap[g]? = some (Obj.cells cur 5 fz)) → W'.heap[g]? = W.heap[g]?) : Lib.IsBuilderF 61 5 B b bs W' := by
  have key : ∀ p, Lib.BuilderAtF 61 5 B b p bs W → Lib.BuilderAtF 61 5 B b p bs W' := fun p ⟨h1, v, h2, h3, h4⟩ =>
    ⟨h1, v, (hk b (Or.inl ⟨_, _, h2⟩)).trans h2, ownF_move h3 fun g hg => hk g (Or.inr (ownF_lt h3 hg).2), h4⟩
  rcases h with h | h
  · exact Or.inl (key _ h)
  · exact Or.inr (key _ h)

section
variable {w W W' w3 : World} {B b : Nat} {l l2 : List UInt8}
theorem cells_lt {W : World} {g : Nat} {o : Obj} (h : W.heap[g]? = some o) : g < W.heap.size := by
  rcases Nat.lt_or_ge g W.heap.size with h1 | h1
  · exact h1
  · rw [Array.getElem?_eq_none h1] at h; cases h
theorem PB.below (h : PB w W B b l) (hb : Below W.heap.size W W') : PB w W' B b l :=
  ⟨isb_move h.isb fun g hg => hb.block g (by rcases hg with ⟨_, _, h1⟩ | ⟨_, _, h1⟩ <;> exact cells_lt h1), bt h.bw hb, h.lo, Nat.le_trans h.bz hb.size⟩
theorem PB.grown {Bu n s : Nat} {e : TypeId} {u : Value} {xs : List Value} {o : Obj} (h : PB w W B b l) (hu : W.ownsRow Bu e s u n xs) (he : e ≠ 61 ∧ e ≠ 5) (hBu : w.heap.size ≤ Bu) (hg : (W.alloc o).grownBy w3 u.ownBlock) : PB w w3 B b l :=
  ⟨isb_move h.isb fun g hg' => by
    rcases hg' with hg' | hg'
    · obtain ⟨_, _, h1⟩ := hg'; exact kept_of2 hg (cells_lt h1) (own_neF hu ⟨_, _, h1⟩ he.1)
    · obtain ⟨_, _, h1⟩ := hg'; exact kept_of2 hg (cells_lt h1) (own_neF hu ⟨_, _, h1⟩ he.2), (h.bw.alloc h.bw.size _).grown hg (by have := h.bw.size; simp; omega) (fun q hq => Nat.le_trans hBu (hu.lt q hq).1), h.lo, by
    have h1 := hg.size
    have h2 := h.bz
    rw [World.size_alloc] at h1
    omega⟩
theorem PB.wrote {bs : List Value} (h : PB w W B b l) (ha : Lib.BuilderAtF 61 5 B b (.pointer (some ⟨b, 0, none⟩)) bs W') (hb : Below B W W') (e : bs = Lib.byteCells l2) : PB w W' B b l2 :=
  ⟨by rw [← e]; exact Or.inr ha, h.bw.trans (hb.mono h.lo), h.lo, Nat.le_trans h.bz hb.size⟩
theorem kept_below {e : TypeId} {x : Option Nat} (hb : Below W.heap.size W W') : Lib.OthersKept e x W W' := fun _ _ h _ _ => (hb.block _ (cells_lt h)).trans h
theorem RX.kept {p : Nat} {nm : ByteArray} {ar : Int} {v2 v3 : Value} (h : RX W p nm ar v2 v3) (hk : Lib.OthersKept 5 (some b) W W') (hne : p ≠ b) : RX W' p nm ar v2 v3 :=
  ⟨hk p _ h.blk (by simpa using hne) (fun c fz e => by
    simp only [Obj.cells.injEq] at e
    exact absurd e.2.1 (by decide))⟩
theorem PB.typ (h : PB w W B b l) : ∃ cur fz, W.heap[b]? = some (Obj.cells cur 61 fz) := by
  rcases h.isb with ⟨_, v, h2, _⟩ | ⟨_, v, h2, _⟩
  · exact ⟨_, _, h2⟩
  · exact ⟨_, _, h2⟩
theorem PB.ne {p : Nat} {nm : ByteArray} {ar : Int} {v2 v3 : Value} (h : PB w W B b l) (hX : RX W p nm ar v2 v3) : p ≠ b := fun e => by
  obtain ⟨_, _, h1⟩ := h.typ
  rw [← e, hX.blk] at h1
  simp at h1
end

theorem cells_cat (l j : List UInt8) : Lib.byteCells l ++ Lib.strCells ⟨j.toArray⟩ = Lib.byteCells (l ++ j) := by simp [Lib.byteCells, Lib.strCells]
theorem cells_snoc (l : List UInt8) (c : UInt8) : Lib.byteCells l ++ [.int .u8 c.toNat] = Lib.byteCells (l ++ [c]) := by simp [Lib.byteCells]

set_option maxHeartbeats 2000000 in
set_option maxRecDepth 1000000 in
theorem printFields_calls (w W : World) (B b : Nat) (l : List UInt8) (hP : PB w W B b l) (bk o c : Nat) (xs : List ByteArray) (hc : ∀ (j : Nat) x, xs[j]? = some x → W.cell? ⟨bk, o + j, none⟩ = some (.string x)) (hbk : bk < W.heap.size) (hn : xs.length ≤ 100000) (hcap : xs.length ≤ c) (hlen : l.length + (Lib.join (xs.map (·.data.toList)) [32]).length + 1 ≤ 140737488355328) :
    Calls Tryd.prog 28 #[.pointer (some ⟨b, 0, none⟩), .slice (some ⟨bk, o, none⟩) xs.length c] W fun e w' => (∃ v, e = .returned v) ∧ PB w w' B b (l ++ Lib.join (xs.map (·.data.toList)) [32] ++ [10]) ∧ Lib.OthersKept 5 (some b) W w' := by
  have KJ := hid (Tryd.c_Join bk o c xs ⟨#[32]⟩ W hc hbk (by omega) hcap (by show (Lib.join (xs.map (·.data.toList)) [32]).length ≤ _; omega))
  obtain ⟨jt, hj⟩ : ∃ jt, jt = Lib.join (xs.map (·.data.toList)) [32] := ⟨_, rfl⟩
  have KJ' : Hid (Calls Tryd.prog 52 #[.slice (some ⟨bk, o, none⟩) xs.length c, .string ⟨#[32]⟩] W fun e w' => e = .returned (.string ⟨jt.toArray⟩) ∧ Below W.heap.size W w') := hid (by rw [hj]; exact KJ.out)
  rw [← hj] at hlen ⊢
  have HP := hid hP
  clear KJ hj hc hP
  generalize xs.length = n at *
  go_enter Tryd.func28, Tryd.ntmps28
  go_wp2_with fail
  refine KJ'.out.mono ?_
  rintro e w1 ⟨rfl, hb1⟩
  have HP1 := hid (HP.out.below hb1)
  have HK1 : Hid (Lib.OthersKept 5 (some b) W w1) := hid (kept_below hb1)
  have KW := hid (Tryd.c_WriteString B b (Lib.byteCells l) ⟨jt.toArray⟩ w1 HP1.out.isb (by rw [Lib.byteCells_length]; show l.length + jt.toArray.size ≤ _; simp; omega) HP1.out.bz)
  clear hb1 KJ' HP
  go_wp2_with fail
  refine KW.out.mono ?_
  rintro e w2 ⟨rfl, ha2, hb2, hk2⟩
  have HP2 : Hid (PB w w2 B b (l ++ jt)) := hid (HP1.out.wrote ha2 hb2 (cells_cat l jt))
  have HK2 := hid (HK1.out.trans hk2)
  have KB := hid (Tryd.c_WriteByte B b (Lib.byteCells (l ++ jt)) 10 w2 HP2.out.isb (by rw [Lib.byteCells_length, List.length_append]; omega) HP2.out.bz)
  clear ha2 hb2 hk2 KW HP1 HK1
  go_wp2_with fail
  refine KB.out.mono ?_
  rintro e w3 ⟨rfl, ha3, hb3, hk3⟩
  have HP3 : Hid (PB w w3 B b (l ++ jt ++ [10])) := hid (HP2.out.wrote ha3 hb3 (cells_snoc (l ++ jt) 10))
  have HK3 := hid (HK2.out.trans hk3)
  clear ha3 hb3 hk3 KB HP2 HK2
  go_wp2_with fail
  go_end0
  exact ⟨⟨_, rfl⟩, HP3.out, HK3.out⟩

theorem tab_below {w W : World} (h : Lib.TabIs Tryd.prog w "internal/strconv.uint64pow10" .u64 Lib.pow10Tab) (hb : Below w.heap.size w W) : Lib.TabIs Tryd.prog W "internal/strconv.uint64pow10" .u64 Lib.pow10Tab := by
  unfold Lib.TabIs World.var? at *
  cases hg : Tryd.prog.globalNamed "internal/strconv.uint64pow10" with
  | none => rw [hg] at h; simp at h
  | some g =>
    rw [hg] at h
    simp only [Option.bind_some] at h ⊢
    have hlt : g < w.heap.size := by
      rcases Nat.lt_or_ge g w.heap.size with h1 | h1
      · exact h1
      · rw [Array.getElem?_eq_none h1] at h; simp at h
    rw [hb.block g hlt]
    exact h

end Go.Proofs.YtcgboccdffgkfaaDoor
