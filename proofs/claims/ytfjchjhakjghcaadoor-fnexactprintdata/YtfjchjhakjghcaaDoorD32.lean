import Derived.Test.YtfjchjhakjghcaaDoorD30
import Derived.Test.YtfjchjhakjghcaaDoorD31
/-
  impl.printFields.
-/
namespace Go.Proofs.YtfjchjhakjghcaaDoor
open Go.RowKit

theorem own_typ2 {w : World} {B n s g : Nat} {e : TypeId} {v : Value} {xs : List Value} (h : w.ownsRow B e s v n xs) (hg : v.ownBlock = some g) : ∃ cur, w.heap[g]? = some (Obj.cells cur e (0, 0)) := by
  rcases h.2 with ⟨rfl, -⟩ | ⟨g', cap, cur, rfl, -, h3, -⟩
  · simp [Value.ownBlock] at hg
  · simp only [Value.ownBlock, Option.some.injEq] at hg
    subst hg
    exact ⟨cur, h3⟩
theorem kept_of2 {W w3 : World} {v : Value} {o : Obj} {b : Nat} (hg : (W.alloc o).grownBy w3 v.ownBlock) (hb : b < W.heap.size) (hne : some b ≠ v.ownBlock) : w3.heap[b]? = W.heap[b]? :=
  (hg.block b (by simp; omega) hne).trans (Below.heap_alloc _ _ _ hb)
theorem ownF_move {w w' : World} {B n s : Nat} {e : TypeId} {v : Value} {xs : List Value} (h : w.ownsRowF B e s v n xs) (hb : ∀ g, v.ownBlock = some g → w'.heap[g]? = w.heap[g]?) : w'.ownsRowF B e s v n xs := by
  refine ⟨h.1, ?_⟩
  rcases h.2 with h1 | ⟨g, cap, cur, fz, rfl, h2, h3, h4⟩
  · exact Or.inl h1
  · exact Or.inr ⟨g, cap, cur, fz, rfl, h2, (hb g rfl).trans h3, h4⟩
theorem ownF_lt {w : World} {B n s : Nat} {e : TypeId} {v : Value} {xs : List Value} (h : w.ownsRowF B e s v n xs) {g : Nat} (hg : v.ownBlock = some g) : g < w.heap.size ∧ ∃ cur fz, w.heap[g]? = some (Obj.cells cur e fz) := by
  rcases h.2 with ⟨rfl, -⟩ | ⟨g', cap, cur, fz, rfl, h2, h3, h4⟩
  · simp [Value.ownBlock] at hg
  · simp only [Value.ownBlock, Option.some.injEq] at hg
    subst hg
    refine ⟨?_, cur, fz, h3⟩
    rcases Nat.lt_or_ge g' w.heap.size with h1 | h1
    · exact h1
    · rw [Array.getElem?_eq_none h1] at h3; cases h3
theorem own_neF {w : World} {B b n s : Nat} {e e' : TypeId} {v : Value} {xs : List Value} (h : w.ownsRow B e s v n xs) (ht : ∃ cur fz, w.heap[b]? = some (Obj.cells cur e' fz)) (hne : e ≠ e') : some b ≠ v.ownBlock := fun e2 => by
  obtain ⟨cur, h1⟩ := own_typ2 h e2.symm
  obtain ⟨cur', fz, h2⟩ := ht
  rw [h1] at h2
  simp only [Option.some.injEq, Obj.cells.injEq] at h2
  exact hne h2.2.1

/-- a builder with its bytes; what lay ahead of it stands -/
structure PB (w W : World) (B b : Nat) (l : List UInt8) : Prop where
  isb : Lib.IsBuilderF 60 5 B b (Lib.byteCells l) W
  bw : Below w.heap.size w W
  lo : w.heap.size ≤ B
  bz : B ≤ W.heap.size

theorem isb_move {W W' : World} {B b : Nat} {bs : List Value} (h : Lib.IsBuilderF 60 5 B b bs W) (hk : ∀ g : Nat, (∃ cur fz, W.heap[g]? = some (Obj.cells cur 60 fz)) ∨ (∃ cur fz, W.heap[g]? = some (Obj.cells cur 5 fz)) → W'.heap[g]? = W.heap[g]?) : Lib.IsBuilderF 60 5 B b bs W' := by
  have key : ∀ p, Lib.BuilderAtF 60 5 B b p bs W → Lib.BuilderAtF 60 5 B b p bs W' := fun p ⟨h1, v, h2, h3, h4⟩ =>
    ⟨h1, v, (hk b (Or.inl ⟨_, _, h2⟩)).trans h2, ownF_move h3 fun g hg => hk g (Or.inr (ownF_lt h3 hg).2), h4⟩
  rcases h with h | h
  · exact Or.inl (key _ h)
  · exact Or.inr (key _ h)

section
variable {w W W' w3 : World} {B b : Nat} {l l2 : List UInt8}
theorem cells_lt {W : World} {g : Nat} {o : Obj} (h : W.heap[g]? = some o) : g < W.heap.size := by
  rcases Nat.lt_or_ge g W.heap.size with h1 | h1
  · exact h1
  · rw [Array.getElem?_eq_none h1] at h; cases h
theorem PB.below (h : PB w W B b l) (hb : Below W.heap.size W W') : PB w W' B b l :=
  ⟨isb_move h.isb fun g hg => hb.block g (by rcases hg with ⟨_, _, h1⟩ | ⟨_, _, h1⟩ <;> exact cells_lt h1), bt h.bw hb, h.lo, Nat.le_trans h.bz hb.size⟩
theorem PB.grown {Bu n s : Nat} {e : TypeId} {u : Value} {xs : List Value} {o : Obj} (h : PB w W B b l) (hu : W.ownsRow Bu e s u n xs) (he : e ≠ 60 ∧ e ≠ 5) (hBu : w.heap.size ≤ Bu) (hg : (W.alloc o).grownBy w3 u.ownBlock) : PB w w3 B b l :=
  ⟨isb_move h.isb fun g hg' => by
    rcases hg' with hg' | hg'
    · obtain ⟨_, _, h1⟩ := hg'; exact kept_of2 hg (cells_lt h1) (own_neF hu ⟨_, _, h1⟩ he.1)
    · obtain ⟨_, _, h1⟩ := hg'; exact kept_of2 hg (cells_lt h1) (own_neF hu ⟨_, _, h1⟩ he.2), (h.bw.alloc h.bw.size _).grown hg (by have := h.bw.size; simp; omega) (fun q hq => Nat.le_trans hBu (hu.lt q hq).1), h.lo, by
    have h1 := hg.size
    have h2 := h.bz
    rw [World.size_alloc] at h1
    omega⟩
theorem PB.wrote {bs : List Value} (h : PB w W B b l) (ha : Lib.BuilderAtF 60 5 B b (.pointer (some ⟨b, 0, none⟩)) bs W') (hb : Below B W W') (e : bs = Lib.byteCells l2) : PB w W' B b l2 :=
  ⟨by rw [← e]; exact Or.inr ha, h.bw.trans (hb.mono h.lo), h.lo, Nat.le_trans h.bz hb.size⟩
theorem kept_below {e : TypeId} {x : Option Nat} (hb : Below W.heap.size W W') : Lib.OthersKept e x W W' := fun _ _ h _ _ => (hb.block _ (cells_lt h)).trans h
theorem RXp.kept {p : Nat} {nm : ByteArray} {ar : Int} {v2 v3 : Value} (h : RXp W p nm ar v2 v3) (hk : Lib.OthersKept 5 (some b) W W') (hne : p ≠ b) : RXp W' p nm ar v2 v3 :=
  ⟨hk p _ h.blk (by simpa using hne) (fun c fz e => by
    simp only [Obj.cells.injEq] at e
    exact absurd e.2.1 (by decide))⟩
theorem PB.typ (h : PB w W B b l) : ∃ cur fz, W.heap[b]? = some (Obj.cells cur 60 fz) := by
  rcases h.isb with ⟨_, v, h2, _⟩ | ⟨_, v, h2, _⟩
  · exact ⟨_, _, h2⟩
  · exact ⟨_, _, h2⟩
theorem PB.ne {p : Nat} {nm : ByteArray} {ar : Int} {v2 v3 : Value} (h : PB w W B b l) (hX : RXp W p nm ar v2 v3) : p ≠ b := fun e => by
  obtain ⟨_, _, h1⟩ := h.typ
  rw [← e, hX.blk] at h1
  simp at h1
end

theorem cells_cat (l j : List UInt8) : Lib.byteCells l ++ Lib.strCells ⟨j.toArray⟩ = Lib.byteCells (l ++ j) := by simp [Lib.byteCells, Lib.strCells]
theorem cells_snoc (l : List UInt8) (c : UInt8) : Lib.byteCells l ++ [.int .u8 c.toNat] = Lib.byteCells (l ++ [c]) := by simp [Lib.byteCells]

set_option maxHeartbeats 2000000 in
set_option maxRecDepth 1000000 in
theorem printFields_calls (w W : World) (B b : Nat) (l : List UInt8) (hP : PB w W B b l) (bk o c : Nat) (xs : List ByteArray) (hc : ∀ (j : Nat) x, xs[j]? = some x → W.cell? ⟨bk, o + j, none⟩ = some (.string x)) (hbk : bk < W.heap.size) (hn : xs.length ≤ 100000) (hcap : xs.length ≤ c) (hlen : l.length + (Lib.join (xs.map (·.data.toList)) [32]).length + 1 ≤ 140737488355328) :
    Calls Tryd.prog 24 #[.pointer (some ⟨b, 0, none⟩), .slice (some ⟨bk, o, none⟩) xs.length c] W fun e w' => (∃ v, e = .returned v) ∧ PB w w' B b (l ++ Lib.join (xs.map (·.data.toList)) [32] ++ [10]) ∧ Lib.OthersKept 5 (some b) W w' := by
  have KJ := hid (Tryd.c_Join bk o c xs ⟨#[32]⟩ W hc hbk (by omega) hcap (by show (Lib.join (xs.map (·.data.toList)) [32]).length ≤ _; omega))
  obtain ⟨jt, hj⟩ : ∃ jt, jt = Lib.join (xs.map (·.data.toList)) [32] := ⟨_, rfl⟩
  have KJ' : Hid (Calls Tryd.prog 37 #[.slice (some ⟨bk, o, none⟩) xs.length c, .string ⟨#[32]⟩] W fun e w' => e = .returned (.string ⟨jt.toArray⟩) ∧ Below W.heap.size W w') := hid (by rw [hj]; exact KJ.out)
  rw [← hj] at hlen ⊢
  have HP := hid hP
  clear KJ hj hc hP
  generalize xs.length = n at *
  go_enter Tryd.func24, Tryd.ntmps24
  go_wp2_with fail
  refine KJ'.out.mono ?_
  rintro e w1 ⟨rfl, hb1⟩
  have HP1 := hid (HP.out.below hb1)
  have HK1 : Hid (Lib.OthersKept 5 (some b) W w1) := hid (kept_below hb1)
  have KW := hid (Tryd.c_WriteString B b (Lib.byteCells l) ⟨jt.toArray⟩ w1 HP1.out.isb (by rw [Lib.byteCells_length]; show l.length + jt.toArray.size ≤ _; simp; omega) HP1.out.bz)
  clear hb1 KJ' HP
  go_wp2_with fail
  refine KW.out.mono ?_
  rintro e w2 ⟨rfl, ha2, hb2, hk2⟩
  have HP2 : Hid (PB w w2 B b (l ++ jt)) := hid (HP1.out.wrote ha2 hb2 (cells_cat l jt))
  have HK2 := hid (HK1.out.trans hk2)
  have KB := hid (Tryd.c_WriteByte B b (Lib.byteCells (l ++ jt)) 10 w2 HP2.out.isb (by rw [Lib.byteCells_length, List.length_append]; omega) HP2.out.bz)
  clear ha2 hb2 hk2 KW HP1 HK1
  go_wp2_with fail
  refine KB.out.mono ?_
  rintro e w3 ⟨rfl, ha3, hb3, hk3⟩
  have HP3 : Hid (PB w w3 B b (l ++ jt ++ [10])) := hid (HP2.out.wrote ha3 hb3 (cells_snoc (l ++ jt) 10))
  have HK3 := hid (HK2.out.trans hk3)
  clear ha3 hb3 hk3 KB HP2 HK2
  go_wp2_with fail
  go_end0
  exact ⟨⟨_, rfl⟩, HP3.out, HK3.out⟩

theorem tab_below {w W : World} (h : Lib.TabIs Tryd.prog w "internal/strconv.uint64pow10" .u64 Lib.pow10Tab) (hb : Below w.heap.size w W) : Lib.TabIs Tryd.prog W "internal/strconv.uint64pow10" .u64 Lib.pow10Tab := by
  unfold Lib.TabIs World.var? at *
  cases hg : Tryd.prog.globalNamed "internal/strconv.uint64pow10" with
  | none => rw [hg] at h; simp at h
  | some g =>
    rw [hg] at h
    simp only [Option.bind_some] at h ⊢
    have hlt : g < w.heap.size := by
      rcases Nat.lt_or_ge g w.heap.size with h1 | h1
      · exact h1
      · rw [Array.getElem?_eq_none h1] at h; simp at h
    rw [hb.block g hlt]
    exact h

end Go.Proofs.YtfjchjhakjghcaaDoor
