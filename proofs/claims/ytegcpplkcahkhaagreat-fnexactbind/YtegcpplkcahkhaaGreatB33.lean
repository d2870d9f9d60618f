import Derived.Test.YtegcpplkcahkhaaGreatB09
import Derived.Test.YtegcpplkcahkhaaGreatB12
import Derived.Test.YtegcpplkcahkhaaGreatB32
/-
  Lists of tables in memory, each table's lists apart from one another and from the others'.
-/
namespace Go.Proofs.YtegcpplkcahkhaaGreat
open Go.RowKit

def ApW (u v : Value) : Prop := ∀ g, u.ownBlock = some g → v.ownBlock ≠ some g
theorem own_shapeW {w : World} {B n s : Nat} {e : TypeId} {v : Value} {xs : List Value} (h : w.ownsRow B e s v n xs) : ∃ a cap, v = .slice a n cap := by
  rcases h.2 with ⟨rfl, h2⟩ | ⟨g, cap, cur, rfl, -⟩
  · exact ⟨none, 0, by rw [h2]⟩
  · exact ⟨_, cap, rfl⟩

/-- a table's three lists, apart -/
structure TW (W : World) (B : Nat) (v0 v1 v2 : Value) (us : List Value) (vs : List Int) (rows : List (List Int)) (ws : List Int) : Prop where
  o0 : W.ownsRow B 3 1 v0 vs.length (vs.map (Value.int .i64))
  rq : RQ W B v1 us rows
  o2 : W.ownsRow B 3 1 v2 ws.length (ws.map (Value.int .i64))
  a02 : ApW v0 v2
  a0 : ∀ i, i < rows.length → ApW (us.getD i undef) v0
  a2 : ∀ i, i < rows.length → ApW (us.getD i undef) v2
theorem TW.below {W W' : World} {B : Nat} {v0 v1 v2 : Value} {us : List Value} {vs ws : List Int} {rows : List (List Int)} (h : TW W B v0 v1 v2 us vs rows ws) (hb : Below W.heap.size W W') : TW W' B v0 v1 v2 us vs rows ws :=
  ⟨own_below h.o0 hb, h.rq.below hb, own_below h.o2 hb, h.a02, h.a0, h.a2⟩
theorem TW.base {W : World} {B B' : Nat} {v0 v1 v2 : Value} {us : List Value} {vs ws : List Int} {rows : List (List Int)} (h : TW W B v0 v1 v2 us vs rows ws) (hB : B' ≤ B) : TW W B' v0 v1 v2 us vs rows ws :=
  ⟨own_base h.o0 hB, h.rq.base hB, own_base h.o2 hB, h.a02, h.a0, h.a2⟩

structure TbR where
  v0 : Value
  v1 : Value
  v2 : Value
  us : List Value
  vs : List Int
  rows : List (List Int)
  ws : List Int
def noTb : TbR := ⟨undef, undef, undef, [], [], [], []⟩
def tcs (t : TbR) : List Value := [t.v0, t.v1, t.v2]
/-- the lists of numbers of a table -/
def bls (t : TbR) : List Value := t.v0 :: t.v2 :: t.us
def TWr (W : World) (B : Nat) (t : TbR) : Prop := TW W B t.v0 t.v1 t.v2 t.us t.vs t.rows t.ws

theorem TWr.lt {W : World} {B : Nat} {t : TbR} (h : TWr W B t) {x : Value} (hx : x ∈ bls t) {g : Nat} (hg : x.ownBlock = some g) : B ≤ g ∧ g < W.heap.size := by
  rcases List.mem_cons.1 hx with rfl | hx
  · exact h.o0.lt g hg
  · rcases List.mem_cons.1 hx with rfl | hx
    · exact h.o2.lt g hg
    · obtain ⟨i, hi, rfl⟩ := List.getElem_of_mem hx
      have hi' : i < t.rows.length := by rw [← h.rq.len]; exact hi
      have := (h.rq.each i hi').lt g (by rw [List.getD_eq_getElem?_getD, List.getElem?_eq_getElem hi]; exact hg)
      exact this

structure TBs (W : World) (B : Nat) (v : Value) (tl : List TbR) : Prop where
  own : W.ownsRow B 60 3 v tl.length (tl.flatMap tcs)
  each : ∀ t ∈ tl, TWr W B t
  ap : tl.Pairwise fun s t => ∀ x ∈ bls s, ∀ y ∈ bls t, ApW x y
theorem TBs.below {W W' : World} {B : Nat} {v : Value} {tl : List TbR} (h : TBs W B v tl) (hb : Below W.heap.size W W') : TBs W' B v tl :=
  ⟨own_below h.own hb, fun t ht => TW.below (h.each t ht) hb, h.ap⟩
theorem TBs.base {W : World} {B B' : Nat} {v : Value} {tl : List TbR} (h : TBs W B v tl) (hB : B' ≤ B) : TBs W B' v tl :=
  ⟨own_base h.own hB, fun t ht => TW.base (h.each t ht) hB, h.ap⟩
theorem TW.grownT {W w3 : World} {B B' n : Nat} {v : Value} {xs : List Value} {o : Obj} {t : TbR} (h : TWr W B t) (ho : W.ownsRow B' 60 3 v n xs) (hg : (W.alloc o).grownBy w3 v.ownBlock) : TWr w3 B t := by
  have hint : ∀ {x : Value} {k B' : Nat} {xs : List Value}, W.ownsRow B' 3 1 x k xs → w3.ownsRow B' 3 1 x k xs := fun hx =>
    own_move hx fun g hgx => kept_of hg (hx.lt g hgx).2 (own_ne ho (own_typ hx hgx) (by decide))
  have hsl : ∀ {x : Value} {k B' : Nat} {xs : List Value}, W.ownsRow B' 57 1 x k xs → w3.ownsRow B' 57 1 x k xs := fun hx =>
    own_move hx fun g hgx => kept_of hg (hx.lt g hgx).2 (own_ne ho (own_typ hx hgx) (by decide))
  exact ⟨hint h.o0, ⟨hsl h.rq.own, h.rq.len, fun i hi => hint (h.rq.each i hi), h.rq.ap⟩, hint h.o2, h.a02, h.a0, h.a2⟩
theorem TBs.row {W0 : World} {B : Nat} {v : Value} {tl : List TbR} (h : TBs W0 B v tl) (hB : B ≤ W0.heap.size) : ∀ (W : World) (t : TbR) (o : Obj) (w3 : World) (v' : Value), Below W0.heap.size W0 W → TWr W W0.heap.size t → (W.alloc o).grownBy w3 v.ownBlock → w3.ownsRow B 60 3 v' (tl.length + 1) (tl.flatMap tcs ++ [t.v0, t.v1, t.v2]) → TBs w3 B v' (tl ++ [t]) := by
  intro W t o w3 v' hb ht hg hown
  have ho := own_below h.own hb
  refine ⟨?_, fun s hs => ?_, ?_⟩
  · rw [List.length_append, List.flatMap_append]; exact hown
  · rcases List.mem_append.1 hs with hs | hs
    · exact TW.grownT (TW.below (h.each s hs) hb) ho hg
    · rw [List.mem_singleton.1 hs]; exact TW.base (TW.grownT ht ho hg) hB
  · refine List.pairwise_append.2 ⟨h.ap, List.pairwise_singleton _ _, fun s hs t' ht' x hx y hy g h1 h2 => ?_⟩
    rw [List.mem_singleton.1 ht'] at hy
    have h3 := ((h.each s hs).lt hx h1).2
    have h4 := (ht.lt hy h2).1
    omega

theorem new3_cellT (w : World) (x y z : Value) (t : TypeId) : ∀ j u, [x, y, z][j]? = some u → (w.alloc (.cells #[x, y, z] t)).cell? ((⟨w.heap.size, 0, none⟩ : Addr).add j) = some u := by
  intro j u hj
  have e : (⟨w.heap.size, 0, none⟩ : Addr).add j = ⟨w.heap.size, j, none⟩ := by unfold Addr.add; by_cases h0 : j = 0 <;> simp [h0]
  rw [e, World.cell?_alloc_at _ _ _ _ rfl]
  match j, hj with
  | 0, hj => simpa using hj
  | 1, hj => simpa using hj
  | 2, hj => simpa using hj
  | j + 3, hj => simp at hj
theorem Tryz.infoTb : (Tryz.prog.info? 60).map (fun i => (i.zero, i.size, i.bytes)) = some (some (.agg #[.slice none 0 0, .slice none 0 0, .slice none 0 0]), 3, 72) := by kernel_rfl
theorem tl_last {tl : List TbR} {t : TbR} {j : Nat} (hj : j < (tl ++ [t]).length) (P : Nat → TbR → Prop) (h : ∀ j, j < tl.length → P j (tl.getD j noTb)) (ht : P tl.length t) : P j ((tl ++ [t]).getD j noTb) := by
  rw [List.length_append, List.length_singleton] at hj
  by_cases e : j < tl.length
  · rw [List.getD_eq_getElem?_getD, List.getElem?_append_left e, ← List.getD_eq_getElem?_getD]; exact h j e
  · obtain rfl : j = tl.length := by omega
    rw [List.getD_eq_getElem?_getD, List.getElem?_append_right (Nat.le_refl _), Nat.sub_self]; exact ht

structure TvOk (t : TbV) : Prop where
  vs : t.vs.length ≤ 6
  n : t.rows.length ≤ 10000
  ws : t.ws.length ≤ 10000
  len : ∀ r ∈ t.rows, r.length ≤ 6
def tvB (t : TbR) : TbV := ⟨t.vs, t.rows, t.ws⟩
/-- a table's cells -/
theorem TBs.its {W : World} {B : Nat} {v : Value} {tl : List TbR} (h : TBs W B v tl) : ITs W v (tl.map tvB) := by
  obtain ⟨a, cap, e, hc⟩ := own3 tcs (fun _ => rfl) noTb h.own
  refine ⟨a, cap, by rw [List.length_map]; exact e, ?_⟩
  rcases hc with h0 | ⟨g, ea, -, hc⟩
  · exact Or.inl (by rw [List.length_map]; exact h0)
  · refine Or.inr ⟨g, 0, ea, fun j hj => ?_⟩
    rw [List.length_map] at hj
    have ht : TWr W B (tl.getD j noTb) := h.each _ (by rw [List.getD_eq_getElem?_getD, List.getElem?_eq_getElem hj]; exact List.getElem_mem _)
    have eg : (tl.map tvB).getD j noTv = tvB (tl.getD j noTb) := by
      rw [List.getD_eq_getElem?_getD, List.getD_eq_getElem?_getD, List.getElem?_map, List.getElem?_eq_getElem hj]; rfl
    rw [eg, Nat.zero_add]
    exact ⟨_, _, _, hc j 0 hj (by omega), hc j 1 hj (by omega), hc j 2 hj (by omega), own_is ht.o0, ht.rq.rs.iss (Below.refl _ _), own_is ht.o2⟩
theorem TvOk.s {t : TbV} (h : TvOk t) : TvS t := ⟨by have := h.vs; omega, ⟨by have := h.n; omega, fun i => by
  rw [List.getD_eq_getElem?_getD]
  cases e : t.rows[i]? with
  | none => exact Nat.zero_le _
  | some r => have := h.len r (List.mem_of_getElem? e); show r.length ≤ _; omega⟩, by have := h.ws; omega⟩
theorem eqTableS_ok (w : World) (v u : Value) (ds : List TbV) (h : ITs w v ds) (h' : ITs w u ds) (hl1 : ds.length ≤ 1048576) (hr : ∀ j, j < ds.length → TvOk (ds.getD j noTv)) :
    Calls Tryz.prog 10 #[v, u] w fun e w' => e = .returned (.bool true) ∧ Below w.heap.size w w' := eqTableS_same w v u ds h h' hl1 fun j hj => (hr j hj).s


end Go.Proofs.YtegcpplkcahkhaaGreat

/-
  slices.Clone of ints.
-/
namespace Go.Proofs.YtegcpplkcahkhaaGreat
open Go.RowKit

end Go.Proofs.YtegcpplkcahkhaaGreat

/-
  A relation in the making: its block, its lists, apart from one another.
-/
namespace Go.Proofs.YtegcpplkcahkhaaGreat
open Go.RowKit

theorem bclR {w w' : World} {p : Addr} {v : Value} (hb : Below w.heap.size w w') (h : w.cell? p = some v) : w'.cell? p = some v := (hb.cell (World.block_lt_of_cell? w _ h)).trans h
theorem drew_below2R {a b : World} (h : Below a.drew.heap.size a.drew b) : Below a.heap.size a b := ⟨h.os, h.tape, h.output, h.size, h.block⟩
theorem own_shapeR {w : World} {B n s : Nat} {e : TypeId} {v : Value} {xs : List Value} (h : w.ownsRow B e s v n xs) : ∃ a cap, v = .slice a n cap := by
  rcases h.2 with ⟨rfl, hn⟩ | ⟨g, cap, cur, rfl, _⟩
  · exact ⟨none, 0, by rw [hn]⟩
  · exact ⟨_, cap, rfl⟩
/-- a row's block is none of another type; what is stored there does not reach it -/
theorem own_keepR {W : World} {B s n p : Nat} {e e' : TypeId} {v : Value} {xs : List Value} {off : Nat} {y : Value} (h : W.ownsRow B e s v n xs) (ht : ∃ cur, W.heap[p]? = some (.cells cur e' (0, 0))) (he : e ≠ e') : (W.setCell ⟨p, off, none⟩ y).ownsRow B e s v n xs :=
  own_move h fun g hg => Below.heap_setCell _ _ _ _ (by rintro rfl; exact own_ne h ht he hg.symm)
theorem RQ.setR {W : World} {B p off : Nat} {v y : Value} {us : List Value} {ls : List (List Int)} (h : RQ W B v us ls) (ht : ∃ cur, W.heap[p]? = some (.cells cur 65 (0, 0))) : RQ (W.setCell ⟨p, off, none⟩ y) B v us ls :=
  ⟨own_keepR h.own ht (by decide), h.len, fun i hi => own_keepR (h.each i hi) ht (by decide), h.ap⟩
def ApR (u v : Value) : Prop := ∀ g, u.ownBlock = some g → v.ownBlock ≠ some g

/-- a relation's block -/
structure RX (W : World) (p : Nat) (v0 v1 v2 v3 : Value) : Prop where
  blk : W.heap[p]? = some (.cells #[v0, v1, v2, v3] 65 (0, 0))
section
variable {W W' w3 : World} {p : Nat} {v0 v1 v2 v3 : Value}
theorem RX.lt (h : RX W p v0 v1 v2 v3) : p < W.heap.size := by
  rcases Nat.lt_or_ge p W.heap.size with h1 | h1
  · exact h1
  · have := h.blk; rw [Array.getElem?_eq_none h1] at this; cases this
theorem RX.below (h : RX W p v0 v1 v2 v3) (hb : Below W.heap.size W W') : RX W' p v0 v1 v2 v3 := ⟨(hb.block p h.lt).trans h.blk⟩
theorem RX.c0 (h : RX W p v0 v1 v2 v3) : W.cell? ⟨p, 0, none⟩ = some v0 := by rw [cell_of_row _ _ _ _ _ _ h.blk]; rfl
theorem RX.c1 (h : RX W p v0 v1 v2 v3) : W.cell? ⟨p, 1, none⟩ = some v1 := by rw [cell_of_row _ _ _ _ _ _ h.blk]; rfl
theorem RX.c2 (h : RX W p v0 v1 v2 v3) : W.cell? ⟨p, 2, none⟩ = some v2 := by rw [cell_of_row _ _ _ _ _ _ h.blk]; rfl
theorem RX.c3 (h : RX W p v0 v1 v2 v3) : W.cell? ⟨p, 3, none⟩ = some v3 := by rw [cell_of_row _ _ _ _ _ _ h.blk]; rfl
theorem RX.free (h : RX W p v0 v1 v2 v3) (j : Nat) : W.frozen? ⟨p, j, none⟩ = false := by unfold World.frozen?; rw [h.blk]; simp
theorem RX.typ (h : RX W p v0 v1 v2 v3) : ∃ cur, W.heap[p]? = some (.cells cur 65 (0, 0)) := ⟨_, h.blk⟩
theorem RX.made (W : World) (v0 v1 v2 v3 : Value) : RX (W.alloc (.cells #[v0, v1, v2, v3] 65)) W.heap.size v0 v1 v2 v3 := ⟨heap_alloc_new _ _⟩
theorem RX.set2 (h : RX W p v0 v1 v2 v3) (y : Value) : RX (W.setCell ⟨p, 2, none⟩ y) p v0 v1 y v3 := ⟨by rw [heap_setCell_same _ _ _ _ _ _ h.blk]; rfl⟩
theorem RX.set3 (h : RX W p v0 v1 v2 v3) (y : Value) : RX (W.setCell ⟨p, 3, none⟩ y) p v0 v1 v2 y := ⟨by rw [heap_setCell_same _ _ _ _ _ _ h.blk]; rfl⟩
theorem RX.other (h : RX W p v0 v1 v2 v3) {q j : Nat} (hne : p ≠ q) (y : Value) : RX (W.setCell ⟨q, j, none⟩ y) p v0 v1 v2 v3 := ⟨(Below.heap_setCell _ _ _ _ hne).trans h.blk⟩
theorem RX.grown {B n s : Nat} {e : TypeId} {v : Value} {xs : List Value} {o : Obj} (h : RX W p v0 v1 v2 v3) (ho : W.ownsRow B e s v n xs) (he : e ≠ 65) (hg : (W.alloc o).grownBy w3 v.ownBlock) : RX w3 p v0 v1 v2 v3 :=
  ⟨(kept_of hg h.lt (own_ne ho h.typ he)).trans h.blk⟩
end

section
variable {W W' w3 : World} {B q p n : Nat} {nm : ByteArray} {ar : Int} {v2 v3 vS v' u : Value} {us cs : List Value} {ws l : List Int} {rows : List (List Int)} {o : Obj} {x : Int}
end

end Go.Proofs.YtegcpplkcahkhaaGreat
