import Derived.Test.YtcdfoephhjacdaaDoorQ20
import Derived.Test.YtcdfoephhjacdaaDoorQ22
/-
  slices.Clone of ints.
-/
namespace Go.Proofs.YtcdfoephhjacdaaDoor
open Go.RowKit

set_option maxHeartbeats 1000000 in
set_option maxRecDepth 1000000 in
theorem cloneP_calls (w : World) (v : Value) (l : List Int) (h : IS w v l) (hl : l.length ≤ 100000) :
    Calls Tryd.prog 81 #[v] w fun e w' => ∃ v', e = .returned v' ∧ w'.ownsRow w.heap.size 3 1 v' l.length (l.map (Value.int .i64)) ∧ Below w.heap.size w w' := by
  obtain ⟨i0, hi, hz0, hz1, hz2⟩ := info_parts Tryd.infoInt
  obtain ⟨a, cap, rfl, hc⟩ := h
  cases a with
  | none =>
    have h0 : l.length = 0 := by
      rcases hc with h0 | ⟨b, o, e, -⟩
      · exact h0
      · cases e
    have e0 : l = [] := List.eq_nil_of_length_eq_zero h0
    subst e0
    have hq : ∀ w : World, (binOp .eql 75 (.slice none 0 cap) (.slice none 0 0)).run Tryd.prog w = .ok (.bool true) w := fun w => Lib.run_eql_slice_nil w 75 3 none 0 cap 0 0 Tryd.underlying75
    go_enter Tryd.func81, Tryd.ntmps81
    go_wp2
    go_ret
    exact ⟨_, rfl, World.ownsRow_nil _ _ _ _, Below.refl _ _⟩
  | some ad =>
    have hq : ∀ w : World, (binOp .eql 75 (.slice (some ad) l.length cap) (.slice none 0 0)).run Tryd.prog w = .ok (.bool false) w := fun w => Lib.run_eql_slice_nil w 75 3 (some ad) l.length cap 0 0 Tryd.underlying75
    have hown : (w.alloc (.cells #[] 3)).ownsRow w.heap.size 3 1 (.slice (some ⟨w.heap.size, 0, none⟩) 0 0) 0 [] := World.ownsRow_made w #[] 0 (Nat.le_refl _) (by decide) rfl
    have hbA : Below w.heap.size w (w.alloc (.cells #[] 3)) := (Below.refl _ _).alloc (Nat.le_refl _) _
    by_cases h0 : l.length = 0
    · have e0 : l = [] := List.eq_nil_of_length_eq_zero h0
      subst e0
      have hq0 : ∀ w : World, (binOp .eql 75 (.slice (some ad) 0 cap) (.slice none 0 0)).run Tryd.prog w = .ok (.bool false) w := hq
      clear hq hc h0
      go_enter Tryd.func81, Tryd.ntmps81
      go_wp2_with (first | (at_builtin; refine wpList_append_own _ rfl _ _ 75 rfl w.heap.size 3 i0 (.int .i64 0) 1 8 Tryd.underlying75 hi hz0 hz1 hz2 rfl (by decide) (.slice (some ⟨w.heap.size, 0, none⟩) 0 0) 0 [] rfl hown ad 0 cap [] rfl rfl (fun j u hu => by simp at hu) (fun u hu => by cases hu) (by unfold maxLen; omega) (by omega) (by simp) ?_; intro v3 w3 hown3 hgrow3 _) | fail)
      go_ret
      exact ⟨_, rfl, hown3, hbA.grown hgrow3 (by simp) (fun k hk => (hown.lt k hk).1)⟩
    · obtain ⟨b, o, e, hc'⟩ : ∃ b o, some ad = some (⟨b, o, none⟩ : Addr) ∧ ∀ j, j < l.length → w.cell? ⟨b, o + j, none⟩ = some (.int .i64 (l.getD j 0)) := by
        rcases hc with h1 | h1
        · omega
        · exact h1
      obtain rfl := Option.some.inj e
      clear hc e
      have hnews : ∀ j u, (l.map (Value.int .i64))[j]? = some u → (w.alloc (.cells #[] 3)).cell? ((⟨b, o, none⟩ : Addr).add j) = some u := fun j u hu => by
        have hj : j < l.length := by
          rcases Nat.lt_or_ge j l.length with h | h
          · exact h
          · rw [List.getElem?_eq_none (by simpa using h)] at hu; cases hu
        rw [show ((⟨b, o, none⟩ : Addr).add j) = ⟨b, o + j, none⟩ by unfold Addr.add; split <;> simp_all, hbA.cell (p := ⟨b, o + j, none⟩) (World.block_lt_of_cell? w _ (hc' j hj)), hc' j hj, ← hu, List.getElem?_map, List.getD_eq_getElem?_getD, List.getElem?_eq_getElem hj]
        rfl
      have HNW := hid hnews
      clear hnews hc'
      obtain ⟨n, hn⟩ : ∃ n, n = l.length := ⟨_, rfl⟩
      have HN := hid hn
      rw [← hn] at hq hl h0 ⊢
      clear hn
      go_enter Tryd.func81, Tryd.ntmps81
      go_wp2_with (first | (at_builtin; refine wpList_append_lies _ rfl _ _ 75 rfl w.heap.size 3 i0 (.int .i64 0) 1 8 Tryd.underlying75 hi hz0 hz1 hz2 rfl (by decide) (.slice (some ⟨w.heap.size, 0, none⟩) 0 0) 0 [] rfl hown ⟨b, o, none⟩ n cap (l.map (Value.int .i64)) rfl (by rw [List.length_map, HN.out]; omega) HNW.out (fun u hu => by obtain ⟨x, _, rfl⟩ := List.mem_map.1 hu; rfl) (by omega) (by unfold maxLen; omega) (by omega) (by simp) _ rfl ?_; intro g3 cp3 w3 hown3 hgrow3 hat3 hlt3) | fail)
      go_ret
      refine ⟨_, rfl, ?_, hbA.grown hgrow3 (by simp) (fun k hk => (hown.lt k hk).1)⟩
      simpa using hown3

end Go.Proofs.YtcdfoephhjacdaaDoor

/-
  A relation in the making: its block, its lists, apart from one another.
-/
namespace Go.Proofs.YtcdfoephhjacdaaDoor
open Go.RowKit

theorem bclR {w w' : World} {p : Addr} {v : Value} (hb : Below w.heap.size w w') (h : w.cell? p = some v) : w'.cell? p = some v := (hb.cell (World.block_lt_of_cell? w _ h)).trans h
theorem drew_below2R {a b : World} (h : Below a.drew.heap.size a.drew b) : Below a.heap.size a b := ⟨h.os, h.tape, h.output, h.size, h.block⟩
theorem own_shapeR {w : World} {B n s : Nat} {e : TypeId} {v : Value} {xs : List Value} (h : w.ownsRow B e s v n xs) : ∃ a cap, v = .slice a n cap := by
  rcases h.2 with ⟨rfl, hn⟩ | ⟨g, cap, cur, rfl, _⟩
  · exact ⟨none, 0, by rw [hn]⟩
  · exact ⟨_, cap, rfl⟩
/-- a row's block is none of another type; what is stored there does not reach it -/
theorem own_keepR {W : World} {B s n p : Nat} {e e' : TypeId} {v : Value} {xs : List Value} {off : Nat} {y : Value} (h : W.ownsRow B e s v n xs) (ht : ∃ cur, W.heap[p]? = some (.cells cur e' (0, 0))) (he : e ≠ e') : (W.setCell ⟨p, off, none⟩ y).ownsRow B e s v n xs :=
  own_move h fun g hg => Below.heap_setCell _ _ _ _ (by rintro rfl; exact own_ne h ht he hg.symm)
theorem RQ.setR {W : World} {B p off : Nat} {v y : Value} {us : List Value} {ls : List (List Int)} (h : RQ W B v us ls) (ht : ∃ cur, W.heap[p]? = some (.cells cur 77 (0, 0))) : RQ (W.setCell ⟨p, off, none⟩ y) B v us ls :=
  ⟨own_keepR h.own ht (by decide), h.len, fun i hi => own_keepR (h.each i hi) ht (by decide), h.ap⟩
def ApR (u v : Value) : Prop := ∀ g, u.ownBlock = some g → v.ownBlock ≠ some g

/-- a relation's block -/
structure RX (W : World) (p : Nat) (v0 v1 v2 v3 : Value) : Prop where
  blk : W.heap[p]? = some (.cells #[v0, v1, v2, v3] 77 (0, 0))
section
variable {W W' w3 : World} {p : Nat} {v0 v1 v2 v3 : Value}
theorem RX.lt (h : RX W p v0 v1 v2 v3) : p < W.heap.size := by
  rcases Nat.lt_or_ge p W.heap.size with h1 | h1
  · exact h1
  · have := h.blk; rw [Array.getElem?_eq_none h1] at this; cases this
theorem RX.below (h : RX W p v0 v1 v2 v3) (hb : Below W.heap.size W W') : RX W' p v0 v1 v2 v3 := ⟨(hb.block p h.lt).trans h.blk⟩
theorem RX.c0 (h : RX W p v0 v1 v2 v3) : W.cell? ⟨p, 0, none⟩ = some v0 := by rw [cell_of_row _ _ _ _ _ _ h.blk]; rfl
theorem RX.c1 (h : RX W p v0 v1 v2 v3) : W.cell? ⟨p, 1, none⟩ = some v1 := by rw [cell_of_row _ _ _ _ _ _ h.blk]; rfl
theorem RX.c2 (h : RX W p v0 v1 v2 v3) : W.cell? ⟨p, 2, none⟩ = some v2 := by rw [cell_of_row _ _ _ _ _ _ h.blk]; rfl
theorem RX.c3 (h : RX W p v0 v1 v2 v3) : W.cell? ⟨p, 3, none⟩ = some v3 := by rw [cell_of_row _ _ _ _ _ _ h.blk]; rfl
theorem RX.free (h : RX W p v0 v1 v2 v3) (j : Nat) : W.frozen? ⟨p, j, none⟩ = false := by unfold World.frozen?; rw [h.blk]; simp
theorem RX.typ (h : RX W p v0 v1 v2 v3) : ∃ cur, W.heap[p]? = some (.cells cur 77 (0, 0)) := ⟨_, h.blk⟩
theorem RX.made (W : World) (v0 v1 v2 v3 : Value) : RX (W.alloc (.cells #[v0, v1, v2, v3] 77)) W.heap.size v0 v1 v2 v3 := ⟨heap_alloc_new _ _⟩
theorem RX.set2 (h : RX W p v0 v1 v2 v3) (y : Value) : RX (W.setCell ⟨p, 2, none⟩ y) p v0 v1 y v3 := ⟨by rw [heap_setCell_same _ _ _ _ _ _ h.blk]; rfl⟩
theorem RX.set3 (h : RX W p v0 v1 v2 v3) (y : Value) : RX (W.setCell ⟨p, 3, none⟩ y) p v0 v1 v2 y := ⟨by rw [heap_setCell_same _ _ _ _ _ _ h.blk]; rfl⟩
theorem RX.other (h : RX W p v0 v1 v2 v3) {q j : Nat} (hne : p ≠ q) (y : Value) : RX (W.setCell ⟨q, j, none⟩ y) p v0 v1 v2 v3 := ⟨(Below.heap_setCell _ _ _ _ hne).trans h.blk⟩
theorem RX.grown {B n s : Nat} {e : TypeId} {v : Value} {xs : List Value} {o : Obj} (h : RX W p v0 v1 v2 v3) (ho : W.ownsRow B e s v n xs) (he : e ≠ 77) (hg : (W.alloc o).grownBy w3 v.ownBlock) : RX w3 p v0 v1 v2 v3 :=
  ⟨(kept_of hg h.lt (own_ne ho h.typ he)).trans h.blk⟩
end

/-- a relation in the making, over the tuples of a list -/
structure KR (W : World) (B q p : Nat) (nm : ByteArray) (ar : Int) (v2 v3 vS : Value) (us : List Value) (rows : List (List Int)) (ws : List Int) (n : Nat) (cs : List Value) : Prop where
  rx : RX W p (.string nm) (.int .i64 ar) v2 v3
  rb : RX W q (.string ⟨#[]⟩) (.int .i64 0) (.slice none 0 0) (.slice none 0 0)
  rq : RQ W B v2 us rows
  o3 : W.ownsRow B 3 1 v3 ws.length (ws.map (Value.int .i64))
  st : W.ownsRow B 132 3 vS n cs
  a3 : ∀ i, i < rows.length → ApR (us.getD i undef) v3
  lo : B ≤ p
  ne : q ≠ p
section
variable {W W' w3 : World} {B q p n : Nat} {nm : ByteArray} {ar : Int} {v2 v3 vS v' u : Value} {us cs : List Value} {ws l : List Int} {rows : List (List Int)} {o : Obj} {x : Int}
theorem KR.below (h : KR W B q p nm ar v2 v3 vS us rows ws n cs) (hb : Below W.heap.size W W') : KR W' B q p nm ar v2 v3 vS us rows ws n cs :=
  ⟨h.rx.below hb, h.rb.below hb, h.rq.below hb, own_below h.o3 hb, own_below h.st hb, h.a3, h.lo, h.ne⟩
theorem KR.pushR (h : KR W B q p nm ar v2 v3 vS us rows ws n cs) (hu : W.ownsRow B 3 1 u l.length (l.map (Value.int .i64))) (hr : ∀ i, i < rows.length → ∀ g, (us.getD i undef).ownBlock = some g → u.ownBlock ≠ some g) (h3 : ApR u v3)
    (hown : w3.ownsRow B 75 1 v' (rows.length + 1) (us ++ [u])) (hg : (W.alloc o).grownBy w3 v2.ownBlock) : KR (w3.setCell ⟨p, 2, none⟩ v') B q p nm ar v' v3 vS (us ++ [u]) (rows ++ [l]) ws n cs := by
  have hX := h.rx.grown h.rq.own (by decide) hg
  have hQ := h.rb.grown h.rq.own (by decide) hg
  have hint : ∀ {y : Value} {k : Nat} {xs : List Value}, W.ownsRow B 3 1 y k xs → w3.ownsRow B 3 1 y k xs := fun hx =>
    own_move hx fun g hgx => kept_of hg (hx.lt g hgx).2 (own_ne h.rq.own (own_typ hx hgx) (by decide))
  have htup : w3.ownsRow B 132 3 vS n cs := own_move h.st fun g hgx => kept_of hg (h.st.lt g hgx).2 (own_ne h.rq.own (own_typ h.st hgx) (by decide))
  have hl := h.rq.len
  refine ⟨hX.set2 _, hQ.other h.ne _, (h.rq.step hu hr hown hg).setR hX.typ, own_keepR (hint h.o3) hX.typ (by decide), own_keepR htup hX.typ (by decide), fun i hi => ?_, h.lo, h.ne⟩
  rw [List.length_append, List.length_singleton] at hi
  by_cases e : i < rows.length
  · rw [List.getD_eq_getElem?_getD, List.getElem?_append_left (by omega), ← List.getD_eq_getElem?_getD]; exact h.a3 i e
  · rw [List.getD_eq_getElem?_getD, List.getElem?_append_right (by omega), show i - us.length = 0 by omega]; exact h3
theorem KR.pushW (h : KR W B q p nm ar v2 v3 vS us rows ws n cs) (hown : w3.ownsRow B 3 1 v' (ws.length + 1) (ws.map (Value.int .i64) ++ [.int .i64 x])) (hg : (W.alloc o).grownBy w3 v3.ownBlock) (hat : ∀ g, v'.ownBlock = some g → v3.ownBlock = some g ∨ W.heap.size ≤ g) :
    KR (w3.setCell ⟨p, 3, none⟩ v') B q p nm ar v2 v' vS us rows (ws ++ [x]) n cs := by
  have hX := h.rx.grown h.o3 (by decide) hg
  have hQ := h.rb.grown h.o3 (by decide) hg
  have ap : ∀ {y : Value} {k : Nat} {xs : List Value}, W.ownsRow B 3 1 y k xs → ApR y v3 → ApR y v' := fun hx ha g h1 h2 => by
    rcases hat g h2 with h3 | h3
    · exact ha g h1 h3
    · have := (hx.lt g h1).2; omega
  have hint : ∀ {y : Value} {k : Nat} {xs : List Value}, W.ownsRow B 3 1 y k xs → ApR y v3 → w3.ownsRow B 3 1 y k xs := fun hx ha =>
    own_move hx fun g hgx => kept_of hg (hx.lt g hgx).2 (fun e => ha g hgx e.symm)
  have htup : w3.ownsRow B 132 3 vS n cs := own_move h.st fun g hgx => kept_of hg (h.st.lt g hgx).2 (own_ne h.o3 (own_typ h.st hgx) (by decide))
  refine ⟨hX.set3 _, hQ.other h.ne _, ⟨?_, h.rq.len, fun i hi => own_keepR (hint (h.rq.each i hi) (h.a3 i hi)) hX.typ (by decide), h.rq.ap⟩, ?_, own_keepR htup hX.typ (by decide), fun i hi => ap (h.rq.each i hi) (h.a3 i hi), h.lo, h.ne⟩
  · exact own_keepR (own_move h.rq.own fun g hgx => kept_of hg (h.rq.own.lt g hgx).2 (own_ne h.o3 (own_typ h.rq.own hgx) (by decide))) hX.typ (by decide)
  · refine own_keepR ?_ hX.typ (by decide)
    rw [List.length_append, List.length_singleton, List.map_append]
    exact hown
end

end Go.Proofs.YtcdfoephhjacdaaDoor
