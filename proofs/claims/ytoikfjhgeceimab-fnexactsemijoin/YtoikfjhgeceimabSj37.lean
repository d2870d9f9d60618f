import Derived.Test.YtoikfjhgeceimabSj32
import Derived.Test.YtoikfjhgeceimabSj34
import Derived.Test.YtoikfjhgeceimabSj36
/-
  spec.Semijoin.
-/
namespace Go.Proofs.Ytoikfjhgeceimab
open Go.RowKit

set_option maxHeartbeats 4000000 in
set_option maxRecDepth 1000000 in
theorem sSemijoin_no (w : World) (a0 a1 a2 b0 b1 b2 : Value) (va wa vb wb : List Int) (ra rb : List (List Int)) (hA : IT w a0 a1 a2 va ra wa) (hB : IT w b0 b1 b2 vb rb wb) (hla : va.length ≤ 1099511627776) (hSa : Short ra) (hlb : vb.length ≤ 1099511627776) (hSb : Short rb) (hno : semOK va ra wa vb rb wb = false) :
    Calls Try.prog 46 #[.agg #[a0, a1, a2], .agg #[b0, b1, b2]] w fun e w' => ∃ x0 x1 x2, e = .returned (.agg #[x0, x1, x2]) ∧ IT w' x0 x1 x2 [] [] [] ∧ (∀ g, x1.ownBlock = some g → w.heap.size ≤ g) ∧ Below w.heap.size w w' := by
  obtain ⟨W1, hW1⟩ : ∃ W1, W1 = three w a0 a1 a2 b0 b1 b2 := ⟨_, rfl⟩
  obtain ⟨hB1, hTa, hTb, hTr⟩ := three_is w a0 a1 a2 b0 b1 b2
  rw [← hW1] at hB1 hTa hTb hTr
  have HTa := hid hTa
  have HTb := hid hTb
  have HTr := hid hTr
  have HB1 := hid hB1
  have KTa := hid (sTableOK_calls W1 a0 a1 a2 va ra wa (hA.below hB1) hla hSa)
  have KTb : Hid (∀ W, Below W1.heap.size W1 W → Calls Try.prog 38 #[.agg #[b0, b1, b2]] W fun e w' => e = .returned (.bool (tableB vb rb wb)) ∧ Below W.heap.size W w') := hid fun W hW => sTableOK_calls W b0 b1 b2 vb rb wb (hB.below (bt hB1 hW)) hlb hSb
  unfold three at hW1
  unfold semOK at hno
  obtain ⟨p0, k0, e0, -⟩ := hA.vs
  obtain ⟨p1, k1, e1, -⟩ := hA.rows
  obtain ⟨p2, k2, e2, -⟩ := hA.ws
  obtain ⟨q0, m0, f0, -⟩ := hB.vs
  obtain ⟨q1, m1, f1, -⟩ := hB.rows
  obtain ⟨q2, m2, f2, -⟩ := hB.ws
  subst e0 e1 e2 f0 f1 f2
  clear hA hB hB1 hTa hTb hTr hla hSa hlb hSb
  have d0 := HTa.out.c0
  have d1 := HTa.out.c1
  have d2 := HTa.out.c2
  cases ht : tableB va ra wa
  · rw [ht] at KTa
    clear KTb ht hno
    generalize va.length = l0 at *
    generalize ra.length = l1 at *
    generalize wa.length = l2 at *
    generalize vb.length = n0 at *
    generalize rb.length = n1 at *
    generalize wb.length = n2 at *
    go_enter Try.func46, Try.ntmps46
    go_upto_region 1 with fail
    rw [← hW1]
    clear hW1
    go_wp2_with fail
    refine KTa.out.mono ?_
    rintro e w2 ⟨rfl, hb2⟩
    have HR2 := hid (HTr.out.below hb2)
    have HB2 := hid (bt HB1.out hb2)
    clear hb2 KTa HTr d0 d1 d2 HB1 HTa HTb
    have f0 := HR2.out.free 0
    have f1 := HR2.out.free 1
    have f2 := HR2.out.free 2
    have r0 := HR2.out.c0
    have r1 := HR2.out.c1
    have r2 := HR2.out.c2
    go_wp2_with fail
    refine bodyPost_ret (v := .agg #[.slice none 0 0, .slice none 0 0, .slice none 0 0]) (by simp [results, Try.results46, go_sem, r0, r1, r2]) rfl ⟨_, _, _, rfl, nil_it _, fun g hg => by simp [Value.ownBlock] at hg, ((HB2.out.setCell (Nat.le_add_right _ 2) _).setCell (Nat.le_add_right _ 2) _).setCell (Nat.le_add_right _ 2) _⟩
  · rw [ht, Bool.true_and] at hno
    rw [ht] at KTa
    rw [hno] at KTb
    clear ht hno
    generalize va.length = l0 at *
    generalize ra.length = l1 at *
    generalize wa.length = l2 at *
    generalize vb.length = n0 at *
    generalize rb.length = n1 at *
    generalize wb.length = n2 at *
    go_enter Try.func46, Try.ntmps46
    go_upto_region 1 with fail
    rw [← hW1]
    clear hW1
    go_wp2_with fail
    refine KTa.out.mono ?_
    rintro e w2 ⟨rfl, hb2⟩
    have HR2 := hid (HTr.out.below hb2)
    have HB2 := hid (bt HB1.out hb2)
    have HT2 := hid (HTb.out.below hb2)
    have KTb2 := hid (KTb.out w2 hb2)
    clear hb2 KTa HTr d0 d1 d2 HB1 HTa HTb KTb
    have d0 := HT2.out.c0
    have d1 := HT2.out.c1
    have d2 := HT2.out.c2
    go_wp2_with fail
    refine KTb2.out.mono ?_
    rintro e w3 ⟨rfl, hb3⟩
    have HR3 := hid (HR2.out.below hb3)
    have HB3 := hid (bt HB2.out hb3)
    clear hb3 KTb2 HR2 HB2 HT2 d0 d1 d2
    have f0 := HR3.out.free 0
    have f1 := HR3.out.free 1
    have f2 := HR3.out.free 2
    have r0 := HR3.out.c0
    have r1 := HR3.out.c1
    have r2 := HR3.out.c2
    go_wp2_with fail
    refine bodyPost_ret (v := .agg #[.slice none 0 0, .slice none 0 0, .slice none 0 0]) (by simp [results, Try.results46, go_sem, r0, r1, r2]) rfl ⟨_, _, _, rfl, nil_it _, fun g hg => by simp [Value.ownBlock] at hg, ((HB3.out.setCell (Nat.le_add_right _ 2) _).setCell (Nat.le_add_right _ 2) _).setCell (Nat.le_add_right _ 2) _⟩

theorem step_append_own2 {P : Program} {w : World} {ops : Array Oper} {o : Oper} {a : Act} {K : Act → World → Prop} {Q : Exit → Act → World → Prop} {E : Prop} (hgd : o.guard = none) (s x : Operand) (t : TypeId)
    (ho : o.op = .call { callee := .builtin .append, args := #[s, x], argTypes := #[t, t] })
    (base : Nat) (e : TypeId) (i : TypeInfo) (z : Value) (size bytes : Nat) (ht : P.underlying t = some (.slice e)) (hi : P.info? e = some i) (hz : i.zero = some z)
    (hsize : i.size = size) (hby : i.bytes = bytes) (hzs : z.cells.size = size) (hsz : 0 < size)
    (v : Value) (n : Nat) (xs : List Value) (hs : a.eval s = v) (hown : w.ownsRow base e size v n xs)
    (ad : Addr) (m c : Nat) (news : List Value) (hx : a.eval x = .slice (some ad) m c) (hl : news.length = m * size) (hnews : ∀ j u, news[j]? = some u → w.cell? (ad.add j) = some u) (h1 : ∀ u ∈ news, u.oneCell' = true)
    (h63 : n + m ≤ maxLen) (hbytes : (n + m) * bytes ≤ 140737488355328) (hbase : base ≤ w.heap.size)
    (h : ∀ v' w', w'.ownsRow base e size v' (n + m) (xs ++ news) → w.grownBy w' v.ownBlock → (v' = .slice none 0 0 ↔ v = .slice none 0 0 ∧ m = 0) → K (a.put o.dst v') w') : if Region.wanted o (yielded ops a.tmps) = true then Oper.wp P o a w K Q else E := by
  have hw : Region.wanted o (yielded ops a.tmps) = true := by simp [Region.wanted, hgd]
  rw [if_pos hw]
  exact wp_append_own w s x t ho base e i z size bytes ht hi hz hsize hby hzs hsz v n xs hs hown ad m c news hx hl hnews h1 h63 hbytes hbase h

/-- rows in slices that are not nil -/
def ISSs (w : World) (v : Value) (ls : List (List Int)) : Prop := ∃ a cap, v = .slice a ls.length cap ∧ (ls.length = 0 ∨ ∃ b o, a = some ⟨b, o, none⟩ ∧ ∀ j, j < ls.length → ∃ ad c, w.cell? ⟨b, o + j, none⟩ = some (.slice (some ad) (ls.getD j []).length c) ∧ IS w (.slice (some ad) (ls.getD j []).length c) (ls.getD j []))
theorem ISSs.below {w w' : World} {v : Value} {ls : List (List Int)} (h : ISSs w v ls) (hb : Below w.heap.size w w') : ISSs w' v ls := by
  obtain ⟨a, cap, rfl, h1⟩ := h
  refine ⟨a, cap, rfl, ?_⟩
  rcases h1 with h1 | ⟨b, o, rfl, h1⟩
  · exact Or.inl h1
  · exact Or.inr ⟨b, o, rfl, fun j hj => by obtain ⟨ad, c, h2, h3⟩ := h1 j hj; exact ⟨ad, c, (hb.cell (p := ⟨b, o + j, none⟩) (World.block_lt_of_cell? w _ h2)).trans h2, h3.below hb⟩⟩

/-- what an append finds in a slice -/
theorem news_is {w : World} {ad : Addr} {n c : Nat} {l : List Int} (h : IS w (.slice (some ad) n c) l) : ∀ j u, (l.map (Value.int .i64))[j]? = some u → w.cell? (ad.add j) = some u := fun j u hu => by
  have hj : j < l.length := by
    rcases Nat.lt_or_ge j l.length with h | h
    · exact h
    · rw [List.getElem?_eq_none (by simpa using h)] at hu; cases hu
  obtain ⟨a', c', e, hh⟩ := h
  simp only [Value.slice.injEq] at e
  obtain ⟨rfl, -, -⟩ := e
  rcases hh with h0 | ⟨b, o, e, hh⟩
  · omega
  · obtain rfl := Option.some.inj e
    rw [show ((⟨b, o, none⟩ : Addr).add j) = ⟨b, o + j, none⟩ by unfold Addr.add; split <;> simp_all, hh j hj, ← hu, List.getElem?_map, List.getD_eq_getElem?_getD, List.getElem?_eq_getElem hj]
    rfl
theorem Try.fieldT1 (b c d : Value) (w : World) : Sem.run Try.prog (Instr.field 62 (.agg #[b, c, d]) 1) w = .ok c w := by kernel_rfl

end Go.Proofs.Ytoikfjhgeceimab

/-
  All blocks but one stand; a table in the making without its variables.
-/
namespace Go.Proofs.Ytoikfjhgeceimab
open Go.RowKit

structure Kp (k : Nat) (w w' : World) : Prop where
  os : w'.os = w.os
  tape : w'.tape = w.tape
  output : w'.output = w.output
  size : w.heap.size ≤ w'.heap.size
  block : ∀ b, b < w.heap.size → b ≠ k → w'.heap[b]? = w.heap[b]?

section
variable {k : Nat} {w a b w3 W : World} {v : Value} {o : Obj}
theorem Kp.refl (k : Nat) (w : World) : Kp k w w := ⟨rfl, rfl, rfl, Nat.le_refl _, fun _ _ _ => rfl⟩
theorem Kp.step (h : Kp k w a) (g : Below a.heap.size a b) : Kp k w b := ⟨g.os.trans h.os, g.tape.trans h.tape, g.output.trans h.output, Nat.le_trans h.size g.size, fun i hi hne => (g.block i (Nat.lt_of_lt_of_le hi h.size)).trans (h.block i hi hne)⟩
theorem Kp.push (h : Kp k w a) (hg : (a.alloc o).grownBy w3 v.ownBlock) (hv : ∀ g, v.ownBlock = some g → w.heap.size ≤ g) (off : Nat) (y : Value) : Kp k w (w3.setCell ⟨k, off, none⟩ y) := by
  have hs := hg.size
  have hs0 := h.size
  rw [World.size_alloc] at hs
  refine ⟨hg.os.trans h.os, hg.tape.trans h.tape, hg.output.trans h.output, ?_, fun i hi hne => ?_⟩
  · have : (w3.setCell ⟨k, off, none⟩ y).heap.size = w3.heap.size := by simp [World.setCell]
    omega
  · rw [Below.heap_setCell _ _ _ _ hne, kept_of hg (by omega) (fun e => by have := hv i e.symm; omega)]
    exact h.block i hi hne
theorem Kp.below {N : Nat} (h : Kp k w W) (hN : N ≤ w.heap.size) (hk : N ≤ k) : Below N w W := ⟨h.os, h.tape, h.output, h.size, fun i hi => h.block i (by omega) (by omega)⟩
theorem Kp.cell (h : Kp k w W) {p : Addr} (hp : p.block < w.heap.size) (hk : p.block ≠ k) : W.cell? p = w.cell? p := World.cell?_of_block (w := w) (h.block p.block hp hk)
theorem TX.kp {q : Nat} {v0 v1 v2 : Value} (h : TX w q v0 v1 v2) (hK : Kp k w W) (hne : q ≠ k) : TX W q v0 v1 v2 := ⟨(hK.block q h.lt hne).trans h.blk⟩

theorem int_ne {p n c b o : Nat} {ad : Option Addr} {x : Int} (hX : TX w p (.slice ad n c) (.slice none 0 0) (.slice none 0 0)) (hc : w.cell? ⟨b, o, none⟩ = some (.int .i64 x)) : b ≠ p := fun e => by
  subst e
  rw [cell_of_row _ _ _ _ _ _ hX.blk] at hc
  match o, hc with
  | 0, hc => simp at hc
  | 1, hc => simp at hc
  | 2, hc => simp at hc
  | o + 3, hc => simp at hc
theorem IS.kp {p n c : Nat} {ad : Option Addr} {l : List Int} (h : IS w v l) (hX : TX w p (.slice ad n c) (.slice none 0 0) (.slice none 0 0)) (hK : Kp p w W) : IS W v l := by
  obtain ⟨a', c', e, h1⟩ := h
  refine ⟨a', c', e, ?_⟩
  rcases h1 with h1 | ⟨b, o, rfl, h1⟩
  · exact Or.inl h1
  · exact Or.inr ⟨b, o, rfl, fun j hj => (hK.cell (p := ⟨b, o + j, none⟩) (World.block_lt_of_cell? w _ (h1 j hj)) (int_ne hX (h1 j hj))).trans (h1 j hj)⟩
theorem ISSc.kp {p n c : Nat} {ad : Option Addr} {ls : List (List Int)} (h : ISSc w v ls) (hX : TX w p (.slice ad n c) (.slice none 0 0) (.slice none 0 0)) (hK : Kp p w W) (hne : v.ownBlock ≠ some p) : ISSc W v ls := by
  obtain ⟨a', c', e, h1⟩ := h
  subst e
  refine ⟨a', c', rfl, ?_⟩
  rcases h1 with h1 | ⟨b, o, rfl, h1⟩
  · exact Or.inl h1
  · refine Or.inr ⟨b, o, rfl, fun j hj => ?_⟩
    obtain ⟨u, h2, h3⟩ := h1 j hj
    exact ⟨u, (hK.cell (p := ⟨b, o + j, none⟩) (World.block_lt_of_cell? w _ h2) (fun e => hne (by show some b = some p; exact congrArg some e))).trans h2, h3.1.kp hX hK, h3.2⟩
end

/-- the lists of a table in the making, but its variables -/
structure KY (W : World) (B p : Nat) (v0 v1 v2 : Value) (us : List Value) (rows : List (List Int)) (ws : List Int) : Prop where
  tx : TX W p v0 v1 v2
  tq : TQ W B (.slice none 0 0) v1 v2 us [] rows ws
section
variable {W W' w3 : World} {B p : Nat} {v0 v1 v2 v' u : Value} {us : List Value} {ws l : List Int} {rows : List (List Int)} {o : Obj} {x : Int}
theorem KY.below (h : KY W B p v0 v1 v2 us rows ws) (hb : Below W.heap.size W W') : KY W' B p v0 v1 v2 us rows ws := ⟨h.tx.below hb, h.tq.below hb⟩
theorem KY.pushR (h : KY W B p v0 v1 v2 us rows ws) (hu : W.ownsRow B 3 1 u l.length (l.map (Value.int .i64))) (hr : ∀ i, i < rows.length → ∀ g, (us.getD i undef).ownBlock = some g → u.ownBlock ≠ some g) (h2 : Ap' u v2)
    (hown : w3.ownsRow B 32 1 v' (rows.length + 1) (us ++ [u])) (hg : (W.alloc o).grownBy w3 v1.ownBlock) : KY (w3.setCell ⟨p, 1, none⟩ v') B p v0 v' v2 (us ++ [u]) (rows ++ [l]) ws := by
  have hX : TX w3 p v0 v1 v2 := h.tx.grown h.tq.rq.own (by decide) hg
  have hint : ∀ {y : Value} {k : Nat} {xs : List Value}, W.ownsRow B 3 1 y k xs → w3.ownsRow B 3 1 y k xs := fun hx =>
    own_move hx fun g hgx => kept_of hg (hx.lt g hgx).2 (own_ne h.tq.rq.own (own_typ hx hgx) (by decide))
  have hl := h.tq.rq.len
  have e1 : ∀ i, i < rows.length → (us ++ [u]).getD i undef = us.getD i undef := fun i hi => by rw [List.getD_eq_getElem?_getD, List.getElem?_append_left (by omega), ← List.getD_eq_getElem?_getD]
  have e2 : (us ++ [u]).getD rows.length undef = u := by rw [List.getD_eq_getElem?_getD, List.getElem?_append_right (by omega), show rows.length - us.length = 0 by omega]; rfl
  refine ⟨hX.set1 _, ⟨World.ownsRow_nil _ _ _ _, (h.tq.rq.step hu hr hown hg).set hX.typ, own_keep3 (hint h.tq.o2) hX.typ (by decide), h.tq.a02, fun i hi g _ hg2 => by simp [Value.ownBlock] at hg2, fun i hi => ?_⟩⟩
  rw [List.length_append, List.length_singleton] at hi
  by_cases e : i < rows.length
  · rw [e1 i e]; exact h.tq.a2 i e
  · obtain rfl : i = rows.length := by omega
    rw [e2]; exact h2
theorem KY.pushW (h : KY W B p v0 v1 v2 us rows ws) (hown : w3.ownsRow B 3 1 v' (ws.length + 1) (ws.map (Value.int .i64) ++ [.int .i64 x])) (hg : (W.alloc o).grownBy w3 v2.ownBlock) (hat : ∀ g, v'.ownBlock = some g → v2.ownBlock = some g ∨ W.heap.size ≤ g) :
    KY (w3.setCell ⟨p, 2, none⟩ v') B p v0 v1 v' us rows (ws ++ [x]) := by
  have hX : TX w3 p v0 v1 v2 := h.tx.grown h.tq.o2 (by decide) hg
  have ap : ∀ {y : Value} {k : Nat} {xs : List Value}, W.ownsRow B 3 1 y k xs → Ap' y v2 → Ap' y v' := fun hx ha g h1 h2 => by
    rcases hat g h2 with h3 | h3
    · exact ha g h1 h3
    · have := (hx.lt g h1).2; omega
  have hint : ∀ {y : Value} {k : Nat} {xs : List Value}, W.ownsRow B 3 1 y k xs → Ap' y v2 → w3.ownsRow B 3 1 y k xs := fun hx ha =>
    own_move hx fun g hgx => kept_of hg (hx.lt g hgx).2 (fun e => ha g hgx e.symm)
  refine ⟨hX.set2 _, ⟨World.ownsRow_nil _ _ _ _, ⟨?_, h.tq.rq.len, fun i hi => own_keep3 (hint (h.tq.rq.each i hi) (h.tq.a2 i hi)) hX.typ (by decide), h.tq.rq.ap⟩, ?_, fun g h1 => by simp [Value.ownBlock] at h1, h.tq.a0, fun i hi => ap (h.tq.rq.each i hi) (h.tq.a2 i hi)⟩⟩
  · refine own_keep3 (own_move h.tq.rq.own fun g hgx => kept_of hg (h.tq.rq.own.lt g hgx).2 (own_ne h.tq.o2 (own_typ h.tq.rq.own hgx) (by decide))) hX.typ (by decide)
  · refine own_keep3 ?_ hX.typ (by decide)
    rw [List.length_append, List.length_singleton, List.map_append]
    exact hown
end

end Go.Proofs.Ytoikfjhgeceimab
