import Derived.Test.YtcdfoephhjacdaaDoorQ63
/-
  A query made by appends is marked, and the marks are found again: markQuery, heldQuery.
-/
namespace Go.Proofs.YtcdfoephhjacdaaDoor
open Go.RowKit

def HdM (W : World) (v : Value) (n k : Nat) : Prop := ∀ j, j < n → ∃ g, v.ownBlock = some g ∧ W.cell? ⟨g, j, none⟩ = some (.string (mkT (k + j)))
theorem HdM.kept {W W' : World} {v : Value} {n k : Nat} (h : HdM W v n k) (hb : ∀ g, v.ownBlock = some g → W'.heap[g]? = W.heap[g]?) : HdM W' v n k := fun j hj => by
  obtain ⟨g, e, h1⟩ := h j hj
  exact ⟨g, e, (World.cell?_of_block (w := W) (a := ⟨g, j, none⟩) (hb g e)).trans h1⟩
theorem HdM.below {W W' : World} {v : Value} {n k : Nat} (h : HdM W v n k) (hb : Below W.heap.size W W') : HdM W' v n k := fun j hj => by
  obtain ⟨g, e, h1⟩ := h j hj
  exact ⟨g, e, (hb.cell (p := ⟨g, j, none⟩) (World.block_lt_of_cell? W _ h1)).trans h1⟩
theorem markStringS_any (w : World) (B k n : Nat) (v : Value) (xs : List Value) (h : w.ownsRow B 9 1 v n xs) (hn : n ≤ 1048576) (hk0 : 0 < k) (hk : k ≤ 576460752303423000) :
    Calls Tryd.prog 30 #[v, .int .i64 k] w fun e w' => e = .returned (.int .i64 (k + n : Nat)) ∧ Gb v w w' ∧ HdM w' v n k := by
  rcases own_any h with ⟨rfl, rfl⟩ | ⟨g, cap, rfl, hg, hc, hf⟩
  · refine (markStringS_zero w none 0 k).mono ?_
    rintro e w' ⟨rfl, rfl⟩
    exact ⟨by simp, Gb.refl _ _, fun j hj => by omega⟩
  · rw [Nat.mul_one] at hc hf
    refine (markStringS_calls w g n cap k hc hf hg (by omega) hk0 (by omega)).mono ?_
    rintro e w' ⟨rfl, hk, hcell⟩
    exact ⟨rfl, hk.gb, fun j hj => ⟨g, rfl, hcell j hj⟩⟩
theorem heldStringS_any (w : World) (k n : Nat) (v : Value) (hs : (v = .slice none 0 0 ∧ n = 0) ∨ ∃ g cap, v = .slice (some ⟨g, 0, none⟩) n cap) (h : HdM w v n k) (hn : n ≤ 1048576) (hk0 : 0 < k) (hk : k ≤ 576460752303423000) :
    Calls Tryd.prog 32 #[v, .int .i64 k] w fun e w' => e = .returned (.int .i64 (k + n : Nat)) ∧ Below w.heap.size w w' := by
  rcases hs with ⟨rfl, rfl⟩ | ⟨g, cap, rfl⟩
  · refine (heldStringS_zero w none 0 k).mono ?_
    rintro e w' ⟨rfl, rfl⟩
    exact ⟨by simp, Below.refl _ _⟩
  · exact heldStringS_calls w g n cap k (fun j hj => by
      obtain ⟨g', e, h1⟩ := h j hj
      obtain rfl : g = g' := Option.some.inj e
      exact h1) (by omega) hk0 (by omega)
theorem own_form {W : World} {B e s n : Nat} {v : Value} {xs : List Value} (h : W.ownsRow B e s v n xs) : (v = .slice none 0 0 ∧ n = 0) ∨ ∃ g cap, v = .slice (some ⟨g, 0, none⟩) n cap := by
  rcases own_any h with h | ⟨g, cap, e, -⟩
  · exact Or.inl h
  · exact Or.inr ⟨g, cap, e⟩

/-- all atoms are marked -/
def AtF (W : World) (y : Value) (us : List UV) (k : Nat) : Prop := us.length = 0 ∨ ∃ g cap, y = .slice (some ⟨g, 0, none⟩) us.length cap ∧ (∀ j, j < us.length → W.cell? ⟨g, j * 2, none⟩ = some (.string (mkT (kAq us k j)))) ∧ (∀ j, j < us.length → W.cell? ⟨g, j * 2 + 1, none⟩ = some (us.getD j noU).2.1) ∧ (∀ j, j < us.length → TmM W (us.getD j noU).2.1 (us.getD j noU).2.2.length (kAq us k j + 1))
theorem AtF.below {W W' : World} {y : Value} {us : List UV} {k : Nat} (h : AtF W y us k) (hb : Below W.heap.size W W') : AtF W' y us k := by
  rcases h with h | ⟨g, cap, e, h1, h2, h3⟩
  · exact Or.inl h
  · exact Or.inr ⟨g, cap, e, fun j hj => (hb.cell (p := ⟨g, j * 2, none⟩) (World.block_lt_of_cell? W _ (h1 j hj))).trans (h1 j hj), fun j hj => (hb.cell (p := ⟨g, j * 2 + 1, none⟩) (World.block_lt_of_cell? W _ (h2 j hj))).trans (h2 j hj), fun j hj => (h3 j hj).below hb⟩
/-- only the blocks of the atoms and of their terms are others -/
structure FrA (y : Value) (us : List UV) (w w' : World) : Prop where
  os : w'.os = w.os
  tape : w'.tape = w.tape
  output : w'.output = w.output
  size : w.heap.size ≤ w'.heap.size
  oth : ∀ b : Nat, b < w.heap.size → some b ≠ y.ownBlock → (∀ u ∈ us, some b ≠ u.2.1.ownBlock) → w'.heap[b]? = w.heap[b]?
theorem getU {us : List UV} {j : Nat} (hj : j < us.length) : us.getD j noU ∈ us := by
  rw [List.getD_eq_getElem?_getD, List.getElem?_eq_getElem hj, Option.getD_some]
  exact List.getElem_mem hj
theorem flatU : ∀ (us : List UV) (j i : Nat), j < us.length → i < 2 → (us.flatMap atc)[j * 2 + i]? = (atc (us.getD j noU))[i]?
  | [], j, i, hj, _ => by simp at hj
  | x :: l, 0, i, _, hi => by
    rw [List.flatMap_cons, Nat.zero_mul, Nat.zero_add, List.getElem?_append_left (by show i < 2; exact hi)]
    rfl
  | x :: l, j + 1, i, hj, hi => by
    rw [List.flatMap_cons, List.getElem?_append_right (by show 2 ≤ _; omega), show (j + 1) * 2 + i - (atc x).length = j * 2 + i by show (j + 1) * 2 + i - 2 = _; omega]
    exact flatU l j i (by simpa using hj) hi
theorem markAtomS_any (w : World) (B k : Nat) (y : Value) (us : List UV) (h2 : w.ownsRow B 96 2 y us.length (us.flatMap atc)) (ht : ∀ u ∈ us, w.ownsRow B 145 2 u.2.1 u.2.2.length (u.2.2.flatMap tmc)) (hap : us.Pairwise fun u v => Apr u.2.1 v.2.1) (hk0 : 0 < k) (hn : us.length ≤ 1048576) (hln : ∀ j, j < us.length → (us.getD j noU).2.2.length ≤ 1048576) (hkb : ∀ j, j ≤ us.length → kAq us k j ≤ 576460752303423000) :
    Calls Tryd.prog 31 #[y, .int .i64 k] w fun e w' => e = .returned (.int .i64 (kAq us k us.length : Nat)) ∧ FrA y us w w' ∧ AtF w' y us k := by
  rcases own_any h2 with ⟨rfl, hz⟩ | ⟨g, cap, rfl, hg, hc, hf⟩
  · refine (markAtomS_zero w none 0 k).mono ?_
    rintro e w' ⟨rfl, rfl⟩
    refine ⟨by rw [hz]; rfl, ⟨rfl, rfl, rfl, Nat.le_refl _, fun _ _ _ _ => rfl⟩, Or.inl hz⟩
  · have hA : AtB w B g us := ⟨own_typ h2 rfl, fun j hj => ht _ (getU hj), fun i j hij hj => by
      have := List.pairwise_iff_getElem.1 hap i j (by omega) hj hij
      rw [List.getD_eq_getElem?_getD, List.getElem?_eq_getElem (show i < us.length by omega), List.getD_eq_getElem?_getD, List.getElem?_eq_getElem hj]
      exact this⟩
    have hsl : ∀ j, j < us.length → w.cell? ⟨g, j * 2 + 1, none⟩ = some (us.getD j noU).2.1 := fun j hj => by
      rw [h2.cellAt (j * 2 + 1) (by omega), flatU us j 1 hj (by omega)]
      rfl
    have h0 : MkA w w g us k 0 := ⟨rfl, rfl, rfl, Nat.le_refl _, hg, fun _ _ _ _ => rfl, hsl, fun j hj => hc (j * 2) (by omega), fun q => h2.frozenAt q, fun j hj => by omega, fun j hj => by omega⟩
    refine (markAtomS_full w B g cap k us hA h0 hk0 hn hln hkb).mono ?_
    rintro e w' ⟨rfl, hm⟩
    exact ⟨rfl, ⟨hm.os, hm.tape, hm.output, hm.size, fun b hb h3 h4 => hm.block b hb (fun e => h3 (by rw [e]; rfl)) (fun j hj => h4 _ (getU hj))⟩, Or.inr ⟨g, cap, rfl, hm.rel, hm.sl, hm.tm⟩⟩

theorem lt_of_block {w : World} {b : Nat} {o : Obj} (h : w.heap[b]? = some o) : b < w.heap.size := by
  rcases Nat.lt_or_ge b w.heap.size with h1 | h1
  · exact h1
  · rw [Array.getElem?_eq_none h1] at h; cases h
/-- boxes of queries are kept -/
def KeepQ (w w' : World) : Prop := ∀ (b : Nat) (cur : Array Value), w.heap[b]? = some (.cells cur 33 (0, 0)) → w'.heap[b]? = w.heap[b]?

/-- a query whose marks are found again -/
structure QyM (W : World) (x y : Value) (n : Nat) (us : List UV) : Prop where
  hd : HdM W x n 1
  at' : AtF W y us (1 + n)
theorem QyM.below {W W' : World} {x y : Value} {n : Nat} {us : List UV} (h : QyM W x y n us) (hb : Below W.heap.size W W') : QyM W' x y n us := ⟨h.hd.below hb, h.at'.below hb⟩

set_option maxHeartbeats 4000000 in
set_option maxRecDepth 1000000 in
theorem markQuery_own (w : World) (B : Nat) (nm : ByteArray) (x y : Value) (hd : List ByteArray) (r : Int) (us : List UV) (h : QyR B w x hd y us) (hB : B ≤ w.heap.size) (hh : hd.length ≤ 1000000) (hn : us.length ≤ 1048576) (hln : ∀ j, j < us.length → (us.getD j noU).2.2.length ≤ 1048576) (hkb : ∀ j, j ≤ us.length → kAq us (1 + hd.length) j ≤ 576460752303423000) :
    Calls Tryd.prog 13 #[.agg #[.string nm, x, .int .i64 r, y], .int .i64 1] w fun e w' => e = .returned (.int .i64 (kAq us (1 + hd.length) us.length : Nat)) ∧ Below B w w' ∧ QyM w' x y hd.length us ∧ KeepQ w w' := by
  obtain ⟨W1, hW1⟩ : ∃ W, W = w.alloc (.cells #[.string nm, x, .int .i64 r, y] 33) := ⟨_, rfl⟩
  have hb1 : Below w.heap.size w W1 := by rw [hW1]; exact (Below.refl _ _).alloc (Nat.le_refl _) _
  have hbl : W1.heap[w.heap.size]? = some (.cells #[.string nm, x, .int .i64 r, y] 33 (0, 0)) := by rw [hW1]; exact heap_alloc_new _ _
  have o1 := own_below h.own1 hb1
  have o2 := own_below h.own2 hb1
  have o3 := fun u hu => own_below (h.tms u hu) hb1
  have hs1 : w.heap.size < W1.heap.size := by rw [hW1]; simp
  have KH := hid (markStringS_any W1 B 1 hd.length x _ o1 (by omega) (by omega) (by omega))
  have c1 : W1.cell? ⟨w.heap.size, 1, none⟩ = some x := cell_of_row _ _ _ _ _ _ hbl
  obtain ⟨ax, cx, ex⟩ := own_shapeT2 h.own1
  obtain ⟨ay, cy, ey⟩ := own_shapeT2 h.own2
  have HKA : Hid (∀ w2, Gb x W1 w2 → HdM w2 x hd.length 1 → w2.cell? ⟨w.heap.size, 3, none⟩ = some y ∧ Calls Tryd.prog 31 #[y, .int .i64 ((1 + hd.length : Nat) : Int)] w2 fun e w' => e = .returned (.int .i64 (kAq us (1 + hd.length) us.length : Nat)) ∧ Below B w w' ∧ QyM w' x y hd.length us ∧ KeepQ w w') := hid fun w2 hg hm => by
    have kp : ∀ {v : Value} {e s n : Nat} {xs : List Value}, W1.ownsRow B e s v n xs → e ≠ 9 → w2.ownsRow B e s v n xs := fun {v e s n xs} ho hne => own_move ho fun q hq => hg.block q (ho.lt q hq).2 (fun e2 => own_ne o1 (own_typ ho hq) (Ne.symm hne) e2)
    have hq2 : w2.heap[w.heap.size]? = some (.cells #[.string nm, x, .int .i64 r, y] 33 (0, 0)) := (hg.block w.heap.size hs1 (fun e2 => own_ne o1 ⟨_, hbl⟩ (by decide) e2)).trans hbl
    refine ⟨cell_of_row _ _ _ _ _ _ hq2, (markAtomS_any w2 B (1 + hd.length) y us (kp o2 (by decide)) (fun u hu => kp (o3 u hu) (by decide)) h.ap (by omega) hn hln hkb).mono ?_⟩
    rintro e w3 ⟨rfl, hf, ha⟩
    refine ⟨rfl, ⟨hf.os.trans (hg.os.trans hb1.os), hf.tape.trans (hg.tape.trans hb1.tape), hf.output.trans (hg.output.trans hb1.output), Nat.le_trans hb1.size (Nat.le_trans hg.size hf.size), fun b hb => ?_⟩, ⟨hm.kept fun q hq => ?_, ha⟩, fun b cur hb => ?_⟩
    · rw [hf.oth b (by have := hg.size; omega) (fun e2 => by have := (o2.lt b e2.symm).1; omega) (fun u hu e2 => by have := ((o3 u hu).lt b e2.symm).1; omega), hg.block b (by omega) (fun e2 => by have := (o1.lt b e2.symm).1; omega)]
      exact hb1.block b (by omega)
    · exact hf.oth q (by have := (o1.lt q hq).2; have := hg.size; omega) (fun e2 => own_ne o2 (own_typ o1 hq) (by decide) e2) (fun u hu e2 => own_ne (o3 u hu) (own_typ o1 hq) (by decide) e2)
    · have hlt := lt_of_block hb
      have hb' : W1.heap[b]? = some (.cells cur 33 (0, 0)) := (hb1.block b hlt).trans hb
      rw [hf.oth b (by have := hg.size; omega) (fun e2 => own_ne o2 ⟨_, hb'⟩ (by decide) e2) (fun u hu e2 => own_ne (o3 u hu) ⟨_, hb'⟩ (by decide) e2), hg.block b (by omega) (fun e2 => own_ne o1 ⟨_, hb'⟩ (by decide) e2)]
      exact hb1.block b hlt
  subst ex ey
  clear hb1 hbl o1 o2 o3 h hkb hln
  generalize hd.length = nh at *
  generalize hku : kAq us (1 + nh) us.length = kz at *
  generalize us.length = nu at *
  go_enter Tryd.func13, Tryd.ntmps13
  go_upto_region 1 with fail
  rw [← hW1]
  clear hW1
  go_wp2_with fail
  refine KH.out.mono ?_
  rintro e w2 ⟨rfl, hg, hm⟩
  obtain ⟨c3, hK⟩ := HKA.out w2 hg hm
  have K2 := hid hK
  clear hK hg hm KH HKA c1 hku
  go_wp2_with fail
  refine K2.out.mono ?_
  rintro e w3 ⟨rfl, hb3, hq3⟩
  have HF := hid (And.intro hb3 hq3)
  clear hb3 hq3 K2 c3
  go_wp2_with fail
  go_ret
  exact ⟨rfl, HF.out⟩

set_option maxHeartbeats 4000000 in
set_option maxRecDepth 1000000 in
theorem heldQuery_own (w : World) (nm : ByteArray) (x y : Value) (nh : Nat) (r : Int) (us : List UV) (h : QyM w x y nh us) (hx : (x = .slice none 0 0 ∧ nh = 0) ∨ ∃ g cap, x = .slice (some ⟨g, 0, none⟩) nh cap) (hy : ∃ a cap, y = .slice a us.length cap) (hu : ∀ j, j < us.length → ((us.getD j noU).2.1 = .slice none 0 0 ∧ (us.getD j noU).2.2.length = 0) ∨ ∃ g cap, (us.getD j noU).2.1 = .slice (some ⟨g, 0, none⟩) (us.getD j noU).2.2.length cap) (hh : nh ≤ 1000000) (hn : us.length ≤ 1048576) (hln : ∀ j, j < us.length → (us.getD j noU).2.2.length ≤ 1048576) (hkb : ∀ j, j ≤ us.length → kAq us (1 + nh) j ≤ 576460752303423000) :
    Calls Tryd.prog 14 #[.agg #[.string nm, x, .int .i64 r, y], .int .i64 1] w fun e w' => e = .returned (.int .i64 (kAq us (1 + nh) us.length : Nat)) ∧ Below w.heap.size w w' := by
  obtain ⟨W1, hW1⟩ : ∃ W, W = w.alloc (.cells #[.string nm, x, .int .i64 r, y] 33) := ⟨_, rfl⟩
  have hb1 : Below w.heap.size w W1 := by rw [hW1]; exact (Below.refl _ _).alloc (Nat.le_refl _) _
  have hbl : W1.heap[w.heap.size]? = some (.cells #[.string nm, x, .int .i64 r, y] 33 (0, 0)) := by rw [hW1]; exact heap_alloc_new _ _
  have hs1 : w.heap.size < W1.heap.size := by rw [hW1]; simp
  have h1 := h.below hb1
  have KH := hid (heldStringS_any W1 1 nh x hx h1.hd (by omega) (by omega) (by omega))
  have c1 : W1.cell? ⟨w.heap.size, 1, none⟩ = some x := cell_of_row _ _ _ _ _ _ hbl
  have HKA : Hid (∀ w2, Below W1.heap.size W1 w2 → w2.cell? ⟨w.heap.size, 3, none⟩ = some y ∧ Calls Tryd.prog 33 #[y, .int .i64 ((1 + nh : Nat) : Int)] w2 fun e w' => e = .returned (.int .i64 (kAq us (1 + nh) us.length : Nat)) ∧ Below w.heap.size w w') := hid fun w2 hb2 => by
    have hq2 := (hb2.block w.heap.size hs1).trans hbl
    refine ⟨cell_of_row _ _ _ _ _ _ hq2, ?_⟩
    rcases (h1.at').below hb2 with hz | ⟨g, cap, rfl, a1, a2, a3⟩
    · obtain ⟨a, cap, rfl⟩ := hy
      rw [hz]
      refine (heldAtomS_zero w2 a cap (1 + nh)).mono ?_
      rintro e w' ⟨rfl, rfl⟩
      exact ⟨rfl, bt hb1 hb2⟩
    · refine (heldAtomS_full w2 g cap (1 + nh) us a1 a2 a3 hu (by omega) hn hln hkb).mono ?_
      rintro e w' ⟨rfl, hb'⟩
      exact ⟨rfl, bt (bt hb1 hb2) hb'⟩
  have hshx : ∃ a n c, x = .slice a n c := by
    rcases hx with ⟨e, -⟩ | ⟨g, c, e⟩
    · exact ⟨_, _, _, e⟩
    · exact ⟨_, _, _, e⟩
  obtain ⟨ax, nx', cx, ex⟩ := hshx
  obtain ⟨ay, cy, ey⟩ := hy
  subst ex ey
  clear hb1 hbl h h1 hx hu hkb hln
  generalize hku : kAq us (1 + nh) us.length = kz at *
  generalize us.length = nu at *
  have g1 : ¬ ((1 : Int) + (nh : Int) < 0) := by omega
  have g2 : ¬ ((kz : Int) < 0) := by omega
  have g3 : ¬ (((1 + nh : Nat) : Int) < 0) := by omega
  go_enter Tryd.func14, Tryd.ntmps14
  go_upto_region 1 with fail
  rw [← hW1]
  clear hW1
  go_wp2_with fail
  refine KH.out.mono ?_
  rintro e w2 ⟨rfl, hb2⟩
  obtain ⟨c3, hK⟩ := HKA.out w2 hb2
  have K2 := hid hK
  clear hK hb2 KH HKA c1 hku
  go_wp2_with fail
  refine K2.out.mono ?_
  rintro e w3 ⟨rfl, hb3⟩
  have HF := hid hb3
  clear hb3 K2 c3
  go_wp2_with fail
  go_ret
  exact ⟨rfl, HF.out⟩

end Go.Proofs.YtcdfoephhjacdaaDoor
