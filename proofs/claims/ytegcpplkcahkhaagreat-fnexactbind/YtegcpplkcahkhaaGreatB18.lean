import Derived.Deep.Cut
import Derived.Test.YtegcpplkcahkhaaGreatB17
/-
  Atoms and lists of atoms: laws.szAtom(S), toAtom(S), eqAtom(S).
-/
namespace Go.Proofs.YtegcpplkcahkhaaGreat
open Go.RowKit

abbrev AtomV := ByteArray × List TermV
def noAt : AtomV := (noTx, [])

/-- one atom's cells -/
def AtAt (w : World) (b o : Nat) (x : AtomV) : Prop := ∃ u, w.cell? ⟨b, o, none⟩ = some (.string x.1) ∧ w.cell? ⟨b, o + 1, none⟩ = some u ∧ ITm w u x.2

theorem AtAt.below {w w' : World} {b o : Nat} {x : AtomV} (h : AtAt w b o x) (hb : Below w.heap.size w w') : AtAt w' b o x := by
  obtain ⟨u, h0, h1, h2⟩ := h
  exact ⟨u, (hb.cell (p := ⟨b, o, none⟩) (World.block_lt_of_cell? w _ h0)).trans h0, (hb.cell (p := ⟨b, o + 1, none⟩) (World.block_lt_of_cell? w _ h1)).trans h1, h2.below hb⟩

/-- a list of atoms, read only -/
def IAt (w : World) (v : Value) (l : List AtomV) : Prop := ∃ a cap, v = .slice a l.length cap ∧ (l.length = 0 ∨ ∃ b o, a = some ⟨b, o, none⟩ ∧ ∀ j, j < l.length → AtAt w b (o + j * 2) (l.getD j noAt))

theorem IAt.below {w w' : World} {v : Value} {l : List AtomV} (h : IAt w v l) (hb : Below w.heap.size w w') : IAt w' v l := by
  obtain ⟨a, cap, rfl, h⟩ := h
  refine ⟨a, cap, rfl, ?_⟩
  rcases h with h | ⟨b, o, rfl, h⟩
  · exact Or.inl h
  · exact Or.inr ⟨b, o, rfl, fun j hj => (h j hj).below hb⟩

/-- what the size of an atom may be -/
structure FitAt (x : AtomV) : Prop where
  rel : x.1.size ≤ 9223372036854775807
  len : x.2.length ≤ 9223372036854775807
  tx : ∀ j, (x.2.getD j noTm).1.size ≤ 9223372036854775807
/-- small enough to be copied -/
structure OkAt (x : AtomV) : Prop where
  rel : x.1.size ≤ 1048576
  len : x.2.length ≤ 1048576
  tx : ∀ j, j < x.2.length → (x.2.getD j noTm).1.size ≤ 1048576

theorem heap_set_ne {w : World} {g c o : Nat} {v : Value} (h : g ≠ c) : (w.setCell ⟨c, o, none⟩ v).heap[g]? = w.heap[g]? := Below.heap_setCell _ _ _ _ h

set_option maxHeartbeats 4000000 in
set_option maxRecDepth 1000000 in
theorem toAtom_calls (w : World) (s : ByteArray) (v : Value) (l : List TermV) (h : ITm w v l) (hl : l.length ≤ 1048576) :
    Calls Tryz.prog 51 #[.agg #[.string s, v]] w fun e w' => ∃ gt, e = .returned (.agg #[.string s, .slice (some ⟨gt, 0, none⟩) l.length l.length]) ∧ OwnTm w' gt l ∧ w.heap.size + 3 ≤ gt ∧ Below w.heap.size w w' := by
  have HI := hid h
  obtain ⟨a, cap, rfl, -⟩ := h
  go_enter Tryz.func51, Tryz.ntmps51
  go_upto_region 3 with fail
  obtain ⟨WX, hWX⟩ : ∃ W, W = (((w.alloc (.cells #[.string s, .slice a l.length cap] 92)).alloc (.cells #[.string ⟨#[]⟩, .slice none 0 0] 56)).alloc (.cells #[.string s, .slice none 0 0] 56)) := ⟨_, rfl⟩
  have a1 : WX.cell? ⟨w.heap.size, 1, none⟩ = some (.slice a l.length cap) := by rw [hWX, World.cell?_alloc_past _ _ _ (by simp; omega), World.cell?_alloc_past _ _ _ (by simp), World.cell?_alloc_at _ _ _ _ rfl]; rfl
  have r0 : WX.cell? ⟨w.heap.size + 1, 0, none⟩ = some (.string ⟨#[]⟩) := by rw [hWX, World.cell?_alloc_past _ _ _ (by simp), World.cell?_alloc_at _ _ _ _ (by simp)]; rfl
  have r1 : WX.cell? ⟨w.heap.size + 1, 1, none⟩ = some (.slice none 0 0) := by rw [hWX, World.cell?_alloc_past _ _ _ (by simp), World.cell?_alloc_at _ _ _ _ (by simp)]; rfl
  have o0 : WX.cell? ⟨w.heap.size + 1 + 1, 0, none⟩ = some (.string s) := by rw [hWX, World.cell?_alloc_at _ _ _ _ (by simp)]; rfl
  have o1 : WX.cell? ⟨w.heap.size + 1 + 1, 1, none⟩ = some (.slice none 0 0) := by rw [hWX, World.cell?_alloc_at _ _ _ _ (by simp)]; rfl
  have f0 : WX.frozen? ⟨w.heap.size + 1, 0, none⟩ = false := by rw [hWX, World.frozen?_alloc_past _ _ _ (by simp)]; exact World.frozen?_alloc_at _ _ _ _ (by simp)
  have f1 : WX.frozen? ⟨w.heap.size + 1, 1, none⟩ = false := by rw [hWX, World.frozen?_alloc_past _ _ _ (by simp)]; exact World.frozen?_alloc_at _ _ _ _ (by simp)
  have f2 : WX.frozen? ⟨w.heap.size + 1 + 1, 1, none⟩ = false := by rw [hWX]; exact World.frozen?_alloc_at _ _ _ _ (by simp)
  have hsz : WX.heap.size = w.heap.size + 3 := by rw [hWX]; simp
  have HB : Hid (Below w.heap.size w WX) := hid (by rw [hWX]; exact (((Below.refl _ _).alloc (Nat.le_refl _) _).alloc (by simp) _).alloc (by simp; omega) _)
  rw [← hWX]
  clear hWX
  go_wp2_with fail
  refine (toTermS_calls WX _ l (HI.out.below HB.out) hl).mono ?_
  rintro e w2 ⟨rfl, hO, hb2⟩
  have r0' := (hb2.cell (p := ⟨w.heap.size + 1, 0, none⟩) (by show w.heap.size + 1 < _; omega)).trans r0
  have r1' := (hb2.cell (p := ⟨w.heap.size + 1, 1, none⟩) (by show w.heap.size + 1 < _; omega)).trans r1
  have o0' := (hb2.cell (p := ⟨w.heap.size + 1 + 1, 0, none⟩) (by show w.heap.size + 1 + 1 < _; omega)).trans o0
  have o1' := (hb2.cell (p := ⟨w.heap.size + 1 + 1, 1, none⟩) (by show w.heap.size + 1 + 1 < _; omega)).trans o1
  have f0' := (hb2.frozen (p := ⟨w.heap.size + 1, 0, none⟩) (by show w.heap.size + 1 < _; omega)).trans f0
  have f1' := (hb2.frozen (p := ⟨w.heap.size + 1, 1, none⟩) (by show w.heap.size + 1 < _; omega)).trans f1
  have f2' := (hb2.frozen (p := ⟨w.heap.size + 1 + 1, 1, none⟩) (by show w.heap.size + 1 + 1 < _; omega)).trans f2
  have HO := hid hO
  have HB2 := hid (bt HB.out hb2)
  have hlt := hO.lt
  clear a1 r0 r1 o0 o1 f0 f1 f2 hb2 hO HB
  rw [hsz] at *
  clear hsz
  go_wp2
  have e0 : ∀ (X : World) (u v : Value), (∃ z, X.cell? ⟨w.heap.size + 1, 0, none⟩ = some z) → ((X.setCell ⟨w.heap.size + 1, 0, none⟩ u).setCell ⟨w.heap.size + 1, 1, none⟩ v).cell? ⟨w.heap.size + 1, 0, none⟩ = some u := fun X u v ⟨z, hz⟩ =>
    (World.cell?_setCell_other _ _ _ _ (by simp)).trans (World.cell?_setCell_same _ _ _ hz)
  have e1 : ∀ (X : World) (u v : Value), (∃ z, X.cell? ⟨w.heap.size + 1, 1, none⟩ = some z) → ((X.setCell ⟨w.heap.size + 1, 0, none⟩ u).setCell ⟨w.heap.size + 1, 1, none⟩ v).cell? ⟨w.heap.size + 1, 1, none⟩ = some v := fun X u v ⟨z, hz⟩ =>
    World.cell?_setCell_same _ _ _ ((World.cell?_setCell_other _ _ _ _ (by simp)).trans hz)
  have g0 := e0 (w2.setCell ⟨w.heap.size + 1 + 1, 1, none⟩ (.slice (some ⟨w.heap.size + 3, 0, none⟩) l.length l.length)) (.string s) (.slice (some ⟨w.heap.size + 3, 0, none⟩) l.length l.length) ⟨_, (World.cell?_setCell_other _ _ _ _ (by simp)).trans r0'⟩
  have g1 := e1 (w2.setCell ⟨w.heap.size + 1 + 1, 1, none⟩ (.slice (some ⟨w.heap.size + 3, 0, none⟩) l.length l.length)) (.string s) (.slice (some ⟨w.heap.size + 3, 0, none⟩) l.length l.length) ⟨_, (World.cell?_setCell_other _ _ _ _ (by simp)).trans r1'⟩
  refine bodyPost_ret (v := .agg #[.string s, .slice (some ⟨w.heap.size + 3, 0, none⟩) l.length l.length]) (by simp [results, Tryz.results51, go_sem, g0, g1]) rfl ⟨_, rfl, HO.out.move ?_ (by simp [World.setCell]), Nat.le_refl _, ?_⟩
  · rw [heap_set_ne (by omega), heap_set_ne (by omega), heap_set_ne (by omega)]
  · exact ((HB2.out.setCell (by show w.heap.size ≤ w.heap.size + 1 + 1; omega) _).setCell (by show w.heap.size ≤ w.heap.size + 1; omega) _).setCell (by show w.heap.size ≤ w.heap.size + 1; omega) _

end Go.Proofs.YtegcpplkcahkhaaGreat

/-
  laws.toAtomS, eqAtom, eqAtomS, szAtom, szAtomS.
-/
namespace Go.Proofs.YtegcpplkcahkhaaGreat
open Go.RowKit

theorem Tryz.infoAt : (Tryz.prog.info? 56).map (fun i => (i.zero, i.size, i.bytes)) = some (some (.agg #[.string ⟨#[]⟩, .slice none 0 0]), 2, 40) := by kernel_rfl

/-- the cells of a copied atom: its terms lie in a block of their own behind g -/
def AtR (W : World) (g : Nat) (x : AtomV) (a b : Value) : Prop := a = .string x.1 ∧ ∃ gt, b = .slice (some ⟨gt, 0, none⟩) x.2.length x.2.length ∧ OwnTm W gt x.2 ∧ g < gt

theorem AtR.below {W W' : World} {g : Nat} {x : AtomV} {a b : Value} (h : AtR W g x a b) (hb : Below W.heap.size W W') : AtR W' g x a b := by
  obtain ⟨h0, gt, h1, h2, h3⟩ := h
  exact ⟨h0, gt, h1, h2.below hb, h3⟩
theorem AtR.set {W : World} {g o : Nat} {x : AtomV} {a b v : Value} (h : AtR W g x a b) : AtR (W.setCell ⟨g, o, none⟩ v) g x a b := by
  obtain ⟨h0, gt, h1, h2, h3⟩ := h
  exact ⟨h0, gt, h1, h2.move (heap_set_ne (by omega)) (by simp [World.setCell]), h3⟩

/-- a copy of atoms, in block g and blocks behind it -/
def OwnAt (W : World) (g : Nat) (l : List AtomV) : Prop := HalfP W g l.length l.length (fun i a b => AtR W g (l.getD i noAt) a b) ∧ g < W.heap.size

theorem OwnAt.below {W W' : World} {g : Nat} {l : List AtomV} (h : OwnAt W g l) (hb : Below W.heap.size W W') : OwnAt W' g l :=
  ⟨h.1.below h.2 hb (fun _ _ _ _ h => h.below hb), Nat.lt_of_lt_of_le h.2 hb.size⟩

theorem OwnAt.set {W : World} {g c o : Nat} {v : Value} {l : List AtomV} (h : OwnAt W g l) (hc : c < g) : OwnAt (W.setCell ⟨c, o, none⟩ v) g l := by
  have ne : ∀ q, (W.setCell ⟨c, o, none⟩ v).cell? ⟨g, q, none⟩ = W.cell? ⟨g, q, none⟩ := fun q => World.cell?_setCell_other _ _ _ _ (by intro e; simp only [Addr.mk.injEq] at e; omega)
  refine ⟨⟨fun q hq => by rw [ne]; exact h.1.any q hq, fun q hq => by rw [World.frozen?_setCell]; exact h.1.free q hq, fun i hi => ?_⟩, by simpa [World.setCell] using h.2⟩
  obtain ⟨u0, u1, h0, h1, e0, gt, e1, h2, h3⟩ := h.1.pair i hi
  exact ⟨u0, u1, by rw [ne]; exact h0, by rw [ne]; exact h1, e0, gt, e1, h2.move (heap_set_ne (by omega)) (by simp [World.setCell]), h3⟩

theorem OwnAt.is {W : World} {g : Nat} {l : List AtomV} (h : OwnAt W g l) : IAt W (.slice (some ⟨g, 0, none⟩) l.length l.length) l :=
  ⟨_, _, rfl, Or.inr ⟨g, 0, rfl, fun j hj => by
    obtain ⟨u0, u1, h0, h1, rfl, gt, rfl, h3, _⟩ := h.1.pair j hj
    exact ⟨_, by rw [Nat.zero_add]; exact h0, by rw [Nat.zero_add]; exact h1, h3.is⟩⟩⟩

set_option maxHeartbeats 4000000 in
set_option maxRecDepth 1000000 in
theorem toAtomS_calls (w : World) (v : Value) (l : List AtomV) (h : IAt w v l) (hl : l.length ≤ 1048576) (hk : ∀ j, j < l.length → (l.getD j noAt).2.length ≤ 1048576) :
    Calls Tryz.prog 28 #[v] w fun e w' => e = .returned (.slice (some ⟨w.heap.size, 0, none⟩) l.length l.length) ∧ OwnAt w' w.heap.size l ∧ Below w.heap.size w w' := by
  obtain ⟨i0, hi, hz0, hz1, hz2⟩ := info_parts Tryz.infoAt
  obtain ⟨a, cap, rfl, hc⟩ := h
  obtain ⟨n, hn⟩ : ∃ n, n = l.length := ⟨_, rfl⟩
  have HC := hid hc
  have HN := hid hn
  have HK := hid hk
  rw [← hn] at HC HK hl ⊢
  clear hc hn hk
  go_enter Tryz.func28, Tryz.ntmps28
  go_wp2_with (at_make; refine wpList_make_full _ rfl _ _ 37 rfl w.heap.size 56 i0 (.agg #[.string ⟨#[]⟩, .slice none 0 0]) 2 Tryz.underlying37 hi hz0 hz1 _ _ _ _ n rfl rfl rfl rfl ?b2 ?b3 (Nat.le_refl _) ?_)
  case b2 => rw [hz2]; omega
  case b3 => unfold maxLen; omega
  intro w0 hown0 hgrow0
  have hb0 : Below w.heap.size w w0 := (Below.refl _ _).grown hgrow0 (Nat.le_refl _) (fun j hj => by cases hj)
  have hlt0 : w.heap.size < w0.heap.size := (hown0.lt _ rfl).2
  have hH0 : HalfP w0 w.heap.size n 0 (fun i a b => AtR w0 w.heap.size (l.getD i noAt) a b) := ⟨fun q hq => by
      rw [hown0.cellAt q hq]
      exact ⟨_, List.getElem?_eq_getElem (by rw [hown0.1]; exact hq)⟩, fun q _ => hown0.frozenAt q, fun i hi => by omega⟩
  have HH0 := hid (And.intro hb0 (And.intro hlt0 hH0))
  clear hown0 hgrow0 hb0 hlt0 hH0
  go_wp2
  go_loopw [4] (fun t wr => ∃ j : Nat, j ≤ n ∧ t = .int .i64 j ∧ Hid (Below w.heap.size w wr ∧ w.heap.size < wr.heap.size ∧ HalfP wr w.heap.size n j (fun i a b => AtR wr w.heap.size (l.getD i noAt) a b))) (fun t _ => n - (intOf t).toNat)
  case atStart => exact ⟨0, Nat.zero_le _, rfl, HH0⟩
  case round =>
    clear HH0
    obtain ⟨j, hj, rfl, hH⟩ := hrel
    obtain ⟨hnx, hlt, hhr⟩ := hH.out
    by_cases hjn : j < n
    · have i1 : (j : Int) < (n : Int) := by omega
      rcases HC.out with h0 | ⟨b, o, rfl, hrel⟩
      · omega
      · obtain ⟨u, c0, c1, hit⟩ := (hrel j hjn).below hnx
        have HNX := hid hnx
        have HHR := hid hhr
        have K := hid (toAtom_calls wr (l.getD j noAt).1 u (l.getD j noAt).2 hit (HK.out j hjn))
        have HST : Hid (∀ W gt, Below wr.heap.size wr W → OwnTm W gt (l.getD j noAt).2 → wr.heap.size ≤ gt → HalfP ((W.setCell ⟨w.heap.size, j * 2, none⟩ (.string (l.getD j noAt).1)).setCell ⟨w.heap.size, j * 2 + 1, none⟩ (.slice (some ⟨gt, 0, none⟩) (l.getD j noAt).2.length (l.getD j noAt).2.length)) w.heap.size n (j + 1) (fun i a b => AtR ((W.setCell ⟨w.heap.size, j * 2, none⟩ (.string (l.getD j noAt).1)).setCell ⟨w.heap.size, j * 2 + 1, none⟩ (.slice (some ⟨gt, 0, none⟩) (l.getD j noAt).2.length (l.getD j noAt).2.length)) w.heap.size (l.getD i noAt) a b)) := hid (fun W gt hb ho hgt =>
          (HHR.out.below hlt hb (fun _ _ _ _ h => AtR.below h hb)).step hjn (fun _ _ _ _ h => h.set.set) (AtR.set (AtR.set ⟨rfl, gt, rfl, ho, by omega⟩)))
        clear hH hnx hhr hrel
        obtain ⟨ua, uc, eu, -⟩ := hit
        subst eu
        obtain ⟨s, hs⟩ : ∃ x, x = (l.getD j noAt).1 := ⟨_, rfl⟩
        rw [← hs] at c0 HST K
        generalize (l.getD j noAt).2.length = m at *
        clear hs
        go_wp2_with fail
        refine K.out.mono ?_
        rintro e w2 ⟨gt, rfl, hO, hgt, hb⟩
        have hHR2 := HHR.out.below hlt hb (fun _ _ _ _ h => AtR.below h hb)
        obtain ⟨u0, d0⟩ := hHR2.any (j * 2) (by omega)
        obtain ⟨u1, d1⟩ := hHR2.any (j * 2 + 1) (by omega)
        have f0 := hHR2.free (j * 2) (by omega)
        have f1 := hHR2.free (j * 2 + 1) (by omega)
        have HF := hid (HST.out w2 gt hb hO (by omega))
        have HB2 := hid (bt HNX.out hb)
        have hs2 := hb.size
        clear hHR2 hb HST c0 c1 K hO
        go_wp2
        go_roundw
        case rel => exact ⟨j + 1, by omega, by go_num, hid ⟨(HB2.out.setCell (Nat.le_refl _) _).setCell (Nat.le_refl _) _, by simp [World.setCell]; omega, HF.out⟩⟩
        case measure => simp [intOf]; omega
    · obtain rfl : j = n := by omega
      have i1 : ¬ ((j : Int) < (j : Int)) := by omega
      have HX := hid (And.intro hhr (And.intro hlt hnx))
      clear hH hnx hhr
      go_wp2
      go_ret
      refine ⟨rfl, ⟨?_, HX.out.2.1⟩, HX.out.2.2⟩
      rw [← HN.out]
      exact HX.out.1

set_option maxHeartbeats 2000000 in
set_option maxRecDepth 1000000 in
theorem eqAtom_same (w : World) (s : ByteArray) (v u : Value) (l : List TermV) (h : ITm w v l) (h' : ITm w u l) (hl : l.length ≤ 1099511627776) :
    Calls Tryz.prog 67 #[.agg #[.string s, v], .agg #[.string s, u]] w fun e w' => e = .returned (.bool true) ∧ Below w.heap.size w w' := by
  have HB : Hid (Below w.heap.size w ((w.alloc (.cells #[.string s, v] 56)).alloc (.cells #[.string s, u] 56))) := hid (((Below.refl _ _).alloc (Nat.le_refl _) _).alloc (by simp) _)
  have H1 := hid h
  have H2 := hid h'
  obtain ⟨a1, k1, rfl, -⟩ := h
  obtain ⟨a2, k2, rfl, -⟩ := h'
  have q1 : (!s.toList == s.toList) = false := by simp
  go_enter Tryz.func67, Tryz.ntmps67
  go_wp2_with fail
  refine (eqTermS_same _ _ _ l (H1.out.below HB.out) (H2.out.below HB.out) hl).mono ?_
  rintro e w1 ⟨rfl, hb1⟩
  have HB1 := hid (bt HB.out hb1)
  go_wp2
  go_ret
  exact ⟨rfl, HB1.out⟩

set_option maxHeartbeats 4000000 in
set_option maxRecDepth 1000000 in
theorem eqAtomS_same (w : World) (v u : Value) (l : List AtomV) (h : IAt w v l) (h' : IAt w u l) (hl : l.length ≤ 1099511627776) (hk : ∀ j, j < l.length → (l.getD j noAt).2.length ≤ 1099511627776) :
    Calls Tryz.prog 36 #[v, u] w fun e w' => e = .returned (.bool true) ∧ Below w.heap.size w w' := by
  obtain ⟨a, cap, rfl, hc⟩ := h
  obtain ⟨a', cap', rfl, hc'⟩ := h'
  obtain ⟨n, hn⟩ : ∃ n, n = l.length := ⟨_, rfl⟩
  rw [← hn] at hc hc' hl hk ⊢
  have HC := hid hc
  have HC' := hid hc'
  have HK := hid hk
  clear hc hc' hn hk
  have hne : ((n : Int) != (n : Int)) = false := by simp
  go_enter Tryz.func36, Tryz.ntmps36
  go_wp2
  go_loopw [5] (fun t wr => ∃ j : Nat, j ≤ n ∧ t = .int .i64 j ∧ Hid (Below w.heap.size w wr)) (fun t _ => n - (intOf t).toNat)
  case atStart => exact ⟨0, Nat.zero_le _, rfl, hid (Below.refl _ _)⟩
  case round =>
    obtain ⟨j, hj, rfl, hB⟩ := hrel
    by_cases hjn : j < n
    · have i1 : (j : Int) < (n : Int) := by omega
      rcases HC.out with h0 | ⟨b, o, rfl, hrel⟩
      · omega
      · rcases HC'.out with h0 | ⟨b', o', rfl, hrel'⟩
        · omega
        · obtain ⟨x1, c0, c1, hx1⟩ := (hrel j hjn).below hB.out
          obtain ⟨x2, d0, d1, hx2⟩ := (hrel' j hjn).below hB.out
          have HQ : Hid (∀ W, Below wr.heap.size wr W → Calls Tryz.prog 67 #[.agg #[.string (l.getD j noAt).1, x1], .agg #[.string (l.getD j noAt).1, x2]] W fun e w' => e = .returned (.bool true) ∧ Below W.heap.size W w') := hid (fun W hb => eqAtom_same W _ _ _ _ (hx1.below hb) (hx2.below hb) (HK.out j hjn))
          obtain ⟨p1, q1, e1, -⟩ := hx1
          obtain ⟨p2, q2, e2, -⟩ := hx2
          subst e1 e2
          clear hrel hrel'
          generalize (l.getD j noAt).1 = x at *
          generalize (l.getD j noAt).2.length = m at *
          have HBW : Hid (∀ W, (W.cell? ⟨b, o + j * 2, none⟩ = some (.string x) ∧ W.cell? ⟨b, o + j * 2 + 1, none⟩ = some (.slice p1 m q1) ∧ W.cell? ⟨b', o' + j * 2, none⟩ = some (.string x) ∧ W.cell? ⟨b', o' + j * 2 + 1, none⟩ = some (.slice p2 m q2) ∧ Below wr.heap.size wr W) → Below wr.heap.size wr W) := hid (fun W h => h.2.2.2.2)
          go_wp2_with fail
          go_region_held3 (fun W => W.cell? ⟨b, o + j * 2, none⟩ = some (.string x) ∧ W.cell? ⟨b, o + j * 2 + 1, none⟩ = some (.slice p1 m q1) ∧ W.cell? ⟨b', o' + j * 2, none⟩ = some (.string x) ∧ W.cell? ⟨b', o' + j * 2 + 1, none⟩ = some (.slice p2 m q2) ∧ Below wr.heap.size wr W)
            (first | exact four_pairs c0 c1 d0 d1 (Below.refl _ _).drew | exact four_pairs c0 c1 d0 d1 (bt (Below.refl _ _).drew hb) | (refine four_pairs c0 c1 d0 d1 (bt (HBW.out _ ?_) hb); assumption))
            (first | (go_at_call 67; refine (HQ.out _ (by first | exact (Below.refl _ _).drew | exact Below.refl _ _ | exact HBW.out _ (by assumption))).mono ?_; rintro e w' ⟨rfl, hb⟩))
          go_wp2
          go_roundw
          case rel => exact ⟨j + 1, by omega, by go_num, hid (bt hB.out (HBW.out _ (by assumption)))⟩
          case measure => simp [intOf]; omega
    · obtain rfl : j = n := by omega
      have i1 : ¬ ((j : Int) < (j : Int)) := by omega
      go_wp2
      go_ret
      exact ⟨rfl, hB.out⟩

end Go.Proofs.YtegcpplkcahkhaaGreat
