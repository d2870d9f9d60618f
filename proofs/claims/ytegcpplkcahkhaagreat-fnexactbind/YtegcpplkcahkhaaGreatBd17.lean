import Derived.Deep.Cut
import Derived.Test.YtegcpplkcahkhaaGreatBd16
/-
  Atoms and lists of atoms: laws.szAtom(S), toAtom(S), eqAtom(S).
-/
namespace Go.Proofs.YtegcpplkcahkhaaGreat
open Go.RowKit

abbrev AtomV := ByteArray × List TermV
def noAt : AtomV := (noTx, [])

/-- one atom's cells -/
def AtAt (w : World) (b o : Nat) (x : AtomV) : Prop := ∃ u, w.cell? ⟨b, o, none⟩ = some (.string x.1) ∧ w.cell? ⟨b, o + 1, none⟩ = some u ∧ ITm w u x.2

theorem AtAt.below {w w' : World} {b o : Nat} {x : AtomV} (h : AtAt w b o x) (hb : Below w.heap.size w w') : AtAt w' b o x := by
  obtain ⟨u, h0, h1, h2⟩ := h
  exact ⟨u, (hb.cell (p := ⟨b, o, none⟩) (World.block_lt_of_cell? w _ h0)).trans h0, (hb.cell (p := ⟨b, o + 1, none⟩) (World.block_lt_of_cell? w _ h1)).trans h1, h2.below hb⟩

/-- a list of atoms, read only -/
def IAt (w : World) (v : Value) (l : List AtomV) : Prop := ∃ a cap, v = .slice a l.length cap ∧ (l.length = 0 ∨ ∃ b o, a = some ⟨b, o, none⟩ ∧ ∀ j, j < l.length → AtAt w b (o + j * 2) (l.getD j noAt))

theorem IAt.below {w w' : World} {v : Value} {l : List AtomV} (h : IAt w v l) (hb : Below w.heap.size w w') : IAt w' v l := by
  obtain ⟨a, cap, rfl, h⟩ := h
  refine ⟨a, cap, rfl, ?_⟩
  rcases h with h | ⟨b, o, rfl, h⟩
  · exact Or.inl h
  · exact Or.inr ⟨b, o, rfl, fun j hj => (h j hj).below hb⟩

/-- what the size of an atom may be -/
structure FitAt (x : AtomV) : Prop where
  rel : x.1.size ≤ 9223372036854775807
  len : x.2.length ≤ 9223372036854775807
  tx : ∀ j, (x.2.getD j noTm).1.size ≤ 9223372036854775807
/-- small enough to be copied -/
structure OkAt (x : AtomV) : Prop where
  rel : x.1.size ≤ 1048576
  len : x.2.length ≤ 1048576
  tx : ∀ j, j < x.2.length → (x.2.getD j noTm).1.size ≤ 1048576

theorem heap_set_ne {w : World} {g c o : Nat} {v : Value} (h : g ≠ c) : (w.setCell ⟨c, o, none⟩ v).heap[g]? = w.heap[g]? := Below.heap_setCell _ _ _ _ h

set_option maxHeartbeats 4000000 in
set_option maxRecDepth 1000000 in
theorem toAtom_calls (w : World) (s : ByteArray) (v : Value) (l : List TermV) (h : ITm w v l) (hl : l.length ≤ 1048576) :
    Calls Tryz.prog 51 #[.agg #[.string s, v]] w fun e w' => ∃ gt, e = .returned (.agg #[.string s, .slice (some ⟨gt, 0, none⟩) l.length l.length]) ∧ OwnTm w' gt l ∧ w.heap.size + 3 ≤ gt ∧ Below w.heap.size w w' := by
  have HI := hid h
  obtain ⟨a, cap, rfl, -⟩ := h
  go_enter Tryz.func51, Tryz.ntmps51
  go_upto_region 3 with fail
  obtain ⟨WX, hWX⟩ : ∃ W, W = (((w.alloc (.cells #[.string s, .slice a l.length cap] 92)).alloc (.cells #[.string ⟨#[]⟩, .slice none 0 0] 56)).alloc (.cells #[.string s, .slice none 0 0] 56)) := ⟨_, rfl⟩
  have a1 : WX.cell? ⟨w.heap.size, 1, none⟩ = some (.slice a l.length cap) := by rw [hWX, World.cell?_alloc_past _ _ _ (by simp; omega), World.cell?_alloc_past _ _ _ (by simp), World.cell?_alloc_at _ _ _ _ rfl]; rfl
  have r0 : WX.cell? ⟨w.heap.size + 1, 0, none⟩ = some (.string ⟨#[]⟩) := by rw [hWX, World.cell?_alloc_past _ _ _ (by simp), World.cell?_alloc_at _ _ _ _ (by simp)]; rfl
  have r1 : WX.cell? ⟨w.heap.size + 1, 1, none⟩ = some (.slice none 0 0) := by rw [hWX, World.cell?_alloc_past _ _ _ (by simp), World.cell?_alloc_at _ _ _ _ (by simp)]; rfl
  have o0 : WX.cell? ⟨w.heap.size + 1 + 1, 0, none⟩ = some (.string s) := by rw [hWX, World.cell?_alloc_at _ _ _ _ (by simp)]; rfl
  have o1 : WX.cell? ⟨w.heap.size + 1 + 1, 1, none⟩ = some (.slice none 0 0) := by rw [hWX, World.cell?_alloc_at _ _ _ _ (by simp)]; rfl
  have f0 : WX.frozen? ⟨w.heap.size + 1, 0, none⟩ = false := by rw [hWX, World.frozen?_alloc_past _ _ _ (by simp)]; exact World.frozen?_alloc_at _ _ _ _ (by simp)
  have f1 : WX.frozen? ⟨w.heap.size + 1, 1, none⟩ = false := by rw [hWX, World.frozen?_alloc_past _ _ _ (by simp)]; exact World.frozen?_alloc_at _ _ _ _ (by simp)
  have f2 : WX.frozen? ⟨w.heap.size + 1 + 1, 1, none⟩ = false := by rw [hWX]; exact World.frozen?_alloc_at _ _ _ _ (by simp)
  have hsz : WX.heap.size = w.heap.size + 3 := by rw [hWX]; simp
  have HB : Hid (Below w.heap.size w WX) := hid (by rw [hWX]; exact (((Below.refl _ _).alloc (Nat.le_refl _) _).alloc (by simp) _).alloc (by simp; omega) _)
  rw [← hWX]
  clear hWX
  go_wp2_with fail
  refine (toTermS_calls WX _ l (HI.out.below HB.out) hl).mono ?_
  rintro e w2 ⟨rfl, hO, hb2⟩
  have r0' := (hb2.cell (p := ⟨w.heap.size + 1, 0, none⟩) (by show w.heap.size + 1 < _; omega)).trans r0
  have r1' := (hb2.cell (p := ⟨w.heap.size + 1, 1, none⟩) (by show w.heap.size + 1 < _; omega)).trans r1
  have o0' := (hb2.cell (p := ⟨w.heap.size + 1 + 1, 0, none⟩) (by show w.heap.size + 1 + 1 < _; omega)).trans o0
  have o1' := (hb2.cell (p := ⟨w.heap.size + 1 + 1, 1, none⟩) (by show w.heap.size + 1 + 1 < _; omega)).trans o1
  have f0' := (hb2.frozen (p := ⟨w.heap.size + 1, 0, none⟩) (by show w.heap.size + 1 < _; omega)).trans f0
  have f1' := (hb2.frozen (p := ⟨w.heap.size + 1, 1, none⟩) (by show w.heap.size + 1 < _; omega)).trans f1
  have f2' := (hb2.frozen (p := ⟨w.heap.size + 1 + 1, 1, none⟩) (by show w.heap.size + 1 + 1 < _; omega)).trans f2
  have HO := hid hO
  have HB2 := hid (bt HB.out hb2)
  have hlt := hO.lt
  clear a1 r0 r1 o0 o1 f0 f1 f2 hb2 hO HB
  rw [hsz] at *
  clear hsz
  go_wp2
  have e0 : ∀ (X : World) (u v : Value), (∃ z, X.cell? ⟨w.heap.size + 1, 0, none⟩ = some z) → ((X.setCell ⟨w.heap.size + 1, 0, none⟩ u).setCell ⟨w.heap.size + 1, 1, none⟩ v).cell? ⟨w.heap.size + 1, 0, none⟩ = some u := fun X u v ⟨z, hz⟩ =>
    (World.cell?_setCell_other _ _ _ _ (by simp)).trans (World.cell?_setCell_same _ _ _ hz)
  have e1 : ∀ (X : World) (u v : Value), (∃ z, X.cell? ⟨w.heap.size + 1, 1, none⟩ = some z) → ((X.setCell ⟨w.heap.size + 1, 0, none⟩ u).setCell ⟨w.heap.size + 1, 1, none⟩ v).cell? ⟨w.heap.size + 1, 1, none⟩ = some v := fun X u v ⟨z, hz⟩ =>
    World.cell?_setCell_same _ _ _ ((World.cell?_setCell_other _ _ _ _ (by simp)).trans hz)
  have g0 := e0 (w2.setCell ⟨w.heap.size + 1 + 1, 1, none⟩ (.slice (some ⟨w.heap.size + 3, 0, none⟩) l.length l.length)) (.string s) (.slice (some ⟨w.heap.size + 3, 0, none⟩) l.length l.length) ⟨_, (World.cell?_setCell_other _ _ _ _ (by simp)).trans r0'⟩
  have g1 := e1 (w2.setCell ⟨w.heap.size + 1 + 1, 1, none⟩ (.slice (some ⟨w.heap.size + 3, 0, none⟩) l.length l.length)) (.string s) (.slice (some ⟨w.heap.size + 3, 0, none⟩) l.length l.length) ⟨_, (World.cell?_setCell_other _ _ _ _ (by simp)).trans r1'⟩
  refine bodyPost_ret (v := .agg #[.string s, .slice (some ⟨w.heap.size + 3, 0, none⟩) l.length l.length]) (by simp [results, Tryz.results51, go_sem, g0, g1]) rfl ⟨_, rfl, HO.out.move ?_ (by simp [World.setCell]), Nat.le_refl _, ?_⟩
  · rw [heap_set_ne (by omega), heap_set_ne (by omega), heap_set_ne (by omega)]
  · exact ((HB2.out.setCell (by show w.heap.size ≤ w.heap.size + 1 + 1; omega) _).setCell (by show w.heap.size ≤ w.heap.size + 1; omega) _).setCell (by show w.heap.size ≤ w.heap.size + 1; omega) _

end Go.Proofs.YtegcpplkcahkhaaGreat

/-
  laws.toAtomS, eqAtom, eqAtomS, szAtom, szAtomS.
-/
namespace Go.Proofs.YtegcpplkcahkhaaGreat
open Go.RowKit

theorem Tryz.infoAt : (Tryz.prog.info? 56).map (fun i => (i.zero, i.size, i.bytes)) = some (some (.agg #[.string ⟨#[]⟩, .slice none 0 0]), 2, 40) := by kernel_rfl

/-- the cells of a copied atom: its terms lie in a block of their own behind g -/
def AtR (W : World) (g : Nat) (x : AtomV) (a b : Value) : Prop := a = .string x.1 ∧ ∃ gt, b = .slice (some ⟨gt, 0, none⟩) x.2.length x.2.length ∧ OwnTm W gt x.2 ∧ g < gt

theorem AtR.below {W W' : World} {g : Nat} {x : AtomV} {a b : Value} (h : AtR W g x a b) (hb : Below W.heap.size W W') : AtR W' g x a b := by
  obtain ⟨h0, gt, h1, h2, h3⟩ := h
  exact ⟨h0, gt, h1, h2.below hb, h3⟩
theorem AtR.set {W : World} {g o : Nat} {x : AtomV} {a b v : Value} (h : AtR W g x a b) : AtR (W.setCell ⟨g, o, none⟩ v) g x a b := by
  obtain ⟨h0, gt, h1, h2, h3⟩ := h
  exact ⟨h0, gt, h1, h2.move (heap_set_ne (by omega)) (by simp [World.setCell]), h3⟩

/-- a copy of atoms, in block g and blocks behind it -/
def OwnAt (W : World) (g : Nat) (l : List AtomV) : Prop := HalfP W g l.length l.length (fun i a b => AtR W g (l.getD i noAt) a b) ∧ g < W.heap.size

theorem OwnAt.below {W W' : World} {g : Nat} {l : List AtomV} (h : OwnAt W g l) (hb : Below W.heap.size W W') : OwnAt W' g l :=
  ⟨h.1.below h.2 hb (fun _ _ _ _ h => h.below hb), Nat.lt_of_lt_of_le h.2 hb.size⟩

theorem OwnAt.set {W : World} {g c o : Nat} {v : Value} {l : List AtomV} (h : OwnAt W g l) (hc : c < g) : OwnAt (W.setCell ⟨c, o, none⟩ v) g l := by
  have ne : ∀ q, (W.setCell ⟨c, o, none⟩ v).cell? ⟨g, q, none⟩ = W.cell? ⟨g, q, none⟩ := fun q => World.cell?_setCell_other _ _ _ _ (by intro e; simp only [Addr.mk.injEq] at e; omega)
  refine ⟨⟨fun q hq => by rw [ne]; exact h.1.any q hq, fun q hq => by rw [World.frozen?_setCell]; exact h.1.free q hq, fun i hi => ?_⟩, by simpa [World.setCell] using h.2⟩
  obtain ⟨u0, u1, h0, h1, e0, gt, e1, h2, h3⟩ := h.1.pair i hi
  exact ⟨u0, u1, by rw [ne]; exact h0, by rw [ne]; exact h1, e0, gt, e1, h2.move (heap_set_ne (by omega)) (by simp [World.setCell]), h3⟩

theorem OwnAt.is {W : World} {g : Nat} {l : List AtomV} (h : OwnAt W g l) : IAt W (.slice (some ⟨g, 0, none⟩) l.length l.length) l :=
  ⟨_, _, rfl, Or.inr ⟨g, 0, rfl, fun j hj => by
    obtain ⟨u0, u1, h0, h1, rfl, gt, rfl, h3, _⟩ := h.1.pair j hj
    exact ⟨_, by rw [Nat.zero_add]; exact h0, by rw [Nat.zero_add]; exact h1, h3.is⟩⟩⟩

set_option maxHeartbeats 4000000 in
set_option maxRecDepth 1000000 in
theorem toAtomS_calls (w : World) (v : Value) (l : List AtomV) (h : IAt w v l) (hl : l.length ≤ 1048576) (hk : ∀ j, j < l.length → (l.getD j noAt).2.length ≤ 1048576) :
    Calls Tryz.prog 28 #[v] w fun e w' => e = .returned (.slice (some ⟨w.heap.size, 0, none⟩) l.length l.length) ∧ OwnAt w' w.heap.size l ∧ Below w.heap.size w w' := by
  obtain ⟨i0, hi, hz0, hz1, hz2⟩ := info_parts Tryz.infoAt
  obtain ⟨a, cap, rfl, hc⟩ := h
  obtain ⟨n, hn⟩ : ∃ n, n = l.length := ⟨_, rfl⟩
  have HC := hid hc
  have HN := hid hn
  have HK := hid hk
  rw [← hn] at HC HK hl ⊢
  clear hc hn hk
  go_enter Tryz.func28, Tryz.ntmps28
  go_wp2_with (at_make; refine wpList_make_full _ rfl _ _ 37 rfl w.heap.size 56 i0 (.agg #[.string ⟨#[]⟩, .slice none 0 0]) 2 Tryz.underlying37 hi hz0 hz1 _ _ _ _ n rfl rfl rfl rfl ?b2 ?b3 (Nat.le_refl _) ?_)
  case b2 => rw [hz2]; omega
  case b3 => unfold maxLen; omega
  intro w0 hown0 hgrow0
  have hb0 : Below w.heap.size w w0 := (Below.refl _ _).grown hgrow0 (Nat.le_refl _) (fun j hj => by cases hj)
  have hlt0 : w.heap.size < w0.heap.size := (hown0.lt _ rfl).2
  have hH0 : HalfP w0 w.heap.size n 0 (fun i a b => AtR w0 w.heap.size (l.getD i noAt) a b) := ⟨fun q hq => by
      rw [hown0.cellAt q hq]
      exact ⟨_, List.getElem?_eq_getElem (by rw [hown0.1]; exact hq)⟩, fun q _ => hown0.frozenAt q, fun i hi => by omega⟩
  have HH0 := hid (And.intro hb0 (And.intro hlt0 hH0))
  clear hown0 hgrow0 hb0 hlt0 hH0
  go_wp2
  go_loopw [4] (fun t wr => ∃ j : Nat, j ≤ n ∧ t = .int .i64 j ∧ Hid (Below w.heap.size w wr ∧ w.heap.size < wr.heap.size ∧ HalfP wr w.heap.size n j (fun i a b => AtR wr w.heap.size (l.getD i noAt) a b))) (fun t _ => n - (intOf t).toNat)
  case atStart => exact ⟨0, Nat.zero_le _, rfl, HH0⟩
  case round =>
    clear HH0
    obtain ⟨j, hj, rfl, hH⟩ := hrel
    obtain ⟨hnx, hlt, hhr⟩ := hH.out
    by_cases hjn : j < n
    · have i1 : (j : Int) < (n : Int) := by omega
      rcases HC.out with h0 | ⟨b, o, rfl, hrel⟩
      · omega
      · obtain ⟨u, c0, c1, hit⟩ := (hrel j hjn).below hnx
        have HNX := hid hnx
        have HHR := hid hhr
        have K := hid (toAtom_calls wr (l.getD j noAt).1 u (l.getD j noAt).2 hit (HK.out j hjn))
        have HST : Hid (∀ W gt, Below wr.heap.size wr W → OwnTm W gt (l.getD j noAt).2 → wr.heap.size ≤ gt → HalfP ((W.setCell ⟨w.heap.size, j * 2, none⟩ (.string (l.getD j noAt).1)).setCell ⟨w.heap.size, j * 2 + 1, none⟩ (.slice (some ⟨gt, 0, none⟩) (l.getD j noAt).2.length (l.getD j noAt).2.length)) w.heap.size n (j + 1) (fun i a b => AtR ((W.setCell ⟨w.heap.size, j * 2, none⟩ (.string (l.getD j noAt).1)).setCell ⟨w.heap.size, j * 2 + 1, none⟩ (.slice (some ⟨gt, 0, none⟩) (l.getD j noAt).2.length (l.getD j noAt).2.length)) w.heap.size (l.getD i noAt) a b)) := hid (fun W gt hb ho hgt =>
          (HHR.out.below hlt hb (fun _ _ _ _ h => AtR.below h hb)).step hjn (fun _ _ _ _ h => h.set.set) (AtR.set (AtR.set ⟨rfl, gt, rfl, ho, by omega⟩)))
        clear hH hnx hhr hrel
        obtain ⟨ua, uc, eu, -⟩ := hit
        subst eu
        obtain ⟨s, hs⟩ : ∃ x, x = (l.getD j noAt).1 := ⟨_, rfl⟩
        rw [← hs] at c0 HST K
        generalize (l.getD j noAt).2.length = m at *
        clear hs
        go_wp2_with fail
        refine K.out.mono ?_
        rintro e w2 ⟨gt, rfl, hO, hgt, hb⟩
        have hHR2 := HHR.out.below hlt hb (fun _ _ _ _ h => AtR.below h hb)
        obtain ⟨u0, d0⟩ := hHR2.any (j * 2) (by omega)
        obtain ⟨u1, d1⟩ := hHR2.any (j * 2 + 1) (by omega)
        have f0 := hHR2.free (j * 2) (by omega)
        have f1 := hHR2.free (j * 2 + 1) (by omega)
        have HF := hid (HST.out w2 gt hb hO (by omega))
        have HB2 := hid (bt HNX.out hb)
        have hs2 := hb.size
        clear hHR2 hb HST c0 c1 K hO
        go_wp2
        go_roundw
        case rel => exact ⟨j + 1, by omega, by go_num, hid ⟨(HB2.out.setCell (Nat.le_refl _) _).setCell (Nat.le_refl _) _, by simp [World.setCell]; omega, HF.out⟩⟩
        case measure => simp [intOf]; omega
    · obtain rfl : j = n := by omega
      have i1 : ¬ ((j : Int) < (j : Int)) := by omega
      have HX := hid (And.intro hhr (And.intro hlt hnx))
      clear hH hnx hhr
      go_wp2
      go_ret
      refine ⟨rfl, ⟨?_, HX.out.2.1⟩, HX.out.2.2⟩
      rw [← HN.out]
      exact HX.out.1

set_option maxHeartbeats 2000000 in
set_option maxRecDepth 1000000 in
theorem eqAtom_same (w : World) (s : ByteArray) (v u : Value) (l : List TermV) (h : ITm w v l) (h' : ITm w u l) (hl : l.length ≤ 1099511627776) :
    Calls Tryz.prog 67 #[.agg #[.string s, v], .agg #[.string s, u]] w fun e w' => e = .returned (.bool true) ∧ Below w.heap.size w w' := by
  have HB : Hid (Below w.heap.size w ((w.alloc (.cells #[.string s, v] 56)).alloc (.cells #[.string s, u] 56))) := hid (((Below.refl _ _).alloc (Nat.le_refl _) _).alloc (by simp) _)
  have H1 := hid h
  have H2 := hid h'
  obtain ⟨a1, k1, rfl, -⟩ := h
  obtain ⟨a2, k2, rfl, -⟩ := h'
  have q1 : (!s.toList == s.toList) = false := by simp
  go_enter Tryz.func67, Tryz.ntmps67
  go_wp2_with fail
  refine (eqTermS_same _ _ _ l (H1.out.below HB.out) (H2.out.below HB.out) hl).mono ?_
  rintro e w1 ⟨rfl, hb1⟩
  have HB1 := hid (bt HB.out hb1)
  go_wp2
  go_ret
  exact ⟨rfl, HB1.out⟩

set_option maxHeartbeats 4000000 in
set_option maxRecDepth 1000000 in
theorem eqAtomS_same (w : World) (v u : Value) (l : List AtomV) (h : IAt w v l) (h' : IAt w u l) (hl : l.length ≤ 1099511627776) (hk : ∀ j, j < l.length → (l.getD j noAt).2.length ≤ 1099511627776) :
    Calls Tryz.prog 36 #[v, u] w fun e w' => e = .returned (.bool true) ∧ Below w.heap.size w w' := by
  obtain ⟨a, cap, rfl, hc⟩ := h
  obtain ⟨a', cap', rfl, hc'⟩ := h'
  obtain ⟨n, hn⟩ : ∃ n, n = l.length := ⟨_, rfl⟩
  rw [← hn] at hc hc' hl hk ⊢
  have HC := hid hc
  have HC' := hid hc'
  have HK := hid hk
  clear hc hc' hn hk
  have hne : ((n : Int) != (n : Int)) = false := by simp
  go_enter Tryz.func36, Tryz.ntmps36
  go_wp2
  go_loopw [5] (fun t wr => ∃ j : Nat, j ≤ n ∧ t = .int .i64 j ∧ Hid (Below w.heap.size w wr)) (fun t _ => n - (intOf t).toNat)
  case atStart => exact ⟨0, Nat.zero_le _, rfl, hid (Below.refl _ _)⟩
  case round =>
    obtain ⟨j, hj, rfl, hB⟩ := hrel
    by_cases hjn : j < n
    · have i1 : (j : Int) < (n : Int) := by omega
      rcases HC.out with h0 | ⟨b, o, rfl, hrel⟩
      · omega
      · rcases HC'.out with h0 | ⟨b', o', rfl, hrel'⟩
        · omega
        · obtain ⟨x1, c0, c1, hx1⟩ := (hrel j hjn).below hB.out
          obtain ⟨x2, d0, d1, hx2⟩ := (hrel' j hjn).below hB.out
          have HQ : Hid (∀ W, Below wr.heap.size wr W → Calls Tryz.prog 67 #[.agg #[.string (l.getD j noAt).1, x1], .agg #[.string (l.getD j noAt).1, x2]] W fun e w' => e = .returned (.bool true) ∧ Below W.heap.size W w') := hid (fun W hb => eqAtom_same W _ _ _ _ (hx1.below hb) (hx2.below hb) (HK.out j hjn))
          obtain ⟨p1, q1, e1, -⟩ := hx1
          obtain ⟨p2, q2, e2, -⟩ := hx2
          subst e1 e2
          clear hrel hrel'
          generalize (l.getD j noAt).1 = x at *
          generalize (l.getD j noAt).2.length = m at *
          have HBW : Hid (∀ W, (W.cell? ⟨b, o + j * 2, none⟩ = some (.string x) ∧ W.cell? ⟨b, o + j * 2 + 1, none⟩ = some (.slice p1 m q1) ∧ W.cell? ⟨b', o' + j * 2, none⟩ = some (.string x) ∧ W.cell? ⟨b', o' + j * 2 + 1, none⟩ = some (.slice p2 m q2) ∧ Below wr.heap.size wr W) → Below wr.heap.size wr W) := hid (fun W h => h.2.2.2.2)
          go_wp2_with fail
          go_region_held3 (fun W => W.cell? ⟨b, o + j * 2, none⟩ = some (.string x) ∧ W.cell? ⟨b, o + j * 2 + 1, none⟩ = some (.slice p1 m q1) ∧ W.cell? ⟨b', o' + j * 2, none⟩ = some (.string x) ∧ W.cell? ⟨b', o' + j * 2 + 1, none⟩ = some (.slice p2 m q2) ∧ Below wr.heap.size wr W)
            (first | exact four_pairs c0 c1 d0 d1 (Below.refl _ _).drew | exact four_pairs c0 c1 d0 d1 (bt (Below.refl _ _).drew hb) | (refine four_pairs c0 c1 d0 d1 (bt (HBW.out _ ?_) hb); assumption))
            (first | (go_at_call 67; refine (HQ.out _ (by first | exact (Below.refl _ _).drew | exact Below.refl _ _ | exact HBW.out _ (by assumption))).mono ?_; rintro e w' ⟨rfl, hb⟩))
          go_wp2
          go_roundw
          case rel => exact ⟨j + 1, by omega, by go_num, hid (bt hB.out (HBW.out _ (by assumption)))⟩
          case measure => simp [intOf]; omega
    · obtain rfl : j = n := by omega
      have i1 : ¬ ((j : Int) < (j : Int)) := by omega
      go_wp2
      go_ret
      exact ⟨rfl, hB.out⟩

end Go.Proofs.YtegcpplkcahkhaaGreat

/-
  laws.szAtom, szAtomS; queries: szQuery, eqQuery.
-/
namespace Go.Proofs.YtegcpplkcahkhaaGreat
open Go.RowKit

set_option maxHeartbeats 2000000 in
set_option maxRecDepth 1000000 in
theorem szAtom_calls (w : World) (v : Value) (x : AtomV) (left : Int) (h : ITm w v x.2) (hx : FitAt x) (h1 : 0 ≤ left) (h2 : left ≤ 1048576) :
    Calls Tryz.prog 45 #[.agg #[.string x.1, v], .int .i64 left] w fun e w' => ∃ z : Int, e = .returned (.int .i64 z) ∧ Below w.heap.size w w' ∧ (z = -1 ∨ (0 ≤ z ∧ z ≤ left ∧ OkAt x)) := by
  have HB : Hid (Below w.heap.size w (w.alloc (.cells #[.string x.1, v] 92))) := hid ((Below.refl _ _).alloc (Nat.le_refl _) _)
  have hs := hx.rel
  have HI := hid h
  by_cases h3 : left - (x.1.size : Int) < 0
  · obtain ⟨a1, k1, rfl, -⟩ := h
    generalize x.1 = s at *
    go_enter Tryz.func45, Tryz.ntmps45
    go_wp2
    go_ret
    exact ⟨_, rfl, HB.out, Or.inl rfl⟩
  · have K := hid (szTermS_calls (w.alloc (.cells #[.string x.1, v] 92)) v x.2 (left - (x.1.size : Int)) (h.below HB.out) hx.len hx.tx (by omega) (by omega))
    have HOK : Hid (((x.2.length : Int) ≤ left - (x.1.size : Int) ∧ ∀ j, j < x.2.length → ((x.2.getD j noTm).1.size : Int) ≤ left - (x.1.size : Int)) → OkAt x) := hid (fun h => ⟨by omega, by omega, fun j hj => by have := h.2 j hj; omega⟩)
    obtain ⟨a1, k1, rfl, -⟩ := h
    generalize x.1 = s at *
    clear HI hx
    go_enter Tryz.func45, Tryz.ntmps45
    go_wp2_with fail
    refine K.out.mono ?_
    rintro e w2 ⟨z, rfl, hb2, hz⟩
    have HB2 := hid (bt HB.out hb2)
    clear hb2 K
    rcases hz with rfl | ⟨g0, g1, g2, g3⟩
    · go_wp2
      go_ret
      exact ⟨_, rfl, HB2.out, Or.inl rfl⟩
    · have hneg : ¬ (z < 0) := by omega
      have HG := hid (HOK.out ⟨g2, g3⟩)
      clear g3 HOK
      go_wp2
      go_ret
      exact ⟨_, rfl, HB2.out, Or.inr ⟨g0, by omega, HG.out⟩⟩

set_option maxHeartbeats 2000000 in
set_option maxRecDepth 1000000 in
theorem szAtomS_calls (w : World) (v : Value) (l : List AtomV) (left : Int) (h : IAt w v l) (hl : l.length ≤ 9223372036854775807) (hz : ∀ j, FitAt (l.getD j noAt)) (h1 : 0 ≤ left) (h2 : left ≤ 1048576) :
    Calls Tryz.prog 19 #[v, .int .i64 left] w fun e w' => ∃ z : Int, e = .returned (.int .i64 z) ∧ Below w.heap.size w w' ∧ (z = -1 ∨ (0 ≤ z ∧ z ≤ left ∧ (l.length : Int) ≤ left ∧ ∀ j, j < l.length → OkAt (l.getD j noAt))) := by
  obtain ⟨a, cap, rfl, hc⟩ := h
  obtain ⟨n, hn⟩ : ∃ n, n = l.length := ⟨_, rfl⟩
  rw [← hn] at hc hl ⊢
  have HC := hid hc
  have HZ := hid hz
  clear hc hz hn
  by_cases h3 : left - (n : Int) < 0
  · go_enter Tryz.func19, Tryz.ntmps19
    go_wp2
    go_ret
    exact ⟨_, rfl, Below.refl _ _, Or.inl rfl⟩
  · go_enter Tryz.func19, Tryz.ntmps19
    go_wp2
    go_loopw [1, 5] (fun v t wr => ∃ (j : Nat) (z : Int), j ≤ n ∧ t = .int .i64 j ∧ v = .int .i64 z ∧ 0 ≤ z ∧ z ≤ left - n ∧ Hid (Below w.heap.size w wr ∧ ∀ i, i < j → OkAt (l.getD i noAt))) (fun _ t _ => n - (intOf t).toNat)
    case atStart => exact ⟨0, _, Nat.zero_le _, rfl, rfl, by omega, by omega, hid ⟨Below.refl _ _, fun i hi => by omega⟩⟩
    case round =>
      obtain ⟨j, z, hj, rfl, rfl, hz0, hz1, HH⟩ := hrel
      by_cases hjn : j < n
      · have i1 : (j : Int) < (n : Int) := by omega
        rcases HC.out with h0 | ⟨b, o, rfl, hcell⟩
        · omega
        · obtain ⟨u, c0, c1, hit⟩ := (hcell j hjn).below HH.out.1
          have HH2 : Hid (OkAt (l.getD j noAt) → ∀ i, i < j + 1 → OkAt (l.getD i noAt)) := hid (fun h i hi => by
            by_cases e : i = j
            · rw [e]; exact h
            · exact HH.out.2 i (by omega))
          have K := hid (szAtom_calls wr u (l.getD j noAt) z hit (HZ.out j) hz0 (by omega))
          obtain ⟨ua, uc, eu, -⟩ := hit
          subst eu
          clear hcell
          generalize l.getD j noAt = x at *
          go_wp2_with fail
          refine K.out.mono ?_
          rintro e w2 ⟨z2, rfl, hb2, hz2⟩
          have HB2 := hid (bt HH.out.1 hb2)
          clear hb2 K c0 c1
          rcases hz2 with rfl | ⟨g0, g1, g2⟩
          · go_wp2
            go_ret
            exact ⟨_, rfl, HB2.out, Or.inl rfl⟩
          · have hneg : ¬ (z2 < 0) := by omega
            have HG := hid (HH2.out g2)
            clear g2
            go_wp2
            go_roundw
            case rel => exact ⟨j + 1, z2, by omega, by go_num, rfl, g0, by omega, hid ⟨HB2.out, HG.out⟩⟩
            case measure => simp [intOf]; omega
      · obtain rfl : j = n := by omega
        have i1 : ¬ ((j : Int) < (j : Int)) := by omega
        go_wp2
        go_ret
        exact ⟨_, rfl, HH.out.1, Or.inr ⟨hz0, by omega, by omega, HH.out.2⟩⟩

structure QV where
  name : ByteArray
  head : List ByteArray
  ring : Int
  atoms : List AtomV

structure IQ (w : World) (vh va : Value) (q : QV) : Prop where
  head : ISt w vh q.head
  atoms : IAt w va q.atoms

theorem IQ.below {w w' : World} {vh va : Value} {q : QV} (h : IQ w vh va q) (hb : Below w.heap.size w w') : IQ w' vh va q := ⟨h.head.below hb, h.atoms.below hb⟩

structure FitQ (q : QV) : Prop where
  name : q.name.size ≤ 9223372036854775807
  len : q.head.length ≤ 9223372036854775807
  head : ∀ j, (q.head.getD j noTx).size ≤ 9223372036854775807
  alen : q.atoms.length ≤ 9223372036854775807
  atoms : ∀ j, FitAt (q.atoms.getD j noAt)
structure OkQ (q : QV) : Prop where
  name : q.name.size ≤ 1048576
  len : q.head.length ≤ 1048576
  head : ∀ j, j < q.head.length → (q.head.getD j noTx).size ≤ 1048576
  alen : q.atoms.length ≤ 1048576
  atoms : ∀ j, j < q.atoms.length → OkAt (q.atoms.getD j noAt)

set_option maxHeartbeats 2000000 in
set_option maxRecDepth 1000000 in
theorem szQuery_calls (w : World) (vh va : Value) (q : QV) (h : IQ w vh va q) (hq : FitQ q) :
    Calls Tryz.prog 5 #[.agg #[.string q.name, vh, .int .i64 q.ring, va], .int .i64 1048576] w fun e w' => ∃ z : Int, e = .returned (.int .i64 z) ∧ Below w.heap.size w w' ∧ (z = -1 ∨ (0 ≤ z ∧ OkQ q)) := by
  have HB : Hid (Below w.heap.size w (w.alloc (.cells #[.string q.name, vh, .int .i64 q.ring, va] 28))) := hid ((Below.refl _ _).alloc (Nat.le_refl _) _)
  have hs := hq.name
  have HI := hid h
  have HQ := hid hq
  obtain ⟨a1, k1, e1, -⟩ := h.head
  obtain ⟨a2, k2, e2, -⟩ := h.atoms
  subst e1 e2
  clear h hq
  obtain ⟨W1, hW1⟩ : ∃ W, W = w.alloc (.cells #[.string q.name, .slice a1 q.head.length k1, .int .i64 q.ring, .slice a2 q.atoms.length k2] 28) := ⟨_, rfl⟩
  have c0 : W1.cell? ⟨w.heap.size, 0, none⟩ = some (.string q.name) := by rw [hW1, World.cell?_alloc_at _ _ _ _ rfl]; rfl
  have c1 : W1.cell? ⟨w.heap.size, 1, none⟩ = some (.slice a1 q.head.length k1) := by rw [hW1, World.cell?_alloc_at _ _ _ _ rfl]; rfl
  have c3 : W1.cell? ⟨w.heap.size, 3, none⟩ = some (.slice a2 q.atoms.length k2) := by rw [hW1, World.cell?_alloc_at _ _ _ _ rfl]; rfl
  have hlt : w.heap.size < W1.heap.size := by rw [hW1]; simp
  rw [← hW1] at HB
  by_cases h3 : (1048576 : Int) - (q.name.size : Int) < 0
  · generalize q.name = s at *
    go_enter Tryz.func5, Tryz.ntmps5
    go_upto_region 1 with fail
    rw [← hW1]
    clear hW1
    go_wp2
    go_ret
    exact ⟨_, rfl, HB.out, Or.inl rfl⟩
  · have K := hid (szStringS_calls W1 _ q.head (1048576 - (q.name.size : Int)) (HI.out.head.below HB.out) HQ.out.len HQ.out.head (by omega) (by omega))
    have HNM : Hid (q.name.size ≤ 1048576) := hid (by omega)
    generalize hnm : q.name = s at *
    have HE := hid hnm
    clear hnm
    go_enter Tryz.func5, Tryz.ntmps5
    go_upto_region 1 with fail
    rw [← hW1]
    clear hW1
    go_wp2_with fail
    refine K.out.mono ?_
    rintro e w2 ⟨z, rfl, hw2, hz⟩
    subst w2
    clear K
    rcases hz with rfl | ⟨g0, g1, g2, g3⟩
    · go_wp2
      go_ret
      exact ⟨_, rfl, HB.out, Or.inl rfl⟩
    · have hneg : ¬ (z < 0) := by omega
      have HG := hid (And.intro g2 g3)
      have K := hid (szAtomS_calls W1 _ q.atoms z (HI.out.atoms.below HB.out) HQ.out.alen HQ.out.atoms g0 (by omega))
      clear g2 g3
      go_wp2_with fail
      refine K.out.mono ?_
      rintro e w3 ⟨z3, rfl, hb3, hz3⟩
      have HB3 := hid (bt HB.out hb3)
      clear hb3 K
      rcases hz3 with rfl | ⟨k0, k1', k2', k3⟩
      · go_wp2
        go_ret
        exact ⟨_, rfl, HB3.out, Or.inl rfl⟩
      · have hneg : ¬ (z3 < 0) := by omega
        have HK := hid k3
        clear k3
        go_wp2
        go_ret
        exact ⟨_, rfl, HB3.out, Or.inr ⟨k0, by rw [HE.out]; exact HNM.out, by have := HG.out.1; omega, fun j hj => by have := HG.out.2 j hj; omega, by omega, HK.out⟩⟩

end Go.Proofs.YtegcpplkcahkhaaGreat

/-
  Queries: laws.eqQuery, toQuery.
-/
namespace Go.Proofs.YtegcpplkcahkhaaGreat
open Go.RowKit

set_option maxHeartbeats 4000000 in
set_option maxRecDepth 1000000 in
theorem eqQuery_same (w : World) (vh va uh ua : Value) (q : QV) (h : IQ w vh va q) (h' : IQ w uh ua q) (hq : OkQ q) :
    Calls Tryz.prog 12 #[.agg #[.string q.name, vh, .int .i64 q.ring, va], .agg #[.string q.name, uh, .int .i64 q.ring, ua]] w fun e w' => e = .returned (.bool true) ∧ Below w.heap.size w w' := by
  have HB : Hid (Below w.heap.size w ((w.alloc (.cells #[.string q.name, vh, .int .i64 q.ring, va] 39)).alloc (.cells #[.string q.name, uh, .int .i64 q.ring, ua] 39))) := hid (((Below.refl _ _).alloc (Nat.le_refl _) _).alloc (by simp) _)
  have HI := hid h
  have HI' := hid h'
  have HQ := hid hq
  obtain ⟨a1, k1, e1, -⟩ := h.head
  obtain ⟨a2, k2, e2, -⟩ := h.atoms
  obtain ⟨b1, l1, e3, -⟩ := h'.head
  obtain ⟨b2, l2, e4, -⟩ := h'.atoms
  subst e1 e2 e3 e4
  clear h h' hq
  generalize hnm : q.name = s at *
  generalize hrg : q.ring = rg at *
  clear hnm hrg
  have q1 : (!s.toList == s.toList) = false := by simp
  have q2 : (rg != rg) = false := by simp
  go_enter Tryz.func12, Tryz.ntmps12
  go_upto_region 1 with fail
  obtain ⟨W1, hW1⟩ : ∃ W, W = (w.alloc (.cells #[.string s, .slice a1 q.head.length k1, .int .i64 rg, .slice a2 q.atoms.length k2] 39)).alloc (.cells #[.string s, .slice b1 q.head.length l1, .int .i64 rg, .slice b2 q.atoms.length l2] 39) := ⟨_, rfl⟩
  have c0 : W1.cell? ⟨w.heap.size, 0, none⟩ = some (.string s) := by rw [hW1, World.cell?_alloc_past _ _ _ (by simp), World.cell?_alloc_at _ _ _ _ rfl]; rfl
  have c1 : W1.cell? ⟨w.heap.size, 1, none⟩ = some (.slice a1 q.head.length k1) := by rw [hW1, World.cell?_alloc_past _ _ _ (by simp), World.cell?_alloc_at _ _ _ _ rfl]; rfl
  have c2 : W1.cell? ⟨w.heap.size, 2, none⟩ = some (.int .i64 rg) := by rw [hW1, World.cell?_alloc_past _ _ _ (by simp), World.cell?_alloc_at _ _ _ _ rfl]; rfl
  have c3 : W1.cell? ⟨w.heap.size, 3, none⟩ = some (.slice a2 q.atoms.length k2) := by rw [hW1, World.cell?_alloc_past _ _ _ (by simp), World.cell?_alloc_at _ _ _ _ rfl]; rfl
  have d0 : W1.cell? ⟨w.heap.size + 1, 0, none⟩ = some (.string s) := by rw [hW1, World.cell?_alloc_at _ _ _ _ (by simp)]; rfl
  have d1 : W1.cell? ⟨w.heap.size + 1, 1, none⟩ = some (.slice b1 q.head.length l1) := by rw [hW1, World.cell?_alloc_at _ _ _ _ (by simp)]; rfl
  have d2 : W1.cell? ⟨w.heap.size + 1, 2, none⟩ = some (.int .i64 rg) := by rw [hW1, World.cell?_alloc_at _ _ _ _ (by simp)]; rfl
  have d3 : W1.cell? ⟨w.heap.size + 1, 3, none⟩ = some (.slice b2 q.atoms.length l2) := by rw [hW1, World.cell?_alloc_at _ _ _ _ (by simp)]; rfl
  rw [← hW1] at HB ⊢
  clear hW1
  go_wp2_with fail
  refine (eqStringS_quiet W1 _ _ q.head (HI.out.head.below HB.out) (HI'.out.head.below HB.out) (by have := HQ.out.len; omega)).mono ?_
  rintro e w1 ⟨rfl, m1, hw1⟩
  subst w1
  have e2 : (W1.drewN m1).cell? ⟨w.heap.size, 2, none⟩ = some (.int .i64 rg) := c2
  have e3 : (W1.drewN m1).cell? ⟨w.heap.size, 3, none⟩ = some (.slice a2 q.atoms.length k2) := c3
  have f2 : (W1.drewN m1).cell? ⟨w.heap.size + 1, 2, none⟩ = some (.int .i64 rg) := d2
  have f3 : (W1.drewN m1).cell? ⟨w.heap.size + 1, 3, none⟩ = some (.slice b2 q.atoms.length l2) := d3
  have HB2 : Hid (Below w.heap.size w (W1.drewN m1)) := hid (below_drewN HB.out _)
  clear c0 c1 c2 c3 d0 d1 d2 d3
  generalize W1.drewN m1 = W2 at *
  go_wp2_with fail
  refine (eqAtomS_same W2 _ _ q.atoms (HI.out.atoms.below HB2.out) (HI'.out.atoms.below HB2.out) (by have := HQ.out.alen; omega) (fun j hj => by have := (HQ.out.atoms j hj).len; omega)).mono ?_
  rintro e w3 ⟨rfl, hb3⟩
  have HB3 := hid (bt HB2.out hb3)
  go_wp2
  go_ret
  exact ⟨rfl, HB3.out⟩

/-- a copy of a query: heads in block gh, atoms in ga and behind; all in blocks from lo on -/
structure OwnQ (W : World) (lo gh ga : Nat) (q : QV) : Prop where
  head : OwnSt W gh q.head
  atoms : OwnAt W ga q.atoms
  lh : lo ≤ gh
  la : gh < ga

theorem OwnQ.below {W W' : World} {lo gh ga : Nat} {q : QV} (h : OwnQ W lo gh ga q) (hb : Below W.heap.size W W') : OwnQ W' lo gh ga q := ⟨h.head.below hb, h.atoms.below hb, h.lh, h.la⟩
theorem OwnQ.is {W : World} {lo gh ga : Nat} {q : QV} (h : OwnQ W lo gh ga q) : IQ W (.slice (some ⟨gh, 0, none⟩) q.head.length q.head.length) (.slice (some ⟨ga, 0, none⟩) q.atoms.length q.atoms.length) q := ⟨h.head.is, h.atoms.is⟩

end Go.Proofs.YtegcpplkcahkhaaGreat
