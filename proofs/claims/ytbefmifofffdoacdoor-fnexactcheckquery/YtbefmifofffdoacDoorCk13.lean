import Derived.Deep.Cut
import Derived.Deep.OwnRows
import Derived.Test.YtbefmifofffdoacDoorCk02
import Derived.Test.YtbefmifofffdoacDoorCk04
import Derived.Test.YtbefmifofffdoacDoorCk12
/-
  Atoms and lists of atoms: laws.szAtom(S), toAtom(S), eqAtom(S).
-/
namespace Go.Proofs.YtbefmifofffdoacDoor
open Go.RowKit

abbrev AtomV := ByteArray × List TermV
def noAt : AtomV := (noTx, [])

/-- one atom's cells -/
def AtAt (w : World) (b o : Nat) (x : AtomV) : Prop := ∃ u, w.cell? ⟨b, o, none⟩ = some (.string x.1) ∧ w.cell? ⟨b, o + 1, none⟩ = some u ∧ ITm w u x.2

theorem AtAt.below {w w' : World} {b o : Nat} {x : AtomV} (h : AtAt w b o x) (hb : Below w.heap.size w w') : AtAt w' b o x := by
  obtain ⟨u, h0, h1, h2⟩ := h
  exact ⟨u, (hb.cell (p := ⟨b, o, none⟩) (World.block_lt_of_cell? w _ h0)).trans h0, (hb.cell (p := ⟨b, o + 1, none⟩) (World.block_lt_of_cell? w _ h1)).trans h1, h2.below hb⟩

/-- a list of atoms, read only -/
def IAt (w : World) (v : Value) (l : List AtomV) : Prop := ∃ a cap, v = .slice a l.length cap ∧ (l.length = 0 ∨ ∃ b o, a = some ⟨b, o, none⟩ ∧ ∀ j, j < l.length → AtAt w b (o + j * 2) (l.getD j noAt))

theorem IAt.below {w w' : World} {v : Value} {l : List AtomV} (h : IAt w v l) (hb : Below w.heap.size w w') : IAt w' v l := by
  obtain ⟨a, cap, rfl, h⟩ := h
  refine ⟨a, cap, rfl, ?_⟩
  rcases h with h | ⟨b, o, rfl, h⟩
  · exact Or.inl h
  · exact Or.inr ⟨b, o, rfl, fun j hj => (h j hj).below hb⟩

/-- what the size of an atom may be -/
structure FitAt (x : AtomV) : Prop where
  rel : x.1.size ≤ 9223372036854775807
  len : x.2.length ≤ 9223372036854775807
  tx : ∀ j, (x.2.getD j noTm).1.size ≤ 9223372036854775807
/-- small enough to be copied -/
structure OkAt (x : AtomV) : Prop where
  rel : x.1.size ≤ 1048576
  len : x.2.length ≤ 1048576
  tx : ∀ j, j < x.2.length → (x.2.getD j noTm).1.size ≤ 1048576

theorem heap_set_ne {w : World} {g c o : Nat} {v : Value} (h : g ≠ c) : (w.setCell ⟨c, o, none⟩ v).heap[g]? = w.heap[g]? := Below.heap_setCell _ _ _ _ h

set_option maxHeartbeats 4000000 in
set_option maxRecDepth 1000000 in
theorem toAtom_calls (w : World) (s : ByteArray) (v : Value) (l : List TermV) (h : ITm w v l) (hl : l.length ≤ 1048576) :
    Calls Tryd.prog 72 #[.agg #[.string s, v]] w fun e w' => ∃ gt, e = .returned (.agg #[.string s, .slice (some ⟨gt, 0, none⟩) l.length l.length]) ∧ OwnTm w' gt l ∧ w.heap.size + 3 ≤ gt ∧ Below w.heap.size w w' := by
  have HI := hid h
  obtain ⟨a, cap, rfl, -⟩ := h
  go_enter Tryd.func72, Tryd.ntmps72
  go_upto_region 3 with fail
  obtain ⟨WX, hWX⟩ : ∃ W, W = (((w.alloc (.cells #[.string s, .slice a l.length cap] 130)).alloc (.cells #[.string ⟨#[]⟩, .slice none 0 0] 78)).alloc (.cells #[.string s, .slice none 0 0] 78)) := ⟨_, rfl⟩
  have a1 : WX.cell? ⟨w.heap.size, 1, none⟩ = some (.slice a l.length cap) := by rw [hWX, World.cell?_alloc_past _ _ _ (by simp; omega), World.cell?_alloc_past _ _ _ (by simp), World.cell?_alloc_at _ _ _ _ rfl]; rfl
  have r0 : WX.cell? ⟨w.heap.size + 1, 0, none⟩ = some (.string ⟨#[]⟩) := by rw [hWX, World.cell?_alloc_past _ _ _ (by simp), World.cell?_alloc_at _ _ _ _ (by simp)]; rfl
  have r1 : WX.cell? ⟨w.heap.size + 1, 1, none⟩ = some (.slice none 0 0) := by rw [hWX, World.cell?_alloc_past _ _ _ (by simp), World.cell?_alloc_at _ _ _ _ (by simp)]; rfl
  have o0 : WX.cell? ⟨w.heap.size + 1 + 1, 0, none⟩ = some (.string s) := by rw [hWX, World.cell?_alloc_at _ _ _ _ (by simp)]; rfl
  have o1 : WX.cell? ⟨w.heap.size + 1 + 1, 1, none⟩ = some (.slice none 0 0) := by rw [hWX, World.cell?_alloc_at _ _ _ _ (by simp)]; rfl
  have f0 : WX.frozen? ⟨w.heap.size + 1, 0, none⟩ = false := by rw [hWX, World.frozen?_alloc_past _ _ _ (by simp)]; exact World.frozen?_alloc_at _ _ _ _ (by simp)
  have f1 : WX.frozen? ⟨w.heap.size + 1, 1, none⟩ = false := by rw [hWX, World.frozen?_alloc_past _ _ _ (by simp)]; exact World.frozen?_alloc_at _ _ _ _ (by simp)
  have f2 : WX.frozen? ⟨w.heap.size + 1 + 1, 1, none⟩ = false := by rw [hWX]; exact World.frozen?_alloc_at _ _ _ _ (by simp)
  have hsz : WX.heap.size = w.heap.size + 3 := by rw [hWX]; simp
  have HB : Hid (Below w.heap.size w WX) := hid (by rw [hWX]; exact (((Below.refl _ _).alloc (Nat.le_refl _) _).alloc (by simp) _).alloc (by simp; omega) _)
  rw [← hWX]
  clear hWX
  go_wp2_with fail
  refine (toTermS_calls WX _ l (HI.out.below HB.out) hl).mono ?_
  rintro e w2 ⟨rfl, hO, hb2⟩
  have r0' := (hb2.cell (p := ⟨w.heap.size + 1, 0, none⟩) (by show w.heap.size + 1 < _; omega)).trans r0
  have r1' := (hb2.cell (p := ⟨w.heap.size + 1, 1, none⟩) (by show w.heap.size + 1 < _; omega)).trans r1
  have o0' := (hb2.cell (p := ⟨w.heap.size + 1 + 1, 0, none⟩) (by show w.heap.size + 1 + 1 < _; omega)).trans o0
  have o1' := (hb2.cell (p := ⟨w.heap.size + 1 + 1, 1, none⟩) (by show w.heap.size + 1 + 1 < _; omega)).trans o1
  have f0' := (hb2.frozen (p := ⟨w.heap.size + 1, 0, none⟩) (by show w.heap.size + 1 < _; omega)).trans f0
  have f1' := (hb2.frozen (p := ⟨w.heap.size + 1, 1, none⟩) (by show w.heap.size + 1 < _; omega)).trans f1
  have f2' := (hb2.frozen (p := ⟨w.heap.size + 1 + 1, 1, none⟩) (by show w.heap.size + 1 + 1 < _; omega)).trans f2
  have HO := hid hO
  have HB2 := hid (bt HB.out hb2)
  have hlt := hO.lt
  clear a1 r0 r1 o0 o1 f0 f1 f2 hb2 hO HB
  rw [hsz] at *
  clear hsz
  go_wp2
  have e0 : ∀ (X : World) (u v : Value), (∃ z, X.cell? ⟨w.heap.size + 1, 0, none⟩ = some z) → ((X.setCell ⟨w.heap.size + 1, 0, none⟩ u).setCell ⟨w.heap.size + 1, 1, none⟩ v).cell? ⟨w.heap.size + 1, 0, none⟩ = some u := fun X u v ⟨z, hz⟩ =>
    (World.cell?_setCell_other _ _ _ _ (by simp)).trans (World.cell?_setCell_same _ _ _ hz)
  have e1 : ∀ (X : World) (u v : Value), (∃ z, X.cell? ⟨w.heap.size + 1, 1, none⟩ = some z) → ((X.setCell ⟨w.heap.size + 1, 0, none⟩ u).setCell ⟨w.heap.size + 1, 1, none⟩ v).cell? ⟨w.heap.size + 1, 1, none⟩ = some v := fun X u v ⟨z, hz⟩ =>
    World.cell?_setCell_same _ _ _ ((World.cell?_setCell_other _ _ _ _ (by simp)).trans hz)
  have g0 := e0 (w2.setCell ⟨w.heap.size + 1 + 1, 1, none⟩ (.slice (some ⟨w.heap.size + 3, 0, none⟩) l.length l.length)) (.string s) (.slice (some ⟨w.heap.size + 3, 0, none⟩) l.length l.length) ⟨_, (World.cell?_setCell_other _ _ _ _ (by simp)).trans r0'⟩
  have g1 := e1 (w2.setCell ⟨w.heap.size + 1 + 1, 1, none⟩ (.slice (some ⟨w.heap.size + 3, 0, none⟩) l.length l.length)) (.string s) (.slice (some ⟨w.heap.size + 3, 0, none⟩) l.length l.length) ⟨_, (World.cell?_setCell_other _ _ _ _ (by simp)).trans r1'⟩
  refine bodyPost_ret (v := .agg #[.string s, .slice (some ⟨w.heap.size + 3, 0, none⟩) l.length l.length]) (by simp [results, Tryd.results72, go_sem, g0, g1]) rfl ⟨_, rfl, HO.out.move ?_ (by simp [World.setCell]), Nat.le_refl _, ?_⟩
  · rw [heap_set_ne (by omega), heap_set_ne (by omega), heap_set_ne (by omega)]
  · exact ((HB2.out.setCell (by show w.heap.size ≤ w.heap.size + 1 + 1; omega) _).setCell (by show w.heap.size ≤ w.heap.size + 1; omega) _).setCell (by show w.heap.size ≤ w.heap.size + 1; omega) _

end Go.Proofs.YtbefmifofffdoacDoor

/-
  laws.toAtomS, eqAtom, eqAtomS, szAtom, szAtomS.
-/
namespace Go.Proofs.YtbefmifofffdoacDoor
open Go.RowKit

theorem Tryd.infoAt : (Tryd.prog.info? 78).map (fun i => (i.zero, i.size, i.bytes)) = some (some (.agg #[.string ⟨#[]⟩, .slice none 0 0]), 2, 40) := by kernel_rfl

/-- the cells of a copied atom: its terms lie in a block of their own behind g -/
def AtR (W : World) (g : Nat) (x : AtomV) (a b : Value) : Prop := a = .string x.1 ∧ ∃ gt, b = .slice (some ⟨gt, 0, none⟩) x.2.length x.2.length ∧ OwnTm W gt x.2 ∧ g < gt

theorem AtR.below {W W' : World} {g : Nat} {x : AtomV} {a b : Value} (h : AtR W g x a b) (hb : Below W.heap.size W W') : AtR W' g x a b := by
  obtain ⟨h0, gt, h1, h2, h3⟩ := h
  exact ⟨h0, gt, h1, h2.below hb, h3⟩
theorem AtR.set {W : World} {g o : Nat} {x : AtomV} {a b v : Value} (h : AtR W g x a b) : AtR (W.setCell ⟨g, o, none⟩ v) g x a b := by
  obtain ⟨h0, gt, h1, h2, h3⟩ := h
  exact ⟨h0, gt, h1, h2.move (heap_set_ne (by omega)) (by simp [World.setCell]), h3⟩

/-- a copy of atoms, in block g and blocks behind it -/
def OwnAt (W : World) (g : Nat) (l : List AtomV) : Prop := HalfP W g l.length l.length (fun i a b => AtR W g (l.getD i noAt) a b) ∧ g < W.heap.size

theorem OwnAt.below {W W' : World} {g : Nat} {l : List AtomV} (h : OwnAt W g l) (hb : Below W.heap.size W W') : OwnAt W' g l :=
  ⟨h.1.below h.2 hb (fun _ _ _ _ h => h.below hb), Nat.lt_of_lt_of_le h.2 hb.size⟩

theorem OwnAt.set {W : World} {g c o : Nat} {v : Value} {l : List AtomV} (h : OwnAt W g l) (hc : c < g) : OwnAt (W.setCell ⟨c, o, none⟩ v) g l := by
  have ne : ∀ q, (W.setCell ⟨c, o, none⟩ v).cell? ⟨g, q, none⟩ = W.cell? ⟨g, q, none⟩ := fun q => World.cell?_setCell_other _ _ _ _ (by intro e; simp only [Addr.mk.injEq] at e; omega)
  refine ⟨⟨fun q hq => by rw [ne]; exact h.1.any q hq, fun q hq => by rw [World.frozen?_setCell]; exact h.1.free q hq, fun i hi => ?_⟩, by simpa [World.setCell] using h.2⟩
  obtain ⟨u0, u1, h0, h1, e0, gt, e1, h2, h3⟩ := h.1.pair i hi
  exact ⟨u0, u1, by rw [ne]; exact h0, by rw [ne]; exact h1, e0, gt, e1, h2.move (heap_set_ne (by omega)) (by simp [World.setCell]), h3⟩

theorem OwnAt.is {W : World} {g : Nat} {l : List AtomV} (h : OwnAt W g l) : IAt W (.slice (some ⟨g, 0, none⟩) l.length l.length) l :=
  ⟨_, _, rfl, Or.inr ⟨g, 0, rfl, fun j hj => by
    obtain ⟨u0, u1, h0, h1, rfl, gt, rfl, h3, _⟩ := h.1.pair j hj
    exact ⟨_, by rw [Nat.zero_add]; exact h0, by rw [Nat.zero_add]; exact h1, h3.is⟩⟩⟩

set_option maxHeartbeats 4000000 in
set_option maxRecDepth 1000000 in
theorem toAtomS_calls (w : World) (v : Value) (l : List AtomV) (h : IAt w v l) (hl : l.length ≤ 1048576) (hk : ∀ j, j < l.length → (l.getD j noAt).2.length ≤ 1048576) :
    Calls Tryd.prog 38 #[v] w fun e w' => e = .returned (.slice (some ⟨w.heap.size, 0, none⟩) l.length l.length) ∧ OwnAt w' w.heap.size l ∧ Below w.heap.size w w' := by
  obtain ⟨i0, hi, hz0, hz1, hz2⟩ := info_parts Tryd.infoAt
  obtain ⟨a, cap, rfl, hc⟩ := h
  obtain ⟨n, hn⟩ : ∃ n, n = l.length := ⟨_, rfl⟩
  have HC := hid hc
  have HN := hid hn
  have HK := hid hk
  rw [← hn] at HC HK hl ⊢
  clear hc hn hk
  go_enter Tryd.func38, Tryd.ntmps38
  go_wp2_with (at_make; refine wpList_make_full _ rfl _ _ 23 rfl w.heap.size 78 i0 (.agg #[.string ⟨#[]⟩, .slice none 0 0]) 2 Tryd.underlying23 hi hz0 hz1 _ _ _ _ n rfl rfl rfl rfl ?b2 ?b3 (Nat.le_refl _) ?_)
  case b2 => rw [hz2]; omega
  case b3 => unfold maxLen; omega
  intro w0 hown0 hgrow0
  have hb0 : Below w.heap.size w w0 := (Below.refl _ _).grown hgrow0 (Nat.le_refl _) (fun j hj => by cases hj)
  have hlt0 : w.heap.size < w0.heap.size := (hown0.lt _ rfl).2
  have hH0 : HalfP w0 w.heap.size n 0 (fun i a b => AtR w0 w.heap.size (l.getD i noAt) a b) := ⟨fun q hq => by
      rw [hown0.cellAt q hq]
      exact ⟨_, List.getElem?_eq_getElem (by rw [hown0.1]; exact hq)⟩, fun q _ => hown0.frozenAt q, fun i hi => by omega⟩
  have HH0 := hid (And.intro hb0 (And.intro hlt0 hH0))
  clear hown0 hgrow0 hb0 hlt0 hH0
  go_wp2
  go_loopw [4] (fun t wr => ∃ j : Nat, j ≤ n ∧ t = .int .i64 j ∧ Hid (Below w.heap.size w wr ∧ w.heap.size < wr.heap.size ∧ HalfP wr w.heap.size n j (fun i a b => AtR wr w.heap.size (l.getD i noAt) a b))) (fun t _ => n - (intOf t).toNat)
  case atStart => exact ⟨0, Nat.zero_le _, rfl, HH0⟩
  case round =>
    clear HH0
    obtain ⟨j, hj, rfl, hH⟩ := hrel
    obtain ⟨hnx, hlt, hhr⟩ := hH.out
    by_cases hjn : j < n
    · have i1 : (j : Int) < (n : Int) := by omega
      rcases HC.out with h0 | ⟨b, o, rfl, hrel⟩
      · omega
      · obtain ⟨u, c0, c1, hit⟩ := (hrel j hjn).below hnx
        have HNX := hid hnx
        have HHR := hid hhr
        have K := hid (toAtom_calls wr (l.getD j noAt).1 u (l.getD j noAt).2 hit (HK.out j hjn))
        have HST : Hid (∀ W gt, Below wr.heap.size wr W → OwnTm W gt (l.getD j noAt).2 → wr.heap.size ≤ gt → HalfP ((W.setCell ⟨w.heap.size, j * 2, none⟩ (.string (l.getD j noAt).1)).setCell ⟨w.heap.size, j * 2 + 1, none⟩ (.slice (some ⟨gt, 0, none⟩) (l.getD j noAt).2.length (l.getD j noAt).2.length)) w.heap.size n (j + 1) (fun i a b => AtR ((W.setCell ⟨w.heap.size, j * 2, none⟩ (.string (l.getD j noAt).1)).setCell ⟨w.heap.size, j * 2 + 1, none⟩ (.slice (some ⟨gt, 0, none⟩) (l.getD j noAt).2.length (l.getD j noAt).2.length)) w.heap.size (l.getD i noAt) a b)) := hid (fun W gt hb ho hgt =>
          (HHR.out.below hlt hb (fun _ _ _ _ h => AtR.below h hb)).step hjn (fun _ _ _ _ h => h.set.set) (AtR.set (AtR.set ⟨rfl, gt, rfl, ho, by omega⟩)))
        clear hH hnx hhr hrel
        obtain ⟨ua, uc, eu, -⟩ := hit
        subst eu
        obtain ⟨s, hs⟩ : ∃ x, x = (l.getD j noAt).1 := ⟨_, rfl⟩
        rw [← hs] at c0 HST K
        generalize (l.getD j noAt).2.length = m at *
        clear hs
        go_wp2_with fail
        refine K.out.mono ?_
        rintro e w2 ⟨gt, rfl, hO, hgt, hb⟩
        have hHR2 := HHR.out.below hlt hb (fun _ _ _ _ h => AtR.below h hb)
        obtain ⟨u0, d0⟩ := hHR2.any (j * 2) (by omega)
        obtain ⟨u1, d1⟩ := hHR2.any (j * 2 + 1) (by omega)
        have f0 := hHR2.free (j * 2) (by omega)
        have f1 := hHR2.free (j * 2 + 1) (by omega)
        have HF := hid (HST.out w2 gt hb hO (by omega))
        have HB2 := hid (bt HNX.out hb)
        have hs2 := hb.size
        clear hHR2 hb HST c0 c1 K hO
        go_wp2
        go_roundw
        case rel => exact ⟨j + 1, by omega, by go_num, hid ⟨(HB2.out.setCell (Nat.le_refl _) _).setCell (Nat.le_refl _) _, by simp [World.setCell]; omega, HF.out⟩⟩
        case measure => simp [intOf]; omega
    · obtain rfl : j = n := by omega
      have i1 : ¬ ((j : Int) < (j : Int)) := by omega
      have HX := hid (And.intro hhr (And.intro hlt hnx))
      clear hH hnx hhr
      go_wp2
      go_ret
      refine ⟨rfl, ⟨?_, HX.out.2.1⟩, HX.out.2.2⟩
      rw [← HN.out]
      exact HX.out.1

set_option maxHeartbeats 2000000 in
set_option maxRecDepth 1000000 in
theorem eqAtom_same (w : World) (s : ByteArray) (v u : Value) (l : List TermV) (h : ITm w v l) (h' : ITm w u l) (hl : l.length ≤ 1099511627776) :
    Calls Tryd.prog 65 #[.agg #[.string s, v], .agg #[.string s, u]] w fun e w' => e = .returned (.bool true) ∧ Below w.heap.size w w' := by
  have HB : Hid (Below w.heap.size w ((w.alloc (.cells #[.string s, v] 78)).alloc (.cells #[.string s, u] 78))) := hid (((Below.refl _ _).alloc (Nat.le_refl _) _).alloc (by simp) _)
  have H1 := hid h
  have H2 := hid h'
  obtain ⟨a1, k1, rfl, -⟩ := h
  obtain ⟨a2, k2, rfl, -⟩ := h'
  have q1 : (!s.toList == s.toList) = false := by simp
  go_enter Tryd.func65, Tryd.ntmps65
  go_wp2_with fail
  refine (eqTermS_same _ _ _ l (H1.out.below HB.out) (H2.out.below HB.out) hl).mono ?_
  rintro e w1 ⟨rfl, hb1⟩
  have HB1 := hid (bt HB.out hb1)
  go_wp2
  go_ret
  exact ⟨rfl, HB1.out⟩

set_option maxHeartbeats 4000000 in
set_option maxRecDepth 1000000 in
theorem eqAtomS_same (w : World) (v u : Value) (l : List AtomV) (h : IAt w v l) (h' : IAt w u l) (hl : l.length ≤ 1099511627776) (hk : ∀ j, j < l.length → (l.getD j noAt).2.length ≤ 1099511627776) :
    Calls Tryd.prog 26 #[v, u] w fun e w' => e = .returned (.bool true) ∧ Below w.heap.size w w' := by
  obtain ⟨a, cap, rfl, hc⟩ := h
  obtain ⟨a', cap', rfl, hc'⟩ := h'
  obtain ⟨n, hn⟩ : ∃ n, n = l.length := ⟨_, rfl⟩
  rw [← hn] at hc hc' hl hk ⊢
  have HC := hid hc
  have HC' := hid hc'
  have HK := hid hk
  clear hc hc' hn hk
  have hne : ((n : Int) != (n : Int)) = false := by simp
  go_enter Tryd.func26, Tryd.ntmps26
  go_wp2
  go_loopw [5] (fun t wr => ∃ j : Nat, j ≤ n ∧ t = .int .i64 j ∧ Hid (Below w.heap.size w wr)) (fun t _ => n - (intOf t).toNat)
  case atStart => exact ⟨0, Nat.zero_le _, rfl, hid (Below.refl _ _)⟩
  case round =>
    obtain ⟨j, hj, rfl, hB⟩ := hrel
    by_cases hjn : j < n
    · have i1 : (j : Int) < (n : Int) := by omega
      rcases HC.out with h0 | ⟨b, o, rfl, hrel⟩
      · omega
      · rcases HC'.out with h0 | ⟨b', o', rfl, hrel'⟩
        · omega
        · obtain ⟨x1, c0, c1, hx1⟩ := (hrel j hjn).below hB.out
          obtain ⟨x2, d0, d1, hx2⟩ := (hrel' j hjn).below hB.out
          have HQ : Hid (∀ W, Below wr.heap.size wr W → Calls Tryd.prog 65 #[.agg #[.string (l.getD j noAt).1, x1], .agg #[.string (l.getD j noAt).1, x2]] W fun e w' => e = .returned (.bool true) ∧ Below W.heap.size W w') := hid (fun W hb => eqAtom_same W _ _ _ _ (hx1.below hb) (hx2.below hb) (HK.out j hjn))
          obtain ⟨p1, q1, e1, -⟩ := hx1
          obtain ⟨p2, q2, e2, -⟩ := hx2
          subst e1 e2
          clear hrel hrel'
          generalize (l.getD j noAt).1 = x at *
          generalize (l.getD j noAt).2.length = m at *
          have HBW : Hid (∀ W, (W.cell? ⟨b, o + j * 2, none⟩ = some (.string x) ∧ W.cell? ⟨b, o + j * 2 + 1, none⟩ = some (.slice p1 m q1) ∧ W.cell? ⟨b', o' + j * 2, none⟩ = some (.string x) ∧ W.cell? ⟨b', o' + j * 2 + 1, none⟩ = some (.slice p2 m q2) ∧ Below wr.heap.size wr W) → Below wr.heap.size wr W) := hid (fun W h => h.2.2.2.2)
          go_wp2_with fail
          go_region_held3 (fun W => W.cell? ⟨b, o + j * 2, none⟩ = some (.string x) ∧ W.cell? ⟨b, o + j * 2 + 1, none⟩ = some (.slice p1 m q1) ∧ W.cell? ⟨b', o' + j * 2, none⟩ = some (.string x) ∧ W.cell? ⟨b', o' + j * 2 + 1, none⟩ = some (.slice p2 m q2) ∧ Below wr.heap.size wr W)
            (first | exact four_pairs c0 c1 d0 d1 (Below.refl _ _).drew | exact four_pairs c0 c1 d0 d1 (bt (Below.refl _ _).drew hb) | (refine four_pairs c0 c1 d0 d1 (bt (HBW.out _ ?_) hb); assumption))
            (first | (go_at_call 65; refine (HQ.out _ (by first | exact (Below.refl _ _).drew | exact Below.refl _ _ | exact HBW.out _ (by assumption))).mono ?_; rintro e w' ⟨rfl, hb⟩))
          go_wp2
          go_roundw
          case rel => exact ⟨j + 1, by omega, by go_num, hid (bt hB.out (HBW.out _ (by assumption)))⟩
          case measure => simp [intOf]; omega
    · obtain rfl : j = n := by omega
      have i1 : ¬ ((j : Int) < (j : Int)) := by omega
      go_wp2
      go_ret
      exact ⟨rfl, hB.out⟩

end Go.Proofs.YtbefmifofffdoacDoor

/-
  laws.szAtom, szAtomS; queries: szQuery, eqQuery.
-/
namespace Go.Proofs.YtbefmifofffdoacDoor
open Go.RowKit

set_option maxHeartbeats 2000000 in
set_option maxRecDepth 1000000 in
theorem szAtom_calls (w : World) (v : Value) (x : AtomV) (left : Int) (h : ITm w v x.2) (hx : FitAt x) (h1 : 0 ≤ left) (h2 : left ≤ 1048576) :
    Calls Tryd.prog 69 #[.agg #[.string x.1, v], .int .i64 left] w fun e w' => ∃ z : Int, e = .returned (.int .i64 z) ∧ Below w.heap.size w w' ∧ (z = -1 ∨ (0 ≤ z ∧ z ≤ left ∧ OkAt x)) := by
  have HB : Hid (Below w.heap.size w (w.alloc (.cells #[.string x.1, v] 130))) := hid ((Below.refl _ _).alloc (Nat.le_refl _) _)
  have hs := hx.rel
  have HI := hid h
  by_cases h3 : left - (x.1.size : Int) < 0
  · obtain ⟨a1, k1, rfl, -⟩ := h
    generalize x.1 = s at *
    go_enter Tryd.func69, Tryd.ntmps69
    go_wp2
    go_ret
    exact ⟨_, rfl, HB.out, Or.inl rfl⟩
  · have K := hid (szTermS_calls (w.alloc (.cells #[.string x.1, v] 130)) v x.2 (left - (x.1.size : Int)) (h.below HB.out) hx.len hx.tx (by omega) (by omega))
    have HOK : Hid (((x.2.length : Int) ≤ left - (x.1.size : Int) ∧ ∀ j, j < x.2.length → ((x.2.getD j noTm).1.size : Int) ≤ left - (x.1.size : Int)) → OkAt x) := hid (fun h => ⟨by omega, by omega, fun j hj => by have := h.2 j hj; omega⟩)
    obtain ⟨a1, k1, rfl, -⟩ := h
    generalize x.1 = s at *
    clear HI hx
    go_enter Tryd.func69, Tryd.ntmps69
    go_wp2_with fail
    refine K.out.mono ?_
    rintro e w2 ⟨z, rfl, hb2, hz⟩
    have HB2 := hid (bt HB.out hb2)
    clear hb2 K
    rcases hz with rfl | ⟨g0, g1, g2, g3⟩
    · go_wp2
      go_ret
      exact ⟨_, rfl, HB2.out, Or.inl rfl⟩
    · have hneg : ¬ (z < 0) := by omega
      have HG := hid (HOK.out ⟨g2, g3⟩)
      clear g3 HOK
      go_wp2
      go_ret
      exact ⟨_, rfl, HB2.out, Or.inr ⟨g0, by omega, HG.out⟩⟩

set_option maxHeartbeats 2000000 in
set_option maxRecDepth 1000000 in
theorem szAtomS_calls (w : World) (v : Value) (l : List AtomV) (left : Int) (h : IAt w v l) (hl : l.length ≤ 9223372036854775807) (hz : ∀ j, FitAt (l.getD j noAt)) (h1 : 0 ≤ left) (h2 : left ≤ 1048576) :
    Calls Tryd.prog 32 #[v, .int .i64 left] w fun e w' => ∃ z : Int, e = .returned (.int .i64 z) ∧ Below w.heap.size w w' ∧ (z = -1 ∨ (0 ≤ z ∧ z ≤ left ∧ (l.length : Int) ≤ left ∧ ∀ j, j < l.length → OkAt (l.getD j noAt))) := by
  obtain ⟨a, cap, rfl, hc⟩ := h
  obtain ⟨n, hn⟩ : ∃ n, n = l.length := ⟨_, rfl⟩
  rw [← hn] at hc hl ⊢
  have HC := hid hc
  have HZ := hid hz
  clear hc hz hn
  by_cases h3 : left - (n : Int) < 0
  · go_enter Tryd.func32, Tryd.ntmps32
    go_wp2
    go_ret
    exact ⟨_, rfl, Below.refl _ _, Or.inl rfl⟩
  · go_enter Tryd.func32, Tryd.ntmps32
    go_wp2
    go_loopw [1, 5] (fun v t wr => ∃ (j : Nat) (z : Int), j ≤ n ∧ t = .int .i64 j ∧ v = .int .i64 z ∧ 0 ≤ z ∧ z ≤ left - n ∧ Hid (Below w.heap.size w wr ∧ ∀ i, i < j → OkAt (l.getD i noAt))) (fun _ t _ => n - (intOf t).toNat)
    case atStart => exact ⟨0, _, Nat.zero_le _, rfl, rfl, by omega, by omega, hid ⟨Below.refl _ _, fun i hi => by omega⟩⟩
    case round =>
      obtain ⟨j, z, hj, rfl, rfl, hz0, hz1, HH⟩ := hrel
      by_cases hjn : j < n
      · have i1 : (j : Int) < (n : Int) := by omega
        rcases HC.out with h0 | ⟨b, o, rfl, hcell⟩
        · omega
        · obtain ⟨u, c0, c1, hit⟩ := (hcell j hjn).below HH.out.1
          have HH2 : Hid (OkAt (l.getD j noAt) → ∀ i, i < j + 1 → OkAt (l.getD i noAt)) := hid (fun h i hi => by
            by_cases e : i = j
            · rw [e]; exact h
            · exact HH.out.2 i (by omega))
          have K := hid (szAtom_calls wr u (l.getD j noAt) z hit (HZ.out j) hz0 (by omega))
          obtain ⟨ua, uc, eu, -⟩ := hit
          subst eu
          clear hcell
          generalize l.getD j noAt = x at *
          go_wp2_with fail
          refine K.out.mono ?_
          rintro e w2 ⟨z2, rfl, hb2, hz2⟩
          have HB2 := hid (bt HH.out.1 hb2)
          clear hb2 K c0 c1
          rcases hz2 with rfl | ⟨g0, g1, g2⟩
          · go_wp2
            go_ret
            exact ⟨_, rfl, HB2.out, Or.inl rfl⟩
          · have hneg : ¬ (z2 < 0) := by omega
            have HG := hid (HH2.out g2)
            clear g2
            go_wp2
            go_roundw
            case rel => exact ⟨j + 1, z2, by omega, by go_num, rfl, g0, by omega, hid ⟨HB2.out, HG.out⟩⟩
            case measure => simp [intOf]; omega
      · obtain rfl : j = n := by omega
        have i1 : ¬ ((j : Int) < (j : Int)) := by omega
        go_wp2
        go_ret
        exact ⟨_, rfl, HH.out.1, Or.inr ⟨hz0, by omega, by omega, HH.out.2⟩⟩

structure QV where
  name : ByteArray
  head : List ByteArray
  ring : Int
  atoms : List AtomV

structure IQ (w : World) (vh va : Value) (q : QV) : Prop where
  head : ISt w vh q.head
  atoms : IAt w va q.atoms

theorem IQ.below {w w' : World} {vh va : Value} {q : QV} (h : IQ w vh va q) (hb : Below w.heap.size w w') : IQ w' vh va q := ⟨h.head.below hb, h.atoms.below hb⟩

structure FitQ (q : QV) : Prop where
  name : q.name.size ≤ 9223372036854775807
  len : q.head.length ≤ 9223372036854775807
  head : ∀ j, (q.head.getD j noTx).size ≤ 9223372036854775807
  alen : q.atoms.length ≤ 9223372036854775807
  atoms : ∀ j, FitAt (q.atoms.getD j noAt)
structure OkQ (q : QV) : Prop where
  name : q.name.size ≤ 1048576
  len : q.head.length ≤ 1048576
  head : ∀ j, j < q.head.length → (q.head.getD j noTx).size ≤ 1048576
  alen : q.atoms.length ≤ 1048576
  atoms : ∀ j, j < q.atoms.length → OkAt (q.atoms.getD j noAt)

set_option maxHeartbeats 2000000 in
set_option maxRecDepth 1000000 in
theorem szQuery_calls (w : World) (vh va : Value) (q : QV) (h : IQ w vh va q) (hq : FitQ q) :
    Calls Tryd.prog 11 #[.agg #[.string q.name, vh, .int .i64 q.ring, va], .int .i64 1048576] w fun e w' => ∃ z : Int, e = .returned (.int .i64 z) ∧ Below w.heap.size w w' ∧ (z = -1 ∨ (0 ≤ z ∧ OkQ q)) := by
  have HB : Hid (Below w.heap.size w (w.alloc (.cells #[.string q.name, vh, .int .i64 q.ring, va] 33))) := hid ((Below.refl _ _).alloc (Nat.le_refl _) _)
  have hs := hq.name
  have HI := hid h
  have HQ := hid hq
  obtain ⟨a1, k1, e1, -⟩ := h.head
  obtain ⟨a2, k2, e2, -⟩ := h.atoms
  subst e1 e2
  clear h hq
  obtain ⟨W1, hW1⟩ : ∃ W, W = w.alloc (.cells #[.string q.name, .slice a1 q.head.length k1, .int .i64 q.ring, .slice a2 q.atoms.length k2] 33) := ⟨_, rfl⟩
  have c0 : W1.cell? ⟨w.heap.size, 0, none⟩ = some (.string q.name) := by rw [hW1, World.cell?_alloc_at _ _ _ _ rfl]; rfl
  have c1 : W1.cell? ⟨w.heap.size, 1, none⟩ = some (.slice a1 q.head.length k1) := by rw [hW1, World.cell?_alloc_at _ _ _ _ rfl]; rfl
  have c3 : W1.cell? ⟨w.heap.size, 3, none⟩ = some (.slice a2 q.atoms.length k2) := by rw [hW1, World.cell?_alloc_at _ _ _ _ rfl]; rfl
  have hlt : w.heap.size < W1.heap.size := by rw [hW1]; simp
  rw [← hW1] at HB
  by_cases h3 : (1048576 : Int) - (q.name.size : Int) < 0
  · generalize q.name = s at *
    go_enter Tryd.func11, Tryd.ntmps11
    go_upto_region 1 with fail
    rw [← hW1]
    clear hW1
    go_wp2
    go_ret
    exact ⟨_, rfl, HB.out, Or.inl rfl⟩
  · have K := hid (szStringS_calls W1 _ q.head (1048576 - (q.name.size : Int)) (HI.out.head.below HB.out) HQ.out.len HQ.out.head (by omega) (by omega))
    have HNM : Hid (q.name.size ≤ 1048576) := hid (by omega)
    generalize hnm : q.name = s at *
    have HE := hid hnm
    clear hnm
    go_enter Tryd.func11, Tryd.ntmps11
    go_upto_region 1 with fail
    rw [← hW1]
    clear hW1
    go_wp2_with fail
    refine K.out.mono ?_
    rintro e w2 ⟨z, rfl, hw2, hz⟩
    subst w2
    clear K
    rcases hz with rfl | ⟨g0, g1, g2, g3⟩
    · go_wp2
      go_ret
      exact ⟨_, rfl, HB.out, Or.inl rfl⟩
    · have hneg : ¬ (z < 0) := by omega
      have HG := hid (And.intro g2 g3)
      have K := hid (szAtomS_calls W1 _ q.atoms z (HI.out.atoms.below HB.out) HQ.out.alen HQ.out.atoms g0 (by omega))
      clear g2 g3
      go_wp2_with fail
      refine K.out.mono ?_
      rintro e w3 ⟨z3, rfl, hb3, hz3⟩
      have HB3 := hid (bt HB.out hb3)
      clear hb3 K
      rcases hz3 with rfl | ⟨k0, k1', k2', k3⟩
      · go_wp2
        go_ret
        exact ⟨_, rfl, HB3.out, Or.inl rfl⟩
      · have hneg : ¬ (z3 < 0) := by omega
        have HK := hid k3
        clear k3
        go_wp2
        go_ret
        exact ⟨_, rfl, HB3.out, Or.inr ⟨k0, by rw [HE.out]; exact HNM.out, by have := HG.out.1; omega, fun j hj => by have := HG.out.2 j hj; omega, by omega, HK.out⟩⟩

end Go.Proofs.YtbefmifofffdoacDoor

/-
  Queries: laws.eqQuery, toQuery.
-/
namespace Go.Proofs.YtbefmifofffdoacDoor
open Go.RowKit

set_option maxHeartbeats 4000000 in
set_option maxRecDepth 1000000 in
theorem eqQuery_same (w : World) (vh va uh ua : Value) (q : QV) (h : IQ w vh va q) (h' : IQ w uh ua q) (hq : OkQ q) :
    Calls Tryd.prog 8 #[.agg #[.string q.name, vh, .int .i64 q.ring, va], .agg #[.string q.name, uh, .int .i64 q.ring, ua]] w fun e w' => e = .returned (.bool true) ∧ Below w.heap.size w w' := by
  have HB : Hid (Below w.heap.size w ((w.alloc (.cells #[.string q.name, vh, .int .i64 q.ring, va] 25)).alloc (.cells #[.string q.name, uh, .int .i64 q.ring, ua] 25))) := hid (((Below.refl _ _).alloc (Nat.le_refl _) _).alloc (by simp) _)
  have HI := hid h
  have HI' := hid h'
  have HQ := hid hq
  obtain ⟨a1, k1, e1, -⟩ := h.head
  obtain ⟨a2, k2, e2, -⟩ := h.atoms
  obtain ⟨b1, l1, e3, -⟩ := h'.head
  obtain ⟨b2, l2, e4, -⟩ := h'.atoms
  subst e1 e2 e3 e4
  clear h h' hq
  generalize hnm : q.name = s at *
  generalize hrg : q.ring = rg at *
  clear hnm hrg
  have q1 : (!s.toList == s.toList) = false := by simp
  have q2 : (rg != rg) = false := by simp
  go_enter Tryd.func8, Tryd.ntmps8
  go_upto_region 1 with fail
  obtain ⟨W1, hW1⟩ : ∃ W, W = (w.alloc (.cells #[.string s, .slice a1 q.head.length k1, .int .i64 rg, .slice a2 q.atoms.length k2] 25)).alloc (.cells #[.string s, .slice b1 q.head.length l1, .int .i64 rg, .slice b2 q.atoms.length l2] 25) := ⟨_, rfl⟩
  have c0 : W1.cell? ⟨w.heap.size, 0, none⟩ = some (.string s) := by rw [hW1, World.cell?_alloc_past _ _ _ (by simp), World.cell?_alloc_at _ _ _ _ rfl]; rfl
  have c1 : W1.cell? ⟨w.heap.size, 1, none⟩ = some (.slice a1 q.head.length k1) := by rw [hW1, World.cell?_alloc_past _ _ _ (by simp), World.cell?_alloc_at _ _ _ _ rfl]; rfl
  have c2 : W1.cell? ⟨w.heap.size, 2, none⟩ = some (.int .i64 rg) := by rw [hW1, World.cell?_alloc_past _ _ _ (by simp), World.cell?_alloc_at _ _ _ _ rfl]; rfl
  have c3 : W1.cell? ⟨w.heap.size, 3, none⟩ = some (.slice a2 q.atoms.length k2) := by rw [hW1, World.cell?_alloc_past _ _ _ (by simp), World.cell?_alloc_at _ _ _ _ rfl]; rfl
  have d0 : W1.cell? ⟨w.heap.size + 1, 0, none⟩ = some (.string s) := by rw [hW1, World.cell?_alloc_at _ _ _ _ (by simp)]; rfl
  have d1 : W1.cell? ⟨w.heap.size + 1, 1, none⟩ = some (.slice b1 q.head.length l1) := by rw [hW1, World.cell?_alloc_at _ _ _ _ (by simp)]; rfl
  have d2 : W1.cell? ⟨w.heap.size + 1, 2, none⟩ = some (.int .i64 rg) := by rw [hW1, World.cell?_alloc_at _ _ _ _ (by simp)]; rfl
  have d3 : W1.cell? ⟨w.heap.size + 1, 3, none⟩ = some (.slice b2 q.atoms.length l2) := by rw [hW1, World.cell?_alloc_at _ _ _ _ (by simp)]; rfl
  rw [← hW1] at HB ⊢
  clear hW1
  go_wp2_with fail
  refine (eqStringS_quiet W1 _ _ q.head (HI.out.head.below HB.out) (HI'.out.head.below HB.out) (by have := HQ.out.len; omega)).mono ?_
  rintro e w1 ⟨rfl, m1, hw1⟩
  subst w1
  have e2 : (W1.drewN m1).cell? ⟨w.heap.size, 2, none⟩ = some (.int .i64 rg) := c2
  have e3 : (W1.drewN m1).cell? ⟨w.heap.size, 3, none⟩ = some (.slice a2 q.atoms.length k2) := c3
  have f2 : (W1.drewN m1).cell? ⟨w.heap.size + 1, 2, none⟩ = some (.int .i64 rg) := d2
  have f3 : (W1.drewN m1).cell? ⟨w.heap.size + 1, 3, none⟩ = some (.slice b2 q.atoms.length l2) := d3
  have HB2 : Hid (Below w.heap.size w (W1.drewN m1)) := hid (below_drewN HB.out _)
  clear c0 c1 c2 c3 d0 d1 d2 d3
  generalize W1.drewN m1 = W2 at *
  go_wp2_with fail
  refine (eqAtomS_same W2 _ _ q.atoms (HI.out.atoms.below HB2.out) (HI'.out.atoms.below HB2.out) (by have := HQ.out.alen; omega) (fun j hj => by have := (HQ.out.atoms j hj).len; omega)).mono ?_
  rintro e w3 ⟨rfl, hb3⟩
  have HB3 := hid (bt HB2.out hb3)
  go_wp2
  go_ret
  exact ⟨rfl, HB3.out⟩

/-- a copy of a query: heads in block gh, atoms in ga and behind; all in blocks from lo on -/
structure OwnQ (W : World) (lo gh ga : Nat) (q : QV) : Prop where
  head : OwnSt W gh q.head
  atoms : OwnAt W ga q.atoms
  lh : lo ≤ gh
  la : gh < ga

theorem OwnQ.below {W W' : World} {lo gh ga : Nat} {q : QV} (h : OwnQ W lo gh ga q) (hb : Below W.heap.size W W') : OwnQ W' lo gh ga q := ⟨h.head.below hb, h.atoms.below hb, h.lh, h.la⟩
theorem OwnQ.is {W : World} {lo gh ga : Nat} {q : QV} (h : OwnQ W lo gh ga q) : IQ W (.slice (some ⟨gh, 0, none⟩) q.head.length q.head.length) (.slice (some ⟨ga, 0, none⟩) q.atoms.length q.atoms.length) q := ⟨h.head.is, h.atoms.is⟩

end Go.Proofs.YtbefmifofffdoacDoor

/-
  laws.toQuery.
-/
namespace Go.Proofs.YtbefmifofffdoacDoor
open Go.RowKit

set_option maxHeartbeats 8000000 in
set_option maxRecDepth 1000000 in
theorem toQuery_calls (w : World) (v1 v2 : Value) (q : QV) (h : IQ w v1 v2 q) (hq : OkQ q) :
    Calls Tryd.prog 13 #[.agg #[.string q.name, v1, .int .i64 q.ring, v2]] w fun e w' => ∃ gh ga, e = .returned (.agg #[.string q.name, .slice (some ⟨gh, 0, none⟩) q.head.length q.head.length, .int .i64 q.ring, .slice (some ⟨ga, 0, none⟩) q.atoms.length q.atoms.length]) ∧ OwnQ w' w.heap.size gh ga q ∧ Below w.heap.size w w' := by
  have H1 := hid h.head
  have H2 := hid h.atoms
  have HQ := hid hq
  obtain ⟨a1, k1, e1, -⟩ := h.head
  obtain ⟨a2, k2, e2, -⟩ := h.atoms
  subst e1 e2
  clear h hq
  have HT0 := hid (TB4.start w 33 25 25 (.string q.name) (.slice a1 q.head.length k1) (.int .i64 q.ring) (.slice a2 q.atoms.length k2) (.string ⟨#[]⟩) (.slice none 0 0) (.int .i64 0) (.slice none 0 0) (.string q.name) (.slice none 0 0) (.int .i64 0) (.slice none 0 0))
  have K1 := hid (toStringS_calls _ _ q.head (H1.out.below HT0.out.below) HQ.out.len)
  have KA : Hid (∀ W, Below w.heap.size w W → Calls Tryd.prog 38 #[.slice a2 q.atoms.length k2] W fun e w' => e = .returned (.slice (some ⟨W.heap.size, 0, none⟩) q.atoms.length q.atoms.length) ∧ OwnAt w' W.heap.size q.atoms ∧ Below W.heap.size W w') := hid (fun W hb => toAtomS_calls W _ q.atoms (H2.out.below hb) HQ.out.alen (fun j hj => (HQ.out.atoms j hj).len))
  have HFIN : Hid (∀ W gh ga, OwnSt W gh q.head → OwnAt W ga q.atoms → w.heap.size ≤ gh → gh < ga → OwnQ W w.heap.size gh ga q) := hid (fun W gh ga h1 h2 h3 h4 => ⟨h1, h2, h3, h4⟩)
  generalize hnm : q.name = nm at *
  generalize hrg : q.ring = rg at *
  clear H1 H2 HQ hnm hrg
  generalize q.head = hd at *
  generalize q.atoms = at' at *
  go_enter Tryd.func13, Tryd.ntmps13
  go_wp2_with fail
  refine K1.out.mono ?_
  rintro e w2 ⟨rfl, ho1, hb0⟩
  have HT1 := hid (HT0.out.step hb0)
  have y1 := HT1.out.a2
  have y2 := HT1.out.a3
  have y3 := HT1.out.o1
  have y4 := HT1.out.fo1
  have y5 := HT1.out.o2
  have y6 := HT1.out.fo2
  have HO1 : Hid (OwnSt w2 (w.heap.size + 1 + 1 + 1) hd) := hid (by simpa using ho1)
  clear ho1 hb0 K1 HT0
  go_wp2_with fail
  have HT2 := hid ((HT1.out.set1 (.slice (some ⟨w.heap.size + 1 + 1 + 1, 0, none⟩) hd.length hd.length)).set2 (.int .i64 rg))
  have HO2 := hid ((HO1.out.move (w' := w2.setCell ⟨w.heap.size + 1 + 1, 1, none⟩ (.slice (some ⟨w.heap.size + 1 + 1 + 1, 0, none⟩) hd.length hd.length)) (heap_set_ne (by omega)) (by simp [World.setCell])).move (w' := (w2.setCell ⟨w.heap.size + 1 + 1, 1, none⟩ (.slice (some ⟨w.heap.size + 1 + 1 + 1, 0, none⟩) hd.length hd.length)).setCell ⟨w.heap.size + 1 + 1, 2, none⟩ (.int .i64 rg)) (heap_set_ne (by omega)) (by simp [World.setCell]))
  refine (KA.out _ HT2.out.below).mono ?_
  rintro e w3 ⟨rfl, ho2, hb1⟩
  have HT3 := hid (HT2.out.step hb1)
  have z0 := HT3.out.o0
  have z1 := HT3.out.o1
  have z2 := HT3.out.o2
  have z3 := HT3.out.o3
  have z4 := HT3.out.fo3
  have z5 := HT3.out.r0
  have z6 := HT3.out.r1
  have z7 := HT3.out.r2
  have z8 := HT3.out.r3
  have z9 := HT3.out.fr0
  have z10 := HT3.out.fr1
  have z11 := HT3.out.fr2
  have z12 := HT3.out.fr3
  have HO3 := hid (HO2.out.below hb1)
  have hg : w.heap.size + 1 + 1 + 1 < ((w2.setCell ⟨w.heap.size + 1 + 1, 1, none⟩ (.slice (some ⟨w.heap.size + 1 + 1 + 1, 0, none⟩) hd.length hd.length)).setCell ⟨w.heap.size + 1 + 1, 2, none⟩ (.int .i64 rg)).heap.size := HO2.out.lt
  have HO4 := hid ho2
  generalize ((w2.setCell ⟨w.heap.size + 1 + 1, 1, none⟩ (.slice (some ⟨w.heap.size + 1 + 1 + 1, 0, none⟩) hd.length hd.length)).setCell ⟨w.heap.size + 1 + 1, 2, none⟩ (.int .i64 rg)).heap.size = ga at *
  clear ho2 hb1 y1 y2 y3 y4 y5 y6 HO1 HO2 KA HT2 HT1
  go_wp2
  have hmv : ∀ (X : World) (c o : Nat) (u : Value), c < w.heap.size + 1 + 1 + 1 → OwnSt X (w.heap.size + 1 + 1 + 1) hd ∧ OwnAt X ga at' → OwnSt (X.setCell ⟨c, o, none⟩ u) (w.heap.size + 1 + 1 + 1) hd ∧ OwnAt (X.setCell ⟨c, o, none⟩ u) ga at' := fun X c o u hc ⟨h1, h2⟩ => ⟨h1.move (heap_set_ne (by omega)) (by simp [World.setCell]), h2.set (by omega)⟩
  have hfin := hmv _ (w.heap.size + 1) 3 (.slice (some ⟨ga, 0, none⟩) at'.length at'.length) (by omega) (hmv _ (w.heap.size + 1) 2 (.int .i64 rg) (by omega) (hmv _ (w.heap.size + 1) 1 (.slice (some ⟨w.heap.size + 1 + 1 + 1, 0, none⟩) hd.length hd.length) (by omega) (hmv _ (w.heap.size + 1) 0 (.string nm) (by omega) (hmv w3 (w.heap.size + 1 + 1) 3 (.slice (some ⟨ga, 0, none⟩) at'.length at'.length) (by omega) ⟨HO3.out, HO4.out⟩))))
  refine bodyPost_ret (v := .agg #[.string nm, .slice (some ⟨w.heap.size + 1 + 1 + 1, 0, none⟩) hd.length hd.length, .int .i64 rg, .slice (some ⟨ga, 0, none⟩) at'.length at'.length]) (by simp [results, Tryd.results13, go_sem, z5, z6, z7, z8]) rfl
    ⟨_, _, rfl, HFIN.out _ _ _ hfin.1 hfin.2 (by omega) hg,
    ((((HT3.out.below.setCell (by show w.heap.size ≤ w.heap.size + 1 + 1; omega) _).setCell (by show w.heap.size ≤ w.heap.size + 1; omega) _).setCell (by show w.heap.size ≤ w.heap.size + 1; omega) _).setCell (by show w.heap.size ≤ w.heap.size + 1; omega) _).setCell (by show w.heap.size ≤ w.heap.size + 1; omega) _⟩

end Go.Proofs.YtbefmifofffdoacDoor

/-
  The variables of a query in the order of their first places: spec.l3Place, l3Vars.
-/
namespace Go.Proofs.YtbefmifofffdoacDoor
open Go.RowKit

def hasT (L : List ByteArray) (s : ByteArray) : Bool := L.any fun x => x.toList == s.toList
def addV (L : List ByteArray) (t : TermV) : List ByteArray := if t.1.toList.isEmpty || hasT L t.1 then L else L ++ [t.1]
/-- after i atoms -/
def VL (ats : List AtomV) (i : Nat) : List ByteArray := (ats.take i).foldl (fun L a => a.2.foldl addV L) []
/-- after i atoms and p terms of the next -/
def VT (ats : List AtomV) (i p : Nat) : List ByteArray := ((ats.getD i noAt).2.take p).foldl addV (VL ats i)

theorem VL_zero (ats : List AtomV) : VL ats 0 = [] := rfl
theorem VT_zero (ats : List AtomV) (i : Nat) : VT ats i 0 = VL ats i := rfl
theorem take_succ_getD {α : Type} (l : List α) (d : α) {i : Nat} (h : i < l.length) : l.take (i + 1) = l.take i ++ [l.getD i d] := by
  rw [List.take_add_one, List.getElem?_eq_getElem h]
  simp [List.getD_eq_getElem?_getD, h]
theorem VL_succ (ats : List AtomV) {i : Nat} (h : i < ats.length) : VL ats (i + 1) = VT ats i (ats.getD i noAt).2.length := by
  unfold VL VT
  rw [take_succ_getD ats noAt h, List.foldl_append, List.take_length]
  rfl
theorem VT_succ (ats : List AtomV) (i : Nat) {p : Nat} (h : p < (ats.getD i noAt).2.length) : VT ats i (p + 1) = addV (VT ats i p) ((ats.getD i noAt).2.getD p noTm) := by
  unfold VT
  rw [take_succ_getD _ noTm h, List.foldl_append]
  rfl
theorem addV_len (L : List ByteArray) (t : TermV) : (addV L t).length ≤ L.length + 1 := by
  unfold addV
  split
  · omega
  · simp
theorem VT_len (ats : List AtomV) (i p : Nat) : (VT ats i p).length ≤ (VL ats i).length + p := by
  induction p with
  | zero => rw [VT_zero]; omega
  | succ p ih =>
    by_cases h : p < (ats.getD i noAt).2.length
    · rw [VT_succ ats i h]
      have := addV_len (VT ats i p) ((ats.getD i noAt).2.getD p noTm)
      omega
    · have : VT ats i (p + 1) = VT ats i p := by
        unfold VT
        rw [List.take_of_length_le (by omega), List.take_of_length_le (by omega)]
      rw [this]; omega
theorem VL_len (ats : List AtomV) (hk : ∀ j, j < ats.length → (ats.getD j noAt).2.length ≤ 1048576) (i : Nat) (hi : i ≤ ats.length) : (VL ats i).length ≤ i * 1048576 := by
  induction i with
  | zero => rw [VL_zero]; simp
  | succ i ih =>
    rw [VL_succ ats (by omega)]
    have h1 := VT_len ats i (ats.getD i noAt).2.length
    have h2 := hk i (by omega)
    have h3 := ih (by omega)
    omega

set_option maxHeartbeats 2000000 in
set_option maxRecDepth 1000000 in
theorem l3Place_calls (w : World) (v : Value) (L : List ByteArray) (s : ByteArray) (h : ISt w v L) (hl : L.length ≤ 1099511627776000) :
    Calls Tryd.prog 46 #[v, .string s] w fun e w' => ∃ z : Int, e = .returned (.int .i64 z) ∧ w' = w ∧ (hasT L s = true → 0 ≤ z) ∧ (hasT L s = false → z = -1) := by
  obtain ⟨a, cap, rfl, hc⟩ := h
  obtain ⟨n, hn⟩ : ∃ n, n = L.length := ⟨_, rfl⟩
  have HC := hid hc
  have HN := hid hn
  rw [← hn] at HC hl ⊢
  clear hc hn
  go_enter Tryd.func46, Tryd.ntmps46
  go_wp2
  go_loopw [9] (fun t wr => ∃ j : Nat, j ≤ n ∧ t = .int .i64 j ∧ wr = w ∧ Hid (∀ i, i < j → ((L.getD i noTx).toList == s.toList) = false)) (fun t _ => n - (intOf t).toNat)
  case atStart => exact ⟨0, Nat.zero_le _, rfl, rfl, hid (fun i hi => by omega)⟩
  case round =>
    obtain ⟨j, hj, rfl, hw, HH⟩ := hrel
    subst hw
    by_cases hjn : j < n
    · have i1 : (j : Int) < (n : Int) := by omega
      rcases HC.out with h0 | ⟨b, o, rfl, hcell⟩
      · omega
      · have c1 := hcell j hjn
        have HX : Hid (((L.getD j noTx).toList == s.toList) = true → hasT L s = true) := hid (fun h => by
          unfold hasT
          rw [List.any_eq_true]
          refine ⟨L.getD j noTx, List.mem_of_getElem? (i := j) ?_, h⟩
          have : j < L.length := by rw [← HN.out]; exact hjn
          simp [List.getD_eq_getElem?_getD, this])
        have HY : Hid (((L.getD j noTx).toList == s.toList) = false → ∀ i, i < j + 1 → ((L.getD i noTx).toList == s.toList) = false) := hid (fun h i hi => by
          by_cases e : i = j
          · rw [e]; exact h
          · exact HH.out i (by omega))
        clear hcell HH
        generalize L.getD j noTx = x at *
        cases hb : (x.toList == s.toList)
        · have HZ := hid (HY.out hb)
          clear HX HY
          go_wp2
          go_roundw
          case rel => exact ⟨j + 1, by omega, by go_num, by trivial, HZ⟩
          case measure => simp [intOf]; omega
        · have HZ := hid (HX.out hb)
          clear HX HY
          go_wp2
          go_ret
          exact ⟨_, rfl, rfl, (fun _ => by omega), (fun h => by rw [HZ.out] at h; cases h)⟩
    · obtain rfl : j = n := by omega
      have i1 : ¬ ((j : Int) < (j : Int)) := by omega
      have HZ : Hid (hasT L s = false) := hid (by
        unfold hasT
        rw [List.any_eq_false]
        intro x hx
        obtain ⟨i, hi, e⟩ := List.getElem_of_mem hx
        have := HH.out i (by rw [HN.out]; exact hi)
        rw [List.getD_eq_getElem?_getD, List.getElem?_eq_getElem hi] at this
        simp only [Option.getD_some] at this
        rw [e] at this
        rw [this]; decide)
      go_wp2
      go_ret
      exact ⟨_, rfl, rfl, (fun h => by rw [HZ.out] at h; cases h), (fun _ => rfl)⟩

end Go.Proofs.YtbefmifofffdoacDoor

/-
  spec.l3Vars.
-/
namespace Go.Proofs.YtbefmifofffdoacDoor
open Go.RowKit

theorem Tryd.infoSt : (Tryd.prog.info? 9).map (fun i => (i.zero, i.size, i.bytes)) = some (some (.string ⟨#[]⟩), 1, 16) := by kernel_rfl

theorem own_st {w : World} {B : Nat} {v : Value} {L : List ByteArray} (h : w.ownsRow B 9 1 v L.length (L.map Value.string)) : ISt w v L := by
  rcases h.2 with ⟨rfl, h4⟩ | ⟨g, cp, cur, rfl, hb, hc, hr⟩
  · exact ⟨none, 0, by rw [h4], Or.inl h4⟩
  · refine ⟨_, cp, rfl, Or.inr ⟨g, 0, rfl, fun j hj => ?_⟩⟩
    have := h.cellAt j (by omega)
    rw [Nat.zero_add, this, List.getElem?_map, List.getElem?_eq_getElem hj]
    simp [List.getD_eq_getElem?_getD, hj]

theorem bcl' {w w' : World} {a : Addr} {v : Value} (hb : Below w.heap.size w w') (h : w.cell? a = some v) : w'.cell? a = some v :=
  (hb.cell (World.block_lt_of_cell? w _ h)).trans h

set_option maxHeartbeats 8000000 in
set_option maxRecDepth 1000000 in
theorem l3Vars_calls (w : World) (vh va : Value) (q : QV) (h : IQ w vh va q) (hq : OkQ q) :
    Calls Tryd.prog 45 #[.agg #[.string q.name, vh, .int .i64 q.ring, va]] w fun e w' => ∃ v, e = .returned v ∧ w'.ownsRow w.heap.size 9 1 v (VL q.atoms q.atoms.length).length ((VL q.atoms q.atoms.length).map Value.string) ∧ Below w.heap.size w w' := by
  obtain ⟨i0, hi, hz0, hz1, hz2⟩ := info_parts Tryd.infoSt
  have hal := hq.alen
  have HK : Hid (∀ j, j < q.atoms.length → (q.atoms.getD j noAt).2.length ≤ 1048576) := hid (fun j hj => (hq.atoms j hj).len)
  have HI := hid h.atoms
  obtain ⟨a1, k1, e1, -⟩ := h.head
  obtain ⟨a2, k2, e2, -⟩ := h.atoms
  subst e1 e2
  clear h hq
  obtain ⟨W1, hW1⟩ : ∃ W, W = w.alloc (.cells #[.string q.name, .slice a1 q.head.length k1, .int .i64 q.ring, .slice a2 q.atoms.length k2] 25) := ⟨_, rfl⟩
  have c3 : W1.cell? ⟨w.heap.size, 3, none⟩ = some (.slice a2 q.atoms.length k2) := by rw [hW1, World.cell?_alloc_at _ _ _ _ rfl]; rfl
  have HB1 : Hid (Below w.heap.size w W1) := hid (by rw [hW1]; exact (Below.refl _ _).alloc (Nat.le_refl _) _)
  have hs1 : w.heap.size < W1.heap.size := by rw [hW1]; simp
  have hIA := HI.out.below HB1.out
  generalize q.name = nm at *
  generalize q.ring = rg at *
  generalize q.head.length = hn at *
  generalize q.atoms = ats at *
  obtain ⟨n, hn'⟩ : ∃ n, n = ats.length := ⟨_, rfl⟩
  have HN := hid hn'
  obtain ⟨a2', k2', ee, hcell⟩ := hIA
  simp only [Value.slice.injEq] at ee
  obtain ⟨rfl, -, -⟩ := ee
  have HC := hid hcell
  rw [← hn'] at HC HK hal c3 hW1 ⊢
  have HVL : Hid (∀ i, i ≤ n → (VL ats i).length ≤ i * 1048576) := hid (fun i hi => VL_len ats (by rw [← hn']; exact HK.out) i (by omega))
  clear hcell hn' HI
  go_enter Tryd.func45, Tryd.ntmps45
  go_upto_region 1 with fail
  rw [← hW1]
  clear hW1
  have c3a : ∀ o', (W1.alloc o').cell? ⟨w.heap.size, 3, none⟩ = some (.slice a2 n k2) := fun o' => bcl' ((Below.refl _ _).alloc (Nat.le_refl _) o') c3
  go_wp2
  go_loopw [3, 12] (fun v t wr => ∃ (i : Nat) (vs : Value), i ≤ n ∧ t = .int .i64 i ∧ vs = v ∧ Hid (Below W1.heap.size W1 wr ∧ wr.ownsRow W1.heap.size 9 1 vs (VL ats i).length ((VL ats i).map Value.string))) (fun _ t _ => n - (intOf t).toNat)
  case atStart => exact ⟨0, _, Nat.zero_le _, rfl, rfl, hid ⟨(Below.refl _ _).alloc (Nat.le_refl _) _, World.ownsRow_made W1 #[] 0 (Nat.le_refl _) (by decide) rfl⟩⟩
  case round =>
    clear c3 c3a
    obtain ⟨i, vs, hin, rfl, rfl, HH⟩ := hrel
    by_cases hlt : i < n
    · have i1 : (i : Int) < (n : Int) := by omega
      rcases HC.out with h0 | ⟨b, o, rfl, hrel⟩
      · omega
      · obtain ⟨u, d0, d1, hit⟩ := hrel i hlt
        have e0 := bcl' HH.out.1 d0
        have e1 := bcl' HH.out.1 d1
        obtain ⟨ua, uc, eu, hterm⟩ := hit
        subst eu
        have hm := HK.out i hlt
        have hvl := HVL.out i (by omega)
        obtain ⟨m, hm'⟩ : ∃ m, m = (ats.getD i noAt).2.length := ⟨_, rfl⟩
        have HT := hid hterm
        rw [← hm'] at HT e1 hm
        have HM := hid hm'
        clear hrel d0 d1 hterm hm'
        generalize (ats.getD i noAt).1 = rel at *
        generalize wr = Wr at *
        go_upto_region 5 with fail
        have HW : Hid (Below W1.heap.size W1 (Wr.alloc (.cells #[.string rel, .slice ua m uc] 78)) ∧ (Wr.alloc (.cells #[.string rel, .slice ua m uc] 78)).ownsRow W1.heap.size 9 1 vs (VT ats i 0).length ((VT ats i 0).map Value.string)) := hid ⟨HH.out.1.alloc HH.out.1.size _, by rw [VT_zero]; exact HH.out.2.alloc _⟩
        have f1 : (Wr.alloc (.cells #[.string rel, .slice ua m uc] 78)).cell? ⟨Wr.heap.size, 1, none⟩ = some (.slice ua m uc) := by rw [World.cell?_alloc_at _ _ _ _ rfl]; rfl
        clear HH e0 e1
        generalize Wr.alloc (.cells #[.string rel, .slice ua m uc] 78) = Ws at *
        go_wp2_with fail
        clear f1
        go_loopw [3, 19] (fun v t wr => ∃ (p : Nat) (vs : Value), p ≤ m ∧ t = .int .i64 p ∧ vs = v ∧ Hid (Below W1.heap.size W1 wr ∧ wr.ownsRow W1.heap.size 9 1 vs (VT ats i p).length ((VT ats i p).map Value.string))) (fun _ t _ => m - (intOf t).toNat)
        case atStart => exact ⟨0, _, Nat.zero_le _, rfl, rfl, HW⟩
        case round =>
          clear HW
          obtain ⟨p, vs, hpm, rfl, rfl, HG⟩ := hrel
          by_cases hlp : p < m
          · have i2 : (p : Int) < (m : Int) := by omega
            rcases HT.out with h0 | ⟨tb, to, rfl, hts⟩
            · omega
            · obtain ⟨g0', g1'⟩ := hts p hlp
              have g0 := bcl' HG.out.1 g0'
              have g1 := bcl' HG.out.1 g1'
              have hvt := VT_len ats i p
              have hsz := HG.out.1.size
              have HS : Hid (VT ats i (p + 1) = addV (VT ats i p) ((ats.getD i noAt).2.getD p noTm)) := hid (VT_succ ats i (by rw [← HM.out]; exact hlp))
              unfold addV at HS
              have KP := hid (fun (o' : Obj) => l3Place_calls (wr.alloc o') vs (VT ats i p) ((ats.getD i noAt).2.getD p noTm).1 (own_st (HG.out.2.alloc o')) (by omega))
              clear hts g0' g1'
              generalize (ats.getD i noAt).2.getD p noTm = t at *
              generalize t.1 = x at *
              generalize t.2 = y at *
              generalize VT ats i p = L at *
              cases hem : x.toList.isEmpty
              · rw [hem, Bool.false_or] at HS
                have hem2 : (!x.toList.isEmpty) = true := by rw [hem]; rfl
                cases hhas : hasT L x
                · rw [hhas] at HS
                  rw [if_neg (by decide)] at HS
                  go_wp2_with fail
                  refine (KP.out _).mono ?_
                  rintro e w5 ⟨z, rfl, hw5, -, hz⟩
                  subst w5
                  obtain rfl := hz hhas
                  clear hz KP
                  go_wp2_with (first
                    | (at_builtin; refine wpList_append_own _ rfl _ _ 22 rfl W1.heap.size 9 i0 (.string ⟨#[]⟩) 1 16 Tryd.underlying22 hi hz0 hz1 hz2 rfl (by decide) _ _ _ rfl ((HG.out.2.alloc _).alloc _) ⟨wr.heap.size + 1, 0, none⟩ 1 1 [.string x] rfl rfl ?y1 ?y2 ?y3 ?y4 ?y5 ?_)
                    | fail)
                  try (case y1 =>
                    intro j u hj
                    match j, hj with
                    | 0, hj => simp at hj; subst hj; simp [Addr.add])
                  try (case y2 => first | rfl | (intro u hu; simp at hu; subst hu; rfl))
                  try (case y3 => unfold maxLen; (first | omega | (simp; omega)))
                  try (case y4 => (first | omega | (simp; omega)))
                  try (case y5 => (first | omega | (simp; omega)))
                  intro v' w6 hown' hgrow _
                  have HN2 : Hid (Below W1.heap.size W1 w6 ∧ w6.ownsRow W1.heap.size 9 1 v' (VT ats i (p + 1)).length ((VT ats i (p + 1)).map Value.string)) := hid ⟨((HG.out.1.alloc hsz _).alloc (by simp; omega) _).grown hgrow (by simp; omega) (fun j hj => (HG.out.2.lt j hj).1), by rw [HS.out]; simpa using hown'⟩
                  clear hown' hgrow
                  go_wp2
                  go_roundw
                  case rel => exact ⟨p + 1, v', by omega, by go_num, rfl, HN2⟩
                  case measure => simp [intOf]; omega
                · rw [hhas] at HS
                  rw [if_pos rfl] at HS
                  go_wp2_with fail
                  refine (KP.out _).mono ?_
                  rintro e w5 ⟨z, rfl, hw5, hz, -⟩
                  subst w5
                  have hz' : ¬ (z < 0) := by have := hz hhas; omega
                  clear hz KP
                  go_wp2
                  go_roundw
                  case rel => exact ⟨p + 1, vs, by omega, by go_num, rfl, hid ⟨HG.out.1.alloc hsz _, by rw [HS.out]; exact HG.out.2.alloc _⟩⟩
                  case measure => simp [intOf]; omega
              · rw [hem, Bool.true_or, if_pos rfl] at HS
                have hem2 : (!x.toList.isEmpty) = false := by rw [hem]; rfl
                clear KP
                go_wp2
                go_roundw
                case rel => exact ⟨p + 1, vs, by omega, by go_num, rfl, hid ⟨HG.out.1.alloc hsz _, by rw [HS.out]; exact HG.out.2.alloc _⟩⟩
                case measure => simp [intOf]; omega
          · obtain rfl : p = m := by omega
            have i2 : ¬ ((p : Int) < (p : Int)) := by omega
            have HE : Hid (VL ats (i + 1) = VT ats i p) := hid (by rw [HM.out]; exact VL_succ ats (by rw [← HN.out]; exact hlt))
            go_wp2
            go_roundw
            case rel => exact ⟨i + 1, vs, by omega, by go_num, rfl, hid ⟨HG.out.1, by rw [HE.out]; exact HG.out.2⟩⟩
            case measure => simp [intOf]; omega
    · obtain rfl : i = n := by omega
      have i1 : ¬ ((i : Int) < (i : Int)) := by omega
      go_wp2
      go_ret
      refine ⟨_, rfl, ?_, HB1.out.trans (HH.out.1.mono (by omega))⟩
      have := HH.out.2
      refine ⟨this.1, ?_⟩
      rcases this.2 with h0 | ⟨c, cp, cur, h1, h2, h3⟩
      · exact Or.inl h0
      · exact Or.inr ⟨c, cp, cur, h1, by omega, h3⟩

end Go.Proofs.YtbefmifofffdoacDoor

/-
  The first place of a text in a list: spec.l3Place, told exactly.
-/
namespace Go.Proofs.YtbefmifofffdoacDoor
open Go.RowKit

/-- z: the first place of the text s, or -1 -/
def TxIx (L : List ByteArray) (s : ByteArray) (z : Int) : Prop :=
  (z = -1 ∧ ∀ i, i < L.length → ((L.getD i noTx).toList == s.toList) = false) ∨
  ∃ j : Nat, z = j ∧ j < L.length ∧ ((L.getD j noTx).toList == s.toList) = true ∧ ∀ i, i < j → ((L.getD i noTx).toList == s.toList) = false

theorem hasT_take {L : List ByteArray} {s : ByteArray} {k : Nat} (hk : k ≤ L.length) : hasT (L.take k) s = true ↔ ∃ i, i < k ∧ ((L.getD i noTx).toList == s.toList) = true := by
  unfold hasT
  rw [List.any_eq_true]
  constructor
  · rintro ⟨x, hx, e⟩
    obtain ⟨i, hi, ei⟩ := List.getElem_of_mem hx
    have hi' : i < k := by simp at hi; omega
    refine ⟨i, hi', ?_⟩
    rw [List.getElem_take] at ei
    rw [List.getD_eq_getElem?_getD, List.getElem?_eq_getElem (by omega), Option.getD_some, ei]
    exact e
  · rintro ⟨i, hi, e⟩
    refine ⟨L.getD i noTx, ?_, e⟩
    have h1 : i < L.length := by omega
    refine List.mem_of_getElem? (i := i) ?_
    rw [List.getElem?_take_of_lt hi, List.getD_eq_getElem?_getD, List.getElem?_eq_getElem h1, Option.getD_some]

/-- a text that is there: its first place is before k if it is among the first k -/
theorem TxIx.before {L : List ByteArray} {s : ByteArray} {z : Int} (h : TxIx L s z) {k : Nat} (hk : k < L.length) (e : ((L.getD k noTx).toList == s.toList) = true) : decide (z < (k : Int)) = hasT (L.take k) s := by
  rcases h with ⟨-, h⟩ | ⟨j, rfl, hj, h1, h2⟩
  · rw [h k hk] at e; cases e
  · by_cases hjk : j < k
    · rw [decide_eq_true (by omega), eq_comm, hasT_take (by omega)]
      exact ⟨j, hjk, h1⟩
    · rw [decide_eq_false (by omega), eq_comm, Bool.eq_false_iff]
      intro hh
      obtain ⟨i, hi, ei⟩ := (hasT_take (by omega)).1 hh
      rw [h2 i (by omega)] at ei; cases ei

theorem TxIx.has {L : List ByteArray} {s : ByteArray} {z : Int} (h : TxIx L s z) : decide (z < 0) = !hasT L s := by
  have ht := hasT_take (L := L) (s := s) (Nat.le_refl L.length)
  rw [List.take_length] at ht
  rcases h with ⟨rfl, h⟩ | ⟨j, rfl, hj, h1, h2⟩
  · have : hasT L s = false := by
      rw [Bool.eq_false_iff]
      intro hh
      obtain ⟨i, hi, ei⟩ := ht.1 hh
      rw [h i hi] at ei; cases ei
    rw [this]; rfl
  · rw [ht.2 ⟨j, hj, h1⟩, decide_eq_false (by omega)]; rfl

set_option maxHeartbeats 2000000 in
set_option maxRecDepth 1000000 in
theorem l3PlaceIx_calls (w : World) (v : Value) (L : List ByteArray) (s : ByteArray) (h : ISt w v L) (hl : L.length ≤ 1099511627776000) :
    Calls Tryd.prog 46 #[v, .string s] w fun e w' => ∃ z : Int, e = .returned (.int .i64 z) ∧ w' = w ∧ TxIx L s z := by
  obtain ⟨a, cap, rfl, hc⟩ := h
  obtain ⟨n, hn⟩ : ∃ n, n = L.length := ⟨_, rfl⟩
  have HC := hid hc
  have HN := hid hn
  rw [← hn] at HC hl ⊢
  clear hc hn
  go_enter Tryd.func46, Tryd.ntmps46
  go_wp2
  go_loopw [9] (fun t wr => ∃ j : Nat, j ≤ n ∧ t = .int .i64 j ∧ wr = w ∧ Hid (∀ i, i < j → ((L.getD i noTx).toList == s.toList) = false)) (fun t _ => n - (intOf t).toNat)
  case atStart => exact ⟨0, Nat.zero_le _, rfl, rfl, hid (fun i hi => by omega)⟩
  case round =>
    obtain ⟨j, hj, rfl, hw, HH⟩ := hrel
    subst hw
    by_cases hjn : j < n
    · have i1 : (j : Int) < (n : Int) := by omega
      rcases HC.out with h0 | ⟨b, o, rfl, hcell⟩
      · omega
      · have c1 := hcell j hjn
        have HX : Hid (((L.getD j noTx).toList == s.toList) = true → TxIx L s j) := hid (fun h => Or.inr ⟨j, rfl, by rw [← HN.out]; exact hjn, h, HH.out⟩)
        have HY : Hid (((L.getD j noTx).toList == s.toList) = false → ∀ i, i < j + 1 → ((L.getD i noTx).toList == s.toList) = false) := hid (fun h i hi => by
          by_cases e : i = j
          · rw [e]; exact h
          · exact HH.out i (by omega))
        clear hcell HH
        generalize L.getD j noTx = x at *
        cases hb : (x.toList == s.toList)
        · have HZ := hid (HY.out hb)
          clear HX HY
          go_wp2
          go_roundw
          case rel => exact ⟨j + 1, by omega, by go_num, by trivial, HZ⟩
          case measure => simp [intOf]; omega
        · have HZ := hid (HX.out hb)
          clear HX HY
          go_wp2
          go_ret
          exact ⟨_, rfl, rfl, HZ.out⟩
    · obtain rfl : j = n := by omega
      have i1 : ¬ ((j : Int) < (j : Int)) := by omega
      have HZ : Hid (TxIx L s (-1)) := hid (Or.inl ⟨rfl, fun i hi => HH.out i (by rw [HN.out]; exact hi)⟩)
      go_wp2
      go_ret
      exact ⟨_, rfl, rfl, HZ.out⟩

end Go.Proofs.YtbefmifofffdoacDoor
