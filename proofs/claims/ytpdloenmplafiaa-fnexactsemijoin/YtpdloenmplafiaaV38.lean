import Derived.Test.YtpdloenmplafiaaV37
/-
  impl: (trie).add.
-/
namespace Go.Proofs.Ytpdloenmplafiaa
open Go.RowKit Meet

theorem Try.infoTrieP : (Try.prog.info? 112).map (fun i => (i.zero, i.size, i.bytes)) = some (some (.pointer none), 1, 8) := by kernel_rfl

theorem own_shape2 {w : World} {B n s : Nat} {e : TypeId} {v : Value} {xs : List Value} (h : w.ownsRow B e s v n xs) : ∃ a cap, v = .slice a n cap := by
  rcases h.2 with ⟨rfl, hn⟩ | ⟨g, cap, cur, rfl, _⟩
  · exact ⟨none, 0, by rw [hn]⟩
  · exact ⟨_, cap, rfl⟩

/-- a trie of rows, and the way of one more row into it -/
def TS (W0 W : World) (rs : List (List Int)) (K root : Nat) : Prop := ∃ D N f g0 g1, TM rs D N ∧ TR W W0.heap.size D N N f g0 g1 ∧ f [] = root ∧ (∀ p, D p → (N p).length ≤ K) ∧ Below W0.heap.size W0 W
def LST (W0 W : World) (rs : List (List Int)) (r : List Int) (i K root node : Nat) : Prop := ∃ D N f g0 g1, TM (rs ++ [r.take i]) D N ∧ TR W W0.heap.size D N N f g0 g1 ∧ f [] = root ∧ f (r.take i) = node ∧ (∀ p, D p → (N p).length ≤ K + 1 ∧ (i ≤ p.length → (N p).length ≤ K)) ∧ Below W0.heap.size W0 W

theorem LST.start {W0 W : World} {rs : List (List Int)} {K root : Nat} (r : List Int) (h : TS W0 W rs K root) : LST W0 W rs r 0 K root root := by
  obtain ⟨D, N, f, g0, g1, hM, hT, hr, hk, hb⟩ := h
  exact ⟨D, N, f, g0, g1, hM.begin, hT, hr, hr, fun p hp => ⟨by have := hk p hp; omega, fun _ => hk p hp⟩, hb⟩
theorem LST.done {W0 W : World} {rs : List (List Int)} {r : List Int} {K root node : Nat} (h : LST W0 W rs r r.length K root node) : TS W0 W (rs ++ [r]) (K + 1) root := by
  obtain ⟨D, N, f, g0, g1, hM, hT, hr, -, hk, hb⟩ := h
  exact ⟨D, N, f, g0, g1, hM.done, hT, hr, fun p hp => (hk p hp).1, hb⟩

/-- what the round meets where the value is there -/
theorem LST.hit {W0 W : World} {rs : List (List Int)} {r : List Int} {i K root node : Nat} (h : LST W0 W rs r i K root node) (hi : i < r.length) (hs : ∀ s ∈ rs, cmpL s r < 0) :
    (∃ m ga ca gb cb nx, W.cell? ⟨node, 0, none⟩ = some (.slice (some ⟨ga, 0, none⟩) (m + 1) ca) ∧ W.cell? ⟨node, 1, none⟩ = some (.slice (some ⟨gb, 0, none⟩) (m + 1) cb) ∧ W.cell? ⟨ga, m, none⟩ = some (.int .i64 (r.getD i 0)) ∧ W.cell? ⟨gb, m, none⟩ = some (.pointer (some ⟨nx, 0, none⟩)) ∧ m + 1 ≤ K ∧ LST W0 W rs r (i + 1) K root nx)
    ∨ (∃ D N f g0 g1, r.getD i 0 ∉ N (r.take i) ∧ TM (rs ++ [r.take i]) D N ∧ TR W W0.heap.size D N N f g0 g1 ∧ f [] = root ∧ f (r.take i) = node ∧ (∀ p, D p → (N p).length ≤ K + 1 ∧ (i ≤ p.length → (N p).length ≤ K)) ∧ Below W0.heap.size W0 W) := by
  obtain ⟨D, N, f, g0, g1, hM, hT, hr, hnd, hk, hb⟩ := h
  have hh := hM.here
  by_cases hx : r.getD i 0 ∈ N (r.take i)
  · refine Or.inl ?_
    obtain ⟨h0, h1⟩ := last_of (hM.asc _ hh) hx (hM.le hi hs)
    obtain ⟨m, hm⟩ : ∃ m, (N (r.take i)).length = m + 1 := ⟨(N (r.take i)).length - 1, by omega⟩
    rw [hm, Nat.add_sub_cancel] at h1
    have hg : (N (r.take i))[m]? = some (r.getD i 0) := by
      rw [List.getD_eq_getElem?_getD, List.getElem?_eq_getElem (by omega), Option.getD_some] at h1
      rw [List.getElem?_eq_getElem (by omega), h1]
    obtain ⟨ga, ca, ea, ca'⟩ := own_at (hT.o0 _ hh) (j := m) (by omega)
    obtain ⟨gb, cb, eb, cb'⟩ := own_at (hT.o1 _ hh) (j := m) (by omega)
    rw [List.getElem?_map, hg] at ca' cb'
    have hkm := (hk _ hh).2 (by rw [List.length_take]; omega)
    refine ⟨m, ga, ca, gb, cb, f (r.take i ++ [r.getD i 0]), ?_, ?_, ca', cb', by omega, D, N, f, g0, g1, hM.hit hi hx, hT, hr, by rw [take_snoc hi], fun p hp => ⟨(hk p hp).1, fun hl => (hk p hp).2 (by omega)⟩, hb⟩
    · rw [← hnd, hT.c0 hh, ea, hm]
    · rw [← hnd, hT.c1 hh, eb, hm]
  · exact Or.inr ⟨D, N, f, g0, g1, hx, hM, hT, hr, hnd, hk, hb⟩

/-- behind both appends -/
theorem LST.miss {W0 W1 w3 : World} {rs : List (List Int)} {r : List Int} {i K root : Nat} {D : List Int → Prop} {N : List Int → List Int} {f : List Int → Nat} {g0 g1 : List Int → Value} {v' : Value} {o : Obj} (hi : i < r.length) (hs : ∀ s ∈ rs, cmpL s r < 0) (hx : r.getD i 0 ∉ N (r.take i)) (hM : TM (rs ++ [r.take i]) D N)
    (hT : TR W1 W0.heap.size D (fun q => if q = r.take i then N (r.take i) ++ [r.getD i 0] else N q) N f g0 g1) (hr : f [] = root) (hk : ∀ p, D p → (N p).length ≤ K + 1 ∧ (i ≤ p.length → (N p).length ≤ K)) (hb : Below W0.heap.size W0 W1)
    (hown : w3.ownsRow W0.heap.size 112 1 v' ((N (r.take i)).length + 1) (((N (r.take i)).map fun x => .pointer (some ⟨f (r.take i ++ [x]), 0, none⟩)) ++ [.pointer (some ⟨W1.heap.size, 0, none⟩)]))
    (hg : ((W1.alloc (.cells #[.slice none 0 0, .slice none 0 0] 157)).alloc o).grownBy w3 (g1 (r.take i)).ownBlock) (hat : ∀ g, v'.ownBlock = some g → (g1 (r.take i)).ownBlock = some g ∨ W1.heap.size ≤ g) :
    LST W0 (w3.setCell ⟨f (r.take i), 1, none⟩ v') rs r (i + 1) K root W1.heap.size := by
  have hh := hM.here
  have hno : ¬ D (r.take i ++ [r.getD i 0]) := fun hd => hx ((hM.mem _ hh _).2 hd)
  have hs1 := hb.size
  have hTR := hT.belw hh hno hx hb.size (N0' := addN N (r.take i) (r.getD i 0)) (fun q hq => by
    unfold addN
    by_cases e : q = r.take i
    · rw [if_pos e, if_pos e]
    · rw [if_neg e, if_neg e, if_neg (fun e2 => hno (by rw [← e2]; exact hq))]) (by unfold addN; rw [if_neg (snoc_ne _ _), if_pos rfl]) hown hg hat
  refine ⟨_, _, _, _, _, hM.miss hi hs hx, hTR, ?_, ?_, fun p hp => ?_, ?_⟩
  · show (if _ then _ else _) = _
    rw [if_neg (by simp)]; exact hr
  · show (if _ then _ else _) = _
    rw [if_pos (take_snoc hi)]
  · have hlt : (r.take i).length = i := by rw [List.length_take]; omega
    unfold addN
    by_cases e : p = r.take i
    · have := (hk _ hh).2 (by omega)
      rw [if_pos e, List.length_append, List.length_singleton]
      refine ⟨by omega, fun hl => ?_⟩
      rw [e, hlt] at hl
      omega
    · rw [if_neg e]
      by_cases e2 : p = r.take i ++ [r.getD i 0]
      · rw [if_pos e2]
        exact ⟨Nat.zero_le _, fun _ => Nat.zero_le _⟩
      · rw [if_neg e2]
        have hd := hp.resolve_right e2
        exact ⟨(hk p hd).1, fun hl => (hk p hd).2 (by omega)⟩
  · exact (((hb.alloc hs1 _).alloc (by simp; omega) _).grown hg (by simp; omega) (fun g hg' => ((hT.o1 _ hh).lt g hg').1)).setCell (hT.low _ hh) _

theorem new1_cell2 (w : World) (o : Obj) (v : Value) (t : TypeId) : ∀ j u, [v][j]? = some u → ((w.alloc o).alloc (.cells #[v] t)).cell? ((⟨w.heap.size + 1, 0, none⟩ : Addr).add j) = some u := by
  have := new1_cell (w.alloc o) v t
  rw [World.size_alloc] at this
  exact this
theorem frozen_of {W : World} {b j : Nat} {cs : Array Value} {t : TypeId} (h : W.heap[b]? = some (.cells cs t (0, 0))) : W.frozen? ⟨b, j, none⟩ = false := by unfold World.frozen?; rw [h]; simp

/-- behind the first append: what the second one needs -/
theorem LST.half {W0 W w3 : World} {rs : List (List Int)} {r : List Int} {i K root : Nat} {D : List Int → Prop} {N : List Int → List Int} {f : List Int → Nat} {g0 g1 : List Int → Value} {o : Obj} {g3 cp3 a1n k1 : Nat} {a1 : Option Addr} (hi : i < r.length) (hs : ∀ s ∈ rs, cmpL s r < 0) (hx : r.getD i 0 ∉ N (r.take i)) (hM : TM (rs ++ [r.take i]) D N)
    (hT : TR W W0.heap.size D N N f g0 g1) (hr : f [] = root) (hk : ∀ p, D p → (N p).length ≤ K + 1 ∧ (i ≤ p.length → (N p).length ≤ K)) (hb : Below W0.heap.size W0 W) (h1 : g1 (r.take i) = .slice a1 a1n k1)
    (hown : w3.ownsRow W0.heap.size 3 1 (.slice (some ⟨g3, 0, none⟩) ((N (r.take i)).length + 1) cp3) ((N (r.take i)).length + 1) ((N (r.take i)).map (Value.int .i64) ++ [.int .i64 (r.getD i 0)])) (hg : (W.alloc o).grownBy w3 (g0 (r.take i)).ownBlock) (hat : (g0 (r.take i)).ownBlock = some g3 ∨ g3 = (W.alloc o).heap.size) :
    ∃ W2 xs, W2 = w3.setCell ⟨f (r.take i), 0, none⟩ (.slice (some ⟨g3, 0, none⟩) ((N (r.take i)).length + 1) cp3) ∧ W2.cell? ⟨f (r.take i), 1, none⟩ = some (.slice a1 a1n k1) ∧ W2.ownsRow W0.heap.size 112 1 (.slice a1 a1n k1) (N (r.take i)).length xs ∧ W0.heap.size ≤ W2.heap.size
      ∧ ∀ w4 o' g4 cp4, w4.ownsRow W0.heap.size 112 1 (.slice (some ⟨g4, 0, none⟩) ((N (r.take i)).length + 1) cp4) ((N (r.take i)).length + 1) (xs ++ [.pointer (some ⟨W2.heap.size, 0, none⟩)]) → ((W2.alloc (.cells #[.slice none 0 0, .slice none 0 0] 157)).alloc o').grownBy w4 (Value.slice a1 a1n k1).ownBlock → ((Value.slice a1 a1n k1).ownBlock = some g4 ∨ g4 = ((W2.alloc (.cells #[.slice none 0 0, .slice none 0 0] 157)).alloc o').heap.size) →
        (w4.frozen? ⟨f (r.take i), 1, none⟩ = false ∧ w4.cell? ⟨f (r.take i), 1, none⟩ = some (.slice a1 a1n k1)) ∧ (w4.setCell ⟨f (r.take i), 1, none⟩ (.slice (some ⟨g4, 0, none⟩) ((N (r.take i)).length + 1) cp4)).cell? ⟨f (r.take i), 1, none⟩ = some (.slice (some ⟨g4, 0, none⟩) ((N (r.take i)).length + 1) cp4) ∧ (w4.setCell ⟨f (r.take i), 1, none⟩ (.slice (some ⟨g4, 0, none⟩) ((N (r.take i)).length + 1) cp4)).cell? ⟨g4, (N (r.take i)).length, none⟩ = some (.pointer (some ⟨W2.heap.size, 0, none⟩))
        ∧ LST W0 (w4.setCell ⟨f (r.take i), 1, none⟩ (.slice (some ⟨g4, 0, none⟩) ((N (r.take i)).length + 1) cp4)) rs r (i + 1) K root W2.heap.size := by
  have hh := hM.here
  have hT2 := hT.vals hh hown hg (fun g hg' => by
    simp only [Value.ownBlock, Option.some.injEq] at hg'
    subst hg'
    rcases hat with h2 | h2
    · exact Or.inl h2
    · exact Or.inr (by rw [h2]; simp))
  have hs1 := hb.size
  have hb2 : Below W0.heap.size W0 (w3.setCell ⟨f (r.take i), 0, none⟩ (.slice (some ⟨g3, 0, none⟩) ((N (r.take i)).length + 1) cp3)) := ((hb.alloc hs1 _).grown hg (by simp; omega) (fun g hg' => ((hT.o0 _ hh).lt g hg').1)).setCell (hT.low _ hh) _
  refine ⟨_, _, rfl, by rw [hT2.c1 hh, h1], by have := hT2.o1 _ hh; rw [h1] at this; exact this, hb2.size, fun w4 o' g4 cp4 hown4 hg4 hat4 => ?_⟩
  rw [← h1] at hg4 hat4
  have hblk : w4.heap[f (r.take i)]? = some (.cells #[updV g0 (r.take i) (.slice (some ⟨g3, 0, none⟩) ((N (r.take i)).length + 1) cp3) (r.take i), g1 (r.take i)] 157 (0, 0)) := (kept1 hg4 (hT2.lt hh) (own_ne (hT2.o1 _ hh) (hT2.typ hh) (by decide))).trans (hT2.blk _ hh)
  refine ⟨⟨frozen_of hblk, by rw [cell_of_row _ _ _ _ _ _ hblk, ← h1]; rfl⟩, ?_, ?_, LST.miss hi hs hx hM hT2 hr hk hb2 hown4 hg4 (fun g hg' => by
    simp only [Value.ownBlock, Option.some.injEq] at hg'
    subst hg'
    rcases hat4 with h2 | h2
    · exact Or.inl h2
    · exact Or.inr (by rw [h2]; simp; omega))⟩
  · have := heap_setCell_same w4 (f (r.take i)) 1 _ _ (.slice (some ⟨g4, 0, none⟩) ((N (r.take i)).length + 1) cp4) hblk
    rw [cell_of_row _ _ _ _ _ _ this]
    rfl
  · have hm := own_move (w' := w4.setCell ⟨f (r.take i), 1, none⟩ (.slice (some ⟨g4, 0, none⟩) ((N (r.take i)).length + 1) cp4)) hown4 fun g hg' => Below.heap_setCell _ _ _ _ (fun e2 => own_ne hown4 ⟨_, hblk⟩ (by decide) (by rw [hg']; exact congrArg some e2.symm))
    obtain ⟨g, c, e, h2⟩ := own_at hm (j := (N (r.take i)).length) (by omega)
    simp only [Value.slice.injEq, Option.some.injEq, Addr.mk.injEq] at e
    rw [← e.1.1] at h2
    rw [h2, List.getElem?_append_right (by simp), List.length_map, Nat.sub_self]
    rfl

set_option maxHeartbeats 4000000 in
set_option maxRecDepth 1000000 in
theorem add_calls (W0 w : World) (rs : List (List Int)) (K root : Nat) (vr : Value) (r : List Int) (h : TS W0 w rs K root) (hr : IS W0 vr r) (hl : r.length ≤ 1000) (hs : ∀ s ∈ rs, cmpL s r < 0) (hK : K ≤ 1000000) :
    Calls Try.prog 124 #[.pointer (some ⟨root, 0, none⟩), vr] w fun e w' => (∃ v, e = .returned v) ∧ TS W0 w' (rs ++ [r]) (K + 1) root := by
  obtain ⟨i0, hi, hz0, hz1, hz2⟩ := info_parts Try.infoInt
  obtain ⟨iP, hj, hy0, hy1, hy2⟩ := info_parts Try.infoTrieP
  obtain ⟨ar, cr, rfl, hc⟩ := hr
  have HC : Hid (∀ W, Below W0.heap.size W0 W → ∀ j, j < r.length → ∃ (b o : Nat), ar = some ⟨b, o, none⟩ ∧ W.cell? ⟨b, o + j, none⟩ = some (.int .i64 (r.getD j 0))) := hid fun W hW j hj => by
    rcases hc with h0 | ⟨b, o, rfl, h⟩
    · omega
    · exact ⟨b, o, rfl, (hW.cell (World.block_lt_of_cell? W0 _ (h j hj))).trans (h j hj)⟩
  have HL : Hid (LST W0 w rs r 0 K root root) := hid (LST.start r h)
  have HS := hid hs
  have HD : Hid (∀ W nd, LST W0 W rs r r.length K root nd → TS W0 W (rs ++ [r]) (K + 1) root) := hid fun W nd h => h.done
  have HR : Hid (∀ j, j < r.length → ∀ W nd, LST W0 W rs r j K root nd → Below W0.heap.size W0 W) := hid fun j _ W nd ⟨_, _, _, _, _, _, _, _, _, _, hb⟩ => hb
  have HH : Hid (∀ j, j < r.length → ∀ W nd, LST W0 W rs r j K root nd → _) := hid fun j hj W nd h => h.hit hj hs
  have HM : Hid (r.length = r.length) := hid rfl
  obtain ⟨n, hn⟩ : ∃ n, n = r.length := ⟨_, rfl⟩
  clear hc h hs
  rw [← hn] at HC HD HR HH hl HM ⊢
  have HNr := hid hn
  clear hn HM
  go_enter Try.func124, Try.ntmps124
  go_wp2_with fail
  go_loopw [0, 9] (fun u t wr => ∃ (j nd : Nat), j ≤ n ∧ t = .int .i64 j ∧ u = .pointer (some ⟨nd, 0, none⟩) ∧ Hid (LST W0 wr rs r j K root nd)) (fun _ t _ => n - (intOf t).toNat)
  case atStart => exact ⟨0, root, Nat.zero_le _, rfl, rfl, HL⟩
  case round =>
    clear HL
    obtain ⟨j, nd, hjn, rfl, rfl, HT⟩ := hrel
    by_cases hlt : j < n
    · have i1 : (j : Int) < (n : Int) := by omega
      obtain ⟨b, o, ea, e1⟩ := HC.out wr (HR.out j hlt wr nd HT.out) j hlt
      subst ea
      rcases HH.out j hlt wr nd HT.out with ⟨m, ga, ca, gb, cb, nx, c0, c1, c2, c3, hmK, hL⟩ | ⟨D, N, f, g0, g1, hx, hM, hTR, hrt, hnd, hk, hb⟩
      · have HL := hid hL
        clear hL HH HR HD HC HS HT HNr
        generalize r.getD j 0 = x at *
        go_wp2_with fail
        go_roundw
        case rel => exact ⟨j + 1, nx, by omega, by go_num, rfl, HL⟩
        case measure => simp [intOf]; omega
      · have hh := hM.here
        have hj' : j < r.length := by rw [← HNr.out]; exact hlt
        have hkl := (hk _ hh).2 (by rw [List.length_take]; omega)
        obtain ⟨a0, k0, e0⟩ := own_shape2 (hTR.o0 _ hh)
        obtain ⟨a1, k1, e1'⟩ := own_shape2 (hTR.o1 _ hh)
        have HF0 : Hid (∀ w3 o, (wr.alloc o).grownBy w3 (Value.slice a0 (N (r.take j)).length k0).ownBlock → w3.frozen? ⟨nd, 0, none⟩ = false ∧ w3.cell? ⟨nd, 0, none⟩ = some (.slice a0 (N (r.take j)).length k0)) := hid fun w3 o hg => by
          rw [← e0] at hg
          have := hTR.kept0 hh hg hh
          rw [hnd] at this
          exact ⟨frozen_of this, by rw [cell_of_row _ _ _ _ _ _ this, ← e0]; rfl⟩
        have HH2 := hid fun w3 o g3 cp3 hown hg hat => LST.half (w3 := w3) (o := o) (g3 := g3) (cp3 := cp3) hj' HS.out hx hM hTR hrt hk hb e1' hown hg hat
        have HO0 : Hid (wr.ownsRow W0.heap.size 3 1 (.slice a0 (N (r.take j)).length k0) (N (r.take j)).length ((N (r.take j)).map (Value.int .i64))) := hid (by have := hTR.o0 _ hh; rw [e0] at this; exact this)
        have c0 := hTR.c0 hh
        rw [e0, hnd] at c0
        rw [e0, hnd] at HH2
        have hs1 := hb.size
        have hlast : (N (r.take j)).length = 0 ∨ ∃ m ga y, (N (r.take j)).length = m + 1 ∧ a0 = some ⟨ga, 0, none⟩ ∧ wr.cell? ⟨ga, m, none⟩ = some (.int .i64 y) ∧ y ≠ r.getD j 0 := by
          rcases Nat.eq_zero_or_pos (N (r.take j)).length with h0 | h0
          · exact Or.inl h0
          · obtain ⟨m, hm⟩ : ∃ m, (N (r.take j)).length = m + 1 := ⟨(N (r.take j)).length - 1, by omega⟩
            obtain ⟨ga, ca, ea, ca'⟩ := own_at (hTR.o0 _ hh) (j := m) (by omega)
            rw [e0] at ea
            simp only [Value.slice.injEq] at ea
            refine Or.inr ⟨m, ga, _, hm, ea.1, ?_, last_not hx h0⟩
            have e9 : (N (r.take j)).getD ((N (r.take j)).length - 1) 0 = (N (r.take j))[m]'(by omega) := by
              rw [List.getD_eq_getElem?_getD, List.getElem?_eq_getElem (by omega), Option.getD_some]
              simp only [hm, Nat.add_sub_cancel]
            rw [ca', List.getElem?_map, List.getElem?_eq_getElem (by omega), e9]
            rfl
        clear HH HR HD HC HT HS hx hM hTR hrt hnd hk hb hh e0 e1' hj' HNr
        generalize r.getD j 0 = x at *
        generalize (N (r.take j)).length = l0 at *
        rcases hlast with h0 | ⟨m, ga, y, h0, ea, cy, hy⟩
        · subst h0
          go_upto_region 6 with (first | (at_builtin; (refine wpList_append_lies _ rfl _ _ 22 rfl W0.heap.size 3 i0 (.int .i64 0) 1 8 Try.underlying22 hi hz0 hz1 hz2 rfl (by decide) (.slice a0 (0) k0) _ _ rfl (HO0.out.alloc _) ⟨_, 0, none⟩ 1 1 [.int .i64 x] rfl rfl (new1_cell _ _ _) (fun u hu => by simp at hu; subst hu; rfl) (by decide) (by unfold maxLen; omega) (by omega) (by simp; omega) _ rfl ?_; intro g3 cp3 w3 hown3 hgrow3 hat3 hlt3; obtain ⟨f0', c0'⟩ := HF0.out w3 _ hgrow3)) | fail)
          obtain ⟨W2, xs, hW2, d1, ho1, hs2, hrest⟩ := HH2.out w3 _ g3 cp3 hown3 hgrow3 hat3
          have HO1 := hid ho1
          have HRest := hid hrest
          rw [← hW2]
          clear hW2 hown3 hgrow3 hat3 hlt3 f0' c0' ho1 hrest HH2 HF0 HO0 c0
          go_upto_region 7 with (first | (at_builtin; (refine wpList_append_lies _ rfl _ _ 155 rfl W0.heap.size 112 iP (.pointer none) 1 8 Try.underlying155 hj hy0 hy1 hy2 rfl (by decide) (.slice a1 (0) k1) _ xs rfl ((HO1.out.alloc _).alloc _) ⟨_, 0, none⟩ 1 1 [.pointer (some ⟨W2.heap.size, 0, none⟩)] rfl rfl (new1_cell2 _ _ _ _) (fun u hu => by simp at hu; subst hu; rfl) (by decide) (by unfold maxLen; omega) (by omega) (by simp; omega) _ rfl ?_; intro g4 cp4 w4 hown4 hgrow4 hat4 hlt4; obtain ⟨f1', c1'⟩ := (HRest.out w4 _ g4 cp4 hown4 hgrow4 hat4).1)) | fail)
          obtain ⟨-, q1, q2, hL⟩ := HRest.out w4 _ g4 cp4 hown4 hgrow4 hat4
          have HL := hid hL
          clear hL hown4 hgrow4 hat4 hlt4 f1' c1' HRest HO1 d1
          generalize w4.setCell ⟨nd, 1, none⟩ (.slice (some ⟨g4, 0, none⟩) (0 + 1) cp4) = W5 at *
          go_wp2_with fail
          go_roundw
          case rel => exact ⟨j + 1, W2.heap.size, by omega, by go_num, rfl, HL⟩
          case measure => simp [intOf]; omega
        · subst h0 ea
          have dm : decide ((m : Int) < 0) = false := decide_eq_false (by omega)
          have yx : (y != x) = true := by simpa using hy
          go_upto_region 6 with (first | (at_builtin; (refine wpList_append_lies _ rfl _ _ 22 rfl W0.heap.size 3 i0 (.int .i64 0) 1 8 Try.underlying22 hi hz0 hz1 hz2 rfl (by decide) (.slice (some ⟨ga, 0, none⟩) (m + 1) k0) _ _ rfl (HO0.out.alloc _) ⟨_, 0, none⟩ 1 1 [.int .i64 x] rfl rfl (new1_cell _ _ _) (fun u hu => by simp at hu; subst hu; rfl) (by decide) (by unfold maxLen; omega) (by omega) (by simp; omega) _ rfl ?_; intro g3 cp3 w3 hown3 hgrow3 hat3 hlt3; obtain ⟨f0', c0'⟩ := HF0.out w3 _ hgrow3)) | fail)
          obtain ⟨W2, xs, hW2, d1, ho1, hs2, hrest⟩ := HH2.out w3 _ g3 cp3 hown3 hgrow3 hat3
          have HO1 := hid ho1
          have HRest := hid hrest
          rw [← hW2]
          clear hW2 hown3 hgrow3 hat3 hlt3 f0' c0' ho1 hrest HH2 HF0 HO0 c0 cy
          go_upto_region 7 with (first | (at_builtin; (refine wpList_append_lies _ rfl _ _ 155 rfl W0.heap.size 112 iP (.pointer none) 1 8 Try.underlying155 hj hy0 hy1 hy2 rfl (by decide) (.slice a1 (m + 1) k1) _ xs rfl ((HO1.out.alloc _).alloc _) ⟨_, 0, none⟩ 1 1 [.pointer (some ⟨W2.heap.size, 0, none⟩)] rfl rfl (new1_cell2 _ _ _ _) (fun u hu => by simp at hu; subst hu; rfl) (by decide) (by unfold maxLen; omega) (by omega) (by simp; omega) _ rfl ?_; intro g4 cp4 w4 hown4 hgrow4 hat4 hlt4; obtain ⟨f1', c1'⟩ := (HRest.out w4 _ g4 cp4 hown4 hgrow4 hat4).1)) | fail)
          obtain ⟨-, q1, q2, hL⟩ := HRest.out w4 _ g4 cp4 hown4 hgrow4 hat4
          have HL := hid hL
          clear hL hown4 hgrow4 hat4 hlt4 f1' c1' HRest HO1 d1
          generalize w4.setCell ⟨nd, 1, none⟩ (.slice (some ⟨g4, 0, none⟩) (m + 1 + 1) cp4) = W5 at *
          go_wp2_with fail
          go_roundw
          case rel => exact ⟨j + 1, W2.heap.size, by omega, by go_num, rfl, HL⟩
          case measure => simp [intOf]; omega
    · obtain rfl : j = n := by omega
      have i1 : ¬ ((j : Int) < (j : Int)) := by omega
      have HF := hid (HD.out wr nd HT.out)
      clear HC HD HR HH HT HS
      go_wp2_with fail
      go_end0
      exact ⟨⟨_, rfl⟩, HF.out⟩

end Go.Proofs.Ytpdloenmplafiaa
