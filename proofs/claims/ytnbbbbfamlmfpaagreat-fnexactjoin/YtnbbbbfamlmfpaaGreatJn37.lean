import Derived.Test.YtnbbbbfamlmfpaaGreatJn21
import Derived.Test.YtnbbbbfamlmfpaaGreatJn24
import Derived.Test.YtnbbbbfamlmfpaaGreatJn34
import Derived.Test.YtnbbbbfamlmfpaaGreatJn35
import Derived.Test.YtnbbbbfamlmfpaaGreatJn36
/-
  impl: rootOf: the tables' tries.
-/
namespace Go.Proofs.YtnbbbbfamlmfpaaGreat
open Go.RowKit Meet

/-- a table's trie, or none -/
def TrO (B : Nat) (W : World) (rows : List (List Int)) (c : Option Addr) : Prop := rows = [] ∧ c = none ∨ rows ≠ [] ∧ ∃ D N f g0 g1, c = some ⟨f [], 0, none⟩ ∧ TM rows D N ∧ TR W B D N N f g0 g1 ∧ ∀ p, D p → (N p).length ≤ rows.length
theorem TR.move {W W' : World} {B : Nat} {D : List Int → Prop} {N0 N1 : List Int → List Int} {f : List Int → Nat} {g0 g1 : List Int → Value} (h : TR W B D N0 N1 f g0 g1) (hk : ∀ k, B ≤ k → k < W.heap.size → W'.heap[k]? = W.heap[k]?) : TR W' B D N0 N1 f g0 g1 :=
  ⟨fun p hp => (hk _ (h.low p hp) (h.lt hp)).trans (h.blk p hp), h.low, fun p hp => own_move (h.o0 p hp) fun g hg => hk g ((h.o0 p hp).lt g hg).1 ((h.o0 p hp).lt g hg).2, fun p hp => own_move (h.o1 p hp) fun g hg => hk g ((h.o1 p hp).lt g hg).1 ((h.o1 p hp).lt g hg).2, h.inj, h.a0, h.a1⟩
/-- the trie stands whatever becomes of the list's own block and of the root's box -/
def ElT (B bx : Nat) (v : Value) (W : World) (rows : List (List Int)) (c : Option Addr) : Prop := ∀ W', (∀ k, k < W.heap.size → v.ownBlock ≠ some k → k ≠ bx → W'.heap[k]? = W.heap[k]?) → TrO B W' rows c
/-- the root's tries in the making -/
structure RtS (W : World) (B bx : Nat) (v : Value) (rl : List (List (List Int))) (cs : List (Option Addr)) : Prop where
  own : W.ownsRow B 72 1 v rl.length (cs.map Value.pointer)
  len : cs.length = rl.length
  el : ∀ t, t < rl.length → ElT B bx v W (rl.getD t []) (cs.getD t none)
theorem RtS.below {W W' : World} {B bx : Nat} {v : Value} {rl : List (List (List Int))} {cs : List (Option Addr)} (h : RtS W B bx v rl cs) (hb : Below W.heap.size W W') : RtS W' B bx v rl cs :=
  ⟨own_below h.own hb, h.len, fun t ht X hX => h.el t ht X fun k hk h1 h2 => by rw [hX k (Nat.lt_of_lt_of_le hk hb.size) h1 h2]; exact hb.block k hk⟩
theorem RtS.push {wr W w3 : World} {B bx g c : Nat} {v y : Value} {rl : List (List (List Int))} {cs : List (Option Addr)} {rows : List (List Int)} {ca : Option Addr} {o : Obj} (h : RtS wr B bx v rl cs) (hB : B ≤ wr.heap.size) (hbx : bx < wr.heap.size) (hb : Below wr.heap.size wr W) (he : TrO wr.heap.size W rows ca) (hg : (W.alloc o).grownBy w3 v.ownBlock)
    (hown : w3.ownsRow B 72 1 (.slice (some ⟨g, 0, none⟩) (rl.length + 1) c) (rl.length + 1) (cs.map Value.pointer ++ [.pointer ca])) (hat : v.ownBlock = some g ∨ g = (W.alloc o).heap.size) (hgb : g ≠ bx) :
    RtS (w3.setCell ⟨bx, 1, none⟩ y) B bx (.slice (some ⟨g, 0, none⟩) (rl.length + 1) c) (rl ++ [rows]) (cs ++ [ca]) := by
  have hs := hb.size
  have hs3 := hg.size
  rw [World.size_alloc] at hs3 hat
  have hsz : (w3.setCell ⟨bx, 1, none⟩ y).heap.size = w3.heap.size := by simp [World.setCell]
  refine ⟨?_, by simp [h.len], fun t ht W' hW' => ?_⟩
  · rw [List.length_append, List.length_singleton, List.map_append]
    refine own_move hown fun k hk => Below.heap_setCell _ _ _ _ fun e => ?_
    have : k = g := by simpa [Value.ownBlock] using hk.symm
    exact hgb (this.symm.trans e)
  have key : ∀ k, k < W.heap.size → v.ownBlock ≠ some k → g ≠ k → k ≠ bx → W'.heap[k]? = W.heap[k]? := fun k hk h1 h2 h3 => by
    rw [hW' k (by rw [hsz]; omega) (fun e => h2 (by simpa [Value.ownBlock] using e)) h3, Below.heap_setCell _ _ _ _ (by exact h3), hg.block k (by rw [World.size_alloc]; omega) (fun e => h1 e.symm)]
    exact Below.heap_alloc _ _ _ hk
  have hvl : ∀ k, v.ownBlock = some k → k < wr.heap.size := fun k hk => (h.own.lt k hk).2
  rw [List.length_append, List.length_singleton] at ht
  by_cases e : t < rl.length
  · have e1 : (rl ++ [rows]).getD t [] = rl.getD t [] := by rw [List.getD_eq_getElem?_getD, List.getElem?_append_left e, ← List.getD_eq_getElem?_getD]
    have e2 : (cs ++ [ca]).getD t none = cs.getD t none := by rw [List.getD_eq_getElem?_getD, List.getElem?_append_left (by rw [h.len]; exact e), ← List.getD_eq_getElem?_getD]
    rw [e1, e2]
    refine h.el t e W' fun k hk h1 h3 => ?_
    rw [key k (by omega) h1 (fun e => ?_) h3]
    · exact hb.block k hk
    · subst e
      rcases hat with h2 | h2
      · exact h1 h2
      · omega
  · have ht' : t = rl.length := by omega
    subst ht'
    have e1 : (rl ++ [rows]).getD rl.length [] = rows := by rw [List.getD_eq_getElem?_getD, List.getElem?_append_right (Nat.le_refl _), Nat.sub_self]; rfl
    have e2 : (cs ++ [ca]).getD rl.length none = ca := by rw [List.getD_eq_getElem?_getD, List.getElem?_append_right (by rw [h.len]; exact Nat.le_refl _), h.len, Nat.sub_self]; rfl
    rw [e1, e2]
    rcases he with ⟨h1, h2⟩ | ⟨h1, D, N, f, g0, g1, h2, h3, h4, h5⟩
    · exact Or.inl ⟨h1, h2⟩
    · refine Or.inr ⟨h1, D, N, f, g0, g1, h2, h3, (h4.move fun k hk1 hk2 => key k hk2 (fun e => ?_) (fun e => ?_) (by omega)).base hB, h5⟩
      · have := hvl k e; omega
      · subst e
        rcases hat with h6 | h6
        · have := hvl _ h6; omega
        · omega
/-- where a table has the order's variables -/
def plO (vs : List Int) (o : List Int) : List Int := (o.filter fun v => decide (v ∈ vs)).map fun v => (bsQ vs v : Int)
theorem plO_snoc (vs o : List Int) (v : Int) : plO vs (o ++ [v]) = plO vs o ++ (if v ∈ vs then [(bsQ vs v : Int)] else []) := by
  unfold plO
  rw [List.filter_append, List.map_append]
  congr 1
  by_cases h : v ∈ vs
  · rw [if_pos h]; simp [h]
  · rw [if_neg h]; simp [h]
theorem bsF_mem {vs : List Int} (ha : vs.Pairwise (· < ·)) (v : Int) : bsF vs v = decide (v ∈ vs) := by
  unfold bsF
  by_cases h : v ∈ vs
  · obtain ⟨h1, h2⟩ := bs_hit (asc_of ha) h
    rw [decide_eq_true h, decide_eq_true h1, decide_eq_true h2]
    rfl
  · rw [decide_eq_false h]
    by_cases h1 : bsQ vs v < vs.length
    · rw [decide_eq_true h1, decide_eq_false (bs_miss h h1)]; rfl
    · rw [decide_eq_false h1]; rfl
theorem plO_in {vs o : List Int} (ha : vs.Pairwise (· < ·)) : ∀ q ∈ plO vs o, 0 ≤ q ∧ q < vs.length := fun q hq => by
  obtain ⟨v, hv, rfl⟩ := List.mem_map.1 hq
  have := (bs_hit (asc_of ha) (of_decide_eq_true (List.mem_filter.1 hv).2)).1
  omega
theorem plO_rows {vs o : List Int} (ha : vs.Pairwise (· < ·)) (rows : List (List Int)) : prjL rows (plO vs o) = rows.map (prjR vs (shr o vs)) := by
  unfold prjL
  refine List.map_congr_left fun r _ => ?_
  unfold atP plO prjR shr
  rw [List.map_map]
  refine List.map_congr_left fun v hv => ?_
  obtain ⟨h1, h2⟩ := bs_hit (asc_of ha) (of_decide_eq_true (List.mem_filter.1 hv).2)
  show r.getD ((bsQ vs v : Int)).toNat 0 = vlF vs r v
  rw [show ((bsQ vs v : Int)).toNat = bsQ vs v by omega]
  have := vlF_at vs r (bsQ vs v) ha h1
  rw [h2] at this
  exact this.symm

end Go.Proofs.YtnbbbbfamlmfpaaGreat
