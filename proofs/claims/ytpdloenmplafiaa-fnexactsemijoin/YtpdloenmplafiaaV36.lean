import Derived.Test.YtpdloenmplafiaaV11
import Derived.Test.YtpdloenmplafiaaV21
import Derived.Test.YtpdloenmplafiaaV35
/-
  A trie in memory: its nodes by their prefixes.
-/
namespace Go.Proofs.Ytpdloenmplafiaa
open Go.RowKit

structure TR (W : World) (B : Nat) (D : List Int → Prop) (N0 N1 : List Int → List Int) (f : List Int → Nat) (g0 g1 : List Int → Value) : Prop where
  blk : ∀ p, D p → W.heap[f p]? = some (.cells #[g0 p, g1 p] 157 (0, 0))
  low : ∀ p, D p → B ≤ f p
  o0 : ∀ p, D p → W.ownsRow B 3 1 (g0 p) (N0 p).length ((N0 p).map (Value.int .i64))
  o1 : ∀ p, D p → W.ownsRow B 112 1 (g1 p) (N1 p).length ((N1 p).map fun x => .pointer (some ⟨f (p ++ [x]), 0, none⟩))
  inj : ∀ p q, D p → D q → f p = f q → p = q
  a0 : ∀ p q, D p → D q → p ≠ q → ∀ g, (g0 p).ownBlock = some g → (g0 q).ownBlock ≠ some g
  a1 : ∀ p q, D p → D q → p ≠ q → ∀ g, (g1 p).ownBlock = some g → (g1 q).ownBlock ≠ some g

section
variable {W W' w1 : World} {B : Nat} {D : List Int → Prop} {N0 N1 : List Int → List Int} {f : List Int → Nat} {g0 g1 : List Int → Value} {p0 : List Int} {x : Int} {v' : Value} {o : Obj}
theorem TR.lt (h : TR W B D N0 N1 f g0 g1) {p : List Int} (hp : D p) : f p < W.heap.size := by
  rcases Nat.lt_or_ge (f p) W.heap.size with h1 | h1
  · exact h1
  · have := h.blk p hp; rw [Array.getElem?_eq_none h1] at this; cases this
theorem TR.typ (h : TR W B D N0 N1 f g0 g1) {p : List Int} (hp : D p) : ∃ cur, W.heap[f p]? = some (.cells cur 157 (0, 0)) := ⟨_, h.blk p hp⟩
theorem TR.below (h : TR W B D N0 N1 f g0 g1) (hb : Below W.heap.size W W') : TR W' B D N0 N1 f g0 g1 :=
  ⟨fun p hp => (hb.block _ (h.lt hp)).trans (h.blk p hp), h.low, fun p hp => own_below (h.o0 p hp) hb, fun p hp => own_below (h.o1 p hp) hb, h.inj, h.a0, h.a1⟩
theorem TR.c0 (h : TR W B D N0 N1 f g0 g1) {p : List Int} (hp : D p) : W.cell? ⟨f p, 0, none⟩ = some (g0 p) := by rw [cell_of_row _ _ _ _ _ _ (h.blk p hp)]; rfl
theorem TR.c1 (h : TR W B D N0 N1 f g0 g1) {p : List Int} (hp : D p) : W.cell? ⟨f p, 1, none⟩ = some (g1 p) := by rw [cell_of_row _ _ _ _ _ _ (h.blk p hp)]; rfl
theorem TR.free (h : TR W B D N0 N1 f g0 g1) {p : List Int} (hp : D p) (j : Nat) : W.frozen? ⟨f p, j, none⟩ = false := by unfold World.frozen?; rw [h.blk p hp]; simp

/-- the blocks that an append to a node's values leaves alone -/
theorem TR.kept0 (h : TR W B D N0 N1 f g0 g1) (hp0 : D p0) (hg : (W.alloc o).grownBy w1 (g0 p0).ownBlock) {p : List Int} (hp : D p) : w1.heap[f p]? = some (.cells #[g0 p, g1 p] 157 (0, 0)) :=
  (kept_of hg (h.lt hp) (own_ne (h.o0 p0 hp0) (h.typ hp) (by decide))).trans (h.blk p hp)
theorem kept1 {o' : Obj} (hg : ((W.alloc o').alloc o).grownBy w1 (g1 p0).ownBlock) {b : Nat} (hb : b < W.heap.size) (hne : some b ≠ (g1 p0).ownBlock) : w1.heap[b]? = W.heap[b]? :=
  (kept_of hg (by simp; omega) hne).trans (Below.heap_alloc _ _ _ hb)

def updV (g : List Int → Value) (p : List Int) (v : Value) : List Int → Value := fun q => if q = p then v else g q

theorem TR.vals (h : TR W B D N0 N1 f g0 g1) (hp0 : D p0) (hown : w1.ownsRow B 3 1 v' ((N0 p0).length + 1) ((N0 p0).map (Value.int .i64) ++ [.int .i64 x])) (hg : (W.alloc o).grownBy w1 (g0 p0).ownBlock) (hat : ∀ g, v'.ownBlock = some g → (g0 p0).ownBlock = some g ∨ W.heap.size ≤ g) :
    TR (w1.setCell ⟨f p0, 0, none⟩ v') B D (fun q => if q = p0 then N0 p0 ++ [x] else N0 q) N1 f (updV g0 p0 v') g1 := by
  have far : ∀ b, b ≠ f p0 → (w1.setCell ⟨f p0, 0, none⟩ v').heap[b]? = w1.heap[b]? := fun b hb => Below.heap_setCell _ _ _ _ (by exact hb)
  have hk := fun p hp => h.kept0 (p := p) hp0 hg hp
  refine ⟨fun p hp => ?_, h.low, fun p hp => ?_, fun p hp => ?_, h.inj, fun p q hp hq hne g => ?_, h.a1⟩
  · by_cases e : p = p0
    · subst e
      rw [heap_setCell_same _ _ _ _ _ _ (hk p hp)]
      simp [updV]
    · rw [far _ (fun e2 => e (h.inj p p0 hp hp0 e2)), hk p hp]
      simp [updV, e]
  · by_cases e : p = p0
    · subst e
      simp only [updV, if_true, List.length_append, List.length_singleton, List.map_append, List.map_cons, List.map_nil]
      exact own_move hown fun g hg' => far g (fun e2 => own_ne hown ⟨_, hk p hp⟩ (by decide) (by rw [← e2]; exact hg'.symm))
    · simp only [updV, if_neg e]
      exact own_move (h.o0 p hp) fun g hg' => (far g (fun e2 => own_ne (h.o0 p hp) (h.typ hp0) (by decide) (by rw [← e2]; exact hg'.symm))).trans (kept_of hg ((h.o0 p hp).lt g hg').2 (fun e2 => h.a0 p p0 hp hp0 e g hg' e2.symm))
  · exact own_move (h.o1 p hp) fun g hg' => (far g (fun e2 => own_ne (h.o1 p hp) (h.typ hp0) (by decide) (by rw [← e2]; exact hg'.symm))).trans (kept_of hg ((h.o1 p hp).lt g hg').2 (own_ne (h.o0 p0 hp0) (own_typ (h.o1 p hp) hg') (by decide)))
  · unfold updV
    by_cases e : p = p0
    · subst e
      rw [if_pos rfl, if_neg (fun e2 => hne e2.symm)]
      intro h1 h2
      rcases hat g h1 with h3 | h3
      · exact h.a0 p q hp hq hne g h3 h2
      · have := ((h.o0 q hq).lt g h2).2; omega
    · rw [if_neg e]
      by_cases e2 : q = p0
      · subst e2
        rw [if_pos rfl]
        intro h1 h2
        rcases hat g h2 with h3 | h3
        · exact h.a0 p q hp hq hne g h1 h3
        · have := ((h.o0 p hp).lt g h1).2; omega
      · rw [if_neg e2]
        exact h.a0 p q hp hq hne g

theorem TR.belw (h : TR W B D N0 N1 f g0 g1) (hp0 : D p0) (hno : ¬ D (p0 ++ [x])) (hx : x ∉ N1 p0) (hB : B ≤ W.heap.size) {N0' : List Int → List Int} (hN : ∀ q, D q → N0' q = N0 q) (hN2 : N0' (p0 ++ [x]) = [])
    (hown : w1.ownsRow B 112 1 v' ((N1 p0).length + 1) (((N1 p0).map fun x => .pointer (some ⟨f (p0 ++ [x]), 0, none⟩)) ++ [.pointer (some ⟨W.heap.size, 0, none⟩)]))
    (hg : ((W.alloc (.cells #[.slice none 0 0, .slice none 0 0] 157)).alloc o).grownBy w1 (g1 p0).ownBlock) (hat : ∀ g, v'.ownBlock = some g → (g1 p0).ownBlock = some g ∨ W.heap.size ≤ g) :
    TR (w1.setCell ⟨f p0, 1, none⟩ v') B (addD D (p0 ++ [x])) N0' (addN N1 p0 x) (fun q => if q = p0 ++ [x] then W.heap.size else f q) (updV g0 (p0 ++ [x]) (.slice none 0 0)) (updV (updV g1 p0 v') (p0 ++ [x]) (.slice none 0 0)) := by
  have far : ∀ b, b ≠ f p0 → (w1.setCell ⟨f p0, 1, none⟩ v').heap[b]? = w1.heap[b]? := fun b hb => Below.heap_setCell _ _ _ _ (by exact hb)
  have hlt0 := h.lt hp0
  have hkf : ∀ p, D p → w1.heap[f p]? = some (.cells #[g0 p, g1 p] 157 (0, 0)) := fun p hp => (kept1 hg (h.lt hp) (own_ne (h.o1 p0 hp0) (h.typ hp) (by decide))).trans (h.blk p hp)
  have hnew : w1.heap[W.heap.size]? = some (.cells #[.slice none 0 0, .slice none 0 0] 157 (0, 0)) := by
    rw [kept_of hg (by simp) (fun e => by have := ((h.o1 p0 hp0).lt _ e.symm).2; omega)]
    exact heap_alloc_new _ _
  have hne0 : p0 ≠ p0 ++ [x] := fun e => snoc_ne p0 x e.symm
  have hnd : ∀ p, D p → p ≠ p0 ++ [x] := fun p hp e => hno (e ▸ hp)
  refine ⟨fun p hp => ?_, fun p hp => ?_, fun p hp => ?_, fun p hp => ?_, fun p q hp hq e => ?_, fun p q hp hq hne g => ?_, fun p q hp hq hne g => ?_⟩
  · rcases hp with hp | rfl
    · simp only [updV, if_neg (hnd p hp)]
      by_cases e : p = p0
      · subst e
        rw [heap_setCell_same _ _ _ _ _ _ (hkf p hp)]
        simp
      · rw [far _ (fun e2 => e (h.inj p p0 hp hp0 e2)), hkf p hp, if_neg e]
    · simp only [updV, if_true]
      rw [far _ (by omega), hnew]
  · rcases hp with hp | rfl
    · simp only [if_neg (hnd p hp)]; exact h.low p hp
    · simp only [if_true]; exact hB
  · rcases hp with hp | rfl
    · simp only [updV, if_neg (hnd p hp), hN p hp]
      exact own_move (h.o0 p hp) fun g hg' => (far g (fun e2 => own_ne (h.o0 p hp) (h.typ hp0) (by decide) (by rw [← e2]; exact hg'.symm))).trans (kept1 hg ((h.o0 p hp).lt g hg').2 (own_ne (h.o1 p0 hp0) (own_typ (h.o0 p hp) hg') (by decide)))
    · simp only [updV, if_true, hN2]
      exact World.ownsRow_nil _ _ _ _
  · rcases hp with hp | rfl
    · by_cases e : p = p0
      · subst e
        have em : ((N1 p ++ [x]).map fun y => Value.pointer (some ⟨if p ++ [y] = p ++ [x] then W.heap.size else f (p ++ [y]), 0, none⟩)) = ((N1 p).map fun x => .pointer (some ⟨f (p ++ [x]), 0, none⟩)) ++ [.pointer (some ⟨W.heap.size, 0, none⟩)] := by
          rw [List.map_append]
          congr 1
          · refine List.map_congr_left fun y hy => ?_
            rw [if_neg (fun e => hx (by rw [← (snoc_inj e).2]; exact hy))]
          · simp
        simp only [updV, if_neg hne0, if_true, addN, em, List.length_append, List.length_singleton]
        exact own_move hown fun g hg' => far g (fun e2 => own_ne hown ⟨_, hkf p hp⟩ (by decide) (by rw [← e2]; exact hg'.symm))
      · have em : ((N1 p).map fun y => Value.pointer (some ⟨if p ++ [y] = p0 ++ [x] then W.heap.size else f (p ++ [y]), 0, none⟩)) = ((N1 p).map fun x => .pointer (some ⟨f (p ++ [x]), 0, none⟩)) :=
          List.map_congr_left fun y hy => by rw [if_neg (fun e2 => e (snoc_inj e2).1)]
        simp only [updV, if_neg e, if_neg (hnd p hp), addN, em]
        exact own_move (h.o1 p hp) fun g hg' => (far g (fun e2 => own_ne (h.o1 p hp) (h.typ hp0) (by decide) (by rw [← e2]; exact hg'.symm))).trans (kept1 hg ((h.o1 p hp).lt g hg').2 (fun e2 => h.a1 p p0 hp hp0 e g hg' e2.symm))
    · simp only [updV, if_true, addN, if_neg (snoc_ne p0 x)]
      exact World.ownsRow_nil _ _ _ _
  · have key : ∀ q, D q → f q ≠ W.heap.size := fun q hq e => by have := h.lt hq; omega
    rcases hp with hp | rfl
    · rcases hq with hq | rfl
      · simp only [if_neg (hnd p hp), if_neg (hnd q hq)] at e
        exact h.inj p q hp hq e
      · simp only [if_neg (hnd p hp), if_true] at e
        exact absurd e (key p hp)
    · rcases hq with hq | rfl
      · simp only [if_neg (hnd q hq), if_true] at e
        exact absurd e.symm (key q hq)
      · rfl
  · unfold updV
    rcases hp with hp | rfl
    · rw [if_neg (hnd p hp)]
      rcases hq with hq | rfl
      · rw [if_neg (hnd q hq)]; exact h.a0 p q hp hq hne g
      · rw [if_pos rfl]; intro _ h2; simp [Value.ownBlock] at h2
    · rw [if_pos rfl]; intro h1; simp [Value.ownBlock] at h1
  · unfold updV
    rcases hp with hp | rfl
    · rw [if_neg (hnd p hp)]
      rcases hq with hq | rfl
      · rw [if_neg (hnd q hq)]
        by_cases e : p = p0
        · subst e
          rw [if_pos rfl, if_neg (fun e2 => hne e2.symm)]
          intro h1 h2
          rcases hat g h1 with h3 | h3
          · exact h.a1 p q hp hq hne g h3 h2
          · have := ((h.o1 q hq).lt g h2).2; omega
        · rw [if_neg e]
          by_cases e2 : q = p0
          · subst e2
            rw [if_pos rfl]
            intro h1 h2
            rcases hat g h2 with h3 | h3
            · exact h.a1 p q hp hq hne g h1 h3
            · have := ((h.o1 p hp).lt g h1).2; omega
          · rw [if_neg e2]
            exact h.a1 p q hp hq hne g
      · rw [if_pos rfl]; intro _ h2; simp [Value.ownBlock] at h2
    · rw [if_pos rfl]; intro h1; simp [Value.ownBlock] at h1

theorem TR.same (h : TR W B D N0 N1 f g0 g1) {N0' N1' : List Int → List Int} (e0 : ∀ p, D p → N0' p = N0 p) (e1 : ∀ p, D p → N1' p = N1 p) : TR W B D N0' N1' f g0 g1 :=
  ⟨h.blk, h.low, fun p hp => by rw [e0 p hp]; exact h.o0 p hp, fun p hp => by rw [e1 p hp]; exact h.o1 p hp, h.inj, h.a0, h.a1⟩

/-- an owned row's last cell -/
theorem own_at {W : World} {B n j : Nat} {e : TypeId} {v : Value} {xs : List Value} (h : W.ownsRow B e 1 v n xs) (hj : j < n) : ∃ g cap, v = .slice (some ⟨g, 0, none⟩) n cap ∧ W.cell? ⟨g, j, none⟩ = xs[j]? := by
  have hl := h.1
  rcases h.2 with ⟨-, h2⟩ | ⟨g, cap, cur, rfl, hb', hc, hn, -, -, ht⟩
  · omega
  · refine ⟨g, cap, rfl, ?_⟩
    rw [cell_of_row _ _ _ _ _ _ hc, ← ht, List.getElem?_take_of_lt (by omega), Array.getElem?_toList]
end

end Go.Proofs.Ytpdloenmplafiaa

/-
  A trie's cursors: ended, value, seek, below; under.
-/
namespace Go.Proofs.Ytpdloenmplafiaa
open Go.RowKit Meet

structure Cq (w : World) (c o tb fb cap : Nat) (v1 : Value) (l : List Int) (p : Nat) : Prop where
  ptr : w.cell? ⟨c, o, none⟩ = some (.pointer (some ⟨tb, 0, none⟩))
  pl : w.cell? ⟨c, o + 1, none⟩ = some (.int .i64 p)
  fz : w.frozen? ⟨c, o + 1, none⟩ = false
  val : w.cell? ⟨tb, 0, none⟩ = some (.slice (some ⟨fb, 0, none⟩) l.length cap)
  bel : w.cell? ⟨tb, 1, none⟩ = some v1
  own : ∀ j, j < l.length → w.cell? ⟨fb, j, none⟩ = some (.int .i64 (l.getD j 0))

theorem Cq.drewN {w : World} {c o tb fb cap p : Nat} {v1 : Value} {l : List Int} (h : Cq w c o tb fb cap v1 l p) (d : Nat) : Cq (w.drewN d) c o tb fb cap v1 l p := ⟨h.ptr, h.pl, h.fz, h.val, h.bel, h.own⟩

set_option maxHeartbeats 2000000 in
theorem endedq_calls (w : World) (c o tb fb cap : Nat) (v1 : Value) (l : List Int) (p : Nat) (h : Cq w c o tb fb cap v1 l p) :
    Calls Try.prog 157 #[.pointer (some ⟨c, o, none⟩)] w fun e w' => e = .returned (.bool (decide (p = l.length))) ∧ ∃ d, w' = w.drewN d := by
  have h1 := h.ptr
  have h2 := h.pl
  have h3 := h.val
  rw [← dec_len]
  generalize l.length = n at *
  clear h
  go_enter Try.func157, Try.ntmps157
  go_wp2_with fail
  go_quiet (fail)
  go_wp2
  go_ret
  exact ⟨ret_bool (by first | rfl | simp), _, rfl⟩

set_option maxHeartbeats 2000000 in
theorem valueq_calls (w : World) (c o tb fb cap : Nat) (v1 : Value) (l : List Int) (p : Nat) (h : Cq w c o tb fb cap v1 l p) (hp : p < l.length) :
    Calls Try.prog 158 #[.pointer (some ⟨c, o, none⟩)] w fun e w' => e = .returned (.int .i64 (l.getD p 0)) ∧ ∃ d, w' = w.drewN d := by
  have h1 := h.ptr
  have h2 := h.pl
  have h3 := h.val
  have h4 := h.own p hp
  have i1 : (p : Int) < (l.length : Int) := by omega
  generalize l.getD p 0 = x at *
  generalize l.length = n at *
  clear h
  go_enter Try.func158, Try.ntmps158
  go_wp2_with fail
  go_quiet (fail)
  go_wp2
  go_ret
  exact ⟨rfl, _, rfl⟩

set_option maxHeartbeats 2000000 in
theorem belowq_calls (w : World) (c o tb fb cap gb n cb : Nat) (l : List Int) (p : Nat) (y : Value) (h : Cq w c o tb fb cap (.slice (some ⟨gb, 0, none⟩) n cb) l p) (hp : p < n) (hy : w.cell? ⟨gb, p, none⟩ = some y) :
    Calls Try.prog 159 #[.pointer (some ⟨c, o, none⟩)] w fun e w' => e = .returned y ∧ ∃ d, w' = w.drewN d := by
  have h1 := h.ptr
  have h2 := h.pl
  have h3 := h.bel
  have i1 : (p : Int) < (n : Int) := by omega
  clear h
  go_enter Try.func159, Try.ntmps159
  go_wp2_with fail
  go_quiet (fail)
  go_wp2
  go_ret
  exact ⟨rfl, _, rfl⟩

theorem Cq.is_from {w : World} {c o tb fb k p : Nat} {v1 : Value} {l : List Int} (h : Cq w c o tb fb k v1 l p) (hp : p < l.length) (cap : Nat) : IS w (.slice (some ⟨fb, p, none⟩) (l.length - p) cap) (l.drop p) := by
  refine ⟨_, cap, by rw [List.length_drop], Or.inr ⟨fb, p, rfl, fun j hj => ?_⟩⟩
  rw [List.length_drop] at hj
  rw [h.own (p + j) (by omega), List.getD_eq_getElem?_getD, List.getD_eq_getElem?_getD, List.getElem?_drop]

set_option maxHeartbeats 2000000 in
set_option maxRecDepth 1000000 in
theorem seekq_calls (w : World) (c o tb fb cap : Nat) (v1 : Value) (l : List Int) (p : Nat) (g : Int) (h : Cq w c o tb fb cap v1 l p) (hl : l.length ≤ 1099511627776) (hcl : l.length ≤ cap) (hpl : p < l.length) (ha : Asc l) :
    Calls Try.prog 156 #[.pointer (some ⟨c, o, none⟩), .int .i64 g] w fun e w' => (∃ v, e = .returned v) ∧ ∃ d, w' = (w.drewN d).setCell ⟨c, o + 1, none⟩ (.int .i64 (p + bsQ (l.drop p) g : Nat)) := by
  have h1 := h.ptr
  have h2 := h.pl
  have h3 := h.val
  have h4 := h.fz
  have hq := (bsQ_spec (up_drop ha p) g).1
  rw [List.length_drop] at hq
  have HK : Hid (∀ q cap, Calls Try.prog 175 #[.slice (some ⟨fb, p, none⟩) (l.length - p) cap, .int .i64 g] (w.drewN q) fun e w' => e = .returned (.tuple #[.int .i64 (bsQ (l.drop p) g), .bool (bsF (l.drop p) g)]) ∧ ∃ d, w' = (w.drewN q).drewN d) := hid (fun q cap =>
    bsearch_calls (w.drewN q) _ (l.drop p) g ((h.drewN q).is_from hpl cap) (by rw [List.length_drop]; omega) (up_drop ha p))
  have i1 : (p : Int) ≤ (l.length : Int) := by omega
  generalize bsQ (l.drop p) g = k at *
  generalize bsF (l.drop p) g = kf at *
  generalize l.length = n at *
  clear h ha
  go_enter Try.func156, Try.ntmps156
  go_wp2_with fail
  go_quiet ((go_at_call 175; exact Calls.quiet_of (HK.out _ _)))
  go_wp2
  go_end0
  exact ⟨⟨_, rfl⟩, _, by rw [Int.natCast_add]⟩

theorem asc_of {l : List Int} (h : l.Pairwise (· < ·)) : Asc l := fun i j hij hj => by
  have := List.pairwise_iff_getElem.1 h i j (by omega) hj hij
  rw [List.getD_eq_getElem?_getD, List.getD_eq_getElem?_getD, List.getElem?_eq_getElem (by omega), List.getElem?_eq_getElem hj]
  exact this

theorem bs_hit {l : List Int} (ha : Asc l) {x : Int} (hx : x ∈ l) : bsQ l x < l.length ∧ l.getD (bsQ l x) 0 = x := by
  obtain ⟨h1, h2, h3⟩ := bsQ_spec (up_of_asc ha) x
  obtain ⟨j, hj, e⟩ := List.getElem_of_mem hx
  have ej : l.getD j 0 = x := by rw [List.getD_eq_getElem?_getD, List.getElem?_eq_getElem hj, e]; rfl
  have hq : bsQ l x ≤ j := by
    rcases Nat.lt_or_ge j (bsQ l x) with h | h
    · have := h2 j h; omega
    · exact h
  refine ⟨by omega, ?_⟩
  have h4 := h3 (bsQ l x) (Nat.le_refl _) (by omega)
  have h5 := up_of_asc ha (bsQ l x) j hq hj
  omega
theorem bs_miss {l : List Int} {x : Int} (hx : x ∉ l) (h : bsQ l x < l.length) : l.getD (bsQ l x) 0 ≠ x := fun e => hx (by
  rw [← e, List.getD_eq_getElem?_getD, List.getElem?_eq_getElem h]; exact List.getElem_mem _)

end Go.Proofs.Ytpdloenmplafiaa
