import Derived.RangeFuncBound
import Derived.RangeFuncCalls
import Derived.RangeFuncLeaves
import Derived.RangeFuncNested
import Derived.Test.YtoodbpijgnbfjaaGreatFq05
import Derived.Test.YtoodbpijgnbfjaaGreatFq07
namespace Go.Proofs.YtoodbpijgnbfjaaGreat
open Go.RowKit

structure KT (B : Nat) (W W' : World) : Prop where
  bel : Below B W W'
  cel : ∀ (k : Nat) (cur : Array Value) (ty : TypeId) (z : Nat × Nat), W.heap[k]? = some (Obj.cells cur ty z) → ty ≠ 153 → ty ≠ 4 → W'.heap[k]? = W.heap[k]?
theorem KT.refl (B : Nat) (W : World) : KT B W W := ⟨Below.refl _ _, fun _ _ _ _ _ _ _ => rfl⟩
theorem KT.trans {B : Nat} {X Y Z : World} (h : KT B X Y) (k : KT B Y Z) : KT B X Z :=
  ⟨h.bel.trans k.bel, fun i cur ty z hi h1 h2 => (k.cel i cur ty z ((h.cel i cur ty z hi h1 h2).trans hi) h1 h2).trans (h.cel i cur ty z hi h1 h2)⟩
theorem KT.mono {B B' : Nat} {X Y : World} (h : KT B X Y) (hB : B' ≤ B) : KT B' X Y := ⟨h.bel.mono hB, h.cel⟩
theorem lt_some {W : World} {k : Nat} {o : Obj} (h : W.heap[k]? = some o) : k < W.heap.size := (Array.getElem?_eq_some_iff.1 h).1
theorem KT.of_below {B : Nat} {X Y : World} (h : Below X.heap.size X Y) (hB : B ≤ X.heap.size) : KT B X Y := ⟨h.mono hB, fun k _ _ _ hk _ _ => h.block k (lt_some hk)⟩
theorem KT.put {B l : Nat} {X : World} {o : Obj} (o' : Obj) (hl : B ≤ l) (h : X.heap[l]? = some o) (hc : o.isCells = false) : KT B X (X.putObj l o') := by
  refine ⟨⟨rfl, rfl, rfl, by simp, fun k hk => World.putObj_heap_other (by omega)⟩, fun k cur ty z hk _ _ => World.putObj_heap_other fun e => ?_⟩
  subst e
  rw [h] at hk
  cases hk
  cases hc
theorem KT.set {B b o : Nat} {X : World} {cur : Array Value} {ty : TypeId} {z : Nat × Nat} (v : Value) (hb : B ≤ b) (h : X.heap[b]? = some (Obj.cells cur ty z)) (ht : ty = 153 ∨ ty = 4) : KT B X (X.setCell ⟨b, o, none⟩ v) := by
  refine ⟨(Below.refl _ _).setCell hb _, fun k cur' ty' z' hk h1 h2 => Below.heap_setCell _ _ _ _ fun e => ?_⟩
  have e' : k = b := e
  subst e'
  rw [h] at hk
  cases hk
  rcases ht with rfl | rfl
  · exact h1 rfl
  · exact h2 rfl

def Gives {α β : Type} (P : Program) (gf : Nat) (lb : Array Value) (encs : β → Array Value) (Kp Kx : Nat → World → World → Prop) (Pre : List α → α → β → World → World → Prop) (xs : List α) (w : World) : Prop :=
  ∀ (l : Nat) (J : List α → World → Prop) (Jx : World → Prop) (W : World), Below w.heap.size w W → l < W.heap.size → w.heap.size ≤ l →
    (∀ s X Y, J s X → KT W.heap.size X Y → J s Y) → (∀ X Y, Jx X → KT W.heap.size X Y → Jx Y) →
    (∀ pre x b X Y, J pre X → KT W.heap.size X Y → Pre pre x b X Y → YieldAt Fence.wide 0 P l (encs b) Y fun e Z => (e = .returned (.bool true) ∧ J (pre ++ [x]) Z ∧ Kp l Y Z) ∨ (e = .returned (.bool false) ∧ Jx Z ∧ Kx l Y Z)) →
    J [] W → Calls P gf (#[.func (.yield l) #[] #[]] ++ lb) W fun e W' => (∃ v, e = .returned v) ∧ (J xs W' ∨ Jx W')

def rgPost {α : Type} (B : Nat) (Kp Kx : World → World → Prop) (I : List α → World → Prop) (Ix : Code → World → Prop) (ys : List α) (W : World) : Exit → Act → World → Prop
  | .normal, _, W' => KeepsFrom B W W' ∧ Kp W W' ∧ I ys W'
  | .ret, _, W' => KeepsFrom B W W' ∧ Kx W W' ∧ Ix .ret W'
  | .exit id, _, W' => KeepsFrom B W W' ∧ Kx W W' ∧ Ix (.exit id) W'
  | _, _, _ => False

theorem noDepth (k : Nat) : Fence.wide.depth.isSome = true → 1 ≤ k := fun h => by cases h

theorem range_law {α β : Type} {P : Program} {g : Operand} {ps : Array Tmp} {assign body : Code} {Q : Exit → Act → World → Prop} {a : Act} {w : World} {gf : Nat} {lb : Array Value}
    (hg : a.eval g = .func (.func gf) #[] lb) (eg : ∀ args W, (callFunc gf args).run P W = .ok (.enter gf args) W)
    {encs : β → Array Value} {Kp Kx : Nat → World → World → Prop} {Pre : List α → α → β → World → World → Prop} {xs : List α} (hseq : Gives P gf lb encs Kp Kx Pre xs w) (hps : ∀ b, (encs b).size = ps.size)
    (hKt : ∀ {l : Nat} {X Y Z : World}, Kp l X Y → Kp l Y Z → Kp l X Z) (hKb : ∀ (l : Nat) (W : World) (o o' : Obj), w.heap.size ≤ l → W.heap[l]? = some o → o.isCells = false → Kp l W (W.putObj l o'))
    (hKx : ∀ {l : Nat} {X Y Z V : World}, Kp l X Y → Kx l Y Z → Kp l Z V → Kx l X V)
    (I : List α → World → Prop) (Ix : Code → World → Prop) (hI : ∀ s X Y, I s X → KT w.heap.size X Y → I s Y) (hIx : ∀ c X Y, Ix c X → KT w.heap.size X Y → Ix c Y) (h0 : I [] w)
    (Ax : Nat → List α → α → β → Act → World → Prop) (hAx : ∀ l pre x b a' W o o', Ax l pre x b a' W → w.heap.size ≤ l → W.heap[l]? = some o → o.isCells = false → Ax l pre x b a' (W.putObj l o'))
    (hassign : ∀ (l : Nat) (pre : List α) (x : α) (b : β) (X Y : World) (K : Act → World → Prop), w.heap.size ≤ l → I pre X → KT w.heap.size X Y → Pre pre x b X Y → (∃ r, Y.heap[l]? = some (.loop r)) →
      (∀ a' W', KeepsFrom w.heap.size Y W' → Kp l Y W' → Ax l pre x b a' W' → K a' W') →
      assign.wpIn (Fence.wide.inRound l) 0 P (Exit.then K (fun _ _ _ => False)) { tmps := (ps.zip (encs b)).foldl (fun t (p, v) => t.setIfInBounds p v) a.tmps, defers := [] } Y)
    (hbody : ∀ (l : Nat) (pre : List α) (x : α) (b : β) (a' : Act) (W : World), w.heap.size ≤ l → (∃ r, W.heap[l]? = some (.loop r)) → Ax l pre x b a' W → body.wpIn (Fence.wide.inRound l) 0 P (rgPost w.heap.size (Kp l) (Kx l) I Ix (pre ++ [x]) W) a' W)
    (hdone : ∀ (D : Nat) (W : World), w.heap.size ≤ D → I xs W → W.heap[D]? = some (.deferred (some [])) → Q .normal { a with defers := { target := .collected D, args := #[] } :: a.defers } W)
    (hstop : ∀ (D : Nat) (c : Code) (W : World), w.heap.size ≤ D → Ix c W → W.heap[D]? = some (.deferred (some [])) → c.wpIn Fence.wide 0 P Q { a with defers := { target := .collected D, args := #[] } :: a.defers } W) :
    (Code.rangeFunc g ps assign body).wpIn Fence.wide 0 P Q a w := by
  refine wpIn_rangeFunc fun fn hfn => ?_
  obtain ⟨rec, hrec⟩ : ∃ rec : LoopState → Option Code → Loop, rec = fun st pe => { state := st, pending := pe, fn, tmps := a.tmps, params := ps, assign, body, defers := w.heap.size } := ⟨_, rfl⟩
  obtain ⟨W1, hW1⟩ : ∃ W1, W1 = (w.alloc (.deferred (some []))).alloc (.loop (rec .ready none)) := ⟨_, rfl⟩
  have hsz : W1.heap.size = w.heap.size + 2 := by rw [hW1]; simp
  have hB1 : Below w.heap.size w W1 := by rw [hW1]; exact ((Below.refl _ _).alloc (Nat.le_refl _) _).alloc (by simp) _
  have hL1 : W1.heap[w.heap.size + 1]? = some (.loop (rec .ready none)) := by
    rw [hW1]
    have := World.alloc_heap_new (w.alloc (.deferred (some []))) (.loop (rec .ready none))
    rwa [World.size_alloc] at this
  have hD1 : W1.heap[w.heap.size]? = some (.deferred (some [])) := by
    rw [hW1]; exact (Below.heap_alloc _ _ _ (by simp)).trans (World.alloc_heap_new w _)
  obtain ⟨l, hl⟩ : ∃ l, l = w.heap.size + 1 := ⟨_, rfl⟩
  rw [← hl] at hL1
  have two : ∀ {X Y : World} {r : Loop}, KT W1.heap.size X Y → X.heap[l]? = some (.loop r) → X.heap[w.heap.size]? = some (.deferred (some [])) → Y.heap[l]? = some (.loop r) ∧ Y.heap[w.heap.size]? = some (.deferred (some [])) := fun {X Y r} hk h1 h2 =>
    ⟨(hk.bel.block _ (by omega)).trans h1, (hk.bel.block _ (by omega)).trans h2⟩
  have kmo : ∀ {X Y : World}, KT W1.heap.size X Y → KT w.heap.size X Y := fun h => h.mono (by omega)
  have hcall := hseq l (fun pre W => I pre W ∧ W.heap[l]? = some (.loop (rec .ready none)) ∧ W.heap[w.heap.size]? = some (.deferred (some [])))
    (fun W => ∃ c, Ix c W ∧ W.heap[l]? = some (.loop (rec .done (some c))) ∧ W.heap[w.heap.size]? = some (.deferred (some []))) W1 hB1 (by omega) (by omega)
    (fun s X Y hs hk => ⟨hI s X Y hs.1 (kmo hk), two hk hs.2.1 hs.2.2⟩)
    (fun X Y hs hk => by
      obtain ⟨c, hc, h1, h2⟩ := hs
      exact ⟨c, hIx c X Y hc (kmo hk), two hk h1 h2⟩)
    (fun pre x b X Y hs hk hp => by
      obtain ⟨hi, h1, h2⟩ := hs
      obtain ⟨g1, g2⟩ := two hk h1 h2
      have hy := run_yield (P := P) (args := encs b) g1 (by rw [hrec]; exact hps b)
      rw [hrec] at hy
      refine ⟨fn, _, assign, body, hy, roundIn_of_wpIn hfn (hassign l pre x b X Y _ (by omega) hi (kmo hk) hp ⟨_, g1⟩ ?_)⟩
      clear hy
      intro a' W' hkf hkp hax
      have f1 := hkf.same _ _ (by omega) g1 rfl
      have f2 := hkf.same _ _ (Nat.le_refl _) g2 rfl
      have hlt := lt_some f1
      refine ⟨_, run_beginRound f1 (by rw [hrec]), ?_⟩
      have b1 : (W'.putObj l (.loop { rec .ready none with state := .busy })).heap[l]? = some (.loop { rec .ready none with state := .busy }) := World.putObj_heap_same hlt
      have b2 : (W'.putObj l (.loop { rec .ready none with state := .busy })).heap[w.heap.size]? = some (.deferred (some [])) := (World.putObj_heap_other (by omega)).trans f2
      have hk2 := hKt hkp (hKb l W' _ (.loop { rec .ready none with state := .busy }) (by omega) f1 rfl)
      refine wpIn_mono (hbody l pre x b a' _ (by omega) ⟨_, b1⟩ (hAx l pre x b a' W' _ _ hax (by omega) f1 rfl)) ?_
      have fin : ∀ (jump : Option Code) (W3 : World), KeepsFrom w.heap.size (W'.putObj l (.loop { rec .ready none with state := .busy })) W3 →
          (Instr.endRound l jump).run P W3 = .ok (.bool jump.isNone) (W3.putObj l (.loop (rec (if jump.isNone then .ready else .done) jump))) ∧ W3.heap[l]? = some (.loop { rec .ready none with state := .busy }) ∧
          (W3.putObj l (.loop (rec (if jump.isNone then .ready else .done) jump))).heap[l]? = some (.loop (rec (if jump.isNone then .ready else .done) jump)) ∧
          (W3.putObj l (.loop (rec (if jump.isNone then .ready else .done) jump))).heap[w.heap.size]? = some (.deferred (some [])) := fun jump W3 hk3 => by
        have c1 := hk3.same _ _ (by omega) b1 rfl
        have c2 := hk3.same _ _ (Nat.le_refl _) b2 rfl
        have hr := run_endRound (P := P) jump c1
        rw [hrec] at hr ⊢
        exact ⟨hr, by rw [hrec] at c1; exact c1, World.putObj_heap_same (lt_some c1), (World.putObj_heap_other (by omega)).trans c2⟩
      rintro e a3 W3 hq
      cases e with
      | normal =>
        obtain ⟨q1, q2, q3⟩ := hq
        obtain ⟨hr, c1, c2, c3⟩ := fin none W3 q1
        exact ⟨_, _, hr, Or.inl ⟨rfl, ⟨hI _ _ _ q3 (KT.put _ (by omega) c1 rfl), c2, c3⟩, hKt (hKt hk2 q2) (hKb l _ _ _ (by omega) c1 rfl)⟩⟩
      | ret =>
        obtain ⟨q1, q2, q3⟩ := hq
        obtain ⟨hr, c1, c2, c3⟩ := fin (some .ret) W3 q1
        exact ⟨_, _, hr, Or.inr ⟨rfl, ⟨.ret, hIx _ _ _ q3 (KT.put _ (by omega) c1 rfl), c2, c3⟩, hKx hk2 q2 (hKb l _ _ _ (by omega) c1 rfl)⟩⟩
      | exit id =>
        obtain ⟨q1, q2, q3⟩ := hq
        obtain ⟨hr, c1, c2, c3⟩ := fin (some (.exit id)) W3 q1
        exact ⟨_, _, hr, Or.inr ⟨rfl, ⟨.exit id, hIx _ _ _ q3 (KT.put _ (by omega) c1 rfl), c2, c3⟩, hKx hk2 q2 (hKb l _ _ _ (by omega) c1 rfl)⟩⟩
      | goto t => exact hq.elim
      | panic ch => exact hq.elim
      | outgrown => exact hq.elim)
    ⟨hI [] w W1 h0 (KT.of_below hB1 (Nat.le_refl _)), hL1, hD1⟩
  refine ⟨l, [{ target := .collected w.heap.size, args := #[] }], W1, { target := .fn (.func gf) lb, args := #[.func (.yield l) #[] #[]] }, W1, gf, #[.func (.yield l) #[] #[]] ++ lb, W1, ?_, ?_, ?_, ?_, noDepth _, ?_⟩
  · have := run_enterLoop_outer (P := P) (w := w) fn a.tmps ps assign body
    rw [hl, hW1, hrec]
    exact this
  · simp only [resolve, hg]
    simp [go_sem]
  · intro f' _
    trivial
  · simp [invoke, go_sem, eg]
  · refine callsIn_wide.2 (hcall.mono ?_)
    rintro e W2 ⟨⟨v, rfl⟩, ⟨hi, h1, h2⟩ | ⟨c, hi, h1, h2⟩⟩
    · exact ⟨none, _, by have := run_endLoop (P := P) h1 (by rw [hrec]; simp); rw [hrec] at this; exact this, hdone _ _ (Nat.le_refl _) (hI _ _ _ hi (KT.put _ (by omega) h1 rfl)) ((World.putObj_heap_other (by omega)).trans h2)⟩
    · exact ⟨some c, _, by have := run_endLoop (P := P) h1 (by rw [hrec]; simp); rw [hrec] at this; exact this, hstop _ c _ (Nat.le_refl _) (hIx _ _ _ hi (KT.put _ (by omega) h1 rfl)) ((World.putObj_heap_other (by omega)).trans h2)⟩

end Go.Proofs.YtoodbpijgnbfjaaGreat

namespace Go.Proofs.YtoodbpijgnbfjaaGreat
open Go.RowKit

structure JX where
  h : Nat
  r : Nat
  v : Nat
  n0 : Nat
  nT : Nat
  H : Nat → Nat → Bool
  D : Nat → List Int → Prop
  N : Nat → List Int → List Int
  f : Nat → List Int → Nat
  g0 : Nat → List Int → Value
  g1 : Nat → List Int → Value
  hv : Value
  uh : List Value
  hav : List (List Int)
def RBk (x : JX) (W : World) (k : Nat) : Prop := ∃ o n c, W.cell? ⟨x.r, 0, none⟩ = some (.slice (some ⟨k, o, none⟩) n c)
def Mb (x : JX) (W : World) (k : Nat) : Prop := k = x.h ∨ k = x.r ∨ k = x.v ∨ RBk x W k
def TyR (x : JX) (W : World) : Prop := ∀ k, RBk x W k → ∃ cur z, W.heap[k]? = some (Obj.cells cur 33 z)
structure KpS (x : JX) (S : Nat → Prop) (W W' : World) : Prop where
  os : W'.os = W.os
  tape : W'.tape = W.tape
  output : W'.output = W.output
  size : W.heap.size ≤ W'.heap.size
  same : ∀ (k : Nat) (o : Obj), W.heap[k]? = some o → (o.isCells = true ∨ ¬ S k) → ¬ Mb x W k → W'.heap[k]? = some o
  fresh : ∀ k, RBk x W' k → RBk x W k ∨ W.heap.size ≤ k
  typ : TyR x W → TyR x W'
section
variable {x : JX} {S : Nat → Prop} {X Y Z : World}
theorem RBk.eq (h : Y.heap[x.r]? = X.heap[x.r]?) (k : Nat) : RBk x Y k ↔ RBk x X k := by
  unfold RBk
  have e : Y.cell? ⟨x.r, 0, none⟩ = X.cell? ⟨x.r, 0, none⟩ := World.cell?_of_block (w := X) (a := ⟨x.r, 0, none⟩) h
  rw [e]
theorem KpS.refl (x : JX) (S : Nat → Prop) (X : World) : KpS x S X X := ⟨rfl, rfl, rfl, Nat.le_refl _, fun _ _ h _ _ => h, fun _ h => Or.inl h, fun h => h⟩
theorem KpS.trans (h : KpS x S X Y) (k : KpS x S Y Z) : KpS x S X Z := by
  refine ⟨k.os.trans h.os, k.tape.trans h.tape, k.output.trans h.output, Nat.le_trans h.size k.size, fun i o hi hs hm => ?_, fun i hi => ?_, fun ht => k.typ (h.typ ht)⟩
  · refine k.same i o (h.same i o hi hs hm) hs fun hm2 => ?_
    rcases hm2 with e | e | e | e
    · exact hm (Or.inl e)
    · exact hm (Or.inr (Or.inl e))
    · exact hm (Or.inr (Or.inr (Or.inl e)))
    · rcases h.fresh i e with e | e
      · exact hm (Or.inr (Or.inr (Or.inr e)))
      · have := lt_some hi; omega
  · rcases k.fresh i hi with e | e
    · exact h.fresh i e
    · exact Or.inr (Nat.le_trans h.size e)
theorem KpS.sub {S' : Nat → Prop} (h : KpS x S X Y) (hs : ∀ k, S k → S' k) : KpS x S' X Y :=
  ⟨h.os, h.tape, h.output, h.size, fun k o hk hc hm => h.same k o hk (hc.imp id fun hn h1 => hn (hs k h1)) hm, h.fresh, h.typ⟩
theorem KpS.kt (h : KpS x S X Y) (k : KT X.heap.size Y Z) (hr : x.r < X.heap.size) : KpS x S X Z := by
  have hb := k.bel
  have he : Z.heap[x.r]? = Y.heap[x.r]? := hb.block _ hr
  refine ⟨hb.os.trans h.os, hb.tape.trans h.tape, hb.output.trans h.output, Nat.le_trans h.size hb.size, fun i o hi hs hm => (hb.block i (lt_some hi)).trans (h.same i o hi hs hm), fun i hi => h.fresh i ((RBk.eq he i).1 hi), fun ht i hi => ?_⟩
  obtain ⟨cur, z, hc⟩ := h.typ ht i ((RBk.eq he i).1 hi)
  exact ⟨cur, z, (k.cel i cur _ z hc (by decide) (by decide)).trans hc⟩
theorem KpS.put {l : Nat} {o o' : Obj} (hs : S l) (hl : X.heap[l]? = some o) (hc : o.isCells = false) (hr : x.r ≠ l) : KpS x S X (X.putObj l o') := by
  have he : (X.putObj l o').heap[x.r]? = X.heap[x.r]? := World.putObj_heap_other hr
  refine ⟨rfl, rfl, rfl, by simp, fun k o2 hk hcs _ => (World.putObj_heap_other fun e => ?_).trans hk, fun k hk => Or.inl ((RBk.eq he k).1 hk), fun ht k hk => ?_⟩
  · subst e
    rw [hl] at hk
    cases hk
    rcases hcs with h1 | h1
    · rw [hc] at h1; cases h1
    · exact h1 hs
  · obtain ⟨cur, z, h1⟩ := ht k ((RBk.eq he k).1 hk)
    refine ⟨cur, z, (World.putObj_heap_other fun e => ?_).trans h1⟩
    subst e
    rw [hl] at h1
    cases h1
    cases hc
theorem KpS.nr (h : KpS x S X Y) {k : Nat} (hk : k < X.heap.size) (hn : ¬ RBk x X k) : ¬ RBk x Y k := fun h1 => by
  rcases h.fresh k h1 with h2 | h2
  · exact hn h2
  · omega
theorem nr_new (ht : TyR x X) (he : Y.heap[x.r]? = X.heap[x.r]?) {k : Nat} (hk : X.heap.size ≤ k) : ¬ RBk x Y k := fun h1 => by
  obtain ⟨cur, z, hc⟩ := ht k ((RBk.eq he k).1 h1)
  have := lt_some hc
  omega
end

structure Sb (x : JX) (W W' : World) : Prop where
  size : W.heap.size ≤ W'.heap.size
  same : ∀ (k : Nat) (cur : Array Value) (ty : TypeId) (z : Nat × Nat), x.n0 ≤ k → W.heap[k]? = some (Obj.cells cur ty z) → ty ≠ 153 → ty ≠ 4 → (ty ≠ 33 ∨ ¬ RBk x W k) → W'.heap[k]? = W.heap[k]?
structure JX.Ok (x : JX) : Prop where
  h : x.h < x.n0
  r : x.r < x.n0
  v : x.v < x.n0
section
variable {x : JX} {S : Nat → Prop} {X Y Z : World}
theorem KT.sb (h : KT x.n0 X Y) : Sb x X Y := ⟨h.bel.size, fun k cur ty z _ hk h1 h2 _ => h.cel k cur ty z hk h1 h2⟩
theorem KpS.not (hx : x.Ok) (ht : TyR x X) {k : Nat} {cur : Array Value} {ty : TypeId} {z : Nat × Nat} (hk : x.n0 ≤ k) (hc : X.heap[k]? = some (Obj.cells cur ty z)) (hn : ty ≠ 33 ∨ ¬ RBk x X k) : ¬ Mb x X k := fun hm => by
  have h1 := hx.h
  have h2 := hx.r
  have h3 := hx.v
  rcases hm with e | e | e | e
  · omega
  · omega
  · omega
  · rcases hn with hn | hn
    · obtain ⟨cur', z', h4⟩ := ht k e
      rw [hc] at h4
      cases h4
      exact hn rfl
    · exact hn e
theorem KpS.sb (h : KpS x S X Y) (hx : x.Ok) (ht : TyR x X) : Sb x X Y :=
  ⟨h.size, fun k _ _ _ hk hc _ _ hn => (h.same k _ hc (Or.inl rfl) (KpS.not hx ht hk hc hn)).trans hc.symm⟩
theorem own_sb {B s n : Nat} {e : TypeId} {v : Value} {xs : List Value} (h : X.ownsRow B e s v n xs) (hs : Sb x X Y) (hB : x.n0 ≤ B) (h1 : e ≠ 153) (h2 : e ≠ 4) (h3 : e ≠ 33 ∨ ∀ k, v.ownBlock = some k → ¬ RBk x X k) : Y.ownsRow B e s v n xs :=
  own_move h fun g hg => by
    obtain ⟨cur, hc⟩ := own_typ h hg
    exact hs.same g cur e _ (Nat.le_trans hB (h.lt g hg).1) hc h1 h2 (h3.imp id fun h4 => h4 g hg)
theorem TR.sb {B : Nat} {D : List Int → Prop} {N0 N1 : List Int → List Int} {f : List Int → Nat} {g0 g1 : List Int → Value} (h : TR X B D N0 N1 f g0 g1) (hs : Sb x X Y) (hB : x.n0 ≤ B) : TR Y B D N0 N1 f g0 g1 :=
  ⟨fun p hp => (hs.same _ _ _ _ (Nat.le_trans hB (h.low p hp)) (h.blk p hp) (by decide) (by decide) (Or.inl (by decide))).trans (h.blk p hp), h.low, fun p hp => own_sb (h.o0 p hp) hs hB (by decide) (by decide) (Or.inl (by decide)), fun p hp => own_sb (h.o1 p hp) hs hB (by decide) (by decide) (Or.inl (by decide)), h.inj, h.a0, h.a1⟩
theorem TR.base {B B' : Nat} {D : List Int → Prop} {N0 N1 : List Int → List Int} {f : List Int → Nat} {g0 g1 : List Int → Value} (h : TR X B D N0 N1 f g0 g1) (hB : B' ≤ B) : TR X B' D N0 N1 f g0 g1 :=
  ⟨h.blk, fun p hp => Nat.le_trans hB (h.low p hp), fun p hp => own_base (h.o0 p hp) hB, fun p hp => own_base (h.o1 p hp) hB, h.inj, h.a0, h.a1⟩
end
structure Dat (x : JX) (W : World) : Prop where
  ty : TyR x W
  tr : ∀ t, t < x.nT → TR W x.n0 (x.D t) (x.N t) (x.N t) (x.f t) (x.g0 t) (x.g1 t)
  hq : RQ W x.n0 x.hv x.uh x.hav
  nr : ∀ k, x.hv.ownBlock = some k → ¬ RBk x W k
section
variable {x : JX} {S : Nat → Prop} {X Y Z : World}
theorem Dat.sb (h : Dat x X) (hs : Sb x X Y) (ht : TyR x Y) (hn : ∀ k, k < X.heap.size → ¬ RBk x X k → ¬ RBk x Y k) : Dat x Y := by
  refine ⟨ht, fun t htt => (h.tr t htt).sb hs (Nat.le_refl _), ⟨own_sb h.hq.own hs (Nat.le_refl _) (by decide) (by decide) (Or.inr h.nr), h.hq.len, fun i hi => own_sb (h.hq.each i hi) hs (Nat.le_refl _) (by decide) (by decide) (Or.inl (by decide)), h.hq.ap⟩, fun k hk => hn k (h.hq.own.lt k hk).2 (h.nr k hk)⟩
theorem TyR.kt (h : TyR x X) (hk : KT x.n0 X Y) (hx : x.Ok) : TyR x Y := fun k hr => by
  obtain ⟨cur, z, hc⟩ := h k ((RBk.eq (hk.bel.block _ hx.r) k).1 hr)
  exact ⟨cur, z, (hk.cel k cur _ z hc (by decide) (by decide)).trans hc⟩
theorem Dat.kt (h : Dat x X) (hk : KT x.n0 X Y) (hx : x.Ok) : Dat x Y := h.sb hk.sb (h.ty.kt hk hx) fun k _ hn h1 => hn ((RBk.eq (hk.bel.block _ hx.r) k).1 h1)
theorem Dat.kp (h : Dat x X) (hk : KpS x S X Y) (hx : x.Ok) : Dat x Y := h.sb (hk.sb hx h.ty) (hk.typ h.ty) fun _ hl hn => hk.nr hl hn
end
def JX.bel (x : JX) (p : List Int) : List Value := (List.range x.nT).map fun t => .pointer (some ⟨x.f t (prt (x.H t) p), 0, none⟩)
theorem JX.bel_len (x : JX) (p : List Int) : (x.bel p).length = x.nT := by simp [JX.bel]
structure Brn (x : JX) (B : Nat) (W : World) (vp vb : Value) (p : List Int) : Prop where
  pre : W.ownsRow B 3 1 vp p.length (p.map (Value.int .i64))
  bel : W.ownsRow B 96 1 vb x.nT (x.bel p)
section
variable {x : JX} {S : Nat → Prop} {X Y Z : World}
theorem Brn.sb {B : Nat} {vp vb : Value} {p : List Int} (h : Brn x B X vp vb p) (hs : Sb x X Y) (hB : x.n0 ≤ B) : Brn x B Y vp vb p :=
  ⟨own_sb h.pre hs hB (by decide) (by decide) (Or.inl (by decide)), own_sb h.bel hs hB (by decide) (by decide) (Or.inl (by decide))⟩
theorem Brn.below {B : Nat} {vp vb : Value} {p : List Int} (h : Brn x B X vp vb p) (hs : Below X.heap.size X Y) : Brn x B Y vp vb p := ⟨own_below h.pre hs, own_below h.bel hs⟩
theorem Brn.base {B B' : Nat} {vp vb : Value} {p : List Int} (h : Brn x B X vp vb p) (hB : B' ≤ B) : Brn x B' X vp vb p := ⟨own_base h.pre hB, own_base h.bel hB⟩
end

end Go.Proofs.YtoodbpijgnbfjaaGreat
