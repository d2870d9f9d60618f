import Derived.Deep.LoopGhost
import Derived.LoopIn
import Derived.LoopNIn
import Derived.OwnWalkIn
import Derived.RegionIn
import Derived.Shelf.Abstract
import Derived.Shelf.AbstractIn
import Derived.Shelf.RegionOpen
import Derived.TacticsInMore
import Derived.WalkKit
import Derived.WalkMore
import Derived.Test.YtoodbpijgnbfjaaGreatFq41
namespace Go.Proofs.YtoodbpijgnbfjaaGreat
open Go.RowKit Meet

def slA : Value → Option Addr | .slice a _ _ => a | _ => none
def slN : Value → Nat | .slice _ n _ => n | _ => 0
def slC : Value → Nat | .slice _ _ c => c | _ => 0
def encB (b : Value × Value) : Array Value := #[.agg #[b.1, b.2]]
def PreB (x : JX) (nxt : List Int → List Int) (p : List Int) (pre : List Int) (y : Int) (b : Value × Value) (X Y : World) : Prop := Brn x X.heap.size Y b.1 b.2 (p ++ [y]) ∧ pre ++ [y] <+: nxt p ∧ (∃ g c, b.1 = .slice (some ⟨g, 0, none⟩) (p.length + 1) c) ∧ ∃ g c, b.2 = .slice (some ⟨g, 0, none⟩) x.nT c
def KpB (x : JX) (l0 l2 : Nat) : World → World → Prop := KpS x fun k => k = l0 ∨ k = l2
theorem bel_at (x : JX) (p : List Int) {t : Nat} (ht : t < x.nT) : (x.bel p)[t]? = some (.pointer (some ⟨x.f t (prt (x.H t) p), 0, none⟩)) := by
  unfold JX.bel
  rw [List.getElem?_map, List.getElem?_range ht]
  rfl
structure SkE (x : JX) (B : Nat) (X Y : World) (bB bH cu cc : Nat) (vp vb vt : Value) (p : List Int) (q : Nat → Nat) (i : Nat) (y : Int) (v : Nat) : Prop where
  lg : LG x B Y bB bH cu cc vp vb vt p (fun j => if j = i then v else q j)
  kt : KT B X Y
  le : v ≤ (x.vl p i).length
  lo : ∀ m, m < v → (x.vl p i).getD m 0 < y
  hi : ∀ m, v ≤ m → m < (x.vl p i).length → y ≤ (x.vl p i).getD m 0
section
variable {x : JX} {B : Nat} {X : World} {bB bH cu cc : Nat} {vp vb vt : Value} {p : List Int} {q : Nat → Nat} {nxt : List Int → List Int} {no : Nat}
theorem LG.seek_calls (h : LG x B X bB bH cu cc vp vb vt p q) (hx : x.Ok) (hm : JMx x nxt no) (hp : p.length < no) (hd : x.Hd p) {i : Nat} (hi : i < x.nh p) (y : Int) (hq : q i < (x.vl p i).length) (hlo : ∀ m, m < q i → (x.vl p i).getD m 0 < y) :
    Calls Tryz.prog 89 #[.pointer (some ⟨cu, i * 2, none⟩), .int .i64 y] X fun e w' => (∃ v, e = .returned v) ∧ ∃ v, SkE x B X w' bB bH cu cc vp vb vt p q i y v := by
  obtain ⟨h1, h2, -⟩ := x.tk_ok p hi
  obtain ⟨fb, cap, gb, cb, hc, hcap, -⟩ := h.cq hm hp hd hi
  have hasc : Asc (x.vl p i) := asc_of (hm.asc _ h1 _ (hd _ h1))
  have hlen : (x.vl p i).length ≤ 1000000 := hm.len _ h1 _ (hd _ h1)
  refine (seekq_calls X cu (i * 2) (x.nd p i) fb cap _ (x.vl p i) (q i) y hc (by omega) hcap hq hasc).mono ?_
  rintro e w' ⟨hv, d, rfl⟩
  refine ⟨hv, q i + bsQ ((x.vl p i).drop (q i)) y, ?_⟩
  obtain ⟨s1, s2, s3⟩ := bsQ_spec (up_drop hasc (q i)) y
  have hl := h.below hx (below_drewN (Below.refl _ X) d)
  obtain ⟨hl2, hk2⟩ := hl.seek hx hi (q i + bsQ ((x.vl p i).drop (q i)) y)
  have hbx := h.bx.lt
  have hBX : B ≤ X.heap.size := by have := (h.cur.lt cu rfl); omega
  rw [List.length_drop] at s1
  refine ⟨hl2, (KT.of_below (below_drewN (Below.refl _ X) d) hBX).trans hk2, by omega, fun m hmv => ?_, fun m h3 h4 => ?_⟩
  · by_cases e : m < q i
    · exact hlo m e
    · have := s2 (m - q i) (by omega)
      rw [List.getD_eq_getElem?_getD, List.getElem?_drop, show q i + (m - q i) = m by omega, ← List.getD_eq_getElem?_getD] at this
      exact this
  · have := s3 (m - q i) (by omega) (by rw [List.length_drop]; omega)
    rw [List.getD_eq_getElem?_getD, List.getElem?_drop, show q i + (m - q i) = m by omega, ← List.getD_eq_getElem?_getD] at this
    exact this
theorem LG.ended_calls (h : LG x B X bB bH cu cc vp vb vt p q) (hm : JMx x nxt no) (hp : p.length < no) (hd : x.Hd p) {i : Nat} (hi : i < x.nh p) :
    Calls Tryz.prog 90 #[.pointer (some ⟨cu, i * 2, none⟩)] X fun e w' => e = .returned (.bool (decide (q i = (x.vl p i).length))) ∧ ∃ d, w' = X.drewN d := by
  obtain ⟨fb, cap, gb, cb, hc, -, -⟩ := h.cq hm hp hd hi
  exact endedq_calls X _ _ _ _ _ _ _ _ hc
theorem LG.value_calls (h : LG x B X bB bH cu cc vp vb vt p q) (hm : JMx x nxt no) (hp : p.length < no) (hd : x.Hd p) {i : Nat} (hi : i < x.nh p) (hq : q i < (x.vl p i).length) :
    Calls Tryz.prog 91 #[.pointer (some ⟨cu, i * 2, none⟩)] X fun e w' => e = .returned (.int .i64 ((x.vl p i).getD (q i) 0)) ∧ ∃ d, w' = X.drewN d := by
  obtain ⟨fb, cap, gb, cb, hc, -, -⟩ := h.cq hm hp hd hi
  exact valueq_calls X _ _ _ _ _ _ _ _ hc hq
theorem LG.below_calls (h : LG x B X bB bH cu cc vp vb vt p q) (hm : JMx x nxt no) (hp : p.length < no) (hd : x.Hd p) {i : Nat} (hi : i < x.nh p) (hq : q i < (x.vl p i).length) {y : Int} (hy : (x.vl p i).getD (q i) 0 = y) :
    Calls Tryz.prog 117 #[.pointer (some ⟨cu, i * 2, none⟩)] X fun e w' => e = .returned (.pointer (some ⟨x.f (x.tk p i) (prt (x.H (x.tk p i)) p ++ [y]), 0, none⟩)) ∧ ∃ d, w' = X.drewN d := by
  obtain ⟨fb, cap, gb, cb, hc, -, hb⟩ := h.cq hm hp hd hi
  have := hb (q i) hq
  rw [hy] at this
  exact belowq_calls X _ _ _ _ _ _ _ _ _ _ _ hc hq this
end

end Go.Proofs.YtoodbpijgnbfjaaGreat

namespace Go.Proofs.YtoodbpijgnbfjaaGreat
open Go.RowKit Meet

set_option maxHeartbeats 400000 in
theorem longer_calls (w : World) (a0 a1 : Option Addr) (n0 c0 n1 c1 : Nat) (a2 : Option Addr) (n2 c2 : Nat) :
    Calls Tryz.prog 65 #[.agg #[.slice a0 n0 c0, .slice a1 n1 c1], .slice a2 n2 c2] w fun e w' => e = .returned (.func (.func 86) #[] #[.pointer (some ⟨w.heap.size, 0, none⟩), .pointer (some ⟨w.heap.size + 1, 0, none⟩)]) ∧ w' = (w.alloc (.cells #[.slice a0 n0 c0, .slice a1 n1 c1] 93)).alloc (.cells #[.slice a2 n2 c2] 33) := by
  go_enter Tryz.func65, Tryz.ntmps65
  go_wp2
  go_ret
  exact ⟨rfl, rfl⟩

structure Frm (b l : Nat) (vp vb hvv : Value) (W : World) (r : Bool) : Prop where
  b3 : BrX W b vp vb
  b4 : W.heap[b + 1]? = some (.cells #[hvv] 32 (0, 0))
  b5 : W.heap[b + 2]? = some (.cells #[.func (.yield l) #[] #[]] 90 (0, 0))
  b6 : W.heap[b + 3]? = some (.cells #[.bool r] 4 (0, 0))
section
variable {x : JX} {S : Nat → Prop} {b l : Nat} {vp vb hvv : Value} {X Y : World} {r : Bool}
theorem Frm.bel {B : Nat} (h : Frm b l vp vb hvv X r) (hb : Below B X Y) (hB : b + 3 < B) : Frm b l vp vb hvv Y r :=
  ⟨(hb.block _ (by omega)).trans h.b3, (hb.block _ (by omega)).trans h.b4, (hb.block _ (by omega)).trans h.b5, (hb.block _ (by omega)).trans h.b6⟩
theorem Frm.lt (h : Frm b l vp vb hvv X r) : b + 3 < X.heap.size := lt_some h.b6
theorem Frm.kp (h : Frm b l vp vb hvv X r) (hk : KpS x S X Y) (hx : x.Ok) (ht : TyR x X) (hn : x.n0 ≤ b) : Frm b l vp vb hvv Y r :=
  ⟨hk.same _ _ h.b3 (Or.inl rfl) (KpS.not hx ht hn h.b3 (Or.inl (by decide))), hk.same _ _ h.b4 (Or.inl rfl) (KpS.not hx ht (by omega) h.b4 (Or.inl (by decide))), hk.same _ _ h.b5 (Or.inl rfl) (KpS.not hx ht (by omega) h.b5 (Or.inl (by decide))), hk.same _ _ h.b6 (Or.inl rfl) (KpS.not hx ht (by omega) h.b6 (Or.inl (by decide)))⟩
theorem Frm.c4 (h : Frm b l vp vb hvv X r) : X.cell? ⟨b + 1, 0, none⟩ = some hvv := by rw [cell_of_row _ _ _ _ _ _ h.b4]; rfl
theorem Frm.c5 (h : Frm b l vp vb hvv X r) : X.cell? ⟨b + 2, 0, none⟩ = some (.func (.yield l) #[] #[]) := by rw [cell_of_row _ _ _ _ _ _ h.b5]; rfl
theorem Frm.c6 (h : Frm b l vp vb hvv X r) : X.cell? ⟨b + 3, 0, none⟩ = some (.bool r) := by rw [cell_of_row _ _ _ _ _ _ h.b6]; rfl
theorem Frm.f6 (h : Frm b l vp vb hvv X r) : X.frozen? ⟨b + 3, 0, none⟩ = false := by unfold World.frozen?; rw [h.b6]; simp
theorem Frm.set (h : Frm b l vp vb hvv X r) (r' : Bool) : Frm b l vp vb hvv (X.setCell ⟨b + 3, 0, none⟩ (.bool r')) r' ∧ KT (b + 3) X (X.setCell ⟨b + 3, 0, none⟩ (.bool r')) :=
  ⟨⟨(Below.heap_setCell _ _ _ _ (by show b ≠ b + 3; omega)).trans h.b3, (Below.heap_setCell _ _ _ _ (by show b + 1 ≠ b + 3; omega)).trans h.b4, (Below.heap_setCell _ _ _ _ (by show b + 2 ≠ b + 3; omega)).trans h.b5, by rw [heap_setCell_same _ _ _ _ _ _ h.b6]; rfl⟩, KT.set _ (Nat.le_refl _) h.b6 (Or.inr rfl)⟩
end
def HVs (x : JX) (no k : Nat) (v : Value) : Prop := ∃ hb o c, x.hv.ownBlock = some hb ∧ v = .slice (some ⟨hb, o, none⟩) (no - k) c ∧ (0 < no - k → o = k) ∧ no - k ≤ c
theorem HVs.cell {x : JX} {no k : Nat} {hb : Nat} {W : World} {nxt : List Int → List Int} (hm : JMx x nxt no) (hd : Dat x W) (hk : k < no) (h1 : x.hv.ownBlock = some hb) : W.cell? ⟨hb, k, none⟩ = some (x.uh.getD k undef) := by
  obtain ⟨g, cap, e, -, hc⟩ := hd.hq.get (i := k) (by rw [hm.hl]; exact hk)
  rw [e] at h1
  have : g = hb := by simpa [Value.ownBlock] using h1
  rw [← this]
  exact hc
theorem KpS.keeps {x : JX} {l B : Nat} {X Y : World} (h : KpS x (fun k => k = l) X Y) (hx : x.Ok) (ht : TyR x X) (hB : x.n0 ≤ B) (hl : l < B) : KeepsFrom B X Y := by
  refine ⟨h.size, fun k o hk h0 ho => h.same k o h0 (Or.inr (by omega)) fun hm => ?_⟩
  have h1 := hx.h
  have h2 := hx.r
  have h3 := hx.v
  rcases hm with e | e | e | e
  · omega
  · omega
  · omega
  · obtain ⟨cur, z, hc⟩ := ht k e
    rw [h0] at hc
    cases hc
    cases ho
theorem KpS.of_below {x : JX} {S : Nat → Prop} {X Y : World} (h : Below X.heap.size X Y) (hr : x.r < X.heap.size) : KpS x S X Y := (KpS.refl x S X).kt (KT.of_below h (Nat.le_refl _)) hr
structure WI (x : JX) (l : Nat) (J : World → Prop) (Y0 : World) (vp vb hvv : Value) (W : World) : Prop where
  j : J W
  kp : KpS x (fun k => k = l) Y0 W
  fr : Frm Y0.heap.size l vp vb hvv W false
  dat : Dat x W
theorem WI.kt {x : JX} {l : Nat} {J : World → Prop} {Y0 X Y : World} {vp vb hvv : Value} {B : Nat} (h : WI x l J Y0 vp vb hvv X) (hx : x.Ok) (hn : x.n0 ≤ Y0.heap.size) (hJ : ∀ X Y, J X → KT x.n0 X Y → J Y) (hk : KT B X Y) (hB : Y0.heap.size + 3 < B) : WI x l J Y0 vp vb hvv Y :=
  ⟨hJ _ _ h.j (hk.mono (by omega)), h.kp.kt (hk.mono (by omega)) (by have := hx.r; omega), h.fr.bel hk.bel hB, h.dat.kt (hk.mono (by omega)) hx⟩
structure WA (x : JX) (l : Nat) (J : World → Prop) (Y0 : World) (vp vb hvv : Value) (p : List Int) (y : Int) (v0 v1 : Value) (bq : Nat) (W : World) : Prop where
  kp : KpS x (fun k => k = l) Y0 W
  fr : Frm Y0.heap.size l vp vb hvv W false
  dat : Dat x W
  bx : BrX W bq v0 v1
  src : ∃ X, J X ∧ KT x.n0 X W ∧ x.n0 ≤ X.heap.size ∧ Brn x X.heap.size W v0 v1 (p ++ [y])
theorem Brn.kt {x : JX} {B : Nat} {X Y : World} {vp vb : Value} {p : List Int} (h : Brn x B X vp vb p) (hk : KT x.n0 X Y) (hB : x.n0 ≤ B) : Brn x B Y vp vb p := h.sb hk.sb hB
theorem WA.kt {x : JX} {l : Nat} {J : World → Prop} {Y0 X Y : World} {vp vb hvv v0 v1 : Value} {p : List Int} {y : Int} {bq B : Nat} (h : WA x l J Y0 vp vb hvv p y v0 v1 bq X) (hx : x.Ok) (hn : x.n0 ≤ Y0.heap.size) (hk : KT B X Y) (hB : Y0.heap.size + 3 < B) : WA x l J Y0 vp vb hvv p y v0 v1 bq Y := by
  have hk0 := hk.mono (show x.n0 ≤ B by omega)
  obtain ⟨Z, h1, h2, h3, h4⟩ := h.src
  exact ⟨h.kp.kt (hk.mono (by omega)) (by have := hx.r; omega), h.fr.bel hk.bel hB, h.dat.kt hk0 hx, (hk.cel _ _ _ _ h.bx (by decide) (by decide)).trans h.bx, Z, h1, h2.trans hk0, h3, h4.kt hk0 h3⟩

end Go.Proofs.YtoodbpijgnbfjaaGreat

namespace Go.Proofs.YtoodbpijgnbfjaaGreat
open Go.RowKit Meet Go.Shelf
attribute [local go_sem] Oper.semAt_some

def LgG (x : JX) (nxt : List Int → List Int) (no l0 : Nat) : Prop := ∀ (w : World) (bB bH : Nat) (vp vb : Value) (p : List Int), p.length < no → x.Hd p → Dat x w → Brn x x.n0 w vp vb p → BrX w bB vp vb → x.n0 ≤ bB → w.heap[bH]? = some (.cells #[x.uh.getD p.length undef] 33 (0, 0)) → x.n0 ≤ bH → ¬ RBk x w bH →
  Gives Tryz.prog 86 #[.pointer (some ⟨bB, 0, none⟩), .pointer (some ⟨bH, 0, none⟩)] encB (KpB x l0) (fun _ _ _ => True) (PreB x nxt p) (nxt p) w
def WkE (x : JX) (l : Nat) (J : List (List Int) → World → Prop) (Jx : World → Prop) (ys : List (List Int)) (Y : World) (e : Ending) (Z : World) : Prop :=
  (e = .returned (.bool true) ∧ J ys Z ∧ KpS x (fun k => k = l) Y Z) ∨ (e = .returned (.bool false) ∧ Jx Z ∧ KpS x (fun k => k = l) Y Z)

def npQ (Q : Exit → Act → World → Prop) : Exit → Act → World → Prop
  | .panic _, _, _ => False
  | .outgrown, _, _ => False
  | e, a, w => Q e a w
theorem npQ.imp {Q : Exit → Act → World → Prop} : ∀ e a w, npQ Q e a w → Q e a w := fun e a w h => by
  cases e with
  | panic c => exact h.elim
  | outgrown => exact h.elim
  | normal => exact h
  | ret => exact h
  | exit i => exact h
  | goto t => exact h
theorem dfs_head (nxt : List Int → List Int) (m : Nat) (p : List Int) : ∃ r, dfsF nxt m p = p :: r := by
  cases m with
  | zero => exact ⟨[], rfl⟩
  | succ m => exact ⟨_, rfl⟩
theorem dfs_one {nxt : List Int → List Int} {m : Nat} {p : List Int} {ps tot : List (List Int)} (h : ps ++ dfsF nxt m p <+: tot) : ps ++ [p] <+: tot := by
  obtain ⟨r, e⟩ := dfs_head nxt m p
  rw [e] at h
  exact List.IsPrefix.trans ⟨r, by simp⟩ h
theorem dfs_pre {nxt : List Int → List Int} {m : Nat} {p : List Int} {ps tot : List (List Int)} {pre : List Int} {y : Int} (h : ps ++ dfsF nxt (m + 1) p <+: tot) (hp : pre ++ [y] <+: nxt p) : ps ++ [p] ++ pre.flatMap (fun y => dfsF nxt m (p ++ [y])) ++ dfsF nxt m (p ++ [y]) <+: tot := by
  obtain ⟨r, e⟩ := hp
  refine List.IsPrefix.trans ⟨r.flatMap fun y => dfsF nxt m (p ++ [y]), ?_⟩ h
  have e9 : ps ++ dfsF nxt (m + 1) p = ps ++ [p] ++ (nxt p).flatMap fun y => dfsF nxt m (p ++ [y]) := by rw [List.append_assoc]; rfl
  rw [e9, ← e, List.flatMap_append, List.flatMap_append, List.flatMap_singleton]
  simp only [List.append_assoc]
def WkC (x : JX) (nxt : List Int → List Int) (no l : Nat) (tot : List (List Int)) (J : List (List Int) → World → Prop) (Jx : World → Prop) (m : Nat) : Prop := ∀ (p : List Int) (ps : List (List Int)) (X Y : World) (vp vb hvv : Value), p.length + m = no → ps ++ dfsF nxt m p <+: tot → x.Hd p → x.n0 ≤ X.heap.size → J ps X → KT x.n0 X Y → Dat x Y → Brn x X.heap.size Y vp vb p → (∃ g c, vp = .slice (some ⟨g, 0, none⟩) p.length c) → HVs x no p.length hvv →
      Calls Tryz.prog 39 #[.agg #[vp, vb], hvv, .func (.yield l) #[] #[]] Y (WkE x l J Jx (ps ++ dfsF nxt m p) Y)

set_option maxHeartbeats 4000000 in
set_option maxRecDepth 1000000 in
theorem walk_step (x : JX) (hx : x.Ok) (nxt : List Int → List Int) (no : Nat) (hm : JMx x nxt no) (hsn : ∀ p, p.length < no → x.Hd p → ∀ y ∈ nxt p, x.Hd (p ++ [y])) (l : Nat) (hl : l < x.n0) (hG : LgG x nxt no l) (tot : List (List Int)) (J : List (List Int) → World → Prop) (Jx : World → Prop)
    (hJ : ∀ s X Y, J s X → KT x.n0 X Y → J s Y) (hJx : ∀ X Y, Jx X → KT x.n0 X Y → Jx Y)
    (hY : ∀ ps p vp X Y, J ps X → KT x.n0 X Y → Y.ownsRow X.heap.size 3 1 vp p.length (p.map (Value.int .i64)) → p.length ≤ no → (∃ g c, vp = .slice (some ⟨g, 0, none⟩) p.length c) → ps ++ [p] <+: tot → YieldAt Fence.wide 0 Tryz.prog l #[vp] Y fun e Z => (e = .returned (.bool true) ∧ J (ps ++ [p]) Z ∧ KpS x (fun k => k = l) Y Z) ∨ (e = .returned (.bool false) ∧ Jx Z ∧ KpS x (fun k => k = l) Y Z))
    (m : Nat) (ih : ∀ m', m = m' + 1 → WkC x nxt no l tot J Jx m') : WkC x nxt no l tot J Jx m := by
  intro p ps X Y vp vb hvv hpm htot hd hXn hJX hKT hdat hbrn hvp hhv
  have hYn : x.n0 ≤ Y.heap.size := Nat.le_trans hXn hKT.bel.size
  have hrn := hx.r
  obtain ⟨W1, hW1⟩ : ∃ W1, W1 = (((Y.alloc (.cells #[vp, vb] 93)).alloc (.cells #[hvv] 32)).alloc (.cells #[.func (.yield l) #[] #[]] 90)).alloc (.cells #[.bool false] 4) := ⟨_, rfl⟩
  have hB1 : Below Y.heap.size Y W1 := by rw [hW1]; exact bl_alloc (bl_alloc (bl_alloc (bl_alloc (Below.refl _ _) _) _) _) _
  have hs1 : W1.heap.size = Y.heap.size + 4 := by rw [hW1]; simp
  have hF1 : Frm Y.heap.size l vp vb hvv W1 false := by
    rw [hW1]
    have a1 : ∀ (W : World) (o : Obj) (k : Nat), k = W.heap.size → (W.alloc o).heap[k]? = some o := fun W o k hk => by rw [hk]; exact World.alloc_heap_new W o
    have a2 : ∀ (W : World) (o o' : Obj) (k : Nat), W.heap[k]? = some o → (W.alloc o').heap[k]? = some o := fun W o o' k hk => (Below.heap_alloc _ _ _ (lt_some hk)).trans hk
    exact ⟨a2 _ _ _ _ (a2 _ _ _ _ (a2 _ _ _ _ (a1 _ _ _ rfl))), a2 _ _ _ _ (a2 _ _ _ _ (a1 _ _ _ (by simp))), a2 _ _ _ _ (a1 _ _ _ (by simp)), a1 _ _ _ (by simp)⟩
  have hK1 : KT x.n0 X W1 := hKT.trans (KT.of_below hB1 hYn)
  obtain ⟨fn, tmps, assign, body, hy, hR⟩ := hY ps p vp X W1 hJX hK1 (own_below hbrn.pre hB1) (by omega) hvp (dfs_one htot)
  have HTOT := hid htot
  clear htot
  have HR := hid hR
  have HF1 := hid hF1
  have HB1 := hid hB1
  have HD1 := hid (hdat.kt (KT.of_below hB1 hYn) hx)
  have HBr1 := hid (hbrn.below hB1)
  have c3 := hF1.b3.c0
  have c5 : W1.cell? ⟨Y.heap.size + 1 + 1, 0, none⟩ = some (.func (.yield l) #[] #[]) := hF1.c5
  obtain ⟨gp, cp, evp⟩ := hvp
  subst evp
  obtain ⟨ab, cb, evb⟩ := own_shapeJ hbrn.bel
  subst evb
  obtain ⟨hb, oh, ch, hhb, ehv, hho, hhc⟩ := hhv
  subst ehv
  have HHV := hid (And.intro hhb (And.intro hho hhc))
  clear hR hF1 hB1 hK1 hKT hJX hdat hbrn hhb hho hhc
  obtain ⟨np, hnp⟩ : ∃ np, np = p.length := ⟨_, rfl⟩
  have HNP := hid hnp
  refine (callsIn_wide (n := 0)).1 (callsIn_of_wp_marks Tryz.func39 rfl trivial ?_ rfl)
  simp only [Tryz.ntmps39, List.size_toArray, List.length_cons, List.length_nil, Nat.reduceAdd, Nat.reduceSub, Array.replicate_succ, Array.replicate_zero, List.push_toArray, List.append_toArray, List.nil_append, List.cons_append]
  refine wpIn_mono (Q := npQ (bodyPostM Fence.wide 0 Tryz.prog Tryz.f39 (WkE x l J Jx (ps ++ dfsF nxt m p) Y))) ?_ npQ.imp
  refine (wpIn_wide (n := 0)).2 ?_
  obtain ⟨E, hE⟩ : ∃ E, E = WkE x l J Jx (ps ++ dfsF nxt m p) Y := ⟨_, rfl⟩
  rw [← hE]
  have HEt : Hid (∀ Z, J (ps ++ dfsF nxt m p) Z → KpS x (fun k => k = l) Y Z → E (.returned (.bool true)) Z) := hid fun Z h1 h2 => by rw [hE]; exact Or.inl ⟨rfl, h1, h2⟩
  have HEf : Hid (∀ Z, Jx Z → KpS x (fun k => k = l) Y Z → E (.returned (.bool false)) Z) := hid fun Z h1 h2 => by rw [hE]; exact Or.inr ⟨rfl, h1, h2⟩
  clear hE
  have HJ := hid hJ
  have HJx := hid hJx
  have HM := hid hm
  have HD := hid hd
  have HX := hid hx
  have HG := hid hG
  have HSN := hid hsn
  have HIH := hid ih
  have HL := hid hl
  have HYN := hid hYn
  have HXN := hid hXn
  have HS1 := hid hs1
  have HRN := hid hrn
  have HPM := hid hpm
  have hlen : no - p.length = m := by omega
  clear hJ hJx hm hd hx hG hsn ih hl hYn hY hXn hs1 hrn hpm
  rw [hlen] at hW1 HF1 HHV ⊢
  clear hlen
  rw [← hnp] at c3 hy HBr1 HF1 hW1 ⊢
  clear hnp
  go_upto_region 1 with fail
  rw [← hW1]
  clear hW1
  refine (wpIn_wide (n := 0)).1 ?_
  gi_wp2
  refine ⟨rfl, ?_⟩
  refine HR.out.mono ?_
  rintro e Z1 hor
  have hKor : KpS x (fun k => k = l) W1 Z1 := by
    rcases hor with ⟨-, -, h⟩ | ⟨-, -, h⟩
    · exact h
    · exact h
  have HFZ := hid (HF1.out.kp hKor HX.out HD1.out.ty HYN.out)
  have HKZ : Hid (KpS x (fun k => k = l) Y Z1) := hid ((KpS.of_below HB1.out (by have := HYN.out; have := HRN.out; omega)).trans hKor)
  have HDZ := hid (HD1.out.kp hKor HX.out)
  have HBZ := hid (HBr1.out.sb (hKor.sb HX.out HD1.out.ty) (by have := HXN.out; exact this))
  have HSZ : Hid (Y.heap.size + 3 < Z1.heap.size) := hid HFZ.out.lt
  have d6 : Z1.cell? ⟨Y.heap.size + 1 + 1 + 1, 0, none⟩ = some (.bool false) := HFZ.out.c6
  have f6 : Z1.frozen? ⟨Y.heap.size + 1 + 1 + 1, 0, none⟩ = false := HFZ.out.f6
  clear hy c3 c5 HR
  have HSet : Hid (∀ r : Bool, KT x.n0 Z1 (Z1.setCell ⟨Y.heap.size + 1 + 1 + 1, 0, none⟩ (.bool r)) ∧ KpS x (fun k => k = l) Y (Z1.setCell ⟨Y.heap.size + 1 + 1 + 1, 0, none⟩ (.bool r)) ∧ (Z1.setCell ⟨Y.heap.size + 1 + 1 + 1, 0, none⟩ (.bool r)).cell? ⟨Y.heap.size + 1 + 1 + 1, 0, none⟩ = some (.bool r)) := hid fun r => by
    obtain ⟨h1, h2⟩ := HFZ.out.set r
    exact ⟨h2.mono (by have := HYN.out; omega), HKZ.out.kt (h2.mono (by omega)) (by have := HYN.out; have := HRN.out; omega), h1.c6⟩
  rcases hor with ⟨rfl, hJ1, -⟩ | ⟨rfl, hJx1, -⟩
  · have HJ1 := hid hJ1
    clear hJ1 hKor
    have d4 : Z1.cell? ⟨Y.heap.size + 1, 0, none⟩ = some (.slice (some ⟨hb, oh, none⟩) m ch) := HFZ.out.c4
    gi_wp2
    cases m with
    | zero =>
      have r6 := (HSet.out true).2.2
      have HFin := hid (HEt.out _ (HJ.out _ _ _ HJ1.out (HSet.out true).1) (HSet.out true).2.1)
      go_wp2_with fail
      exact ⟨.bool true, by simp [results, Tryz.results39, go_sem, r6], HFin.out⟩
    | succ m =>
      have q0 : (((m + 1 : Nat) : Int) == 0) = false := by simp; omega
      have hpno : p.length < no := by have := HPM.out; omega
      obtain ⟨av, cv, euh⟩ := own_shapeJ (HDZ.out.hq.each p.length (by rw [HM.out.hl]; exact hpno))
      have cuh := HVs.cell HM.out HDZ.out hpno HHV.out.1
      have eoh : oh = p.length := HHV.out.2.1 (by omega)
      obtain ⟨nv, hnv⟩ : ∃ nv, nv = (x.hav.getD p.length []).length := ⟨_, rfl⟩
      rw [← hnv] at euh
      rw [euh] at cuh
      rw [← eoh] at cuh
      have HEO := hid eoh
      have HUH := hid euh
      clear eoh euh hnv
      have HSS : Hid (∀ W, Below Z1.heap.size Z1 W → W.cell? ⟨Y.heap.size, 0, none⟩ = some (.slice (some ⟨gp, 0, none⟩) np cp) ∧ W.cell? ⟨Y.heap.size, 1, none⟩ = some (.slice ab x.nT cb) ∧ W.cell? ⟨Y.heap.size + 1, 0, none⟩ = some (.slice (some ⟨hb, oh, none⟩) (m + 1) ch) ∧ W.cell? ⟨hb, oh, none⟩ = some (.slice av nv cv) ∧ Below Z1.heap.size Z1 W) := hid fun W hW => ⟨(HFZ.out.b3.below hW).c0, (HFZ.out.b3.below hW).c1, bclT hW d4, bclT hW cuh, hW⟩
      have i1 : (0 : Int) < (((m + 1 : Nat)) : Int) := by omega
      go_upto_region 5 with fail
      clear d4 cuh
      go_region_held_law (fun W => W.cell? ⟨Y.heap.size, 0, none⟩ = some (.slice (some ⟨gp, 0, none⟩) np cp) ∧ W.cell? ⟨Y.heap.size, 1, none⟩ = some (.slice ab x.nT cb) ∧ W.cell? ⟨Y.heap.size + 1, 0, none⟩ = some (.slice (some ⟨hb, oh, none⟩) (m + 1) ch) ∧ W.cell? ⟨hb, oh, none⟩ = some (.slice av nv cv) ∧ Below Z1.heap.size Z1 W)
        (first | (with_reducible exact HSS.out _ (Below.refl _ _).drew) | (with_reducible exact HSS.out _ hB2) | (with_reducible exact HSS.out _ (bl_drew (bl_alloc (bl_alloc (Below.refl _ _) _) _))) | fail)
        (first
          | (go_simp; go_at_call 65; refine (longer_calls _ _ _ _ _ _ _ _ _ _).mono ?_; rintro e w2 ⟨rfl, hw2⟩; have hB2 : Below Z1.heap.size Z1 w2 := (by rw [hw2]; exact bl_alloc (bl_alloc (Below.refl _ _).drew _) _))
          | fail)
      go_wp2_with fail
      obtain ⟨Wl, hWl⟩ : ∃ Wl, Wl = ((Z1.alloc (.cells #[(.slice (some ⟨gp, 0, none⟩) np cp), (.slice ab x.nT cb)] 93)).alloc (.cells #[.slice av nv cv] 33)).drew := ⟨_, rfl⟩
      rw [← hWl]
      have hBl : Below Z1.heap.size Z1 Wl := by rw [hWl]; exact bl_drew (bl_alloc (bl_alloc (Below.refl _ _) _) _)
      have hsl : Wl.heap.size = Z1.heap.size + 2 := by rw [hWl]; show ((Z1.alloc _).alloc _).heap.size = _; simp
      have hbB : BrX Wl Z1.heap.size (.slice (some ⟨gp, 0, none⟩) np cp) (.slice ab x.nT cb) := by rw [hWl]; exact (Below.heap_alloc _ _ _ (by simp)).trans (World.alloc_heap_new Z1 _)
      have hbH : Wl.heap[Z1.heap.size + 1]? = some (.cells #[.slice av nv cv] 33 (0, 0)) := by
        rw [hWl]
        have := World.alloc_heap_new (Z1.alloc (.cells #[(.slice (some ⟨gp, 0, none⟩) np cp), (.slice ab x.nT cb)] 93)) (.cells #[.slice av nv cv] 33)
        rw [World.size_alloc] at this
        exact this
      have hZn : x.n0 ≤ Z1.heap.size := by have := HSZ.out; have := HYN.out; omega
      have hkl : KT x.n0 Z1 Wl := KT.of_below hBl hZn
      have hdl := HDZ.out.kt hkl HX.out
      have hbl := (HBZ.out.below hBl)
      have hnr : ¬ RBk x Wl (Z1.heap.size + 1) := nr_new HDZ.out.ty (hkl.bel.block _ HRN.out) (Nat.le_succ _)
      have hwi : WI x l (fun W => J (ps ++ [p] ++ ([] : List Int).flatMap fun y => dfsF nxt m (p ++ [y])) W) Y (.slice (some ⟨gp, 0, none⟩) np cp) (.slice ab x.nT cb) (.slice (some ⟨hb, oh, none⟩) (m + 1) ch) Wl := by
        refine ⟨?_, HKZ.out.kt (KT.of_below hBl (by have := HSZ.out; omega) : KT Y.heap.size Z1 Wl) (by have := HYN.out; have := HRN.out; omega), HFZ.out.bel hBl (by have := HSZ.out; omega), hdl⟩
        have := HJ.out _ _ _ HJ1.out hkl
        simpa using this
      have hg := HG.out Wl Z1.heap.size (Z1.heap.size + 1) (.slice (some ⟨gp, 0, none⟩) np cp) (.slice ab x.nT cb) p hpno HD.out hdl (hbl.base HXN.out) hbB hZn (by rw [HUH.out]; exact hbH) (by omega) hnr
      have hyl : Y.heap.size + 3 < Wl.heap.size := by have := HSZ.out; omega
      have hnl : x.n0 ≤ Wl.heap.size := by omega
      have hrl : x.r < Wl.heap.size := by have := HRN.out; omega
      clear hWl
      have HSL := hid hsl
      clear hsl
      obtain ⟨II, hII⟩ : ∃ II : List Int → World → Prop, II = fun pre W => WI x l (fun W => J (ps ++ [p] ++ pre.flatMap fun y => dfsF nxt m (p ++ [y])) W) Y (.slice (some ⟨gp, 0, none⟩) np cp) (.slice ab x.nT cb) (.slice (some ⟨hb, oh, none⟩) (m + 1) ch) W := ⟨_, rfl⟩
      obtain ⟨IX, hIX⟩ : ∃ IX : Code → World → Prop, IX = fun c W => c = .ret ∧ Jx W ∧ KpS x (fun k => k = l) Y W ∧ W.cell? ⟨Y.heap.size + 1 + 1 + 1, 0, none⟩ = some (.bool false) := ⟨_, rfl⟩
      have HII := hid hII
      have HIX := hid hIX
      refine (wpIn_wide (n := 0)).1 ?_
      refine range_law (α := Int) (β := Value × Value) (gf := 86) (lb := #[.pointer (some ⟨Z1.heap.size, 0, none⟩), .pointer (some ⟨Z1.heap.size + 1, 0, none⟩)]) rfl (enters_of Tryz.func86 (by kernel_rfl) rfl) hg (fun _ => rfl)
        (fun h1 h2 => KpS.trans h1 h2) (fun l2 W o o' h1 h2 h3 => KpS.put (Or.inr rfl) h2 h3 (by omega)) (fun _ _ _ => trivial)
        II IX
        (fun s A C hA hk => by rw [hII] at hA ⊢; exact WI.kt hA HX.out HYN.out (HJ.out _) hk hyl)
        (fun c A C hA hk => by rw [hIX] at hA ⊢; exact ⟨hA.1, HJx.out _ _ hA.2.1 (hk.mono hnl), hA.2.2.1.kt (hk.mono (by omega)) (by have := HYN.out; have := HRN.out; omega), (hk.bel.cell (p := ⟨Y.heap.size + 1 + 1 + 1, 0, none⟩) hyl).trans hA.2.2.2⟩)
        (by rw [hII]; exact hwi)
        (fun l2 pre y b a' W => ∃ bq, WA x l (fun W => J (ps ++ [p] ++ pre.flatMap fun y => dfsF nxt m (p ++ [y])) W) Y (.slice (some ⟨gp, 0, none⟩) np cp) (.slice ab x.nT cb) (.slice (some ⟨hb, oh, none⟩) (m + 1) ch) p y b.1 b.2 bq W ∧ pre ++ [y] <+: nxt p ∧ (∃ g c, b.1 = .slice (some ⟨g, 0, none⟩) (p.length + 1) c) ∧ (∃ g c, b.2 = .slice (some ⟨g, 0, none⟩) x.nT c) ∧ a' = { tmps := #[.agg #[(.slice (some ⟨gp, 0, none⟩) np cp), (.slice ab x.nT cb)], (.slice (some ⟨hb, oh, none⟩) (m + 1) ch), .func (.yield l) #[] #[], .pointer (some ⟨Y.heap.size, 0, none⟩), .pointer (some ⟨Y.heap.size + 1, 0, none⟩), .pointer (some ⟨Y.heap.size + 1 + 1, 0, none⟩), .pointer (some ⟨Y.heap.size + 1 + 1 + 1, 0, none⟩), .pointer (some ⟨bq, 0, none⟩), .func (.yield l) #[] #[], .pointer (some ⟨Y.heap.size, 0, none⟩), (.slice (some ⟨gp, 0, none⟩) np cp), .bool true, .bool false, (.slice (some ⟨hb, oh, none⟩) (m + 1) ch), .int .i64 ((m : Int) + 1), .bool false, .agg #[(.slice (some ⟨gp, 0, none⟩) np cp), (.slice ab x.nT cb)], (.slice (some ⟨hb, oh, none⟩) (m + 1) ch), .pointer (some ⟨hb, oh, none⟩), .slice av nv cv, .func (.func 86) #[] #[.pointer (some ⟨Z1.heap.size, 0, none⟩), .pointer (some ⟨Z1.heap.size + 1, 0, none⟩)], .agg #[b.1, b.2], undef, undef, undef, undef, undef, undef], defers := [] })
        (fun l2 pre y b a' W o o' ⟨bq, h1, h2⟩ hl2 h3 h4 => ⟨bq, h1.kt HX.out HYN.out (KT.put (B := Wl.heap.size) o' hl2 h3 h4) hyl, h2⟩)
        ?assign ?body ?done ?stop
      case assign =>
        rintro l2 pre y ⟨b1, b2⟩ A C K hl2 hI hk ⟨hbr, hyn, ⟨g1, c1, e1⟩, ⟨g2, c2, e2⟩⟩ ⟨rr, hrr⟩ hK
        dsimp only at e1 e2 hbr
        subst e1 e2
        rw [HII.out] at hI
        have hIC := WI.kt hI HX.out HYN.out (HJ.out _) hk hyl
        have hlC : Wl.heap.size ≤ C.heap.size := by have := lt_some hrr; omega
        have hbC : Below C.heap.size C (C.alloc (.cells #[.slice (some ⟨g1, 0, none⟩) (p.length + 1) c1, .slice (some ⟨g2, 0, none⟩) x.nT c2] 93)) := (Below.refl _ _).alloc (Nat.le_refl _) _
        have hkC := KT.of_below hbC hlC
        have hIC2 := hIC.kt HX.out HYN.out (HJ.out _) hkC hyl
        have hnA : x.n0 ≤ A.heap.size := by have := hI.fr.lt; have := HYN.out; omega
        dsimp only [encB]
        gi_wp2
        exact hK _ _ ((KeepsOthers.alloc _ _).from _) (KpS.of_below hbC (by omega)) ⟨C.heap.size, ⟨hIC2.kp, hIC2.fr, hIC2.dat, BrX.new C _ _, A, hI.j, (hk.mono hnl).trans (hkC.mono hnl), hnA, hbr.below hbC⟩, hyn, ⟨g1, c1, rfl⟩, ⟨g2, c2, rfl⟩, rfl⟩
      case body =>
        rintro l2 pre y ⟨b1, b2⟩ a' W hl2 ⟨rr, hrr⟩ ⟨bq, hWA, hyn, ⟨g1, c1, e1⟩, ⟨g2, c2, e2⟩, rfl⟩
        dsimp only at e1 e2 hWA
        subst e1 e2
        have c7 := hWA.bx.c0
        have c7' := hWA.bx.c1
        have c4 : W.cell? ⟨Y.heap.size + 1, 0, none⟩ = some (.slice (some ⟨hb, oh, none⟩) (m + 1) ch) := hWA.fr.c4
        have c5 : W.cell? ⟨Y.heap.size + 1 + 1, 0, none⟩ = some (.func (.yield l) #[] #[]) := hWA.fr.c5
        have c6 : W.cell? ⟨Y.heap.size + 1 + 1 + 1, 0, none⟩ = some (.bool false) := hWA.fr.c6
        have f6 : W.frozen? ⟨Y.heap.size + 1 + 1 + 1, 0, none⟩ = false := hWA.fr.f6
        have HWA := hid hWA
        have hmix : Tryz.prog.follows .mixedOrders = true := by kernel_rfl
        have j1 : (1 : Int) ≤ (((m + 1 : Nat)) : Int) := by omega
        have hmc := HHV.out.2.2
        have j2 : (1 : Int) ≤ (ch : Int) := by omega
        have j3 : (((m + 1 : Nat)) : Int) ≤ (ch : Int) := by omega
        have hWlt := lt_some hrr
        have hrW : x.r < W.heap.size := by omega
        have hWd : Below W.heap.size W W.drew := (Below.refl _ _).drew
        have hkd : KT x.n0 W W.drew := KT.of_below hWd (by omega)
        have KW : Hid (∀ o c, (0 < m → o = oh + 1) → m ≤ c → Calls Tryz.prog 39 #[.agg #[.slice (some ⟨g1, 0, none⟩) (p.length + 1) c1, .slice (some ⟨g2, 0, none⟩) x.nT c2], .slice (some ⟨hb, o, none⟩) m c, .func (.yield l) #[] #[]] W.drew fun e Z2 => ∃ r : Bool, e = .returned (.bool r) ∧ Hid ((r = true ∧ J (ps ++ [p] ++ pre.flatMap (fun y => dfsF nxt m (p ++ [y])) ++ dfsF nxt m (p ++ [y])) Z2 ∧ KpS x (fun k => k = l) W.drew Z2) ∨ (r = false ∧ Jx Z2 ∧ KpS x (fun k => k = l) W.drew Z2))) := hid fun o c h1 h2 => by
          obtain ⟨A, hA1, hA2, hA3, hA4⟩ := hWA.src
          have hpl : (p ++ [y]).length = p.length + 1 := by simp
          have hpm := HPM.out
          refine Calls.mono (R := WkE x l J Jx (ps ++ [p] ++ pre.flatMap (fun y => dfsF nxt m (p ++ [y])) ++ dfsF nxt m (p ++ [y])) W.drew) ?_ (fun e Z2 h => by
            rcases h with ⟨rfl, h4, h5⟩ | ⟨rfl, h4, h5⟩
            · exact ⟨true, rfl, hid (Or.inl ⟨rfl, h4, h5⟩)⟩
            · exact ⟨false, rfl, hid (Or.inr ⟨rfl, h4, h5⟩)⟩)
          refine HIH.out m rfl (p ++ [y]) _ A W.drew _ _ _ (by rw [hpl]; omega) (dfs_pre HTOT.out hyn) (HSN.out p hpno HD.out y (hyn.subset (by simp))) hA3 hA1 (hA2.trans hkd) (hWA.dat.kt hkd HX.out) (hA4.below hWd) ⟨g1, c1, by rw [hpl]⟩ ⟨hb, o, c, HHV.out.1, by rw [hpl, show no - (p.length + 1) = m by omega], fun h3 => ?_, by rw [hpl]; omega⟩
          rw [hpl] at h3 ⊢
          rw [h1 (by omega), HEO.out]
        have HDo : Hid (∀ Z2, J (ps ++ [p] ++ pre.flatMap (fun y => dfsF nxt m (p ++ [y])) ++ dfsF nxt m (p ++ [y])) Z2 → KpS x (fun k => k = l) W.drew Z2 → KeepsFrom Wl.heap.size W Z2 ∧ KpB x l l2 W Z2 ∧ II (pre ++ [y]) Z2) := hid fun Z2 h1 h2 => by
          rw [HII.out]
          have h3 : KpS x (fun k => k = l) W Z2 := (KpS.of_below hWd hrW).trans h2
          refine ⟨h3.keeps HX.out hWA.dat.ty hnl (by have := HL.out; omega), h3.sub fun k hk => Or.inl hk, ?_, hWA.kp.trans h3, hWA.fr.kp h3 HX.out hWA.dat.ty HYN.out, hWA.dat.kp h3 HX.out⟩
          show J (ps ++ [p] ++ (pre ++ [y]).flatMap fun y => dfsF nxt m (p ++ [y])) Z2
          rw [List.flatMap_append, List.flatMap_singleton, ← List.append_assoc]
          exact h1
        have HStp : Hid (∀ Z2, Jx Z2 → KpS x (fun k => k = l) W.drew Z2 → Z2.cell? ⟨Y.heap.size + 1 + 1 + 1, 0, none⟩ = some (.bool false) ∧ Z2.frozen? ⟨Y.heap.size + 1 + 1 + 1, 0, none⟩ = false ∧ KeepsFrom Wl.heap.size W (Z2.setCell ⟨Y.heap.size + 1 + 1 + 1, 0, none⟩ (.bool false)) ∧ IX .ret (Z2.setCell ⟨Y.heap.size + 1 + 1 + 1, 0, none⟩ (.bool false))) := hid fun Z2 h1 h2 => by
          have h3 : KpS x (fun k => k = l) W Z2 := (KpS.of_below hWd hrW).trans h2
          have h4 := hWA.fr.kp h3 HX.out hWA.dat.ty HYN.out
          obtain ⟨h5, h6⟩ := h4.set false
          have h7 := (hWA.kp.trans h3).kt (h6.mono (by omega)) (by have := HYN.out; have := HRN.out; omega)
          rw [HIX.out]
          refine ⟨h4.c6, h4.f6, ?_, rfl, HJx.out _ _ h1 (h6.mono (by have := HYN.out; omega)), h7, h5.c6⟩
          have h8 := h3.keeps HX.out hWA.dat.ty hnl (by have := HL.out; omega)
          exact ⟨Nat.le_trans h8.size h6.bel.size, fun k o hk h0 ho => (Below.heap_setCell _ _ _ _ (by show k ≠ Y.heap.size + 3; omega)).trans (h8.same k o hk h0 ho)⟩
        clear hWA hWd hkd hII hIX hwi
        by_cases hc1 : ch = 1
        · have hm0 : m = 0 := by omega
          have HM0 := hid hm0
          clear hm0
          gi_wp2
          gi_region_with_o (refine ⟨trivial, rfl, ?_⟩; refine (CallsIn.inRound l2 (callsIn_wide.2 (KW.out oh 0 (fun h => by have := HM0.out; omega) (by have := HM0.out; omega)))).mono ?_; rintro e Z2 ⟨rb, rfl, hZ2⟩)
          all_goals (first
            | (rcases hZ2.out with ⟨rfl, hJ2, hK2⟩ | ⟨rfl, hJx2, hK2⟩
               · obtain ⟨p1, p2, p3⟩ := HDo.out Z2 hJ2 hK2
                 gi_wp2
                 exact ⟨p1, p2, p3⟩
               · obtain ⟨s1, s2, p1, p2⟩ := HStp.out Z2 hJx2 hK2
                 gi_wp2
                 exact ⟨p1, trivial, p2⟩))
        · have hmcc : m ≤ ch - 1 := by omega
          have HMC := hid hmcc
          clear hmcc
          gi_wp2
          gi_region_with_o (refine ⟨trivial, rfl, ?_⟩; refine (CallsIn.inRound l2 (callsIn_wide.2 (KW.out (oh + 1) (ch - 1) (fun _ => rfl) HMC.out))).mono ?_; rintro e Z2 ⟨rb, rfl, hZ2⟩)
          all_goals (first
            | (rcases hZ2.out with ⟨rfl, hJ2, hK2⟩ | ⟨rfl, hJx2, hK2⟩
               · obtain ⟨p1, p2, p3⟩ := HDo.out Z2 hJ2 hK2
                 gi_wp2
                 exact ⟨p1, p2, p3⟩
               · obtain ⟨s1, s2, p1, p2⟩ := HStp.out Z2 hJx2 hK2
                 gi_wp2
                 exact ⟨p1, trivial, p2⟩))
      case done =>
        intro D W hD hI hK
        rw [hII] at hI
        have hDy : D ≠ Y.heap.size + 3 := by omega
        obtain ⟨hs1, hs2⟩ := hI.fr.set true
        have hK' : (W.setCell ⟨Y.heap.size + 1 + 1 + 1, 0, none⟩ (.bool true)).heap[D]? = some (.deferred (some [])) := (Below.heap_setCell _ _ _ _ (by exact hDy)).trans hK
        have hp := KT.put (B := Y.heap.size) (.deferred none) (by omega) hK' rfl
        have hkk : KT Y.heap.size W ((W.setCell ⟨Y.heap.size + 1 + 1 + 1, 0, none⟩ (.bool true)).putObj D (.deferred none)) := (hs2.mono (by omega)).trans hp
        have r6 : ((W.setCell ⟨Y.heap.size + 1 + 1 + 1, 0, none⟩ (.bool true)).putObj D (.deferred none)).cell? ⟨Y.heap.size + 1 + 1 + 1, 0, none⟩ = some (.bool true) := (World.cell?_of_block (w := W.setCell ⟨Y.heap.size + 1 + 1 + 1, 0, none⟩ (.bool true)) (a := ⟨Y.heap.size + 1 + 1 + 1, 0, none⟩) (World.putObj_heap_other (by show Y.heap.size + 1 + 1 + 1 ≠ D; omega))).trans hs1.c6
        have HFin : Hid (E (.returned (.bool true)) ((W.setCell ⟨Y.heap.size + 1 + 1 + 1, 0, none⟩ (.bool true)).putObj D (.deferred none))) := hid (HEt.out _ (by
          have h9 := HJ.out _ _ _ hI.j (hkk.mono HYN.out)
          have e9 : ps ++ dfsF nxt (m + 1) p = ps ++ [p] ++ (nxt p).flatMap fun y => dfsF nxt m (p ++ [y]) := by rw [List.append_assoc]; rfl
          rw [e9]
          exact h9) (hI.kp.kt hkk (by have := HYN.out; have := HRN.out; omega)))
        have w6 : W.cell? ⟨Y.heap.size + 1 + 1 + 1, 0, none⟩ = some (.bool false) := hI.fr.c6
        have wf : W.frozen? ⟨Y.heap.size + 1 + 1 + 1, 0, none⟩ = false := hI.fr.f6
        simp only [Exit.inBlock, Exit.then]
        clear hI hII hIX hwi hs1 hs2
        go_wp2_with fail
        exact ⟨by simp, Or.inl ⟨D, _, rfl, run_takeDeferred hK', .bool true, by simp [results, Tryz.results39, go_sem, r6], HFin.out⟩⟩
      case stop =>
        intro D c W hD hI hK
        rw [hIX] at hI
        obtain ⟨rfl, h1, h2, h3⟩ := hI
        have hp := KT.put (B := Y.heap.size) (.deferred none) (by omega) hK rfl
        have r6 : (W.putObj D (.deferred none)).cell? ⟨Y.heap.size + 1 + 1 + 1, 0, none⟩ = some (.bool false) := (World.cell?_of_block (w := W) (a := ⟨Y.heap.size + 1 + 1 + 1, 0, none⟩) (World.putObj_heap_other (by show Y.heap.size + 1 + 1 + 1 ≠ D; omega))).trans h3
        have HFin := hid (HEf.out _ (HJx.out _ _ h1 (hp.mono HYN.out)) (h2.kt hp (by have := HYN.out; have := HRN.out; omega)))
        clear h1 h2 h3 hII hIX hwi
        gi_wp2
        exact ⟨by simp, Or.inl ⟨D, _, rfl, run_takeDeferred hK, .bool false, by simp [results, Tryz.results39, go_sem, r6], HFin.out⟩⟩
  · have r6 := (HSet.out false).2.2
    have HFin := hid (HEf.out _ (HJx.out _ _ hJx1 (HSet.out false).1) (HSet.out false).2.1)
    clear hKor
    gi_wp2
    go_wp2_with fail
    exact ⟨.bool false, by simp [results, Tryz.results39, go_sem, r6], HFin.out⟩

theorem walk_calls (x : JX) (hx : x.Ok) (nxt : List Int → List Int) (no : Nat) (hm : JMx x nxt no) (hsn : ∀ p, p.length < no → x.Hd p → ∀ y ∈ nxt p, x.Hd (p ++ [y])) (l : Nat) (hl : l < x.n0) (hG : LgG x nxt no l) (tot : List (List Int)) (J : List (List Int) → World → Prop) (Jx : World → Prop)
    (hJ : ∀ s X Y, J s X → KT x.n0 X Y → J s Y) (hJx : ∀ X Y, Jx X → KT x.n0 X Y → Jx Y)
    (hY : ∀ ps p vp X Y, J ps X → KT x.n0 X Y → Y.ownsRow X.heap.size 3 1 vp p.length (p.map (Value.int .i64)) → p.length ≤ no → (∃ g c, vp = .slice (some ⟨g, 0, none⟩) p.length c) → ps ++ [p] <+: tot → YieldAt Fence.wide 0 Tryz.prog l #[vp] Y fun e Z => (e = .returned (.bool true) ∧ J (ps ++ [p]) Z ∧ KpS x (fun k => k = l) Y Z) ∨ (e = .returned (.bool false) ∧ Jx Z ∧ KpS x (fun k => k = l) Y Z)) :
    ∀ m, WkC x nxt no l tot J Jx m
  | 0 => walk_step x hx nxt no hm hsn l hl hG tot J Jx hJ hJx hY 0 fun m' h => by omega
  | m + 1 => walk_step x hx nxt no hm hsn l hl hG tot J Jx hJ hJx hY (m + 1) fun m' h => by
    obtain rfl : m' = m := by omega
    exact walk_calls x hx nxt no hm hsn l hl hG tot J Jx hJ hJx hY m'

end Go.Proofs.YtoodbpijgnbfjaaGreat
