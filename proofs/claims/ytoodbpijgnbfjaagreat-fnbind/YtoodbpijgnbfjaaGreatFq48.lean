import Derived.Deep.AppendLies
import Derived.OwnWalkIn
import Derived.RangeFuncBox
import Derived.Test.YtoodbpijgnbfjaaGreatFq45
namespace Go.Proofs.YtoodbpijgnbfjaaGreat
open Go.RowKit Meet Go.Shelf

def visN (ps : List (List Int)) : Nat := (ps.filter fun q => decide (0 < q.length)).length
def endN (no : Nat) (ps : List (List Int)) : List (List Int) := ps.filter fun q => decide (q.length = no)
theorem visN_snoc (ps : List (List Int)) (p : List Int) : visN (ps ++ [p]) = visN ps + (if 0 < p.length then 1 else 0) := by
  unfold visN
  rw [List.filter_append, List.length_append]
  by_cases h : 0 < p.length
  · rw [if_pos h]; simp [h]
  · rw [if_neg h]; simp [h]
theorem endN_snoc (no : Nat) (ps : List (List Int)) (p : List Int) : endN no (ps ++ [p]) = endN no ps ++ (if p.length = no then [p] else []) := by
  unfold endN
  rw [List.filter_append]
  by_cases h : p.length = no
  · rw [if_pos h]; simp [h]
  · rw [if_neg h]; simp [h]
theorem endN_len (no : Nat) (ps : List (List Int)) : (endN no ps).length = cntL ps no := rfl
theorem cntL_pre {ps qs : List (List Int)} (h : ps <+: qs) (i : Nat) : cntL ps i ≤ cntL qs i := by
  obtain ⟨r, rfl⟩ := h
  exact cntL_le ps r i
theorem preJ_cnt {tl : List TbV} {o : List Int} {i : Nat} (hi : i ≤ o.length) : (preJ tl o).filter (fun q => decide (q.length = i)) = lvJ tl o i := by
  unfold preJ lvJ
  cases empJ tl
  · have := dfsF_lvl (nxJ tl o) o.length [] i hi
    rw [List.length_nil, Nat.zero_add] at this
    exact this
  · rfl
theorem preJ_len {tl : List TbV} {o : List Int} : ∀ q ∈ preJ tl o, q.length ≤ o.length := fun q hq => by
  unfold preJ at hq
  cases he : empJ tl
  · rw [he] at hq
    have := (dfsF_long (nxJ tl o) o.length [] q hq).2
    simpa using this
  · rw [he] at hq; cases hq
theorem preJ_vis {tl : List TbV} {o : List Int} : visN (preJ tl o) = viJ tl o o.length := by
  unfold visN
  rw [visits_sum (preJ tl o) o.length preJ_len]
  unfold viJ
  congr 1
  refine List.map_congr_left fun j hj => ?_
  have hj' := List.mem_range.1 hj
  unfold cntL
  rw [preJ_cnt (by omega)]
theorem visN_le {ps : List (List Int)} {k : Nat} (h : ∀ q ∈ ps, q.length ≤ k) (hc : ∀ i, cntL ps i ≤ 10000) : visN ps ≤ k * 10000 := by
  unfold visN
  rw [visits_sum ps k h]
  have : ∀ m, ((List.range m).map fun j => cntL ps (j + 1)).sum ≤ m * 10000 := fun m => by
    induction m with
    | zero => simp
    | succ m ih =>
      rw [List.range_succ, List.map_append, List.sum_append]
      have := hc (m + 1)
      simp only [List.map_cons, List.map_nil, List.sum_cons, List.sum_nil]
      omega
  exact this k
theorem joinJ_ok {tl : List TbV} {o : List Int} (hy : okJ tl o = true) (h : ∀ i, cntL (preJ tl o) i ≤ 10000) : rowJ tl o = endN o.length (preJ tl o) ∧ visJ tl o = (visN (preJ tl o) : Int) := by
  have hs : smJ tl o o.length = true := by
    unfold smJ
    rw [List.all_eq_true]
    intro i hi
    have hi' := List.mem_range.1 hi
    have := h (i + 1)
    unfold cntL at this
    rw [preJ_cnt (by omega)] at this
    exact decide_eq_true this
  obtain ⟨h1, h2⟩ := rowJ_yes hy
  rw [h1, h2, hs]
  refine ⟨?_, by rw [preJ_vis]; rfl⟩
  show lvJ tl o o.length = (preJ tl o).filter _
  rw [preJ_cnt (Nat.le_refl _)]
theorem joinJ_no {tl : List TbV} {o : List Int} (hy : okJ tl o = true) {i : Nat} (hi : i ≤ o.length) (h : 10000 < cntL (preJ tl o) i) : rowJ tl o = [] ∧ visJ tl o = -1 := by
  have hs : smJ tl o o.length = false := by
    unfold cntL at h
    rw [preJ_cnt hi] at h
    cases i with
    | zero => have := lvJ_zero tl o; omega
    | succ i => exact smJ_false (j := i) (by omega) (by omega)
  obtain ⟨h1, h2⟩ := rowJ_yes hy
  rw [h1, h2, hs]
  exact ⟨rfl, rfl⟩

def heldA (c : Nat → Nat) : Array Value := #[.int .i64 (c 0), .int .i64 (c 1), .int .i64 (c 2), .int .i64 (c 3), .int .i64 (c 4), .int .i64 (c 5), .int .i64 (c 6)]
def HX (W : World) (k : Nat) (c : Nat → Nat) : Prop := W.heap[k]? = some (.cells (heldA c) 61 (0, 0))
theorem heldA_get (c : Nat → Nat) {v : Nat} (h : v < 7) : (heldA c)[v]? = some (.int .i64 (c v)) := by
  obtain rfl | rfl | rfl | rfl | rfl | rfl | rfl : v = 0 ∨ v = 1 ∨ v = 2 ∨ v = 3 ∨ v = 4 ∨ v = 5 ∨ v = 6 := by omega
  all_goals rfl
section
variable {W W' : World} {k : Nat} {c : Nat → Nat}
theorem HX.cell (h : HX W k c) {v : Nat} (hv : v < 7) : W.cell? ⟨k, v, none⟩ = some (.int .i64 (c v)) := by rw [cell_of_row _ _ _ _ _ _ h]; exact heldA_get c hv
theorem HX.free (h : HX W k c) (j : Nat) : W.frozen? ⟨k, j, none⟩ = false := by unfold World.frozen?; rw [show W.heap[k]? = _ from h]; simp
theorem HX.set (h : HX W k c) {v : Nat} (hv : v < 7) (n : Nat) : HX (W.setCell ⟨k, v, none⟩ (.int .i64 n)) k (fun i => if i = v then n else c i) := by
  unfold HX
  rw [heap_setCell_same _ _ _ _ _ _ h]
  obtain rfl | rfl | rfl | rfl | rfl | rfl | rfl : v = 0 ∨ v = 1 ∨ v = 2 ∨ v = 3 ∨ v = 4 ∨ v = 5 ∨ v = 6 := by omega
  all_goals simp [heldA]
theorem HX.congr {c' : Nat → Nat} (h : HX W k c) (he : ∀ i, i < 7 → c' i = c i) : HX W k c' := by
  have : heldA c' = heldA c := by unfold heldA; rw [he 0 (by omega), he 1 (by omega), he 2 (by omega), he 3 (by omega), he 4 (by omega), he 5 (by omega), he 6 (by omega)]
  unfold HX
  rw [this]
  exact h
end
theorem RQ.kt {B C : Nat} {X Y : World} {v : Value} {us : List Value} {ls : List (List Int)} (h : RQ X B v us ls) (hk : KT C X Y) : RQ Y B v us ls :=
  ⟨own_move h.own fun g hg => by
    obtain ⟨cur, hc⟩ := own_typ h.own hg
    exact hk.cel g cur _ _ hc (by decide) (by decide), h.len, fun i hi => own_move (h.each i hi) fun g hg => by
    obtain ⟨cur, hc⟩ := own_typ (h.each i hi) hg
    exact hk.cel g cur _ _ hc (by decide) (by decide), h.ap⟩
theorem TyR.of {h r v : Nat} {W : World} {B n : Nat} {vr : Value} {us : List Value} (hb : Boxed W r 32 vr) (ho : W.ownsRow B 33 1 vr n us) : TyR (jx0 h r v) W := fun k hk => by
  obtain ⟨o, m, c, hc⟩ := hk
  have h1 : W.cell? ⟨r, 0, none⟩ = some (.slice (some ⟨k, o, none⟩) m c) := hc
  rw [hb.cell] at h1
  cases h1
  obtain ⟨cur, h2⟩ := own_typ ho (g := k) rfl
  exact ⟨cur, _, h2⟩
theorem RBk.iff {h r v : Nat} {W : World} {vr : Value} (hb : Boxed W r 32 vr) {k : Nat} (hk : RBk (jx0 h r v) W k) : vr.ownBlock = some k := by
  obtain ⟨o, m, c, hc⟩ := hk
  have h1 : W.cell? ⟨r, 0, none⟩ = some (.slice (some ⟨k, o, none⟩) m c) := hc
  rw [hb.cell] at h1
  cases h1
  rfl
section
variable {h r v : Nat} {W W' w3 : World} {vr : Value} {us : List Value} {B n g c : Nat}
theorem KpS.box {k j : Nat} {y : Value} (hk : k = h ∨ k = v) (hr : r ≠ k) (hty : TyR (jx0 h r v) W → TyR (jx0 h r v) (W.setCell ⟨k, j, none⟩ y)) : KpS (jx0 h r v) (fun _ => False) W (W.setCell ⟨k, j, none⟩ y) := by
  have he : (W.setCell ⟨k, j, none⟩ y).heap[(jx0 h r v).r]? = W.heap[(jx0 h r v).r]? := Below.heap_setCell _ _ _ _ hr
  refine ⟨rfl, rfl, rfl, by simp [World.setCell], fun i o hi _ hm => (Below.heap_setCell _ _ _ _ fun e => ?_).trans hi, fun i hi => Or.inl ((RBk.eq he i).1 hi), hty⟩
  have e' : i = k := e
  rcases hk with rfl | rfl
  · exact hm (Or.inl e')
  · exact hm (Or.inr (Or.inr (Or.inl e')))
theorem KpS.rows {o : Obj} {m : Nat} {ys : List Value} (hg : (W.alloc o).grownBy w3 vr.ownBlock) (hown : w3.ownsRow B 33 1 (.slice (some ⟨g, 0, none⟩) m c) m ys) (hat : vr.ownBlock = some g ∨ W.heap.size ≤ g) (hgr : g ≠ r) (hb3 : Boxed (w3.setCell ⟨r, 0, none⟩ (.slice (some ⟨g, 0, none⟩) m c)) r 32 (.slice (some ⟨g, 0, none⟩) m c)) (hvr : ∀ q, vr.ownBlock = some q → RBk (jx0 h r v) W q) :
    KpS (jx0 h r v) (fun _ => False) W (w3.setCell ⟨r, 0, none⟩ (.slice (some ⟨g, 0, none⟩) m c)) := by
  have hs := hg.size
  rw [World.size_alloc] at hs
  refine ⟨hg.os, hg.tape, hg.output, ?_, fun i ob hi _ hm => ?_, fun i hi => ?_, fun _ => ?_⟩
  · show W.heap.size ≤ (w3.setCell _ _).heap.size
    simp [World.setCell]
    omega
  · have hir : i ≠ r := fun e => hm (Or.inr (Or.inl e))
    have hlt := lt_some hi
    refine (Below.heap_setCell _ _ _ _ (by exact hir)).trans ((hg.block i (by rw [World.size_alloc]; omega) fun e => hm (Or.inr (Or.inr (Or.inr (hvr i e.symm))))).trans ((Below.heap_alloc _ _ _ hlt).trans hi))
  · have h1 := RBk.iff (h := h) (v := v) hb3 hi
    have h2 : g = i := by simpa [Value.ownBlock] using h1
    subst h2
    rcases hat with h3 | h3
    · exact Or.inl (hvr _ h3)
    · exact Or.inr h3
  · refine TyR.of hb3 (own_move hown fun q hq => Below.heap_setCell _ _ _ _ ?_)
    have h2 : g = q := by simpa [Value.ownBlock] using hq
    subst h2
    exact hgr
theorem KpS.keepsF {C : Nat} (hk : KpS (jx0 h r v) (fun _ => False) W W') (ht : TyR (jx0 h r v) W) (hh : h < C) (hr : r < C) (hv : v < C) : KeepsFrom C W W' := by
  refine ⟨hk.size, fun k o hC h0 ho => hk.same k o h0 (Or.inr id) fun hm => ?_⟩
  rcases hm with e | e | e | e
  · have : k = h := e; omega
  · have : k = r := e; omega
  · have : k = v := e; omega
  · obtain ⟨cur, z, hc⟩ := ht k e
    rw [h0] at hc
    cases hc
    cases ho
end

end Go.Proofs.YtoodbpijgnbfjaaGreat

namespace Go.Proofs.YtoodbpijgnbfjaaGreat
open Go.RowKit Meet Go.Shelf

theorem wpListIn_append_lies {F : Fence} {N : Nat} {P : Program} (w : World) {ops : Array Oper} {rest : List Oper} {o : Oper} {a : Act} {Q : Exit → Act → World → Prop} (hgd : o.guard = none) (s x : Operand) (t : TypeId)
    (ho : o.op = .call { callee := .builtin .append, args := #[s, x], argTypes := #[t, t] })
    (base : Nat) (e : TypeId) (i : TypeInfo) (z : Value) (size bytes : Nat) (ht : P.underlying t = some (.slice e)) (hi : P.info? e = some i) (hz : i.zero = some z)
    (hsize : i.size = size) (hby : i.bytes = bytes) (hzs : z.cells.size = size) (hsz : 0 < size)
    (v : Value) (n : Nat) (xs : List Value) (hs : a.eval s = v) (hown : w.ownsRow base e size v n xs)
    (ad : Addr) (m c : Nat) (news : List Value) (hx : a.eval x = .slice (some ad) m c) (hl : news.length = m * size) (hnews : ∀ j u, news[j]? = some u → w.cell? (ad.add j) = some u) (h1 : ∀ u ∈ news, u.oneCell' = true)
    (hm : 0 < m) (h63 : n + m ≤ maxLen) (hbytes : (n + m) * bytes ≤ 140737488355328) (hbase : base ≤ w.heap.size)
    (h : ∀ g cap w', w'.ownsRow base e size (.slice (some ⟨g, 0, none⟩) (n + m) cap) (n + m) (xs ++ news) → w.grownBy w' v.ownBlock → (v.ownBlock = some g ∨ g = w.heap.size) → wpListIn F N P ops Q rest (a.put o.dst (.slice (some ⟨g, 0, none⟩) (n + m) cap)) w') : wpListIn F N P ops Q (o :: rest) a w := by
  refine wpListIn_plain hgd fun K hK' => ?_
  obtain ⟨g, cap, w', hrun, r1, r2, r3, -⟩ := run_append_lies (P := P) w t o.type base e i z size bytes ht hi hz hsize hby hzs hsz v n xs hown ad m c news hl hnews h1 hm h63 hbytes hbase w.heap.size rfl
  unfold Oper.wpIn
  refine ⟨?_, ?_⟩
  · simp [Oper.about, ho, resolve, Target.leads, Sem.run_pure]
  · rw [Oper.semAt_plain F _ _ (by rw [ho]; intro c hc'; cases hc')]
    simp [execOp, ho, resolve, invoke, builtin, hs, hx, hrun, Result.andThen]
    exact hK' _ _ (h g cap w' r1 r2 r3)

theorem bx_ne {W : World} {k k' : Nat} {cs cs' : Array Value} {t t' : TypeId} {z z' : Nat × Nat} (h : W.heap[k]? = some (.cells cs t z)) (h' : W.heap[k']? = some (.cells cs' t' z')) (ht : t ≠ t') : k ≠ k' := fun e => by
  subst e
  rw [h] at h'
  cases h'
  exact ht rfl
structure JS (B bo r v h : Nat) (vo : Value) (c : Nat → Nat) (vn : Int) (ls : List (List Int)) (vr : Value) (us : List Value) (w W : World) : Prop where
  hb : HX W h c
  rb : Boxed W r 32 vr
  rq : RQ W (bo + 1) vr us ls
  vb : Boxed W v 3 (.int .i64 vn)
  ob : Boxed W bo 33 vo
  bel : Below B w W
  sh : ∃ g k, vr = .slice (some ⟨g, 0, none⟩) ls.length k
  ap : ∀ i, i < ls.length → ∀ g, (us.getD i undef).ownBlock = some g → g ≠ v
  low : B ≤ bo ∧ B ≤ r ∧ B ≤ v ∧ B ≤ h
section
variable {B bo r v h : Nat} {vo vr : Value} {c : Nat → Nat} {vn : Int} {ls : List (List Int)} {us : List Value} {w W Y : World}
theorem JS.kt {C : Nat} (j : JS B bo r v h vo c vn ls vr us w W) (hk : KT C W Y) (hC : B ≤ C) : JS B bo r v h vo c vn ls vr us w Y :=
  ⟨(hk.cel _ _ _ _ j.hb (by decide) (by decide)).trans j.hb, (hk.cel _ _ _ _ j.rb (by decide) (by decide)).trans j.rb, j.rq.kt hk, (hk.cel _ _ _ _ j.vb (by decide) (by decide)).trans j.vb, (hk.cel _ _ _ _ j.ob (by decide) (by decide)).trans j.ob, j.bel.trans (hk.bel.mono hC), j.sh, j.ap, j.low⟩
theorem JS.ty (j : JS B bo r v h vo c vn ls vr us w W) : TyR (jx0 h r v) W := TyR.of j.rb j.rq.own
theorem JS.own_ne (j : JS B bo r v h vo c vn ls vr us w W) {k : Nat} {cs : Array Value} {t : TypeId} (hk : W.heap[k]? = some (.cells cs t (0, 0))) (ht : 33 ≠ t) : vr.ownBlock ≠ some k := fun e => Go.Proofs.YtoodbpijgnbfjaaGreat.own_ne j.rq.own ⟨_, hk⟩ ht e.symm
theorem JS.held (j : JS B bo r v h vo c vn ls vr us w W) {i : Nat} (hi : i < 7) (n : Nat) : JS B bo r v h vo (fun q => if q = i then n else c q) vn ls vr us w (W.setCell ⟨h, i, none⟩ (.int .i64 n)) ∧ KpS (jx0 h r v) (fun _ => False) W (W.setCell ⟨h, i, none⟩ (.int .i64 n)) := by
  have e1 : r ≠ h := bx_ne j.rb j.hb (by decide)
  have e2 : v ≠ h := bx_ne j.vb j.hb (by decide)
  have e3 : bo ≠ h := bx_ne j.ob j.hb (by decide)
  have k : ∀ q, q ≠ h → (W.setCell ⟨h, i, none⟩ (.int .i64 n)).heap[q]? = W.heap[q]? := fun q hq => Below.heap_setCell _ _ _ _ hq
  have hrb : Boxed (W.setCell ⟨h, i, none⟩ (.int .i64 n)) r 32 vr := (k _ e1).trans j.rb
  have hrq : RQ (W.setCell ⟨h, i, none⟩ (.int .i64 n)) (bo + 1) vr us ls := ⟨own_move j.rq.own fun g hg => k g fun e => j.own_ne j.hb (by decide) (by rw [hg, e]), j.rq.len, fun q hq => own_move (j.rq.each q hq) fun g hg => k g fun e => Go.Proofs.YtoodbpijgnbfjaaGreat.own_ne (j.rq.each q hq) ⟨_, j.hb⟩ (by decide) (by rw [hg, e]), j.rq.ap⟩
  refine ⟨⟨j.hb.set hi n, hrb, hrq, (k _ e2).trans j.vb, (k _ e3).trans j.ob, j.bel.setCell (by exact j.low.2.2.2) _, j.sh, j.ap, j.low⟩, KpS.box (Or.inl rfl) e1 fun _ => TyR.of hrb hrq.own⟩
theorem JS.vis (j : JS B bo r v h vo c vn ls vr us w W) (n : Int) : JS B bo r v h vo c n ls vr us w (W.setCell ⟨v, 0, none⟩ (.int .i64 n)) ∧ KpS (jx0 h r v) (fun _ => False) W (W.setCell ⟨v, 0, none⟩ (.int .i64 n)) := by
  have e1 : r ≠ v := bx_ne j.rb j.vb (by decide)
  have e2 : h ≠ v := bx_ne j.hb j.vb (by decide)
  have e3 : bo ≠ v := bx_ne j.ob j.vb (by decide)
  have k : ∀ q, q ≠ v → (W.setCell ⟨v, 0, none⟩ (.int .i64 n)).heap[q]? = W.heap[q]? := fun q hq => Below.heap_setCell _ _ _ _ hq
  have hrb : Boxed (W.setCell ⟨v, 0, none⟩ (.int .i64 n)) r 32 vr := (k _ e1).trans j.rb
  have hrq : RQ (W.setCell ⟨v, 0, none⟩ (.int .i64 n)) (bo + 1) vr us ls := ⟨own_move j.rq.own fun g hg => k g fun e => j.own_ne j.vb (by decide) (by rw [hg, e]), j.rq.len, fun q hq => own_move (j.rq.each q hq) fun g hg => k g (j.ap q hq g hg), j.rq.ap⟩
  refine ⟨⟨(k _ e2).trans j.hb, hrb, hrq, j.vb.set _, (k _ e3).trans j.ob, j.bel.setCell (by exact j.low.2.2.1) _, j.sh, j.ap, j.low⟩, KpS.box (Or.inr rfl) e1 fun _ => TyR.of hrb hrq.own⟩
theorem JS.push (j : JS B bo r v h vo c vn ls vr us w W) {o : Obj} {w3 : World} {g cp : Nat} {u : Value} {l : List Int} (hu : W.ownsRow (bo + 1) 3 1 u l.length (l.map (Value.int .i64))) (hn : ∀ i, i < ls.length → ∀ g, (us.getD i undef).ownBlock = some g → u.ownBlock ≠ some g) (hv : u.ownBlock ≠ some v)
    (hown : w3.ownsRow (bo + 1) 33 1 (.slice (some ⟨g, 0, none⟩) (ls.length + 1) cp) (ls.length + 1) (us ++ [u])) (hg : (W.alloc o).grownBy w3 vr.ownBlock) (hat : vr.ownBlock = some g ∨ g = (W.alloc o).heap.size) :
    Boxed w3 r 32 vr ∧ JS B bo r v h vo c vn (ls ++ [l]) (.slice (some ⟨g, 0, none⟩) (ls.length + 1) cp) (us ++ [u]) w (w3.setCell ⟨r, 0, none⟩ (.slice (some ⟨g, 0, none⟩) (ls.length + 1) cp)) ∧ KpS (jx0 h r v) (fun _ => False) W (w3.setCell ⟨r, 0, none⟩ (.slice (some ⟨g, 0, none⟩) (ls.length + 1) cp)) := by
  have hq := j.rq.step hu hn hown hg
  have kk : ∀ q, q < W.heap.size → vr.ownBlock ≠ some q → w3.heap[q]? = W.heap[q]? := fun q hq1 hq2 => kept_of hg hq1 fun e => hq2 e.symm
  have r3 : Boxed w3 r 32 vr := (kk _ j.rb.lt (j.own_ne j.rb (by decide))).trans j.rb
  have e1 : h ≠ r := bx_ne j.hb j.rb (by decide)
  have e2 : v ≠ r := bx_ne j.vb j.rb (by decide)
  have e3 : bo ≠ r := bx_ne j.ob j.rb (by decide)
  have k : ∀ q, q ≠ r → (w3.setCell ⟨r, 0, none⟩ (.slice (some ⟨g, 0, none⟩) (ls.length + 1) cp)).heap[q]? = w3.heap[q]? := fun q hq => Below.heap_setCell _ _ _ _ hq
  have hbo : vr.ownBlock ≠ some bo := fun e => by have := (j.rq.own.lt bo e).1; omega
  have hgr : g ≠ r := fun e => Go.Proofs.YtoodbpijgnbfjaaGreat.own_ne hown ⟨_, r3⟩ (by decide) (by rw [e]; rfl)
  have hrb := r3.set (.slice (some ⟨g, 0, none⟩) (ls.length + 1) cp)
  have hvr : ∀ q, vr.ownBlock = some q → RBk (jx0 h r v) W q := fun q hq => by
    obtain ⟨g0, k0, e⟩ := j.sh
    rw [e] at hq
    have : g0 = q := by simpa [Value.ownBlock] using hq
    subst this
    exact ⟨0, ls.length, k0, by show W.cell? ⟨r, 0, none⟩ = _; rw [j.rb.cell, e]⟩
  refine ⟨r3, ⟨?_, hrb, ⟨own_move hq.own fun q hq2 => k q fun e => ?_, hq.len, fun i hi => own_move (hq.each i hi) fun q hq2 => k q fun e => Go.Proofs.YtoodbpijgnbfjaaGreat.own_ne (hq.each i hi) ⟨_, r3⟩ (by decide) (by rw [hq2, e]), hq.ap⟩, ?_, ?_, ?_, ⟨g, cp, by rw [List.length_append]; rfl⟩, fun i hi q hq2 => ?_, j.low⟩, ?_⟩
  · exact (k _ e1).trans ((kk _ (lt_some j.hb) (j.own_ne j.hb (by decide))).trans j.hb)
  · have : g = q := by simpa [Value.ownBlock] using hq2
    exact hgr (this.trans e)
  · exact (k _ e2).trans ((kk _ j.vb.lt (j.own_ne j.vb (by decide))).trans j.vb)
  · exact (k _ e3).trans ((kk _ j.ob.lt hbo).trans j.ob)
  · have hBW : B ≤ W.heap.size := by have := j.low.1; have := j.ob.lt; omega
    refine ((j.bel.alloc hBW o).grown hg (by rw [World.size_alloc]; omega) fun q hq2 => ?_).setCell (by exact j.low.2.1) _
    have h1 := (j.rq.own.lt q hq2).1
    have h2 := j.low.1
    omega
  · rw [List.length_append, List.length_singleton] at hi
    by_cases hi2 : i < ls.length
    · rw [List.getD_eq_getElem?_getD, List.getElem?_append_left (by rw [j.rq.len]; exact hi2), ← List.getD_eq_getElem?_getD] at hq2
      exact j.ap i hi2 q hq2
    · have hi3 : i = us.length := by rw [j.rq.len]; omega
      rw [hi3, List.getD_eq_getElem?_getD, List.getElem?_append_right (Nat.le_refl _), Nat.sub_self] at hq2
      intro e
      exact hv (by rw [← e]; exact hq2)
  · refine KpS.rows hg hown ?_ hgr hrb hvr
    rcases hat with h1 | h1
    · exact Or.inl h1
    · exact Or.inr (by rw [h1, World.size_alloc]; omega)
theorem JS.reset (j : JS B bo r v h vo c vn ls vr us w W) : JS B bo r v h vo c vn [] (.slice (some ⟨W.heap.size, 0, none⟩) 0 0) [] w ((W.alloc (.cells #[] 33)).setCell ⟨r, 0, none⟩ (.slice (some ⟨W.heap.size, 0, none⟩) 0 0)) ∧ KpS (jx0 h r v) (fun _ => False) W ((W.alloc (.cells #[] 33)).setCell ⟨r, 0, none⟩ (.slice (some ⟨W.heap.size, 0, none⟩) 0 0)) := by
  have hown : (W.alloc (.cells #[] 33)).ownsRow (bo + 1) 33 1 (.slice (some ⟨W.heap.size, 0, none⟩) 0 0) 0 [] := World.ownsRow_made W (e := 33) (size := 1) (base := bo + 1) #[] 0 (by have := j.ob.lt; omega) (by decide) rfl
  have r3 : Boxed (W.alloc (.cells #[] 33)) r 32 vr := j.rb.alloc _
  have e1 : h ≠ r := bx_ne j.hb j.rb (by decide)
  have e2 : v ≠ r := bx_ne j.vb j.rb (by decide)
  have e3 : bo ≠ r := bx_ne j.ob j.rb (by decide)
  have k : ∀ q, q ≠ r → ((W.alloc (.cells #[] 33)).setCell ⟨r, 0, none⟩ (.slice (some ⟨W.heap.size, 0, none⟩) 0 0)).heap[q]? = (W.alloc (.cells #[] 33)).heap[q]? := fun q hq => Below.heap_setCell _ _ _ _ hq
  have hBW : B ≤ W.heap.size := by have := j.low.1; have := j.ob.lt; omega
  have hgr : W.heap.size ≠ r := by have := j.rb.lt; omega
  have hrb := r3.set (.slice (some ⟨W.heap.size, 0, none⟩) 0 0)
  have hvr : ∀ q, vr.ownBlock = some q → RBk (jx0 h r v) W q := fun q hq => by
    obtain ⟨g0, k0, e⟩ := j.sh
    rw [e] at hq
    have : g0 = q := by simpa [Value.ownBlock] using hq
    subst this
    exact ⟨0, ls.length, k0, by show W.cell? ⟨r, 0, none⟩ = _; rw [j.rb.cell, e]⟩
  have ka : ∀ q o, W.heap[q]? = some o → (W.alloc (.cells #[] 33)).heap[q]? = some o := fun q o hq => (Below.heap_alloc _ _ _ (lt_some hq)).trans hq
  refine ⟨⟨(k _ e1).trans (ka _ _ j.hb), hrb, ⟨own_move hown fun q hq => k q fun e => ?_, rfl, fun i hi => by simp at hi, fun i q _ hq => by simp at hq⟩, (k _ e2).trans (ka _ _ j.vb), (k _ e3).trans (ka _ _ j.ob), (j.bel.alloc hBW _).setCell (by exact j.low.2.1) _, ⟨_, _, rfl⟩, fun i hi => by simp at hi, j.low⟩, KpS.rows (World.grownBy.refl _ vr.ownBlock) hown (Or.inr (Nat.le_refl _)) hgr hrb hvr⟩
  have : W.heap.size = q := by simpa [Value.ownBlock] using hq
  exact hgr (this.trans e)
end

end Go.Proofs.YtoodbpijgnbfjaaGreat
