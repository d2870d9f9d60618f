import Derived.Test.YtcdfoephhjacdaaDoorQ69
/-
  The program's parser: take, walked.
-/
namespace Go.Proofs.YtcdfoephhjacdaaDoor
open Go.RowKit

theorem q4T {W : World} {r : Nat} {ty : TypeId} {a b c d a' b' c' d' : Value} (h : W.heap[r]? = some (.cells #[a, b, c, d] ty (0, 0))) :
    ((((W.setCell ⟨r, 0, none⟩ a').setCell ⟨r, 1, none⟩ b').setCell ⟨r, 2, none⟩ c').setCell ⟨r, 3, none⟩ d').heap[r]? = some (.cells #[a', b', c', d'] ty (0, 0)) := by
  have h1 : (W.setCell ⟨r, 0, none⟩ a').heap[r]? = some (.cells #[a', b, c, d] ty (0, 0)) := by rw [heap_setCell_same _ _ _ _ _ _ h]; rfl
  have h2 : ((W.setCell ⟨r, 0, none⟩ a').setCell ⟨r, 1, none⟩ b').heap[r]? = some (.cells #[a', b', c, d] ty (0, 0)) := by rw [heap_setCell_same _ _ _ _ _ _ h1]; rfl
  have h3 : (((W.setCell ⟨r, 0, none⟩ a').setCell ⟨r, 1, none⟩ b').setCell ⟨r, 2, none⟩ c').heap[r]? = some (.cells #[a', b', c', d] ty (0, 0)) := by rw [heap_setCell_same _ _ _ _ _ _ h2]; rfl
  rw [heap_setCell_same _ _ _ _ _ _ h3]; rfl
theorem PaS.set {W : World} {g tb cap r o : Nat} {a : Option Addr} {l : List TkV} {v : Value} (h : PaS W g tb a cap l) (h1 : r ≠ g) (h2 : r ≠ tb) : PaS (W.setCell ⟨r, o, none⟩ v) g tb a cap l :=
  ⟨by rw [Below.heap_setCell _ _ _ _ (fun e => h1 e.symm)]; exact h.blk, h.cap, fun j hj => by
    obtain ⟨q, e, hc⟩ := h.at' j hj
    exact ⟨q, e, fun i hi => by rw [World.cell?_setCell_other _ _ _ _ (by intro e3; simp only [Addr.mk.injEq] at e3; exact h2 (by omega))]; exact hc i hi⟩, h.ne⟩

/-- how take ends -/
def TakP (w : World) (g tb : Nat) (ks : List Nat) (l : List TkV) (e : Ending) (w' : World) : Prop :=
  match l with
  | [] => e = .panicked (flt (-1)) ∧ Below w.heap.size w w'
  | t :: r => if t.k ∈ ks then e = .returned (.agg #[.string (kdT t.k), .string t.nm, .int .i64 (t.v : Int), .int .i64 (t.at' : Int)]) ∧ (∃ a cap, PaS w' g tb a cap r) ∧ Ex g w w' else e = .panicked (flt (t.at' : Int)) ∧ Below w.heap.size w w'

set_option maxHeartbeats 4000000 in
set_option maxRecDepth 1000000 in
theorem take_none (w : World) (g tb cap : Nat) (a : Option Addr) (vk : Value) (h : PaS w g tb a cap []) : Calls Tryd.prog 111 #[.pointer (some ⟨g, 0, none⟩), vk] w fun e w' => e = .panicked (flt (-1)) ∧ Below w.heap.size w w' := by
  have c0 := h.c0
  have d0 : (w.alloc (.cells #[.string ⟨#[]⟩, .string ⟨#[]⟩, .int .i64 0, .int .i64 0] 151)).cell? ⟨g, 0, none⟩ = some (.slice a 0 cap) := (World.cell?_alloc_past _ _ _ h.lt).trans c0
  have hb : Below w.heap.size w (w.alloc (.cells #[.string ⟨#[]⟩, .string ⟨#[]⟩, .int .i64 0, .int .i64 0] 151)) := (Below.refl _ _).alloc (Nat.le_refl _) _
  have HB := hid hb
  clear h hb
  go_enter Tryd.func111, Tryd.ntmps111
  go_wp2_with fail
  exact ⟨rfl, rfl, HB.out⟩

set_option maxHeartbeats 4000000 in
set_option maxRecDepth 1000000 in
theorem take_no (w : World) (g tb cap : Nat) (a : Option Addr) (vk : Value) (ks : List Nat) (t : TkV) (r : List TkV) (h : PaS w g tb a cap (t :: r)) (hk : ISt w vk (ks.map kdT)) (hkl : ks.length ≤ 100) (hk8 : ∀ k ∈ ks, k < 256) (ht : TkOk t) (hl : r.length ≤ 1000000) (hm : ¬ t.k ∈ ks) : Calls Tryd.prog 111 #[.pointer (some ⟨g, 0, none⟩), vk] w fun e w' => e = .panicked (flt (t.at' : Int)) ∧ Below w.heap.size w w' := by
  obtain ⟨W1, hW1⟩ : ∃ W, W = w.alloc (.cells #[.string ⟨#[]⟩, .string ⟨#[]⟩, .int .i64 0, .int .i64 0] 151) := ⟨_, rfl⟩
  have hb1 : Below w.heap.size w W1 := by rw [hW1]; exact (Below.refl _ _).alloc (Nat.le_refl _) _
  have h1 := h.below hb1
  have c0 := h1.c0
  obtain ⟨o, ea, hc⟩ := h1.at' 0 (by simp)
  have t0 : W1.cell? ⟨tb, o, none⟩ = some (.string (kdT t.k)) := hc 0 (by omega)
  have t1 : W1.cell? ⟨tb, o + 1, none⟩ = some (.string t.nm) := hc 1 (by omega)
  have t2 : W1.cell? ⟨tb, o + 2, none⟩ = some (.int .i64 (t.v : Int)) := hc 2 (by omega)
  have t3 : W1.cell? ⟨tb, o + 3, none⟩ = some (.int .i64 (t.at' : Int)) := hc 3 (by omega)
  obtain ⟨W2, hW2⟩ : ∃ W, W = W1.alloc (.cells #[.string (kdT t.k), .string t.nm, .int .i64 (t.v : Int), .int .i64 (t.at' : Int)] 151) := ⟨_, rfl⟩
  have hb2 : Below W1.heap.size W1 W2 := by rw [hW2]; exact (Below.refl _ _).alloc (Nat.le_refl _) _
  have h2 := h1.below hb2
  have hs12 : W1.heap.size = w.heap.size + 1 := by rw [hW1]; simp
  have hs2 : W2.heap.size = W1.heap.size + 1 := by rw [hW2]; simp
  have hbl : W2.heap[W1.heap.size]? = some (.cells #[.string (kdT t.k), .string t.nm, .int .i64 (t.v : Int), .int .i64 (t.at' : Int)] 151 (0, 0)) := by rw [hW2]; exact heap_alloc_new _ _
  have hbr : W2.heap[w.heap.size]? = some (.cells #[.string ⟨#[]⟩, .string ⟨#[]⟩, .int .i64 0, .int .i64 0] 151 (0, 0)) := by
    rw [hb2.block w.heap.size (by omega), hW1]; exact heap_alloc_new _ _
  have hb02 : Below w.heap.size w W2 := hb1.trans (hb2.mono (by omega))
  have KC := hid (containsT_calls W2 vk (ks.map kdT) (kdT t.k) (hk.below hb02) (by rw [List.length_map]; omega))
  rw [has_kd ht hk8] at KC
  have KU := hid (unfit_calls W2 t)
  have HTB : Hid (tb < w.heap.size) := hid (by
    obtain ⟨o2, -, hc2⟩ := h.at' 0 (by simp)
    exact World.block_lt_of_cell? w _ (hc2 0 (by omega)))
  have hcap := h1.cap
  rw [List.length_cons] at hcap
  have e0 : W2.cell? ⟨g, 0, none⟩ = some (.slice a (r.length + 1) cap) := h2.c0
  have fg := h2.free 0
  have hglt := h.lt
  have HP2 := hid h2
  have HB2 := hid hb02
  have hn : ((r.length : Int) + 1 == 0) = false := by simp; omega
  have l0 : W2.cell? ⟨W1.heap.size, 0, none⟩ = some (.string (kdT t.k)) := cell_of_row _ _ _ _ _ _ hbl
  have l1 : W2.cell? ⟨W1.heap.size, 1, none⟩ = some (.string t.nm) := cell_of_row _ _ _ _ _ _ hbl
  have l2 : W2.cell? ⟨W1.heap.size, 2, none⟩ = some (.int .i64 (t.v : Int)) := cell_of_row _ _ _ _ _ _ hbl
  have l3 : W2.cell? ⟨W1.heap.size, 3, none⟩ = some (.int .i64 (t.at' : Int)) := cell_of_row _ _ _ _ _ _ hbl
  rw [hs12] at l0 l1 l2 l3
  clear hs2
  have c0' : W1.cell? ⟨g, 0, none⟩ = some (.slice a (r.length + 1) cap) := c0
  have HBR := hid hbr
  rw [decide_eq_false hm] at KC
  clear h h1 h2 hc hb1 hb2 hbl hbr hk hk8 c0 hb02
  generalize kdT t.k = kd at *
  generalize t.nm = nm at *
  generalize (t.v : Int) = tv at *
  generalize (t.at' : Int) = ta at *
  subst ea
  generalize hrl : r.length = n at *
  clear HP2 HBR hrl HTB
  go_enter Tryd.func111, Tryd.ntmps111
  go_upto_region 1 with fail
  rw [← hW1]
  clear hW1
  go_upto_region 4 with fail
  rw [← hW2]
  clear hW2 t0 t1 t2 t3 c0'
  go_wp2_with (first | (go_at_call 131; refine KC.out.mono ?_; rintro e w' ⟨rfl, hw'⟩; subst w') | (go_at_call 114; refine KU.out.mono ?_; rintro e w3 ⟨rfl, hb3⟩; have HB3 := hid (bt HB2.out hb3); clear hb3) | fail)
  exact ⟨rfl, rfl, HB3.out⟩

set_option maxHeartbeats 4000000 in
set_option maxRecDepth 1000000 in
theorem take_yes (w : World) (g tb cap : Nat) (a : Option Addr) (vk : Value) (ks : List Nat) (t : TkV) (r : List TkV) (h : PaS w g tb a cap (t :: r)) (hk : ISt w vk (ks.map kdT)) (hkl : ks.length ≤ 100) (hk8 : ∀ k ∈ ks, k < 256) (ht : TkOk t) (hl : r.length ≤ 1000000) (hm : t.k ∈ ks) : Calls Tryd.prog 111 #[.pointer (some ⟨g, 0, none⟩), vk] w fun e w' => e = .returned (.agg #[.string (kdT t.k), .string t.nm, .int .i64 (t.v : Int), .int .i64 (t.at' : Int)]) ∧ (∃ a cap, PaS w' g tb a cap r) ∧ Ex g w w' := by
  obtain ⟨W1, hW1⟩ : ∃ W, W = w.alloc (.cells #[.string ⟨#[]⟩, .string ⟨#[]⟩, .int .i64 0, .int .i64 0] 151) := ⟨_, rfl⟩
  have hb1 : Below w.heap.size w W1 := by rw [hW1]; exact (Below.refl _ _).alloc (Nat.le_refl _) _
  have h1 := h.below hb1
  have c0 := h1.c0
  obtain ⟨o, ea, hc⟩ := h1.at' 0 (by simp)
  have t0 : W1.cell? ⟨tb, o, none⟩ = some (.string (kdT t.k)) := hc 0 (by omega)
  have t1 : W1.cell? ⟨tb, o + 1, none⟩ = some (.string t.nm) := hc 1 (by omega)
  have t2 : W1.cell? ⟨tb, o + 2, none⟩ = some (.int .i64 (t.v : Int)) := hc 2 (by omega)
  have t3 : W1.cell? ⟨tb, o + 3, none⟩ = some (.int .i64 (t.at' : Int)) := hc 3 (by omega)
  obtain ⟨W2, hW2⟩ : ∃ W, W = W1.alloc (.cells #[.string (kdT t.k), .string t.nm, .int .i64 (t.v : Int), .int .i64 (t.at' : Int)] 151) := ⟨_, rfl⟩
  have hb2 : Below W1.heap.size W1 W2 := by rw [hW2]; exact (Below.refl _ _).alloc (Nat.le_refl _) _
  have h2 := h1.below hb2
  have hs12 : W1.heap.size = w.heap.size + 1 := by rw [hW1]; simp
  have hs2 : W2.heap.size = W1.heap.size + 1 := by rw [hW2]; simp
  have hbl : W2.heap[W1.heap.size]? = some (.cells #[.string (kdT t.k), .string t.nm, .int .i64 (t.v : Int), .int .i64 (t.at' : Int)] 151 (0, 0)) := by rw [hW2]; exact heap_alloc_new _ _
  have hbr : W2.heap[w.heap.size]? = some (.cells #[.string ⟨#[]⟩, .string ⟨#[]⟩, .int .i64 0, .int .i64 0] 151 (0, 0)) := by
    rw [hb2.block w.heap.size (by omega), hW1]; exact heap_alloc_new _ _
  have hb02 : Below w.heap.size w W2 := hb1.trans (hb2.mono (by omega))
  have KC := hid (containsT_calls W2 vk (ks.map kdT) (kdT t.k) (hk.below hb02) (by rw [List.length_map]; omega))
  rw [has_kd ht hk8] at KC
  have KU := hid (unfit_calls W2 t)
  have HTB : Hid (tb < w.heap.size) := hid (by
    obtain ⟨o2, -, hc2⟩ := h.at' 0 (by simp)
    exact World.block_lt_of_cell? w _ (hc2 0 (by omega)))
  have hcap := h1.cap
  rw [List.length_cons] at hcap
  have e0 : W2.cell? ⟨g, 0, none⟩ = some (.slice a (r.length + 1) cap) := h2.c0
  have fg := h2.free 0
  have hglt := h.lt
  have HP2 := hid h2
  have HB2 := hid hb02
  have hn : ((r.length : Int) + 1 == 0) = false := by simp; omega
  have l0 : W2.cell? ⟨W1.heap.size, 0, none⟩ = some (.string (kdT t.k)) := cell_of_row _ _ _ _ _ _ hbl
  have l1 : W2.cell? ⟨W1.heap.size, 1, none⟩ = some (.string t.nm) := cell_of_row _ _ _ _ _ _ hbl
  have l2 : W2.cell? ⟨W1.heap.size, 2, none⟩ = some (.int .i64 (t.v : Int)) := cell_of_row _ _ _ _ _ _ hbl
  have l3 : W2.cell? ⟨W1.heap.size, 3, none⟩ = some (.int .i64 (t.at' : Int)) := cell_of_row _ _ _ _ _ _ hbl
  rw [hs12] at l0 l1 l2 l3
  clear hs2
  have c0' : W1.cell? ⟨g, 0, none⟩ = some (.slice a (r.length + 1) cap) := c0
  have HBR := hid hbr
  rw [decide_eq_true hm] at KC
  clear h h1 h2 hc hb1 hb2 hbl hbr hk hk8 c0 hb02
  generalize kdT t.k = kd at *
  generalize t.nm = nm at *
  generalize (t.v : Int) = tv at *
  generalize (t.at' : Int) = ta at *
  subst ea
  generalize hrl : r.length = n at *
  clear KU
  go_enter Tryd.func111, Tryd.ntmps111
  go_upto_region 1 with fail
  rw [← hW1]
  clear hW1
  go_upto_region 4 with fail
  rw [← hW2]
  clear hW2 t0 t1 t2 t3 c0'
  go_upto_region 6 with (first | (go_at_call 131; refine KC.out.mono ?_; rintro e w' ⟨rfl, hw'⟩; subst w') | fail)
  clear KC
  have htb : tb < w.heap.size := HTB.out
  have HST : Hid (PaS (W2.setCell ⟨g, 0, none⟩ (.slice (if cap = 1 then some ⟨tb, o, none⟩ else some ⟨tb, o + 4, none⟩) n (cap - 1))) g tb (if cap = 1 then some ⟨tb, o, none⟩ else some ⟨tb, o + 4, none⟩) (cap - 1) r) := hid (by
    rw [← hrl]
    refine HP2.out.step fun h0 o' e => ?_
    have e2 : o = o' := by simpa using e
    rw [if_neg (by omega), e2])
  have HX3 : Hid (Ex g w (W2.setCell ⟨g, 0, none⟩ (.slice (if cap = 1 then some ⟨tb, o, none⟩ else some ⟨tb, o + 4, none⟩) n (cap - 1)))) := hid (Ex.bel HB2.out).set
  have HKp : Hid (∀ v : Value, (W2.setCell ⟨g, 0, none⟩ v).heap[w.heap.size]? = some (.cells #[.string ⟨#[]⟩, .string ⟨#[]⟩, .int .i64 0, .int .i64 0] 151 (0, 0)) ∧ (W2.setCell ⟨g, 0, none⟩ v).cell? ⟨w.heap.size + 1, 0, none⟩ = some (.string kd) ∧ (W2.setCell ⟨g, 0, none⟩ v).cell? ⟨w.heap.size + 1, 1, none⟩ = some (.string nm) ∧ (W2.setCell ⟨g, 0, none⟩ v).cell? ⟨w.heap.size + 1, 2, none⟩ = some (.int .i64 tv) ∧ (W2.setCell ⟨g, 0, none⟩ v).cell? ⟨w.heap.size + 1, 3, none⟩ = some (.int .i64 ta)) := hid fun v => by
    have ne : ∀ q, (W2.setCell ⟨g, 0, none⟩ v).cell? ⟨w.heap.size + 1, q, none⟩ = W2.cell? ⟨w.heap.size + 1, q, none⟩ := fun q => World.cell?_setCell_other _ _ _ _ (by intro e3; simp only [Addr.mk.injEq] at e3; omega)
    exact ⟨by rw [Below.heap_setCell _ _ _ _ (show w.heap.size ≠ g by omega)]; exact HBR.out, (ne 0).trans l0, (ne 1).trans l1, (ne 2).trans l2, (ne 3).trans l3⟩
  go_upto_region 7 with fail
  clear l0 l1 l2 l3 e0 fg HP2 HB2 HBR HTB hrl
  generalize (if cap = 1 then some (⟨tb, o, none⟩ : Addr) else some ⟨tb, o + 4, none⟩) = a' at *
  obtain ⟨hbr, l0, l1, l2, l3⟩ := HKp.out (.slice a' n (cap - 1))
  clear HKp
  generalize W2.setCell ⟨g, 0, none⟩ (.slice a' n (cap - 1)) = W3 at *
  obtain ⟨WF, hWF⟩ : ∃ W, W = (((W3.setCell ⟨w.heap.size, 0, none⟩ (.string kd)).setCell ⟨w.heap.size, 1, none⟩ (.string nm)).setCell ⟨w.heap.size, 2, none⟩ (.int .i64 tv)).setCell ⟨w.heap.size, 3, none⟩ (.int .i64 ta) := ⟨_, rfl⟩
  have hfin := q4T (a' := .string kd) (b' := .string nm) (c' := .int .i64 tv) (d' := .int .i64 ta) hbr
  rw [← hWF] at hfin
  have q0 : WF.cell? ⟨w.heap.size, 0, none⟩ = some (.string kd) := cell_of_row _ _ _ _ _ _ hfin
  have q1 : WF.cell? ⟨w.heap.size, 1, none⟩ = some (.string nm) := cell_of_row _ _ _ _ _ _ hfin
  have q2 : WF.cell? ⟨w.heap.size, 2, none⟩ = some (.int .i64 tv) := cell_of_row _ _ _ _ _ _ hfin
  have q3 : WF.cell? ⟨w.heap.size, 3, none⟩ = some (.int .i64 ta) := cell_of_row _ _ _ _ _ _ hfin
  have HPF : Hid (PaS WF g tb a' (cap - 1) r) := hid (by rw [hWF]; exact (((HST.out.set (by omega) (by omega)).set (by omega) (by omega)).set (by omega) (by omega)).set (by omega) (by omega))
  have HXF : Hid (Ex g w WF) := hid (by rw [hWF]; exact (((HX3.out.new (Nat.le_refl _)).new (Nat.le_refl _)).new (Nat.le_refl _)).new (Nat.le_refl _))
  have r0 : W3.cell? ⟨w.heap.size, 0, none⟩ = some (.string ⟨#[]⟩) := cell_of_row _ _ _ _ _ _ hbr
  have r1 : W3.cell? ⟨w.heap.size, 1, none⟩ = some (.string ⟨#[]⟩) := cell_of_row _ _ _ _ _ _ hbr
  have r2 : W3.cell? ⟨w.heap.size, 2, none⟩ = some (.int .i64 0) := cell_of_row _ _ _ _ _ _ hbr
  have r3 : W3.cell? ⟨w.heap.size, 3, none⟩ = some (.int .i64 0) := cell_of_row _ _ _ _ _ _ hbr
  have fr : ∀ q, W3.frozen? ⟨w.heap.size, q, none⟩ = false := fun q => by unfold World.frozen?; rw [hbr]; simp
  have f0 := fr 0
  have f1 := fr 1
  have f2 := fr 2
  have f3 := fr 3
  have HQ := hid (And.intro q0 (And.intro q1 (And.intro q2 q3)))
  have HWF := hid hWF
  clear hfin hbr q0 q1 q2 q3 fr hWF HST HX3
  go_cut [36] from 5 (fun _ wx => Hid (wx = WF))
  case first =>
    go_wp2_with fail
    go_meet
    exact hid HWF.out.symm
  case rest =>
    have hw := hcut.out
    subst wc
    obtain ⟨q0, q1, q2, q3⟩ := HQ.out
    clear l0 l1 l2 l3 r0 r1 r2 r3 f0 f1 f2 f3
    go_wp2_with fail
    refine bodyPost_ret (v := .agg #[.string kd, .string nm, .int .i64 tv, .int .i64 ta]) (by simp [results, Tryd.results111, go_sem, q0, q1, q2, q3]) rfl ?_
    exact ⟨rfl, ⟨_, _, HPF.out⟩, HXF.out⟩

end Go.Proofs.YtcdfoephhjacdaaDoor

/-
  The program's parser by positions.
-/
namespace Go.Proofs.YtcdfoephhjacdaaDoor
open Go.RowKit

/-- the offset that a failure at p tells -/
def offZ (ts : List TkV) (p : Nat) : Int := if p < ts.length then ((ts.getD p noTk).at' : Int) else -1
/-- the parser stands at p -/
def PaP (W : World) (g tb : Nat) (ts : List TkV) (p : Nat) : Prop := ∃ a cap, PaS W g tb a cap (ts.drop p)
theorem drop_tk {ts : List TkV} {p : Nat} (h : p < ts.length) : ts.drop p = ts.getD p noTk :: ts.drop (p + 1) := by
  rw [List.drop_eq_getElem_cons h, List.getD_eq_getElem?_getD, List.getElem?_eq_getElem h]
  rfl
theorem new_ISt (W : World) (l : List ByteArray) : ISt (W.alloc (.cells (l.map Value.string).toArray 9)) (.slice (some ⟨W.heap.size, 0, none⟩) l.length l.length) l := by
  refine ⟨_, _, rfl, Or.inr ⟨W.heap.size, 0, rfl, fun j hj => ?_⟩⟩
  rw [World.cell?_alloc_at _ _ _ _ rfl, List.getD_eq_getElem?_getD, List.getElem?_eq_getElem hj]
  simp [hj]
section
variable {W W' : World} {g tb p : Nat} {ts : List TkV}
theorem PaP.below (h : PaP W g tb ts p) (hb : Below W.heap.size W W') : PaP W' g tb ts p := by
  obtain ⟨a, cap, h⟩ := h
  exact ⟨a, cap, h.below hb⟩
theorem PaP.set {r o : Nat} {v : Value} (h : PaP W g tb ts p) (h1 : r ≠ g) (h2 : r ≠ tb) : PaP (W.setCell ⟨r, o, none⟩ v) g tb ts p := by
  obtain ⟨a, cap, h⟩ := h
  exact ⟨a, cap, h.set h1 h2⟩
theorem PaP.belN {N : Nat} (h : PaP W g tb ts p) (hb : Below N W W') (hg : g < N) (ht : tb < N) : PaP W' g tb ts p := by
  obtain ⟨a, cap, h⟩ := h
  refine ⟨a, cap, (hb.block g hg).trans h.blk, h.cap, fun j hj => ?_, h.ne⟩
  obtain ⟨o, e, hc⟩ := h.at' j hj
  exact ⟨o, e, fun i hi => (hb.cell (p := ⟨tb, o + j * 4 + i, none⟩) ht).trans (hc i hi)⟩
theorem PaP.lt (h : PaP W g tb ts p) : g < W.heap.size := by
  obtain ⟨a, cap, h⟩ := h
  exact h.lt
/-- how many tokens are left -/
def remOf (W : World) (g : Nat) : Nat := match W.cell? ⟨g, 0, none⟩ with | some (.slice _ n _) => n | _ => 0
theorem PaP.rem (h : PaP W g tb ts p) : remOf W g = ts.length - p := by
  obtain ⟨a, cap, h⟩ := h
  unfold remOf
  rw [h.c0]
  simp
end

def tkA (t : TkV) : Value := .agg #[.string (kdT t.k), .string t.nm, .int .i64 (t.v : Int), .int .i64 (t.at' : Int)]
theorem tkP_yes {w : World} {g tb p : Nat} {ts : List TkV} (ks : List Nat) (hP : PaP w g tb ts p) (hkl : ks.length ≤ 100) (hk8 : ∀ k ∈ ks, k < 256) (hok : ∀ j, j < ts.length → TkOk (ts.getD j noTk)) (hl : ts.length ≤ 100000) (h1 : p < ts.length) (h2 : (ts.getD p noTk).k ∈ ks) :
    Calls Tryd.prog 111 #[.pointer (some ⟨g, 0, none⟩), .slice (some ⟨w.heap.size, 0, none⟩) (ks.map kdT).length (ks.map kdT).length] (w.alloc (.cells ((ks.map kdT).map Value.string).toArray 9)) fun e w' => e = .returned (.agg #[.string (kdT (ts.getD p noTk).k), .string (ts.getD p noTk).nm, .int .i64 ((ts.getD p noTk).v : Int), .int .i64 ((ts.getD p noTk).at' : Int)]) ∧ PaP w' g tb ts (p + 1) ∧ Ex g w w' := by
  have hb : Below w.heap.size w (w.alloc (.cells ((ks.map kdT).map Value.string).toArray 9)) := (Below.refl _ _).alloc (Nat.le_refl _) _
  obtain ⟨a, cap, h⟩ := hP
  rw [drop_tk h1] at h
  refine (take_yes _ g tb cap a _ ks _ _ (h.below hb) (new_ISt w (ks.map kdT)) hkl hk8 (hok p h1) (by rw [List.length_drop]; omega) h2).mono ?_
  rintro e w' ⟨h3, ⟨a', cap', h4⟩, h5⟩
  exact ⟨h3, ⟨a', cap', h4⟩, (Ex.bel hb).trans h5⟩
theorem tkP_no {w : World} {g tb p : Nat} {ts : List TkV} (ks : List Nat) (hP : PaP w g tb ts p) (hkl : ks.length ≤ 100) (hk8 : ∀ k ∈ ks, k < 256) (hok : ∀ j, j < ts.length → TkOk (ts.getD j noTk)) (hl : ts.length ≤ 100000) (h2 : p < ts.length → ¬ (ts.getD p noTk).k ∈ ks) :
    Calls Tryd.prog 111 #[.pointer (some ⟨g, 0, none⟩), .slice (some ⟨w.heap.size, 0, none⟩) (ks.map kdT).length (ks.map kdT).length] (w.alloc (.cells ((ks.map kdT).map Value.string).toArray 9)) fun e w' => e = .panicked (flt (offZ ts p)) ∧ Ex g w w' := by
  have hb : Below w.heap.size w (w.alloc (.cells ((ks.map kdT).map Value.string).toArray 9)) := (Below.refl _ _).alloc (Nat.le_refl _) _
  obtain ⟨a, cap, h⟩ := hP
  by_cases h1 : p < ts.length
  · rw [drop_tk h1] at h
    refine (take_no _ g tb cap a _ ks _ _ (h.below hb) (new_ISt w (ks.map kdT)) hkl hk8 (hok p h1) (by rw [List.length_drop]; omega) (h2 h1)).mono ?_
    rintro e w' ⟨h3, h5⟩
    exact ⟨by rw [h3]; unfold offZ; rw [if_pos h1], (Ex.bel hb).trans (Ex.bel h5)⟩
  · rw [List.drop_eq_nil_of_le (by omega)] at h
    refine (take_none _ g tb cap a _ (h.below hb)).mono ?_
    rintro e w' ⟨h3, h5⟩
    exact ⟨by rw [h3]; unfold offZ; rw [if_neg h1], (Ex.bel hb).trans (Ex.bel h5)⟩

/-- the kinds at p -/
abbrev isK (ts : List TkV) (ks : List Nat) (p : Nat) : Prop := p < ts.length ∧ (ts.getD p noTk).k ∈ ks
theorem tk_is {ts : List TkV} {ks : List Nat} {p : Nat} (h : isK ts ks p) : tk ts ks p = .ok (ts.getD p noTk, p + 1) := if_pos h
theorem tk_isnt {ts : List TkV} {ks : List Nat} {p : Nat} (h : ¬ isK ts ks p) : tk ts ks p = .error p := if_neg h
/-- take, where it may succeed or fail -/
def TkC (g tb : Nat) (ts : List TkV) (ks : List Nat) (cs : Array Value) (n : Nat) : Prop :=
  (∀ W p, PaP W g tb ts p → isK ts ks p → ∃ k nm v at', k = (ts.getD p noTk).k ∧ nm = (ts.getD p noTk).nm ∧ v = (ts.getD p noTk).v ∧ at' = (ts.getD p noTk).at' ∧ Calls Tryd.prog 111 #[.pointer (some ⟨g, 0, none⟩), .slice (some ⟨W.heap.size, 0, none⟩) n n] (W.alloc (.cells cs 9)) fun e w' => e = .returned (.agg #[.string (kdT k), .string nm, .int .i64 (v : Int), .int .i64 (at' : Int)]) ∧ PaP w' g tb ts (p + 1) ∧ Ex g W w') ∧
  (∀ W p, PaP W g tb ts p → ¬ isK ts ks p → Calls Tryd.prog 111 #[.pointer (some ⟨g, 0, none⟩), .slice (some ⟨W.heap.size, 0, none⟩) n n] (W.alloc (.cells cs 9)) fun e w' => e = .panicked (flt (offZ ts p)) ∧ Ex g W w')
theorem TkC.mk' {g tb n : Nat} {ts : List TkV} {cs : Array Value} (ks : List Nat) (hcs : cs = ((ks.map kdT).map Value.string).toArray) (hn : n = (ks.map kdT).length) (hkl : ks.length ≤ 100) (hk8 : ∀ k ∈ ks, k < 256) (hok : ∀ j, j < ts.length → TkOk (ts.getD j noTk)) (hl : ts.length ≤ 100000) : TkC g tb ts ks cs n := by
  subst hcs hn
  exact ⟨fun W p hP h => ⟨_, _, _, _, rfl, rfl, rfl, rfl, tkP_yes ks hP hkl hk8 hok hl h.1 h.2⟩, fun W p hP h => tkP_no ks hP hkl hk8 hok hl fun h1 h2 => h ⟨h1, h2⟩⟩

/-- the loop over an atom's terms -/
def AtJ (ts : List TkV) (R : Except Nat (AtomV × Nat)) (rel : ByteArray) (q : Nat) (more : Bool) (acc : List TermV) : Prop := if more then ∃ f, ts.length ≤ q + f ∧ R = finA (trmF ts f q acc) rel else R = .ok ((rel, acc), q)
section
variable {ts : List TkV} {R : Except Nat (AtomV × Nat)} {rel : ByteArray} {q : Nat} {acc : List TermV}
theorem AtJ.bad1 (h : AtJ ts R rel q true acc) (hk : ¬ isK ts [97, 48] q) : R = .error q := by
  obtain ⟨f, hf, e⟩ := h
  rw [e]
  cases f with
  | zero => rfl
  | succ f => rw [trmF, tk_isnt hk]; rfl
theorem AtJ.bad2 (h : AtJ ts R rel q true acc) (hk : isK ts [97, 48] q) (hk2 : ¬ isK ts [44, 41] (q + 1)) : R = .error (q + 1) := by
  obtain ⟨f, hf, e⟩ := h
  rw [e]
  cases f with
  | zero => have := hk.1; omega
  | succ f => rw [trmF, tk_is hk]; simp only; rw [tk_isnt hk2]; rfl
theorem AtJ.step (h : AtJ ts R rel q true acc) (hk : isK ts [97, 48] q) (hk2 : isK ts [44, 41] (q + 1)) : AtJ ts R rel (q + 1 + 1) (decide ((ts.getD (q + 1) noTk).k = 44)) (acc ++ [((ts.getD q noTk).nm, ((ts.getD q noTk).v : Int))]) := by
  obtain ⟨f, hf, e⟩ := h
  cases f with
  | zero => have := hk.1; omega
  | succ f =>
    rw [trmF, tk_is hk] at e
    simp only at e
    rw [tk_is hk2] at e
    simp only at e
    by_cases h44 : (ts.getD (q + 1) noTk).k = 44
    · rw [if_pos h44] at e
      rw [decide_eq_true h44]
      exact ⟨f, by omega, e⟩
    · rw [if_neg h44] at e
      rw [decide_eq_false h44]
      exact e
end
theorem kd_eq {t : TkV} {c : Nat} (ht : TkOk t) (hc : c < 256) : ((kdT t.k).toList == (kdT c).toList) = decide (t.k = c) := by
  have := has_kd (ks := [c]) ht (by simpa using hc)
  unfold hasT at this
  simp only [List.map_cons, List.map_nil, List.any_cons, List.any_nil, Bool.or_false, List.mem_singleton] at this
  rw [beq_sym]
  exact this

/-- how atom ends -/
def AtP (w : World) (g tb : Nat) (ts : List TkV) (R : Except Nat (AtomV × Nat)) (e : Ending) (w' : World) : Prop :=
  (∃ rel x tm p', R = .ok ((rel, tm), p') ∧ e = .returned (.agg #[.string rel, x]) ∧ w'.ownsRow w.heap.size 145 2 x tm.length (tm.flatMap tmc) ∧ PaP w' g tb ts p' ∧ Ex g w w') ∨ (∃ pe, R = .error pe ∧ e = .panicked (flt (offZ ts pe)) ∧ Ex g w w')

end Go.Proofs.YtcdfoephhjacdaaDoor
