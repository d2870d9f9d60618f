import Derived.Deep.CutBlock
import Derived.Deep.LoopGhost
import Derived.Deep.RegionHeld3
import Derived.Test.YtcdfoephhjacdaaGreatDoorR16
/-
  spec.l2DrawData is drawD.
-/
namespace Go.Proofs.YtcdfoephhjacdaaGreatDoor
open Go.RowKit

theorem Kc.al {g : Nat} {a b : World} (h : Kc g a b) (o : Obj) : Kc g a (b.alloc o) := h.up ((Below.refl _ _).alloc h.size o)
theorem Kc.nw {g c o : Nat} {a b : World} {v : Value} (h : Kc g a b) (hc : a.heap.size ≤ c) : Kc g a (b.setCell ⟨c, o, none⟩ v) := h.up ((Below.refl _ _).setCell hc v)
theorem Kc.dw {g : Nat} {a b : World} (h : Kc g a b) : Kc g a b.drew := h.drewN 1
theorem bel_al {a b : World} (h : Below a.heap.size a b) (o : Obj) : Below a.heap.size a (b.alloc o) := h.alloc h.size o
theorem lit1 {W w6 : World} {g z : Nat} {A : Array Value} {t : TypeId} {v : Value} (hK : Kc g (W.alloc (.cells A t)).drew w6) (hg : g < W.heap.size) (h : A[z]? = some v) : w6.cell? ⟨W.heap.size, z, none⟩ = some v :=
  hK.cell (by omega) (by rw [cell_of_row _ _ _ _ _ _ (show (W.alloc (.cells A t)).drew.heap[W.heap.size]? = some (.cells A t (0, 0)) from heap_alloc_new _ _)]; exact h)
theorem lit2 {W w6 : World} {g z : Nat} {A : Array Value} {t : TypeId} {v : Value} {o : Obj} (hK : Kc g ((W.alloc (.cells A t)).alloc o).drew w6) (hg : g < W.heap.size) (h : A[z]? = some v) : w6.cell? ⟨W.heap.size, z, none⟩ = some v :=
  hK.cell (by omega) (by rw [cell_of_row _ _ _ _ _ _ (show ((W.alloc (.cells A t)).alloc o).drew.heap[W.heap.size]? = some (.cells A t (0, 0)) from (Below.heap_alloc _ _ _ (by simp)).trans (heap_alloc_new _ _))]; exact h)
theorem lit3 {W w6 : World} {g z : Nat} {A : Array Value} {t : TypeId} {v : Value} {o : Obj} (hK : Kc g ((W.alloc o).alloc (.cells A t)).drew w6) (hg : g < W.heap.size) (h : A[z]? = some v) : w6.cell? ⟨W.heap.size + 1, z, none⟩ = some v :=
  hK.cell (by omega) (by
    have hx := heap_alloc_new (W.alloc o) (.cells A t)
    rw [World.size_alloc] at hx
    rw [cell_of_row _ _ _ _ _ _ (show ((W.alloc o).alloc (.cells A t)).drew.heap[W.heap.size + 1]? = some (.cells A t (0, 0)) from hx)]; exact h)
theorem box1 {W w6 : World} {g : Nat} {o : Obj} (hK : Kc g (W.alloc o).drew w6) (hg : g < W.heap.size) : w6.heap[W.heap.size]? = some o := heap_kc (show (W.alloc o).drew.heap[W.heap.size]? = some o from heap_alloc_new _ _) hK (by omega)
theorem box2 {W w6 : World} {g : Nat} {o o' : Obj} (hK : Kc g ((W.alloc o).alloc o').drew w6) (hg : g < W.heap.size) : w6.heap[W.heap.size]? = some o := heap_kc (show ((W.alloc o).alloc o').drew.heap[W.heap.size]? = some o from (Below.heap_alloc _ _ _ (by simp)).trans (heap_alloc_new _ _)) hK (by omega)
theorem box3 {W w6 : World} {g : Nat} {o o' : Obj} (hK : Kc g ((W.alloc o').alloc o).drew w6) (hg : g < W.heap.size) : w6.heap[W.heap.size + 1]? = some o := by
  have hx := heap_alloc_new (W.alloc o') o
  rw [World.size_alloc] at hx
  exact heap_kc (show ((W.alloc o').alloc o).drew.heap[W.heap.size + 1]? = some o from hx) hK (by omega)
theorem box_cells {W : World} {p : Nat} {x0 x1 x2 x3 : Value} {t : TypeId} (h : W.heap[p]? = some (.cells #[x0, x1, x2, x3] t (0, 0))) : W.cell? ⟨p, 0, none⟩ = some x0 ∧ W.cell? ⟨p, 1, none⟩ = some x1 ∧ W.cell? ⟨p, 2, none⟩ = some x2 ∧ W.cell? ⟨p, 3, none⟩ = some x3 ∧ W.frozen? ⟨p, 0, none⟩ = false ∧ W.frozen? ⟨p, 1, none⟩ = false ∧ W.frozen? ⟨p, 2, none⟩ = false ∧ W.frozen? ⟨p, 3, none⟩ = false := by
  have hf : ∀ o, W.frozen? ⟨p, o, none⟩ = false := fun o => by unfold World.frozen?; rw [show W.heap[p]? = _ from h]; simp
  refine ⟨?_, ?_, ?_, ?_, hf 0, hf 1, hf 2, hf 3⟩ <;> (rw [cell_of_row _ _ _ _ _ _ h]; rfl)
theorem cell_al {W : World} {p : Nat} {v : Value} {o : Nat} (h : W.cell? ⟨p, o, none⟩ = some v) : ∀ ob, (W.alloc ob).cell? ⟨p, o, none⟩ = some v := fun ob => (World.cell?_of_block (w := W) (a := ⟨p, o, none⟩) (Below.heap_alloc W ob p (World.block_lt_of_cell? W _ h))).trans h
theorem heap_al {W : World} {p : Nat} {ob : Obj} (h : W.heap[p]? = some ob) : ∀ o, (W.alloc o).heap[p]? = some ob := fun o => (Below.heap_alloc W o p (heap_ltF h)).trans h
theorem lit4 {W w6 : World} {g z : Nat} {A : Array Value} {t : TypeId} {v : Value} (hK : Kc g (W.alloc (.cells A t)).drew w6) (hg : g < W.heap.size) (h : A[z]? = some v) : w6.cell? ⟨W.heap.size, z, none⟩ = some v ∧ (∀ ob, (w6.alloc ob).cell? ⟨W.heap.size, z, none⟩ = some v) ∧ W.heap.size < w6.heap.size ∧ ¬ W.heap.size = w6.heap.size ∧ ¬ w6.heap.size = W.heap.size := by
  have h1 := lit1 hK hg h
  have h2 : W.heap.size < w6.heap.size := World.block_lt_of_cell? w6 _ h1
  exact ⟨h1, cell_al h1, h2, by omega, by omega⟩
theorem lit5 {W w6 : World} {g z : Nat} {A : Array Value} {t t2 : TypeId} {v x0 x1 x2 x3 : Value} (hK : Kc g ((W.alloc (.cells A t)).alloc (.cells #[x0, x1, x2, x3] t2)).drew w6) (hg : g < W.heap.size) (h : A[z]? = some v) : w6.cell? ⟨W.heap.size, z, none⟩ = some v ∧ w6.cell? ⟨W.heap.size + 1, 0, none⟩ = some x0 ∧ w6.cell? ⟨W.heap.size + 1, 1, none⟩ = some x1 ∧ w6.cell? ⟨W.heap.size + 1, 2, none⟩ = some x2 ∧ w6.cell? ⟨W.heap.size + 1, 3, none⟩ = some x3 ∧ w6.frozen? ⟨W.heap.size + 1, 0, none⟩ = false ∧ w6.frozen? ⟨W.heap.size + 1, 1, none⟩ = false ∧ w6.frozen? ⟨W.heap.size + 1, 2, none⟩ = false ∧ w6.frozen? ⟨W.heap.size + 1, 3, none⟩ = false :=
  ⟨lit2 hK hg h, box_cells (box3 hK hg)⟩
theorem lit6 {W w6 : World} {g z : Nat} {A : Array Value} {t t2 : TypeId} {v x0 x1 x2 x3 : Value} (hK : Kc g ((W.alloc (.cells #[x0, x1, x2, x3] t2)).alloc (.cells A t)).drew w6) (hg : g < W.heap.size) (h : A[z]? = some v) : w6.cell? ⟨W.heap.size + 1, z, none⟩ = some v ∧ w6.cell? ⟨W.heap.size, 0, none⟩ = some x0 ∧ w6.cell? ⟨W.heap.size, 1, none⟩ = some x1 ∧ w6.cell? ⟨W.heap.size, 2, none⟩ = some x2 ∧ w6.cell? ⟨W.heap.size, 3, none⟩ = some x3 ∧ w6.frozen? ⟨W.heap.size, 0, none⟩ = false ∧ w6.frozen? ⟨W.heap.size, 1, none⟩ = false ∧ w6.frozen? ⟨W.heap.size, 2, none⟩ = false ∧ w6.frozen? ⟨W.heap.size, 3, none⟩ = false :=
  ⟨lit3 hK hg h, box_cells (box2 hK hg)⟩
theorem lit7 {W w6 : World} {g : Nat} {x0 : ByteArray} {x1 x2 x3 : Value} {t2 : TypeId} (hK : Kc g (W.alloc (.cells #[.string x0, x1, x2, x3] t2)).drew w6) (hg : g < W.heap.size) : w6.cell? ⟨W.heap.size, 0, none⟩ = some (.string x0) ∧ w6.cell? ⟨W.heap.size, 1, none⟩ = some x1 ∧ w6.cell? ⟨W.heap.size, 2, none⟩ = some x2 ∧ w6.cell? ⟨W.heap.size, 3, none⟩ = some x3 ∧ w6.frozen? ⟨W.heap.size, 0, none⟩ = false ∧ w6.frozen? ⟨W.heap.size, 1, none⟩ = false ∧ w6.frozen? ⟨W.heap.size, 2, none⟩ = false ∧ w6.frozen? ⟨W.heap.size, 3, none⟩ = false ∧ W.heap.size < w6.heap.size ∧ ¬ W.heap.size = w6.heap.size ∧ ¬ w6.heap.size = W.heap.size := by
  have h := box1 hK hg
  have h2 := heap_ltF h
  obtain ⟨a0, a1, a2, a3, a4, a5, a6, a7⟩ := box_cells h
  exact ⟨a0, a1, a2, a3, a4, a5, a6, a7, h2, by omega, by omega⟩
theorem lit8 (W : World) {z : Nat} {v : Value} (h : (#[.int .i64 2, .int .i64 2, .int .i64 1, .int .i64 3] : Array Value)[z]? = some v) : (W.alloc (.cells #[.int .i64 2, .int .i64 2, .int .i64 1, .int .i64 3] 3)).cell? ⟨W.heap.size, z, none⟩ = some v ∧ (∀ o, ((W.alloc (.cells #[.int .i64 2, .int .i64 2, .int .i64 1, .int .i64 3] 3)).alloc o).cell? ⟨W.heap.size, z, none⟩ = some v) ∧ (∀ o, ((W.alloc o).alloc (.cells #[.int .i64 2, .int .i64 2, .int .i64 1, .int .i64 3] 3)).cell? ⟨W.heap.size + 1, z, none⟩ = some v) := by
  have h1 : (W.alloc (.cells #[.int .i64 2, .int .i64 2, .int .i64 1, .int .i64 3] 3)).cell? ⟨W.heap.size, z, none⟩ = some v := by
    rw [cell_of_row _ _ _ _ _ _ (heap_alloc_new W (.cells #[.int .i64 2, .int .i64 2, .int .i64 1, .int .i64 3] 3))]; exact h
  refine ⟨h1, cell_al h1, fun o => ?_⟩
  have hx := heap_alloc_new (W.alloc o) (.cells #[.int .i64 2, .int .i64 2, .int .i64 1, .int .i64 3] 3)
  rw [World.size_alloc] at hx
  rw [cell_of_row _ _ _ _ _ _ hx]; exact h
theorem bel_n {w w6 : World} {g : Nat} {a : Option Addr} {L : Nat → Int} {n cap : Nat} {s : CSt} (h : Dr w w6 g a L n cap s) {o : Obj} (_ : Nat) : Below w.heap.size w6 (w6.alloc o) := (Below.refl _ _).alloc h.kc.size o
theorem bel_n2 {w w6 : World} {g : Nat} {a : Option Addr} {L : Nat → Int} {n cap : Nat} {s : CSt} (h : Dr w w6 g a L n cap s) {o o' : Obj} : Below w.heap.size w6 ((w6.alloc o).alloc o') := ((Below.refl _ _).alloc h.kc.size o).alloc (by have := h.kc.size; simp; omega) o'
theorem heap_new2 (W : World) (o o' : Obj) : ((W.alloc o).alloc o').heap[W.heap.size + 1]? = some o' := by
  have hx := heap_alloc_new (W.alloc o) o'
  rw [World.size_alloc] at hx
  exact hx
theorem kc4 {g c : Nat} {a b : World} {v0 v1 v2 v3 : Value} (h : Kc g a b) (hc : a.heap.size ≤ c) : Kc g a ((((b.setCell ⟨c, 0, none⟩ v0).setCell ⟨c, 1, none⟩ v1).setCell ⟨c, 2, none⟩ v2).setCell ⟨c, 3, none⟩ v3) := (((h.nw hc).nw hc).nw hc).nw hc
theorem bel4 {N c : Nat} {b : World} {v0 v1 v2 v3 : Value} (hc : N ≤ c) : Below N b ((((b.setCell ⟨c, 0, none⟩ v0).setCell ⟨c, 1, none⟩ v1).setCell ⟨c, 2, none⟩ v2).setCell ⟨c, 3, none⟩ v3) := ((((Below.refl _ _).setCell (by exact hc) _).setCell (by exact hc) _).setCell (by exact hc) _).setCell (by exact hc) _
theorem bel4a {w w6 : World} {g c : Nat} {a : Option Addr} {L : Nat → Int} {n cap : Nat} {s : CSt} {v0 v1 v2 v3 : Value} {o : Obj} (hc : w.heap.size ≤ c) (h : Dr w w6 g a L n cap s) : Below w.heap.size w6 (((((w6.setCell ⟨c, 0, none⟩ v0).setCell ⟨c, 1, none⟩ v1).setCell ⟨c, 2, none⟩ v2).setCell ⟨c, 3, none⟩ v3).alloc o) := (bel4 hc).alloc (Nat.le_trans h.kc.size (bel4 (N := w.heap.size) hc).size) o
theorem set4 {W : World} {p : Nat} {x0 x1 x2 x3 v0 v1 v2 v3 : Value} {t : TypeId} (h : W.heap[p]? = some (.cells #[x0, x1, x2, x3] t (0, 0))) : ((((W.setCell ⟨p, 0, none⟩ v0).setCell ⟨p, 1, none⟩ v1).setCell ⟨p, 2, none⟩ v2).setCell ⟨p, 3, none⟩ v3).heap[p]? = some (.cells #[v0, v1, v2, v3] t (0, 0)) := by
  have h1 : (W.setCell ⟨p, 0, none⟩ v0).heap[p]? = some (.cells #[v0, x1, x2, x3] t (0, 0)) := by rw [heap_setCell_same _ _ _ _ _ _ h]; rfl
  have h2 : ((W.setCell ⟨p, 0, none⟩ v0).setCell ⟨p, 1, none⟩ v1).heap[p]? = some (.cells #[v0, v1, x2, x3] t (0, 0)) := by rw [heap_setCell_same _ _ _ _ _ _ h1]; rfl
  have h3 : (((W.setCell ⟨p, 0, none⟩ v0).setCell ⟨p, 1, none⟩ v1).setCell ⟨p, 2, none⟩ v2).heap[p]? = some (.cells #[v0, v1, v2, x3] t (0, 0)) := by rw [heap_setCell_same _ _ _ _ _ _ h2]; rfl
  rw [heap_setCell_same _ _ _ _ _ _ h3]; rfl
theorem made10 {w w6 wx wr : World} {g p : Nat} {a : Option Addr} {L : Nat → Int} {n cap : Nat} {s : CSt} {nm : ByteArray} {ar : Int} (h : Dr w w6 g a L n cap s) (hK : Kc g wr wx) (hb : Below w.heap.size w6 wx) (hp : wr.heap.size ≤ p) (hx : wx.heap[p]? = some (.cells #[.string nm, .int .i64 ar, .slice none 0 0, .slice none 0 0] 45 (0, 0))) :
    wr.heap.size ≤ p ∧ Dr w wx g a L n cap s ∧ Kc g wr wx ∧ RM wx p nm ar [] [] (.slice none 0 0) (.slice none 0 0) [] :=
  ⟨hp, h.bel hb, hK, hx, ⟨World.ownsRow_nil _ _ _ _, rfl, fun _ hi => absurd hi (Nat.not_lt_zero _)⟩, World.ownsRow_nil _ _ _ _, rfl, fun _ => ⟨rfl, rfl⟩, fun _ hu => absurd hu (List.not_mem_nil)⟩
theorem RM.setAr {W : World} {p : Nat} {nm : ByteArray} {ar : Int} {ls : List (List Int)} {ws : List Int} {vr vw : Value} {us : List Value} (h : RM W p nm ar ls ws vr vw us) (x : Int) : RM (W.setCell ⟨p, 1, none⟩ (.int .i64 x)) p nm x ls ws vr vw us :=
  ⟨by rw [heap_setCell_same _ _ _ _ _ _ h.box]; rfl, h.rw.setN (by omega), own_setN h.ow (by omega), h.eq, h.nil, h.ap⟩
theorem Tryz.infoRelF : (Tryz.prog.info? 45).map (fun i => (i.zero, i.size, i.bytes)) = some (some (.agg #[.string ⟨#[]⟩, .int .i64 0, .slice none 0 0, .slice none 0 0]), 4, 72) := by kernel_rfl
theorem SQ.setN {B p o : Nat} {W : World} {v u : Value} {ds : List RelV} {vr vw : Nat → Value} {us : Nat → List Value} (h : SQ W B v ds vr vw us) (hp : p < B) : SQ (W.setCell ⟨p, o, none⟩ u) B v ds vr vw us :=
  ⟨own_setN h.own hp, fun i hi => (h.rw i hi).setN hp, fun i hi => own_setN (h.ow i hi) hp, h.eq, h.nil⟩
theorem SQ.baseF {B B' : Nat} {W : World} {v : Value} {ds : List RelV} {vr vw : Nat → Value} {us : Nat → List Value} (h : SQ W B v ds vr vw us) (hB : B' ≤ B) : SQ W B' v ds vr vw us :=
  ⟨own_base h.own hB, fun i hi => (h.rw i hi).base hB, fun i hi => own_base (h.ow i hi) hB, h.eq, h.nil⟩

set_option maxHeartbeats 20000000 in
set_option maxRecDepth 1000000 in
theorem drawData_calls (w : World) (g : Nat) (a : Option Addr) (L : Nat → Int) (n cap : Nat) (s0 : CSt) (h : RdF w g a L n cap s0) (hn : n ≤ 1048576) (hk : s0.1 ≤ 1000000) :
    Calls Tryz.prog 14 #[.pointer (some ⟨g, 0, none⟩)] w fun e w' => ∃ v vr vw us, e = .returned (.agg #[v]) ∧ Dr w w' g a L n cap (drawD L n s0).2 ∧ SQ w' w.heap.size v (drawD L n s0).1 vr vw us ∧ ApD (drawD L n s0).1.length vw us := by
  have hgl := h.lt
  obtain ⟨iI, hI0, hI1, hI2, hI3⟩ := info_parts Tryz.infoIw
  obtain ⟨iR, hR0, hR1, hR2, hR3⟩ := info_parts Tryz.infoRelF
  obtain ⟨W0, hW0⟩ : ∃ W0, W0 = ((w.alloc (.cells #[.slice none 0 0] 25)).alloc (.cells #[.slice none 0 0] 25)).alloc (.cells #[.string ⟨#[101]⟩, .string ⟨#[102]⟩, .string ⟨#[103]⟩, .string ⟨#[98, 105, 103, 95, 49]⟩, .string ⟨#[82, 50]⟩] 9) := ⟨_, rfl⟩
  have hB0 : Below w.heap.size w W0 := by rw [hW0]; exact (((Below.refl _ _).alloc (Nat.le_refl _) _).alloc (by simp) _).alloc (by simp; omega) _
  have hS0 : DS w W0 (.slice none 0 0) [] (fun _ => undef) (fun _ => undef) (fun _ => []) := by
    rw [hW0]
    refine ⟨?_, ?_, ?_, ⟨World.ownsRow_nil _ _ _ _, fun i hi => absurd hi (Nat.not_lt_zero _), fun i hi => absurd hi (Nat.not_lt_zero _), fun i hi => absurd hi (Nat.not_lt_zero _), fun i hi => absurd hi (Nat.not_lt_zero _)⟩, ⟨fun i hi => absurd hi (Nat.not_lt_zero _), fun i hi => absurd hi (Nat.not_lt_zero _)⟩⟩
    · rw [Below.heap_alloc _ _ _ (by simp; omega), Below.heap_alloc _ _ _ (by simp)]; exact heap_alloc_new _ _
    · rw [Below.heap_alloc _ _ _ (by simp)]
      have := heap_alloc_new (w.alloc (.cells #[.slice none 0 0] 25)) (.cells #[.slice none 0 0] 25)
      simpa using this
    · have := heap_alloc_new ((w.alloc (.cells #[.slice none 0 0] 25)).alloc (.cells #[.slice none 0 0] 25)) (.cells nmsC 9)
      simp only [World.size_alloc] at this
      exact this
  have HD := hid ((Dr.start h).bel hB0)
  have HS := hid hS0
  clear h hB0 hS0
  have at1 := pkF_at L n 4 s0
  have lt1 := pk_lt L n 4 s0 (by omega)
  have at2 := pkF_at L n 2 (pkF L n 4 s0).2
  have lt2 := pk_lt L n 2 (pkF L n 4 s0).2 (by omega)
  have at3 := pkF_at L n 4 (pkF L n 2 (pkF L n 4 s0).2).2
  have lt3 := pk_lt L n 4 (pkF L n 2 (pkF L n 4 s0).2).2 (by omega)
  have lt4 := pk_lt L n 4 (pkF L n 4 (pkF L n 2 (pkF L n 4 s0).2).2).2 (by omega)
  go_enter Tryz.func14, Tryz.ntmps14
  go_upto_region 3 with fail
  rw [← hW0]
  clear hW0
  go_upto_region 4 with (first | (go_at_call 35; refine (HD.out.pick hn (by omega) (m := 4) (by omega)).mono ?_; rintro e w1 ⟨rfl, hD1, hK1⟩) | fail)
  rw [show (1 : Int) + ((pkF L n 4 s0).1 : Nat) = ((numD L n s0 : Nat) : Int) by unfold numD; omega]
  have HD1 := hid hD1
  have HS1 := hid (HS.out.kc hK1 hgl)
  clear hD1 hK1 HD HS
  go_upto_region 5 with (first | (go_at_call 35; refine (HD1.out.pick hn (by omega) (m := 2) (by omega)).mono ?_; rintro e w2 ⟨rfl, hD2, hK2⟩) | fail)
  have HD2 := hid hD2
  have HS2 := hid (HS1.out.kc hK2 hgl)
  clear hD2 hK2 HD1 HS1
  go_upto_if 25 with (first | (go_at_call 35; refine (HD2.out.pick hn (by omega) (m := 4) (by omega)).mono ?_; rintro e w3 ⟨rfl, hD3, hK3⟩) | fail)
  have HD3 := hid hD3
  have HS3 := hid (HS2.out.kc hK3 hgl)
  clear hD3 hK3 HD2 HS2
  go_cut [6] (fun v wx => v = .int .i64 ((spanD L n (pkF L n 4 s0).2 : Nat) : Int) ∧ Hid (Dr w wx g a L n cap (spanE L n (pkF L n 4 s0).2) ∧ DS w wx (.slice none 0 0) [] (fun _ => undef) (fun _ => undef) (fun _ => [])))
  case first =>
    by_cases h3 : (pkF L n 4 (pkF L n 2 (pkF L n 4 s0).2).2).1 = 3
    · have e1 : spanD L n (pkF L n 4 s0).2 = 3 + (pkF L n 4 (pkF L n 4 (pkF L n 2 (pkF L n 4 s0).2).2).2).1 := if_pos h3
      have e2 : spanE L n (pkF L n 4 s0).2 = (pkF L n 4 (pkF L n 4 (pkF L n 2 (pkF L n 4 s0).2).2).2).2 := if_pos h3
      rw [h3]
      go_wp2_with (first | (go_at_call 35; refine (HD3.out.pick hn (by omega) (m := 4) (by omega)).mono ?_; rintro e w4 ⟨rfl, hD4, hK4⟩) | fail)
      go_meet
      refine ⟨?_, hid ⟨by rw [e2]; exact hD4, HS3.out.kc hK4 hgl⟩⟩
      rw [e1]
      rfl
    · have e1 : spanD L n (pkF L n 4 s0).2 = 2 + (pkF L n 2 (pkF L n 4 s0).2).1 := if_neg h3
      have e2 : spanE L n (pkF L n 4 s0).2 = (pkF L n 4 (pkF L n 2 (pkF L n 4 s0).2).2).2 := if_neg h3
      have j1 : ((((pkF L n 4 (pkF L n 2 (pkF L n 4 s0).2).2).1 : Nat) : Int) == 3) = false := by simp; omega
      have j2 : ¬ (((pkF L n 4 (pkF L n 2 (pkF L n 4 s0).2).2).1 : Nat) : Int) = 3 := by omega
      go_wp2
      go_meet
      refine ⟨?_, hid ⟨by rw [e2]; exact HD3.out, HS3.out⟩⟩
      rw [e1]
      rfl
  case rest =>
  obtain ⟨rfl, hcut⟩ := hcut
  have hs5 := spanE_at L n (pkF L n 4 s0).2
  have hsp : spanD L n (pkF L n 4 s0).2 ≤ 256 := by
    unfold spanD
    split <;> omega
  have hM4 : numD L n s0 ≤ 4 := by unfold numD; omega
  have HE : Hid (drawD L n s0 = datF L n (spanD L n (pkF L n 4 s0).2) (numD L n s0) (spanE L n (pkF L n 4 s0).2)) := hid rfl
  have hs5' : (spanE L n (pkF L n 4 s0).2).1 ≤ 1000010 := by omega
  clear HD3 HS3 at1 at2 at3 lt1 lt2 lt3 lt4 hs5
  generalize spanD L n (pkF L n 4 s0).2 = span at *
  generalize spanE L n (pkF L n 4 s0).2 = s5 at *
  generalize numD L n s0 = M at *
  generalize wc = W5 at *
  go_upto_block 0 with fail
  go_wp2_with fail
  go_loopg [7] M (fun gk v7 wr => ∃ (i : Nat) (v : Value) (vr vw : Nat → Value) (us : Nat → List Value), v7 = .int .i64 i ∧ i ≤ M ∧ gk = M - i ∧ Hid (Dr w wr g a L n cap (datF L n span i s5).2 ∧ DS w wr v (datF L n span i s5).1 vr vw us))
  case atStart => exact ⟨0, _, _, _, _, rfl, Nat.zero_le _, rfl, hcut⟩
  case round =>
    clear hcut
    obtain ⟨i, v, vr, vw, us, rfl, hi, hgk, HH⟩ := hrel
    generalize wr = wo at *
    by_cases hlt : i < M
    · have i1 : (i : Int) < (M : Int) := by omega
      have i5 : (i : Int) < 5 := by omega
      have hsI : (datF L n span i s5).2.1 ≤ 1001000 := by have := datF_at L n span s5 i; omega
      have HD := hid HH.out.1
      have HS := hid HH.out.2
      have HN : Hid (datF L n span (i + 1) s5 = ((datF L n span i s5).1 ++ [relF L n span i (datF L n span i s5).2], (relRw L n span i (datF L n span i s5).2).2)) := hid rfl
      have hlen : (datF L n span i s5).1.length = i := (datF_good L n span s5 hsp i (by omega)).len
      clear HH
      generalize datF L n span i s5 = dd at *
      obtain ⟨ds, sI⟩ := dd
      have hlen4 : ds.length ≤ 4 := by have : ds.length = i := hlen; omega
      clear hlen
      have hcn : wo.cell? ⟨w.heap.size + 2, i, none⟩ = some (.string (nmD.getD i ⟨#[]⟩)) := by
        rw [cell_of_row _ _ _ _ _ _ HS.out.nm]; exact nmsC_at i (by omega)
      have hszr : w.heap.size + 3 ≤ wo.heap.size := heap_ltF HS.out.nm
      obtain ⟨nm, hnm⟩ : ∃ nm, nm = nmD.getD i ⟨#[]⟩ := ⟨_, rfl⟩
      obtain ⟨ar0, har0⟩ : ∃ ar0, ar0 = arsD.getD (pkF L n 4 sI).1 0 := ⟨_, rfl⟩
      rw [← hnm] at hcn
      have HNM := hid hnm
      have HAR := hid har0
      clear hnm har0
      go_upto_region 10 with fail
      go_cut [8] from 29 to 91 (fun u wx => ∃ p, u = .pointer (some ⟨p, 0, none⟩) ∧ Hid (wo.heap.size ≤ p ∧ Dr w wx g a L n cap (pkF L n 4 sI).2 ∧ Kc g wo wx ∧ RM wx p nm (ar0 : Int) [] [] (.slice none 0 0) (.slice none 0 0) []))
      case first =>
        have HSS : Hid (∀ W, Kc g wo W → W.cell? ⟨w.heap.size + 2, i, none⟩ = some (.string nm)) := hid fun W hW => hW.cell (by omega) hcn
        have KP : Hid (∀ W, Below wo.heap.size wo W → Calls Tryz.prog 35 #[.pointer (some ⟨g, 0, none⟩), .int .i64 ((4 : Nat) : Int)] W fun e w' => e = .returned (.int .i64 ((pkF L n 4 sI).1 : Nat)) ∧ Dr w w' g a L n cap (pkF L n 4 sI).2 ∧ Kc g W w' ∧ Kc g wo w') := hid fun W hW => ((HD.out.bel (hW.mono (by omega))).pick hn (by show sI.1 ≤ _; have : sI.1 ≤ 1001000 := hsI; omega) (m := 4) (by omega)).mono fun e w' ⟨h1, h2, h3⟩ => ⟨h1, h2, h3, (Kc.ofBelow hW).trans h3⟩
        have hz := pk_lt L n 4 sI (by omega)
        have har : (#[.int .i64 2, .int .i64 2, .int .i64 1, .int .i64 3] : Array Value)[(pkF L n 4 sI).1]? = some (.int .i64 (ar0 : Int)) := by rw [HAR.out]; exact arsC_at _ hz
        clear HAR HNM
        generalize (pkF L n 4 sI).1 = z at *
        generalize (pkF L n 4 sI).2 = sJ at *
        have z1 : (z : Int) < 4 := by omega
        have hgr : g < wo.heap.size := by omega
        clear HN HE HS HD hcn hsI hlt hi hgk hM4 hs5' hsp hk hlen4 hI0 hI1 hI2 hI3 hR0 hR1 hR2 hR3 hgl
        clear iI iR
        refine wp_region_held_drew (S := fun W => W.cell? ⟨w.heap.size + 2, i, none⟩ = some (.string nm)) (by kernel_rfl) (HSS.out _ (Kc.refl _ _).dw) (fun hHeld => ?_)
        refine wpAnyH_take (i := 0) (oi := { dst := some 34, op := Op.move (Operand.tmp 4), type := 26, pos := "l2_store.go:402", after := #[], guard := none }) (v := ?_) rfl (by kernel_rfl) (by kernel_rfl) (by kernel_rfl) (fun _ _ _ h => h) (Or.inl ⟨by rfl, ?_⟩) (by assumption) ?_
        rotate_left 1
        · (intro w hSw; (try dsimp only at hSw); go_simp) <;> with_reducible rfl
        try simp only [Act.put, List.setIfInBounds_toArray, List.set_cons_zero, List.set_cons_succ]
        refine wpAnyH_take (i := 1) (oi := { dst := some 35, op := Op.move (Operand.tmp 7), type := 3, pos := "l2_store.go:402", after := #[], guard := none }) (v := ?_) rfl (by kernel_rfl) (by kernel_rfl) (by kernel_rfl) (fun _ _ _ h => h) (Or.inl ⟨by rfl, ?_⟩) (by assumption) ?_
        rotate_left 1
        · (intro w hSw; (try dsimp only at hSw); go_simp) <;> with_reducible rfl
        try simp only [Act.put, List.setIfInBounds_toArray, List.set_cons_zero, List.set_cons_succ]
        refine wpAnyH_take (i := 2) (oi := { dst := some 36, op := Op.indexAddr 26 (Operand.tmp 34) (Operand.tmp 35), type := 0, pos := "l2_store.go:402", after := #[{ on := 0, ground := Ground.data }, { on := 1, ground := Ground.data }], guard := none }) (v := ?_) rfl (by kernel_rfl) (by kernel_rfl) (by kernel_rfl) (fun _ _ _ h => h) (Or.inl ⟨by rfl, ?_⟩) (by assumption) ?_
        rotate_left 1
        · (intro w hSw; (try dsimp only at hSw); go_simp) <;> with_reducible rfl
        try simp only [Act.put, List.setIfInBounds_toArray, List.set_cons_zero, List.set_cons_succ]
        refine wpAnyH_take (i := 3) (oi := { dst := some 37, op := Op.load 9 (Operand.tmp 36), type := 9, pos := "l2_store.go:402", after := #[{ on := 2, ground := Ground.data }], guard := none }) (v := ?_) rfl (by kernel_rfl) (by kernel_rfl) (by kernel_rfl) (fun _ _ _ h => h) (Or.inl ⟨by rfl, ?_⟩) (by assumption) ?_
        rotate_left 1
        · (intro w hSw; (try dsimp only at hSw); go_simp) <;> with_reducible rfl
        try simp only [Act.put, List.setIfInBounds_toArray, List.set_cons_zero, List.set_cons_succ]
        refine wpAnyH_take (i := 5) (oi := { dst := some 39, op := Op.move (Operand.tmp 0), type := 48, pos := "l2_store.go:402", after := #[], guard := none }) (v := ?_) rfl (by kernel_rfl) (by kernel_rfl) (by kernel_rfl) (fun _ _ _ h => h) (Or.inl ⟨by rfl, ?_⟩) (by assumption) ?_
        rotate_left 1
        · (intro w hSw; (try dsimp only at hSw); go_simp) <;> with_reducible rfl
        try simp only [Act.put, List.setIfInBounds_toArray, List.set_cons_zero, List.set_cons_succ]
        refine wpAnyH_ready (rs := [4, 6, 10]) (by kernel_rfl) (by simp) ?_
        refine AllReadyH.cons (o := { dst := some 38, op := Op.buildSlice 43 4 #[(0, Operand.const (Value.int IntKind.i64 2)), (1, Operand.const (Value.int IntKind.i64 2)), (2, Operand.const (Value.int IntKind.i64 1)), (3, Operand.const (Value.int IntKind.i64 3))], type := 43, pos := "l2_store.go:402", after := #[], guard := none }) rfl (fun K hK => ?_) (AllReadyH.cons (o := { dst := some 40, op := Op.call { callee := Callee.value (Operand.func 35), args := #[Operand.tmp 39, Operand.const (Value.int IntKind.i64 4)], argTypes := #[48, 3] }, type := 3, pos := "l2_store.go:402", after := #[{ on := 5, ground := Ground.data }], guard := none }) rfl (fun K hK => ?_) (AllReadyH.cons (o := { dst := some 8, op := Op.alloc 45, type := 0, pos := "l2_store.go:402", after := #[], guard := none }) rfl (fun K hK => ?_) (AllReadyH.nil)))
        · go_simp
          refine hK.out _ _ (HSS.out _ (((Kc.refl _ _).dw).al _)) (fun hHeld => ?_)
          clear hK K
          try simp only [Act.put, List.setIfInBounds_toArray, List.set_cons_zero, List.set_cons_succ]
          refine wpAnyH_ready (rs := [6, 10]) (by kernel_rfl) (by simp) ?_
          refine AllReadyH.cons (o := { dst := some 40, op := Op.call { callee := Callee.value (Operand.func 35), args := #[Operand.tmp 39, Operand.const (Value.int IntKind.i64 4)], argTypes := #[48, 3] }, type := 3, pos := "l2_store.go:402", after := #[{ on := 5, ground := Ground.data }], guard := none }) rfl (fun K hK => ?_) (AllReadyH.cons (o := { dst := some 8, op := Op.alloc 45, type := 0, pos := "l2_store.go:402", after := #[], guard := none }) rfl (fun K hK => ?_) (AllReadyH.nil))
          · go_simp
            go_at_call 35
            refine (KP.out _ (bel_al ((Below.refl _ _).drew) _)).mono ?_
            rintro e w6 ⟨rfl, hD6, hK6, hKr⟩
            have hs6 := hKr.size
            obtain ⟨hl, hl2, n0, n1, n2⟩ := lit4 hK6 hgr har
            go_wp2_with fail
            refine hK.out _ _ (HSS.out _ hKr) (fun hHeld => ?_)
            clear hK K
            try simp only [Act.put, List.setIfInBounds_toArray, List.set_cons_zero, List.set_cons_succ]
            refine wpAnyH_take (i := 7) (oi := { dst := some 41, op := Op.indexAddr 43 (Operand.tmp 38) (Operand.tmp 40), type := 0, pos := "l2_store.go:402", after := #[{ on := 4, ground := Ground.data }, { on := 6, ground := Ground.data }], guard := none }) (v := ?_) rfl (by kernel_rfl) (by kernel_rfl) (by kernel_rfl) (fun _ _ _ h => h) (Or.inl ⟨by rfl, ?_⟩) (by assumption) ?_
            rotate_left 1
            · (intro w hSw; (try dsimp only at hSw); go_simp) <;> with_reducible rfl
            try simp only [Act.put, List.setIfInBounds_toArray, List.set_cons_zero, List.set_cons_succ]
            refine wpAnyH_ready (rs := [8, 10]) (by kernel_rfl) (by simp) ?_
            refine AllReadyH.cons (o := { dst := some 42, op := Op.load 3 (Operand.tmp 41), type := 3, pos := "l2_store.go:402", after := #[{ on := 7, ground := Ground.data }], guard := none }) rfl (fun K hK => ?_) (AllReadyH.cons (o := { dst := some 8, op := Op.alloc 45, type := 0, pos := "l2_store.go:402", after := #[], guard := none }) rfl (fun K hK => ?_) (AllReadyH.nil))
            · go_simp
              refine hK.out _ _ (HSS.out _ (hKr)) (fun hHeld => ?_)
              clear hK K
              try simp only [Act.put, List.setIfInBounds_toArray, List.set_cons_zero, List.set_cons_succ]
              refine wpAnyH_take (i := 9) (oi := { dst := some 43, op := Op.build 45 #[(0, Operand.tmp 37), (1, Operand.tmp 42)], type := 45, pos := "l2_store.go:402", after := #[{ on := 3, ground := Ground.data }, { on := 8, ground := Ground.data }], guard := none }) (v := ?_) rfl (by kernel_rfl) (by kernel_rfl) (by kernel_rfl) (fun _ _ _ h => h) (Or.inl ⟨by rfl, ?_⟩) (by assumption) ?_
              rotate_left 1
              · (intro w hSw; (try dsimp only at hSw); go_simp) <;> with_reducible rfl
              try simp only [Act.put, List.setIfInBounds_toArray, List.set_cons_zero, List.set_cons_succ]
              refine wpAnyH_ready (rs := [10]) (by kernel_rfl) (by simp) ?_
              refine AllReadyH.cons (o := { dst := some 8, op := Op.alloc 45, type := 0, pos := "l2_store.go:402", after := #[], guard := none }) rfl (fun K hK => ?_) (AllReadyH.nil)
              · go_simp
                refine hK.out _ _ (HSS.out _ ((hKr).al _)) (fun hHeld => ?_)
                clear hK K
                try simp only [Act.put, List.setIfInBounds_toArray, List.set_cons_zero, List.set_cons_succ]
                refine wpAnyH_ready (rs := [11]) (by kernel_rfl) (by simp) ?_
                refine AllReadyH.cons (o := { dst := none, op := Op.store 45 (Operand.tmp 8) (Operand.tmp 43), type := 0, pos := "l2_store.go:402", after := #[{ on := 10, ground := Ground.data }, { on := 9, ground := Ground.data }, { on := 6, ground := Ground.chain }, { on := 0, ground := Ground.phase }, { on := 1, ground := Ground.phase }, { on := 2, ground := Ground.phase }, { on := 3, ground := Ground.phase }, { on := 4, ground := Ground.phase }, { on := 5, ground := Ground.phase }, { on := 6, ground := Ground.phase }, { on := 7, ground := Ground.phase }, { on := 8, ground := Ground.phase }, { on := 9, ground := Ground.phase }, { on := 10, ground := Ground.phase }], guard := none }) rfl (fun K hK => ?_) (AllReadyH.nil)
                · go_simp
                  refine hK.out _ _ (HSS.out _ ((hKr).al _)) (fun hHeld => ?_)
                  clear hK K
                  try simp only [Act.put, List.setIfInBounds_toArray, List.set_cons_zero, List.set_cons_succ]
                  refine wpAnyH_done (by kernel_rfl) ?_ _
                  go_wp2_with fail
                  go_meet
                  exact ⟨w6.heap.size, rfl, hid (made10 hD6 (hKr.al _) (bel_n hD6 1) (by omega) (heap_alloc_new _ _))⟩
            · go_simp
              refine hK.out _ _ (HSS.out _ ((hKr).al _)) (fun hHeld => ?_)
              clear hK K
              try simp only [Act.put, List.setIfInBounds_toArray, List.set_cons_zero, List.set_cons_succ]
              refine wpAnyH_ready (rs := [8]) (by kernel_rfl) (by simp) ?_
              refine AllReadyH.cons (o := { dst := some 42, op := Op.load 3 (Operand.tmp 41), type := 3, pos := "l2_store.go:402", after := #[{ on := 7, ground := Ground.data }], guard := none }) rfl (fun K hK => ?_) (AllReadyH.nil)
              · go_simp
                refine hK.out _ _ (HSS.out _ ((hKr).al _)) (fun hHeld => ?_)
                clear hK K
                try simp only [Act.put, List.setIfInBounds_toArray, List.set_cons_zero, List.set_cons_succ]
                refine wpAnyH_take (i := 9) (oi := { dst := some 43, op := Op.build 45 #[(0, Operand.tmp 37), (1, Operand.tmp 42)], type := 45, pos := "l2_store.go:402", after := #[{ on := 3, ground := Ground.data }, { on := 8, ground := Ground.data }], guard := none }) (v := ?_) rfl (by kernel_rfl) (by kernel_rfl) (by kernel_rfl) (fun _ _ _ h => h) (Or.inl ⟨by rfl, ?_⟩) (by assumption) ?_
                rotate_left 1
                · (intro w hSw; (try dsimp only at hSw); go_simp) <;> with_reducible rfl
                try simp only [Act.put, List.setIfInBounds_toArray, List.set_cons_zero, List.set_cons_succ]
                refine wpAnyH_ready (rs := [11]) (by kernel_rfl) (by simp) ?_
                refine AllReadyH.cons (o := { dst := none, op := Op.store 45 (Operand.tmp 8) (Operand.tmp 43), type := 0, pos := "l2_store.go:402", after := #[{ on := 10, ground := Ground.data }, { on := 9, ground := Ground.data }, { on := 6, ground := Ground.chain }, { on := 0, ground := Ground.phase }, { on := 1, ground := Ground.phase }, { on := 2, ground := Ground.phase }, { on := 3, ground := Ground.phase }, { on := 4, ground := Ground.phase }, { on := 5, ground := Ground.phase }, { on := 6, ground := Ground.phase }, { on := 7, ground := Ground.phase }, { on := 8, ground := Ground.phase }, { on := 9, ground := Ground.phase }, { on := 10, ground := Ground.phase }], guard := none }) rfl (fun K hK => ?_) (AllReadyH.nil)
                · go_simp
                  refine hK.out _ _ (HSS.out _ ((hKr).al _)) (fun hHeld => ?_)
                  clear hK K
                  try simp only [Act.put, List.setIfInBounds_toArray, List.set_cons_zero, List.set_cons_succ]
                  refine wpAnyH_done (by kernel_rfl) ?_ _
                  go_wp2_with fail
                  go_meet
                  exact ⟨w6.heap.size, rfl, hid (made10 hD6 (hKr.al _) (bel_n hD6 1) (by omega) (heap_alloc_new _ _))⟩
          · go_simp
            refine hK.out _ _ (HSS.out _ ((((Kc.refl _ _).dw).al _).al _)) (fun hHeld => ?_)
            clear hK K
            try simp only [Act.put, List.setIfInBounds_toArray, List.set_cons_zero, List.set_cons_succ]
            refine wpAnyH_ready (rs := [6]) (by kernel_rfl) (by simp) ?_
            refine AllReadyH.cons (o := { dst := some 40, op := Op.call { callee := Callee.value (Operand.func 35), args := #[Operand.tmp 39, Operand.const (Value.int IntKind.i64 4)], argTypes := #[48, 3] }, type := 3, pos := "l2_store.go:402", after := #[{ on := 5, ground := Ground.data }], guard := none }) rfl (fun K hK => ?_) (AllReadyH.nil)
            · go_simp
              go_at_call 35
              refine (KP.out _ (bel_al (bel_al ((Below.refl _ _).drew) _) _)).mono ?_
              rintro e w6 ⟨rfl, hD6, hK6, hKr⟩
              have hs6 := hKr.size
              obtain ⟨hl, b0, b1, b2, b3, b4, b5, b6, b7⟩ := lit5 hK6 hgr har
              go_wp2_with fail
              refine hK.out _ _ (HSS.out _ hKr) (fun hHeld => ?_)
              clear hK K
              try simp only [Act.put, List.setIfInBounds_toArray, List.set_cons_zero, List.set_cons_succ]
              refine wpAnyH_take (i := 7) (oi := { dst := some 41, op := Op.indexAddr 43 (Operand.tmp 38) (Operand.tmp 40), type := 0, pos := "l2_store.go:402", after := #[{ on := 4, ground := Ground.data }, { on := 6, ground := Ground.data }], guard := none }) (v := ?_) rfl (by kernel_rfl) (by kernel_rfl) (by kernel_rfl) (fun _ _ _ h => h) (Or.inl ⟨by rfl, ?_⟩) (by assumption) ?_
              rotate_left 1
              · (intro w hSw; (try dsimp only at hSw); go_simp) <;> with_reducible rfl
              try simp only [Act.put, List.setIfInBounds_toArray, List.set_cons_zero, List.set_cons_succ]
              refine wpAnyH_ready (rs := [8]) (by kernel_rfl) (by simp) ?_
              refine AllReadyH.cons (o := { dst := some 42, op := Op.load 3 (Operand.tmp 41), type := 3, pos := "l2_store.go:402", after := #[{ on := 7, ground := Ground.data }], guard := none }) rfl (fun K hK => ?_) (AllReadyH.nil)
              · go_simp
                refine hK.out _ _ (HSS.out _ (hKr)) (fun hHeld => ?_)
                clear hK K
                try simp only [Act.put, List.setIfInBounds_toArray, List.set_cons_zero, List.set_cons_succ]
                refine wpAnyH_take (i := 9) (oi := { dst := some 43, op := Op.build 45 #[(0, Operand.tmp 37), (1, Operand.tmp 42)], type := 45, pos := "l2_store.go:402", after := #[{ on := 3, ground := Ground.data }, { on := 8, ground := Ground.data }], guard := none }) (v := ?_) rfl (by kernel_rfl) (by kernel_rfl) (by kernel_rfl) (fun _ _ _ h => h) (Or.inl ⟨by rfl, ?_⟩) (by assumption) ?_
                rotate_left 1
                · (intro w hSw; (try dsimp only at hSw); go_simp) <;> with_reducible rfl
                try simp only [Act.put, List.setIfInBounds_toArray, List.set_cons_zero, List.set_cons_succ]
                refine wpAnyH_ready (rs := [11]) (by kernel_rfl) (by simp) ?_
                refine AllReadyH.cons (o := { dst := none, op := Op.store 45 (Operand.tmp 8) (Operand.tmp 43), type := 0, pos := "l2_store.go:402", after := #[{ on := 10, ground := Ground.data }, { on := 9, ground := Ground.data }, { on := 6, ground := Ground.chain }, { on := 0, ground := Ground.phase }, { on := 1, ground := Ground.phase }, { on := 2, ground := Ground.phase }, { on := 3, ground := Ground.phase }, { on := 4, ground := Ground.phase }, { on := 5, ground := Ground.phase }, { on := 6, ground := Ground.phase }, { on := 7, ground := Ground.phase }, { on := 8, ground := Ground.phase }, { on := 9, ground := Ground.phase }, { on := 10, ground := Ground.phase }], guard := none }) rfl (fun K hK => ?_) (AllReadyH.nil)
                · go_simp
                  refine hK.out _ _ (HSS.out _ (kc4 hKr (by omega))) (fun hHeld => ?_)
                  clear hK K
                  try simp only [Act.put, List.setIfInBounds_toArray, List.set_cons_zero, List.set_cons_succ]
                  refine wpAnyH_done (by kernel_rfl) ?_ _
                  go_wp2_with fail
                  go_meet
                  exact ⟨wo.heap.size + 1, rfl, hid (made10 hD6 (kc4 hKr (by omega)) (bel4 (by omega)) (by omega) (set4 (box3 hK6 hgr)))⟩
        · go_simp
          go_at_call 35
          refine (KP.out _ ((Below.refl _ _).drew)).mono ?_
          rintro e w6 ⟨rfl, hD6, hK6, hKr⟩
          have hs6 := hKr.size
          obtain ⟨q1, q2, q3⟩ := lit8 w6 har
          go_wp2_with fail
          refine hK.out _ _ (HSS.out _ hKr) (fun hHeld => ?_)
          clear hK K
          try simp only [Act.put, List.setIfInBounds_toArray, List.set_cons_zero, List.set_cons_succ]
          refine wpAnyH_ready (rs := [4, 10]) (by kernel_rfl) (by simp) ?_
          refine AllReadyH.cons (o := { dst := some 38, op := Op.buildSlice 43 4 #[(0, Operand.const (Value.int IntKind.i64 2)), (1, Operand.const (Value.int IntKind.i64 2)), (2, Operand.const (Value.int IntKind.i64 1)), (3, Operand.const (Value.int IntKind.i64 3))], type := 43, pos := "l2_store.go:402", after := #[], guard := none }) rfl (fun K hK => ?_) (AllReadyH.cons (o := { dst := some 8, op := Op.alloc 45, type := 0, pos := "l2_store.go:402", after := #[], guard := none }) rfl (fun K hK => ?_) (AllReadyH.nil))
          · go_simp
            refine hK.out _ _ (HSS.out _ ((hKr).al _)) (fun hHeld => ?_)
            clear hK K
            try simp only [Act.put, List.setIfInBounds_toArray, List.set_cons_zero, List.set_cons_succ]
            refine wpAnyH_take (i := 7) (oi := { dst := some 41, op := Op.indexAddr 43 (Operand.tmp 38) (Operand.tmp 40), type := 0, pos := "l2_store.go:402", after := #[{ on := 4, ground := Ground.data }, { on := 6, ground := Ground.data }], guard := none }) (v := ?_) rfl (by kernel_rfl) (by kernel_rfl) (by kernel_rfl) (fun _ _ _ h => h) (Or.inl ⟨by rfl, ?_⟩) (by assumption) ?_
            rotate_left 1
            · (intro w hSw; (try dsimp only at hSw); go_simp) <;> with_reducible rfl
            try simp only [Act.put, List.setIfInBounds_toArray, List.set_cons_zero, List.set_cons_succ]
            refine wpAnyH_ready (rs := [8, 10]) (by kernel_rfl) (by simp) ?_
            refine AllReadyH.cons (o := { dst := some 42, op := Op.load 3 (Operand.tmp 41), type := 3, pos := "l2_store.go:402", after := #[{ on := 7, ground := Ground.data }], guard := none }) rfl (fun K hK => ?_) (AllReadyH.cons (o := { dst := some 8, op := Op.alloc 45, type := 0, pos := "l2_store.go:402", after := #[], guard := none }) rfl (fun K hK => ?_) (AllReadyH.nil))
            · go_simp
              refine hK.out _ _ (HSS.out _ ((hKr).al _)) (fun hHeld => ?_)
              clear hK K
              try simp only [Act.put, List.setIfInBounds_toArray, List.set_cons_zero, List.set_cons_succ]
              refine wpAnyH_take (i := 9) (oi := { dst := some 43, op := Op.build 45 #[(0, Operand.tmp 37), (1, Operand.tmp 42)], type := 45, pos := "l2_store.go:402", after := #[{ on := 3, ground := Ground.data }, { on := 8, ground := Ground.data }], guard := none }) (v := ?_) rfl (by kernel_rfl) (by kernel_rfl) (by kernel_rfl) (fun _ _ _ h => h) (Or.inl ⟨by rfl, ?_⟩) (by assumption) ?_
              rotate_left 1
              · (intro w hSw; (try dsimp only at hSw); go_simp) <;> with_reducible rfl
              try simp only [Act.put, List.setIfInBounds_toArray, List.set_cons_zero, List.set_cons_succ]
              refine wpAnyH_ready (rs := [10]) (by kernel_rfl) (by simp) ?_
              refine AllReadyH.cons (o := { dst := some 8, op := Op.alloc 45, type := 0, pos := "l2_store.go:402", after := #[], guard := none }) rfl (fun K hK => ?_) (AllReadyH.nil)
              · go_simp
                refine hK.out _ _ (HSS.out _ (((hKr).al _).al _)) (fun hHeld => ?_)
                clear hK K
                try simp only [Act.put, List.setIfInBounds_toArray, List.set_cons_zero, List.set_cons_succ]
                refine wpAnyH_ready (rs := [11]) (by kernel_rfl) (by simp) ?_
                refine AllReadyH.cons (o := { dst := none, op := Op.store 45 (Operand.tmp 8) (Operand.tmp 43), type := 0, pos := "l2_store.go:402", after := #[{ on := 10, ground := Ground.data }, { on := 9, ground := Ground.data }, { on := 6, ground := Ground.chain }, { on := 0, ground := Ground.phase }, { on := 1, ground := Ground.phase }, { on := 2, ground := Ground.phase }, { on := 3, ground := Ground.phase }, { on := 4, ground := Ground.phase }, { on := 5, ground := Ground.phase }, { on := 6, ground := Ground.phase }, { on := 7, ground := Ground.phase }, { on := 8, ground := Ground.phase }, { on := 9, ground := Ground.phase }, { on := 10, ground := Ground.phase }], guard := none }) rfl (fun K hK => ?_) (AllReadyH.nil)
                · go_simp
                  refine hK.out _ _ (HSS.out _ (((hKr).al _).al _)) (fun hHeld => ?_)
                  clear hK K
                  try simp only [Act.put, List.setIfInBounds_toArray, List.set_cons_zero, List.set_cons_succ]
                  refine wpAnyH_done (by kernel_rfl) ?_ _
                  go_wp2_with fail
                  go_meet
                  exact ⟨w6.heap.size + 1, rfl, hid (made10 hD6 ((hKr.al _).al _) (bel_n2 hD6) (by omega) (heap_new2 _ _ _))⟩
            · go_simp
              refine hK.out _ _ (HSS.out _ (((hKr).al _).al _)) (fun hHeld => ?_)
              clear hK K
              try simp only [Act.put, List.setIfInBounds_toArray, List.set_cons_zero, List.set_cons_succ]
              refine wpAnyH_ready (rs := [8]) (by kernel_rfl) (by simp) ?_
              refine AllReadyH.cons (o := { dst := some 42, op := Op.load 3 (Operand.tmp 41), type := 3, pos := "l2_store.go:402", after := #[{ on := 7, ground := Ground.data }], guard := none }) rfl (fun K hK => ?_) (AllReadyH.nil)
              · go_simp
                refine hK.out _ _ (HSS.out _ (((hKr).al _).al _)) (fun hHeld => ?_)
                clear hK K
                try simp only [Act.put, List.setIfInBounds_toArray, List.set_cons_zero, List.set_cons_succ]
                refine wpAnyH_take (i := 9) (oi := { dst := some 43, op := Op.build 45 #[(0, Operand.tmp 37), (1, Operand.tmp 42)], type := 45, pos := "l2_store.go:402", after := #[{ on := 3, ground := Ground.data }, { on := 8, ground := Ground.data }], guard := none }) (v := ?_) rfl (by kernel_rfl) (by kernel_rfl) (by kernel_rfl) (fun _ _ _ h => h) (Or.inl ⟨by rfl, ?_⟩) (by assumption) ?_
                rotate_left 1
                · (intro w hSw; (try dsimp only at hSw); go_simp) <;> with_reducible rfl
                try simp only [Act.put, List.setIfInBounds_toArray, List.set_cons_zero, List.set_cons_succ]
                refine wpAnyH_ready (rs := [11]) (by kernel_rfl) (by simp) ?_
                refine AllReadyH.cons (o := { dst := none, op := Op.store 45 (Operand.tmp 8) (Operand.tmp 43), type := 0, pos := "l2_store.go:402", after := #[{ on := 10, ground := Ground.data }, { on := 9, ground := Ground.data }, { on := 6, ground := Ground.chain }, { on := 0, ground := Ground.phase }, { on := 1, ground := Ground.phase }, { on := 2, ground := Ground.phase }, { on := 3, ground := Ground.phase }, { on := 4, ground := Ground.phase }, { on := 5, ground := Ground.phase }, { on := 6, ground := Ground.phase }, { on := 7, ground := Ground.phase }, { on := 8, ground := Ground.phase }, { on := 9, ground := Ground.phase }, { on := 10, ground := Ground.phase }], guard := none }) rfl (fun K hK => ?_) (AllReadyH.nil)
                · go_simp
                  refine hK.out _ _ (HSS.out _ (((hKr).al _).al _)) (fun hHeld => ?_)
                  clear hK K
                  try simp only [Act.put, List.setIfInBounds_toArray, List.set_cons_zero, List.set_cons_succ]
                  refine wpAnyH_done (by kernel_rfl) ?_ _
                  go_wp2_with fail
                  go_meet
                  exact ⟨w6.heap.size + 1, rfl, hid (made10 hD6 ((hKr.al _).al _) (bel_n2 hD6) (by omega) (heap_new2 _ _ _))⟩
          · go_simp
            refine hK.out _ _ (HSS.out _ ((hKr).al _)) (fun hHeld => ?_)
            clear hK K
            try simp only [Act.put, List.setIfInBounds_toArray, List.set_cons_zero, List.set_cons_succ]
            refine wpAnyH_ready (rs := [4]) (by kernel_rfl) (by simp) ?_
            refine AllReadyH.cons (o := { dst := some 38, op := Op.buildSlice 43 4 #[(0, Operand.const (Value.int IntKind.i64 2)), (1, Operand.const (Value.int IntKind.i64 2)), (2, Operand.const (Value.int IntKind.i64 1)), (3, Operand.const (Value.int IntKind.i64 3))], type := 43, pos := "l2_store.go:402", after := #[], guard := none }) rfl (fun K hK => ?_) (AllReadyH.nil)
            · go_simp
              refine hK.out _ _ (HSS.out _ (((hKr).al _).al _)) (fun hHeld => ?_)
              clear hK K
              try simp only [Act.put, List.setIfInBounds_toArray, List.set_cons_zero, List.set_cons_succ]
              refine wpAnyH_take (i := 7) (oi := { dst := some 41, op := Op.indexAddr 43 (Operand.tmp 38) (Operand.tmp 40), type := 0, pos := "l2_store.go:402", after := #[{ on := 4, ground := Ground.data }, { on := 6, ground := Ground.data }], guard := none }) (v := ?_) rfl (by kernel_rfl) (by kernel_rfl) (by kernel_rfl) (fun _ _ _ h => h) (Or.inl ⟨by rfl, ?_⟩) (by assumption) ?_
              rotate_left 1
              · (intro w hSw; (try dsimp only at hSw); go_simp) <;> with_reducible rfl
              try simp only [Act.put, List.setIfInBounds_toArray, List.set_cons_zero, List.set_cons_succ]
              refine wpAnyH_ready (rs := [8]) (by kernel_rfl) (by simp) ?_
              refine AllReadyH.cons (o := { dst := some 42, op := Op.load 3 (Operand.tmp 41), type := 3, pos := "l2_store.go:402", after := #[{ on := 7, ground := Ground.data }], guard := none }) rfl (fun K hK => ?_) (AllReadyH.nil)
              · go_simp
                refine hK.out _ _ (HSS.out _ (((hKr).al _).al _)) (fun hHeld => ?_)
                clear hK K
                try simp only [Act.put, List.setIfInBounds_toArray, List.set_cons_zero, List.set_cons_succ]
                refine wpAnyH_take (i := 9) (oi := { dst := some 43, op := Op.build 45 #[(0, Operand.tmp 37), (1, Operand.tmp 42)], type := 45, pos := "l2_store.go:402", after := #[{ on := 3, ground := Ground.data }, { on := 8, ground := Ground.data }], guard := none }) (v := ?_) rfl (by kernel_rfl) (by kernel_rfl) (by kernel_rfl) (fun _ _ _ h => h) (Or.inl ⟨by rfl, ?_⟩) (by assumption) ?_
                rotate_left 1
                · (intro w hSw; (try dsimp only at hSw); go_simp) <;> with_reducible rfl
                try simp only [Act.put, List.setIfInBounds_toArray, List.set_cons_zero, List.set_cons_succ]
                refine wpAnyH_ready (rs := [11]) (by kernel_rfl) (by simp) ?_
                refine AllReadyH.cons (o := { dst := none, op := Op.store 45 (Operand.tmp 8) (Operand.tmp 43), type := 0, pos := "l2_store.go:402", after := #[{ on := 10, ground := Ground.data }, { on := 9, ground := Ground.data }, { on := 6, ground := Ground.chain }, { on := 0, ground := Ground.phase }, { on := 1, ground := Ground.phase }, { on := 2, ground := Ground.phase }, { on := 3, ground := Ground.phase }, { on := 4, ground := Ground.phase }, { on := 5, ground := Ground.phase }, { on := 6, ground := Ground.phase }, { on := 7, ground := Ground.phase }, { on := 8, ground := Ground.phase }, { on := 9, ground := Ground.phase }, { on := 10, ground := Ground.phase }], guard := none }) rfl (fun K hK => ?_) (AllReadyH.nil)
                · go_simp
                  refine hK.out _ _ (HSS.out _ (((hKr).al _).al _)) (fun hHeld => ?_)
                  clear hK K
                  try simp only [Act.put, List.setIfInBounds_toArray, List.set_cons_zero, List.set_cons_succ]
                  refine wpAnyH_done (by kernel_rfl) ?_ _
                  go_wp2_with fail
                  go_meet
                  exact ⟨w6.heap.size, rfl, hid (made10 hD6 ((hKr.al _).al _) (bel_n2 hD6) (by omega) (heap_al (heap_alloc_new _ _) _))⟩
        · go_simp
          refine hK.out _ _ (HSS.out _ (((Kc.refl _ _).dw).al _)) (fun hHeld => ?_)
          clear hK K
          try simp only [Act.put, List.setIfInBounds_toArray, List.set_cons_zero, List.set_cons_succ]
          refine wpAnyH_ready (rs := [4, 6]) (by kernel_rfl) (by simp) ?_
          refine AllReadyH.cons (o := { dst := some 38, op := Op.buildSlice 43 4 #[(0, Operand.const (Value.int IntKind.i64 2)), (1, Operand.const (Value.int IntKind.i64 2)), (2, Operand.const (Value.int IntKind.i64 1)), (3, Operand.const (Value.int IntKind.i64 3))], type := 43, pos := "l2_store.go:402", after := #[], guard := none }) rfl (fun K hK => ?_) (AllReadyH.cons (o := { dst := some 40, op := Op.call { callee := Callee.value (Operand.func 35), args := #[Operand.tmp 39, Operand.const (Value.int IntKind.i64 4)], argTypes := #[48, 3] }, type := 3, pos := "l2_store.go:402", after := #[{ on := 5, ground := Ground.data }], guard := none }) rfl (fun K hK => ?_) (AllReadyH.nil))
          · go_simp
            refine hK.out _ _ (HSS.out _ ((((Kc.refl _ _).dw).al _).al _)) (fun hHeld => ?_)
            clear hK K
            try simp only [Act.put, List.setIfInBounds_toArray, List.set_cons_zero, List.set_cons_succ]
            refine wpAnyH_ready (rs := [6]) (by kernel_rfl) (by simp) ?_
            refine AllReadyH.cons (o := { dst := some 40, op := Op.call { callee := Callee.value (Operand.func 35), args := #[Operand.tmp 39, Operand.const (Value.int IntKind.i64 4)], argTypes := #[48, 3] }, type := 3, pos := "l2_store.go:402", after := #[{ on := 5, ground := Ground.data }], guard := none }) rfl (fun K hK => ?_) (AllReadyH.nil)
            · go_simp
              go_at_call 35
              refine (KP.out _ (bel_al (bel_al ((Below.refl _ _).drew) _) _)).mono ?_
              rintro e w6 ⟨rfl, hD6, hK6, hKr⟩
              have hs6 := hKr.size
              obtain ⟨hl, b0, b1, b2, b3, b4, b5, b6, b7⟩ := lit6 hK6 hgr har
              go_wp2_with fail
              refine hK.out _ _ (HSS.out _ hKr) (fun hHeld => ?_)
              clear hK K
              try simp only [Act.put, List.setIfInBounds_toArray, List.set_cons_zero, List.set_cons_succ]
              refine wpAnyH_take (i := 7) (oi := { dst := some 41, op := Op.indexAddr 43 (Operand.tmp 38) (Operand.tmp 40), type := 0, pos := "l2_store.go:402", after := #[{ on := 4, ground := Ground.data }, { on := 6, ground := Ground.data }], guard := none }) (v := ?_) rfl (by kernel_rfl) (by kernel_rfl) (by kernel_rfl) (fun _ _ _ h => h) (Or.inl ⟨by rfl, ?_⟩) (by assumption) ?_
              rotate_left 1
              · (intro w hSw; (try dsimp only at hSw); go_simp) <;> with_reducible rfl
              try simp only [Act.put, List.setIfInBounds_toArray, List.set_cons_zero, List.set_cons_succ]
              refine wpAnyH_ready (rs := [8]) (by kernel_rfl) (by simp) ?_
              refine AllReadyH.cons (o := { dst := some 42, op := Op.load 3 (Operand.tmp 41), type := 3, pos := "l2_store.go:402", after := #[{ on := 7, ground := Ground.data }], guard := none }) rfl (fun K hK => ?_) (AllReadyH.nil)
              · go_simp
                refine hK.out _ _ (HSS.out _ (hKr)) (fun hHeld => ?_)
                clear hK K
                try simp only [Act.put, List.setIfInBounds_toArray, List.set_cons_zero, List.set_cons_succ]
                refine wpAnyH_take (i := 9) (oi := { dst := some 43, op := Op.build 45 #[(0, Operand.tmp 37), (1, Operand.tmp 42)], type := 45, pos := "l2_store.go:402", after := #[{ on := 3, ground := Ground.data }, { on := 8, ground := Ground.data }], guard := none }) (v := ?_) rfl (by kernel_rfl) (by kernel_rfl) (by kernel_rfl) (fun _ _ _ h => h) (Or.inl ⟨by rfl, ?_⟩) (by assumption) ?_
                rotate_left 1
                · (intro w hSw; (try dsimp only at hSw); go_simp) <;> with_reducible rfl
                try simp only [Act.put, List.setIfInBounds_toArray, List.set_cons_zero, List.set_cons_succ]
                refine wpAnyH_ready (rs := [11]) (by kernel_rfl) (by simp) ?_
                refine AllReadyH.cons (o := { dst := none, op := Op.store 45 (Operand.tmp 8) (Operand.tmp 43), type := 0, pos := "l2_store.go:402", after := #[{ on := 10, ground := Ground.data }, { on := 9, ground := Ground.data }, { on := 6, ground := Ground.chain }, { on := 0, ground := Ground.phase }, { on := 1, ground := Ground.phase }, { on := 2, ground := Ground.phase }, { on := 3, ground := Ground.phase }, { on := 4, ground := Ground.phase }, { on := 5, ground := Ground.phase }, { on := 6, ground := Ground.phase }, { on := 7, ground := Ground.phase }, { on := 8, ground := Ground.phase }, { on := 9, ground := Ground.phase }, { on := 10, ground := Ground.phase }], guard := none }) rfl (fun K hK => ?_) (AllReadyH.nil)
                · go_simp
                  refine hK.out _ _ (HSS.out _ (kc4 hKr (by omega))) (fun hHeld => ?_)
                  clear hK K
                  try simp only [Act.put, List.setIfInBounds_toArray, List.set_cons_zero, List.set_cons_succ]
                  refine wpAnyH_done (by kernel_rfl) ?_ _
                  go_wp2_with fail
                  go_meet
                  exact ⟨wo.heap.size, rfl, hid (made10 hD6 (kc4 hKr (by omega)) (bel4 (by omega)) (by omega) (set4 (box2 hK6 hgr)))⟩
          · go_simp
            go_at_call 35
            refine (KP.out _ (bel_al ((Below.refl _ _).drew) _)).mono ?_
            rintro e w6 ⟨rfl, hD6, hK6, hKr⟩
            have hs6 := hKr.size
            obtain ⟨k0, k1, k2, k3, k4, k5, k6, k7, n0, n1, n2⟩ := lit7 hK6 hgr
            have q1 := (lit8 w6 har).1
            go_wp2_with fail
            refine hK.out _ _ (HSS.out _ hKr) (fun hHeld => ?_)
            clear hK K
            try simp only [Act.put, List.setIfInBounds_toArray, List.set_cons_zero, List.set_cons_succ]
            refine wpAnyH_ready (rs := [4]) (by kernel_rfl) (by simp) ?_
            refine AllReadyH.cons (o := { dst := some 38, op := Op.buildSlice 43 4 #[(0, Operand.const (Value.int IntKind.i64 2)), (1, Operand.const (Value.int IntKind.i64 2)), (2, Operand.const (Value.int IntKind.i64 1)), (3, Operand.const (Value.int IntKind.i64 3))], type := 43, pos := "l2_store.go:402", after := #[], guard := none }) rfl (fun K hK => ?_) (AllReadyH.nil)
            · go_simp
              refine hK.out _ _ (HSS.out _ ((hKr).al _)) (fun hHeld => ?_)
              clear hK K
              try simp only [Act.put, List.setIfInBounds_toArray, List.set_cons_zero, List.set_cons_succ]
              refine wpAnyH_take (i := 7) (oi := { dst := some 41, op := Op.indexAddr 43 (Operand.tmp 38) (Operand.tmp 40), type := 0, pos := "l2_store.go:402", after := #[{ on := 4, ground := Ground.data }, { on := 6, ground := Ground.data }], guard := none }) (v := ?_) rfl (by kernel_rfl) (by kernel_rfl) (by kernel_rfl) (fun _ _ _ h => h) (Or.inl ⟨by rfl, ?_⟩) (by assumption) ?_
              rotate_left 1
              · (intro w hSw; (try dsimp only at hSw); go_simp) <;> with_reducible rfl
              try simp only [Act.put, List.setIfInBounds_toArray, List.set_cons_zero, List.set_cons_succ]
              refine wpAnyH_ready (rs := [8]) (by kernel_rfl) (by simp) ?_
              refine AllReadyH.cons (o := { dst := some 42, op := Op.load 3 (Operand.tmp 41), type := 3, pos := "l2_store.go:402", after := #[{ on := 7, ground := Ground.data }], guard := none }) rfl (fun K hK => ?_) (AllReadyH.nil)
              · go_simp
                refine hK.out _ _ (HSS.out _ ((hKr).al _)) (fun hHeld => ?_)
                clear hK K
                try simp only [Act.put, List.setIfInBounds_toArray, List.set_cons_zero, List.set_cons_succ]
                refine wpAnyH_take (i := 9) (oi := { dst := some 43, op := Op.build 45 #[(0, Operand.tmp 37), (1, Operand.tmp 42)], type := 45, pos := "l2_store.go:402", after := #[{ on := 3, ground := Ground.data }, { on := 8, ground := Ground.data }], guard := none }) (v := ?_) rfl (by kernel_rfl) (by kernel_rfl) (by kernel_rfl) (fun _ _ _ h => h) (Or.inl ⟨by rfl, ?_⟩) (by assumption) ?_
                rotate_left 1
                · (intro w hSw; (try dsimp only at hSw); go_simp) <;> with_reducible rfl
                try simp only [Act.put, List.setIfInBounds_toArray, List.set_cons_zero, List.set_cons_succ]
                refine wpAnyH_ready (rs := [11]) (by kernel_rfl) (by simp) ?_
                refine AllReadyH.cons (o := { dst := none, op := Op.store 45 (Operand.tmp 8) (Operand.tmp 43), type := 0, pos := "l2_store.go:402", after := #[{ on := 10, ground := Ground.data }, { on := 9, ground := Ground.data }, { on := 6, ground := Ground.chain }, { on := 0, ground := Ground.phase }, { on := 1, ground := Ground.phase }, { on := 2, ground := Ground.phase }, { on := 3, ground := Ground.phase }, { on := 4, ground := Ground.phase }, { on := 5, ground := Ground.phase }, { on := 6, ground := Ground.phase }, { on := 7, ground := Ground.phase }, { on := 8, ground := Ground.phase }, { on := 9, ground := Ground.phase }, { on := 10, ground := Ground.phase }], guard := none }) rfl (fun K hK => ?_) (AllReadyH.nil)
                · go_simp
                  refine hK.out _ _ (HSS.out _ ((kc4 hKr (by omega)).al _)) (fun hHeld => ?_)
                  clear hK K
                  try simp only [Act.put, List.setIfInBounds_toArray, List.set_cons_zero, List.set_cons_succ]
                  refine wpAnyH_done (by kernel_rfl) ?_ _
                  go_wp2_with fail
                  go_meet
                  exact ⟨wo.heap.size, rfl, hid (made10 hD6 ((kc4 hKr (by omega)).al _) (bel4a (by omega) hD6) (by omega) (heap_al (set4 (box1 hK6 hgr)) _))⟩
      case rest =>
        obtain ⟨p, rfl, hcut⟩ := hcut
        obtain ⟨hp, hD7, hK7, hR7⟩ := hcut.out
        have HD7 := hid hD7
        have HK7 := hid hK7
        have HR7 := hid hR7
        obtain ⟨c0, c1, c2, c3, cf⟩ := hR7.cells
        have cf1 := cf 1
        have hgp : g < p := by omega
        clear hcut hD7 hK7 hR7 cf c0 c2 c3 HD hcn
        generalize wc = w7 at *
        have at4 : (pkF L n 4 sI).2.1 ≤ sI.1 + 1 := pkF_at L n 4 sI
        have at11 := pkF_at L n 11 (pkF L n 4 sI).2
        have at12 := pkF_at L n 12 (pkF L n 11 (pkF L n 4 sI).2).2
        have lt11 := pk_lt L n 11 (pkF L n 4 sI).2 (by omega)
        have lt12 := pk_lt L n 12 (pkF L n 11 (pkF L n 4 sI).2).2 (by omega)
        have hsI' : sI.1 ≤ 1001000 := hsI
        have harD := arD_in L n i sI
        go_upto_if 45 with fail
        go_cut [] from 29 to 91 (fun wx => Hid (Dr w wx g a L n cap (pkF L n 4 sI).2 ∧ Kc g wo wx ∧ RM wx p nm ((arD L n i sI : Nat) : Int) [] [] (.slice none 0 0) (.slice none 0 0) []))
        case first =>
          by_cases hi0 : i = 0
          · have e1 : arD L n i sI = 2 := if_pos hi0
            subst hi0
            go_wp2_with fail
            go_meet
            exact hid ⟨HD7.out.bel ((Below.refl _ _).setCell (by show w.heap.size ≤ p; omega) _), HK7.out.nw hp, by rw [e1]; exact HR7.out.setAr 2⟩
          · have e1 : arD L n i sI = ar0 := by rw [HAR.out]; exact if_neg hi0
            have j1 : ((i : Int) == 0) = false := by simp; omega
            have j2 : ¬ (i : Int) = 0 := by omega
            go_wp2_with fail
            go_meet
            exact hid ⟨HD7.out, HK7.out, by rw [e1]; exact HR7.out⟩
        case rest =>
        clear HD7 HK7 HR7 c1 cf1
        have HC := hcut
        clear hcut
        generalize wc = w8 at *
        go_upto_region 14 with (first | (go_at_call 35; refine (HC.out.1.pick hn (by omega) (m := 11) (by omega)).mono ?_; rintro e w9 ⟨rfl, hD9, hK9⟩) | fail)
        go_upto_if 52 with (first | (go_at_call 35; refine (hD9.pick hn (by omega) (m := 12) (by omega)).mono ?_; rintro e w10 ⟨rfl, hD10, hK10⟩) | fail)
        have HC10 := hid (And.intro hD10 (And.intro ((HC.out.2.1.trans hK9).trans hK10) ((HC.out.2.2.kc hK9 hgp).kc hK10 hgp)))
        clear hD9 hK9 hD10 hK10 HC
        go_cut [9] from 29 to 91 (fun u9 wx => u9 = .int .i64 ((cntD L n (pkF L n 4 sI).2 : Nat) : Int) ∧ Hid (Dr w wx g a L n cap (pkF L n 12 (pkF L n 11 (pkF L n 4 sI).2).2).2 ∧ Kc g wo wx ∧ RM wx p nm ((arD L n i sI : Nat) : Int) [] [] (.slice none 0 0) (.slice none 0 0) []))
        case first =>
          by_cases h11 : (pkF L n 12 (pkF L n 11 (pkF L n 4 sI).2).2).1 = 11
          · have e1 : cntD L n (pkF L n 4 sI).2 = 0 := if_pos h11
            rw [h11]
            go_wp2_with fail
            go_meet
            exact ⟨by rw [e1]; rfl, HC10⟩
          · have e1 : cntD L n (pkF L n 4 sI).2 = 4 + (pkF L n 11 (pkF L n 4 sI).2).1 := if_neg h11
            have j1 : ((((pkF L n 12 (pkF L n 11 (pkF L n 4 sI).2).2).1 : Nat) : Int) == 11) = false := by simp; omega
            have j2 : ¬ (((pkF L n 12 (pkF L n 11 (pkF L n 4 sI).2).2).1 : Nat) : Int) = 11 := by omega
            go_wp2_with fail
            go_meet
            exact ⟨by rw [e1]; rfl, HC10⟩
        case rest =>
        obtain ⟨rfl, hcut⟩ := hcut
        have HC := hcut
        clear hcut HC10
        generalize wc = w11 at *
        have HRW : Hid (relRw L n span i sI = rowsF L n span (arD L n i sI) (cntD L n (pkF L n 4 sI).2) (pkF L n 12 (pkF L n 11 (pkF L n 4 sI).2).2).2) := hid rfl
        have HRF : Hid (relF L n span i sI = ⟨nm, ((arD L n i sI : Nat) : Int), (relRw L n span i sI).1.1, (relRw L n span i sI).1.2⟩) := hid (by rw [HNM.out]; rfl)
        have hsR : (pkF L n 12 (pkF L n 11 (pkF L n 4 sI).2).2).2.1 ≤ 1001003 := by omega
        have hcnt := cntD_le L n (pkF L n 4 sI).2
        clear HAR HNM at4 at11 at12 lt11 lt12 hsI' hsI
        generalize (pkF L n 12 (pkF L n 11 (pkF L n 4 sI).2).2).2 = sR at *
        generalize cntD L n (pkF L n 4 sI).2 = cnt at *
        generalize arD L n i sI = ar at *
        go_upto_block 2 with fail
        go_wp2_with fail
        go_loopg [10] cnt (fun gk v10 wx => ∃ (j : Nat) (vr' vw' : Value) (us' : List Value), v10 = .int .i64 j ∧ j ≤ cnt ∧ gk = cnt - j ∧ Hid (Dr w wx g a L n cap (rowsF L n span ar j sR).2 ∧ Kc g wo wx ∧ RM wx p nm (ar : Int) (rowsF L n span ar j sR).1.1 (rowsF L n span ar j sR).1.2 vr' vw' us'))
        case atStart => exact ⟨0, _, _, _, rfl, Nat.zero_le _, rfl, HC⟩
        case round =>
          clear HC
          obtain ⟨j, vr', vw', us', rfl, hj, hgk2, HC⟩ := hrel
          generalize wr = w12 at *
          obtain ⟨hDm, hKm, hRm⟩ := HC.out
          have hgood := rowsF_good L n span ar sR hsp j
          have hatm := rowsF_at L n span ar sR j
          have hmul : j * (ar + 1) ≤ 14 * 4 := Nat.mul_le_mul (by omega) (by omega)
          have HD := hid hDm
          have HK := hid hKm
          have HR := hid hRm
          obtain ⟨a1, k1, e1⟩ := own_shapeR hRm.rw.own
          obtain ⟨a2, k2, e2⟩ := own_shapeR hRm.ow
          subst e1 e2
          have hpl := hRm.lt
          clear HC hDm hKm hRm
          by_cases hjl : j < cnt
          · have j1 : (j : Int) < (cnt : Int) := by omega
            have HN2 : Hid (rowsF L n span ar (j + 1) sR = ((putL (rowsF L n span ar j sR).1.1 (fndK (rowsF L n span ar j sR).1.1 (drwR L n span ar (rowsF L n span ar j sR).2).1) (fndB (rowsF L n span ar j sR).1.1 (drwR L n span ar (rowsF L n span ar j sR).2).1) (drwR L n span ar (rowsF L n span ar j sR).2).1, putL (rowsF L n span ar j sR).1.2 (fndK (rowsF L n span ar j sR).1.1 (drwR L n span ar (rowsF L n span ar j sR).2).1) (fndB (rowsF L n span ar j sR).1.1 (drwR L n span ar (rowsF L n span ar j sR).2).1) (wtD L n (drwR L n span ar (rowsF L n span ar j sR).2).2)), (pkF L n 11 (drwR L n span ar (rowsF L n span ar j sR).2).2).2)) := hid rfl
            have HG : Hid (RowsG ar j (rowsF L n span ar j sR).1) := hid hgood
            have hsm : (rowsF L n span ar j sR).2.1 ≤ 1001100 := by omega
            clear hgood hatm hmul
            generalize rowsF L n span ar j sR = pp at *
            obtain ⟨⟨ls, ws⟩, sm⟩ := pp
            have HB0 : Hid (Below w12.heap.size w12 (w12.alloc (.cells #[] 3))) := hid ((Below.refl _ _).alloc (Nat.le_refl _) _)
            have HO0 : Hid ((w12.alloc (.cells #[] 3)).ownsRow w12.heap.size 3 1 (.slice (some ⟨w12.heap.size, 0, none⟩) 0 0) 0 []) := hid (World.ownsRow_made w12 #[] 0 (Nat.le_refl _) (by decide) rfl)
            have hsw : w.heap.size ≤ w12.heap.size := HD.out.kc.size
            have hsm' : sm.1 ≤ 1001100 := hsm
            go_upto_block 4 with fail
            go_wp2_with fail
            go_loopg [11, 12] ar (fun gk r q wx => ∃ (k : Nat), q = .int .i64 k ∧ k ≤ ar ∧ gk = ar - k ∧ Hid (Dr w wx g a L n cap (drwR L n span k sm).2 ∧ Kc g w12 wx ∧ wx.ownsRow w12.heap.size 3 1 r k ((drwR L n span k sm).1.map (Value.int .i64))))
            case atStart => exact ⟨0, rfl, Nat.zero_le _, rfl, hid ⟨HD.out.bel (HB0.out.mono hsw), Kc.ofBelow HB0.out, HO0.out⟩⟩
            case round =>
              obtain ⟨k, rfl, hka, hgk3, HI⟩ := hrel
              generalize wr = w13 at *
              rename_i r0
              have HR3 := hid (HR.out.kc HI.out.2.1 hgp)
              have hatk := drwR_at L n span sm k
              by_cases hkl : k < ar
              · have q1 : (k : Int) < (ar : Int) := by omega
                obtain ⟨hDk, hKk, hOk⟩ := HI.out
                obtain ⟨c0, c1, c2, c3, cf⟩ := HR3.out.cells
                obtain ⟨ax, cx, ex⟩ := own_shapeR hOk
                subst ex
                have HDk := hid hDk
                have HKk := hid hKk
                have HOk := hid hOk
                have hsk : (drwR L n span k sm).2.1 ≤ 1001200 := by omega
                have HNk : Hid (drwR L n span (k + 1) sm = ((drwR L n span k sm).1 ++ [((pkF L n span (drwR L n span k sm).2).1 : Int)], (pkF L n span (drwR L n span k sm).2).2)) := hid rfl
                have hs13 := hKk.size
                clear HI hDk hKk hOk c0 c2 c3 cf hatk HR3
                generalize drwR L n span k sm = rk at *
                obtain ⟨rl, sk⟩ := rk
                have hsk' : sk.1 ≤ 1001200 := hsk
                have KP : Hid (Calls Tryz.prog 35 #[.pointer (some ⟨g, 0, none⟩), .int .i64 (span : Int)] w13 fun e w' => e = .returned (.int .i64 ((pkF L n span sk).1 : Nat)) ∧ Dr w w' g a L n cap (pkF L n span sk).2 ∧ Kc g w13 w') := hid (HDk.out.pick hn (by show sk.1 ≤ _; omega) hsp)
                generalize pkF L n span sk = pz at *
                obtain ⟨z, sz⟩ := pz
                go_wp2_with (first
                  | (go_at_call 35; refine KP.out.mono ?_; rintro e w14 ⟨rfl, hD14, hK14⟩; have HO14 := hid (own_kcF HOk.out hK14 (by omega)); have hs14 := hK14.size)
                  | (at_builtin; refine wpList_append_lies _ rfl _ _ 43 rfl w12.heap.size 3 iI (.int .i64 0) 1 8 Tryz.underlying43 hI0 hI1 hI2 hI3 rfl (by decide) (.slice ax k cx) k _ rfl (HO14.out.alloc _) ⟨w14.heap.size, 0, none⟩ 1 1 [.int .i64 (z : Int)] rfl rfl (new1_cellS _ _ _) (fun u hu => by simp at hu; subst hu; rfl) (by decide) (by unfold maxLen; omega) (by omega) (by simp; omega) _ rfl ?_; intro g15 cp15 w15 hown15 hgrow15 hat15 hlt15)
                  | fail)
                have hbb : Below w12.heap.size w14 w15 := ((Below.refl _ _).alloc (by omega) _).grown hgrow15 (by simp; omega) (fun c hc => (HO14.out.lt c hc).1)
                have HZ : Hid (Dr w w15 g a L n cap (drwR L n span (k + 1) sm).2 ∧ Kc g w12 w15 ∧ w15.ownsRow w12.heap.size 3 1 (.slice (some ⟨g15, 0, none⟩) (k + 1) cp15) (k + 1) ((drwR L n span (k + 1) sm).1.map (Value.int .i64))) := hid (by
                  rw [HNk.out]
                  exact ⟨hD14.bel (hbb.mono hsw), (HKk.out.trans hK14).up hbb, by rw [List.map_append]; exact hown15⟩)
                clear hbb hown15 hgrow15 hD14 hK14 HO14 hat15 hlt15 KP HNk HOk HDk HKk
                go_wp2_with fail
                go_roundg (ar - (k + 1))
                case measure => omega
                case rel => exact ⟨k + 1, by go_num, by omega, rfl, HZ⟩
              · obtain rfl : k = ar := by omega
                have q1 : ¬ (k : Int) < (k : Int) := by omega
                obtain ⟨hDk, hKk, hOk⟩ := HI.out
                obtain ⟨c0, c1, c2, c3, cf⟩ := HR3.out.cells
                obtain ⟨ax, cx, ex⟩ := own_shapeR hOk
                subst ex
                have HDk := hid hDk
                have HKk := hid hKk
                have hrl : (drwR L n span k sm).1.length = k := drwR_len L n span sm k
                have HOk : Hid (w13.ownsRow (p + 1) 3 1 (.slice ax k cx) (drwR L n span k sm).1.length ((drwR L n span k sm).1.map (Value.int .i64))) := hid (by rw [hrl]; exact own_base hOk (by omega))
                have hsk : (drwR L n span k sm).2.1 ≤ 1001200 := by omega
                have hs13 := hKk.size
                clear HI hDk hKk hOk c0 hatk
                generalize drwR L n span k sm = rk at *
                obtain ⟨rl, sk⟩ := rk
                have hsk' : sk.1 ≤ 1001200 := hsk
                have hrl' : rl.length = k := hrl
                have KW : Hid (Calls Tryz.prog 37 #[.pointer (some ⟨g, 0, none⟩)] w13.drew fun e w' => e = .returned (.int .i64 (wtD L n sk)) ∧ Dr w w' g a L n cap (pkF L n 11 sk).2 ∧ Kc g w13 w') := hid (((HDk.out.bel (Below.refl _ _).drew).weight hn (by show sk.1 ≤ _; omega)).mono fun e w' ⟨h1, h2, h3⟩ => ⟨h1, h2, (Kc.refl _ _).dw.trans h3⟩)
                have KT : Hid (∀ W x, Dr w W g a L n cap (pkF L n 11 sk).2 ∧ Kc g w13 W → Calls Tryz.prog 36 #[.slice a1 ls.length k1, .slice a2 ws.length k2, .slice ax k cx, .int .i64 x] W fun e w' => ∃ u1 u2 us2, e = .returned (.tuple #[u1, u2]) ∧ Kc g w13 w' ∧ Dr w w' g a L n cap (pkF L n 11 sk).2 ∧ RM w' p nm (k : Int) ls ws (.slice a1 ls.length k1) (.slice a2 ws.length k2) us' ∧ RWs w' (p + 1) u1 us2 (putL ls (fndK ls rl) (fndB ls rl) rl) ∧ w'.ownsRow (p + 1) 3 1 u2 (putL ws (fndK ls rl) (fndB ls rl) x).length ((putL ws (fndK ls rl) (fndB ls rl) x).map (Value.int .i64)) ∧ ∀ u ∈ us2, Apw u u2) := hid fun W x ⟨h1, h2⟩ => by
                  have hRW := HR3.out.kc h2 hgp
                  refine (hRW.call (by have := HG.out.few; show ls.length ≤ 2000; have h9 : ls.length ≤ j := this; omega) (fun r hr => by have := HG.out.len r hr; omega) (own_kcF HOk.out h2 (by omega)) (by omega) x).mono ?_
                  rintro e w' ⟨u1, u2, us2, h4, h5, h6, h7, h8⟩
                  exact ⟨u1, u2, us2, h4, h2.up (h5.mono h2.size), h1.bel (h5.mono h1.kc.size), hRW.kc (Kc.ofBelow h5) hgp, h6, h7, h8⟩
                have HEQ : Hid (∀ x, (putL ws (fndK ls rl) (fndB ls rl) x).length = (putL ls (fndK ls rl) (fndB ls rl) rl).length) := hid fun x => put_same HG.out.ws
                have HNE : Hid (putL ls (fndK ls rl) (fndB ls rl) rl ≠ []) := hid (putL_ne _ _ _ _)
                generalize hLS : putL ls (fndK ls rl) (fndB ls rl) rl = LS at *
                generalize wtD L n sk = wv at *
                generalize hWS : putL ws (fndK ls rl) (fndB ls rl) wv = WS at *
                have HKT := hid (KT.out)
                go_upto_region 24 with fail
                go_cut [13, 14] from 53 to 85 (fun u1 u2 wx => ∃ us2, Hid (Kc g w13 wx ∧ Dr w wx g a L n cap (pkF L n 11 sk).2 ∧ RM wx p nm (k : Int) ls ws (.slice a1 ls.length k1) (.slice a2 ws.length k2) us' ∧ RWs wx (p + 1) u1 us2 LS ∧ wx.ownsRow (p + 1) 3 1 u2 WS.length (WS.map (Value.int .i64)) ∧ ∀ u ∈ us2, Apw u u2))
                case first =>
                  have HSS : Hid (∀ W, Kc g w13 W → W.cell? ⟨p, 2, none⟩ = some (.slice a1 ls.length k1) ∧ W.cell? ⟨p, 3, none⟩ = some (.slice a2 ws.length k2) ∧ Kc g w13 W) := hid fun W hW => ⟨hW.cell (by omega) c2, hW.cell (by omega) c3, hW⟩
                  first | go_region_held3 (fun W => W.cell? ⟨p, 2, none⟩ = some (.slice a1 ls.length k1) ∧ W.cell? ⟨p, 3, none⟩ = some (.slice a2 ws.length k2) ∧ Kc g w13 W)
                      (first | with_reducible exact HSS.out _ (Kc.refl _ _).dw | with_reducible exact HSS.out _ hKa | with_reducible exact HSS.out _ hKb | fail)
                      (first | (go_at_call 37; refine KW.out.mono ?_; rintro e w14 ⟨rfl, hD14, hKa⟩) | (go_at_call 36; refine (KT.out _ _ ⟨hD14, hKa⟩).mono ?_; rintro e w15 ⟨v15, v16, us2, rfl, hKb, hD15, hR15, hW15, hO15, hP15⟩) | fail) | fail
                  all_goals (go_wp2_with fail; go_meet)
                  all_goals exact ⟨us2, hid ⟨hKb, hD15, hR15, hW15, by rw [← hWS]; exact hO15, hP15⟩⟩
                case rest =>
                rename_i u13 u14
                obtain ⟨us2, hcut⟩ := hcut
                obtain ⟨hKc, hDc, hRc, hWc, hOc, hPc⟩ := hcut.out
                obtain ⟨b1, l1, f1⟩ := own_shapeR hWc.own
                obtain ⟨b2, l2, f2⟩ := own_shapeR hOc
                subst f1 f2
                obtain ⟨d0, d1, d2, d3, df⟩ := hRc.cells
                have df2 := df 2
                have df3 := df 3
                have hbs : Below w12.heap.size wc wc := Below.refl _ _
                have HF : Hid (Dr w ((wc.setCell ⟨p, 2, none⟩ (.slice b1 LS.length l1)).setCell ⟨p, 3, none⟩ (.slice b2 WS.length l2)) g a L n cap (pkF L n 11 sk).2 ∧ Kc g wo ((wc.setCell ⟨p, 2, none⟩ (.slice b1 LS.length l1)).setCell ⟨p, 3, none⟩ (.slice b2 WS.length l2)) ∧ RM ((wc.setCell ⟨p, 2, none⟩ (.slice b1 LS.length l1)).setCell ⟨p, 3, none⟩ (.slice b2 WS.length l2)) p nm (k : Int) LS WS (.slice b1 LS.length l1) (.slice b2 WS.length l2) us2) := hid ⟨hDc.bel (((Below.refl _ _).setCell (by show w.heap.size ≤ p; omega) _).setCell (by show w.heap.size ≤ p; omega) _), (((HK.out.trans HKk.out).trans hKc).nw hp).nw hp, hRc.put (Below.refl _ _) hWc hOc (by rw [← hWS]; exact HEQ.out wv) HNE.out hPc⟩
                clear hcut hKc hDc hRc hWc hOc hPc d0 d1 df hbs KW KT HKT HEQ HNE HOk HDk HKk HR3 c1 c2 c3 cf
                go_wp2_with fail
                go_roundg (cnt - (j + 1))
                case measure => omega
                case rel => exact ⟨j + 1, _, _, us2, by go_num, by omega, rfl, by rw [HN2.out]; exact HF⟩
          · obtain rfl : j = cnt := by omega
            have j1 : ¬ (j : Int) < (j : Int) := by omega
            have HRW2 : Hid (rowsF L n span ar j sR = relRw L n span i sI) := hid HRW.out.symm
            rw [HRW2.out] at HD HR
            rw [HRW2.out] at hgood hatm
            have HS12 := hid (HS.out.kc HK.out hgl)
            have e1 : (relF L n span i sI).name = nm := by rw [HRF.out]
            have e2 : (relF L n span i sI).ar = (ar : Int) := by rw [HRF.out]
            have e3 : (relF L n span i sI).rows = (relRw L n span i sI).1.1 := rfl
            have e4 : (relF L n span i sI).ws = (relRw L n span i sI).1.2 := rfl
            have HM : Hid (RM w12 p (relF L n span i sI).name (relF L n span i sI).ar (relF L n span i sI).rows (relF L n span i sI).ws (.slice a1 (relRw L n span i sI).1.1.length k1) (.slice a2 (relRw L n span i sI).1.2.length k2) us') := hid (by rw [e1, e2]; exact HR.out)
            obtain ⟨c0, c1, c2, c3, cf⟩ := HM.out.cells
            rw [e1] at c0
            rw [e2] at c1
            obtain ⟨aV, cV, eV⟩ := own_shapeR HS12.out.sq.own
            subst eV
            have hb3 : w12.cell? ⟨w.heap.size + 1, 0, none⟩ = some (.slice aV ds.length cV) := by rw [cell_of_row _ _ _ _ _ _ HS12.out.b3]; rfl
            have hb3f : w12.frozen? ⟨w.heap.size + 1, 0, none⟩ = false := by unfold World.frozen?; rw [show w12.heap[w.heap.size + 1]? = _ from HS12.out.b3]; simp
            have hs12 : w.heap.size + 3 ≤ w12.heap.size := by omega
            have HNW : Hid (∀ jj u, (relS (relF L n span i sI) (.slice a1 (relRw L n span i sI).1.1.length k1) (.slice a2 (relRw L n span i sI).1.2.length k2))[jj]? = some u → (w12.alloc (.cells #[.string nm, .int .i64 (ar : Int), .slice a1 (relRw L n span i sI).1.1.length k1, .slice a2 (relRw L n span i sI).1.2.length k2] 45)).cell? ((⟨w12.heap.size, 0, none⟩ : Addr).add jj) = some u) := hid (by unfold relS; rw [e1, e2]; exact World.news_of_block (heap_alloc_new w12 _))
            have HONE : Hid (∀ u ∈ relS (relF L n span i sI) (.slice a1 (relRw L n span i sI).1.1.length k1) (.slice a2 (relRw L n span i sI).1.2.length k2), u.oneCell' = true) := hid (fun u hu => by simp [relS] at hu; rcases hu with rfl | rfl | rfl | rfl <;> rfl)
            generalize (relRw L n span i sI).1.1.length = n1 at *
            generalize (relRw L n span i sI).1.2.length = n2 at *
            clear HRW2 hgood hatm hmul cf
            go_wp2_with (first | (at_builtin; refine wpList_append_lies _ rfl _ _ 23 rfl (w.heap.size + 3) 45 iR (.agg #[.string ⟨#[]⟩, .int .i64 0, .slice none 0 0, .slice none 0 0]) 4 72 Tryz.underlying23 hR0 hR1 hR2 hR3 rfl (by decide) (.slice aV ds.length cV) _ _ rfl (HS12.out.sq.own.alloc _) ⟨w12.heap.size, 0, none⟩ 1 1 (relS (relF L n span i sI) (.slice a1 n1 k1) (.slice a2 n2 k2)) rfl rfl HNW.out HONE.out (by decide) (by unfold maxLen; omega) (by omega) (by rw [World.size_alloc]; omega) _ rfl ?_; intro g16 cp16 w16 hown16 hgrow16 hat16 hlt16; have hx16 : w16.heap[w.heap.size + 1]? = some (.cells #[.slice aV ds.length cV] 25 (0, 0)) := (kept_of hgrow16 (by omega) (fun e => by have := (HS12.out.sq.own.lt _ e.symm).1; omega)).trans HS12.out.b3; have c16 : w16.cell? ⟨w.heap.size + 1, 0, none⟩ = some (.slice aV ds.length cV) := (by rw [cell_of_row _ _ _ _ _ _ hx16]; rfl); have f16 : w16.frozen? ⟨w.heap.size + 1, 0, none⟩ = false := (by unfold World.frozen?; rw [show w16.heap[w.heap.size + 1]? = _ from hx16]; simp)) | fail)
            have HFin : Hid (Dr w (w16.setCell ⟨w.heap.size + 1, 0, none⟩ (.slice (some ⟨g16, 0, none⟩) (ds.length + 1) cp16)) g a L n cap (relRw L n span i sI).2 ∧ DS w (w16.setCell ⟨w.heap.size + 1, 0, none⟩ (.slice (some ⟨g16, 0, none⟩) (ds.length + 1) cp16)) (.slice (some ⟨g16, 0, none⟩) (ds.length + 1) cp16) (ds ++ [relF L n span i sI]) _ _ _) := hid ⟨HD.out.bel ((((Below.refl _ _).alloc (by omega) _).grown hgrow16 (by simp; omega) (fun c hc => by have := (HS12.out.sq.own.lt c hc).1; omega)).setCell (by show w.heap.size ≤ w.heap.size + 1; omega) _), HS12.out.push HM.out (by omega) hown16 hgrow16 (HS.out.lts.mono hp)⟩
            go_roundg (M - (i + 1))
            case measure => omega
            case rel => exact ⟨i + 1, _, _, _, _, by go_num, by omega, rfl, by rw [HN.out]; exact HFin⟩
    · obtain rfl : i = M := by omega
      have i1 : ¬ (i : Int) < (i : Int) := by omega
      obtain ⟨hDz, hSz⟩ := HH.out
      obtain ⟨aV, cV, eV⟩ := own_shapeR hSz.sq.own
      generalize hdl : (datF L n span i s5).1.length = dl at *
      subst eV
      have hb3 : wo.cell? ⟨w.heap.size + 1, 0, none⟩ = some (.slice aV dl cV) := by rw [cell_of_row _ _ _ _ _ _ hSz.b3]; rfl
      have hb2 : wo.cell? ⟨w.heap.size, 0, none⟩ = some (.slice none 0 0) := by rw [cell_of_row _ _ _ _ _ _ hSz.b2]; rfl
      have hb2f : wo.frozen? ⟨w.heap.size, 0, none⟩ = false := by unfold World.frozen?; rw [show wo.heap[w.heap.size]? = _ from hSz.b2]; simp
      have HZ : Hid (Dr w (wo.setCell ⟨w.heap.size, 0, none⟩ (.slice aV dl cV)) g a L n cap (datF L n span i s5).2 ∧ SQ (wo.setCell ⟨w.heap.size, 0, none⟩ (.slice aV dl cV)) w.heap.size (.slice aV dl cV) (datF L n span i s5).1 vr vw us ∧ ApD (datF L n span i s5).1.length vw us) := hid ⟨hDz.bel ((Below.refl _ _).setCell (by show w.heap.size ≤ w.heap.size; omega) _), ((hSz.sq.setN (by omega)).baseF (by omega)), hSz.ap⟩
      clear hDz hSz HH hdl
      go_wp2_with fail
      refine bodyPost_ret (v := .agg #[.slice aV dl cV]) (by simp [results, Tryz.results14, go_sem, hb2]) rfl ?_
      rw [HE.out]
      exact ⟨_, rfl, HZ.out.1, vr, vw, us, HZ.out.2⟩

end Go.Proofs.YtcdfoephhjacdaaGreatDoor
