import Derived.Deep.RegionWith
import Derived.Defers
import Derived.Recover
import Derived.Test.YtcdfoephhjacdaaGreatDoorR38
/-
  The program's parse: what it defers.
-/
namespace Go.Proofs.YtcdfoephhjacdaaGreatDoor
open Go.RowKit

theorem Tryz.taNil (w : World) : Sem.run Tryz.prog (Instr.typeAssert Value.nilIface 20 78 true) w = .ok (.tuple #[.agg #[.int .i64 0, .int .i64 0], .bool false]) w := by kernel_rfl
theorem Tryz.taFault (v : Value) (w : World) : Sem.run Tryz.prog (Instr.typeAssert (.iface 78 v) 20 78 true) w = .ok (.tuple #[v, .bool true]) w := by kernel_rfl

set_option maxHeartbeats 4000000 in
set_option maxRecDepth 1000000 in
theorem catch_idle (p q : Addr) (w : World) :
    CallsD Tryz.prog 80 #[.pointer (some p), .pointer (some q)] .returning w fun e u' w' => e = .returned (.tuple #[]) ∧ u' = .returning ∧ w' = w.alloc (.cells #[.int .i64 0, .int .i64 0] 78) := by
  refine callsD_of_wpS Tryz.func80 rfl fun c₀ cs hu => ?_
  change Code.wpS _ _ _ ⟨#[.pointer (some p), .pointer (some q), undef, undef, undef, undef, undef, undef, undef, undef, undef, undef, undef], []⟩ _ _
  apply wpS_seq
  apply wpS_region
  have ta := Tryz.taNil
  simp [wpOpsS, go_sem, recoverD, hu, ta, Exit.thenS]
  apply wpS_seq
  apply wpS_region
  simp [wpOpsS, go_sem, Exit.thenS]
  refine wpS_cond (t := false) (by simp [Act.eval]) ?_
  simp only [Bool.false_eq_true, if_false]
  refine wpS_of_wp (wp_skip ?_)
  cases c₀
  simp_all [bodyPostS, results, Tryz.results80]

/-- only blocks B and C are others -/
structure Ex2 (B C : Nat) (w w' : World) : Prop where
  os : w'.os = w.os
  tape : w'.tape = w.tape
  output : w'.output = w.output
  size : w.heap.size ≤ w'.heap.size
  block : ∀ b, b < w.heap.size → b ≠ B → b ≠ C → w'.heap[b]? = w.heap[b]?

set_option maxHeartbeats 4000000 in
set_option maxRecDepth 1000000 in
theorem catch_panicking (B C : Nat) (a b c d : Value) (z : Int) (older : List PanicEntry) (w : World) (hB : w.heap[B]? = some (.cells #[a, b, c, d] 29 (0, 0))) (hC : w.heap[C]? = some (.cells #[.nilIface] 74 (0, 0))) (hBC : B ≠ C) :
    CallsD Tryz.prog 80 #[.pointer (some ⟨B, 0, none⟩), .pointer (some ⟨C, 0, none⟩)] (.panicking (flt z ++ older)) w fun e u' w' => e = .returned (.tuple #[]) ∧ u' = .panicking ({ v := .iface 78 (.agg #[.int .i64 3, .int .i64 z]), recovered := true } :: older) ∧ w'.heap[B]? = some (.cells #[.string ⟨#[]⟩, .slice none 0 0, .int .i64 0, .slice none 0 0] 29 (0, 0)) ∧ w'.heap[C]? = some (.cells #[.iface 78 (.agg #[.int .i64 3, .int .i64 z])] 74 (0, 0)) ∧ Ex2 B C w w' := by
  refine callsD_of_wpS Tryz.func80 rfl fun c₀ cs hu => ?_
  change Code.wpS _ _ _ ⟨#[.pointer (some ⟨B, 0, none⟩), .pointer (some ⟨C, 0, none⟩), undef, undef, undef, undef, undef, undef, undef, undef, undef, undef, undef], []⟩ _ _
  apply wpS_seq
  apply wpS_region
  have ta := Tryz.taFault
  have hu' : c₀.mode = .panicking ({ v := .iface 78 (.agg #[.int .i64 3, .int .i64 z]), recovered := false } :: older) := hu
  simp [wpOpsS, go_sem, recoverD, hu', ta, Exit.thenS]
  apply wpS_seq
  apply wpS_region
  simp [wpOpsS, go_sem, Exit.thenS]
  refine wpS_cond (t := true) (by simp [Act.eval]) ?_
  simp only [if_true]
  refine wpS_of_wp ?_
  have hBl : B < w.heap.size := World.block_lt_of_cell? w ⟨B, 0, none⟩ (cell_of_row _ _ _ _ _ _ hB)
  have hCl : C < w.heap.size := World.block_lt_of_cell? w ⟨C, 0, none⟩ (cell_of_row _ _ _ _ _ _ hC)
  obtain ⟨W, hW⟩ : ∃ W, W = w.alloc (.cells #[.int .i64 3, .int .i64 z] 78) := ⟨_, rfl⟩
  have hbw : Below w.heap.size w W := by rw [hW]; exact (Below.refl _ _).alloc (Nat.le_refl _) _
  have hBW := (hbw.block B hBl).trans hB
  have hCW := (hbw.block C hCl).trans hC
  have hFW : W.heap[w.heap.size]? = some (.cells #[.int .i64 3, .int .i64 z] 78 (0, 0)) := by rw [hW]; exact heap_alloc_new _ _
  rw [← hW]
  have b0 : W.cell? ⟨B, 0, none⟩ = some a := cell_of_row _ _ _ _ _ _ hBW
  have b1 : W.cell? ⟨B, 1, none⟩ = some b := cell_of_row _ _ _ _ _ _ hBW
  have b2 : W.cell? ⟨B, 2, none⟩ = some c := cell_of_row _ _ _ _ _ _ hBW
  have b3 : W.cell? ⟨B, 3, none⟩ = some d := cell_of_row _ _ _ _ _ _ hBW
  have bf : ∀ q, W.frozen? ⟨B, q, none⟩ = false := fun q => by unfold World.frozen?; rw [hBW]; simp
  have bf0 := bf 0
  have bf1 := bf 1
  have bf2 := bf 2
  have bf3 := bf 3
  have c0 : W.cell? ⟨C, 0, none⟩ = some .nilIface := cell_of_row _ _ _ _ _ _ hCW
  have cf : W.frozen? ⟨C, 0, none⟩ = false := by unfold World.frozen?; rw [hCW]; simp
  have t0 : W.cell? ⟨w.heap.size, 0, none⟩ = some (.int .i64 3) := cell_of_row _ _ _ _ _ _ hFW
  have t1 : W.cell? ⟨w.heap.size, 1, none⟩ = some (.int .i64 z) := cell_of_row _ _ _ _ _ _ hFW
  have hCB : C ≠ B := fun e => hBC e.symm
  have HFin : Hid (∀ W', W' = ((((W.drew.setCell ⟨B, 0, none⟩ (.string ⟨#[]⟩)).setCell ⟨B, 1, none⟩ (.slice none 0 0)).setCell ⟨B, 2, none⟩ (.int .i64 0)).setCell ⟨B, 3, none⟩ (.slice none 0 0)).setCell ⟨C, 0, none⟩ (.iface 78 (.agg #[.int .i64 3, .int .i64 z])) → W'.heap[B]? = some (.cells #[.string ⟨#[]⟩, .slice none 0 0, .int .i64 0, .slice none 0 0] 29 (0, 0)) ∧ W'.heap[C]? = some (.cells #[.iface 78 (.agg #[.int .i64 3, .int .i64 z])] 74 (0, 0)) ∧ Ex2 B C w W') := hid fun W' e => by
    have hBd : W.drew.heap[B]? = some (.cells #[a, b, c, d] 29 (0, 0)) := hBW
    have hCd : W.drew.heap[C]? = some (.cells #[.nilIface] 74 (0, 0)) := hCW
    have h4 := q4T (a' := .string ⟨#[]⟩) (b' := .slice none 0 0) (c' := .int .i64 0) (d' := .slice none 0 0) hBd
    have keep : ∀ x, x ≠ B → ((((W.drew.setCell ⟨B, 0, none⟩ (.string ⟨#[]⟩)).setCell ⟨B, 1, none⟩ (.slice none 0 0)).setCell ⟨B, 2, none⟩ (.int .i64 0)).setCell ⟨B, 3, none⟩ (.slice none 0 0)).heap[x]? = W.drew.heap[x]? := fun x hx => by
      rw [Below.heap_setCell _ _ _ _ hx, Below.heap_setCell _ _ _ _ hx, Below.heap_setCell _ _ _ _ hx, Below.heap_setCell _ _ _ _ hx]
    subst e
    refine ⟨(Below.heap_setCell _ _ _ _ hBC).trans h4, ?_, hbw.os, hbw.tape, hbw.output, ?_, fun x hx h1 h2 => ?_⟩
    · rw [heap_setCell_same _ _ _ _ _ _ ((keep C hCB).trans hCd)]; rfl
    · have := hbw.size
      simp [World.setCell]
      exact this
    · rw [Below.heap_setCell _ _ _ _ h2, keep x h1]
      exact hbw.block x hx
  clear hW hbw hBW hCW hFW hB hC bf
  go_region_law fail
  all_goals
    cases c₀
    simp_all [bodyPostS, results, Tryz.results80]
  all_goals first | exact HFin.out | exact HFin.out _ rfl

end Go.Proofs.YtcdfoephhjacdaaGreatDoor

/-
  The program's parse.
-/
namespace Go.Proofs.YtcdfoephhjacdaaGreatDoor
open Go.RowKit

/-- how parse ends -/
def PsE (w : World) (ts : List TkV) (e : Ending) (w' : World) : Prop :=
  (∃ nm x hd r y us, qryF ts = .ok ⟨nm, hd, r, us.map uAt⟩ ∧ e = .returned (.tuple #[.agg #[.string nm, x, .int .i64 r, y], .nilIface]) ∧ QyR w.heap.size w' x hd y us ∧ Below w.heap.size w w') ∨ (∃ pe, qryF ts = .error pe ∧ e = .returned (.tuple #[.agg #[.string ⟨#[]⟩, .slice none 0 0, .int .i64 0, .slice none 0 0], .iface 78 (.agg #[.int .i64 3, .int .i64 (offZ ts pe)])]) ∧ Below w.heap.size w w')

set_option maxHeartbeats 8000000 in
set_option maxRecDepth 1000000 in
theorem parse_calls (w : World) (tb cap : Nat) (a : Option Addr) (ts : List TkV) (hcap : ts.length ≤ cap) (hat : ∀ j, j < ts.length → ∃ o, a = some ⟨tb, o, none⟩ ∧ ∀ i, i < 4 → w.cell? ⟨tb, o + j * 4 + i, none⟩ = (tkv (ts.getD j noTk))[i]?) (htb : tb < w.heap.size) (hrg : RgV w) (hok : ∀ j, j < ts.length → TkOk (ts.getD j noTk)) (hl : ts.length ≤ 100000) :
    Calls Tryz.prog 47 #[.slice a ts.length cap] w (PsE w ts) := by
  have hmf : ∀ (fn : Fn) (first cap : Array Value) (w : World), (Instr.makeFunc fn first cap).run Tryz.prog w = .ok (.func fn first cap) w := fun _ _ _ _ => rfl
  obtain ⟨W1, hW1⟩ : ∃ W, W = (w.alloc (.cells #[.string ⟨#[]⟩, .slice none 0 0, .int .i64 0, .slice none 0 0] 29)).alloc (.cells #[.nilIface] 74) := ⟨_, rfl⟩
  have hb1 : Below w.heap.size w W1 := by rw [hW1]; exact ((Below.refl _ _).alloc (Nat.le_refl _) _).alloc (by simp) _
  have hs1 : W1.heap.size = w.heap.size + 2 := by rw [hW1]; simp
  have hB1 : W1.heap[w.heap.size]? = some (.cells #[.string ⟨#[]⟩, .slice none 0 0, .int .i64 0, .slice none 0 0] 29 (0, 0)) := by
    rw [hW1, Below.heap_alloc _ _ _ (by simp)]; exact heap_alloc_new _ _
  have hC1 : W1.heap[w.heap.size + 1]? = some (.cells #[.nilIface] 74 (0, 0)) := by
    rw [hW1]
    have := heap_alloc_new (w.alloc (.cells #[.string ⟨#[]⟩, .slice none 0 0, .int .i64 0, .slice none 0 0] 29)) (.cells #[.nilIface] 74)
    simpa using this
  obtain ⟨W2, hW2⟩ : ∃ W, W = W1.alloc (.cells #[.slice a ts.length cap] 161) := ⟨_, rfl⟩
  have hb2 : Below W1.heap.size W1 W2 := by rw [hW2]; exact (Below.refl _ _).alloc (Nat.le_refl _) _
  have hs2 : W2.heap.size = w.heap.size + 3 := by rw [hW2]; simp; omega
  have hB2 := (hb2.block w.heap.size (by omega)).trans hB1
  have hC2 := (hb2.block (w.heap.size + 1) (by omega)).trans hC1
  have hg2 : W2.heap[W1.heap.size]? = some (.cells #[.slice a ts.length cap] 161 (0, 0)) := by rw [hW2]; exact heap_alloc_new _ _
  have hb02 : Below w.heap.size w W2 := hb1.trans (hb2.mono (by omega))
  have hP : PaP W2 W1.heap.size tb ts 0 := ⟨a, cap, by rw [List.drop_zero]; exact ⟨hg2, hcap, fun j hj => by
    obtain ⟨o, e, hc⟩ := hat j hj
    exact ⟨o, e, fun i hi => (hb02.cell (p := ⟨tb, o + j * 4 + i, none⟩) htb).trans (hc i hi)⟩, by omega⟩⟩
  have hVg : 0 ≠ W1.heap.size := by have := World.block_lt_of_cell? w _ (hrg 0 (by omega)); simp at this; omega
  have KQ := hid (pQuery_calls W2 W1.heap.size tb ts hP (by omega) (hrg.ex (Ex.bel hb02) hVg) hVg hok hl)
  have HB2 := hid hB2
  have HC2 := hid hC2
  have Hb02 := hid hb02
  generalize hE : PsE w ts = E
  have HNo : Hid (∀ pe w', qryF ts = .error pe → Below w.heap.size w w' → E (.returned (.tuple #[.agg #[.string ⟨#[]⟩, .slice none 0 0, .int .i64 0, .slice none 0 0], .iface 78 (.agg #[.int .i64 3, .int .i64 (offZ ts pe)])])) w') := hid fun pe w' h1 h2 => by rw [← hE]; exact Or.inr ⟨pe, h1, rfl, h2⟩
  have HYes : Hid (∀ nm x hd r y us w', qryF ts = .ok ⟨nm, hd, r, us.map uAt⟩ → QyR w.heap.size w' x hd y us → Below w.heap.size w w' → E (.returned (.tuple #[.agg #[.string nm, x, .int .i64 r, y], .nilIface])) w') := hid fun nm x hd r y us w' h1 h2 h3 => by rw [← hE]; exact Or.inl ⟨nm, x, hd, r, y, us, h1, rfl, h2, h3⟩
  clear hE hB1 hC1 hB2 hC2 hg2 hb1 hb2 hb02 hP hVg hat hrg hok hcap
  have hs12 : W1.heap.size = w.heap.size + 2 := hs1
  obtain ⟨g, hg⟩ : ∃ g, g = W1.heap.size := ⟨_, rfl⟩
  rw [← hg] at KQ
  have hgs : g = w.heap.size + 2 := by omega
  have Hgs := hid hgs
  have Hs2 := hid hs2
  have hgg := hid hg
  clear hs1 hs12 hgs hs2
  generalize ts.length = n at *
  go_enter_defers Tryz.func47, Tryz.ntmps47
  go_upto_region 2 with fail
  rw [← hW1]
  clear hW1
  go_upto_region 3 with fail
  rw [← hW2, ← hg]
  clear hW2 hg
  go_wp2_with fail
  refine KQ.out.mono ?_
  rintro e w3 (⟨nm, x, hd, r, y, us, hq, rfl, hqr, hx⟩ | ⟨pe, hq, rfl, hx⟩)
  · obtain ⟨ax, cx, ex⟩ := own_shapeT2 hqr.own1
    obtain ⟨ay, cy, ey⟩ := own_shapeT2 hqr.own2
    have hB3 := (hx.block w.heap.size (by have := Hs2.out; omega) (by have := Hgs.out; omega)).trans HB2.out
    have hC3 := (hx.block (w.heap.size + 1) (by have := Hs2.out; omega) (by have := Hgs.out; omega)).trans HC2.out
    have r0 : w3.cell? ⟨w.heap.size, 0, none⟩ = some (.string ⟨#[]⟩) := cell_of_row _ _ _ _ _ _ hB3
    have r1 : w3.cell? ⟨w.heap.size, 1, none⟩ = some (.slice none 0 0) := cell_of_row _ _ _ _ _ _ hB3
    have r2 : w3.cell? ⟨w.heap.size, 2, none⟩ = some (.int .i64 0) := cell_of_row _ _ _ _ _ _ hB3
    have r3 : w3.cell? ⟨w.heap.size, 3, none⟩ = some (.slice none 0 0) := cell_of_row _ _ _ _ _ _ hB3
    have fr : ∀ q, w3.frozen? ⟨w.heap.size, q, none⟩ = false := fun q => by unfold World.frozen?; rw [hB3]; simp
    have f0 := fr 0
    have f1 := fr 1
    have f2 := fr 2
    have f3 := fr 3
    have c0 : w3.cell? ⟨w.heap.size + 1, 0, none⟩ = some .nilIface := cell_of_row _ _ _ _ _ _ hC3
    have fc : w3.frozen? ⟨w.heap.size + 1, 0, none⟩ = false := by unfold World.frozen?; rw [hC3]; simp
    have h4 := q4_set (a' := .string nm) (b' := x) (c' := .int .i64 r) (d' := y) hB3
    have hC4 : ((((w3.setCell ⟨w.heap.size, 0, none⟩ (.string nm)).setCell ⟨w.heap.size, 1, none⟩ x).setCell ⟨w.heap.size, 2, none⟩ (.int .i64 r)).setCell ⟨w.heap.size, 3, none⟩ y).heap[w.heap.size + 1]? = some (.cells #[.nilIface] 74 (0, 0)) := by
      rw [Below.heap_setCell _ _ _ _ (by simp), Below.heap_setCell _ _ _ _ (by simp), Below.heap_setCell _ _ _ _ (by simp), Below.heap_setCell _ _ _ _ (by simp)]
      exact hC3
    have hq4 := h4.2 (⟨own_base hqr.own1 (by have := Hs2.out; omega), own_base hqr.own2 (by have := Hs2.out; omega), fun u hu => own_base (hqr.tms u hu) (by have := Hs2.out; omega), hqr.ap⟩ : QyR w.heap.size w3 x hd y us)
    have hb3 : Below w.heap.size w w3 := Hb02.out.trans ⟨hx.os, hx.tape, hx.output, hx.size, fun b hb => hx.block b (by have := Hs2.out; omega) (by have := Hgs.out; omega)⟩
    have hb4 : Below w.heap.size w ((((w3.setCell ⟨w.heap.size, 0, none⟩ (.string nm)).setCell ⟨w.heap.size, 1, none⟩ x).setCell ⟨w.heap.size, 2, none⟩ (.int .i64 r)).setCell ⟨w.heap.size, 3, none⟩ y) := (((hb3.setCell (Nat.le_refl _) _).setCell (Nat.le_refl _) _).setCell (Nat.le_refl _) _).setCell (Nat.le_refl _) _
    have hB4 := h4.1
    have HSZ : Hid (w.heap.size + 1 < w3.heap.size) := hid (by have := hx.size; have := Hs2.out; omega)
    obtain ⟨W4, hW4⟩ : ∃ W, W = (((w3.setCell ⟨w.heap.size, 0, none⟩ (.string nm)).setCell ⟨w.heap.size, 1, none⟩ x).setCell ⟨w.heap.size, 2, none⟩ (.int .i64 r)).setCell ⟨w.heap.size, 3, none⟩ y := ⟨_, rfl⟩
    have hsz4 : w.heap.size + 1 < W4.heap.size := by rw [hW4]; simp [World.setCell]; exact HSZ.out
    rw [← hW4] at hC4 hq4 hb4 hB4
    obtain ⟨W5, hW5⟩ : ∃ W, W = W4.setCell ⟨w.heap.size + 1, 0, none⟩ .nilIface := ⟨_, rfl⟩
    have hC5 : W5.heap[w.heap.size + 1]? = some (.cells #[.nilIface] 74 (0, 0)) := by rw [hW5, heap_setCell_same _ _ _ _ _ _ hC4]; rfl
    have hB5 : W5.heap[w.heap.size]? = some (.cells #[.string nm, x, .int .i64 r, y] 29 (0, 0)) := by rw [hW5, Below.heap_setCell _ _ _ _ (by simp)]; exact hB4
    have hb5 : Below w.heap.size w W5 := by rw [hW5]; exact hb4.setCell (show w.heap.size ≤ w.heap.size + 1 by omega) _
    have hq5 : QyR w.heap.size W5 x hd y us := by rw [hW5]; exact ⟨own_setT hq4.own1 hC4 (by decide), own_setT hq4.own2 hC4 (by decide), fun u hu => own_setT (hq4.tms u hu) hC4 (by decide), hq4.ap⟩
    have hsz5 : w.heap.size + 1 < W5.heap.size := by rw [hW5]; simpa [World.setCell] using hsz4
    obtain ⟨W6, hW6⟩ : ∃ W, W = W5.alloc (.cells #[.int .i64 0, .int .i64 0] 78) := ⟨_, rfl⟩
    have hb56 : Below W5.heap.size W5 W6 := by rw [hW6]; exact (Below.refl _ _).alloc (Nat.le_refl _) _
    have hB6 := (hb56.block w.heap.size (by omega)).trans hB5
    have hC6 := (hb56.block (w.heap.size + 1) (by omega)).trans hC5
    have HE := hid (HYes.out nm x hd r y us W6 hq ⟨own_below hq5.own1 hb56, own_below hq5.own2 hb56, fun u hu => own_below (hq5.tms u hu) hb56, hq5.ap⟩ (hb5.trans (hb56.mono (by omega))))
    have HB6 := hid hB6
    have HC6 := hid hC6
    have HW4 := hid hW4
    have HW5 := hid hW5
    have HW6 := hid hW6
    subst ex ey
    clear hB3 hC3 h4 hC4 hq4 hb3 hb4 hB4 hW4 hW5 hW6 hC5 hB5 hb5 hq5 hb56 hB6 hC6 hqr hx hq HNo HYes fr hsz4 hsz5 KQ HB2 HC2 Hb02
    generalize hd.length = nh at *
    generalize us.length = nu at *
    go_wp2_with fail
    rw [← HW4.out, ← HW5.out]
    refine leaves_cons (f := 80) (args := #[.pointer (some ⟨w.heap.size, 0, none⟩), .pointer (some ⟨w.heap.size + 1, 0, none⟩)]) (by simp) (by simp [go_sem]) ?_
    refine (catch_idle ⟨w.heap.size, 0, none⟩ ⟨w.heap.size + 1, 0, none⟩ W5).mono ?_
    rintro e u' w'' ⟨rfl, rfl, hw''⟩
    rw [← HW6.out] at hw''
    subst hw''
    have q0 : w''.cell? ⟨w.heap.size, 0, none⟩ = some (.string nm) := cell_of_row _ _ _ _ _ _ HB6.out
    have q1 : w''.cell? ⟨w.heap.size, 1, none⟩ = some (.slice ax nh cx) := cell_of_row _ _ _ _ _ _ HB6.out
    have q2 : w''.cell? ⟨w.heap.size, 2, none⟩ = some (.int .i64 r) := cell_of_row _ _ _ _ _ _ HB6.out
    have q3 : w''.cell? ⟨w.heap.size, 3, none⟩ = some (.slice ay nu cy) := cell_of_row _ _ _ _ _ _ HB6.out
    have q4 : w''.cell? ⟨w.heap.size + 1, 0, none⟩ = some .nilIface := cell_of_row _ _ _ _ _ _ HC6.out
    clear r0 r1 r2 r3 f0 f1 f2 f3 c0 fc
    simp [Leaves, settle, results, Tryz.results47, go_sem, q0, q1, q2, q3, q4]
    exact HE.out
  · have hB3 := (hx.block w.heap.size (by have := Hs2.out; omega) (by have := Hgs.out; omega)).trans HB2.out
    have hC3 := (hx.block (w.heap.size + 1) (by have := Hs2.out; omega) (by have := Hgs.out; omega)).trans HC2.out
    have hb3 : Below w.heap.size w w3 := Hb02.out.trans ⟨hx.os, hx.tape, hx.output, hx.size, fun b hb => hx.block b (by have := Hs2.out; omega) (by have := Hgs.out; omega)⟩
    have hs3 : w.heap.size + 1 < w3.heap.size := by have := hx.size; have := Hs2.out; omega
    have KC := hid (catch_panicking w.heap.size (w.heap.size + 1) _ _ _ _ (offZ ts pe) [] w3 hB3 hC3 (by omega))
    have HE := hid (fun w' h2 => HNo.out pe w' hq h2)
    have HB3 := hid hb3
    clear hB3 hC3 hx hq HNo HYes KQ HB2 HC2 Hb02 hb3
    generalize offZ ts pe = z at *
    go_wp2_with fail
    refine leaves_cons (f := 80) (args := #[.pointer (some ⟨w.heap.size, 0, none⟩), .pointer (some ⟨w.heap.size + 1, 0, none⟩)]) (by simp) (by simp [go_sem]) ?_
    refine KC.out.mono ?_
    rintro e u' w4 ⟨rfl, rfl, hB4, hC4, hx4⟩
    have q0 : w4.cell? ⟨w.heap.size, 0, none⟩ = some (.string ⟨#[]⟩) := cell_of_row _ _ _ _ _ _ hB4
    have q1 : w4.cell? ⟨w.heap.size, 1, none⟩ = some (.slice none 0 0) := cell_of_row _ _ _ _ _ _ hB4
    have q2 : w4.cell? ⟨w.heap.size, 2, none⟩ = some (.int .i64 0) := cell_of_row _ _ _ _ _ _ hB4
    have q3 : w4.cell? ⟨w.heap.size, 3, none⟩ = some (.slice none 0 0) := cell_of_row _ _ _ _ _ _ hB4
    have q4 : w4.cell? ⟨w.heap.size + 1, 0, none⟩ = some (.iface 78 (.agg #[.int .i64 3, .int .i64 z])) := cell_of_row _ _ _ _ _ _ hC4
    have hE4 := HE.out w4 (HB3.out.trans ⟨hx4.os, hx4.tape, hx4.output, hx4.size, fun b hb => hx4.block b (by omega) (by omega) (by omega)⟩)
    have HE4 := hid hE4
    clear hB4 hC4 hx4 hE4 HE KC
    simp [Leaves, settle, results, Tryz.results47, go_sem, q0, q1, q2, q3, q4]
    exact HE4.out

end Go.Proofs.YtcdfoephhjacdaaGreatDoor
