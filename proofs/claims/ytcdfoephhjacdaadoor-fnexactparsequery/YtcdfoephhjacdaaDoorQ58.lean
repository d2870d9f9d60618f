import Derived.Deep.RegionHeld3
import Derived.Deep.RegionHeldLaw
import Derived.Test.YtcdfoephhjacdaaDoorQ17
import Derived.Test.YtcdfoephhjacdaaDoorQ57
/-
  The model's reader of tokens: kind, take, want, name, term.
-/
namespace Go.Proofs.YtcdfoephhjacdaaDoor
open Go.RowKit

def kS (t : TkV) : Nat := if t.k = 97 then 110 else if t.k = 48 then 100 else 115
def symT (c : Nat) : ByteArray := if c = 58 then ⟨#[58, 45]⟩ else ⟨#[UInt8.ofNat c]⟩
def tS (t : TkV) : ByteArray := if t.k = 97 then t.nm else if t.k = 48 then ⟨#[]⟩ else symT t.k
def stk (t : TkV) : List Value := [.int .u8 (kS t), .string (tS t), .int .i64 (t.v : Int), .int .i64 (t.at' : Int)]
/-- the model's tokens in memory -/
def ITk (W : World) (v : Value) (ts : List TkV) : Prop := ∃ a cap, v = .slice a ts.length cap ∧ ∀ j, j < ts.length → ∃ b, a = some ⟨b, 0, none⟩ ∧ W.cell? ⟨b, j * 4, none⟩ = some (.int .u8 (kS (ts.getD j noTk))) ∧ W.cell? ⟨b, j * 4 + 1, none⟩ = some (.string (tS (ts.getD j noTk))) ∧ W.cell? ⟨b, j * 4 + 2, none⟩ = some (.int .i64 ((ts.getD j noTk).v : Int)) ∧ W.cell? ⟨b, j * 4 + 3, none⟩ = some (.int .i64 ((ts.getD j noTk).at' : Int))
/-- the reader's block -/
structure RdB (W : World) (g : Nat) (v : Value) (p : Nat) (b : Bool) : Prop where
  blk : W.heap[g]? = some (.cells #[v, .int .i64 (p : Int), .bool b] 54 (0, 0))
section
variable {W W' : World} {g : Nat} {v : Value} {p : Nat} {b : Bool}
theorem RdB.c0 (h : RdB W g v p b) : W.cell? ⟨g, 0, none⟩ = some v := cell_of_row _ _ _ _ _ _ h.blk
theorem RdB.c1 (h : RdB W g v p b) : W.cell? ⟨g, 1, none⟩ = some (.int .i64 (p : Int)) := cell_of_row _ _ _ _ _ _ h.blk
theorem RdB.c2 (h : RdB W g v p b) : W.cell? ⟨g, 2, none⟩ = some (.bool b) := cell_of_row _ _ _ _ _ _ h.blk
theorem RdB.lt (h : RdB W g v p b) : g < W.heap.size := World.block_lt_of_cell? W _ h.c0
theorem RdB.free (h : RdB W g v p b) (q : Nat) : W.frozen? ⟨g, q, none⟩ = false := by
  unfold World.frozen?
  rw [h.blk]
  simp
theorem RdB.below (h : RdB W g v p b) (hb : Below W.heap.size W W') : RdB W' g v p b := ⟨(hb.block g h.lt).trans h.blk⟩
theorem RdB.setP (h : RdB W g v p b) (q : Nat) : RdB (W.setCell ⟨g, 1, none⟩ (.int .i64 (q : Int))) g v q b := ⟨by rw [heap_setCell_same _ _ _ _ _ _ h.blk]; rfl⟩
theorem RdB.setB (h : RdB W g v p b) (c : Bool) : RdB (W.setCell ⟨g, 2, none⟩ (.bool c)) g v p c := ⟨by rw [heap_setCell_same _ _ _ _ _ _ h.blk]; rfl⟩
end
/-- only block g is another -/
structure Ex (g : Nat) (w w' : World) : Prop where
  os : w'.os = w.os
  tape : w'.tape = w.tape
  output : w'.output = w.output
  size : w.heap.size ≤ w'.heap.size
  block : ∀ b, b < w.heap.size → b ≠ g → w'.heap[b]? = w.heap[b]?
theorem Ex.refl (g : Nat) (w : World) : Ex g w w := ⟨rfl, rfl, rfl, Nat.le_refl _, fun _ _ _ => rfl⟩
theorem Ex.trans {g : Nat} {a b c : World} (h : Ex g a b) (k : Ex g b c) : Ex g a c :=
  ⟨k.os.trans h.os, k.tape.trans h.tape, k.output.trans h.output, Nat.le_trans h.size k.size, fun x hx hg => (k.block x (Nat.lt_of_lt_of_le hx h.size) hg).trans (h.block x hx hg)⟩
theorem Ex.bel {g : Nat} {a b : World} (k : Below a.heap.size a b) : Ex g a b := ⟨k.os, k.tape, k.output, k.size, fun x hx _ => k.block x hx⟩
theorem Ex.set {g o : Nat} {a b : World} {v : Value} (h : Ex g a b) : Ex g a (b.setCell ⟨g, o, none⟩ v) :=
  h.trans ⟨rfl, rfl, rfl, by simp [World.setCell], fun x _ hg => Below.heap_setCell _ _ _ _ hg⟩
theorem Ex.drewN {g : Nat} {a b : World} (h : Ex g a b) (n : Nat) : Ex g a (b.drewN n) := h.trans (Ex.bel (below_drewN (Below.refl _ _) n))
theorem Ex.cell {g b o : Nat} {u : Value} {w w' : World} (h : Ex g w w') (hb : b ≠ g) (hc : w.cell? ⟨b, o, none⟩ = some u) : w'.cell? ⟨b, o, none⟩ = some u :=
  (World.cell?_of_block (w := w) (a := ⟨b, o, none⟩) (h.block b (World.block_lt_of_cell? w _ hc) hb)).trans hc
/-- the tokens lie in another block than the reader -/
def Apt (v : Value) (g : Nat) : Prop := ∀ b o n c, v = .slice (some ⟨b, o, none⟩) n c → b ≠ g
theorem ITk.ex {w w' : World} {v : Value} {ts : List TkV} {g : Nat} (h : ITk w v ts) (hv : Apt v g) (he : Ex g w w') : ITk w' v ts := by
  obtain ⟨a, cap, e, h⟩ := h
  refine ⟨a, cap, e, fun j hj => ?_⟩
  obtain ⟨b, ea, c0, c1, c2, c3⟩ := h j hj
  have hb := hv b 0 _ _ (by rw [e, ea])
  exact ⟨b, ea, he.cell hb c0, he.cell hb c1, he.cell hb c2, he.cell hb c3⟩

/-- the kind of the token at p -/
def kdN (ts : List TkV) (p : Nat) : Nat := if p < ts.length then kS (ts.getD p noTk) else 101

set_option maxHeartbeats 2000000 in
set_option maxRecDepth 1000000 in
theorem rKind_calls (w : World) (g : Nat) (v : Value) (ts : List TkV) (p : Nat) (b : Bool) (h : RdB w g v p b) (hv : ITk w v ts) :
    Calls Tryd.prog 52 #[.pointer (some ⟨g, 0, none⟩)] w fun e w' => e = .returned (.int .u8 (kdN ts p)) ∧ ∃ n, w' = w.drewN n := by
  obtain ⟨a, cap, rfl, hc⟩ := hv
  have c0 := h.c0
  have c1 := h.c1
  clear h
  unfold kdN
  by_cases hlt : p < ts.length
  · rw [if_pos hlt]
    obtain ⟨bk, rfl, d0, -⟩ := hc p hlt
    have i1 : ¬ ((ts.length : Int) ≤ (p : Int)) := by omega
    generalize kS (ts.getD p noTk) = z at *
    generalize ts.length = n at *
    clear hc
    go_enter Tryd.func52, Tryd.ntmps52
    go_wp2_with fail
    go_quiet (fail)
    go_wp2_with fail
    go_quiet (fail)
    go_wp2_with fail
    go_ret
    exact ⟨rfl, _, World.drewN_drewN _ _ _⟩
  · rw [if_neg hlt]
    have i1 : (ts.length : Int) ≤ (p : Int) := by omega
    generalize ts.length = n at *
    clear hc
    go_enter Tryd.func52, Tryd.ntmps52
    go_wp2_with fail
    go_quiet (fail)
    go_wp2_with fail
    go_ret
    exact ⟨rfl, _, rfl⟩

/-- the reader at p: whether the next token is the symbol c -/
def tkB (ts : List TkV) (p : Nat) (b : Bool) (c : Nat) : Bool := !b && decide (p < ts.length ∧ (ts.getD p noTk).k = c)
/-- .. or a name -/
theorem sym_kS {t : TkV} {c : Nat} (ht : TkOk t) (hc : c = 40 ∨ c = 41 ∨ c = 44 ∨ c = 59 ∨ c = 46 ∨ c = 58) (hk : kS t = 115) : ((tS t).toList == (symT c).toList) = decide (t.k = c) := by
  have h97 : t.k ≠ 97 := fun e => by unfold kS at hk; rw [if_pos e] at hk; omega
  have h48 : t.k ≠ 48 := fun e => by unfold kS at hk; rw [if_neg h97, if_pos e] at hk; omega
  unfold tS
  rw [if_neg h97, if_neg h48]
  have hk' := ht.k
  generalize t.k = k at *
  clear ht hk
  rcases hk' with rfl | rfl | rfl | rfl | rfl | rfl | rfl | rfl
  · omega
  · omega
  all_goals (rcases hc with rfl | rfl | rfl | rfl | rfl | rfl <;> (simp only [ByteArray.toList_eq]; decide))
theorem kS_sym {t : TkV} {c : Nat} (h : t.k = c) (hc : c = 40 ∨ c = 41 ∨ c = 44 ∨ c = 59 ∨ c = 46 ∨ c = 58) : kS t = 115 := by
  unfold kS
  rw [if_neg (by omega), if_neg (by omega)]

set_option maxHeartbeats 4000000 in
set_option maxRecDepth 1000000 in
theorem rTake_calls (w : World) (g : Nat) (v : Value) (ts : List TkV) (p : Nat) (b : Bool) (c : Nat) (h : RdB w g v p b) (hv : ITk w v ts) (hok : ∀ j, j < ts.length → TkOk (ts.getD j noTk)) (hp : p ≤ 1048576) (hc : c = 40 ∨ c = 41 ∨ c = 44 ∨ c = 59 ∨ c = 46 ∨ c = 58) :
    Calls Tryd.prog 53 #[.pointer (some ⟨g, 0, none⟩), .string (symT c)] w fun e w' => e = .returned (.bool (tkB ts p b c)) ∧ RdB w' g v (if tkB ts p b c then p + 1 else p) b ∧ Ex g w w' := by
  have HR := hid h
  have c0 := h.c0
  have c1 := h.c1
  have c2 := h.c2
  have f1 := h.free 1
  have KK : Hid (∀ n, Calls Tryd.prog 52 #[.pointer (some ⟨g, 0, none⟩)] (w.drewN n) fun e w' => e = .returned (.int .u8 (kdN ts p)) ∧ ∃ m, w' = (w.drewN n).drewN m) := hid fun n => rKind_calls (w.drewN n) g v ts p b (h.below (below_drewN (Below.refl _ _) n)) (by obtain ⟨a, cap, e, hh⟩ := hv; exact ⟨a, cap, e, hh⟩)
  obtain ⟨a, cap, rfl, hcell⟩ := hv
  clear h
  cases b
  case true =>
    have e1 : tkB ts p true c = false := rfl
    rw [e1]
    clear KK hcell e1
    generalize symT c = sy at *
    go_enter Tryd.func53, Tryd.ntmps53
    go_wp2_with fail
    go_quiet (fail)
    go_wp2_with fail
    go_ret
    exact ⟨rfl, HR.out.below (below_drewN (Below.refl _ _) _), (Ex.refl _ _).drewN _⟩
  case false =>
    by_cases hk : kdN ts p = 115
    · have hlt : p < ts.length := by
        by_cases hlt : p < ts.length
        · exact hlt
        · unfold kdN at hk; rw [if_neg hlt] at hk; omega
      have hk2 : kS (ts.getD p noTk) = 115 := by unfold kdN at hk; rw [if_pos hlt] at hk; exact hk
      have hsy := sym_kS (hok p hlt) hc hk2
      obtain ⟨bk, rfl, -, d1, -⟩ := hcell p hlt
      have i1 : (p : Int) < (ts.length : Int) := by omega
      rw [hk] at KK
      by_cases hkc : (ts.getD p noTk).k = c
      · have e1 : tkB ts p false c = true := by unfold tkB; rw [decide_eq_true ⟨hlt, hkc⟩]; rfl
        rw [e1]
        rw [decide_eq_true hkc] at hsy
        have hn : (!(tS (ts.getD p noTk)).toList == (symT c).toList) = false := by rw [hsy]; rfl
        clear hcell e1 hok hk hk2 hkc
        generalize tS (ts.getD p noTk) = tx' at *
        generalize symT c = sy at *
        generalize ts.length = n at *
        go_enter Tryd.func53, Tryd.ntmps53
        go_wp2_with fail
        go_quiet (first | (go_at_call 52; exact Calls.quiet_of (KK.out _)))
        go_wp2_with fail
        go_ret
        exact ⟨rfl, (HR.out.below (below_drewN (Below.refl _ _) _)).setP _, ((Ex.refl _ _).drewN _).set⟩
      · have e1 : tkB ts p false c = false := by unfold tkB; rw [decide_eq_false (fun e => hkc e.2)]; rfl
        rw [e1]
        rw [decide_eq_false hkc] at hsy
        have hn : (!(tS (ts.getD p noTk)).toList == (symT c).toList) = true := by rw [hsy]; rfl
        clear hcell e1 hok hk hk2 hkc
        generalize tS (ts.getD p noTk) = tx' at *
        generalize symT c = sy at *
        generalize ts.length = n at *
        go_enter Tryd.func53, Tryd.ntmps53
        go_wp2_with fail
        go_quiet (first | (go_at_call 52; exact Calls.quiet_of (KK.out _)))
        go_wp2_with fail
        go_ret
        exact ⟨rfl, HR.out.below (below_drewN (Below.refl _ _) _), (Ex.refl _ _).drewN _⟩
    · have e1 : tkB ts p false c = false := by
        unfold tkB
        rw [decide_eq_false (fun e => hk (by unfold kdN; rw [if_pos e.1]; exact kS_sym e.2 hc))]; rfl
      rw [e1]
      generalize kdN ts p = z at *
      have hz : ((z : Int) != 115) = true := by simp; omega
      clear hcell e1 hok hk
      generalize symT c = sy at *
      generalize ts.length = n at *
      go_enter Tryd.func53, Tryd.ntmps53
      go_wp2_with fail
      go_quiet (first | (go_at_call 52; exact Calls.quiet_of (KK.out _)))
      go_wp2_with fail
      go_ret
      exact ⟨rfl, HR.out.below (below_drewN (Below.refl _ _) _), (Ex.refl _ _).drewN _⟩

end Go.Proofs.YtcdfoephhjacdaaDoor

/-
  The model's reader: want, name, term.
-/
namespace Go.Proofs.YtcdfoephhjacdaaDoor
open Go.RowKit

set_option maxHeartbeats 4000000 in
set_option maxRecDepth 1000000 in
theorem rWant_calls (w : World) (g : Nat) (v : Value) (ts : List TkV) (p : Nat) (b : Bool) (c : Nat) (h : RdB w g v p b) (hv : ITk w v ts) (hok : ∀ j, j < ts.length → TkOk (ts.getD j noTk)) (hp : p ≤ 1048576) (hc : c = 40 ∨ c = 41 ∨ c = 44 ∨ c = 59 ∨ c = 46 ∨ c = 58) :
    Calls Tryd.prog 51 #[.pointer (some ⟨g, 0, none⟩), .string (symT c)] w fun e w' => e = .returned (.tuple #[]) ∧ RdB w' g v (if tkB ts p b c then p + 1 else p) (if tkB ts p b c then b else true) ∧ Ex g w w' := by
  have K := hid (rTake_calls w g v ts p b c h hv hok hp hc)
  clear h hv hok
  cases htk : tkB ts p b c
  · rw [htk] at K
    generalize symT c = sy at *
    go_enter Tryd.func51, Tryd.ntmps51
    go_wp2_with fail
    refine K.out.mono ?_
    rintro e w2 ⟨rfl, hr, hx⟩
    have HR := hid hr
    have HX := hid hx
    have c2 := hr.c2
    have f2 := hr.free 2
    clear hr hx
    go_wp2_with fail
    first | go_ret | go_end0
    exact ⟨rfl, HR.out.setB _, HX.out.set⟩
  · rw [htk] at K
    generalize symT c = sy at *
    go_enter Tryd.func51, Tryd.ntmps51
    go_wp2_with fail
    refine K.out.mono ?_
    rintro e w2 ⟨rfl, hr, hx⟩
    have HR := hid hr
    have HX := hid hx
    clear hr hx
    go_wp2_with fail
    first | go_ret | go_end0
    exact ⟨rfl, HR.out, HX.out⟩

/-- whether the next token is of kind k, and nothing failed yet -/
def ntB (ts : List TkV) (p : Nat) (b : Bool) (k : Nat) : Bool := !b && decide (p < ts.length ∧ (ts.getD p noTk).k = k)
theorem kdN_name {ts : List TkV} {p : Nat} : (kdN ts p = 110) ↔ (p < ts.length ∧ (ts.getD p noTk).k = 97) := by
  unfold kdN
  by_cases h : p < ts.length
  · rw [if_pos h]
    unfold kS
    by_cases h1 : (ts.getD p noTk).k = 97
    · rw [if_pos h1]; exact ⟨fun _ => ⟨h, h1⟩, fun _ => rfl⟩
    · rw [if_neg h1]
      refine ⟨fun e => ?_, fun e => absurd e.2 h1⟩
      split at e <;> omega
  · rw [if_neg h]; exact ⟨fun e => by omega, fun e => absurd e.1 h⟩
theorem kdN_num {ts : List TkV} {p : Nat} : (kdN ts p = 100) ↔ (p < ts.length ∧ (ts.getD p noTk).k = 48) := by
  unfold kdN
  by_cases h : p < ts.length
  · rw [if_pos h]
    unfold kS
    by_cases h1 : (ts.getD p noTk).k = 97
    · rw [if_pos h1]; exact ⟨fun e => by omega, fun e => by omega⟩
    · rw [if_neg h1]
      by_cases h2 : (ts.getD p noTk).k = 48
      · rw [if_pos h2]; exact ⟨fun _ => ⟨h, h2⟩, fun _ => rfl⟩
      · rw [if_neg h2]; exact ⟨fun e => by omega, fun e => absurd e.2 h2⟩
  · rw [if_neg h]; exact ⟨fun e => by omega, fun e => absurd e.1 h⟩

set_option maxHeartbeats 4000000 in
set_option maxRecDepth 1000000 in
theorem rName_calls (w : World) (g : Nat) (v : Value) (ts : List TkV) (p : Nat) (b : Bool) (h : RdB w g v p b) (hv : ITk w v ts) (ha : Apt v g) (hp : p ≤ 1048576) :
    Calls Tryd.prog 50 #[.pointer (some ⟨g, 0, none⟩)] w fun e w' => e = .returned (.string (if ntB ts p b 97 then (ts.getD p noTk).nm else ⟨#[]⟩)) ∧ RdB w' g v (if ntB ts p b 97 then p + 1 else p) (if ntB ts p b 97 then b else true) ∧ Ex g w w' := by
  have HR := hid h
  have c0 := h.c0
  have c1 := h.c1
  have c2 := h.c2
  have f1 := h.free 1
  have f2 := h.free 2
  have KK : Hid (∀ n, Calls Tryd.prog 52 #[.pointer (some ⟨g, 0, none⟩)] (w.drewN n) fun e w' => e = .returned (.int .u8 (kdN ts p)) ∧ ∃ m, w' = (w.drewN n).drewN m) := hid fun n => rKind_calls (w.drewN n) g v ts p b (h.below (below_drewN (Below.refl _ _) n)) (by obtain ⟨a, cap, e, hh⟩ := hv; exact ⟨a, cap, e, hh⟩)
  have K0 := hid (rKind_calls w g v ts p b h hv)
  obtain ⟨a, cap, rfl, hcell⟩ := hv
  clear h
  cases b
  case true =>
    have e1 : ntB ts p true 97 = false := rfl
    rw [e1]
    clear KK K0 hcell e1 ha
    generalize ts.length = n at *
    go_enter Tryd.func50, Tryd.ntmps50
    go_wp2_with fail
    go_ret
    exact ⟨rfl, HR.out.setB _, (Ex.refl _ _).set⟩
  case false =>
    by_cases hk : kdN ts p = 110
    · obtain ⟨hlt, hk97⟩ := kdN_name.1 hk
      have e1 : ntB ts p false 97 = true := by unfold ntB; rw [decide_eq_true ⟨hlt, hk97⟩]; rfl
      rw [e1]
      obtain ⟨bk, rfl, -, d1, -⟩ := hcell p hlt
      have hbk := ha bk 0 _ _ rfl
      have ets : tS (ts.getD p noTk) = (ts.getD p noTk).nm := by unfold tS; rw [if_pos hk97]
      rw [ets] at d1
      have i1 : (p : Int) < (ts.length : Int) := by omega
      have i2 : ((p : Int) + 1 - 1) = (p : Int) := by omega
      rw [hk] at K0
      have HD : Hid (∀ n : Nat, ((w.drewN n).setCell ⟨g, 1, none⟩ (.int .i64 ((p : Int) + 1))).cell? ⟨bk, p * 4 + 1, none⟩ = some (.string (ts.getD p noTk).nm)) := hid fun n => ((Ex.refl g w).drewN n).set.cell hbk d1
      have HR1 : Hid (∀ n : Nat, RdB ((w.drewN n).setCell ⟨g, 1, none⟩ (.int .i64 ((p : Int) + 1))) g (.slice (some ⟨bk, 0, none⟩) ts.length cap) (p + 1) false) := hid fun n => (HR.out.below (below_drewN (Below.refl _ _) n)).setP (p + 1)
      have HX1 : Hid (∀ n : Nat, Ex g w ((w.drewN n).setCell ⟨g, 1, none⟩ (.int .i64 ((p : Int) + 1)))) := hid fun n => ((Ex.refl g w).drewN n).set
      clear hcell e1 hk hk97 ets ha KK HR
      generalize (ts.getD p noTk).nm = nm at *
      generalize ts.length = n at *
      go_enter Tryd.func50, Tryd.ntmps50
      go_wp2_with (first | (go_at_call 52; refine K0.out.mono ?_; rintro e w' ⟨rfl, m, hw'⟩; subst w') | fail)
      have d3 := HD.out m
      have r3 := HR1.out m
      have c3 := r3.c0
      have c4 := r3.c1
      have HR3 := hid r3
      have HX3 := hid (HX1.out m)
      clear r3 HD HR1 HX1
      generalize (w.drewN m).setCell ⟨g, 1, none⟩ (.int .i64 ((p : Int) + 1)) = w3 at *
      go_quiet (fail)
      go_wp2_with fail
      go_ret
      exact ⟨rfl, HR3.out.below (below_drewN (Below.refl _ _) _), HX3.out.drewN _⟩
    · have e1 : ntB ts p false 97 = false := by unfold ntB; rw [decide_eq_false (fun e => hk (kdN_name.2 e))]; rfl
      rw [e1]
      generalize kdN ts p = z at *
      have hz : ((z : Int) != 110) = true := by simp; omega
      clear hcell e1 hk KK ha
      generalize ts.length = n at *
      go_enter Tryd.func50, Tryd.ntmps50
      go_wp2_with (first | (go_at_call 52; refine K0.out.mono ?_; rintro e w' ⟨rfl, m, hw'⟩; subst w') | fail)
      go_ret
      exact ⟨rfl, (HR.out.below (below_drewN (Below.refl _ _) _)).setB _, ((Ex.refl _ _).drewN _).set⟩

end Go.Proofs.YtcdfoephhjacdaaDoor

/-
  The model's reader: term.
-/
namespace Go.Proofs.YtcdfoephhjacdaaDoor
open Go.RowKit

/-- a term's two cells -/
structure T2 (W : World) (g : Nat) (x y : Value) : Prop where
  blk : W.heap[g]? = some (.cells #[x, y] 145 (0, 0))
theorem T2.c0 {W : World} {g : Nat} {x y : Value} (h : T2 W g x y) : W.cell? ⟨g, 0, none⟩ = some x := cell_of_row _ _ _ _ _ _ h.blk
theorem T2.c1 {W : World} {g : Nat} {x y : Value} (h : T2 W g x y) : W.cell? ⟨g, 1, none⟩ = some y := cell_of_row _ _ _ _ _ _ h.blk
theorem T2.free {W : World} {g : Nat} {x y : Value} (h : T2 W g x y) (q : Nat) : W.frozen? ⟨g, q, none⟩ = false := by
  unfold World.frozen?
  rw [h.blk]
  simp
theorem T2.lt {W : World} {g : Nat} {x y : Value} (h : T2 W g x y) : g < W.heap.size := World.block_lt_of_cell? W _ h.c0
theorem T2.ex {W W' : World} {g r : Nat} {x y : Value} (h : T2 W g x y) (he : Ex r W W') (hr : g ≠ r) : T2 W' g x y := ⟨(he.block g h.lt hr).trans h.blk⟩
theorem T2.made (w : World) (x y : Value) : T2 (w.alloc (.cells #[x, y] 145)) w.heap.size x y := ⟨heap_alloc_new _ _⟩
theorem T2.set0 {W : World} {g : Nat} {x y : Value} (h : T2 W g x y) (u : Value) : T2 (W.setCell ⟨g, 0, none⟩ u) g u y := ⟨by rw [heap_setCell_same _ _ _ _ _ _ h.blk]; rfl⟩
theorem T2.set1 {W : World} {g : Nat} {x y : Value} (h : T2 W g x y) (u : Value) : T2 (W.setCell ⟨g, 1, none⟩ u) g x u := ⟨by rw [heap_setCell_same _ _ _ _ _ _ h.blk]; rfl⟩
/-- a new block that is written to: the old ones stand -/
theorem Ex.new {r g o : Nat} {w W : World} {v : Value} (h : Ex r w W) (hg : w.heap.size ≤ g) : Ex r w (W.setCell ⟨g, o, none⟩ v) :=
  ⟨h.os, h.tape, h.output, by simpa [World.setCell] using h.size, fun b hb hr => (Below.heap_setCell _ _ _ _ (show b ≠ g by omega)).trans (h.block b hb hr)⟩
theorem Ex.allocd {r : Nat} {w W : World} (h : Ex r w W) (ob : Obj) : Ex r w (W.alloc ob) := h.trans (Ex.bel ((Below.refl _ _).alloc (Nat.le_refl _) _))
theorem RdB.set {W : World} {g h o p : Nat} {v u : Value} {b : Bool} (k : RdB W g v p b) (hne : h ≠ g) : RdB (W.setCell ⟨h, o, none⟩ u) g v p b := ⟨(Below.heap_setCell _ _ _ _ (Ne.symm hne)).trans k.blk⟩

set_option maxHeartbeats 8000000 in
set_option maxRecDepth 1000000 in
theorem rTerm_calls (w : World) (g : Nat) (v : Value) (ts : List TkV) (p : Nat) (b : Bool) (h : RdB w g v p b) (hv : ITk w v ts) (ha : Apt v g) (hp : p ≤ 1048576) :
    Calls Tryd.prog 84 #[.pointer (some ⟨g, 0, none⟩)] w fun e w' => e = .returned (.agg #[.string (if ntB ts p b 48 then ⟨#[]⟩ else if ntB ts p b 97 then (ts.getD p noTk).nm else ⟨#[]⟩), .int .i64 (if ntB ts p b 48 then ((ts.getD p noTk).v : Int) else 0)]) ∧ RdB w' g v (if ntB ts p b 48 then p + 1 else if ntB ts p b 97 then p + 1 else p) (if ntB ts p b 48 then b else if ntB ts p b 97 then b else true) ∧ Ex g w w' := by
  obtain ⟨W1, hW1⟩ : ∃ W, W = w.alloc (.cells #[.string ⟨#[]⟩, .int .i64 0] 145) := ⟨_, rfl⟩
  have hB1 : Below w.heap.size w W1 := by rw [hW1]; exact (Below.refl _ _).alloc (Nat.le_refl _) _
  have hT1 : T2 W1 w.heap.size (.string ⟨#[]⟩) (.int .i64 0) := by rw [hW1]; exact T2.made w _ _
  have hR1 := h.below hB1
  have hlt := h.lt
  have hne : w.heap.size ≠ g := by omega
  have hv1 : ITk W1 v ts := hv.ex ha (Ex.bel hB1)
  have HX1 : Hid (Ex g w W1) := hid (Ex.bel hB1)
  have HT1 := hid hT1
  have HR1 := hid hR1
  have c0 := hR1.c0
  have c1 := hR1.c1
  have c2 := hR1.c2
  have f1 := hR1.free 1
  have KK := hid (rKind_calls W1 g v ts p b hR1 hv1)
  have HV1 := hid hv1
  have KN : Hid (∀ n, Calls Tryd.prog 50 #[.pointer (some ⟨g, 0, none⟩)] (W1.drewN n) fun e w' => e = .returned (.string (if ntB ts p b 97 then (ts.getD p noTk).nm else ⟨#[]⟩)) ∧ RdB w' g v (if ntB ts p b 97 then p + 1 else p) (if ntB ts p b 97 then b else true) ∧ Ex g (W1.drewN n) w') := hid fun n => rName_calls (W1.drewN n) g v ts p b (HR1.out.below (below_drewN (Below.refl _ _) n)) (HV1.out.ex ha ((Ex.refl _ _).drewN n)) ha hp
  have KN0 : Hid (Calls Tryd.prog 50 #[.pointer (some ⟨g, 0, none⟩)] W1 fun e w' => e = .returned (.string (if ntB ts p b 97 then (ts.getD p noTk).nm else ⟨#[]⟩)) ∧ RdB w' g v (if ntB ts p b 97 then p + 1 else p) (if ntB ts p b 97 then b else true) ∧ Ex g W1 w') := hid (rName_calls W1 g v ts p b HR1.out HV1.out ha hp)
  obtain ⟨a, cap, rfl, hcell⟩ := hv1
  clear h hv hB1 hT1 hR1
  cases b
  case true =>
    have e1 : ntB ts p true 48 = false := rfl
    have e2 : ntB ts p true 97 = false := rfl
    rw [e1, e2]
    rw [e2] at KN0
    clear KK KN hcell e1 e2 ha
    generalize ts.length = n at *
    go_enter Tryd.func84, Tryd.ntmps84
    go_upto_region 1 with fail
    rw [← hW1]
    clear hW1
    go_wp2_with fail
    refine KN0.out.mono ?_
    rintro e w2 ⟨rfl, hr, hx⟩
    have HR2 := hid hr
    have HX2 := hid hx
    have ht2 := HT1.out.ex hx hne
    have t0 := ht2.c0
    have t1 := ht2.c1
    have q0 := ht2.free 0
    have q1 := ht2.free 1
    have HF := hid ((ht2.set0 (.string ⟨#[]⟩)).set1 (.int .i64 0))
    clear hr hx ht2
    go_wp2_with fail
    have r0 := HF.out.c0
    have r1 := HF.out.c1
    refine bodyPost_ret (v := .agg #[.string ⟨#[]⟩, .int .i64 0]) (by simp [results, Tryd.results84, go_sem, r0, r1]) rfl ?_
    exact ⟨rfl, (HR2.out.set (by omega)).set (by omega), ((HX1.out.trans HX2.out).new (by omega)).new (by omega)⟩
  case false =>
    by_cases hk : kdN ts p = 100
    · obtain ⟨hlt', hk48⟩ := kdN_num.1 hk
      have e1 : ntB ts p false 48 = true := by unfold ntB; rw [decide_eq_true ⟨hlt', hk48⟩]; rfl
      rw [e1]
      obtain ⟨bk, rfl, -, -, d2, -⟩ := hcell p hlt'
      have hbk := ha bk 0 _ _ rfl
      have hbl := World.block_lt_of_cell? W1 _ d2
      have i1 : (p : Int) < (ts.length : Int) := by omega
      rw [hk] at KK
      have HD : Hid (∀ n : Nat, ((W1.drewN n).setCell ⟨g, 1, none⟩ (.int .i64 ((p : Int) + 1))).cell? ⟨bk, p * 4 + 2, none⟩ = some (.int .i64 ((ts.getD p noTk).v : Int))) := hid fun n => ((Ex.refl g W1).drewN n).set.cell hbk d2
      have HR2 : Hid (∀ n : Nat, RdB ((W1.drewN n).setCell ⟨g, 1, none⟩ (.int .i64 ((p : Int) + 1))) g (.slice (some ⟨bk, 0, none⟩) ts.length cap) (p + 1) false) := hid fun n => (HR1.out.below (below_drewN (Below.refl _ _) n)).setP (p + 1)
      have HX2 : Hid (∀ n : Nat, Ex g W1 ((W1.drewN n).setCell ⟨g, 1, none⟩ (.int .i64 ((p : Int) + 1)))) := hid fun n => ((Ex.refl g W1).drewN n).set
      clear hcell e1 hk hk48 ha KN KN0
      generalize (ts.getD p noTk).v = z at *
      generalize ts.length = n at *
      go_enter Tryd.func84, Tryd.ntmps84
      go_upto_region 1 with fail
      rw [← hW1]
      clear hW1
      go_upto_region 3 with (first | (go_at_call 52; refine KK.out.mono ?_; rintro e w' ⟨rfl, m, hw'⟩; subst w') | fail)
      have d3 := HD.out m
      have r3 := HR2.out m
      have c3 := r3.c0
      have c4 := r3.c1
      have HR3 := hid r3
      have HX3 := hid (HX1.out.trans (HX2.out m))
      have ht2 := HT1.out.ex (HX2.out m) hne
      have t0 := ht2.c0
      have t1 := ht2.c1
      have q0 := ht2.free 0
      have q1 := ht2.free 1
      have HT2 := hid ht2
      clear r3 HD HR2 HX2 ht2
      generalize (W1.drewN m).setCell ⟨g, 1, none⟩ (.int .i64 ((p : Int) + 1)) = w3 at *
      have hwp : IntKind.i64.wrap (p : Int) = (p : Int) := by rw [IntKind.wrap_i64]; omega
      go_region_law (fail)
      all_goals
        go_wp2_with fail
        have hF := ((HT2.out.set0 (.string ⟨#[]⟩)).set1 (.int .i64 (z : Int)))
        have r0 := hF.c0
        have r1 := hF.c1
        refine bodyPost_ret (v := .agg #[.string ⟨#[]⟩, .int .i64 (z : Int)]) (by simp [results, Tryd.results84, go_sem, r0, r1]) rfl ?_
        exact ⟨rfl, ((HR3.out.below (Below.refl _ _).drew).set (by omega)).set (by omega), ((HX3.out.trans (Ex.bel (Below.refl _ _).drew)).new (by omega)).new (by omega)⟩
    · have e1 : ntB ts p false 48 = false := by unfold ntB; rw [decide_eq_false (fun e => hk (kdN_num.2 e))]; rfl
      rw [e1]
      generalize kdN ts p = z at *
      have hz : ((z : Int) == 100) = false := by simp; omega
      clear hcell e1 hk ha KN0
      simp only [Bool.false_eq_true, if_false]
      generalize (if ntB ts p false 97 = true then (ts.getD p noTk).nm else ⟨#[]⟩ : ByteArray) = nm at *
      generalize (if ntB ts p false 97 = true then p + 1 else p) = p' at *
      generalize (if ntB ts p false 97 = true then false else true) = b' at *
      generalize ts.length = n at *
      go_enter Tryd.func84, Tryd.ntmps84
      go_upto_region 1 with fail
      rw [← hW1]
      clear hW1
      go_upto_region 4 with (first | (go_at_call 52; refine KK.out.mono ?_; rintro e w' ⟨rfl, m, hw'⟩; subst w') | fail)
      have KN1 := hid (KN.out m)
      clear KN KK
      go_wp2_with fail
      refine KN1.out.mono ?_
      rintro e w2 ⟨rfl, hr, hx⟩
      have HR2 := hid hr
      have HX2 := hid (((HX1.out.drewN m)).trans hx)
      have ht2 := (HT1.out.ex ((Ex.refl g W1).drewN m) hne).ex hx hne
      have t0 := ht2.c0
      have t1 := ht2.c1
      have q0 := ht2.free 0
      have q1 := ht2.free 1
      have HF := hid ((ht2.set0 (.string nm)).set1 (.int .i64 0))
      clear hr hx ht2
      go_wp2_with fail
      have r0 := HF.out.c0
      have r1 := HF.out.c1
      refine bodyPost_ret (v := .agg #[.string nm, .int .i64 0]) (by simp [results, Tryd.results84, go_sem, r0, r1]) rfl ?_
      exact ⟨rfl, (HR2.out.set (by omega)).set (by omega), (HX2.out.new (by omega)).new (by omega)⟩

end Go.Proofs.YtcdfoephhjacdaaDoor
