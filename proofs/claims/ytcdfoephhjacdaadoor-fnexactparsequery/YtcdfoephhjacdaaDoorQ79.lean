import Derived.Test.YtcdfoephhjacdaaDoorQ66
import Derived.Test.YtcdfoephhjacdaaDoorQ78
/-
  The program's tokens: the loop's state; the symbols.
-/
namespace Go.Proofs.YtcdfoephhjacdaaDoor
open Go.RowKit

def syK (k : Nat) : Nat := if k = 0 then 40 else if k = 1 then 41 else if k = 2 then 44 else if k = 3 then 59 else if k = 4 then 46 else 58
def syT (k : Nat) : ByteArray := if k = 0 then ⟨#[40]⟩ else if k = 1 then ⟨#[41]⟩ else if k = 2 then ⟨#[44]⟩ else if k = 3 then ⟨#[59]⟩ else if k = 4 then ⟨#[46]⟩ else ⟨#[58, 45]⟩
def syN (k : Nat) : Nat := if k < 5 then 1 else 2
/-- the symbols in their variable -/
def SyV (W : World) : Prop := ∀ k : Nat, k < 6 → W.cell? ⟨1, k, none⟩ = some (.string (syT k))
theorem SyV.below {W W' : World} (h : SyV W) (hb : Below W.heap.size W W') : SyV W' := fun k hk => (hb.cell (p := ⟨1, k, none⟩) (World.block_lt_of_cell? W _ (h k hk))).trans (h k hk)
theorem SyV.belN {N : Nat} {W W' : World} (h : SyV W) (hb : Below N W W') (hN : 1 < N) : SyV W' := fun k hk => (hb.cell (p := ⟨1, k, none⟩) hN).trans (h k hk)
theorem sy_size : ∀ k : Nat, k < 6 → (syT k).size = syN k
  | 0, _ => rfl
  | 1, _ => rfl
  | 2, _ => rfl
  | 3, _ => rfl
  | 4, _ => rfl
  | 5, _ => rfl
  | k + 6, h => by omega
theorem sy_one : ∀ k : Nat, k < 6 → (syT k).extract 0 1 = kdT (syK k)
  | 0, _ => by decide
  | 1, _ => by decide
  | 2, _ => by decide
  | 3, _ => by decide
  | 4, _ => by decide
  | 5, _ => by decide
  | k + 6, h => by omega
theorem Tryd.indexY (w : World) : ∀ k : Nat, k < 6 → Sem.run Tryd.prog (Instr.index 148 (.agg #[.string (syT 0), .string (syT 1), .string (syT 2), .string (syT 3), .string (syT 4), .string (syT 5)]) (.int .i64 (k : Int))) w = .ok (.string (syT k)) w
  | 0, _ => by kernel_rfl
  | 1, _ => by kernel_rfl
  | 2, _ => by kernel_rfl
  | 3, _ => by kernel_rfl
  | 4, _ => by kernel_rfl
  | 5, _ => by kernel_rfl
  | k + 6, h => by omega
/-- whether the k-th symbol stands at o -/
def syB (s : ByteArray) (o k : Nat) : Bool := decide ((syT k).size ≤ (frm s o).size) && (((frm s o).extract 0 (syT k).size).toList == (syT k).toList)
theorem toList_one (c : UInt8) : (⟨#[c]⟩ : ByteArray).toList = [c] := by rw [ByteArray.toList_eq]
theorem syB_one {s : ByteArray} {o c : Nat} (ho : o < s.size) (hc : c < 256) : (decide ((⟨#[UInt8.ofNat c]⟩ : ByteArray).size ≤ (frm s o).size) && (((frm s o).extract 0 (⟨#[UInt8.ofNat c]⟩ : ByteArray).size).toList == (⟨#[UInt8.ofNat c]⟩ : ByteArray).toList)) = decide (byteAt s o = (c : Int)) := by
  have e1 : (⟨#[UInt8.ofNat c]⟩ : ByteArray).size = 1 := rfl
  rw [e1, decide_eq_true (show 1 ≤ (frm s o).size by rw [frm_size]; omega), Bool.true_and, frm_ext, ByteArray.toList_eq, ext_list, toList_one]
  have h1 : stretch s o 1 = [s.data.toList.getD o 0] := by
    have := stretch_succ (s := s) (o := o) (n := 0) (by omega)
    rw [Nat.add_zero] at this
    rw [this, stretch_zero]; rfl
  rw [h1]
  by_cases h : byteAt s o = (c : Int)
  · rw [decide_eq_true h]
    have : s.data.toList.getD o 0 = UInt8.ofNat c := UInt8.toNat_inj.1 (by rw [UInt8.toNat_ofNat_of_lt' (by simpa using hc)]; unfold byteAt at h; omega)
    rw [this]; simp
  · rw [decide_eq_false h]
    have : s.data.toList.getD o 0 ≠ UInt8.ofNat c := fun e => h (by unfold byteAt; rw [e, UInt8.toNat_ofNat_of_lt' (by simpa using hc)])
    simpa using this
theorem syB_two {s : ByteArray} {o : Nat} (ho : o < s.size) : syB s o 5 = decide (byteAt s o = 58 ∧ o + 1 < s.size ∧ byteAt s (o + 1) = 45) := by
  unfold syB
  have e1 : (syT 5).size = 2 := rfl
  have e2 : (syT 5).toList = [58, 45] := by rw [ByteArray.toList_eq]; rfl
  rw [e1, e2, frm_size, frm_ext, ByteArray.toList_eq, ext_list]
  by_cases h1 : o + 1 < s.size
  · rw [decide_eq_true (show 2 ≤ s.size - o by omega), Bool.true_and]
    have h2 : stretch s o 2 = [s.data.toList.getD o 0, s.data.toList.getD (o + 1) 0] := by
      rw [show (2 : Nat) = 1 + 1 from rfl, stretch_succ h1, show (1 : Nat) = 0 + 1 from rfl, stretch_succ (by omega), stretch_zero]
      rfl
    rw [h2]
    by_cases h : byteAt s o = 58 ∧ o + 1 < s.size ∧ byteAt s (o + 1) = 45
    · rw [decide_eq_true h]
      have a1 : s.data.toList.getD o 0 = 58 := UInt8.toNat_inj.1 (by have := h.1; unfold byteAt at this; show _ = 58; omega)
      have a2 : s.data.toList.getD (o + 1) 0 = 45 := UInt8.toNat_inj.1 (by have := h.2.2; unfold byteAt at this; show _ = 45; omega)
      rw [a1, a2]; rfl
    · rw [decide_eq_false h]
      by_cases e : [s.data.toList.getD o 0, s.data.toList.getD (o + 1) 0] = [58, 45]
      · exfalso
        simp only [List.cons.injEq, and_true] at e
        exact h ⟨by unfold byteAt; rw [e.1]; rfl, h1, by unfold byteAt; rw [e.2]; rfl⟩
      · simpa using e
  · rw [decide_eq_false (show ¬ 2 ≤ s.size - o by omega), Bool.false_and, decide_eq_false (fun h => h1 h.2.1)]
theorem syB_k {s : ByteArray} {o : Nat} (ho : o < s.size) : ∀ k : Nat, k < 5 → syB s o k = decide (byteAt s o = ((syK k : Nat) : Int))
  | 0, _ => syB_one ho (by decide)
  | 1, _ => syB_one ho (by decide)
  | 2, _ => syB_one ho (by decide)
  | 3, _ => syB_one ho (by decide)
  | 4, _ => syB_one ho (by decide)
  | k + 5, h => by omega
/-- a symbol's token -/
theorem sy_nx {s : ByteArray} {o k : Nat} (ho : o < s.size) (hk : k < 6) (hb : syB s o k = true) : nx s o = some (some (syK k, ⟨#[]⟩, 0), syN k) := by
  by_cases h5 : k < 5
  · rw [syB_k ho k h5, decide_eq_true_iff] at hb
    have hv : syK k = 40 ∨ syK k = 41 ∨ syK k = 44 ∨ syK k = 59 ∨ syK k = 46 := by
      unfold syK
      match k, h5 with
      | 0, _ => simp
      | 1, _ => simp
      | 2, _ => simp
      | 3, _ => simp
      | 4, _ => simp
    have hn : syN k = 1 := if_pos h5
    rw [hn]
    generalize syK k = c at *
    have h0 : sepB (byteAt s o) = false := by rw [hb]; rcases hv with rfl | rfl | rfl | rfl | rfl <;> decide
    have h1 : letterB (byteAt s o) = false := by rw [hb]; rcases hv with rfl | rfl | rfl | rfl | rfl <;> decide
    have h2 : digitB (byteAt s o) = false := by rw [hb]; rcases hv with rfl | rfl | rfl | rfl | rfl <;> decide
    have h3 : symB (byteAt s o) = true := by rw [hb]; rcases hv with rfl | rfl | rfl | rfl | rfl <;> decide
    rw [nx_oth h0 h1 h2, if_neg (by rw [hb]; omega), if_pos h3, hb]
    simp
  · have : k = 5 := by omega
    subst this
    rw [syB_two ho, decide_eq_true_iff] at hb
    have h0 : sepB (byteAt s o) = false := by rw [hb.1]; decide
    have h1 : letterB (byteAt s o) = false := by rw [hb.1]; decide
    have h2 : digitB (byteAt s o) = false := by rw [hb.1]; decide
    rw [nx_oth h0 h1 h2, if_pos hb.1, if_pos hb.2]
    rfl
theorem sy_none {s : ByteArray} {o : Nat} (ho : o < s.size) (h : ∀ k, k < 6 → syB s o k = false) : symB (byteAt s o) = false ∧ ¬ (byteAt s o = 58 ∧ o + 1 < s.size ∧ byteAt s (o + 1) = 45) := by
  refine ⟨?_, fun e => ?_⟩
  · have hk : ∀ k, k < 5 → ¬ byteAt s o = ((syK k : Nat) : Int) := fun k hk e => by
      have := h k (by omega)
      rw [syB_k ho k hk, decide_eq_true e] at this
      cases this
    have h0 := hk 0 (by omega)
    have h1 := hk 1 (by omega)
    have h2 := hk 2 (by omega)
    have h3 := hk 3 (by omega)
    have h4 := hk 4 (by omega)
    have e0 : ((syK 0 : Nat) : Int) = 40 := rfl
    have e1 : ((syK 1 : Nat) : Int) = 41 := rfl
    have e2 : ((syK 2 : Nat) : Int) = 44 := rfl
    have e3 : ((syK 3 : Nat) : Int) = 59 := rfl
    have e4 : ((syK 4 : Nat) : Int) = 46 := rfl
    unfold symB
    simp only [Bool.or_eq_false_iff, decide_eq_false_iff_not]
    omega
  · have := h 5 (by omega)
    rw [syB_two ho, decide_eq_true e] at this
    cases this

/-- how tokensOf ends -/
def TokE (w : World) (s : ByteArray) (e : Ending) (w' : World) : Prop :=
  (∃ a cap, (lexA s).2 = none ∧ e = .returned (.tuple #[.slice a (lexA s).1.length cap, .nilIface]) ∧ w'.ownsRow w.heap.size 151 4 (.slice a (lexA s).1.length cap) (lexA s).1.length ((lexA s).1.flatMap tkv) ∧ Below w.heap.size w w') ∨ (∃ o, (lexA s).2 = some o ∧ e = .returned (.tuple #[.slice none 0 0, .iface 63 (.agg #[.int .i64 2, .int .i64 (o : Int)])]) ∧ Below w.heap.size w w')
/-- the loop's state -/
def TyS (w : World) (s : ByteArray) (o : Nat) (acc : List TkV) (x : Value) (wr : World) : Prop := LexI s o acc ∧ acc.length ≤ o ∧ wr.ownsRow w.heap.size 151 4 x acc.length (acc.flatMap tkv) ∧ Below w.heap.size w wr
theorem TyS.bad {w wr wr' : World} {s : ByteArray} {o : Nat} {acc : List TkV} {x : Value} (h : TyS w s o acc x wr) (ho : o < s.size) (hn : nx s o = none) (hb : Below w.heap.size w wr') : TokE w s (.returned (.tuple #[.slice none 0 0, .iface 63 (.agg #[.int .i64 2, .int .i64 (o : Int)])])) wr' :=
  Or.inr ⟨o, by rw [h.1.bad ho hn], rfl, hb⟩
theorem TyS.done {w wr : World} {s : ByteArray} {acc : List TkV} {x : Value} (h : TyS w s s.size acc x wr) : TokE w s (.returned (.tuple #[x, .nilIface])) wr := by
  obtain ⟨a, cap, e⟩ := own_shapeT2 h.2.2.1
  have hl := h.1.done
  subst e
  exact Or.inl ⟨a, cap, by rw [hl], by rw [hl], by rw [hl]; exact h.2.2.1, h.2.2.2⟩
theorem TyS.tok {w wr w3 : World} {s : ByteArray} {o n k v : Nat} {nm : ByteArray} {acc : List TkV} {x x' : Value} {ob : Obj} (h : TyS w s o acc x wr) (ho : o < s.size) (hn : nx s o = some (some (k, nm, v), n))
    (hown : w3.ownsRow w.heap.size 151 4 x' (acc.length + 1) (acc.flatMap tkv ++ tkv ⟨k, nm, v, o⟩)) (hg : (wr.alloc ob).grownBy w3 x.ownBlock) : TyS w s (o + n) (acc ++ [⟨k, nm, v, o⟩]) x' w3 := by
  obtain ⟨-, h1, h2⟩ := nx_tok ho hn
  refine ⟨h.1.tok ho hn h1 h2, by rw [List.length_append, List.length_singleton]; have := h.2.1; omega, ?_, ?_⟩
  · rw [List.length_append, List.length_singleton, List.flatMap_append, List.flatMap_cons, List.flatMap_nil, List.append_nil]; exact hown
  · have hs := h.2.2.2.size
    exact (h.2.2.2.alloc hs _).grown hg (by simp; omega) (fun g hg => (h.2.2.1.lt g hg).1)
theorem TyS.bel {w wr w3 : World} {s : ByteArray} {o : Nat} {acc : List TkV} {x : Value} (h : TyS w s o acc x wr) (hb : Below wr.heap.size wr w3) : TyS w s o acc x w3 :=
  ⟨h.1, h.2.1, own_below h.2.2.1 hb, h.2.2.2.trans (hb.mono h.2.2.2.size)⟩
theorem Tryd.infoTkI : (Tryd.prog.info? 151).map (fun i => (i.zero, i.size, i.bytes)) = some (some (.agg #[.string ⟨#[]⟩, .string ⟨#[]⟩, .int .i64 0, .int .i64 0]), 4, 48) := by kernel_rfl

end Go.Proofs.YtcdfoephhjacdaaDoor
