import Derived.Deep.CutBlock
import Derived.Deep.CutRange
import Derived.WalkMore
import Derived.Test.YtcdfoephhjacdaaGreatDoorR40
import Derived.Test.YtcdfoephhjacdaaGreatDoorR41
/-
  The program's tokens: the loop's state; the symbols.
-/
namespace Go.Proofs.YtcdfoephhjacdaaGreatDoor
open Go.RowKit

def syK (k : Nat) : Nat := if k = 0 then 40 else if k = 1 then 41 else if k = 2 then 44 else if k = 3 then 59 else if k = 4 then 46 else 58
def syT (k : Nat) : ByteArray := if k = 0 then ⟨#[40]⟩ else if k = 1 then ⟨#[41]⟩ else if k = 2 then ⟨#[44]⟩ else if k = 3 then ⟨#[59]⟩ else if k = 4 then ⟨#[46]⟩ else ⟨#[58, 45]⟩
def syN (k : Nat) : Nat := if k < 5 then 1 else 2
/-- the symbols in their variable -/
def SyV (W : World) : Prop := ∀ k : Nat, k < 6 → W.cell? ⟨2, k, none⟩ = some (.string (syT k))
theorem SyV.below {W W' : World} (h : SyV W) (hb : Below W.heap.size W W') : SyV W' := fun k hk => (hb.cell (p := ⟨2, k, none⟩) (World.block_lt_of_cell? W _ (h k hk))).trans (h k hk)
theorem SyV.belN {N : Nat} {W W' : World} (h : SyV W) (hb : Below N W W') (hN : 2 < N) : SyV W' := fun k hk => (hb.cell (p := ⟨2, k, none⟩) hN).trans (h k hk)
theorem sy_size : ∀ k : Nat, k < 6 → (syT k).size = syN k
  | 0, _ => rfl
  | 1, _ => rfl
  | 2, _ => rfl
  | 3, _ => rfl
  | 4, _ => rfl
  | 5, _ => rfl
  | k + 6, h => by omega
theorem sy_one : ∀ k : Nat, k < 6 → (syT k).extract 0 1 = kdT (syK k)
  | 0, _ => by decide
  | 1, _ => by decide
  | 2, _ => by decide
  | 3, _ => by decide
  | 4, _ => by decide
  | 5, _ => by decide
  | k + 6, h => by omega
theorem Tryz.indexY (w : World) : ∀ k : Nat, k < 6 → Sem.run Tryz.prog (Instr.index 153 (.agg #[.string (syT 0), .string (syT 1), .string (syT 2), .string (syT 3), .string (syT 4), .string (syT 5)]) (.int .i64 (k : Int))) w = .ok (.string (syT k)) w
  | 0, _ => by kernel_rfl
  | 1, _ => by kernel_rfl
  | 2, _ => by kernel_rfl
  | 3, _ => by kernel_rfl
  | 4, _ => by kernel_rfl
  | 5, _ => by kernel_rfl
  | k + 6, h => by omega
/-- whether the k-th symbol stands at o -/
def syB (s : ByteArray) (o k : Nat) : Bool := decide ((syT k).size ≤ (frm s o).size) && (((frm s o).extract 0 (syT k).size).toList == (syT k).toList)
theorem toList_one (c : UInt8) : (⟨#[c]⟩ : ByteArray).toList = [c] := by rw [ByteArray.toList_eq]
theorem syB_one {s : ByteArray} {o c : Nat} (ho : o < s.size) (hc : c < 256) : (decide ((⟨#[UInt8.ofNat c]⟩ : ByteArray).size ≤ (frm s o).size) && (((frm s o).extract 0 (⟨#[UInt8.ofNat c]⟩ : ByteArray).size).toList == (⟨#[UInt8.ofNat c]⟩ : ByteArray).toList)) = decide (byteAt s o = (c : Int)) := by
  have e1 : (⟨#[UInt8.ofNat c]⟩ : ByteArray).size = 1 := rfl
  rw [e1, decide_eq_true (show 1 ≤ (frm s o).size by rw [frm_size]; omega), Bool.true_and, frm_ext, ByteArray.toList_eq, ext_list, toList_one]
  have h1 : stretch s o 1 = [s.data.toList.getD o 0] := by
    have := stretch_succ (s := s) (o := o) (n := 0) (by omega)
    rw [Nat.add_zero] at this
    rw [this, stretch_zero]; rfl
  rw [h1]
  by_cases h : byteAt s o = (c : Int)
  · rw [decide_eq_true h]
    have : s.data.toList.getD o 0 = UInt8.ofNat c := UInt8.toNat_inj.1 (by rw [UInt8.toNat_ofNat_of_lt' (by simpa using hc)]; unfold byteAt at h; omega)
    rw [this]; simp
  · rw [decide_eq_false h]
    have : s.data.toList.getD o 0 ≠ UInt8.ofNat c := fun e => h (by unfold byteAt; rw [e, UInt8.toNat_ofNat_of_lt' (by simpa using hc)])
    simpa using this
theorem syB_two {s : ByteArray} {o : Nat} (ho : o < s.size) : syB s o 5 = decide (byteAt s o = 58 ∧ o + 1 < s.size ∧ byteAt s (o + 1) = 45) := by
  unfold syB
  have e1 : (syT 5).size = 2 := rfl
  have e2 : (syT 5).toList = [58, 45] := by rw [ByteArray.toList_eq]; rfl
  rw [e1, e2, frm_size, frm_ext, ByteArray.toList_eq, ext_list]
  by_cases h1 : o + 1 < s.size
  · rw [decide_eq_true (show 2 ≤ s.size - o by omega), Bool.true_and]
    have h2 : stretch s o 2 = [s.data.toList.getD o 0, s.data.toList.getD (o + 1) 0] := by
      rw [show (2 : Nat) = 1 + 1 from rfl, stretch_succ h1, show (1 : Nat) = 0 + 1 from rfl, stretch_succ (by omega), stretch_zero]
      rfl
    rw [h2]
    by_cases h : byteAt s o = 58 ∧ o + 1 < s.size ∧ byteAt s (o + 1) = 45
    · rw [decide_eq_true h]
      have a1 : s.data.toList.getD o 0 = 58 := UInt8.toNat_inj.1 (by have := h.1; unfold byteAt at this; show _ = 58; omega)
      have a2 : s.data.toList.getD (o + 1) 0 = 45 := UInt8.toNat_inj.1 (by have := h.2.2; unfold byteAt at this; show _ = 45; omega)
      rw [a1, a2]; rfl
    · rw [decide_eq_false h]
      by_cases e : [s.data.toList.getD o 0, s.data.toList.getD (o + 1) 0] = [58, 45]
      · exfalso
        simp only [List.cons.injEq, and_true] at e
        exact h ⟨by unfold byteAt; rw [e.1]; rfl, h1, by unfold byteAt; rw [e.2]; rfl⟩
      · simpa using e
  · rw [decide_eq_false (show ¬ 2 ≤ s.size - o by omega), Bool.false_and, decide_eq_false (fun h => h1 h.2.1)]
theorem syB_k {s : ByteArray} {o : Nat} (ho : o < s.size) : ∀ k : Nat, k < 5 → syB s o k = decide (byteAt s o = ((syK k : Nat) : Int))
  | 0, _ => syB_one ho (by decide)
  | 1, _ => syB_one ho (by decide)
  | 2, _ => syB_one ho (by decide)
  | 3, _ => syB_one ho (by decide)
  | 4, _ => syB_one ho (by decide)
  | k + 5, h => by omega
/-- a symbol's token -/
theorem sy_nx {s : ByteArray} {o k : Nat} (ho : o < s.size) (hk : k < 6) (hb : syB s o k = true) : nx s o = some (some (syK k, ⟨#[]⟩, 0), syN k) := by
  by_cases h5 : k < 5
  · rw [syB_k ho k h5, decide_eq_true_iff] at hb
    have hv : syK k = 40 ∨ syK k = 41 ∨ syK k = 44 ∨ syK k = 59 ∨ syK k = 46 := by
      unfold syK
      match k, h5 with
      | 0, _ => simp
      | 1, _ => simp
      | 2, _ => simp
      | 3, _ => simp
      | 4, _ => simp
    have hn : syN k = 1 := if_pos h5
    rw [hn]
    generalize syK k = c at *
    have h0 : sepB (byteAt s o) = false := by rw [hb]; rcases hv with rfl | rfl | rfl | rfl | rfl <;> decide
    have h1 : letterB (byteAt s o) = false := by rw [hb]; rcases hv with rfl | rfl | rfl | rfl | rfl <;> decide
    have h2 : digitB (byteAt s o) = false := by rw [hb]; rcases hv with rfl | rfl | rfl | rfl | rfl <;> decide
    have h3 : symB (byteAt s o) = true := by rw [hb]; rcases hv with rfl | rfl | rfl | rfl | rfl <;> decide
    rw [nx_oth h0 h1 h2, if_neg (by rw [hb]; omega), if_pos h3, hb]
    simp
  · have : k = 5 := by omega
    subst this
    rw [syB_two ho, decide_eq_true_iff] at hb
    have h0 : sepB (byteAt s o) = false := by rw [hb.1]; decide
    have h1 : letterB (byteAt s o) = false := by rw [hb.1]; decide
    have h2 : digitB (byteAt s o) = false := by rw [hb.1]; decide
    rw [nx_oth h0 h1 h2, if_pos hb.1, if_pos hb.2]
    rfl
theorem sy_none {s : ByteArray} {o : Nat} (ho : o < s.size) (h : ∀ k, k < 6 → syB s o k = false) : symB (byteAt s o) = false ∧ ¬ (byteAt s o = 58 ∧ o + 1 < s.size ∧ byteAt s (o + 1) = 45) := by
  refine ⟨?_, fun e => ?_⟩
  · have hk : ∀ k, k < 5 → ¬ byteAt s o = ((syK k : Nat) : Int) := fun k hk e => by
      have := h k (by omega)
      rw [syB_k ho k hk, decide_eq_true e] at this
      cases this
    have h0 := hk 0 (by omega)
    have h1 := hk 1 (by omega)
    have h2 := hk 2 (by omega)
    have h3 := hk 3 (by omega)
    have h4 := hk 4 (by omega)
    have e0 : ((syK 0 : Nat) : Int) = 40 := rfl
    have e1 : ((syK 1 : Nat) : Int) = 41 := rfl
    have e2 : ((syK 2 : Nat) : Int) = 44 := rfl
    have e3 : ((syK 3 : Nat) : Int) = 59 := rfl
    have e4 : ((syK 4 : Nat) : Int) = 46 := rfl
    unfold symB
    simp only [Bool.or_eq_false_iff, decide_eq_false_iff_not]
    omega
  · have := h 5 (by omega)
    rw [syB_two ho, decide_eq_true e] at this
    cases this

/-- how tokensOf ends -/
def TokE (w : World) (s : ByteArray) (e : Ending) (w' : World) : Prop :=
  (∃ a cap, (lexA s).2 = none ∧ e = .returned (.tuple #[.slice a (lexA s).1.length cap, .nilIface]) ∧ w'.ownsRow w.heap.size 156 4 (.slice a (lexA s).1.length cap) (lexA s).1.length ((lexA s).1.flatMap tkv) ∧ Below w.heap.size w w') ∨ (∃ o, (lexA s).2 = some o ∧ e = .returned (.tuple #[.slice none 0 0, .iface 78 (.agg #[.int .i64 2, .int .i64 (o : Int)])]) ∧ Below w.heap.size w w')
/-- the loop's state -/
def TyS (w : World) (s : ByteArray) (o : Nat) (acc : List TkV) (x : Value) (wr : World) : Prop := LexI s o acc ∧ acc.length ≤ o ∧ wr.ownsRow w.heap.size 156 4 x acc.length (acc.flatMap tkv) ∧ Below w.heap.size w wr
theorem TyS.bad {w wr wr' : World} {s : ByteArray} {o : Nat} {acc : List TkV} {x : Value} (h : TyS w s o acc x wr) (ho : o < s.size) (hn : nx s o = none) (hb : Below w.heap.size w wr') : TokE w s (.returned (.tuple #[.slice none 0 0, .iface 78 (.agg #[.int .i64 2, .int .i64 (o : Int)])])) wr' :=
  Or.inr ⟨o, by rw [h.1.bad ho hn], rfl, hb⟩
theorem TyS.done {w wr : World} {s : ByteArray} {acc : List TkV} {x : Value} (h : TyS w s s.size acc x wr) : TokE w s (.returned (.tuple #[x, .nilIface])) wr := by
  obtain ⟨a, cap, e⟩ := own_shapeT2 h.2.2.1
  have hl := h.1.done
  subst e
  exact Or.inl ⟨a, cap, by rw [hl], by rw [hl], by rw [hl]; exact h.2.2.1, h.2.2.2⟩
theorem TyS.tok {w wr w3 : World} {s : ByteArray} {o n k v : Nat} {nm : ByteArray} {acc : List TkV} {x x' : Value} {ob : Obj} (h : TyS w s o acc x wr) (ho : o < s.size) (hn : nx s o = some (some (k, nm, v), n))
    (hown : w3.ownsRow w.heap.size 156 4 x' (acc.length + 1) (acc.flatMap tkv ++ tkv ⟨k, nm, v, o⟩)) (hg : (wr.alloc ob).grownBy w3 x.ownBlock) : TyS w s (o + n) (acc ++ [⟨k, nm, v, o⟩]) x' w3 := by
  obtain ⟨-, h1, h2⟩ := nx_tok ho hn
  refine ⟨h.1.tok ho hn h1 h2, by rw [List.length_append, List.length_singleton]; have := h.2.1; omega, ?_, ?_⟩
  · rw [List.length_append, List.length_singleton, List.flatMap_append, List.flatMap_cons, List.flatMap_nil, List.append_nil]; exact hown
  · have hs := h.2.2.2.size
    exact (h.2.2.2.alloc hs _).grown hg (by simp; omega) (fun g hg => (h.2.2.1.lt g hg).1)
theorem TyS.bel {w wr w3 : World} {s : ByteArray} {o : Nat} {acc : List TkV} {x : Value} (h : TyS w s o acc x wr) (hb : Below wr.heap.size wr w3) : TyS w s o acc x w3 :=
  ⟨h.1, h.2.1, own_below h.2.2.1 hb, h.2.2.2.trans (hb.mono h.2.2.2.size)⟩
theorem Tryz.infoTkI : (Tryz.prog.info? 156).map (fun i => (i.zero, i.size, i.bytes)) = some (some (.agg #[.string ⟨#[]⟩, .string ⟨#[]⟩, .int .i64 0, .int .i64 0]), 4, 48) := by kernel_rfl

end Go.Proofs.YtcdfoephhjacdaaGreatDoor

/-
  The program's tokens: tokensOf, walked.
-/
namespace Go.Proofs.YtcdfoephhjacdaaGreatDoor
open Go.RowKit

set_option maxHeartbeats 16000000 in
set_option maxRecDepth 1000000 in
theorem tokensOf_calls (w : World) (s : ByteArray) (hs : s.size ≤ 1048576) (hsy : SyV w) : Calls Tryz.prog 46 #[.string s] w (TokE w s) := by
  obtain ⟨iT, hi, hz0, hz1, hz2⟩ := info_parts4 Tryz.infoTkI
  have HS0 : Hid (TyS w s 0 [] (.slice (some ⟨w.heap.size, 0, none⟩) 0 0) (w.alloc (.cells #[] 156))) := hid ⟨LexI.start s, Nat.zero_le _, World.ownsRow_made w #[] 0 (Nat.le_refl _) (by unfold maxLen; omega) rfl, (Below.refl _ _).alloc (Nat.le_refl _) _⟩
  have HSY : Hid (∀ wr, Below w.heap.size w wr → SyV wr) := hid fun wr hb => hsy.belN hb (World.block_lt_of_cell? w _ (hsy 0 (by omega)))
  generalize hE : TokE w s = E
  have HBad : Hid (∀ o acc x wr wr', TyS w s o acc x wr → o < s.size → nx s o = none → Below w.heap.size w wr' → E (.returned (.tuple #[.slice none 0 0, .iface 78 (.agg #[.int .i64 2, .int .i64 (o : Int)])])) wr') := hid fun o acc x wr wr' h h1 h2 h3 => by rw [← hE]; exact h.bad h1 h2 h3
  have HDone : Hid (∀ acc x wr, TyS w s s.size acc x wr → E (.returned (.tuple #[x, .nilIface])) wr) := hid fun acc x wr h => by rw [← hE]; exact h.done
  clear hE hsy
  go_enter Tryz.func46, Tryz.ntmps46
  go_wp2
  go_step3
  go_wp2
  go_step3
  go_wp2
  go_loopw [4, 5] (fun x t wr => ∃ (o : Nat) (acc : List TkV) (vx : Value), o ≤ s.size ∧ t = .int .i64 o ∧ vx = x ∧ Hid (TyS w s o acc vx wr)) (fun _ t _ => s.size - (intOf t).toNat)
  case atStart => exact ⟨0, [], _, Nat.zero_le _, rfl, rfl, HS0⟩
  case round =>
    clear HS0
    obtain ⟨o, acc, vx, hos, rfl, rfl, HL⟩ := hrel
    by_cases ho : o < s.size
    · have i1 : (o : Int) < (s.size : Int) := by omega
      have hb := byteAt_eq s o ho
      have hal := HL.out.2.1
      have HO := hid HL.out.2.2.1
      have HSz := hid HL.out.2.2.2.size
      have hsv := HSY.out wr HL.out.2.2.2
      have KI := hid (indexByte_calls ⟨#[9, 10, 13, 32]⟩ ((s[o]'ho).toNat : Int) wr)
      have hix := sep_ix (s[o]'ho)
      have eu : (((s[o]'ho).toNat : Int)).toNat.toUInt8 = s[o]'ho := by simp
      rw [eu] at KI
      rw [← hb] at hix
      obtain ⟨z, hz⟩ : ∃ z, z = Lib.indexByte [9, 10, 13, 32] (s[o]'ho) := ⟨_, rfl⟩
      rw [← hz] at hix
      have KI2 : Hid (Calls Tryz.prog 76 #[.string ⟨#[9, 10, 13, 32]⟩, .int .u8 ((s[o]'ho).toNat : Int)] wr fun e w' => e = .returned (.int .i64 z) ∧ w' = wr) := hid (by rw [hz]; exact KI.out)
      clear KI hz eu
      cases hsep : sepB (byteAt s o)
      case true =>
        have HN : Hid (TyS w s (o + 1) acc vx wr) := hid ⟨HL.out.1.sep ho (nx_sep hsep) (by omega) (by omega), by omega, HL.out.2.2.1, HL.out.2.2.2⟩
        have iz : 0 ≤ z := hix.2 hsep
        clear HL HO hsep hb HBad HDone HSz hix HSY hsv
        go_wp2_with (first | (go_at_call 76; refine KI2.out.mono ?_; rintro e w' ⟨rfl, hw'⟩; subst w') | fail)
        go_roundw
        case rel => exact ⟨o + 1, acc, vx, by omega, by go_num, rfl, HN⟩
        case measure => simp [intOf]; omega
      case false =>
        have iz : ¬ (0 ≤ z) := fun h => by have := hix.1 h; rw [hsep] at this; cases this
        have HSep := hid hsep
        clear hix hb hsep
        have y0 := hsv 0 (by omega)
        have y1 := hsv 1 (by omega)
        have y2 := hsv 2 (by omega)
        have y3 := hsv 3 (by omega)
        have y4 := hsv 4 (by omega)
        have y5 := hsv 5 (by omega)
        have HIY : Hid (∀ k : Nat, k < 6 → Sem.run Tryz.prog (Instr.index 153 (.agg #[.string (syT 0), .string (syT 1), .string (syT 2), .string (syT 3), .string (syT 4), .string (syT 5)]) (.int .i64 (k : Int))) wr = .ok (.string (syT k)) wr) := hid (Tryz.indexY wr)
        have HKP : Hid (∀ k : Nat, k < 6 → Calls Tryz.prog 77 #[.string (s.extract o s.size), .string (syT k)] wr fun e w' => e = .returned (.bool (syB s o k)) ∧ w' = wr) := hid fun k _ => hasPre_calls (frm s o) (syT k) wr
        have HYn : Hid (∀ k : Nat, k < 6 → syB s o k = true → nx s o = some (some (syK k, ⟨#[]⟩, 0), syN k)) := hid fun k hk h => sy_nx ho hk h
        have HYz : Hid (∀ k : Nat, k < 6 → (syT k).size = syN k ∧ (syT k).extract 0 1 = kdT (syK k)) := hid fun k hk => ⟨sy_size k hk, sy_one k hk⟩
        have HYe : Hid ((∀ k, k < 6 → syB s o k = false) → symB (byteAt s o) = false ∧ ¬ (byteAt s o = 58 ∧ o + 1 < s.size ∧ byteAt s (o + 1) = 45)) := hid (sy_none ho)
        have ios : (o : Int) ≤ (s.size : Int) := by omega
        clear hsv HSY
        generalize hS0 : syT 0 = s0 at *
        generalize hS1 : syT 1 = s1 at *
        generalize hS2 : syT 2 = s2 at *
        generalize hS3 : syT 3 = s3 at *
        generalize hS4 : syT 4 = s4 at *
        generalize hS5 : syT 5 = s5 at *
        clear hS0 hS1 hS2 hS3 hS4 hS5
        go_upto_region 6 with (first | (go_at_call 76; refine KI2.out.mono ?_; rintro e w' ⟨rfl, hw'⟩; subst w') | fail)
        clear KI2 iz
        go_upto_block 2 with fail
        clear y0 y1 y2 y3 y4 y5
        go_cut [4, 5, 24] from 25 to 43 (fun x t _ wx => vx = x ∧ t = .int .i64 (o : Int) ∧ wx = wr ∧ Hid (∀ k, k < 6 → syB s o k = false))
        case first =>
          as_aux_lemma =>
            clear HBad HDone HYe HSep
            go_wp2_with fail
            generalize wr = W2 at *
            go_loopw [4, 5, 24] (fun x y t wr => ∃ k : Nat, k ≤ 6 ∧ vx = x ∧ y = .int .i64 (o : Int) ∧ t = .int .i64 (k : Int) ∧ wr = W2 ∧ Hid (∀ j, j < k → syB s o j = false)) (fun _ _ t _ => 6 - (intOf t).toNat)
            case atStart => exact ⟨0, by omega, rfl, rfl, rfl, rfl, hid fun j hj => by omega⟩
            case round =>
              obtain ⟨k, hk, hx4, rfl, rfl, hw, HJ⟩ := hrel
              subst hx4
              subst hw
              by_cases hk6 : k < 6
              · have ik : (k : Int) < 6 := by omega
                have iy := HIY.out k hk6
                have KP := hid (HKP.out k hk6)
                obtain ⟨hsz, hone⟩ := HYz.out k hk6
                cases hbk : syB s o k
                · rw [hbk] at KP
                  have HN : Hid (∀ j, j < k + 1 → syB s o j = false) := hid fun j hj => by
                    by_cases e : j = k
                    · rw [e]; exact hbk
                    · exact HJ.out j (by omega)
                  clear HJ hbk hsz hone HKP HYn HYz HIY
                  generalize syT k = sk at *
                  go_wp2_with (first | (go_at_call 77; refine KP.out.mono ?_; rintro e w' ⟨rfl, hw'⟩; subst w') | fail)
                  go_roundw
                  case rel => exact ⟨k + 1, by omega, rfl, rfl, by go_num, (by first | rfl | trivial), HN⟩
                  case measure => simp [intOf]; omega
                · rw [hbk] at KP
                  have hnx := HYn.out k hk6 hbk
                  obtain ⟨-, hn1, hn2⟩ := nx_tok ho hnx
                  have HTok : Hid (∀ (w8 : World) (x' : Value) (ob : Obj), w8.ownsRow w.heap.size 156 4 x' (acc.length + 1) (acc.flatMap tkv ++ [.string (kdT (syK k)), .string ⟨#[]⟩, .int .i64 0, .int .i64 (o : Int)]) → (wr.alloc ob).grownBy w8 vx.ownBlock → TyS w s (o + syN k) (acc ++ [⟨syK k, ⟨#[]⟩, 0, o⟩]) x' w8) := hid fun w8 x' ob h1 h2 => HL.out.tok ho hnx h1 h2
                  have isz : (1 : Int) ≤ ((syT k).size : Int) := by rw [hsz]; omega
                  have HSzk := hid hsz
                  have hszI : ((syT k).size : Int) = ((syN k : Nat) : Int) := by rw [hsz]
                  clear HJ hbk hnx HKP HYn HYz HIY HL hsz
                  generalize kdT (syK k) = kk at *
                  generalize syK k = ky at *
                  generalize syN k = ny at *
                  generalize syT k = sk at *
                  go_wp2_with (first | (go_at_call 77; refine KP.out.mono ?_; rintro e w' ⟨rfl, hw'⟩; subst w') | (at_builtin; refine wpList_append_lies _ rfl _ _ 105 rfl w.heap.size 156 iT (.agg #[.string ⟨#[]⟩, .string ⟨#[]⟩, .int .i64 0, .int .i64 0]) 4 48 Tryz.underlying105 hi hz0 hz1 hz2 rfl (by decide) vx acc.length (acc.flatMap tkv) rfl (HO.out.alloc _) ⟨_, 0, none⟩ 1 1 [.string kk, .string ⟨#[]⟩, .int .i64 0, .int .i64 (o : Int)] rfl rfl (new4_cell _ _ _ _ _ _) (fun u hu => by simp at hu; rcases hu with rfl | rfl | rfl | rfl <;> rfl) (by decide) (by unfold maxLen; omega) (by omega) (by have := HSz.out; simp; omega) _ rfl ?_; intro g8 cp8 w8 hown8 hgrow8 hat8 hlt8; have HN8 := hid (HTok.out w8 _ _ hown8 hgrow8); clear hown8 hgrow8 hat8 hlt8) | fail)
                  go_roundw
                  case rel => exact ⟨o + ny, _, _, by omega, by go_num, rfl, HN8⟩
                  case measure => simp [intOf]; omega
              · obtain rfl : k = 6 := by omega
                have ik : ¬ ((6 : Int) < 6) := by omega
                clear HKP HYn HYz HIY HL
                go_wp2_with fail
                go_meet
                exact ⟨rfl, rfl, rfl, HJ⟩
        case rest =>
        obtain ⟨hx4, rfl, hw, HNo⟩ := hcut
        subst wc
        subst hx4
        obtain ⟨hno1, hno2⟩ := HYe.out HNo.out
        have hnx := word_nx ho HSep.out hno1 hno2
        have hwl := wln_le s o hos
        have hwz := ext_size s o (wln s o) hwl
        have KW : Hid (Calls Tryz.prog 78 #[.string (s.extract o s.size)] wr fun e w' => e = .returned (.string (s.extract o (o + wln s o))) ∧ w' = wr) := hid (by
          have := wordAt_calls wr (frm s o) (by rw [frm_size]; omega) (by rw [frm_size]; omega)
          rw [frm_wln, frm_ext] at this
          exact this)
        have KT := hid (wordToken_calls wr (s.extract o (o + wln s o)) (by rw [hwz]; omega))
        have HNX := hid hnx
        have hwzI : ((s.extract o (o + wln s o)).size : Int) = ((wln s o : Nat) : Int) := by rw [hwz]
        have HTk : Hid (wdG (s.extract o (o + wln s o)) = true → ∀ (w3 w8 : World) (x' : Value) (ob : Obj), Below wr.heap.size wr w3 → w8.ownsRow w.heap.size 156 4 x' (acc.length + 1) (acc.flatMap tkv ++ [.string (kdT (wtK (s.extract o (o + wln s o)))), .string (wdN (s.extract o (o + wln s o))), .int .i64 ((wtV (s.extract o (o + wln s o)) : Nat) : Int), .int .i64 (o : Int)]) → (w3.alloc ob).grownBy w8 vx.ownBlock → TyS w s (o + wln s o) (acc ++ [⟨wtK (s.extract o (o + wln s o)), wdN (s.extract o (o + wln s o)), wtV (s.extract o (o + wln s o)), o⟩]) x' w8 ∧ 0 < wln s o) := hid fun hg w3 w8 x' ob hb3 h1 h2 => by
          have hn := HNX.out
          rw [if_pos hg] at hn
          exact ⟨(HL.out.bel hb3).tok ho hn h1 h2, (nx_tok ho hn).2.1⟩
        have HBd : Hid (wdG (s.extract o (o + wln s o)) = false → ∀ wr', Below w.heap.size w wr' → E (.returned (.tuple #[.slice none 0 0, .iface 78 (.agg #[.int .i64 2, .int .i64 (o : Int)])])) wr') := hid fun hg wr' hb => by
          have hn := HNX.out
          rw [hg] at hn
          exact HBad.out o acc vx wr wr' HL.out ho hn hb
        have HBw := hid HL.out.2.2.2
        clear HBad HDone hno1 hno2 hnx HNX HSep HYe HNo HYn HYz HIY HKP HL hwz
        generalize wln s o = wl at *
        go_upto_region 14 with (first | (go_at_call 78; refine KW.out.mono ?_; rintro e w' ⟨rfl, hw'⟩; subst w') | fail)
        clear KW
        generalize s.extract o (o + wl) = wd at *
        obtain ⟨gd, hgd⟩ : ∃ b, b = wdG wd := ⟨_, rfl⟩
        have HGd := hid hgd
        have KT2 : Hid (Calls Tryz.prog 79 #[.string wd] wr fun e w' => ∃ k nm v, (gd = true → k = kdT (wtK wd) ∧ nm = wdN wd ∧ v = wtV wd) ∧ e = .returned (.tuple #[.agg #[.string k, .string nm, .int .i64 ((v : Nat) : Int), .int .i64 0], .bool gd]) ∧ Below wr.heap.size wr w') := hid (by rw [hgd]; exact KT.out)
        clear KT hgd
        go_upto_region 15 with (first | (go_at_call 79; refine KT2.out.mono ?_; rintro e w3 ⟨kt, nt, vt, hkt, rfl, hb3⟩) | fail)
        clear KT2
        obtain ⟨W4, hW4⟩ : ∃ W, W = w3.alloc (.cells #[.string kt, .string nt, .int .i64 (vt : Int), .int .i64 0] 156) := ⟨_, rfl⟩
        have hb34 : Below w3.heap.size w3 W4 := by rw [hW4]; exact (Below.refl _ _).alloc (Nat.le_refl _) _
        have hbl : W4.heap[w3.heap.size]? = some (.cells #[.string kt, .string nt, .int .i64 (vt : Int), .int .i64 0] 156 (0, 0)) := by rw [hW4]; exact heap_alloc_new _ _
        have hb4 : Below wr.heap.size wr W4 := bt hb3 hb34
        rw [← hW4]
        have hL : w.heap.size ≤ w3.heap.size := Nat.le_trans HBw.out.size hb3.size
        have hLw : wr.heap.size ≤ w3.heap.size := hb3.size
        clear hW4 hb34 hb3
        generalize w3.heap.size = L at *
        cases gd with
        | false =>
          have HE := hid (HBd.out HGd.out.symm W4 (HBw.out.trans (hb4.mono HBw.out.size)))
          clear HBd HTk HGd hb4 HBw HO hbl hkt
          as_aux_lemma =>
            go_wp2_with fail
            first | exact HE.out | (go_ret2; exact HE.out) | (rw [Exit.noGoto_ret]; go_ret2; exact HE.out) | (trace_state; fail)
        | true =>
          obtain ⟨rfl, rfl, rfl⟩ := hkt rfl
          obtain ⟨W5, hW5⟩ : ∃ W, W = W4.setCell ⟨L, 3, none⟩ (.int .i64 (o : Int)) := ⟨_, rfl⟩
          have hbl5 : W5.heap[L]? = some (.cells #[.string (kdT (wtK wd)), .string (wdN wd), .int .i64 ((wtV wd : Nat) : Int), .int .i64 (o : Int)] 156 (0, 0)) := by rw [hW5, heap_setCell_same _ _ _ _ _ _ hbl]; rfl
          have hb5 : Below wr.heap.size wr W5 := by rw [hW5]; exact hb4.setCell hLw _
          have hc3 : W4.cell? ⟨L, 3, none⟩ = some (.int .i64 0) := cell_of_row _ _ _ _ _ _ hbl
          have hf3 : W4.frozen? ⟨L, 3, none⟩ = false := by unfold World.frozen?; rw [hbl]; simp
          have HO5 := hid (own_below HO.out hb5)
          have HTok : Hid (∀ (w8 : World) (x' : Value) (ob : Obj), w8.ownsRow w.heap.size 156 4 x' (acc.length + 1) (acc.flatMap tkv ++ [.string (kdT (wtK wd)), .string (wdN wd), .int .i64 ((wtV wd : Nat) : Int), .int .i64 (o : Int)]) → (W5.alloc ob).grownBy w8 vx.ownBlock → TyS w s (o + wl) (acc ++ [⟨wtK wd, wdN wd, wtV wd, o⟩]) x' w8 ∧ 0 < wl) := hid fun w8 x' ob h1 h2 => HTk.out HGd.out.symm W5 w8 x' ob hb5 h1 h2
          have HSz5 : Hid (w.heap.size ≤ W5.heap.size) := hid (Nat.le_trans HSz.out hb5.size)
          have HW5 := hid hW5
          have HBL5 := hid hbl5
          clear HBd HTk HGd hb4 HBw HO hbl hW5 hb5 HSz hbl5
          generalize kdT (wtK wd) = kk at *
          generalize wdN wd = nn at *
          generalize wtV wd = vv at *
          generalize wtK wd = kz at *
          go_upto_region 18 with fail
          rw [← HW5.out]
          clear hc3 hf3 HW5
          have hbl5 := HBL5.out
          have t0 : W5.cell? ⟨L, 0, none⟩ = some (.string kk) := cell_of_row _ _ _ _ _ _ hbl5
          have t1 : W5.cell? ⟨L, 1, none⟩ = some (.string nn) := cell_of_row _ _ _ _ _ _ hbl5
          have t2 : W5.cell? ⟨L, 2, none⟩ = some (.int .i64 (vv : Int)) := cell_of_row _ _ _ _ _ _ hbl5
          have t3 : W5.cell? ⟨L, 3, none⟩ = some (.int .i64 (o : Int)) := cell_of_row _ _ _ _ _ _ hbl5
          have HO := HO5
          have HSz := HSz5
          clear hbl5 HBL5 HO5 HSz5
          as_aux_lemma =>
            go_wp2_with (first | (at_builtin; refine wpList_append_lies _ rfl _ _ 105 rfl w.heap.size 156 iT (.agg #[.string ⟨#[]⟩, .string ⟨#[]⟩, .int .i64 0, .int .i64 0]) 4 48 Tryz.underlying105 hi hz0 hz1 hz2 rfl (by decide) vx acc.length (acc.flatMap tkv) rfl (HO.out.alloc _) ⟨_, 0, none⟩ 1 1 [.string kk, .string nn, .int .i64 (vv : Int), .int .i64 (o : Int)] rfl rfl (new4_cell _ _ _ _ _ _) (fun u hu => by simp at hu; rcases hu with rfl | rfl | rfl | rfl <;> rfl) (by decide) (by unfold maxLen; omega) (by omega) (by have := HSz.out; simp; omega) _ rfl ?_; intro g8 cp8 w8 hown8 hgrow8 hat8 hlt8; have HN8 := hid (HTok.out w8 _ _ hown8 hgrow8); clear hown8 hgrow8 hat8 hlt8) | fail)
            go_roundw
            case rel => exact ⟨o + wl, _, _, by omega, by go_num, rfl, hid HN8.out.1⟩
            case measure => have := HN8.out.2; simp [intOf]; omega
    · obtain rfl : o = s.size := by omega
      have i1 : ¬ ((s.size : Int) < (s.size : Int)) := by omega
      have HE := hid (HDone.out acc vx wr HL.out)
      clear HL HBad HDone
      go_wp2_with fail
      first | exact HE.out | (go_ret2; exact HE.out) | (rw [Exit.noGoto_ret]; go_ret2; exact HE.out) | (trace_state; fail)

end Go.Proofs.YtcdfoephhjacdaaGreatDoor
