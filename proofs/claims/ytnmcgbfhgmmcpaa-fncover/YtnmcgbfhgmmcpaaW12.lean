import Derived.Deep.Cut
import Derived.Test.YtnmcgbfhgmmcpaaW10
import Derived.Test.YtnmcgbfhgmmcpaaW11
namespace Go.Proofs.Ytnmcgbfhgmmcpaa
open Go.RowKit

theorem infoSx : (Try.prog.info? 120).map (·.size) = some 350 := by kernel_rfl

/-- a simplex of zeros -/
def zSx : Array Value := Array.replicate 330 (.int .i64 0) ++ Array.replicate 20 (.bool false)

theorem run_alloc_sx (w : World) : (Instr.alloc 120 true (.tuple #[])).run Try.prog w = .ok (.pointer (some ⟨w.heap.size, 0, none⟩)) (w.alloc (.cells zSx 120)) := by kernel_rfl

theorem wp_alloc_sx {op : Oper} {a : Act} {w : World} {K : Act → World → Prop} {Q : Exit → Act → World → Prop} (ho : op.op = .alloc 120)
    (h : K (a.put op.dst (.pointer (some ⟨w.heap.size, 0, none⟩))) (w.alloc (.cells zSx 120))) : op.wp Try.prog a w K Q := by
  unfold Oper.wp execOp
  simp only [ho, Sem.run_bind, Sem.run_pure, Result.andThen_ok, run_alloc_sx]
  exact h

theorem wpList_alloc_sx {ops : Array Oper} {rest : List Oper} {op : Oper} {a : Act} {w : World} {Q : Exit → Act → World → Prop} (hgd : op.guard = none) (ho : op.op = .alloc 120)
    (h : wpList Try.prog ops Q rest (a.put op.dst (.pointer (some ⟨w.heap.size, 0, none⟩))) (w.alloc (.cells zSx 120))) : wpList Try.prog ops Q (op :: rest) a w :=
  wpList_plain hgd fun _ hK => wp_alloc_sx ho (hK _ _ h)

theorem drew_below {a b : World} (h : Below a.drew.heap.size a.drew b) : Below a.heap.size a b := ⟨h.os, h.tape, h.output, h.size, h.block⟩

theorem below_setCells {N : Nat} {a : World} {b : Nat} (hb : N ≤ b) : ∀ (vs : List Value) (o : Nat) (w : World), Below N a w → Below N a (w.setCells b o vs)
  | [], _, _, h => h
  | v :: r, o, w, h => by
    rw [World.setCells]
    exact below_setCells hb r (o + 1) _ (h.setCell hb v)

theorem kb_setCells {a : World} {b : Nat} : ∀ (vs : List Value) (o : Nat) (w : World), Kb b a w → Kb b a (w.setCells b o vs)
  | [], _, _, h => h
  | v :: r, o, w, h => by
    rw [World.setCells]
    exact kb_setCells r (o + 1) _ (h.set o v)

theorem zSx_size : zSx.size = 350 := by simp [zSx]

theorem there_zSx (w : World) (t : TypeId) : (w.alloc (.cells zSx t)).there w.heap.size 0 350 := by
  intro j hj
  rw [Nat.zero_add]
  have hb := heap_alloc_new w (.cells zSx t)
  refine ⟨?_, ?_⟩
  · rw [cell_of_row _ _ _ _ _ _ hb, Array.getElem?_eq_getElem (by rw [zSx_size]; exact hj)]; rfl
  · unfold World.frozen?
    rw [hb]
    simp

theorem results_cell_mid {P : Program} {fn : Func} {p : Tmp} {ty : TypeId} (h : fn.results = #[.cell p ty]) (tmps : Array Value) (w : World) (g : Nat) (cs : List Value) (d : TypeDesc)
    (hp : tmps.getD p undef = .pointer (some ⟨g, 0, none⟩)) (hr : w.rangeAt g 0 cs) (hu : P.underlying ty = some d) (hd : d.isRow = true) (hi : (P.info? ty).map (·.size) = some cs.length) :
    (results fn tmps).run P w = .ok (.agg cs.toArray) w := by
  have hp' : tmps[p]?.getD undef = .pointer (some ⟨g, 0, none⟩) := by simpa using hp
  simp [results, h, hp', asAddr, run_loadVar_mid w g 0 ty cs d hr hu hd hi]

theorem there_below {w w' : World} {b n : Nat} (h : w.there b 0 n) (hb : Below w.heap.size w w') : w'.there b 0 n := by
  intro j hj
  obtain ⟨h1, h2⟩ := h j hj
  obtain ⟨u, hu⟩ := Option.isSome_iff_exists.1 h1
  have hlt := World.block_lt_of_cell? w _ hu
  rw [hb.cell (p := ⟨b, 0 + j, none⟩) hlt, hb.frozen (p := ⟨b, 0 + j, none⟩) hlt]
  exact ⟨h1, h2⟩

theorem there_set {w : World} {b n : Nat} (h : w.there b 0 n) (k o : Nat) (v : Value) : (w.setCell ⟨k, o, none⟩ v).there b 0 n := World.there_setCells h k o [v]

/-- what a store of a quotient reads and writes -/
theorem pvS {W : World} {k k2 m n : Nat} {C D : Nat → Nat → Rat} {B B2 : Nat → Nat} {bar bar2 : Nat → Bool} (hk : SxAt W k m n C B bar) (h2 : SxAt W k2 m n D B2 bar2) {r j c : Nat} (hr : r ≤ m) (hj : j ≤ n) (hc : c ≤ n) :
    W.cell? ⟨k, 2 + r * 40 + j * 2, none⟩ = some (.int .i64 (C r j).num) ∧ W.cell? ⟨k, 2 + r * 40 + j * 2 + 1, none⟩ = some (.int .i64 (C r j).den) ∧ W.cell? ⟨k, 2 + r * 40 + c * 2, none⟩ = some (.int .i64 (C r c).num) ∧ W.cell? ⟨k, 2 + r * 40 + c * 2 + 1, none⟩ = some (.int .i64 (C r c).den) ∧
    (W.cell? ⟨k2, 2 + r * 40 + j * 2, none⟩).isSome = true ∧ (W.cell? ⟨k2, 2 + r * 40 + j * 2 + 1, none⟩).isSome = true ∧ W.frozen? ⟨k2, 2 + r * 40 + j * 2, none⟩ = false ∧ W.frozen? ⟨k2, 2 + r * 40 + j * 2 + 1, none⟩ = false := by
  have hm := hk.lay.mle
  have hn := hk.lay.nle
  have e1 : W.cell? ⟨k2, 2 + r * 40 + j * 2, none⟩ = _ := h2.lay.num r j hr hj
  have e2 : W.cell? ⟨k2, 2 + r * 40 + j * 2 + 1, none⟩ = _ := h2.lay.den r j hr hj
  exact ⟨hk.lay.num r j hr hj, hk.lay.den r j hr hj, hk.lay.num r c hr hc, hk.lay.den r c hr hc, by rw [e1]; rfl, by rw [e2]; rfl, h2.free _ (by omega), h2.free _ (by omega)⟩

/-- columns below j are done -/
def mixJ (C : Nat → Nat → Rat) (r c j : Nat) : Nat → Nat → Rat := fun a b => if b < j then Cov.pivT C r c a b else C a b
/-- and of column j the rows below i, and row r -/
def mixI (C : Nat → Nat → Rat) (r c j i : Nat) : Nat → Nat → Rat := fun a b => if b < j ∨ (b = j ∧ (a < i ∨ a = r)) then Cov.pivT C r c a b else C a b

theorem pivT_zero {C : Nat → Nat → Rat} {r c j : Nat} (h : C r j = 0) (a : Nat) : Cov.pivT C r c a j = C a j := by
  unfold Cov.pivT
  split
  · rename_i e; rw [e, h]; grind
  · rw [h]; grind

theorem pivT_row {C : Nat → Nat → Rat} {r c a : Nat} (h : C a c = 0) (hne : a ≠ r) (j : Nat) : Cov.pivT C r c a j = C a j := by
  unfold Cov.pivT
  rw [if_neg hne, h]; grind

set_option maxRecDepth 100000 in
set_option maxHeartbeats 6000000 in
theorem pivoted_calls (w : World) (k m n : Nat) (C : Nat → Nat → Rat) (B : Nat → Nat) (bar : Nat → Bool) (h : SxAt w k m n C B bar) (r c : Nat) (hr : r < m) (hc : c < n)
    (hrc : C r c ≠ 0) (hsm : ∀ a b, a ≤ m → b ≤ n → Sm 41000 (C a b)) (hsm' : ∀ a b, a ≤ m → b ≤ n → Sm 41000 (Cov.pivT C r c a b)) :
    Calls Try.prog 117 #[.pointer (some ⟨k, 0, none⟩), .int .i64 r, .int .i64 c] w fun e w' => ∃ V, e = .returned (.agg V) ∧ IsSx V m n (Cov.pivT C r c) (Cov.pivB B r c) bar ∧ Below w.heap.size w w' := by
  have hn := h.lay.nle
  have hm := h.lay.mle
  have hklt := h.lt
  have S1 := hid hsm
  have S2 := hid hsm'
  clear hsm hsm'
  obtain ⟨cs, hcs⟩ : ∃ cs, cs = cellsOf w k := ⟨_, rfl⟩
  have hlen : cs.length = 350 := by rw [hcs]; exact cellsOf_length w k
  have hrange : w.rangeAt k 0 cs := by rw [hcs]; exact cellsOf_range h
  have hsx : IsSx cs.toArray m n C B bar := by rw [hcs]; exact isSx_of h
  clear hcs
  have HL := hid hlen
  have HR := hid hrange
  clear hlen hrange
  go_enter Try.func117, Try.ntmps117
  go_upto_region 1 with (refine wpList_alloc_sx rfl rfl ?_)
  go_frame
  go_cut [7] (fun v wc => v = .pointer (some ⟨w.heap.size + 1, 0, none⟩) ∧ Below w.heap.size w wc ∧ wc.there w.heap.size 0 350 ∧ SxAt wc (w.heap.size + 1) m n C B bar)
  case first =>
    have HT : Hid (((w.alloc (.cells zSx 120)).alloc (.cells zSx 120)).there (w.heap.size + 1) 0 cs.toArray.size) := by
      have := there_zSx (w.alloc (.cells zSx 120)) 120
      rw [show (w.alloc (.cells zSx 120)).heap.size = w.heap.size + 1 by simp] at this
      rw [show cs.toArray.size = 350 by simpa using HL.out]
      exact this
    have HT2 : Hid (((w.alloc (.cells zSx 120)).alloc (.cells zSx 120)).there (w.alloc (.cells zSx 120)).heap.size 0 cs.toArray.size) := by
      rw [show cs.toArray.size = 350 by simpa using HL.out]
      exact there_zSx (w.alloc (.cells zSx 120)) 120
    have HI : Hid ((Try.prog.info? 120).map (·.size) = some cs.length) := by
      show _ = _
      rw [HL.out]; exact infoSx
    have HI2 : Hid ((Try.prog.info? 120).map (·.size) = some cs.toArray.size) := by
      show _ = _
      rw [show cs.toArray.size = 350 by simpa using HL.out]; exact infoSx
    have HO := hid hsx.one
    have HRa := hid (World.rangeAt_alloc HR.out (.cells zSx 120))
    go_wp2_with (first | (refine wpList_alloc_sx rfl rfl ?_) | (refine wpList_load_mid rfl 120 _ rfl k 0 (by rfl) cs _ (by exact HRa.out) Try.underlying120 (by rfl) (by exact HI.out) ?_) | (refine wpList_store_mid rfl 120 _ _ rfl _ 0 cs.toArray (by rfl) (by rfl) (by first | with_reducible exact HT2.out | with_reducible exact HT.out) (by exact HI2.out) (by exact HO.out) ?_))
    go_meet
    refine ⟨by simp, ?_, ?_, ?_⟩
    · exact below_setCells (by simp) _ _ _ (((Below.refl _ _).alloc (Nat.le_refl _) _).alloc (by simp) _)
    · exact World.there_setCells (World.there_alloc (there_zSx w _) _) _ _ _
    · have := hsx.stored (b := w.heap.size + 1) (w := (w.alloc (.cells zSx 120)).alloc (.cells zSx 120)) (by have := HT.out; rw [show cs.toArray.size = 350 by simpa using HL.out] at this; exact this)
      simpa using this
  case rest =>
    obtain ⟨rfl, hB, hT, hS⟩ := hcut
    have hk := h.below hB
    have hcols : wc.cell? ⟨k, 1, none⟩ = some (.int .i64 n) := hk.lay.cols
    have hbc : wc.cell? ⟨w.heap.size + 1, 322 + r, none⟩ = some (.int .i64 (B r : Nat)) := hS.lay.bas r hr
    have hbf : wc.frozen? ⟨w.heap.size + 1, 322 + r, none⟩ = false := hS.free (322 + r) (by omega)
    have hB2 := hB.setCell (p := ⟨w.heap.size + 1, 322 + r, none⟩) (by simp) (.int .i64 (c : Nat))
    have hT2 : (wc.setCell ⟨w.heap.size + 1, 322 + r, none⟩ (.int .i64 (c : Nat))).there w.heap.size 0 350 := World.there_setCells hT (w.heap.size + 1) (322 + r) [.int .i64 (c : Nat)]
    have hS2 := hS.setBas hr c
    have i1 : (r : Int) < 8 := by omega
    have i2 : (c : Int) < 20 := by omega
    clear HL HR hsx
    go_wp2_with fail
    go_loopw [22] (fun t wr => ∃ j : Nat, j ≤ n + 1 ∧ t = .int .i64 j ∧ Below w.heap.size w wr ∧ wr.there w.heap.size 0 350 ∧ SxAt wr (w.heap.size + 1) m n (mixJ C r c j) (Cov.pivB B r c) bar) (fun t _ => n + 1 - (intOf t).toNat)
    case atStart => exact ⟨0, Nat.zero_le _, rfl, hB2, hT2, hS2.congr (fun _ _ _ _ => if_neg (by omega)) (fun _ _ => rfl) (fun _ _ => rfl)⟩
    case round =>
      obtain ⟨j, hj, rfl, hBr, hTr, hSr⟩ := hrel
      clear hB hT hS hcols hbc hbf hB2 hT2 hS2 hk
      have hkr := h.below hBr
      by_cases hlt : j < n + 1
      · have i3 : (j : Int) < (n : Int) + 1 := by omega
        have i4 : (j : Int) < 20 := by omega
        obtain ⟨a1, a2⟩ := show wr.cell? ⟨k, 2 + r * 40 + j * 2, none⟩ = some (.int .i64 (C r j).num) ∧ wr.cell? ⟨k, 2 + r * 40 + j * 2 + 1, none⟩ = some (.int .i64 (C r j).den) from ⟨hkr.lay.num r j (by omega) (by omega), hkr.lay.den r j (by omega) (by omega)⟩
        by_cases hz : C r j = 0
        · have hs : (sgR (C r j) == 0) = true := by rw [sgR_zero hz]; decide
          have hz' := hid hz
          clear hz
          go_wp2_with (first | (go_at_call 54; refine (signV (C r j) _).mono ?_; rintro e w' ⟨rfl, hb⟩))
          go_roundw
          case rel =>
            refine ⟨j + 1, by omega, by go_num, bt hBr hb, fun o ho => ?_, (hSr.below hb).congr (fun a b _ _ => ?_) (fun _ _ => rfl) (fun _ _ => rfl)⟩
            · exact there_below hTr hb o ho
            · unfold mixJ
              by_cases e : b = j
              · rw [e, if_pos (by omega), if_neg (by omega), pivT_zero hz'.out]
              · by_cases e2 : b < j
                · rw [if_pos (by omega), if_pos e2]
                · rw [if_neg (by omega), if_neg e2]
          case measure => simp [intOf]; omega
        · have hs : (sgR (C r j) == 0) = false := by
            by_cases e : C r j < 0
            · rw [sgR_neg e]; decide
            · rw [sgR_pos (by grind)]; decide
          have X1 := hid (S1.out r j (by omega) (by omega))
          have X2 := hid (S1.out r c (by omega) (by omega))
          have k2 := w.heap.size + 1
          have hkne : w.heap.size + 1 ≠ k := by omega
          have hlt2 : w.heap.size + 1 < wr.heap.size := hSr.lt
          obtain ⟨a3, a4⟩ := show wr.cell? ⟨k, 2 + r * 40 + c * 2, none⟩ = some (.int .i64 (C r c).num) ∧ wr.cell? ⟨k, 2 + r * 40 + c * 2 + 1, none⟩ = some (.int .i64 (C r c).den) from ⟨hkr.lay.num r c (by omega) (by omega), hkr.lay.den r c (by omega) (by omega)⟩
          go_upto_region 7 with (first | (go_at_call 54; refine (signV (C r j) _).mono ?_; rintro e w' ⟨rfl, hb0⟩))
          have hk1 := hkr.below hb0
          have h21 := hSr.below hb0
          have hBw := bt hBr hb0
          have hTw := there_below hTr hb0
          go_cut [8] (fun v wx => v = .int .i64 j ∧ Below w.heap.size w wx ∧ wx.there w.heap.size 0 350 ∧ SxAt wx (w.heap.size + 1) m n (mixI C r c j 0) (Cov.pivB B r c) bar)
          case first =>
            go_region_held3 (fun w' => w'.cell? ⟨k, 2 + r * 40 + j * 2, none⟩ = some (.int .i64 (C r j).num) ∧ w'.cell? ⟨k, 2 + r * 40 + j * 2 + 1, none⟩ = some (.int .i64 (C r j).den) ∧ w'.cell? ⟨k, 2 + r * 40 + c * 2, none⟩ = some (.int .i64 (C r c).num) ∧ w'.cell? ⟨k, 2 + r * 40 + c * 2 + 1, none⟩ = some (.int .i64 (C r c).den) ∧ (w'.cell? ⟨w.heap.size + 1, 2 + r * 40 + j * 2, none⟩).isSome = true ∧ (w'.cell? ⟨w.heap.size + 1, 2 + r * 40 + j * 2 + 1, none⟩).isSome = true ∧ w'.frozen? ⟨w.heap.size + 1, 2 + r * 40 + j * 2, none⟩ = false ∧ w'.frozen? ⟨w.heap.size + 1, 2 + r * 40 + j * 2 + 1, none⟩ = false)
              (first | exact pvS hk1.drew h21.drew (by omega) (by omega) (by omega) | exact pvS (hk1.drew.below hb) (h21.drew.below hb) (by omega) (by omega) (by omega) | exact pvS (((hk1.drew.below hb).far _ hkne).far _ hkne) ((h21.drew.below hb).setNum (by omega) (by omega) (C r j / C r c)) (by omega) (by omega) (by omega))
              (first | (go_at_call 141; refine (overV (C r j) (C r c) _ X1.out X2.out (by decide) hrc).mono ?_; rintro e w' ⟨rfl, hb⟩; have q1 : w'.cell? ⟨w.heap.size + 1, 2 + r * 40 + j * 2, none⟩ = some (.int .i64 (mixJ C r c j r j).num) := (h21.drew.below hb).lay.num r j (by omega) (by omega); have q2 : w'.cell? ⟨w.heap.size + 1, 2 + r * 40 + j * 2 + 1, none⟩ = some (.int .i64 (mixJ C r c j r j).den) := (h21.drew.below hb).lay.den r j (by omega) (by omega)))
            go_wp2_with fail
            go_meet
            have hbb := (Below.refl _ _).drew.trans hb
            refine ⟨rfl, ((bt hBw hbb).setCell (by simp) _).setCell (by simp) _, there_set (there_set (there_below hTw hbb) _ _ _) _ _ _, ((h21.below hbb).setNum (by omega) (by omega) (C r j / C r c)).congr (fun a b _ _ => ?_) (fun _ _ => rfl) (fun _ _ => rfl)⟩
            unfold mixI mixJ
            by_cases e : a = r ∧ b = j
            · rw [if_pos e, if_pos (by omega), e.1, e.2]
              exact if_pos rfl
            · rw [if_neg e]
              by_cases e2 : b < j
              · rw [if_pos (Or.inl e2), if_pos e2]
              · rw [if_neg (by omega), if_neg e2]
          case rest =>
            obtain ⟨rfl, hBx, hTx, hSx⟩ := hcut
            clear hBr hTr hSr hkr hk1 h21 hBw hTw a1 a2 a3 a4 hlt2 hb0
            obtain ⟨wo, rfl⟩ : ∃ wo : World, wo = wc := ⟨_, rfl⟩
            have hrow : wo.cell? ⟨k, 0, none⟩ = some (.int .i64 m) := (h.below hBx).lay.rows
            go_wp2_with fail
            go_loopw [64] (fun t wr => ∃ i : Nat, i ≤ m + 1 ∧ t = .int .i64 i ∧ Below w.heap.size w wr ∧ wr.there w.heap.size 0 350 ∧ SxAt wr (w.heap.size + 1) m n (mixI C r c j i) (Cov.pivB B r c) bar) (fun t _ => m + 1 - (intOf t).toNat)
            case atStart => exact ⟨0, Nat.zero_le _, rfl, hBx, hTx, hSx⟩
            case round =>
              obtain ⟨i, hi, rfl, hBi, hTi, hSi⟩ := hrel
              clear hBx hTx hSx hrow
              have hki := h.below hBi
              by_cases hli : i < m + 1
              · have i5 : (i : Int) < (m : Int) + 1 := by omega
                have i6 : (i : Int) < 8 := by omega
                by_cases hir : i = r
                · have hne : ((i : Int) != (r : Int)) = false := by simp; omega
                  have HI := hid hir
                  clear hir
                  go_wp2_with fail
                  go_roundw
                  case rel =>
                    refine ⟨i + 1, by omega, by go_num, hBi, hTi, hSi.congr (fun a b _ _ => ?_) (fun _ _ => rfl) (fun _ _ => rfl)⟩
                    have := HI.out
                    unfold mixI
                    by_cases e : b < j ∨ (b = j ∧ (a < i ∨ a = r))
                    · rw [if_pos e, if_pos (by omega)]
                    · rw [if_neg e, if_neg (by omega)]
                  case measure => simp [intOf]; omega
                · have hne : ((i : Int) != (r : Int)) = true := by simp; omega
                  obtain ⟨b1, b2⟩ := show wr.cell? ⟨k, 2 + i * 40 + c * 2, none⟩ = some (.int .i64 (C i c).num) ∧ wr.cell? ⟨k, 2 + i * 40 + c * 2 + 1, none⟩ = some (.int .i64 (C i c).den) from ⟨hki.lay.num i c (by omega) (by omega), hki.lay.den i c (by omega) (by omega)⟩
                  by_cases hzi : C i c = 0
                  · have hs2 : (sgR (C i c) != 0) = false := by rw [sgR_zero hzi]; decide
                    have HZ := hid hzi
                    clear hzi
                    go_wp2_with (first | (go_at_call 54; refine (signV (C i c) _).mono ?_; rintro e w' ⟨rfl, hb⟩))
                    go_roundw
                    case rel =>
                      refine ⟨i + 1, by omega, by go_num, bt hBi hb, there_below hTi hb, (hSi.below hb).congr (fun a b _ _ => ?_) (fun _ _ => rfl) (fun _ _ => rfl)⟩
                      unfold mixI
                      by_cases e : b < j ∨ (b = j ∧ (a < i ∨ a = r))
                      · rw [if_pos e, if_pos (by omega)]
                      · rw [if_neg e]
                        by_cases e2 : a = i ∧ b = j
                        · rw [if_pos (by omega), e2.1, e2.2, pivT_row HZ.out hir]
                        · rw [if_neg (by omega)]
                    case measure => simp [intOf]; omega
                  · have hs2 : (sgR (C i c) != 0) = true := by
                      by_cases e : C i c < 0
                      · rw [sgR_neg e]; decide
                      · rw [sgR_pos (by grind)]; decide
                    have Y1 := hid (S1.out i j (by omega) (by omega))
                    have Y2 := hid (S1.out i c (by omega) (by omega))
                    have Y3 := hid (S2.out r j (by omega) (by omega))
                    have Y4 := hid (Y2.out.mul Y3.out)
                    have hmix : Hid (mixI C r c j i r j = Cov.pivT C r c r j) := if_pos (by omega)
                    go_upto_region 12 with (first | (go_at_call 54; refine (signV (C i c) _).mono ?_; rintro e w' ⟨rfl, hb0⟩))
                    have hk1 := hki.below hb0
                    have h21 := hSi.below hb0
                    have hBw := bt hBi hb0
                    have hTw := there_below hTi hb0
                    have keep : ∀ W D B2 bar2, SxAt W k m n C B bar → SxAt W (w.heap.size + 1) m n D B2 bar2 → D r j = Cov.pivT C r c r j → W.cell? ⟨k, 2 + i * 40 + j * 2, none⟩ = some (.int .i64 (C i j).num) ∧ W.cell? ⟨k, 2 + i * 40 + j * 2 + 1, none⟩ = some (.int .i64 (C i j).den) ∧ W.cell? ⟨k, 2 + i * 40 + c * 2, none⟩ = some (.int .i64 (C i c).num) ∧ W.cell? ⟨k, 2 + i * 40 + c * 2 + 1, none⟩ = some (.int .i64 (C i c).den) ∧ W.cell? ⟨w.heap.size + 1, 2 + r * 40 + j * 2, none⟩ = some (.int .i64 (Cov.pivT C r c r j).num) ∧ W.cell? ⟨w.heap.size + 1, 2 + r * 40 + j * 2 + 1, none⟩ = some (.int .i64 (Cov.pivT C r c r j).den) := fun W D B2 bar2 g1 g2 g3 =>
                      ⟨g1.lay.num i j (by omega) (by omega), g1.lay.den i j (by omega) (by omega), g1.lay.num i c (by omega) (by omega), g1.lay.den i c (by omega) (by omega), by rw [← g3]; exact g2.lay.num r j (by omega) (by omega), by rw [← g3]; exact g2.lay.den r j (by omega) (by omega)⟩
                    have KP := hid keep
                    clear keep
                    go_region_held3 (fun w' => w'.cell? ⟨k, 2 + i * 40 + j * 2, none⟩ = some (.int .i64 (C i j).num) ∧ w'.cell? ⟨k, 2 + i * 40 + j * 2 + 1, none⟩ = some (.int .i64 (C i j).den) ∧ w'.cell? ⟨k, 2 + i * 40 + c * 2, none⟩ = some (.int .i64 (C i c).num) ∧ w'.cell? ⟨k, 2 + i * 40 + c * 2 + 1, none⟩ = some (.int .i64 (C i c).den) ∧ w'.cell? ⟨w.heap.size + 1, 2 + r * 40 + j * 2, none⟩ = some (.int .i64 (Cov.pivT C r c r j).num) ∧ w'.cell? ⟨w.heap.size + 1, 2 + r * 40 + j * 2 + 1, none⟩ = some (.int .i64 (Cov.pivT C r c r j).den))
                      (first | exact KP.out _ _ _ _ hk1.drew h21.drew hmix.out | exact KP.out _ _ _ _ (hk1.drew.below hb) (h21.drew.below hb) hmix.out | exact KP.out _ _ _ _ ((hk1.drew.below hb).below hb') ((h21.drew.below hb).below hb') hmix.out | exact KP.out _ _ _ _ ((((hk1.drew.below hb).below hb').far _ hkne).far _ hkne) (((h21.drew.below hb).below hb').setNum (by omega) (by omega) (C i j - C i c * Cov.pivT C r c r j)) ((if_neg (fun e => hir e.1.symm)).trans hmix.out))
                      (first | (go_at_call 142; refine (timesV (C i c) (Cov.pivT C r c r j) _ Y2.out Y3.out (by decide)).mono ?_; rintro e w' ⟨rfl, hb⟩) | (go_at_call 53; refine (minusV (C i j) (C i c * Cov.pivT C r c r j) _ Y1.out Y4.out (by decide)).mono ?_; rintro e w'' ⟨rfl, hb'⟩; have q1 : w''.cell? ⟨w.heap.size + 1, 2 + i * 40 + j * 2, none⟩ = some (.int .i64 (mixI C r c j i i j).num) := ((h21.drew.below hb).below hb').lay.num i j (by omega) (by omega); have q2 : w''.cell? ⟨w.heap.size + 1, 2 + i * 40 + j * 2 + 1, none⟩ = some (.int .i64 (mixI C r c j i i j).den) := ((h21.drew.below hb).below hb').lay.den i j (by omega) (by omega); have q3 : w''.frozen? ⟨w.heap.size + 1, 2 + i * 40 + j * 2, none⟩ = false := ((h21.drew.below hb).below hb').free _ (by omega); have q4 : w''.frozen? ⟨w.heap.size + 1, 2 + i * 40 + j * 2 + 1, none⟩ = false := ((h21.drew.below hb).below hb').free _ (by omega)))
                    go_wp2_with fail
                    go_roundw
                    case measure => simp [intOf]; omega
                    have hbb := bt (drew_below hb) hb'
                    refine ⟨i + 1, by omega, by go_num, ((bt hBw hbb).setCell (by simp) _).setCell (by simp) _, there_set (there_set (there_below hTw hbb) _ _ _) _ _ _, ((h21.below hbb).setNum (by omega) (by omega) (C i j - C i c * Cov.pivT C r c r j)).congr (fun a b _ _ => ?_) (fun _ _ => rfl) (fun _ _ => rfl)⟩
                    unfold mixI
                    by_cases e : a = i ∧ b = j
                    · rw [if_pos e, if_pos (by omega), e.1, e.2]
                      unfold Cov.pivT
                      rw [if_neg hir, if_pos rfl]
                    · rw [if_neg e]
                      by_cases e2 : b < j ∨ (b = j ∧ (a < i ∨ a = r))
                      · rw [if_pos e2, if_pos (by omega)]
                      · rw [if_neg e2, if_neg (by omega)]
              · obtain rfl : i = m + 1 := by omega
                have i5 : ¬ ((m : Int) + 1 < (m : Int) + 1) := by omega
                go_wp2_with fail
                go_roundw
                case rel =>
                  refine ⟨j + 1, by omega, by go_num, hBi, hTi, hSi.congr (fun a b ha _ => ?_) (fun _ _ => rfl) (fun _ _ => rfl)⟩
                  unfold mixI mixJ
                  by_cases e : b < j + 1
                  · rw [if_pos e, if_pos (by omega)]
                  · rw [if_neg e, if_neg (by omega)]
                case measure => simp [intOf]; omega
      · obtain rfl : j = n + 1 := by omega
        have i3 : ¬ ((n : Int) + 1 < (n : Int) + 1) := by omega
        obtain ⟨cz, hcz⟩ : ∃ cz, cz = cellsOf wr (w.heap.size + 1) := ⟨_, rfl⟩
        have hlen2 : cz.length = 350 := by rw [hcz]; exact cellsOf_length _ _
        have HZR : Hid (wr.rangeAt (w.heap.size + 1) 0 cz) := by rw [hcz]; exact cellsOf_range hSr
        have hsx2 : IsSx cz.toArray m n (mixJ C r c (n + 1)) (Cov.pivB B r c) bar := by rw [hcz]; exact isSx_of hSr
        have HZO := hid hsx2.one
        have HZT : Hid (wr.there w.heap.size 0 cz.toArray.size) := by
          rw [show cz.toArray.size = 350 by simpa using hlen2]; exact hTr
        have HZI : Hid ((Try.prog.info? 120).map (·.size) = some cz.length) := by
          show _ = _
          rw [hlen2]; exact infoSx
        have HZJ : Hid ((Try.prog.info? 120).map (·.size) = some cz.toArray.size) := by
          show _ = _
          rw [show cz.toArray.size = 350 by simpa using hlen2]; exact infoSx
        clear hcz
        have HZL := hid hlen2
        clear hlen2
        go_wp2_with (first | (refine wpList_load_mid rfl 120 _ rfl (w.heap.size + 1) 0 (by rfl) cz _ (by exact HZR.out) Try.underlying120 (by rfl) (by exact HZI.out) ?_) | (refine wpList_store_mid rfl 120 _ _ rfl w.heap.size 0 cz.toArray (by rfl) (by rfl) (by exact HZT.out) (by exact HZJ.out) (by exact HZO.out) ?_))
        have hfin : IsSx cz.toArray m n (Cov.pivT C r c) (Cov.pivB B r c) bar := ⟨hsx2.1, ⟨hsx2.2.rows, hsx2.2.cols, fun a b ha hb => (hsx2.2.num a b ha hb).trans (by unfold mixJ; rw [if_pos (by omega)]), fun a b ha hb => (hsx2.2.den a b ha hb).trans (by unfold mixJ; rw [if_pos (by omega)]), hsx2.2.bas, hsx2.2.bars, hsx2.2.one, hsx2.2.mle, hsx2.2.nle⟩⟩
        have hr6 : (wr.setCells w.heap.size 0 cz.toArray.toList).rangeAt w.heap.size 0 cz := by
          have := World.rangeAt_setCells_same wr w.heap.size 0 cz.toArray.toList (by have := HZT.out; simpa using this)
          simpa using this
        refine bodyPost_ret (v := .agg cz.toArray) (results_cell_mid Try.results117 _ _ w.heap.size cz _ (by rfl) hr6 Try.underlying120 (by rfl) HZI.out) rfl ⟨_, rfl, hfin, below_setCells (Nat.le_refl _) _ _ _ hBr⟩

end Go.Proofs.Ytnmcgbfhgmmcpaa
