import Derived.Deep.CutBlock
import Derived.Deep.DeepCutAuto
import Derived.Deep.LoopGhost
import Derived.Deep.RegionHeld3
import Derived.Test.YtkponghbekpocaaGreatDoorRg11
import Derived.Test.YtkponghbekpocaaGreatDoorRg15
import Derived.Test.YtkponghbekpocaaGreatDoorRg16
import Derived.Test.YtkponghbekpocaaGreatDoorRg29
import Derived.Test.YtkponghbekpocaaGreatDoorRg31
import Derived.Test.YtkponghbekpocaaGreatDoorRg32
import Derived.Test.YtkponghbekpocaaGreatDoorRg33
import Derived.Test.YtkponghbekpocaaGreatDoorRg35
import Derived.Test.YtkponghbekpocaaGreatDoorRg38
import Derived.Test.YtkponghbekpocaaGreatDoorRg39
import Derived.Test.YtkponghbekpocaaGreatDoorRg41
import Derived.Test.YtkponghbekpocaaGreatDoorRg42
/-
  laws.hQuery: equal queries.
-/
namespace Go.Proofs.YtkponghbekpocaaGreatDoor
open Go.RowKit

set_option maxHeartbeats 8000000 in
set_option maxRecDepth 1000000 in
theorem hQuery_same (w : World) (vh va uh ua : Value) (q : QV) (h : IQ w vh va q) (h' : IQ w uh ua q) (hq : OkQ q) :
    Calls Tryz.prog 11 #[.agg #[.string q.name, vh, .int .i64 q.ring, va], .agg #[.string q.name, uh, .int .i64 q.ring, ua]] w fun e w' => e = .returned (.bool true) ∧ Below w.heap.size w w' := by
  obtain ⟨W1, hW1⟩ : ∃ W1, W1 = (w.alloc (.cells #[.string q.name, vh, .int .i64 q.ring, va] 29)).alloc (.cells #[.string q.name, uh, .int .i64 q.ring, ua] 29) := ⟨_, rfl⟩
  have hb1 : Below w.heap.size w W1 := by rw [hW1]; exact ((Below.refl _ _).alloc (Nat.le_refl _) _).alloc (by simp) _
  have p0 : W1.cell? ⟨w.heap.size, 0, none⟩ = some (.string q.name) := by rw [hW1, World.cell?_alloc_past _ _ _ (by simp), World.cell?_alloc_at _ _ _ _ rfl]; rfl
  have p1 : W1.cell? ⟨w.heap.size, 1, none⟩ = some vh := by rw [hW1, World.cell?_alloc_past _ _ _ (by simp), World.cell?_alloc_at _ _ _ _ rfl]; rfl
  have p2 : W1.cell? ⟨w.heap.size, 2, none⟩ = some (.int .i64 q.ring) := by rw [hW1, World.cell?_alloc_past _ _ _ (by simp), World.cell?_alloc_at _ _ _ _ rfl]; rfl
  have p3 : W1.cell? ⟨w.heap.size, 3, none⟩ = some va := by rw [hW1, World.cell?_alloc_past _ _ _ (by simp), World.cell?_alloc_at _ _ _ _ rfl]; rfl
  have r0 : W1.cell? ⟨w.heap.size + 1, 0, none⟩ = some (.string q.name) := by rw [hW1, World.cell?_alloc_at _ _ _ _ (by simp)]; rfl
  have r1 : W1.cell? ⟨w.heap.size + 1, 1, none⟩ = some uh := by rw [hW1, World.cell?_alloc_at _ _ _ _ (by simp)]; rfl
  have r2 : W1.cell? ⟨w.heap.size + 1, 2, none⟩ = some (.int .i64 q.ring) := by rw [hW1, World.cell?_alloc_at _ _ _ _ (by simp)]; rfl
  have r3 : W1.cell? ⟨w.heap.size + 1, 3, none⟩ = some ua := by rw [hW1, World.cell?_alloc_at _ _ _ _ (by simp)]; rfl
  have HB1 := hid hb1
  have h1 := h.below hb1
  have h1' := h'.below hb1
  obtain ⟨⟨a, cap, rfl, hc⟩, ⟨b, cbp, rfl, hd⟩⟩ := h1
  obtain ⟨⟨a', cap', rfl, hc'⟩, ⟨b', cbp', rfl, hd'⟩⟩ := h1'
  have hl1 := hq.len
  have hl2 := hq.alen
  have HO := hid hq.atoms
  obtain ⟨n, hn⟩ : ∃ n, n = q.head.length := ⟨_, rfl⟩
  obtain ⟨m, hm⟩ : ∃ m, m = q.atoms.length := ⟨_, rfl⟩
  rw [← hn] at hc hc' hl1 p1 r1 hW1 ⊢
  rw [← hm] at hd hd' hl2 p3 r3 hW1 HO ⊢
  have HC := hid hc
  have HC' := hid hc'
  have HD := hid hd
  have HD' := hid hd'
  have HP := hid (And.intro p1 (And.intro p3 (And.intro r1 r3)))
  clear hc hc' hd hd' hn hm hq h h' hb1
  have hne : ((n : Int) != (n : Int)) = false := by simp
  have hme : ((m : Int) != (m : Int)) = false := by simp
  have q1 : (!q.name.toList == q.name.toList) = false := by simp
  have q2 : (q.ring != q.ring) = false := by simp
  go_enter Tryz.func11, Tryz.ntmps11
  go_upto_region 1 with fail
  rw [← hW1]
  clear hW1
  go_upto_block 0 with fail
  clear p0 p1 p2 p3 r0 r1 r2 r3
  go_cut [] (fun wx => Hid (∃ d, wx = W1.drewN d))
  case first =>
    go_wp2_with fail
    go_loopw [41] (fun t wr => ∃ j : Nat, j ≤ n ∧ t = .int .i64 j ∧ Hid (∃ d, wr = W1.drewN d)) (fun t _ => n - (intOf t).toNat)
    case atStart => exact ⟨0, Nat.zero_le _, rfl, hid ⟨0, rfl⟩⟩
    case round =>
      obtain ⟨j, hj, rfl, hB⟩ := hrel
      by_cases hjn : j < n
      · have i1 : (j : Int) < (n : Int) := by omega
        obtain ⟨p1, p3, r1, r3⟩ := HP.out
        rcases HC.out with h0 | ⟨b, o, rfl, hcell⟩
        · omega
        · rcases HC'.out with h0 | ⟨b', o', rfl, hcell'⟩
          · omega
          · have c1 : wr.cell? ⟨b, o + j, none⟩ = some (.string (q.head.getD j noTx)) := by obtain ⟨m, rfl⟩ := hB.out; exact hcell j hjn
            have c2 : wr.cell? ⟨b', o' + j, none⟩ = some (.string (q.head.getD j noTx)) := by obtain ⟨m, rfl⟩ := hB.out; exact hcell' j hjn
            have c3 : wr.cell? ⟨w.heap.size, 1, none⟩ = some (.slice (some ⟨b, o, none⟩) n cap) := by obtain ⟨m, rfl⟩ := hB.out; exact p1
            have c4 : wr.cell? ⟨w.heap.size + 1, 1, none⟩ = some (.slice (some ⟨b', o', none⟩) n cap') := by obtain ⟨m, rfl⟩ := hB.out; exact r1
            obtain ⟨x, hx⟩ : ∃ x, x = q.head.getD j noTx := ⟨_, rfl⟩
            rw [← hx] at c1 c2
            have hxx : (!x.toList == x.toList) = false := by simp
            clear hcell hcell' hx p1 p3 r1 r3
            go_wp2_with fail
            go_quiet (fail)
            go_wp2
            go_roundw
            case rel => exact ⟨j + 1, by omega, by go_num, hid (drewN_step _ hB.out)⟩
            case measure => simp [intOf]; omega
      · obtain rfl : j = n := by omega
        have i1 : ¬ ((j : Int) < (j : Int)) := by omega
        go_wp2
        go_meet
        exact hB
  case rest =>
  have HX : Hid (∀ wr, (∃ d, wr = W1.drewN d) → wr.cell? ⟨w.heap.size, 3, none⟩ = some (.slice b m cbp) ∧ wr.cell? ⟨w.heap.size + 1, 3, none⟩ = some (.slice b' m cbp')) := hid fun wr h => by
    obtain ⟨d, rfl⟩ := h
    exact ⟨HP.out.2.1, HP.out.2.2.2⟩
  obtain ⟨p3, r3⟩ := HX.out _ hcut.out
  generalize wc = W2 at *
  go_wp2_with fail
  clear p3 r3
  go_loopw [59] (fun t wr => ∃ j : Nat, j ≤ m ∧ t = .int .i64 j ∧ Hid (∃ d, wr = W1.drewN d)) (fun t _ => m - (intOf t).toNat)
  case atStart => exact ⟨0, Nat.zero_le _, rfl, hcut⟩
  case round =>
    clear hcut
    obtain ⟨j, hj, rfl, hB⟩ := hrel
    by_cases hjn : j < m
    · have i1 : (j : Int) < (m : Int) := by omega
      rcases HD.out with h0 | ⟨b, o, rfl, hat⟩
      · omega
      · rcases HD'.out with h0 | ⟨b', o', rfl, hat'⟩
        · omega
        · obtain ⟨p3, r3⟩ := HX.out _ hB.out
          obtain ⟨u, c0, c1, hit⟩ := hat j hjn
          obtain ⟨u', c0', c1', hit'⟩ := hat' j hjn
          obtain ⟨t1, tc, rfl, htc⟩ := hit
          obtain ⟨t1', tc', rfl, htc'⟩ := hit'
          have hnt := (HO.out j hjn).len
          have HT := hid htc
          have HT' := hid htc'
          have HA : Hid (∀ wr, (∃ d, wr = W1.drewN d) → wr.cell? ⟨b, o + j * 2, none⟩ = some (.string (q.atoms.getD j noAt).1) ∧ wr.cell? ⟨b, o + j * 2 + 1, none⟩ = some (.slice t1 (q.atoms.getD j noAt).2.length tc) ∧ wr.cell? ⟨b', o' + j * 2, none⟩ = some (.string (q.atoms.getD j noAt).1) ∧ wr.cell? ⟨b', o' + j * 2 + 1, none⟩ = some (.slice t1' (q.atoms.getD j noAt).2.length tc')) := hid fun wr h => by
            obtain ⟨d, rfl⟩ := h
            exact ⟨c0, c1, c0', c1'⟩
          clear c0 c1 c0' c1' htc htc' hat hat'
          obtain ⟨c0, c1, c0', c1'⟩ := HA.out _ hB.out
          generalize (q.atoms.getD j noAt).1 = nm at *
          generalize (q.atoms.getD j noAt).2 = ts at *
          obtain ⟨nt, hnt'⟩ : ∃ nt, nt = ts.length := ⟨_, rfl⟩
          rw [← hnt'] at HA HT HT' hnt c1 c1'
          have hxx : (!nm.toList == nm.toList) = false := by simp
          have hte : ((nt : Int) != (nt : Int)) = false := by simp
          clear hnt'
          go_upto_region 12 with fail
          go_quiet (fail)
          have hB3 : Hid (∃ d, wr.drewN nq = W1.drewN d) := hid (drewN_step nq hB.out)
          obtain ⟨p3a, r3a⟩ := HX.out _ hB3.out
          obtain ⟨c0a, c1a, c0b, c1b⟩ := HA.out _ hB3.out
          clear p3 r3 c0 c1 c0' c1'
          generalize wr.drewN nq = wr3 at *
          go_wp2_with fail
          clear p3a r3a c0a c1a c0b c1b
          go_loopw [99] (fun t wr => ∃ k : Nat, k ≤ nt ∧ t = .int .i64 k ∧ Hid (∃ d, wr = W1.drewN d)) (fun t _ => nt - (intOf t).toNat)
          case atStart => exact ⟨0, Nat.zero_le _, rfl, hB3⟩
          case round =>
            obtain ⟨k, hk, rfl, hB4⟩ := hrel
            by_cases hkn : k < nt
            · have i2 : (k : Int) < (nt : Int) := by omega
              rcases HT.out with h0 | ⟨bt', ot, rfl, hcell⟩
              · omega
              · rcases HT'.out with h0 | ⟨bu, ou, rfl, hcell'⟩
                · omega
                · obtain ⟨p3, r3⟩ := HX.out _ hB4.out
                  obtain ⟨c0, c1, c0', c1'⟩ := HA.out _ hB4.out
                  have d0 : wr.cell? ⟨bt', ot + k * 2, none⟩ = some (.string (ts.getD k noTm).1) ∧ wr.cell? ⟨bt', ot + k * 2 + 1, none⟩ = some (.int .i64 (ts.getD k noTm).2) := by obtain ⟨d, rfl⟩ := hB4.out; exact hcell k hkn
                  have d1 : wr.cell? ⟨bu, ou + k * 2, none⟩ = some (.string (ts.getD k noTm).1) ∧ wr.cell? ⟨bu, ou + k * 2 + 1, none⟩ = some (.int .i64 (ts.getD k noTm).2) := by obtain ⟨d, rfl⟩ := hB4.out; exact hcell' k hkn
                  obtain ⟨d0, d0'⟩ := d0
                  obtain ⟨d1, d1'⟩ := d1
                  generalize (ts.getD k noTm).1 = x at *
                  generalize (ts.getD k noTm).2 = y at *
                  clear hcell hcell'
                  have hx1 : (x.toList == x.toList) = true := by simp
                  have hy1 : (y == y) = true := by simp
                  go_upto_region 17 with fail
                  go_quiet (fail)
                  go_wp2_with fail
                  go_roundw
                  case rel => exact ⟨k + 1, by omega, by go_num, hid (drewN_step _ hB4.out)⟩
                  case measure => simp [intOf]; omega
            · obtain rfl : k = nt := by omega
              have i2 : ¬ ((k : Int) < (k : Int)) := by omega
              go_wp2_with fail
              go_roundw
              case rel => exact ⟨j + 1, by omega, by go_num, hB4⟩
              case measure => simp [intOf]; omega
    · obtain rfl : j = m := by omega
      have i1 : ¬ ((j : Int) < (j : Int)) := by omega
      go_wp2
      go_ret
      obtain ⟨d, rfl⟩ := hB.out
      exact ⟨rfl, below_drewN HB1.out d⟩

end Go.Proofs.YtkponghbekpocaaGreatDoor

/-
  All parts of the law.
-/
namespace Go.Proofs.YtkponghbekpocaaGreatDoor
open Go.RowKit
end Go.Proofs.YtkponghbekpocaaGreatDoor

/-
  laws.FnRound, walked; what spec.DrawChecked does is a premise (DrwC).
-/
namespace Go.Proofs.YtkponghbekpocaaGreatDoor
open Go.RowKit

/-- the drawn data and query -/
def dsC (L : Nat → Int) (n : Nat) : List RelV := (drawD L n (0, 0)).1
def qC (L : Nat → Int) (n : Nat) : QV := chkQ (dsC L n) (drawQ L n (dsC L n) (drawD L n (0, 0)).2).1
/-- the code's bytes -/
def Cod (w : World) (a : Option Addr) (L : Nat → Int) (n : Nat) : Prop := ∀ j, j < n → ∃ b o, a = some ⟨b, o, none⟩ ∧ w.cell? ⟨b, o + j, none⟩ = some (.int .u8 (L j)) ∧ 0 ≤ L j ∧ L j < 256
theorem Cod.below {w w' : World} {a : Option Addr} {L : Nat → Int} {n : Nat} (h : Cod w a L n) (hb : Below w.heap.size w w') : Cod w' a L n := fun j hj => by
  obtain ⟨b, o, e, hc, hx⟩ := h j hj
  exact ⟨b, o, e, (hb.cell (p := ⟨b, o + j, none⟩) (World.block_lt_of_cell? w _ hc)).trans hc, hx⟩
/-- how DrawChecked ends -/
def DrwE (w : World) (ds : List RelV) (q : QV) (e : Ending) (w' : World) : Prop := ∃ a0 c0 gh ch a1 c1, e = .returned (.tuple #[.agg #[.slice a0 ds.length c0], .agg #[.string q.name, .slice (some ⟨gh, 0, none⟩) q.head.length ch, .int .i64 q.ring, .slice a1 q.atoms.length c1]]) ∧ Below w.heap.size w w' ∧ IRelS w' (.slice a0 ds.length c0) ds ∧ IQ w' (.slice (some ⟨gh, 0, none⟩) q.head.length ch) (.slice a1 q.atoms.length c1) q ∧ gh < w'.heap.size ∧ q.head.length ≤ ch
def DrwC : Prop := ∀ (w : World) (a : Option Addr) (n cap : Nat) (L : Nat → Int), n ≤ 1048576 → Cod w a L n → Calls Tryz.prog 5 #[.slice a n cap] w (DrwE w (dsC L n) (qC L n))

theorem okq_of {q : QV} (h : shapeB q = true) (ha : AtsG q.atoms) (hh : q.head.length ≤ 15) : OkQ q := by
  unfold shapeB at h
  simp only [Bool.and_eq_true, decide_eq_true_eq, List.all_eq_true] at h
  obtain ⟨⟨⟨⟨⟨h1, h2⟩, h3⟩, h4⟩, h5⟩, h6⟩ := h
  have hm : ∀ j, j < q.atoms.length → q.atoms.getD j noAt ∈ q.atoms := fun j hj => by rw [List.getD_eq_getElem?_getD, List.getElem?_eq_getElem hj]; exact List.getElem_mem hj
  refine ⟨by have := name_len h1; omega, by omega, fun j hj => ?_, by have := ha.few; omega, fun j hj => ?_⟩
  · have : q.head.getD j noTx ∈ q.head := by rw [List.getD_eq_getElem?_getD, List.getElem?_eq_getElem hj]; exact List.getElem_mem hj
    have := name_len (h5 _ this)
    omega
  · obtain ⟨g1, g2⟩ := ha.ok _ (hm j hj)
    unfold atomB at g1
    simp only [Bool.and_eq_true, decide_eq_true_eq, List.all_eq_true] at g1
    refine ⟨by have := name_len g1.1.1; omega, by omega, fun k hk => ?_⟩
    have hk2 : (q.atoms.getD j noAt).2.getD k noTm ∈ (q.atoms.getD j noAt).2 := by rw [List.getD_eq_getElem?_getD (l := (q.atoms.getD j noAt).2), List.getElem?_eq_getElem hk]; exact List.getElem_mem hk
    have := g1.2 _ hk2
    unfold termB at this
    split at this
    · rename_i he
      have : ((q.atoms.getD j noAt).2.getD k noTm).1.size = 0 := by
        rw [ByteArray.toList_eq] at he
        have h9 := List.isEmpty_iff.1 he
        have h8 : ((q.atoms.getD j noAt).2.getD k noTm).1.data.toList.length = ((q.atoms.getD j noAt).2.getD k noTm).1.size := by simp
        rw [h9] at h8
        simpa using h8.symm
      omega
    · rw [Bool.and_eq_true] at this
      have := name_len this.1
      omega
theorem okr_of {ds : List RelV} (h : dataB ds = true) : OkRels ds := by
  obtain ⟨h1, h2⟩ := gr_of h
  refine ⟨by omega, fun j => ?_⟩
  by_cases hj : j < ds.length
  · have g := h2 j hj
    refine ⟨by have := g.nz; omega, ⟨by have := g.n; omega, fun k => ?_⟩, by rw [g.wl]; have := g.n; omega⟩
    by_cases hk : k < (ds.getD j noRel).rows.length
    · have := (g.row k hk).1; omega
    · rw [List.getD_eq_getElem?_getD, List.getElem?_eq_none (by omega)]; exact Nat.zero_le _
  · rw [List.getD_eq_getElem?_getD, List.getElem?_eq_none (by omega)]
    refine ⟨Nat.zero_le _, ⟨Nat.zero_le _, fun k => ?_⟩, Nat.zero_le _⟩
    rw [List.getD_eq_getElem?_getD]; exact Nat.zero_le _
theorem dq_irels {W : World} {B : Nat} {v : Value} {ds : List RelV} {vr vw : Nat → Value} {us : Nat → List Value} {lo hi : Nat → Nat} (h : DQ W B v ds vr vw us lo hi) : IRelS W v ds := by
  rcases h.own.2 with ⟨rfl, hn⟩ | ⟨g, cap, cur, rfl, hx⟩
  · exact ⟨none, 0, by rw [hn], Or.inl hn⟩
  · refine ⟨_, cap, rfl, Or.inr ⟨g, 0, rfl, fun j hj => ?_⟩⟩
    have hc : ∀ x, x < 4 → W.cell? ⟨g, j * 4 + x, none⟩ = (relC (ds.getD j noRel) (vr j) (vw j))[x]? := fun x hx => by
      rw [h.own.cellAt _ (by omega), flat4 _ (fun _ => rfl) _ j x hj hx]
    rw [Nat.zero_add]
    refine ⟨vr j, vw j, hc 0 (by decide), hc 1 (by decide), hc 2 (by decide), hc 3 (by decide), ?_, own_is (h.ow j hj)⟩
    have hq := h.rq j hj
    rcases hq.own.2 with ⟨e, hn⟩ | ⟨g2, cap2, cur2, e, -, -, h1, -⟩
    · exact ⟨none, 0, by rw [e, hn], Or.inl hn⟩
    · refine ⟨_, cap2, e, Or.inr ⟨g2, 0, rfl, fun m hm => ⟨(us j).getD m undef, ?_, own_is (hq.each m hm)⟩⟩⟩
      obtain ⟨g3, cap3, e3, -, hc3⟩ := hq.get hm
      rw [e] at e3
      simp only [Value.slice.injEq, Option.some.injEq, Addr.mk.injEq, true_and, and_true] at e3
      rw [Nat.zero_add, e3.1]
      exact hc3
/-- the program reads what it printed: data -/
theorem parse_printed {ds : List RelV} (h : dataB ds = true) (hl : (datT ds ds.length).length ≤ 60000) {w w' : World} {e : Ending} (hp : ParE w (datT ds ds.length) e w') : ∃ a c, e = .returned (.tuple #[.agg #[.slice a ds.length c], .int .i64 0]) ∧ Below w.heap.size w w' ∧ IRelS w' (.slice a ds.length c) ds := by
  obtain ⟨st, h1, h2, h3⟩ := data_round h
  obtain ⟨hb, hp⟩ := hp
  rcases hp with ⟨h9, -⟩ | ⟨-, k, hk, -, h9, -⟩ | ⟨-, st', h4, v, ds', vr, vw, us, lo, hi, rfl, h5, h6⟩
  · omega
  · exfalso
    have hno : ∀ m, prT (spl 10 (datT ds ds.length)) (k + 1 + m) = none := fun m => by
      induction m with
      | zero => exact h9
      | succ m ih => show (prT _ (k + 1 + m)).bind _ = none; rw [ih]; rfl
    have := hno ((spl 10 (datT ds ds.length)).length - (k + 1))
    rw [show k + 1 + ((spl 10 (datT ds ds.length)).length - (k + 1)) = (spl 10 (datT ds ds.length)).length by omega, h1] at this
    cases this
  · rw [h1] at h4
    cases h4
    have e : ds' = ds := by
      refine List.ext_getElem (by rw [h5.1, h2.1]) fun i g1 g2 => ?_
      have hi1 : i < st.length := by rw [← h5.1]; exact g1
      have := relOf_uniq (h3 i hi1) (h5.2 i hi1) (h2.2 i hi1)
      rw [List.getD_eq_getElem?_getD, List.getElem?_eq_getElem g1, List.getD_eq_getElem?_getD, List.getElem?_eq_getElem g2] at this
      exact this
    subst e
    have hI := dq_irels h6
    obtain ⟨a, c, rfl, -⟩ := hI
    exact ⟨a, c, rfl, hb, dq_irels h6⟩
/-- and a query -/
theorem parse_query {q : QV} (h : shapeB q = true) (hl : (prqT q).length ≤ 3000) {w w' : World} {e : Ending} (hp : PqE w ⟨(prqT q).toArray⟩ e w') : ∃ a1 c1 a2 c2, e = .returned (.tuple #[.agg #[.string q.name, .slice a1 q.head.length c1, .int .i64 q.ring, .slice a2 q.atoms.length c2], .int .i64 0, .int .i64 0]) ∧ Below w.heap.size w w' ∧ IQ w' (.slice a1 q.head.length c1) (.slice a2 q.atoms.length c2) q := by
  have e1 := pq_round h hl
  obtain ⟨nm, x, hd, r, y, us, rfl, hq, hb, e⟩ := hp
  have e2 : pqQ ⟨(prqT q).toArray⟩ = q := by unfold pqQ; rw [e1]; rfl
  rw [e2] at e
  subst e
  rw [e1]
  have hi := hq.is (nm := nm) (r := r)
  obtain ⟨a1, c1, rfl, -⟩ := hi.head
  obtain ⟨a2, c2, rfl, -⟩ := hi.atoms
  exact ⟨a1, c1, a2, c2, rfl, hb, hi⟩

end Go.Proofs.YtkponghbekpocaaGreatDoor

/-
  spec.DrawChecked; what l2DrawData and l3DrawQuery do are premises.
-/
namespace Go.Proofs.YtkponghbekpocaaGreatDoor
open Go.RowKit

/-- what l2DrawData does (drawData_calls) -/
def DrwDC : Prop := ∀ (w : World) (g : Nat) (a : Option Addr) (L : Nat → Int) (n cap : Nat) (s0 : CSt), RdF w g a L n cap s0 → n ≤ 1048576 → s0.1 ≤ 1000000 →
    Calls Tryz.prog 14 #[.pointer (some ⟨g, 0, none⟩)] w fun e w' => ∃ v vr vw us, e = .returned (.agg #[v]) ∧ Dr w w' g a L n cap (drawD L n s0).2 ∧ SQ w' w.heap.size v (drawD L n s0).1 vr vw us ∧ ApD (drawD L n s0).1.length vw us
/-- how DrawChecked ends, the data's lists with their blocks -/
def DrwEA (w : World) (ds : List RelV) (q : QV) (e : Ending) (w' : World) : Prop := ∃ (a0 : Option Addr) (c0 gh ch : Nat) (a1 : Option Addr) (c1 : Nat) (vr vw : Nat → Value) (us : Nat → List Value), e = .returned (.tuple #[.agg #[.slice a0 ds.length c0], .agg #[.string q.name, .slice (some ⟨gh, 0, none⟩) q.head.length ch, .int .i64 q.ring, .slice a1 q.atoms.length c1]]) ∧ Below w.heap.size w w' ∧ SQ w' w.heap.size (.slice a0 ds.length c0) ds vr vw us ∧ ApD ds.length vw us ∧ IQ w' (.slice (some ⟨gh, 0, none⟩) q.head.length ch) (.slice a1 q.atoms.length c1) q ∧ gh < w'.heap.size ∧ q.head.length ≤ ch
def DrwCA : Prop := ∀ (w : World) (a : Option Addr) (n cap : Nat) (L : Nat → Int), n ≤ 1048576 → Cod w a L n → Calls Tryz.prog 5 #[.slice a n cap] w (DrwEA w (dsC L n) (qC L n))
theorem DrwEA.plain {w : World} {ds : List RelV} {q : QV} {e : Ending} {w' : World} (h : DrwEA w ds q e w') : DrwE w ds q e w' := by
  obtain ⟨a0, c0, gh, ch, a1, c1, vr, vw, us, h1, h2, h3, -, h5, h6, h7⟩ := h
  exact ⟨a0, c0, gh, ch, a1, c1, h1, h2, h3.irels, h5, h6, h7⟩
/-- what l3DrawQuery does -/
def DrwQC : Prop := ∀ (w : World) (g : Nat) (a : Option Addr) (L : Nat → Int) (n cap : Nat) (s0 : CSt) (m : Nat) (ds : List RelV) (v : Value), RdF w g a L n cap s0 → n ≤ 1048576 → s0.1 ≤ 1000000 → DatG m ds → 0 < m → m ≤ 4 → IRelS w v ds → (∀ w', Kc g w w' → IRelS w' v ds) →
    Calls Tryz.prog 15 #[.pointer (some ⟨g, 0, none⟩), .agg #[v]] w fun e w' => ∃ a1 c1 a2 c2, e = .returned (.agg #[.string (drawQ L n ds s0).1.name, .slice a1 (drawQ L n ds s0).1.head.length c1, .int .i64 (drawQ L n ds s0).1.ring, .slice a2 (drawQ L n ds s0).1.atoms.length c2]) ∧ (drawQ L n ds s0).1.atoms.length ≤ c2 ∧ Kc g w w' ∧ (∀ w'', (∀ b, w.heap.size ≤ b → b < w'.heap.size → w''.heap[b]? = w'.heap[b]?) → IQ w'' (.slice a1 (drawQ L n ds s0).1.head.length c1) (.slice a2 (drawQ L n ds s0).1.atoms.length c2) (drawQ L n ds s0).1) ∧ ∀ a ∈ (drawQ L n ds s0).1.atoms, ∃ z : Nat, z < ds.length ∧ a.1 = (ds.getD z noRel).name

theorem IAt.take {w : World} {a : Option Addr} {k cap : Nat} {l : List AtomV} (h : IAt w (.slice a l.length cap) l) (hk : k ≤ l.length) (cap' : Nat) : IAt w (.slice a k cap') (l.take k) := by
  obtain ⟨a', cp, e, hc⟩ := h
  simp only [Value.slice.injEq] at e
  obtain ⟨rfl, -, -⟩ := e
  have hl : (l.take k).length = k := by rw [List.length_take]; omega
  refine ⟨a, cap', by rw [hl], ?_⟩
  rw [hl]
  rcases hc with h0 | ⟨b, o, rfl, hc⟩
  · exact Or.inl (by omega)
  · refine Or.inr ⟨b, o, rfl, fun j hj => ?_⟩
    have e : (l.take k).getD j noAt = l.getD j noAt := by rw [List.getD_eq_getElem?_getD, List.getElem?_take_of_lt hj, ← List.getD_eq_getElem?_getD]
    rw [e]
    exact hc j (by omega)
theorem prodQ_lt {m : Nat} {ds : List RelV} (hd : DatG m ds) (ats : List AtomV) {i : Nat} (h : prodQ ds ats i ≤ 30000) : prodQ ds ats (i + 1) ≤ 450000 := by
  show prodQ ds ats i * (rwsQ ds (ats.getD i noAt).1 + 1) ≤ _
  have := rwsQ_le hd (ats.getD i noAt).1
  exact Nat.le_trans (Nat.mul_le_mul h (show rwsQ ds (ats.getD i noAt).1 + 1 ≤ 15 by omega)) (by decide)
/-- where the cut is -/
theorem cutK_at {ds : List RelV} {ats : List AtomV} {i : Nat} (hi : i < ats.length) (hno : ∀ j, j < i → ¬ 30000 < prodQ ds ats (j + 1)) (h : 30000 < prodQ ds ats (i + 1)) : cutK ds ats = i := by
  unfold cutK
  rw [List.findIdx_eq (by rw [List.length_range]; exact hi)]
  refine ⟨by rw [List.getElem_range, decide_eq_true_eq]; exact h, fun j hj => ?_⟩
  rw [List.getElem_range, decide_eq_false_iff_not]
  exact hno j hj
theorem cutK_end {ds : List RelV} {ats : List AtomV} (hno : ∀ j, j < ats.length → ¬ 30000 < prodQ ds ats (j + 1)) : cutK ds ats = ats.length := by
  unfold cutK
  have h : (List.range ats.length).findIdx (fun i => decide (30000 < prodQ ds ats (i + 1))) = (List.range ats.length).length := by
    rw [List.findIdx_eq_length]
    intro j hj
    rw [decide_eq_false_iff_not]
    exact hno j (List.mem_range.1 hj)
  rw [h, List.length_range]
/-- the place that l2Rel finds -/
theorem rel_ix {ds : List RelV} {nm : ByteArray} {z : Int} (h : RelIx ds nm z) (he : ∃ j : Nat, j < ds.length ∧ nm = (ds.getD j noRel).name) : ∃ k : Nat, z = k ∧ k < ds.length ∧ (ds.getD k noRel).rows.length = rwsQ ds nm := by
  rcases h with ⟨-, h⟩ | ⟨k, rfl, hk, h1, h2⟩
  · obtain ⟨j, hj, rfl⟩ := he
    have := h j hj
    simp at this
  · refine ⟨k, rfl, hk, ?_⟩
    have e : ds.findIdx (fun r => r.name.toList == nm.toList) = k := by
      rw [List.findIdx_eq hk]
      have hg : ∀ i (hi : i < ds.length), ds[i] = ds.getD i noRel := fun i hi => by rw [List.getD_eq_getElem?_getD, List.getElem?_eq_getElem hi]; rfl
      refine ⟨by rw [hg k hk]; exact h1, fun i hi => ?_⟩
      rw [hg i (by omega)]
      exact h2 i hi
    unfold rwsQ
    rw [e]
theorem filter_take {α : Type} (p : α → Bool) (l : List α) (d : α) {i : Nat} (h : i < l.length) : (l.take (i + 1)).filter p = (l.take i).filter p ++ (if p (l.getD i d) then [l.getD i d] else []) := by
  rw [List.take_add_one, List.getElem?_eq_getElem h, List.filter_append, List.getD_eq_getElem?_getD, List.getElem?_eq_getElem h]
  show _ ++ [l[i]].filter p = _ ++ (if p l[i] then [l[i]] else [])
  cases e : p l[i] <;> simp [e]
theorem cod_start {W : World} {a : Option Addr} {L : Nat → Int} {n cap : Nat} (hB : Cod W a L n) : RdF (W.alloc (.cells #[.slice a n cap, .int .i64 0, .int .i64 0] 50)) W.heap.size a L n cap (0, 0) := by
  have hup : ∀ {b o : Nat} {v : Value}, W.cell? ⟨b, o, none⟩ = some v → (W.alloc (.cells #[.slice a n cap, .int .i64 0, .int .i64 0] 50)).cell? ⟨b, o, none⟩ = some v := fun {b o v} hc => (((Below.refl W.heap.size W).alloc (Nat.le_refl _) _).cell (p := ⟨b, o, none⟩) (World.block_lt_of_cell? W _ hc)).trans hc
  refine ⟨⟨by simp, by simp, by simp, by simp, by simp, fun j hj => ?_, by decide⟩, fun j hj b o e => ?_⟩
  · obtain ⟨b, o, e, hc, hx⟩ := hB j hj
    have hlt' : b < W.heap.size := World.block_lt_of_cell? W _ hc
    exact ⟨b, o, L j, e, by omega, hup hc, hx⟩
  · obtain ⟨b', o', e', hc, -⟩ := hB j hj
    rw [e] at e'
    cases e'
    exact hup hc

theorem okq_gen {q : QV} (h1 : q.name.size ≤ 1048576) (h5 : ∀ x ∈ q.head, nameB x = true) (ha : AtsG q.atoms) (hh : q.head.length ≤ 15) : OkQ q := by
  have hs : shapeB ⟨⟨#[113]⟩, q.head, 0, q.atoms⟩ = true := by
    unfold shapeB
    simp only [Bool.and_eq_true, decide_eq_true_eq, List.all_eq_true]
    exact ⟨⟨⟨⟨⟨by decide, by decide⟩, by decide⟩, ha.pos⟩, h5⟩, fun a h => (ha.ok a h).1⟩
  have := okq_of hs ha hh
  exact ⟨h1, this.len, this.head, this.alen, this.atoms⟩
theorem boxq_cells {W : World} {p : Nat} {x0 x1 x2 x3 : Value} {t : TypeId} (h : W.heap[p]? = some (.cells #[x0, x1, x2, x3] t (0, 0))) : W.cell? ⟨p, 0, none⟩ = some x0 ∧ W.cell? ⟨p, 1, none⟩ = some x1 ∧ W.cell? ⟨p, 2, none⟩ = some x2 ∧ W.cell? ⟨p, 3, none⟩ = some x3 ∧ W.frozen? ⟨p, 0, none⟩ = false ∧ W.frozen? ⟨p, 1, none⟩ = false ∧ W.frozen? ⟨p, 2, none⟩ = false ∧ W.frozen? ⟨p, 3, none⟩ = false := by
  have hf : ∀ o, W.frozen? ⟨p, o, none⟩ = false := fun o => by unfold World.frozen?; rw [show W.heap[p]? = _ from h]; simp
  refine ⟨?_, ?_, ?_, ?_, hf 0, hf 1, hf 2, hf 3⟩ <;> (rw [cell_of_row _ _ _ _ _ _ h]; rfl)
theorem upcF {X Y : World} {b o : Nat} {v : Value} (hb : Below X.heap.size X Y) (hc : X.cell? ⟨b, o, none⟩ = some v) : Y.cell? ⟨b, o, none⟩ = some v := (hb.cell (p := ⟨b, o, none⟩) (World.block_lt_of_cell? X _ hc)).trans hc
theorem one_newF (w1 : World) (x : Value) : Below w1.heap.size w1 (w1.alloc (.cells #[x] 25)) ∧ (w1.alloc (.cells #[x] 25)).cell? ⟨w1.heap.size, 0, none⟩ = some x :=
  ⟨(Below.refl _ _).alloc (Nat.le_refl _) _, by rw [World.cell?_alloc_at _ _ _ _ rfl]; rfl⟩

theorem SQ.baseC {W : World} {B B' : Nat} {v : Value} {ds : List RelV} {vr vw : Nat → Value} {us : Nat → List Value} (h : SQ W B v ds vr vw us) (hB : B' ≤ B) : SQ W B' v ds vr vw us :=
  ⟨own_base h.own hB, fun i hi => ⟨own_base (h.rw i hi).own hB, (h.rw i hi).len, fun j hj => own_base ((h.rw i hi).each j hj) hB⟩, fun i hi => own_base (h.ow i hi) hB, h.eq, h.nil⟩
theorem SQ.agree {W W' : World} {B : Nat} {v : Value} {ds : List RelV} {vr vw : Nat → Value} {us : Nat → List Value} (h : SQ W B v ds vr vw us) (hk : ∀ b, B ≤ b → b < W.heap.size → W'.heap[b]? = W.heap[b]?) : SQ W' B v ds vr vw us :=
  have mv : ∀ {e : TypeId} {s : Nat} {x : Value} {k : Nat} {xs : List Value}, W.ownsRow B e s x k xs → W'.ownsRow B e s x k xs := fun hx => own_move hx fun g hg => hk g (hx.lt g hg).1 (hx.lt g hg).2
  ⟨mv h.own, fun i hi => ⟨mv (h.rw i hi).own, (h.rw i hi).len, fun j hj => mv ((h.rw i hi).each j hj)⟩, fun i hi => mv (h.ow i hi), h.eq, h.nil⟩

end Go.Proofs.YtkponghbekpocaaGreatDoor

/-
  laws.FnRound, walked.
-/
namespace Go.Proofs.YtkponghbekpocaaGreatDoor
open Go.RowKit

theorem two_new (w1 : World) (x y0 y1 y2 y3 : Value) : Below w1.heap.size w1 ((w1.alloc (.cells #[x] 25)).alloc (.cells #[y0, y1, y2, y3] 29)) ∧ ((w1.alloc (.cells #[x] 25)).alloc (.cells #[y0, y1, y2, y3] 29)).cell? ⟨w1.heap.size, 0, none⟩ = some x ∧ ((w1.alloc (.cells #[x] 25)).alloc (.cells #[y0, y1, y2, y3] 29)).cell? ⟨w1.heap.size + 1, 0, none⟩ = some y0 ∧ ((w1.alloc (.cells #[x] 25)).alloc (.cells #[y0, y1, y2, y3] 29)).cell? ⟨w1.heap.size + 1, 1, none⟩ = some y1 ∧ ((w1.alloc (.cells #[x] 25)).alloc (.cells #[y0, y1, y2, y3] 29)).cell? ⟨w1.heap.size + 1, 2, none⟩ = some y2 ∧ ((w1.alloc (.cells #[x] 25)).alloc (.cells #[y0, y1, y2, y3] 29)).cell? ⟨w1.heap.size + 1, 3, none⟩ = some y3 := by
  refine ⟨((Below.refl _ _).alloc (Nat.le_refl _) _).alloc (by simp) _, ?_, ?_, ?_, ?_, ?_⟩
  · rw [World.cell?_alloc_past _ _ _ (by simp), World.cell?_alloc_at _ _ _ _ rfl]; rfl
  all_goals (rw [World.cell?_alloc_at _ _ _ _ (by simp)]; rfl)
theorem four_new (w1 : World) (y0 y1 y2 y3 : Value) : Below w1.heap.size w1 (w1.alloc (.cells #[y0, y1, y2, y3] 29)) ∧ (w1.alloc (.cells #[y0, y1, y2, y3] 29)).cell? ⟨w1.heap.size, 0, none⟩ = some y0 ∧ (w1.alloc (.cells #[y0, y1, y2, y3] 29)).cell? ⟨w1.heap.size, 1, none⟩ = some y1 ∧ (w1.alloc (.cells #[y0, y1, y2, y3] 29)).cell? ⟨w1.heap.size, 2, none⟩ = some y2 ∧ (w1.alloc (.cells #[y0, y1, y2, y3] 29)).cell? ⟨w1.heap.size, 3, none⟩ = some y3 := by
  refine ⟨(Below.refl _ _).alloc (Nat.le_refl _) _, ?_, ?_, ?_, ?_⟩
  all_goals (rw [World.cell?_alloc_at _ _ _ _ rfl]; rfl)
theorem one_new (w1 : World) (x : Value) : Below w1.heap.size w1 (w1.alloc (.cells #[x] 25)) ∧ (w1.alloc (.cells #[x] 25)).cell? ⟨w1.heap.size, 0, none⟩ = some x :=
  ⟨(Below.refl _ _).alloc (Nat.le_refl _) _, by rw [World.cell?_alloc_at _ _ _ _ rfl]; rfl⟩
theorem upc {X Y : World} {b o : Nat} {v : Value} (hb : Below X.heap.size X Y) (hc : X.cell? ⟨b, o, none⟩ = some v) : Y.cell? ⟨b, o, none⟩ = some v := (hb.cell (p := ⟨b, o, none⟩) (World.block_lt_of_cell? X _ hc)).trans hc

set_option maxHeartbeats 8000000 in
set_option maxRecDepth 1000000 in
theorem fnRound_walk (K : DrwC) (w : World) (a : Option Addr) (n cap : Nat) (L : Nat → Int) (hn : n ≤ 9223372036854775807) (hB : n ≤ 1048576 → Cod w a L n) (htab : Lib.TabIs Tryz.prog w "internal/strconv.uint64pow10" .u64 Lib.pow10Tab) (hrw : RgW w) (hrv : RgV w) (hsy : SyV w) (her : ErrQ w) (mx : Int) (hmx : w.cell? ⟨3, 0, none⟩ = some (.int .i64 mx)) :
    Calls Tryz.prog 3 #[.slice a n cap] w fun e w' => e = .returned (.bool true) ∧ Below w.heap.size w w' := by
  by_cases hbig : 1048576 < n
  · have q1 : (1048576 : Int) < (n : Int) := by omega
    clear K hB htab hrw hrv hsy her hmx
    go_enter Tryz.func3, Tryz.ntmps3
    go_wp2
    go_ret
    exact ⟨rfl, Below.refl _ _⟩
  · have q1 : ¬ (1048576 : Int) < (n : Int) := by omega
    have hcod := hB (by omega)
    obtain ⟨hG, hM1, hM4⟩ := drawD_ok L n (0, 0)
    have hdat : dataB (dsC L n) = true := hG.ok (by omega)
    have hshort : (datT (dsC L n) (dsC L n).length).length ≤ 6000 := hG.short (by omega)
    obtain ⟨hshape, hats, hhd⟩ : shapeB (qC L n) = true ∧ AtsG (qC L n).atoms ∧ (qC L n).head.length ≤ 15 := chkQ_ok hG (by omega) L n (drawD L n (0, 0)).2
    have hqs := short_query hshape hats hhd
    have hokq := okq_of hshape hats hhd
    have hokr := okr_of hdat
    have hprt : prtT (dsC L n) = datT (dsC L n) (dsC L n).length := if_pos hdat
    have KD : Hid (∀ W, Below w.heap.size w W → Calls Tryz.prog 5 #[.slice a n cap] W (DrwE W (dsC L n) (qC L n))) := hid fun W hW => K W a n cap L (by omega) (hcod.below hW)
    generalize dsC L n = ds at *
    generalize qC L n = q at *
    have KP : Hid (∀ W a0 c0, Below w.heap.size w W → IRelS W (.slice a0 ds.length c0) ds → Calls Tryz.prog 7 #[.agg #[.slice a0 ds.length c0]] W fun e w' => e = .returned (.string ⟨(datT ds ds.length).toArray⟩) ∧ Below W.heap.size W w') := hid fun W a0 c0 hW hI => by
      have := iPrintData_calls W (.slice a0 ds.length c0) ds hI hokr (tab_below htab hW)
      rw [hprt] at this
      exact this
    have hsz : (⟨(datT ds ds.length).toArray⟩ : ByteArray).size = (datT ds ds.length).length := by simp [ByteArray.size]
    have KR : Hid (∀ W, Below w.heap.size w W → Calls Tryz.prog 6 #[.string ⟨(datT ds ds.length).toArray⟩] W fun e w' => ∃ a c, e = .returned (.tuple #[.agg #[.slice a ds.length c], .int .i64 0]) ∧ Below W.heap.size W w' ∧ IRelS w' (.slice a ds.length c) ds) := hid fun W hW => (iParse_calls W ⟨(datT ds ds.length).toArray⟩ mx (upc hW hmx) (by omega)).mono fun e w' h => parse_printed hdat (by omega) (by simpa using h)
    have KQ : Hid (∀ W gh ch a1 c1, Below w.heap.size w W → IQ W (.slice (some ⟨gh, 0, none⟩) q.head.length ch) (.slice a1 q.atoms.length c1) q → gh < W.heap.size → q.head.length ≤ ch → Calls Tryz.prog 9 #[.agg #[.string q.name, .slice (some ⟨gh, 0, none⟩) q.head.length ch, .int .i64 q.ring, .slice a1 q.atoms.length c1]] W fun e w' => e = .returned (.string ⟨(prqT q).toArray⟩) ∧ Below W.heap.size W w') := hid fun W gh ch a1 c1 hW hI hg hc => iPrintQuery_cap W gh ch _ q hc hI hg hokq (tab_below htab hW) (hrw.below hW)
    have KS : Hid (∀ W, Below w.heap.size w W → Calls Tryz.prog 8 #[.string ⟨(prqT q).toArray⟩] W fun e w' => ∃ a1 c1 a2 c2, e = .returned (.tuple #[.agg #[.string q.name, .slice a1 q.head.length c1, .int .i64 q.ring, .slice a2 q.atoms.length c2], .int .i64 0, .int .i64 0]) ∧ Below W.heap.size W w' ∧ IQ w' (.slice a1 q.head.length c1) (.slice a2 q.atoms.length c2) q) := hid fun W hW => (iParseQ_calls W ⟨(prqT q).toArray⟩ (by rw [show (⟨(prqT q).toArray⟩ : ByteArray).size = (prqT q).length from by simp [ByteArray.size]]; omega) (hsy.below hW) (hrv.below hW) (her.below hW)).mono fun e w' h => parse_query hshape hqs h
    have KH : Hid (∀ W a0 c0 a1 c1, IRelS W (.slice a0 ds.length c0) ds → IRelS W (.slice a1 ds.length c1) ds → Calls Tryz.prog 10 #[.agg #[.slice a0 ds.length c0], .agg #[.slice a1 ds.length c1]] W fun e w' => e = .returned (.bool true) ∧ Below W.heap.size W w') := hid fun W a0 c0 a1 c1 h1 h2 => hData_same W _ _ ds h1 h2 hokr
    have KE : Hid (∀ W a0 c0 a1 c1 a2 c2 a3 c3, IQ W (.slice a0 q.head.length c0) (.slice a1 q.atoms.length c1) q → IQ W (.slice a2 q.head.length c2) (.slice a3 q.atoms.length c3) q → Calls Tryz.prog 11 #[.agg #[.string q.name, .slice a0 q.head.length c0, .int .i64 q.ring, .slice a1 q.atoms.length c1], .agg #[.string q.name, .slice a2 q.head.length c2, .int .i64 q.ring, .slice a3 q.atoms.length c3]] W fun e w' => e = .returned (.bool true) ∧ Below W.heap.size W w') := hid fun W a0 c0 a1 c1 a2 c2 a3 c3 h1 h2 => hQuery_same W _ _ _ _ q h1 h2 hokq
    clear K hB htab hrw hrv hsy her hmx hcod hG hdat hshort hshape hats hhd hqs hokq hokr hprt hsz
    generalize hTD : (⟨(datT ds ds.length).toArray⟩ : ByteArray) = tD at *
    generalize hTQ : (⟨(prqT q).toArray⟩ : ByteArray) = tQ at *
    clear hTD hTQ
    go_enter Tryz.func3, Tryz.ntmps3
    go_upto_region 4 with (first | (go_at_call 5; refine (KD.out w (Below.refl _ _)).mono ?_; rintro e w1 ⟨a0, c0, gh, ch, a1, c1, rfl, hb1, hI1, hQ1, hgh1, hch1⟩) | fail)
    obtain ⟨hb2, d2, x0, x1, x2, x3⟩ := two_new w1 (.slice a0 ds.length c0) (.string q.name) (.slice (some ⟨gh, 0, none⟩) q.head.length ch) (.int .i64 q.ring) (.slice a1 q.atoms.length c1)
    have HBa := hid (bt hb1 hb2)
    have HIa := hid (hI1.below hb2)
    have HQa := hid (hQ1.below hb2)
    have hgha := Nat.lt_of_lt_of_le hgh1 hb2.size
    have hX := And.intro x0 (And.intro x1 (And.intro x2 x3))
    have HX := hid hX
    generalize (w1.alloc (.cells #[.slice a0 ds.length c0] 25)).alloc (.cells #[.string q.name, .slice (some ⟨gh, 0, none⟩) q.head.length ch, .int .i64 q.ring, .slice a1 q.atoms.length c1] 29) = W2 at *
    clear hb1 hI1 hQ1 hgh1 hb2 x0 x1 x2 x3 hX
    generalize w1.heap.size = B1 at *
    go_upto_region 5 with (first | (go_at_call 7; refine (KP.out W2 _ _ HBa.out HIa.out).mono ?_; rintro e w3 ⟨rfl, hb3⟩; have HB3 := hid (bt HBa.out hb3)) | (go_at_call 6; refine (KR.out w3 HB3.out).mono ?_; rintro e w4 ⟨a4, c4, rfl, hb4, hI4⟩) | fail)
    obtain ⟨hb5, d5⟩ := one_new w4 (.slice a4 ds.length c4)
    have hbA := bt hb3 (bt hb4 hb5)
    have HB5 := hid (bt HBa.out hbA)
    have HI5 := hid (hI4.below hb5)
    have HQ5 := hid (HQa.out.below hbA)
    have hgh5 := Nat.lt_of_lt_of_le hgha hbA.size
    obtain ⟨x0, x1, x2, x3⟩ := HX.out
    replace x0 := upc hbA x0
    replace x1 := upc hbA x1
    replace x2 := upc hbA x2
    replace x3 := upc hbA x3
    generalize w4.alloc (.cells #[.slice a4 ds.length c4] 25) = W5 at *
    clear hb3 hb4 hb5 hbA hI4 HX HBa HIa HQa hgha d2 HB3
    generalize w4.heap.size = B4 at *
    go_upto_region 6 with (first | (go_at_call 9; refine (KQ.out W5 _ _ _ _ HB5.out HQ5.out hgh5 hch1).mono ?_; rintro e w6 ⟨rfl, hb6⟩; have HB6 := hid (bt HB5.out hb6)) | (go_at_call 8; refine (KS.out w6 HB6.out).mono ?_; rintro e w7 ⟨a7, c7, a8, c8, rfl, hb7, hQ7⟩) | fail)
    obtain ⟨hb8, y0, y1, y2, y3⟩ := four_new w7 (.string q.name) (.slice a7 q.head.length c7) (.int .i64 q.ring) (.slice a8 q.atoms.length c8)
    have hbB := bt hb6 (bt hb7 hb8)
    have HB8 := hid (bt HB5.out hbB)
    have HI8 := hid (HI5.out.below hbB)
    have HQ8 := hid (hQ7.below hb8)
    replace d5 := upc hbB d5
    have HY := hid (And.intro d5 (And.intro y0 (And.intro y1 (And.intro y2 y3))))
    generalize w7.alloc (.cells #[.string q.name, .slice a7 q.head.length c7, .int .i64 q.ring, .slice a8 q.atoms.length c8] 29) = W8 at *
    clear hb6 hb7 hb8 hbB hQ7 HB5 HI5 HQ5 HB6 x0 x1 x2 x3 y0 y1 y2 y3 d5 hgh5 hch1
    generalize w7.heap.size = B7 at *
    go_upto_region 7 with (first | (go_at_call 5; refine (KD.out W8 HB8.out).mono ?_; rintro e w9 ⟨a9, c9, gh9, ch9, a10, c10, rfl, hb9, hI9, hQ9, hgh9, hch9⟩) | fail)
    obtain ⟨hb10, e2, z0, z1, z2, z3⟩ := two_new w9 (.slice a9 ds.length c9) (.string q.name) (.slice (some ⟨gh9, 0, none⟩) q.head.length ch9) (.int .i64 q.ring) (.slice a10 q.atoms.length c10)
    have hbC := bt hb9 hb10
    have HBX := hid (bt HB8.out hbC)
    have HIx := hid (HI8.out.below hbC)
    have HQx := hid (HQ8.out.below hbC)
    have HIy := hid (hI9.below hb10)
    have HQy := hid (hQ9.below hb10)
    obtain ⟨d5, y0, y1, y2, y3⟩ := HY.out
    replace d5 := upc hbC d5
    replace y0 := upc hbC y0
    replace y1 := upc hbC y1
    replace y2 := upc hbC y2
    replace y3 := upc hbC y3
    generalize (w9.alloc (.cells #[.slice a9 ds.length c9] 25)).alloc (.cells #[.string q.name, .slice (some ⟨gh9, 0, none⟩) q.head.length ch9, .int .i64 q.ring, .slice a10 q.atoms.length c10] 29) = WX at *
    clear hb9 hb10 hbC hI9 hQ9 hgh9 hch9 HB8 HI8 HQ8 HY
    generalize w9.heap.size = B9 at *
    go_wp2_with (first
      | (go_at_call 10; refine (KH.out WX _ _ _ _ HIx.out HIy.out).mono ?_; rintro e wA ⟨rfl, hbA⟩; have HBA := hid (bt HBX.out hbA); have HQx2 := hid (HQx.out.below hbA); have HQy2 := hid (HQy.out.below hbA); replace y0 := upc hbA y0; replace y1 := upc hbA y1; replace y2 := upc hbA y2; replace y3 := upc hbA y3; replace z0 := upc hbA z0; replace z1 := upc hbA z1; replace z2 := upc hbA z2; replace z3 := upc hbA z3)
      | (go_at_call 11; refine (KE.out wA _ _ _ _ _ _ _ _ HQx2.out HQy2.out).mono ?_; rintro e wZ ⟨rfl, hbZ⟩)
      | fail)
    go_ret
    exact ⟨rfl, bt HBA.out hbZ⟩

end Go.Proofs.YtkponghbekpocaaGreatDoor

/-
  laws: hDec, hPick.
-/
namespace Go.Proofs.YtkponghbekpocaaGreatDoor
open Go.RowKit

set_option maxHeartbeats 400000 in
set_option maxRecDepth 1000000 in
theorem hDecN_calls : ∀ (k n : Nat) (w : World), n ≤ k → n ≤ 1000000000 → Calls Tryz.prog 13 #[.int .i64 (n : Int)] w fun e w' => e = .returned (.string ⟨(Lib.decDigits n).toArray⟩) ∧ ∃ d, w' = w.drewN d := by
  intro k
  induction k with
  | zero =>
    intro n w hn hb
    obtain rfl : n = 0 := by omega
    rw [Lib.decDigits, dif_pos (by omega)]
    go_enter Tryz.func13, Tryz.ntmps13
    go_wp2
    go_ret
    exact ⟨rfl, 0, rfl⟩
  | succ k ih =>
    intro n w hn hb
    by_cases h10 : n < 10
    · rw [Lib.decDigits, dif_pos h10]
      have i1 : ¬ ((n : Int) < 0) := by omega
      have i2 : (n : Int) < 10 := by omega
      go_enter Tryz.func13, Tryz.ntmps13
      go_wp2
      go_ret
      rw [dig_at n h10]
      exact ⟨by simp, 0, rfl⟩
    · rw [Lib.decDigits, dif_neg h10]
      have i1 : ¬ ((n : Int) < 0) := by omega
      have i2 : ¬ ((n : Int) < 10) := by omega
      have KR : Hid (∀ W, Calls Tryz.prog 13 #[.int .i64 ((n : Int) / 10)] W fun e w' => e = .returned (.string ⟨(Lib.decDigits (n / 10)).toArray⟩) ∧ ∃ q, w' = W.drewN q) := hid fun W => by rw [show (n : Int) / 10 = ((n / 10 : Nat) : Int) by omega]; exact ih (n / 10) _ (by omega) (by omega)
      have hd : (⟨#[48, 49, 50, 51, 52, 53, 54, 55, 56, 57]⟩ : ByteArray).extract (n % 10) (n % 10 + 1) = ⟨#[UInt8.ofNat (48 + n % 10)]⟩ := dig_at (n % 10) (by omega)
      have HD := hid hd
      have e1 : (n : Int) / 10 = ((n / 10 : Nat) : Int) := by omega
      have hw1 : IntKind.i64.wrap ((n : Int) / 10) = (n : Int) / 10 := by rw [e1]; exact wrap_small2 _ (by omega)
      obtain ⟨r, hr⟩ : ∃ r, r = n % 10 := ⟨_, rfl⟩
      have hm : (n : Int).tmod 10 = (r : Int) := by rw [Int.tmod_eq_emod_of_nonneg (by omega)]; omega
      have hr10 : r < 10 := by omega
      have hw3 : IntKind.i64.wrap ((r : Int) + 1) = (r : Int) + 1 := wrap_small2 (r + 1) (by omega)
      rw [← hr] at HD ⊢
      clear hd ih e1 hr
      have hdl := digs_len (n / 10) (n / 10) (Nat.le_refl _)
      generalize Lib.decDigits (n / 10) = ds at *
      have hcc : ¬ (9223372036854775807 < ds.length + (min (r + 1) 10 - r)) := by omega
      clear hdl
      go_enter Tryz.func13, Tryz.ntmps13
      go_upto_region 7 with fail
      have i3 : (r : Int) ≤ (r : Int) + 1 := by omega
      have i4 : (r : Int) + 1 ≤ 10 := by omega
      have i5 : ¬ ((r : Int) < 0) := by omega
      have i6 : (0 : Int) ≤ (r : Int) := by omega
      go_region_law (first | (go_simp; go_at_call 13; (with_reducible refine (KR.out _).mono ?_); rintro e w2 ⟨rfl, d2, rfl⟩) | fail)
      all_goals
        go_wp2
        go_ret
        rw [HD.out]
        refine ⟨?_, _, rfl⟩
        show Ending.returned (.string ((⟨ds.toArray⟩ : ByteArray) ++ ⟨[UInt8.ofNat (48 + r)].toArray⟩)) = _
        rw [cat_bytes]
        simp

set_option maxHeartbeats 400000 in
theorem hDec_calls (n : Int) (w : World) (h0 : -1000000000 ≤ n) (h1 : n ≤ 1000000000) : Calls Tryz.prog 13 #[.int .i64 n] w fun e w' => e = .returned (.string ⟨(Lib.itoa n).toArray⟩) ∧ ∃ d, w' = w.drewN d := by
  unfold Lib.itoa
  by_cases h : n < 0
  · rw [if_pos h]
    have KD : Hid (Calls Tryz.prog 13 #[.int .i64 (-n)] w fun e w' => e = .returned (.string ⟨(Lib.decDigits n.natAbs).toArray⟩) ∧ ∃ d, w' = w.drewN d) := hid (by
      rw [show -n = ((n.natAbs : Nat) : Int) by omega]
      exact hDecN_calls _ _ w (Nat.le_refl _) (by omega))
    have hl := digs_len _ n.natAbs (Nat.le_refl _)
    have i0 : ¬ (n = -9223372036854775808) := by omega
    have i3 : (n == -9223372036854775808) = false := by simp; omega
    generalize Lib.decDigits n.natAbs = ds at *
    have hcc : ¬ (9223372036854775807 < 1 + ds.length) := by omega
    go_enter Tryz.func13, Tryz.ntmps13
    go_wp2_with fail
    refine KD.out.mono ?_
    rintro e w2 ⟨rfl, d, rfl⟩
    go_wp2_with fail
    go_ret
    refine ⟨?_, _, rfl⟩
    show Ending.returned (.string ((⟨[45].toArray⟩ : ByteArray) ++ ⟨ds.toArray⟩)) = _
    rw [cat_bytes]
    rfl
  · rw [if_neg h]
    have := hDecN_calls _ n.toNat w (Nat.le_refl _) (by omega)
    rw [show ((n.toNat : Nat) : Int) = n by omega] at this
    exact this

set_option maxHeartbeats 1000000 in
set_option maxRecDepth 100000 in
theorem hPick_calls (W : World) (a : Option Addr) (m cap : Nat) (L : Nat → Int) (i n : Nat) (h : Cod W a L m) (hm : m ≤ 1048576) (hi : i ≤ 1000) (hn : n ≤ 100000) :
    Calls Tryz.prog 12 #[.slice a m cap, .int .i64 (i : Int), .int .i64 (n : Int)] W fun e w' => ∃ z : Nat, e = .returned (.int .i64 (z : Int)) ∧ w' = W ∧ (0 < n → z < n) ∧ z ≤ 100000 := by
  by_cases h0 : m = 0
  · have q0 : ((m : Int) == 0) = true := by simp; omega
    clear h0
    go_enter Tryz.func12, Tryz.ntmps12
    go_wp2
    go_ret
    exact ⟨0, rfl, rfl, fun h => h, by omega⟩
  · have q0 : ((m : Int) == 0) = false := by simp; omega
    by_cases h1 : n ≤ 1
    · have q1 : (n : Int) ≤ 1 := by omega
      go_enter Tryz.func12, Tryz.ntmps12
      go_wp2
      go_ret
      exact ⟨0, rfl, rfl, fun h => h, by omega⟩
    · have q1 : ¬ (n : Int) ≤ 1 := by omega
      obtain ⟨r, hr⟩ : ∃ r, r = i % m := ⟨_, rfl⟩
      have hrm : r < m := by rw [hr]; exact Nat.mod_lt _ (by omega)
      have hre : (i : Int) % (m : Int) = (r : Int) := by rw [hr]; simp
      have hrt : (i : Int).tmod (m : Int) = (r : Int) := by rw [Int.tmod_eq_emod_of_nonneg (by omega)]; exact hre
      obtain ⟨b, o, rfl, hc, x0, x1⟩ := h r hrm
      obtain ⟨x, hx⟩ : ∃ x : Nat, L r = (x : Int) := ⟨(L r).toNat, by omega⟩
      rw [hx] at hc x0 x1
      obtain ⟨z, hz⟩ : ∃ z, z = x % n := ⟨_, rfl⟩
      have hze : (x : Int) % (n : Int) = (z : Int) := by rw [hz]; simp
      have hzt : (x : Int).tmod (n : Int) = (z : Int) := by rw [Int.tmod_eq_emod_of_nonneg (by omega)]; exact hze
      have hzn : z < n := by rw [hz]; exact Nat.mod_lt _ (by omega)
      have r1 : (r : Int) < (m : Int) := by omega
      have m0 : ¬ (m : Int) = 0 := by omega
      have n0 : ¬ (n : Int) = 0 := by omega
      clear hr hx hz h
      go_enter Tryz.func12, Tryz.ntmps12
      go_wp2
      go_ret
      exact ⟨z, by first | rfl | simp [hze, hzt], rfl, fun _ => hzn, by omega⟩

end Go.Proofs.YtkponghbekpocaaGreatDoor
