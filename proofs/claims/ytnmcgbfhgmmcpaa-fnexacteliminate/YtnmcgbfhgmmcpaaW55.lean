import Derived.Deep.AppendLies
import Derived.DeepKeys4
import Derived.Maps.OwnOps
import Derived.Maps.OwnSet
import Derived.Maps.Views
import Derived.Test.YtnmcgbfhgmmcpaaW43
import Derived.Test.YtnmcgbfhgmmcpaaW54
/-
  impl: (covers).widthOf where the bag is not known yet.
-/
namespace Go.Proofs.Ytnmcgbfhgmmcpaa
open Go.RowKit Go.Maps

theorem Try.laidE : laidOutB Try.prog = true := by kernel_rfl
theorem Try.rowM : (134 : TypeId) < Try.prog.types.size := of_decide_eq_true (by kernel_rfl)
theorem Try.lawM : Keyed Try.prog 134 := Keyed.of_law (deep_law_laid Try.laidE (m := 3) (by omega) Try.rowM (by kernel_rfl) (by rw [Try.underlying134]))
theorem Try.underCv : Try.prog.underlying 106 = some (.map 134 31) := by kernel_rfl
theorem Try.zeroCv (w : World) : (zeroValue 31).run Try.prog w = .ok (.agg #[.bool false, .int .i64 0, .int .i64 0, .slice none 0 0, .slice none 0 0]) w := by kernel_rfl

theorem key_mem (m : Nat → Bool) : ∃ l, keyOf Try.prog 134 (memV m) = some l := by
  refine Option.isSome_iff_exists.1 ?_
  unfold memV
  generalize m 0 = b0
  generalize m 1 = b1
  generalize m 2 = b2
  generalize m 3 = b3
  generalize m 4 = b4
  generalize m 5 = b5
  cases b0 <;> cases b1 <;> cases b2 <;> cases b3 <;> cases b4 <;> cases b5 <;> kernel_rfl

/-- a cover's value -/
def covR (v : Value) : Option (DataW Unit × List MemPlace) := match v with
  | .agg ⟨[.bool _, .int .i64 _, .int .i64 _, .slice _ _ _, .slice _ _ _]⟩ => some (.agg [], [])
  | _ => none
theorem covR_inv {v : Value} {z : DataW Unit × List MemPlace} (h : covR v = some z) : ∃ b x y a1 n1 c1 a2 n2 c2, v = .agg #[.bool b, .int .i64 x, .int .i64 y, .slice a1 n1 c1, .slice a2 n2 c2] ∧ z = (.agg [], []) := by
  unfold covR at h
  split at h
  · exact ⟨_, _, _, _, _, _, _, _, _, rfl, (Option.some.inj h).symm⟩
  · cases h

/-- block b holds the covers of these bags -/
def Cvs (W : World) (b : Nat) (ks : List (Nat → Bool)) : Prop := ∃ D, W.ownsMap Try.prog 134 covR b ks.length D ∧ ∀ l, Maps.has D l = true → ∃ x ∈ ks, keyOf Try.prog 134 (memV x) = some l
theorem Cvs.start (W : World) : Cvs (W.alloc (.map #[] 0)) W.heap.size [] := ⟨.map [], World.ownsMap_made _ _ _ _, fun l h => by cases h⟩
theorem Cvs.bel {W W' : World} {b : Nat} {ks : List (Nat → Bool)} (h : Cvs W b ks) (hb : Below W.heap.size W W') : Cvs W' b ks := by
  obtain ⟨D, h0, h1⟩ := h
  have hlt := h0.lt
  obtain ⟨es, clock, hb', F, hs, hD⟩ := h0
  exact ⟨D, ⟨es, clock, (hb.block b hlt).trans hb', F, hs, hD⟩, h1⟩
theorem Cvs.lt {W : World} {b : Nat} {ks : List (Nat → Bool)} (h : Cvs W b ks) : b < W.heap.size := by
  obtain ⟨D, h0, -⟩ := h; exact h0.lt

theorem Cvs.set {W : World} {b : Nat} {ks : List (Nat → Bool)} (h : Cvs W b ks) {p : Addr} (hp : b ≠ p.block) (u : Value) : Cvs (W.setCell p u) b ks := by
  obtain ⟨D, h0, h1⟩ := h
  exact ⟨D, h0.setCell hp u, h1⟩

theorem width_impl2 (w : World) (vb ve : Value) (bag : List Int) (es : List (List Int)) (hb : IS w vb bag) (h : ISS w ve es) (hl : Short es) (he : edgesB es = true) (hg : GoodBag es bag) :
    Calls Try.prog 9 #[vb, ve] w fun e w' => ∃ a1 n1 c1 a2 n2 c2, e = .returned (.agg #[.bool true, .int .i64 (wdR es bag).num, .int .i64 (wdR es bag).den, .slice a1 n1 c1, .slice a2 n2 c2]) ∧ Below w.heap.size w w' := by
  have := setB_len hg.set
  refine (coverOf_yes w vb ve bag es hb h (by omega) hl hg.set he hg.cov).mono ?_
  rintro e w' ⟨x, y, vW, vD, rfl, hx, -, hp, -, o1, o2, -, hbw⟩
  rw [wdR_eq hx hp]
  obtain ⟨a1, c1, rfl⟩ := ownSl o1
  obtain ⟨a2, c2, rfl⟩ := ownSl o2
  exact ⟨_, _, _, _, _, _, rfl, hbw⟩

def cv5 (v0 v1 v2 v3 v4 : Value) (j : Nat) : Value := match j with | 0 => v0 | 1 => v1 | 2 => v2 | 3 => v3 | _ => v4
theorem ArrAt.cov5 {W : World} {C : Nat} {f : Nat → Value} (h : ArrAt W C 5 f) (v0 v1 v2 v3 v4 : Value) : ArrAt (((((W.setCell ⟨C, 0, none⟩ v0).setCell ⟨C, 1, none⟩ v1).setCell ⟨C, 2, none⟩ v2).setCell ⟨C, 3, none⟩ v3).setCell ⟨C, 4, none⟩ v4) C 5 (cv5 v0 v1 v2 v3 v4) := by
  have h5 := ((((h.set (i := 0) (by decide) v0).set (i := 1) (by decide) v1).set (i := 2) (by decide) v2).set (i := 3) (by decide) v3).set (i := 4) (by decide) v4
  refine ⟨fun j hj => (h5.cell j hj).trans ?_, h5.free⟩
  obtain rfl | rfl | rfl | rfl | rfl : j = 0 ∨ j = 1 ∨ j = 2 ∨ j = 3 ∨ j = 4 := by omega
  all_goals rfl
theorem own_map_bel {w w' : World} {b n : Nat} {k : TypeId} {R : Value → Option (DataW Unit × List MemPlace)} {D : DataW Unit} (h : w.ownsMap Try.prog k R b n D) (hb : Below w.heap.size w w') : w'.ownsMap Try.prog k R b n D := by
  have hlt := h.lt
  obtain ⟨es, clock, hb', F, hs, hD⟩ := h
  exact ⟨es, clock, (hb.block b hlt).trans hb', F, hs, hD⟩

set_option maxHeartbeats 8000000 in
set_option maxRecDepth 1000000 in
theorem widthOf_calls (w : World) (b : Nat) (ks : List (Nat → Bool)) (m : Nat → Bool) (ve : Value) (es : List (List Int)) (hM : Cvs w b ks) (hks : ks.length ≤ 100) (hmiss : ∀ x ∈ ks, memV x ≠ memV m) (h : ISS w ve es) (hl : Short es) (he : edgesB es = true) (hg : GoodBag es (plc m 6)) :
    Calls Try.prog 106 #[.map (some b), memV m, ve] w fun e w' => e = .returned (.agg #[.int .i64 (wdR es (plc m 6)).num, .int .i64 (wdR es (plc m 6)).den]) ∧ Kb b w w' ∧ Cvs w' b (m :: ks) := by
  obtain ⟨kl, hkl⟩ := key_mem m
  obtain ⟨W1, hW1⟩ : ∃ W1, W1 = (w.alloc (.cells #[.bool (m 0), .bool (m 1), .bool (m 2), .bool (m 3), .bool (m 4), .bool (m 5)] 134)).alloc (.cells #[.int .i64 0, .int .i64 0] 28) := ⟨_, rfl⟩
  have hB1 : Below w.heap.size w W1 := by rw [hW1]; exact ((Below.refl _ _).alloc (Nat.le_refl _) _).alloc (by simp) _
  have hM1 := hM.bel hB1
  have hbl := hM.lt
  obtain ⟨D, hown, hhas⟩ := hM1
  have hno : Maps.has D kl = false := by
    cases hh : Maps.has D kl
    · rfl
    · obtain ⟨x, hx, ex⟩ := hhas kl hh
      exact absurd (Try.lawM.inj ex hkl) (hmiss x hx)
  have HMm : Hid (BAt W1 w.heap.size 6 m) := hid (by rw [hW1]; exact (BAt.made w m _).below ((Below.refl _ _).alloc (Nat.le_refl _) _))
  have b0 := HMm.out.cell 0 (by decide)
  have b1 := HMm.out.cell 1 (by decide)
  have b2 := HMm.out.cell 2 (by decide)
  have b3 := HMm.out.cell 3 (by decide)
  have b4 := HMm.out.cell 4 (by decide)
  have b5 := HMm.out.cell 5 (by decide)
  have hs1 : W1.heap.size = w.heap.size + 2 := by rw [hW1]; simp
  have HRt : Hid (ArrAt W1 (w.heap.size + 1) 2 (fun _ => .int .i64 0)) := hid (by
    have := arrAt_alloc (w.alloc (.cells #[.bool (m 0), .bool (m 1), .bool (m 2), .bool (m 3), .bool (m 4), .bool (m 5)] 134)) 2 (fun _ => .int .i64 0) 28
    rw [World.size_alloc] at this
    rw [hW1]
    exact this)
  have HES := hid h
  obtain ⟨ae, ce, rfl, -⟩ := h
  have HKC : Hid (∀ W v, IS W v (plc m 6) → ISS W (.slice ae es.length ce) es → Calls Try.prog 9 #[v, .slice ae es.length ce] W fun e w' => ∃ a1 n1 c1 a2 n2 c2, e = .returned (.agg #[.bool true, .int .i64 (wdR es (plc m 6)).num, .int .i64 (wdR es (plc m 6)).den, .slice a1 n1 c1, .slice a2 n2 c2]) ∧ Below W.heap.size W w') := hid fun W v h1 h2 => width_impl2 W v _ (plc m 6) es h1 h2 hl he hg
  generalize (wdR es (plc m 6)).num = X at *
  generalize ((wdR es (plc m 6)).den : Int) = Y at *
  clear hg
  unfold memV at hkl
  unfold memV
  go_enter Try.func106, Try.ntmps106
  go_upto_region 1 with fail
  rw [← hW1]
  clear hW1
  go_upto_region 2 with (first | (at_lookup; refine wpList_lookup_own_ok _ rfl _ _ 106 rfl 134 31 Try.lawM Try.underCv covR (Try.zeroCv _) (.agg []) [] rfl b ks.length D rfl hown _ kl rfl hkl ?_; intro v ps hv; rw [hno]; obtain ⟨z0, z1, z2, z3, z4, z5, z6, z7, z8, rfl, -⟩ := covR_inv hv) | fail)
  have HA2 := hid (arrAt_alloc W1 5 (cv5 (.bool z0) (.int .i64 z1) (.int .i64 z2) (.slice z3 z4 z5) (.slice z6 z7 z8)) 31)
  have HAl : Hid (Below W1.heap.size W1 (W1.alloc (.cells #[.bool z0, .int .i64 z1, .int .i64 z2, .slice z3 z4 z5, .slice z6 z7 z8] 31))) := hid ((Below.refl _ _).alloc (Nat.le_refl _) _)
  have e5 : (arrV 5 (cv5 (.bool z0) (.int .i64 z1) (.int .i64 z2) (.slice z3 z4 z5) (.slice z6 z7 z8))).toArray = #[.bool z0, .int .i64 z1, .int .i64 z2, .slice z3 z4 z5, .slice z6 z7 z8] := rfl
  rw [e5, hs1] at HA2
  have HM2 := hid (HMm.out.below HAl.out)
  have HR2 := hid (HRt.out.move (HAl.out.block (w.heap.size + 1) (by omega)))
  have HB2 := hid (bt hB1 HAl.out)
  have HO2 := hid (hown.alloc (.cells #[.bool z0, .int .i64 z1, .int .i64 z2, .slice z3 z4 z5, .slice z6 z7 z8] 31))
  clear b0 b1 b2 b3 b4 b5 HMm HRt hB1 hown HAl e5 hv hs1
  generalize W1.alloc (.cells #[.bool z0, .int .i64 z1, .int .i64 z2, .slice z3 z4 z5, .slice z6 z7 z8] 31) = W2 at *
  generalize cv5 (.bool z0) (.int .i64 z1) (.int .i64 z2) (.slice z3 z4 z5) (.slice z6 z7 z8) = f at *
  have b0 := HM2.out.cell 0 (by decide)
  have b1 := HM2.out.cell 1 (by decide)
  have b2 := HM2.out.cell 2 (by decide)
  have b3 := HM2.out.cell 3 (by decide)
  have b4 := HM2.out.cell 4 (by decide)
  have b5 := HM2.out.cell 5 (by decide)
  have KL := hid (list_calls W2 m)
  unfold memV at KL
  go_wp2_with fail
  refine KL.out.mono ?_
  rintro e w3 ⟨v, rfl, hv, hb3⟩
  have KC := hid (HKC.out w3 v (own_is hv) (HES.out.below (bt HB2.out hb3)))
  have HA3 := hid (HA2.out.move (hb3.block (w.heap.size + 2) (HA2.out.lt (by decide))))
  have HM3 := hid (HM2.out.below hb3)
  have HR3 := hid (HR2.out.move (hb3.block (w.heap.size + 1) (HR2.out.lt (by decide))))
  have HB3 := hid (bt HB2.out hb3)
  have HO3 := hid (own_map_bel HO2.out hb3)
  obtain ⟨av, cv, rfl⟩ := ownSl hv
  clear b0 b1 b2 b3 b4 b5 KL hv hb3 HA2 HM2 HR2 HB2 HO2 HKC
  go_wp2_with fail
  refine KC.out.mono ?_
  rintro e w4 ⟨a1, n1, c1, a2, n2, c2, rfl, hb4⟩
  have HA4 := hid (HA3.out.move (hb4.block (w.heap.size + 2) (HA3.out.lt (by decide))))
  have HM4 := hid (HM3.out.below hb4)
  have HR4 := hid (HR3.out.move (hb4.block (w.heap.size + 1) (HR3.out.lt (by decide))))
  have HB4 := hid (bt HB3.out hb4)
  have HO4 := hid (own_map_bel HO3.out hb4)
  clear KC hb4 HA3 HM3 HR3 HB3 HO3
  have q0 := HA4.out.cell 0 (by decide)
  have q1 := HA4.out.cell 1 (by decide)
  have q2 := HA4.out.cell 2 (by decide)
  have q3 := HA4.out.cell 3 (by decide)
  have q4 := HA4.out.cell 4 (by decide)
  have r0 := HA4.out.free 0 (by decide)
  have r1 := HA4.out.free 1 (by decide)
  have r2 := HA4.out.free 2 (by decide)
  have r3 := HA4.out.free 3 (by decide)
  have r4 := HA4.out.free 4 (by decide)
  have HA5 := hid (HA4.out.cov5 (.bool true) (.int .i64 X) (.int .i64 Y) (.slice a1 n1 c1) (.slice a2 n2 c2))
  have ne1 : w.heap.size + 2 ≠ w.heap.size := by omega
  have ne2 : b ≠ w.heap.size + 2 := by omega
  have ne3 : w.heap.size + 1 ≠ w.heap.size + 2 := by omega
  have HM5 := hid (((((HM4.out.other (p := ⟨w.heap.size + 2, 0, none⟩) ne1 (.bool true)).other (p := ⟨w.heap.size + 2, 1, none⟩) ne1 (.int .i64 X)).other (p := ⟨w.heap.size + 2, 2, none⟩) ne1 (.int .i64 Y)).other (p := ⟨w.heap.size + 2, 3, none⟩) ne1 (.slice a1 n1 c1)).other (p := ⟨w.heap.size + 2, 4, none⟩) ne1 (.slice a2 n2 c2))
  have HO5 := hid (((((HO4.out.setCell (a := ⟨w.heap.size + 2, 0, none⟩) ne2 (.bool true)).setCell (a := ⟨w.heap.size + 2, 1, none⟩) ne2 (.int .i64 X)).setCell (a := ⟨w.heap.size + 2, 2, none⟩) ne2 (.int .i64 Y)).setCell (a := ⟨w.heap.size + 2, 3, none⟩) ne2 (.slice a1 n1 c1)).setCell (a := ⟨w.heap.size + 2, 4, none⟩) ne2 (.slice a2 n2 c2))
  have HB5 := hid (((((HB4.out.setCell (p := ⟨w.heap.size + 2, 0, none⟩) (Nat.le_add_right _ 2) (.bool true)).setCell (p := ⟨w.heap.size + 2, 1, none⟩) (Nat.le_add_right _ 2) (.int .i64 X)).setCell (p := ⟨w.heap.size + 2, 2, none⟩) (Nat.le_add_right _ 2) (.int .i64 Y)).setCell (p := ⟨w.heap.size + 2, 3, none⟩) (Nat.le_add_right _ 2) (.slice a1 n1 c1)).setCell (p := ⟨w.heap.size + 2, 4, none⟩) (Nat.le_add_right _ 2) (.slice a2 n2 c2))
  have HR5 := hid (HR4.out.move (((((Below.heap_setCell (((((w4.setCell ⟨w.heap.size + 2, 0, none⟩ (.bool true)).setCell ⟨w.heap.size + 2, 1, none⟩ (.int .i64 X)).setCell ⟨w.heap.size + 2, 2, none⟩ (.int .i64 Y)).setCell ⟨w.heap.size + 2, 3, none⟩ (.slice a1 n1 c1))) ⟨w.heap.size + 2, 4, none⟩ (.slice a2 n2 c2) (w.heap.size + 1) ne3).trans (Below.heap_setCell _ _ _ _ ne3)).trans (Below.heap_setCell _ _ _ _ ne3)).trans (Below.heap_setCell _ _ _ _ ne3)).trans (Below.heap_setCell _ _ _ _ ne3)))
  go_upto_region 4 with fail
  clear q0 q1 q2 q3 q4 r0 r1 r2 r3 r4 HA4 HM4 HR4 HB4 HO4
  generalize ((((w4.setCell ⟨w.heap.size + 2, 0, none⟩ (.bool true)).setCell ⟨w.heap.size + 2, 1, none⟩ (.int .i64 X)).setCell ⟨w.heap.size + 2, 2, none⟩ (.int .i64 Y)).setCell ⟨w.heap.size + 2, 3, none⟩ (.slice a1 n1 c1)).setCell ⟨w.heap.size + 2, 4, none⟩ (.slice a2 n2 c2) = W5 at *
  have b0 := HM5.out.cell 0 (by decide)
  have b1 := HM5.out.cell 1 (by decide)
  have b2 := HM5.out.cell 2 (by decide)
  have b3 := HM5.out.cell 3 (by decide)
  have b4 := HM5.out.cell 4 (by decide)
  have b5 := HM5.out.cell 5 (by decide)
  have q0 : W5.cell? ⟨w.heap.size + 2, 0, none⟩ = some (.bool true) := HA5.out.cell 0 (by decide)
  have q1 : W5.cell? ⟨w.heap.size + 2, 1, none⟩ = some (.int .i64 X) := HA5.out.cell 1 (by decide)
  have q2 : W5.cell? ⟨w.heap.size + 2, 2, none⟩ = some (.int .i64 Y) := HA5.out.cell 2 (by decide)
  have q3 : W5.cell? ⟨w.heap.size + 2, 3, none⟩ = some (.slice a1 n1 c1) := HA5.out.cell 3 (by decide)
  have q4 : W5.cell? ⟨w.heap.size + 2, 4, none⟩ = some (.slice a2 n2 c2) := HA5.out.cell 4 (by decide)
  go_wp2_with (first | (at_mapUpdate; refine wpList_mapUpdate_own _ rfl _ _ _ 106 rfl 134 31 Try.lawM Try.underCv covR b ks.length D rfl HO5.out (by unfold maxLen; omega) _ _ kl rfl rfl hkl (.agg []) [] rfl ?_; intro w6 hown6 hgrow6; have q1' : w6.cell? ⟨w.heap.size + 2, 1, none⟩ = some (.int .i64 X) := (World.cell?_of_block (w := W5) (a := ⟨w.heap.size + 2, 1, none⟩) (hgrow6.block _ (HA5.out.lt (by decide)) (by simp; omega))).trans q1; have q2' : w6.cell? ⟨w.heap.size + 2, 2, none⟩ = some (.int .i64 Y) := (World.cell?_of_block (w := W5) (a := ⟨w.heap.size + 2, 2, none⟩) (hgrow6.block _ (HA5.out.lt (by decide)) (by simp; omega))).trans q2; have HR6 := hid (HR5.out.move (hgrow6.block (w.heap.size + 1) (HR5.out.lt (by decide)) (by simp; omega))); have s0 := HR6.out.cell 0 (by decide); have s1 := HR6.out.cell 1 (by decide); have t0 := HR6.out.free 0 (by decide); have t1 := HR6.out.free 1 (by decide)) | fail)
  have hK6 : Kb b w w6 := ⟨hgrow6.os.trans HB5.out.os, hgrow6.tape.trans HB5.out.tape, hgrow6.output.trans HB5.out.output, Nat.le_trans HB5.out.size hgrow6.size, fun x hx hne => (hgrow6.block x (Nat.lt_of_lt_of_le hx HB5.out.size) (by simpa using hne)).trans (HB5.out.block x hx)⟩
  have hC6 : Cvs w6 b (m :: ks) := ⟨_, hown6, fun l hl' => by
    by_cases e : l = kl
    · exact ⟨m, List.mem_cons_self .., by rw [e]; exact hkl⟩
    · rw [has_put_other e] at hl'
      obtain ⟨x, hx, ex⟩ := hhas l hl'
      exact ⟨x, List.mem_cons_of_mem _ hx, ex⟩⟩
  refine bodyPost_ret (v := .agg #[.int .i64 X, .int .i64 Y]) (by simp [results, Try.results106, go_sem, s0, s1]) rfl ⟨rfl, (hK6.setNew (Nat.le_add_right _ 1) _).setNew (Nat.le_add_right _ 1) _, (hC6.set (by show b ≠ w.heap.size + 1; omega) _).set (by show b ≠ w.heap.size + 1; omega) _⟩

end Go.Proofs.Ytnmcgbfhgmmcpaa

/-
  A plan that grows: its lists, each in rows of its own, no two of them sharing a block.
-/
namespace Go.Proofs.Ytnmcgbfhgmmcpaa
open Go.RowKit

def Ap (u v : Value) : Prop := ∀ g, u.ownBlock = some g → v.ownBlock ≠ some g
theorem Ap.symm {u v : Value} (h : Ap u v) : Ap v u := fun g h1 h2 => h g h2 h1
theorem Ap.none_left {v : Value} : Ap (.slice none 0 0) v := fun g h => by simp [Value.ownBlock] at h
theorem Ap.none_right {v : Value} : Ap v (.slice none 0 0) := fun g _ h => by simp [Value.ownBlock] at h

structure PlS (W : World) (B : Nat) (vB : Value) (vs : List Value) (bs : List (List Int)) (vP : Value) (ps : List Int) (vH : Value) (hs : List Int) : Prop where
  rl : RL W B vB vs bs
  ownP : W.ownsRow B 3 1 vP ps.length (ps.map (Value.int .i64))
  ownH : W.ownsRow B 3 1 vH hs.length (hs.map (Value.int .i64))
  apP : ∀ i, i < bs.length → Ap (vs.getD i undef) vP
  apH : ∀ i, i < bs.length → Ap (vs.getD i undef) vH
  apPH : Ap vP vH
  apB : ∀ i j, i < j → j < bs.length → Ap (vs.getD i undef) (vs.getD j undef)

section
variable {W W' w3 : World} {B : Nat} {vB vP vH v' u : Value} {vs : List Value} {bs : List (List Int)} {ps hs l : List Int} {o : Obj} {x : Int}

theorem PlS.start (W : World) (B : Nat) : PlS W B (.slice none 0 0) [] [] (.slice none 0 0) [] (.slice none 0 0) [] :=
  ⟨⟨World.ownsRow_nil _ _ _ _, rfl, fun i hi => by simp at hi⟩, World.ownsRow_nil _ _ _ _, World.ownsRow_nil _ _ _ _, (fun i hi => by simp at hi), (fun i hi => by simp at hi), Ap.none_left, fun i j _ hj => by simp at hj⟩

/-- nothing of it has changed -/
theorem PlS.moved (h : PlS W B vB vs bs vP ps vH hs) (hb : ∀ (g : Nat) (cur : Array Value) (e : TypeId), W.heap[g]? = some (Obj.cells cur e (0, 0)) → (e = 3 ∨ e = 23) → W'.heap[g]? = W.heap[g]?) : PlS W' B vB vs bs vP ps vH hs := by
  have hI : ∀ {y : Value} {n : Nat} {xs : List Value}, W.ownsRow B 3 1 y n xs → W'.ownsRow B 3 1 y n xs := fun hy => own_move hy fun g hg => by
    obtain ⟨cur, hc⟩ := own_typ hy hg
    exact hb g cur _ hc (Or.inl rfl)
  refine ⟨⟨own_move h.rl.own fun g hg => ?_, h.rl.len, fun i hi => hI (h.rl.each i hi)⟩, hI h.ownP, hI h.ownH, h.apP, h.apH, h.apPH, h.apB⟩
  obtain ⟨cur, hc⟩ := own_typ h.rl.own hg
  exact hb g cur _ hc (Or.inr rfl)

theorem lt_of_heap {W : World} {g : Nat} {o : Obj} (h : W.heap[g]? = some o) : g < W.heap.size := by
  rcases Nat.lt_or_ge g W.heap.size with h1 | h1
  · exact h1
  · rw [Array.getElem?_eq_none h1] at h; cases h

theorem PlS.below (h : PlS W B vB vs bs vP ps vH hs) (hb : Below W.heap.size W W') : PlS W' B vB vs bs vP ps vH hs := h.moved fun g _ _ hc _ => hb.block g (lt_of_heap hc)
theorem PlS.base {B' : Nat} (h : PlS W B vB vs bs vP ps vH hs) (hB : B' ≤ B) : PlS W B' vB vs bs vP ps vH hs := ⟨h.rl.base hB, own_base h.ownP hB, own_base h.ownH hB, h.apP, h.apH, h.apPH, h.apB⟩
/-- a cell of a block of another kind is stored -/
theorem PlS.store (h : PlS W B vB vs bs vP ps vH hs) {p off : Nat} {e : TypeId} (ht : ∃ cur, W.heap[p]? = some (.cells cur e (0, 0))) (he : e ≠ 3 ∧ e ≠ 23) (y : Value) : PlS (W.setCell ⟨p, off, none⟩ y) B vB vs bs vP ps vH hs :=
  h.moved fun g cur e' hc he' => Below.heap_setCell _ _ _ _ (by
    rintro rfl
    obtain ⟨cur2, hc2⟩ := ht
    rw [hc2] at hc
    simp only [Option.some.injEq, Obj.cells.injEq] at hc
    obtain ⟨-, rfl, -⟩ := hc
    rcases he' with rfl | rfl
    · exact he.1 rfl
    · exact he.2 rfl)
/-- a row of another kind grows -/
theorem PlS.far (h : PlS W B vB vs bs vP ps vH hs) {e : TypeId} {s n : Nat} {xs : List Value} (hu : W.ownsRow B e s u n xs) (he : e ≠ 3 ∧ e ≠ 23) (hg : (W.alloc o).grownBy w3 u.ownBlock) : PlS w3 B vB vs bs vP ps vH hs :=
  h.moved fun g cur e' hc he' => grown_keep hg (lt_of_heap hc) (own_ne hu ⟨_, hc⟩ (by rintro rfl; rcases he' with rfl | rfl; exact he.1 rfl; exact he.2 rfl))

theorem PlS.growP (h : PlS W B vB vs bs vP ps vH hs) (hown : w3.ownsRow B 3 1 v' (ps.length + 1) (ps.map (Value.int .i64) ++ [.int .i64 x])) (hg : (W.alloc o).grownBy w3 vP.ownBlock) (hat : ∀ g, v'.ownBlock = some g → vP.ownBlock = some g ∨ W.heap.size ≤ g) : PlS w3 B vB vs bs v' (ps ++ [x]) vH hs := by
  have keep : ∀ {y : Value} {n : Nat} {xs : List Value}, W.ownsRow B 3 1 y n xs → Ap y vP → w3.ownsRow B 3 1 y n xs := fun hy ha => own_move hy fun g hgy => grown_keep hg (hy.lt g hgy).2 (fun e => ha g hgy e.symm)
  have ap : ∀ {y : Value} {n : Nat} {xs : List Value}, W.ownsRow B 3 1 y n xs → Ap y vP → Ap y v' := fun hy ha g hgy e => by
    rcases hat g e with h1 | h1
    · exact ha g hgy h1
    · have := (hy.lt g hgy).2; omega
  refine ⟨⟨own_move h.rl.own fun g hgx => grown_keep hg (h.rl.own.lt g hgx).2 (own_ne h.ownP (own_typ h.rl.own hgx) (by decide)), h.rl.len, fun i hi => keep (h.rl.each i hi) (h.apP i hi)⟩, ?_, keep h.ownH h.apPH.symm, fun i hi => ap (h.rl.each i hi) (h.apP i hi), h.apH, (ap h.ownH h.apPH.symm).symm, h.apB⟩
  rw [List.length_append, List.map_append]
  exact hown
theorem PlS.growH (h : PlS W B vB vs bs vP ps vH hs) (hown : w3.ownsRow B 3 1 v' (hs.length + 1) (hs.map (Value.int .i64) ++ [.int .i64 x])) (hg : (W.alloc o).grownBy w3 vH.ownBlock) (hat : ∀ g, v'.ownBlock = some g → vH.ownBlock = some g ∨ W.heap.size ≤ g) : PlS w3 B vB vs bs vP ps v' (hs ++ [x]) := by
  have keep : ∀ {y : Value} {n : Nat} {xs : List Value}, W.ownsRow B 3 1 y n xs → Ap y vH → w3.ownsRow B 3 1 y n xs := fun hy ha => own_move hy fun g hgy => grown_keep hg (hy.lt g hgy).2 (fun e => ha g hgy e.symm)
  have ap : ∀ {y : Value} {n : Nat} {xs : List Value}, W.ownsRow B 3 1 y n xs → Ap y vH → Ap y v' := fun hy ha g hgy e => by
    rcases hat g e with h1 | h1
    · exact ha g hgy h1
    · have := (hy.lt g hgy).2; omega
  refine ⟨⟨own_move h.rl.own fun g hgx => grown_keep hg (h.rl.own.lt g hgx).2 (own_ne h.ownH (own_typ h.rl.own hgx) (by decide)), h.rl.len, fun i hi => keep (h.rl.each i hi) (h.apH i hi)⟩, keep h.ownP h.apPH, ?_, h.apP, fun i hi => ap (h.rl.each i hi) (h.apH i hi), ap h.ownP h.apPH, h.apB⟩
  rw [List.length_append, List.map_append]
  exact hown

/-- a bag made anew is laid behind the others -/
theorem PlS.growB (h : PlS W B vB vs bs vP ps vH hs) (hu : W.ownsRow B 3 1 u l.length (l.map (Value.int .i64))) (aP : Ap u vP) (aH : Ap u vH) (aB : ∀ i, i < bs.length → Ap (vs.getD i undef) u)
    (hown : w3.ownsRow B 23 1 v' (bs.length + 1) (vs ++ [u])) (hg : (W.alloc o).grownBy w3 vB.ownBlock) : PlS w3 B v' (vs ++ [u]) (bs ++ [l]) vP ps vH hs := by
  have keep : ∀ {y : Value} {n : Nat} {xs : List Value}, W.ownsRow B 3 1 y n xs → w3.ownsRow B 3 1 y n xs := fun hy => own_move hy fun g hgy => grown_keep hg (hy.lt g hgy).2 (own_ne h.rl.own (own_typ hy hgy) (by decide))
  have hl := h.rl.len
  have old : ∀ i, i < bs.length → (vs ++ [u]).getD i undef = vs.getD i undef := fun i hi => by
    rw [List.getD_eq_getElem?_getD, List.getElem?_append_left (by omega), ← List.getD_eq_getElem?_getD]
  have new : (vs ++ [u]).getD bs.length undef = u := by
    rw [List.getD_eq_getElem?_getD, List.getElem?_append_right (by omega), show bs.length - vs.length = 0 by omega]; rfl
  refine ⟨h.rl.step hu hown hg, keep h.ownP, keep h.ownH, fun i hi => ?_, fun i hi => ?_, h.apPH, fun i j hij hj => ?_⟩
  · rw [List.length_append, List.length_singleton] at hi
    by_cases e : i < bs.length
    · rw [old i e]; exact h.apP i e
    · rw [show i = bs.length by omega, new]; exact aP
  · rw [List.length_append, List.length_singleton] at hi
    by_cases e : i < bs.length
    · rw [old i e]; exact h.apH i e
    · rw [show i = bs.length by omega, new]; exact aH
  · rw [List.length_append, List.length_singleton] at hj
    rw [old i (by omega)]
    by_cases e : j < bs.length
    · rw [old j e]; exact h.apB i j hij e
    · rw [show j = bs.length by omega, new]; exact aB i (by omega)

/-- a row of a call stands apart from all that was there -/
theorem ap_new {n n' : Nat} {e : TypeId} {xs ys : List Value} (hu : W'.ownsRow W.heap.size e 1 u n xs) (hy : W.ownsRow B e 1 v' n' ys) : Ap u v' := fun g h1 h2 => by
  have a1 := (hu.lt g h1).1
  have a2 := (hy.lt g h2).2
  omega
end

/-- the plan's own block -/
structure PBx (W : World) (p : Nat) (vB vP vH vW : Value) (x y : Int) : Prop where
  c0 : W.cell? ⟨p, 0, none⟩ = some vB
  c1 : W.cell? ⟨p, 1, none⟩ = some vP
  c2 : W.cell? ⟨p, 2, none⟩ = some vH
  c3 : W.cell? ⟨p, 3, none⟩ = some vW
  c4 : W.cell? ⟨p, 4, none⟩ = some (.int .i64 x)
  c5 : W.cell? ⟨p, 5, none⟩ = some (.int .i64 y)
  free : ∀ j, W.frozen? ⟨p, j, none⟩ = false
  typ : ∃ cur, W.heap[p]? = some (.cells cur 53 (0, 0))

end Go.Proofs.Ytnmcgbfhgmmcpaa

/-
  A plan in its box: what a push does.
-/
namespace Go.Proofs.Ytnmcgbfhgmmcpaa
open Go.RowKit

section
variable {W W' w3 w : World} {p : Nat} {vB vP vH vW v' u : Value} {x y : Int}
theorem PBx.move (h : PBx W p vB vP vH vW x y) (hb : W'.heap[p]? = W.heap[p]?) : PBx W' p vB vP vH vW x y := by
  have hc : ∀ j, W'.cell? ⟨p, j, none⟩ = W.cell? ⟨p, j, none⟩ := fun j => World.cell?_of_block (w := W) (a := ⟨p, j, none⟩) hb
  exact ⟨(hc 0).trans h.c0, (hc 1).trans h.c1, (hc 2).trans h.c2, (hc 3).trans h.c3, (hc 4).trans h.c4, (hc 5).trans h.c5, fun j => (World.frozen?_of_block (w := W) (a := ⟨p, j, none⟩) hb).trans (h.free j), by obtain ⟨cur, h1⟩ := h.typ; exact ⟨cur, hb.trans h1⟩⟩
theorem PBx.lt (h : PBx W p vB vP vH vW x y) : p < W.heap.size := by obtain ⟨cur, h1⟩ := h.typ; exact lt_of_heap h1
theorem PBx.below (h : PBx W p vB vP vH vW x y) (hb : Below W.heap.size W W') : PBx W' p vB vP vH vW x y := h.move (hb.block p h.lt)
theorem PBx.other (h : PBx W p vB vP vH vW x y) {q off : Nat} (hq : p ≠ q) (z : Value) : PBx (W.setCell ⟨q, off, none⟩ z) p vB vP vH vW x y := h.move (Below.heap_setCell _ _ _ _ hq)
theorem PBx.grown (h : PBx W p vB vP vH vW x y) {B s n : Nat} {e : TypeId} {xs : List Value} {o : Obj} (hu : W.ownsRow B e s u n xs) (he : e ≠ 53) (hg : (W.alloc o).grownBy w3 u.ownBlock) : PBx w3 p vB vP vH vW x y :=
  h.move (grown_keep hg h.lt (own_ne hu h.typ he))

theorem ne_set {W : World} {p a b : Nat} {z : Value} (h : a ≠ b) : (W.setCell ⟨p, b, none⟩ z).cell? ⟨p, a, none⟩ = W.cell? ⟨p, a, none⟩ := World.cell?_setCell_other _ _ _ _ (by intro e; simp only [Addr.mk.injEq] at e; omega)
theorem PBx.set0 (h : PBx W p vB vP vH vW x y) (z : Value) : PBx (W.setCell ⟨p, 0, none⟩ z) p z vP vH vW x y :=
  ⟨World.cell?_setCell_same _ _ _ h.c0, (ne_set (by decide)).trans h.c1, (ne_set (by decide)).trans h.c2, (ne_set (by decide)).trans h.c3, (ne_set (by decide)).trans h.c4, (ne_set (by decide)).trans h.c5, fun j => by rw [World.frozen?_setCell]; exact h.free j, typ_set h.typ⟩
theorem PBx.set1 (h : PBx W p vB vP vH vW x y) (z : Value) : PBx (W.setCell ⟨p, 1, none⟩ z) p vB z vH vW x y :=
  ⟨(ne_set (by decide)).trans h.c0, World.cell?_setCell_same _ _ _ h.c1, (ne_set (by decide)).trans h.c2, (ne_set (by decide)).trans h.c3, (ne_set (by decide)).trans h.c4, (ne_set (by decide)).trans h.c5, fun j => by rw [World.frozen?_setCell]; exact h.free j, typ_set h.typ⟩
theorem PBx.set2 (h : PBx W p vB vP vH vW x y) (z : Value) : PBx (W.setCell ⟨p, 2, none⟩ z) p vB vP z vW x y :=
  ⟨(ne_set (by decide)).trans h.c0, (ne_set (by decide)).trans h.c1, World.cell?_setCell_same _ _ _ h.c2, (ne_set (by decide)).trans h.c3, (ne_set (by decide)).trans h.c4, (ne_set (by decide)).trans h.c5, fun j => by rw [World.frozen?_setCell]; exact h.free j, typ_set h.typ⟩
theorem PBx.set3 (h : PBx W p vB vP vH vW x y) (z : Value) : PBx (W.setCell ⟨p, 3, none⟩ z) p vB vP vH z x y :=
  ⟨(ne_set (by decide)).trans h.c0, (ne_set (by decide)).trans h.c1, (ne_set (by decide)).trans h.c2, World.cell?_setCell_same _ _ _ h.c3, (ne_set (by decide)).trans h.c4, (ne_set (by decide)).trans h.c5, fun j => by rw [World.frozen?_setCell]; exact h.free j, typ_set h.typ⟩
end

/-- the result's block, the plan's block, its lists -/
structure Sh (w W : World) (vB : Value) (vs : List Value) (bs : List (List Int)) (vP : Value) (ps : List Int) (vH : Value) (hs : List Int) : Prop where
  bel : Below w.heap.size w W
  res : PBx W w.heap.size (.slice none 0 0) (.slice none 0 0) (.slice none 0 0) (.slice none 0 0) 0 0
  box : PBx W (w.heap.size + 1) vB vP vH (.slice none 0 0) 0 0
  pls : PlS W w.heap.size vB vs bs vP ps vH hs

section
variable {W W' w3 w : World} {vB vP vH v' u : Value} {vs : List Value} {bs : List (List Int)} {ps hs l : List Int} {o : Obj} {x : Int}
theorem Sh.below (h : Sh w W vB vs bs vP ps vH hs) (hb : Below W.heap.size W W') : Sh w W' vB vs bs vP ps vH hs := ⟨bt h.bel hb, h.res.below hb, h.box.below hb, h.pls.below hb⟩
theorem Sh.start (w : World) : Sh w ((w.alloc (.cells #[.slice none 0 0, .slice none 0 0, .slice none 0 0, .slice none 0 0, .int .i64 0, .int .i64 0] 53)).alloc (.cells #[.slice none 0 0, .slice none 0 0, .slice none 0 0, .slice none 0 0, .int .i64 0, .int .i64 0] 53)) (.slice none 0 0) [] [] (.slice none 0 0) [] (.slice none 0 0) [] := by
  have mk : ∀ W : World, PBx (W.alloc (.cells #[.slice none 0 0, .slice none 0 0, .slice none 0 0, .slice none 0 0, .int .i64 0, .int .i64 0] 53)) W.heap.size (.slice none 0 0) (.slice none 0 0) (.slice none 0 0) (.slice none 0 0) 0 0 := fun W => by
    have hb := heap_alloc_new W (.cells #[.slice none 0 0, .slice none 0 0, .slice none 0 0, .slice none 0 0, .int .i64 0, .int .i64 0] 53)
    refine ⟨?_, ?_, ?_, ?_, ?_, ?_, fun j => by unfold World.frozen?; rw [hb]; simp, ⟨_, hb⟩⟩
    all_goals rw [cell_of_row _ _ _ _ _ _ hb]; rfl
  refine ⟨((Below.refl _ _).alloc (Nat.le_refl _) _).alloc (by simp) _, (mk w).below ((Below.refl _ _).alloc (Nat.le_refl _) _), ?_, PlS.start _ _⟩
  have := mk (w.alloc (.cells #[.slice none 0 0, .slice none 0 0, .slice none 0 0, .slice none 0 0, .int .i64 0, .int .i64 0] 53))
  rw [World.size_alloc] at this
  exact this

theorem Sh.step0 (h : Sh w W vB vs bs vP ps vH hs) {e : TypeId} {s n : Nat} {xs : List Value} (hr : W.ownsRow w.heap.size e s u n xs) (he : e ≠ 53) (hg : (W.alloc o).grownBy w3 u.ownBlock) : Below w.heap.size w w3 ∧ PBx w3 w.heap.size (.slice none 0 0) (.slice none 0 0) (.slice none 0 0) (.slice none 0 0) 0 0 ∧ PBx w3 (w.heap.size + 1) vB vP vH (.slice none 0 0) 0 0 :=
  ⟨(h.bel.alloc h.bel.size o).grown hg (by simp; have := h.bel.size; omega) (fun k hk => (hr.lt k hk).1), h.res.grown hr he hg, h.box.grown hr he hg⟩
theorem Sh.pushB (h : Sh w W vB vs bs vP ps vH hs) (hu : W.ownsRow w.heap.size 3 1 u l.length (l.map (Value.int .i64))) (aP : Ap u vP) (aH : Ap u vH) (aB : ∀ i, i < bs.length → Ap (vs.getD i undef) u)
    (hown : w3.ownsRow w.heap.size 23 1 v' (bs.length + 1) (vs ++ [u])) (hg : (W.alloc o).grownBy w3 vB.ownBlock) : Sh w (w3.setCell ⟨w.heap.size + 1, 0, none⟩ v') v' (vs ++ [u]) (bs ++ [l]) vP ps vH hs := by
  obtain ⟨h1, h2, h3⟩ := h.step0 h.pls.rl.own (by decide) hg
  exact ⟨h1.setCell (Nat.le_succ _) _, h2.other (by omega) _, h3.set0 _, (h.pls.growB hu aP aH aB hown hg).store h3.typ ⟨by decide, by decide⟩ _⟩
theorem Sh.pushP (h : Sh w W vB vs bs vP ps vH hs) (hown : w3.ownsRow w.heap.size 3 1 v' (ps.length + 1) (ps.map (Value.int .i64) ++ [.int .i64 x])) (hg : (W.alloc o).grownBy w3 vP.ownBlock) (hat : ∀ g, v'.ownBlock = some g → vP.ownBlock = some g ∨ W.heap.size ≤ g) : Sh w (w3.setCell ⟨w.heap.size + 1, 1, none⟩ v') vB vs bs v' (ps ++ [x]) vH hs := by
  obtain ⟨h1, h2, h3⟩ := h.step0 h.pls.ownP (by decide) hg
  exact ⟨h1.setCell (Nat.le_succ _) _, h2.other (by omega) _, h3.set1 _, (h.pls.growP hown hg hat).store h3.typ ⟨by decide, by decide⟩ _⟩
theorem Sh.pushH (h : Sh w W vB vs bs vP ps vH hs) (hown : w3.ownsRow w.heap.size 3 1 v' (hs.length + 1) (hs.map (Value.int .i64) ++ [.int .i64 x])) (hg : (W.alloc o).grownBy w3 vH.ownBlock) (hat : ∀ g, v'.ownBlock = some g → vH.ownBlock = some g ∨ W.heap.size ≤ g) : Sh w (w3.setCell ⟨w.heap.size + 1, 2, none⟩ v') vB vs bs vP ps v' (hs ++ [x]) := by
  obtain ⟨h1, h2, h3⟩ := h.step0 h.pls.ownH (by decide) hg
  exact ⟨h1.setCell (Nat.le_succ _) _, h2.other (by omega) _, h3.set2 _, (h.pls.growH hown hg hat).store h3.typ ⟨by decide, by decide⟩ _⟩
end

def bagsE (es : List (List Int)) (o : List Int) (i : Nat) : List (List Int) := (List.range i).map (bagE es o)
def parsE (es : List (List Int)) (o : List Int) (i : Nat) : List Int := (List.range i).map fun j => firstP (bagE es o j) o (j + 1)
def homesE (es : List (List Int)) (o : List Int) (j : Nat) : List Int := (List.range j).map fun q => firstP (es.getD q []) o 0
theorem bagsE_succ (es : List (List Int)) (o : List Int) (i : Nat) : bagsE es o (i + 1) = bagsE es o i ++ [bagE es o i] := by unfold bagsE; rw [List.range_succ, List.map_append]; rfl
theorem parsE_succ (es : List (List Int)) (o : List Int) (i : Nat) : parsE es o (i + 1) = parsE es o i ++ [firstP (bagE es o i) o (i + 1)] := by unfold parsE; rw [List.range_succ, List.map_append]; rfl
theorem homesE_succ (es : List (List Int)) (o : List Int) (i : Nat) : homesE es o (i + 1) = homesE es o i ++ [firstP (es.getD i []) o 0] := by unfold homesE; rw [List.range_succ, List.map_append]; rfl
theorem bagsE_len (es : List (List Int)) (o : List Int) (i : Nat) : (bagsE es o i).length = i := by simp [bagsE]
theorem parsE_len (es : List (List Int)) (o : List Int) (i : Nat) : (parsE es o i).length = i := by simp [parsE]
theorem homesE_len (es : List (List Int)) (o : List Int) (i : Nat) : (homesE es o i).length = i := by simp [homesE]

end Go.Proofs.Ytnmcgbfhgmmcpaa
