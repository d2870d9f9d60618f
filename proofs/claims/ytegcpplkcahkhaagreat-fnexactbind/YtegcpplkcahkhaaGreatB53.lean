import Derived.Test.YtegcpplkcahkhaaGreatB13
import Derived.Test.YtegcpplkcahkhaaGreatB52
/-
  laws.markData on a copy: cells keep their kind, only the copy's own blocks are turned; laws.markQuery at any number.
-/
namespace Go.Proofs.YtegcpplkcahkhaaGreat
open Go.RowKit

/-- a relation's cells and lists -/
structure ShR (lo hi : Nat) (W : World) (g i : Nat) (r : RelV) : Prop where
  c0 : ∃ s, W.cell? ⟨g, i * 4, none⟩ = some (.string s)
  c1 : ∃ x, W.cell? ⟨g, i * 4 + 1, none⟩ = some (.int .i64 x)
  f0 : W.frozen? ⟨g, i * 4, none⟩ = false
  f1 : W.frozen? ⟨g, i * 4 + 1, none⟩ = false
  rows : ∃ G, W.cell? ⟨g, i * 4 + 2, none⟩ = some (.slice (some ⟨G, 0, none⟩) r.rows.length r.rows.length) ∧ ShSS lo hi W G r.rows.length (fun j => (r.rows.getD j []).length)
  ws : ∃ c, W.cell? ⟨g, i * 4 + 3, none⟩ = some (.slice (some ⟨c, 0, none⟩) r.ws.length r.ws.length) ∧ ShI lo hi W c r.ws.length
theorem ShR.kp {lo hi : Nat} {W W' : World} {g i : Nat} {r : RelV} (h : ShR lo hi W g i r) (k : Mk lo hi W W') : ShR lo hi W' g i r := by
  obtain ⟨s, e0⟩ := h.c0
  obtain ⟨x, e1⟩ := h.c1
  have hg := World.block_lt_of_cell? W _ e0
  obtain ⟨G, e2, h2⟩ := h.rows
  obtain ⟨c, e3, h3⟩ := h.ws
  exact ⟨k.str _ _ _ e0, k.num _ _ _ e1, k.froz _ _ hg h.f0, k.froz _ _ hg h.f1, ⟨G, k.sl _ _ _ _ _ e2, h2.kp k⟩, ⟨c, k.sl _ _ _ _ _ e3, h3.kp k⟩⟩
def ShD (lo hi : Nat) (W : World) (g : Nat) (ds : List RelV) : Prop := ∀ i, i < ds.length → ShR lo hi W g i (ds.getD i noRel)
theorem ShD.kp {lo hi : Nat} {W W' : World} {g : Nat} {ds : List RelV} (h : ShD lo hi W g ds) (k : Mk lo hi W W') : ShD lo hi W' g ds := fun i hi => (h i hi).kp k
theorem HalfR.sh {W : World} {g : Nat} {ds : List RelV} (h : HalfR W g ds.length ds.length ds) : ShD g W.heap.size W g ds := fun i hi => by
  obtain ⟨ur, uw, c0, c1, c2, c3, g1, g2, f, rfl, rfl, hH, hO, hB, hlt⟩ := h.copy i hi
  refine ⟨⟨_, c0⟩, ⟨_, c1⟩, h.free _ (by omega), h.free _ (by omega), ⟨g1, c2, fun j hj => ?_⟩, ⟨g2, c3, hO.sh (by omega) hO.lt⟩⟩
  have e := hH.cell j hj
  rw [if_pos hj] at e
  have hg := hH.gt j hj
  exact ⟨f j, e, (hH.own j hj).sh (by omega) (hH.own j hj).lt⟩

set_option maxHeartbeats 4000000 in
set_option maxRecDepth 1000000 in
theorem markRelationS_mk (w : World) (lo hi g cap k : Nat) (ds : List RelV) (h : ShD lo hi w g ds) (hlo : lo ≤ g) (hhi : g < hi) (hr : rtot ds ds.length ≤ 1048576) (hk0 : 0 < k) (hk : k ≤ 1000) :
    Calls Tryz.prog 37 #[.slice (some ⟨g, 0, none⟩) ds.length cap, .int .i64 (k : Int)] w fun e w' => ∃ z : Nat, e = .returned (.int .i64 (z : Int)) ∧ 0 < z ∧ z ≤ 2500000 ∧ Mk lo hi w w' := by
  have HS := hid h
  have hn0 : ds.length ≤ 1048576 := by have := rtot_le ds ds.length 0 (by omega); rw [rtot_zero] at this; omega
  have HT : Hid (∀ j, j ≤ ds.length → rtot ds j ≤ 1048576) := hid fun j hj => Nat.le_trans (rtot_le ds (ds.length - j) j (by omega)) hr
  have HZ : Hid (ds.length ≤ rtot ds 0) := hid (by rw [rtot_zero]; exact Nat.le_refl _)
  have HSt : Hid (∀ j, j < ds.length → rtot ds (j + 1) = rtot ds j + relSz (ds.getD j noRel)) := hid fun j hj => rtot_succ ds j hj
  obtain ⟨n, hn⟩ : ∃ n, n = ds.length := ⟨_, rfl⟩
  have HSn : Hid (∀ wr, Mk lo hi w wr → ∀ i, i < n → ShR lo hi wr g i (ds.getD i noRel)) := hid fun wr hm i hi => (HS.out.kp hm) i (by omega)
  rw [← hn] at HT HZ HSt hn0 ⊢
  clear h hr hn HS
  go_enter Tryz.func37, Tryz.ntmps37
  go_wp2
  go_loopw [1, 5] (fun u t wr => ∃ j : Nat, j ≤ n ∧ t = .int .i64 j ∧ ∃ c : Nat, u = .int .i64 (c : Int) ∧ 0 < c ∧ c ≤ 2500000 ∧ Hid (c + n ≤ k + 2 * j + rtot ds j ∧ Mk lo hi w wr)) (fun _ t _ => n - (intOf t).toNat)
  case atStart => exact ⟨0, Nat.zero_le _, rfl, k, rfl, hk0, by omega, hid ⟨by have := HZ.out; omega, Mk.refl _ _ _⟩⟩
  case round =>
    obtain ⟨j, hj, rfl, c, rfl, hc0, hc1, hok⟩ := hrel
    by_cases hjn : j < n
    · have i1 : (j : Int) < (n : Int) := by omega
      have HM := hid hok.out.2
      have hcn := hok.out.1
      have ht1 := HT.out (j + 1) (by omega)
      have hst := HSt.out j hjn
      have hR := HSn.out wr HM.out j hjn
      have HSj : Hid (∀ wr, Mk lo hi w wr → ShR lo hi wr g j (ds.getD j noRel)) := hid fun wr hm => HSn.out wr hm j hjn
      generalize ds.getD j noRel = r at *
      have hs1 : relSz r = r.name.size + tot r.rows r.rows.length + r.ws.length := rfl
      have hs2 := sumN_tot r.rows r.rows.length (Nat.le_refl _)
      have KM := hid (markText_calls wr c hc0 (by omega))
      have KS : Hid (∀ (w2 : World) (y : ByteArray), Below wr.heap.size wr w2 → (∃ s, w2.cell? ⟨g, j * 4, none⟩ = some (.string s)) ∧ w2.frozen? ⟨g, j * 4, none⟩ = false ∧ Mk lo hi w (w2.setCell ⟨g, j * 4, none⟩ (.string y))) := hid fun w2 y hb => by
        have hm := HM.out.trans (Mk.of_below (lo := lo) (hi := hi) hb)
        have hr2 := HSj.out w2 hm
        obtain ⟨s, e⟩ := hr2.c0
        exact ⟨⟨s, e⟩, hr2.f0, hm.trans (Mk.setS e hlo hhi)⟩
      have HR2 : Hid (∀ z : Nat, z = c + 2 + sumN (fun j => (r.rows.getD j []).length) r.rows.length + r.ws.length → 0 < z ∧ z ≤ 2500000 ∧ z + n ≤ k + 2 * (j + 1) + rtot ds (j + 1)) := hid fun z hz => by rw [hst]; omega
      have hl1 : r.rows.length ≤ 1048576 ∧ sumN (fun j => (r.rows.getD j []).length) r.rows.length ≤ 1048576 ∧ r.ws.length ≤ 1048576 := by omega
      clear hok hcn ht1 hst hR hs1 hs2
      go_wp2_with fail
      refine KM.out.mono ?_
      rintro e w2 ⟨rfl, hb2⟩
      generalize mkT c = y at *
      obtain ⟨⟨s, c0⟩, f0, hm3⟩ := KS.out w2 y hb2
      have HM3 := hid hm3
      clear KM KS hb2 hm3 HM
      go_upto_region 5 with fail
      clear c0 f0
      generalize w2.setCell ⟨g, j * 4, none⟩ (.string y) = w3 at *
      have hR3 := HSj.out w3 HM3.out
      obtain ⟨x, c1⟩ := hR3.c1
      have f1 := hR3.f1
      clear hR3
      have HM4 : Hid (∀ y : Int, Mk lo hi w (w3.setCell ⟨g, j * 4 + 1, none⟩ (.int .i64 y))) := hid fun y => HM3.out.trans (Mk.setI c1 hlo hhi)
      go_upto_region 7 with fail
      clear c1 f1 HM3
      obtain ⟨w4, hw4⟩ : ∃ W, W = w3.setCell ⟨g, j * 4 + 1, none⟩ (.int .i64 ((c : Int) + 1)) := ⟨_, rfl⟩
      have HM5 : Hid (Mk lo hi w w4) := hid (by rw [hw4]; exact HM4.out _)
      rw [← hw4]
      clear hw4 HM4
      obtain ⟨G, c2, hG⟩ := (HSj.out w4 HM5.out).rows
      have KRo := hid (markIntSS_mk w4 lo hi G r.rows.length r.rows.length (c + 2) _ hG hl1.1 hl1.2.1 (by omega))
      have HSj2 : Hid (∀ wr, Mk lo hi w wr → ∃ c, wr.cell? ⟨g, j * 4 + 3, none⟩ = some (.slice (some ⟨c, 0, none⟩) r.ws.length r.ws.length) ∧ ShI lo hi wr c r.ws.length) := hid fun wr hm => (HSj.out wr hm).ws
      clear hG HSj
      generalize hSS : sumN (fun j => (r.rows.getD j []).length) r.rows.length = S at *
      clear hSS
      generalize r.rows.length = m1 at *
      generalize r.ws.length = m2 at *
      have ec : ((c + 2 : Nat) : Int) = (c : Int) + 1 + 1 := by omega
      rw [ec] at KRo
      go_wp2_with fail
      refine KRo.out.mono ?_
      rintro e w5 ⟨rfl, hm5⟩
      have HM6 := hid (HM5.out.trans hm5)
      clear hm5 KRo c2 HM5
      obtain ⟨d, c3, hd⟩ := HSj2.out w5 HM6.out
      have KW := hid (markIntS_mk w5 lo hi d m2 m2 (c + 2 + S) hd (by omega) (by omega))
      clear hd HSj2
      go_wp2_with fail
      refine KW.out.mono ?_
      rintro e w6 ⟨rfl, hm6⟩
      have HM7 := hid (HM6.out.trans hm6)
      have hz := HR2.out _ rfl
      clear hm6 KW c3 HM6 HR2
      go_wp2_with fail
      go_roundw
      case rel => exact ⟨j + 1, by omega, by go_num, _, rfl, hz.1, hz.2.1, hid ⟨hz.2.2, HM7.out⟩⟩
      case measure => simp [intOf]; omega
    · obtain rfl : j = n := by omega
      have i1 : ¬ ((j : Int) < (j : Int)) := by omega
      go_wp2
      go_ret
      first | exact ⟨c, rfl, hc0, hc1, hok.out.2⟩ | exact ⟨⟨c, rfl⟩, hc0, hc1, hok.out.2⟩

set_option maxHeartbeats 1000000 in
set_option maxRecDepth 1000000 in
theorem markData_mk (w : World) (lo hi g cap : Nat) (ds : List RelV) (h : ShD lo hi w g ds) (hlo : lo ≤ g) (hhi : g < hi) (hr : rtot ds ds.length ≤ 1048576) :
    Calls Tryz.prog 13 #[.agg #[.slice (some ⟨g, 0, none⟩) ds.length cap], .int .i64 1] w fun e w' => ∃ z : Nat, e = .returned (.int .i64 (z : Int)) ∧ 0 < z ∧ z ≤ 2500000 ∧ Mk lo hi w w' := by
  have HB : Hid (Mk lo hi w (w.alloc (.cells #[.slice (some ⟨g, 0, none⟩) ds.length cap] 35))) := hid (Mk.of_below ((Below.refl _ _).alloc (Nat.le_refl _) _))
  have K := hid (markRelationS_mk (w.alloc (.cells #[.slice (some ⟨g, 0, none⟩) ds.length cap] 35)) lo hi g cap 1 ds (h.kp HB.out) hlo hhi hr (by omega) (by omega))
  clear h hr
  generalize ds.length = n at *
  go_enter Tryz.func13, Tryz.ntmps13
  go_wp2_with fail
  refine K.out.mono ?_
  rintro e w2 ⟨z, rfl, h0, h1, hm⟩
  have HN := hid (HB.out.trans hm)
  clear hm K HB
  go_wp2_with fail
  go_ret
  first | exact ⟨z, rfl, h0, h1, HN.out⟩ | exact ⟨⟨z, rfl⟩, h0, h1, HN.out⟩

set_option maxHeartbeats 4000000 in
set_option maxRecDepth 1000000 in
theorem markQueryK_calls (w : World) (k lo gh ga hi : Nat) (hk0 : 0 < k) (hkk : k ≤ 3000000) (q : QV) (hH : OwnSt w gh q.head) (hS : ShAt w ga q.atoms.length hi (fun i => (q.atoms.getD i noAt).2.length)) (hlo : lo ≤ gh) (hla : gh < ga) (hgah : ga < hi) (hq : OkQ q) :
    Calls Tryz.prog 14 #[.agg #[.string q.name, .slice (some ⟨gh, 0, none⟩) q.head.length q.head.length, .int .i64 q.ring, .slice (some ⟨ga, 0, none⟩) q.atoms.length q.atoms.length], .int .i64 (k : Int)] w fun e w' => ∃ k' : Nat, e = .returned (.int .i64 k') ∧ Fr lo hi w w' := by
  have HB := hid ((Below.refl w.heap.size w).alloc (Nat.le_refl _) (.cells #[.string q.name, .slice (some ⟨gh, 0, none⟩) q.head.length q.head.length, .int .i64 q.ring, .slice (some ⟨ga, 0, none⟩) q.atoms.length q.atoms.length] 39))
  have hO := hH.below HB.out
  have hgh := hH.lt
  obtain ⟨W1, hW1⟩ : ∃ W, W = w.alloc (.cells #[.string q.name, .slice (some ⟨gh, 0, none⟩) q.head.length q.head.length, .int .i64 q.ring, .slice (some ⟨ga, 0, none⟩) q.atoms.length q.atoms.length] 39) := ⟨_, rfl⟩
  have c1 : W1.cell? ⟨w.heap.size, 1, none⟩ = some (.slice (some ⟨gh, 0, none⟩) q.head.length q.head.length) := by rw [hW1, World.cell?_alloc_at _ _ _ _ rfl]; rfl
  have c3 : W1.cell? ⟨w.heap.size, 3, none⟩ = some (.slice (some ⟨ga, 0, none⟩) q.atoms.length q.atoms.length) := by rw [hW1, World.cell?_alloc_at _ _ _ _ rfl]; rfl
  have hsz : w.heap.size < W1.heap.size := by rw [hW1]; simp
  rw [← hW1] at HB hO
  have hsh : ShAt W1 ga q.atoms.length hi (fun i => (q.atoms.getD i noAt).2.length) := fun i hi => by
    rw [hW1]; exact (hS i hi).bel ((Below.refl _ _).alloc (Nat.le_refl _) _)
  have HSH := hid hsh
  have KH := hid (markStringS_calls W1 gh q.head.length q.head.length k (fun j hj => ⟨_, hO.cell j hj⟩) (fun j hj => hO.free j hj) hO.lt (by have := hq.len; omega) (by omega) (by omega))
  have HLN : Hid (∀ i, i < q.atoms.length → (q.atoms.getD i noAt).2.length ≤ 1048576) := hid (fun i hi => (hq.atoms i hi).len)
  have hal := hq.alen
  have hhl := hq.len
  clear hH hS hO hsh hq
  generalize q.name = nm at *
  generalize q.ring = rg at *
  go_enter Tryz.func14, Tryz.ntmps14
  go_upto_region 1 with fail
  rw [← hW1]
  clear hW1
  go_wp2_with fail
  refine KH.out.mono ?_
  rintro e w2 ⟨rfl, hK2, -⟩
  have d3 : w2.cell? ⟨w.heap.size, 3, none⟩ = some (.slice (some ⟨ga, 0, none⟩) q.atoms.length q.atoms.length) := (World.cell?_of_block (w := W1) (a := ⟨w.heap.size, 3, none⟩) (hK2.block w.heap.size hsz (by omega))).trans c3
  have HF2 : Hid (Fr lo hi w w2) := hid (((Fr.refl lo hi w).bel HB.out).kg hK2 hlo (by omega))
  have K := hid (markAtomS_calls w2 ga q.atoms.length q.atoms.length (k + q.head.length) hi (fun i => (q.atoms.getD i noAt).2.length) (fun i hi => (HSH.out i hi).kg hK2 (by omega)) HLN.out hgah hal (by omega) (by omega))
  clear hK2 KH HSH c1 c3
  go_wp2_with fail
  refine K.out.mono ?_
  rintro e w3 ⟨k', rfl, hF3⟩
  have HF3 : Hid (Fr lo hi w w3) := hid (HF2.out.trans ⟨hF3.os, hF3.tape, hF3.output, hF3.size, fun b hb h => hF3.block b hb (h.imp (fun h => by omega) (fun h => h))⟩)
  clear hF3 K
  go_wp2
  go_ret
  first | exact ⟨⟨_, rfl⟩, HF3.out⟩ | exact HF3.out | exact ⟨_, rfl, HF3.out⟩

end Go.Proofs.YtegcpplkcahkhaaGreat
