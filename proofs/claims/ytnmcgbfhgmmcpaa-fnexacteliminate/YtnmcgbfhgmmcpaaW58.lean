import Derived.Deep.CutRange
import Derived.Deep.RegionLaw
import Derived.Test.YtnmcgbfhgmmcpaaW57
/-
  What impl.planOf wants besides: arguments read behind a map's change; a bag's block; a graph laid into its block.
-/
namespace Go.Proofs.Ytnmcgbfhgmmcpaa
open Go.RowKit

theorem cell_ne_map {w : World} {b : Nat} {ks : List (Nat → Bool)} (hC : Cvs w b ks) {p : Addr} {u : Value} (h : w.cell? p = some u) : p.block ≠ b := by
  rintro rfl
  obtain ⟨D, ⟨es, clock, hb', -⟩, -⟩ := hC
  unfold World.cell? at h
  rw [hb'] at h
  cases h
theorem IS.kb {w W : World} {b : Nat} {ks : List (Nat → Bool)} {v : Value} {l : List Int} (hC : Cvs w b ks) (h : IS w v l) (hK : Kb b w W) : IS W v l := by
  obtain ⟨a, cap, rfl, h⟩ := h
  refine ⟨a, cap, rfl, ?_⟩
  rcases h with h | ⟨q, o, rfl, h⟩
  · exact Or.inl h
  · exact Or.inr ⟨q, o, rfl, fun j hj => (hK.cell (p := ⟨q, o + j, none⟩) (World.block_lt_of_cell? w _ (h j hj)) (cell_ne_map hC (h j hj))).trans (h j hj)⟩
theorem ISS.kb {w W : World} {b : Nat} {ks : List (Nat → Bool)} {v : Value} {ls : List (List Int)} (hC : Cvs w b ks) (h : ISS w v ls) (hK : Kb b w W) : ISS W v ls := by
  obtain ⟨a, cap, rfl, h⟩ := h
  refine ⟨a, cap, rfl, ?_⟩
  rcases h with h | ⟨q, o, rfl, h⟩
  · exact Or.inl h
  · refine Or.inr ⟨q, o, rfl, fun j hj => ?_⟩
    obtain ⟨u, h1, h2⟩ := h j hj
    exact ⟨u, (hK.cell (p := ⟨q, o + j, none⟩) (World.block_lt_of_cell? w _ h1) (cell_ne_map hC h1)).trans h1, h2.kb hC hK⟩

/-- a bag in a block of its own -/
def MB (W : World) (p : Nat) (m : Nat → Bool) : Prop := W.heap[p]? = some (.cells #[.bool (m 0), .bool (m 1), .bool (m 2), .bool (m 3), .bool (m 4), .bool (m 5)] 134 (0, 0))
section
variable {W W' w3 : World} {p : Nat} {m : Nat → Bool}
theorem MB.made (W : World) (m : Nat → Bool) : MB (W.alloc (.cells #[.bool (m 0), .bool (m 1), .bool (m 2), .bool (m 3), .bool (m 4), .bool (m 5)] 134)) W.heap.size m := heap_alloc_new _ _
theorem MB.move (h : MB W p m) (e : W'.heap[p]? = W.heap[p]?) : MB W' p m := e.trans h
theorem MB.lt (h : MB W p m) : p < W.heap.size := lt_of_heap h
theorem MB.below (h : MB W p m) (hb : Below W.heap.size W W') : MB W' p m := h.move (hb.block p h.lt)
theorem MB.cell (h : MB W p m) {j : Nat} (hj : j < 6) : W.cell? ⟨p, j, none⟩ = some (.bool (m j)) := by
  unfold MB at h
  rw [cell_of_row _ _ _ _ _ _ h]
  exact memA_get m hj
theorem MB.grown (h : MB W p m) {B s n : Nat} {e : TypeId} {u : Value} {xs : List Value} {o : Obj} (hu : W.ownsRow B e s u n xs) (he : e ≠ 134) (hg : (W.alloc o).grownBy w3 u.ownBlock) : MB w3 p m :=
  h.move (grown_keep hg h.lt (own_ne hu ⟨_, h⟩ he))
theorem MB.other (h : MB W p m) {q off : Nat} (hq : p ≠ q) (z : Value) : MB (W.setCell ⟨q, off, none⟩ z) p m := h.move (Below.heap_setCell _ _ _ _ hq)
theorem MB.ne {b : Nat} {ks : List (Nat → Bool)} (h : MB W p m) (hC : Cvs W b ks) : p ≠ b := by
  rintro rfl
  obtain ⟨D, ⟨es, clock, hb', -⟩, -⟩ := hC
  unfold MB at h
  rw [hb'] at h
  cases h
theorem MB.cov {b : Nat} {ks : List (Nat → Bool)} (h : MB W p m) (hC : Cvs W b ks) (hK : Kb b W W') : MB W' p m := h.move (hK.block p h.lt (h.ne hC))
end

theorem typ_setCells {e : TypeId} {c : Nat} : ∀ (vs : List Value) (o : Nat) (W : World), (∃ cur, W.heap[c]? = some (.cells cur e (0, 0))) → ∃ cur, (W.setCells c o vs).heap[c]? = some (.cells cur e (0, 0))
  | [], _, _, h => h
  | _ :: r, o, _, h => typ_setCells r (o + 1) _ (typ_set h)
theorem free_typ {W : World} {c : Nat} {e : TypeId} (h : ∃ cur, W.heap[c]? = some (.cells cur e (0, 0))) (a : Nat) : W.frozen? ⟨c, a, none⟩ = false := by
  obtain ⟨cur, h⟩ := h
  unfold World.frozen?
  rw [h]
  simp

/-- the graph's 36 cells in a block made for them -/
theorem gat_made (W : World) (G : Nat → Nat → Bool) : GAt ((W.alloc (.cells (arrV 36 (fun _ => .bool false)).toArray 136)).setCells W.heap.size 0 (graV G)) W.heap.size G ∧ Below W.heap.size W ((W.alloc (.cells (arrV 36 (fun _ => .bool false)).toArray 136)).setCells W.heap.size 0 (graV G)) := by
  have h0 := arrAt_alloc W 36 (fun _ => .bool false) 136
  have hlen : (graV G).length = 36 := arrV_length _ _
  have ht : (W.alloc (.cells (arrV 36 (fun _ => .bool false)).toArray 136)).there W.heap.size 0 (graV G).length := by rw [hlen]; exact h0.there
  have hr := World.rangeAt_setCells_same (W.alloc (.cells (arrV 36 (fun _ => .bool false)).toArray 136)) W.heap.size 0 (graV G) ht
  have hty := typ_setCells (graV G) 0 (W.alloc (.cells (arrV 36 (fun _ => .bool false)).toArray 136)) ⟨_, heap_alloc_new _ _⟩
  refine ⟨ArrAt.gat ⟨fun j hj => ?_, fun j hj => free_typ hty j⟩ hty, below_setCells' (Nat.le_refl _) _ _ _ ((Below.refl _ _).alloc (Nat.le_refl _) _)⟩
  have := hr j (grF G j) (by unfold graV arrV; rw [List.getElem?_map, List.getElem?_range hj]; rfl)
  rw [Nat.zero_add] at this
  exact this

/-- the state at the head of planOf's loop -/
theorem Si.start {w W W' : World} {b g : Nat} {G : Nat → Nat → Bool} (h : Sh w W (.slice none 0 0) [] [] (.slice none 0 0) [] (.slice none 0 0) []) (hC : Cvs w b []) (hb : Below W.heap.size W W') (hG : GAt W' g G) (hg : W.heap.size ≤ g) : Si w W' b g (.slice none 0 0) [] [] (.slice none 0 0) [] (.slice none 0 0) [] (.slice none 0 0) [] [] G := by
  have h' := h.below hb
  have h2 := h.box.lt
  exact ⟨Kb.of_below h'.bel, hC.lt, by omega, h'.res, h'.box, h'.pls, World.ownsRow_nil _ _ _ _, hG, hC.bel h'.bel⟩

end Go.Proofs.Ytnmcgbfhgmmcpaa

/-
  impl.planOf.
-/
namespace Go.Proofs.Ytnmcgbfhgmmcpaa
open Go.RowKit

set_option maxHeartbeats 32000000 in
set_option maxRecDepth 1000000 in
theorem planOf_calls (w : World) (ve vo : Value) (es : List (List Int)) (o : List Int) (k b : Nat) (he : ISS w ve es) (hS : Short es) (ho : IS w vo o) (hO : Ord k es o) (hed : edgesB es = true) (hC : Cvs w b []) :
    Calls Try.prog 78 #[ve, vo, .map (some b)] w fun e w' => ∃ vB vs vP vH vW, e = .returned (.agg #[vB, vP, vH, vW, .int .i64 (mostN (wdE es o k) k).num, .int .i64 (mostN (wdE es o k) k).den]) ∧
      PlS w' w.heap.size vB vs (bagsE es o k) vP (parsE es o k) vH (homesE es o es.length) ∧ w'.ownsRow w.heap.size 28 2 vW k (rcs (prs k (wdE es o k))) ∧ Kb b w w' := by
  obtain ⟨i0, hit, hz0, hz1, hz2⟩ := info_parts Try.infoInt
  obtain ⟨iS, hj, hy0, hy1, hy2⟩ := info_parts Try.infoIS
  obtain ⟨iR, hr, hx0, hx1, hx2⟩ := info_parts Try.infoRatS
  have hk6 := hO.k6
  have hlen := hO.len
  have hes := edgesB_len hed
  have HIo : Hid (∀ W, Kb b w W → IS W vo o) := hid fun W hK => ho.kb hC hK
  have HIe : Hid (∀ W, Kb b w W → ISS W ve es) := hid fun W hK => he.kb hC hK
  have HS0 := hid (Sh.start w)
  have KG : Hid (∀ W, Below w.heap.size w W → Calls Try.prog 102 #[ve] W fun e w' => e = .returned (.agg (graV (adjB es)).toArray) ∧ Below W.heap.size W w') := hid fun W hW => graphOf_calls W ve es (he.below hW) hS (fun e he' x hx => by have := hO.low e he' x hx; omega)
  have KW : Hid (∀ W i, Kb b w W → Cvs W b (masksE es o i) → i < k → Calls Try.prog 106 #[.map (some b), memV (maskE es o i), ve] W fun e w' => e = .returned (.agg #[.int .i64 (wdE es o k i).num, .int .i64 (wdE es o k i).den]) ∧ Kb b W w' ∧ Cvs w' b (masksE es o (i + 1))) := hid fun W i hK hM hi => by
    rw [wdE_at hi]
    exact widthOf_calls W b (masksE es o i) (maskE es o i) ve es hM (by rw [masksE_len]; omega) (masks_miss hO hi) (HIe.out W hK) hS hed (bag_good hO hi).1
  have KP : Hid (∀ W u s p, Kb b w W → IS W u s → s.length ≤ 1099511627776 → p ≤ 100 → Calls Try.prog 105 #[u, vo, .int .i64 ((p : Nat) : Int)] W fun e w' => e = .returned (.int .i64 (firstP s o p)) ∧ w' = W) := hid fun W u s p hK hu hs hp => placeOfFirst_calls W u vo s o p hu (HIo.out W hK) hs (by omega) (by omega)
  have KM : Hid (∀ W v, IR W v (prs k (wdE es o k)) → Calls Try.prog 99 #[v] W fun e w' => e = .returned (.agg #[.int .i64 (mostN (wdE es o k) k).num, .int .i64 (mostN (wdE es o k) k).den]) ∧ Below W.heap.size W w') := hid fun W v hv => greatestOf_calls W v k (wdE es o k) hv (by omega) (fun i hi => by rw [wdE_at hi]; exact ((bag_good hO hi).1.sm hed).mono (by omega))
  have HAt := hid hO.at'
  have HSl := hid hS.2
  have hbl := hC.lt
  have HC0 := hid hC
  have HIe0 := hid he
  obtain ⟨ae, ce, rfl, hce⟩ := he
  obtain ⟨ao, co, rfl, hco⟩ := ho
  have HCo : Hid (∀ W, Kb b w W → ∀ j, j < k → ∃ q of, ao = some ⟨q, of, none⟩ ∧ W.cell? ⟨q, of + j, none⟩ = some (.int .i64 (oN o j : Nat))) := hid fun W hW j hj => by
    rcases hco with h0 | ⟨q, of, rfl, h⟩
    · omega
    · have h1 := h j (by omega)
      rw [(HAt.out j hj).1] at h1
      exact ⟨q, of, rfl, (hW.cell (World.block_lt_of_cell? w _ h1) (cell_ne_map hC h1)).trans h1⟩
  have HL6 : Hid (∀ i, oN o i < k → oN o i < 6) := hid fun i h => by omega
  rw [hlen] at *
  clear hce hco hO hS hed hlen hC
  generalize hF : wdE es o k = F at *
  clear hF
  go_enter Try.func78, Try.ntmps78
  go_upto_region 2 with fail
  generalize (w.alloc (.cells #[.slice none 0 0, .slice none 0 0, .slice none 0 0, .slice none 0 0, .int .i64 0, .int .i64 0] 53)).alloc (.cells #[.slice none 0 0, .slice none 0 0, .slice none 0 0, .slice none 0 0, .int .i64 0, .int .i64 0] 53) = W0 at *
  have KG0 := hid (KG.out W0 HS0.out.bel)
  go_wp2_with fail
  refine KG0.out.mono ?_
  rintro e w1 ⟨rfl, hb1⟩
  have hlen : (graV (adjB es)).length = 36 := arrV_length _ _
  have HTh : Hid ((w1.alloc (.cells (arrV 36 (fun _ => .bool false)).toArray 136)).there w1.heap.size 0 (graV (adjB es)).toArray.size) := by
    rw [show (graV (adjB es)).toArray.size = 36 by simpa using hlen]; exact (arrAt_alloc w1 36 (fun _ => .bool false) 136).there
  have HJ : Hid ((Try.prog.info? 136).map (·.size) = some (graV (adjB es)).toArray.size) := by
    show _ = _
    rw [show (graV (adjB es)).toArray.size = 36 by simpa using hlen]; exact infoG
  have HOc : Hid ((graV (adjB es)).toArray.all (·.oneCell') = true) := all_oneCell_toArray (fun u hu => by
    obtain ⟨i, _, rfl⟩ := List.mem_map.1 hu
    rfl)
  obtain ⟨hGm, hbm⟩ := gat_made w1 (adjB es)
  have HSi := hid (Si.start HS0.out HC0.out (bt hb1 hbm) hGm hb1.size)
  clear hGm hbm hb1 KG KG0 HS0 hlen
  generalize hcz : graV (adjB es) = cz at *
  go_upto_region 3 with (first | (refine wpList_alloc_g rfl rfl ?_) | (refine wpList_store_mid rfl 136 _ _ rfl w1.heap.size 0 cz.toArray (by rfl) (by rfl) (by exact HTh.out) (by exact HJ.out) (by exact HOc.out) ?_) | fail)
  clear HTh HJ HOc hcz
  obtain ⟨g, hg⟩ : ∃ g, g = w1.heap.size := ⟨_, rfl⟩
  rw [← hg] at HSi ⊢
  generalize (w1.alloc (.cells (arrV 36 (fun _ => .bool false)).toArray 136)).setCells g 0 cz = W1 at HSi ⊢
  clear hg
  go_wp2_with fail
  go_loopw [18] (fun t wr => ∃ i : Nat, i ≤ k ∧ t = .int .i64 i ∧ Hid (∃ vB vs vP vW, Si w wr b g vB vs (bagsE es o i) vP (parsE es o i) (.slice none 0 0) [] vW (prs i F) (masksE es o i) (Elim.gAt (adjB es) (oN o) i))) (fun t _ => k - (intOf t).toNat)
  case atStart => exact ⟨0, Nat.zero_le _, rfl, hid ⟨_, _, _, _, HSi.out⟩⟩
  case round =>
    clear HSi
    obtain ⟨i, hik, rfl, HT⟩ := hrel
    obtain ⟨vB, vs, vP, vW, hSi⟩ := HT.out
    have HSi := hid hSi
    clear HT hSi
    by_cases hi : i < k
    · have i1 : (i : Int) < (k : Int) := by omega
      obtain ⟨q, of, ea, c1⟩ := HCo.out wr HSi.out.kb i hi
      subst ea
      obtain ⟨x, hx⟩ : ∃ x, x = oN o i := ⟨_, rfl⟩
      have hx6 : x < 6 := by rw [hx]; exact HL6.out i (HAt.out i hi).2
      have KE := hid (eliminate_calls wr g (Elim.gAt (adjB es) (oN o) i) x HSi.out.gra hx6)
      have HMk : Elim.gAt (adjB es) (oN o) i x = maskE es o i := by rw [hx]; rfl
      have HGs : Elim.elimG x (Elim.gAt (adjB es) (oN o) i) = Elim.gAt (adjB es) (oN o) (i + 1) := by rw [hx]; rfl
      rw [HMk, HGs] at KE
      rw [← hx] at c1
      have KWi : Hid (∀ W, Kb b w W → Cvs W b (masksE es o i) → Calls Try.prog 106 #[.map (some b), memV (maskE es o i), .slice ae es.length ce] W fun e w' => e = .returned (.agg #[.int .i64 (F i).num, .int .i64 (F i).den]) ∧ Kb b W w' ∧ Cvs w' b (masksE es o (i + 1))) := hid fun W h1 h2 => KW.out W i h1 h2 hi
      have HBg : Hid (plc (maskE es o i) 6 = bagE es o i) := hid rfl
      have HBs := hid (bagsE_succ es o i)
      have HPs := hid (parsE_succ es o i)
      have HWs := hid (prs_succ i F)
      have hlB := bagsE_len es o i
      have hlP := parsE_len es o i
      have hlW := prs_length i F
      obtain ⟨m, hm⟩ : ∃ m, m = maskE es o i := ⟨_, rfl⟩
      rw [← hm] at KE KWi HBg
      clear hm HMk HGs hx
      go_wp2_with fail
      refine KE.out.mono ?_
      rintro e w2 ⟨rfl, hK2, hG2⟩
      have HSi2 := hid (HSi.out.elim hK2 hG2)
      clear c1 hK2 hG2 KE HSi hx6
      unfold memV
      go_upto_region 7 with fail
      have HAl : Hid (Below w2.heap.size w2 (w2.alloc (.cells #[.bool (m 0), .bool (m 1), .bool (m 2), .bool (m 3), .bool (m 4), .bool (m 5)] 134))) := hid ((Below.refl _ _).alloc (Nat.le_refl _) _)
      have HSi3 := hid (HSi2.out.below HAl.out)
      have HM3 := hid (MB.made w2 m)
      have hpb := HSi2.out.box.lt
      clear HSi2 HAl
      obtain ⟨p, hp⟩ : ∃ p, p = w2.heap.size := ⟨_, rfl⟩
      rw [← hp] at HM3 hpb ⊢
      clear hp
      generalize w2.alloc (.cells #[.bool (m 0), .bool (m 1), .bool (m 2), .bool (m 3), .bool (m 4), .bool (m 5)] 134) = W3 at *
      go_cut [18] from 18 to 55 (fun t wx => t = .int .i64 i ∧ Hid (∃ vB' vs', Si w wx b g vB' vs' (bagsE es o (i + 1)) vP (parsE es o i) (.slice none 0 0) [] vW (prs i F) (masksE es o i) (Elim.gAt (adjB es) (oN o) (i + 1)) ∧ MB wx p m))
      case first =>
        have b0 := HM3.out.cell (j := 0) (by decide)
        have b1 := HM3.out.cell (j := 1) (by decide)
        have b2 := HM3.out.cell (j := 2) (by decide)
        have b3 := HM3.out.cell (j := 3) (by decide)
        have b4 := HM3.out.cell (j := 4) (by decide)
        have b5 := HM3.out.cell (j := 5) (by decide)
        have c0 := HSi3.out.box.c0
        have hsz := HSi3.out.kb.size
        have KL : Hid (∀ W, Calls Try.prog 104 #[memV m] W fun e w' => ∃ v, e = .returned v ∧ w'.ownsRow W.heap.size 3 1 v (plc m 6).length ((plc m 6).map (Value.int .i64)) ∧ Below W.heap.size W w') := hid fun W => list_calls W m
        unfold memV at KL
        go_region_law (first
          | (refine step_append_lies _ (by rfl) _ _ 24 (by rfl) w.heap.size 23 iS (.slice none 0 0) 1 24 Try.underlying24 hj hy0 hy1 hy2 rfl (by decide) vB _ vs (by rfl) (HSi4.out.pls.rl.own.alloc _) ⟨w4.heap.size, 0, none⟩ 1 1 [.slice au (plc m 6).length cu] (by rfl) rfl (new1_cell _ _ _) (fun u hu => by simp at hu; subst hu; rfl) (by decide) (by rw [hlB]; unfold maxLen; omega) (by rw [hlB]; omega) (by have := HSi4.out.kb.size; simp; omega) _ rfl ?_; intro g5 cp5 w5 hown5 hgrow5 hat5 hlt5; have c0' := (HSi4.out.aft HSi4.out.pls.rl.own ⟨by decide, by decide⟩ hgrow5).box.c0; have f0' := (HSi4.out.aft HSi4.out.pls.rl.own ⟨by decide, by decide⟩ hgrow5).box.free 0)
          | (go_simp; go_at_call 104; (with_reducible refine (KL.out _).mono ?_); rintro e w4 ⟨u, rfl, hu, hb'⟩; have hb4 := drew_below hb'; have HSi4 := hid (HSi3.out.below hb4); have HU4 : Hid (w4.ownsRow W3.heap.size 3 1 u (plc m 6).length ((plc m 6).map (Value.int .i64))) := hid hu; have c0b := HSi4.out.box.c0; have c0c : ∀ ob, (w4.alloc ob).cell? ⟨w.heap.size + 1, 0, none⟩ = some vB := fun ob => (HSi4.out.below ((Below.refl _ _).alloc (Nat.le_refl _) ob)).box.c0; obtain ⟨au, cu, eu⟩ := ownSl hu; subst eu; clear hu hb'))
        all_goals
          go_wp2_with fail
          go_meet
          have hN := HSi4.out.pushB (own_base HU4.out hsz) (ap_new HU4.out HSi3.out.pls.ownP) Ap.none_right (fun r hr => (ap_new HU4.out (HSi3.out.pls.rl.each r hr)).symm) hown5 hgrow5
          rw [hlB, HBg.out, ← HBs.out] at hN
          exact ⟨rfl, hid ⟨_, _, hN, ((HM3.out.below hb4).grown HSi4.out.pls.rl.own (by decide) hgrow5).other (by omega) _⟩⟩
      case rest =>
        obtain ⟨rfl, HT⟩ := hcut
        obtain ⟨vB', vs', hSi5, hM5⟩ := HT.out
        have HSi5 := hid hSi5
        have HM5 := hid hM5
        clear HT hSi5 hM5 HSi3 HM3 HBg HBs
        generalize wc = W5 at *
        have hlB1 := bagsE_len es o (i + 1)
        have HBi : Hid ((bagsE es o (i + 1)).getD i [] = bagE es o i) := hid (by unfold bagsE; rw [List.getD_eq_getElem?_getD, List.getElem?_map, List.getElem?_range (by omega)]; rfl)
        obtain ⟨gB, cB, eB, cB1, hrow⟩ := HSi5.out.pls.rl.get (i := i) (by rw [hlB1]; omega)
        rw [hlB1] at eB
        rw [HBi.out] at hrow
        have HRow := hid hrow
        obtain ⟨ar, cr, er, -⟩ := hrow
        rw [er] at cB1 HRow
        have hbl6 : (bagE es o i).length ≤ 1099511627776 := by have := plc_le (maskE es o i) 6; show (plc (maskE es o i) 6).length ≤ _; omega
        have HSd := hid (HSi5.out.below (Below.refl W5.heap.size W5).drew)
        have HMd := hid (HM5.out.below (Below.refl W5.heap.size W5).drew)
        have KPi : Hid (Calls Try.prog 105 #[.slice ar (bagE es o i).length cr, .slice (some ⟨q, of, none⟩) k co, .int .i64 ((i : Int) + 1)] W5.drew fun e w' => e = .returned (.int .i64 (firstP (bagE es o i) o (i + 1))) ∧ w' = W5.drew) := hid (KP.out W5.drew _ (bagE es o i) (i + 1) HSd.out.kb (HRow.out.below (Below.refl _ _).drew) hbl6 (by omega))
        subst eB
        clear hlB1 HBi HRow er hbl6
        generalize firstP (bagE es o i) o (i + 1) = par at *
        generalize (bagE es o i).length = lrow at *
        go_upto_region 8 with fail
        go_cut [18] from 18 to 55 (fun t wx => t = .int .i64 i ∧ Hid (∃ vP', Si w wx b g (.slice (some ⟨gB, 0, none⟩) (i + 1) cB) vs' (bagsE es o (i + 1)) vP' (parsE es o (i + 1)) (.slice none 0 0) [] vW (prs i F) (masksE es o i) (Elim.gAt (adjB es) (oN o) (i + 1)) ∧ MB wx p m))
        case first =>
          have c0 := HSi5.out.box.c0
          have c1 := HSi5.out.box.c1
          have hsz := HSi5.out.kb.size
          have i9 : (i : Int) < (i : Int) + 1 := by omega
          have hwr : IntKind.i64.wrap ((i : Int) + 1) = (i : Int) + 1 := wrap_small (i + 1) (by omega)
          have c1c : ∀ ob, (W5.alloc ob).cell? ⟨w.heap.size + 1, 1, none⟩ = some vP := fun ob => (HSi5.out.below ((Below.refl _ _).alloc (Nat.le_refl _) ob)).box.c1
          go_region_law (first
            | (refine step_append_lies _ (by rfl) _ _ 23 (by rfl) w.heap.size 3 i0 (.int .i64 0) 1 8 Try.underlying23 hit hz0 hz1 hz2 rfl (by decide) vP _ ((parsE es o i).map (Value.int .i64)) (by rfl) (HSd.out.pls.ownP.alloc _) ⟨_, 0, none⟩ 1 1 [.int .i64 par] (by rfl) rfl (new1_cell _ _ _) (fun u hu => by simp at hu; subst hu; rfl) (by decide) (by rw [hlP]; unfold maxLen; omega) (by rw [hlP]; omega) (by have := HSd.out.kb.size; simp at this ⊢; omega) _ rfl ?_; intro g6 cp6 w6 hown6 hgrow6 hat6 hlt6; have c1' := (HSd.out.aft HSd.out.pls.ownP ⟨by decide, by decide⟩ hgrow6).box.c1; have f1' := (HSd.out.aft HSd.out.pls.ownP ⟨by decide, by decide⟩ hgrow6).box.free 1)
            | (go_simp; go_at_call 105; (with_reducible refine KPi.out.mono ?_); rintro e w4 ⟨rfl, hw4⟩; subst hw4))
          all_goals
            go_wp2_with fail
            go_meet
            have hN := HSd.out.pushP hown6 hgrow6 (fun g hg => by
              simp only [Value.ownBlock, Option.some.injEq] at hg
              subst hg
              rcases hat6 with h | h
              · exact Or.inl h
              · exact Or.inr (by rw [h]; simp))
            rw [hlP, ← HPs.out] at hN
            exact ⟨rfl, hid ⟨_, hN, (HMd.out.grown HSd.out.pls.ownP (by decide) hgrow6).other (by omega) _⟩⟩
        case rest =>
          obtain ⟨rfl, HT⟩ := hcut
          obtain ⟨vP', hSi6, hM6⟩ := HT.out
          have HSi6 := hid hSi6
          have HM6 := hid hM6
          clear HT hSi6 hM6 HSi5 HM5 HSd HMd KPi HPs cB1
          generalize wc = W6 at *
          have HSe := hid (HSi6.out.below (Below.refl W6.heap.size W6).drew)
          have KWd := hid (KWi.out W6.drew HSe.out.kb HSe.out.cvs)
          unfold memV at KWd
          go_upto_region 9 with fail
          have b0 := HM6.out.cell (j := 0) (by decide)
          have b1 := HM6.out.cell (j := 1) (by decide)
          have b2 := HM6.out.cell (j := 2) (by decide)
          have b3 := HM6.out.cell (j := 3) (by decide)
          have b4 := HM6.out.cell (j := 4) (by decide)
          have b5 := HM6.out.cell (j := 5) (by decide)
          have c3 := HSi6.out.box.c3
          generalize hnum : (F i).num = fn at *
          generalize hden : ((F i).den : Int) = fd at *
          go_region_law (first
            | (refine step_append_lies _ (by rfl) _ _ 29 (by rfl) w.heap.size 28 iR (.agg #[.int .i64 0, .int .i64 0]) 2 16 Try.underlying29 hr hx0 hx1 hx2 rfl (by decide) vW _ (rcs (prs i F)) (by rfl) (HSi8.out.rat.alloc _) ⟨_, 0, none⟩ 1 1 [.int .i64 fn, .int .i64 fd] (by rfl) rfl (new2_cell' _ _ _ _) (fun u hu => by simp at hu; rcases hu with rfl | rfl <;> rfl) (by decide) (by rw [hlW]; unfold maxLen; omega) (by rw [hlW]; omega) (by have := HSi8.out.kb.size; simp; omega) _ rfl ?_; intro g9 cp9 w9 hown9 hgrow9 hat9 hlt9; have c3' := (HSi8.out.aft HSi8.out.rat ⟨by decide, by decide⟩ hgrow9).box.c3; have f3' := (HSi8.out.aft HSi8.out.rat ⟨by decide, by decide⟩ hgrow9).box.free 3)
            | (go_simp; go_at_call 106; (with_reducible refine KWd.out.mono ?_); rintro e w8 ⟨rfl, hK8, hC8⟩; have HSi8 := hid (HSe.out.cov hK8 hC8); have c3b := HSi8.out.box.c3; have c3c : ∀ ob, (w8.alloc ob).cell? ⟨w.heap.size + 1, 3, none⟩ = some vW := fun ob => (HSi8.out.below ((Below.refl _ _).alloc (Nat.le_refl _) ob)).box.c3; clear hK8 hC8))
          all_goals
            go_wp2_with fail
            go_roundw
            case rel =>
              have hN := HSi8.out.pushW (q := (fn, fd)) (by rw [List.length_append, show rcs (prs i F ++ [(fn, fd)]) = rcs (prs i F) ++ [.int .i64 fn, .int .i64 fd] by simp [rcs]]; exact hown9) hgrow9
              rw [← HWs.out, hlW] at hN
              exact ⟨i + 1, by omega, by go_num, hid ⟨_, _, _, _, hN⟩⟩
            case measure => simp [intOf]; omega
    · obtain rfl : i = k := by omega
      have i1 : ¬ ((i : Int) < (i : Int)) := by omega
      have HCe : Hid (∀ W, Kb b w W → ∀ j, j < es.length → ∃ q of u, ae = some ⟨q, of, none⟩ ∧ W.cell? ⟨q, of + j, none⟩ = some u ∧ IS W u (es.getD j [])) := hid fun W hb j hj => by
        obtain ⟨a', c', e, h⟩ := HIe.out W hb
        simp only [Value.slice.injEq] at e
        obtain ⟨rfl, -, -⟩ := e
        rcases h with h0 | ⟨q, of, rfl, h⟩
        · omega
        · obtain ⟨u, h1, h2⟩ := h j hj
          exact ⟨q, of, u, rfl, h1, h2⟩
      have HH0 : Hid (homesE es o 0 = []) := hid rfl
      have HHs : Hid (∀ j, homesE es o (j + 1) = homesE es o j ++ [firstP (es.getD j []) o 0]) := hid fun j => homesE_succ es o j
      have HHl : Hid (∀ j, (homesE es o j).length = j) := hid fun j => homesE_len es o j
      clear HIe HIe0 HIo KW HCo HL6 HAt
      obtain ⟨n, hn⟩ : ∃ n, n = es.length := ⟨_, rfl⟩
      have HNn := hid hn
      rw [← hn] at HCe hes ⊢
      clear hn
      generalize wr = W5 at *
      go_wp2_with fail
      go_loopw [58] (fun t wr => ∃ j : Nat, j ≤ n ∧ t = .int .i64 j ∧ Hid (∃ vH, Si w wr b g vB vs (bagsE es o i) vP (parsE es o i) vH (homesE es o j) vW (prs i F) (masksE es o i) (Elim.gAt (adjB es) (oN o) i))) (fun t _ => n - (intOf t).toNat)
      case atStart => exact ⟨0, Nat.zero_le _, rfl, hid ⟨_, by rw [HH0.out]; exact HSi.out⟩⟩
      case round =>
        clear HSi HH0
        obtain ⟨j, hjn, rfl, HT⟩ := hrel
        obtain ⟨vH, hSi⟩ := HT.out
        have HSi := hid hSi
        clear HT hSi
        by_cases hj' : j < n
        · have i2 : (j : Int) < (n : Int) := by omega
          obtain ⟨q, of, u, ea, c1, hu⟩ := HCe.out wr HSi.out.kb j hj'
          subst ea
          have HSd := hid (HSi.out.below (Below.refl wr.heap.size wr).drew)
          have KPi : Hid (Calls Try.prog 105 #[u, .slice ao i co, .int .i64 0] wr.drew fun e w' => e = .returned (.int .i64 (firstP (es.getD j []) o 0)) ∧ w' = wr.drew) := hid (KP.out wr.drew u (es.getD j []) 0 HSd.out.kb (hu.below (Below.refl _ _).drew) (HSl.out j) (by omega))
          have hlH := HHl.out j
          have HHj := hid (HHs.out j)
          obtain ⟨au, cu, rfl, -⟩ := hu
          generalize firstP (es.getD j []) o 0 = par at *
          generalize (es.getD j []).length = lrow at *
          generalize wr = W6 at *
          go_upto_region 14 with fail
          clear c1
          have c2 := HSi.out.box.c2
          have c2c : ∀ ob, (W6.alloc ob).cell? ⟨w.heap.size + 1, 2, none⟩ = some vH := fun ob => (HSi.out.below ((Below.refl _ _).alloc (Nat.le_refl _) ob)).box.c2
          go_region_law (first
            | (refine step_append_lies _ (by rfl) _ _ 23 (by rfl) w.heap.size 3 i0 (.int .i64 0) 1 8 Try.underlying23 hit hz0 hz1 hz2 rfl (by decide) vH _ ((homesE es o j).map (Value.int .i64)) (by rfl) (HSd.out.pls.ownH.alloc _) ⟨_, 0, none⟩ 1 1 [.int .i64 par] (by rfl) rfl (new1_cell _ _ _) (fun u hu => by simp at hu; subst hu; rfl) (by decide) (by rw [hlH]; unfold maxLen; omega) (by rw [hlH]; omega) (by have := HSd.out.kb.size; simp at this ⊢; omega) _ rfl ?_; intro g6 cp6 w6 hown6 hgrow6 hat6 hlt6; have c2' := (HSd.out.aft HSd.out.pls.ownH ⟨by decide, by decide⟩ hgrow6).box.c2; have f2' := (HSd.out.aft HSd.out.pls.ownH ⟨by decide, by decide⟩ hgrow6).box.free 2)
            | (go_simp; go_at_call 105; (with_reducible refine KPi.out.mono ?_); rintro e w4 ⟨rfl, hw4⟩; subst hw4))
          all_goals
            go_wp2_with fail
            go_roundw
            case rel =>
              have hN := HSd.out.pushH hown6 hgrow6 (fun g hg => by
                simp only [Value.ownBlock, Option.some.injEq] at hg
                subst hg
                rcases hat6 with h | h
                · exact Or.inl h
                · exact Or.inr (by rw [h]; simp))
              rw [hlH, ← HHj.out] at hN
              exact ⟨j + 1, by omega, by go_num, hid ⟨_, hN⟩⟩
            case measure => simp [intOf]; omega
        · obtain rfl : j = n := by omega
          have i2 : ¬ ((j : Int) < (j : Int)) := by omega
          clear HCe HHs HHl KP
          have c3 := HSi.out.box.c3
          have KMd := hid (KM.out wr vW (own_ir HSi.out.rat))
          generalize hX : (mostN F i).num = X at *
          generalize hY : ((mostN F i).den : Int) = Y at *
          have HXY : Hid ((mostN F i).num = X ∧ ((mostN F i).den : Int) = Y) := hid ⟨hX, hY⟩
          clear hX hY
          generalize wr = W6 at *
          go_wp2_with fail
          refine KMd.out.mono ?_
          rintro e w7 ⟨rfl, hb7⟩
          have HS7 := hid (HSi.out.below hb7)
          clear c3 hb7 HSi KMd KM
          have c4 := HS7.out.box.c4
          have c5 := HS7.out.box.c5
          have g4 := HS7.out.box.free 4
          have g5 := HS7.out.box.free 5
          have hne : 53 ≠ 3 ∧ 53 ≠ 23 := by decide
          obtain ⟨aB, cB, eB⟩ := HS7.out.pls.rl.sl
          obtain ⟨aP, cP, eP⟩ := ownSl HS7.out.pls.ownP
          obtain ⟨aH, cH, eH⟩ := ownSl HS7.out.pls.ownH
          obtain ⟨aW, cW, eW⟩ := ownSl HS7.out.rat
          subst eB eP eH eW
          go_upto_region 17 with fail
          have HX8 := hid (HS7.out.box.set45 X Y)
          have HP8 := hid ((HS7.out.pls.store (off := 4) HS7.out.box.typ hne (.int .i64 X)).store (off := 5) (typ_set HS7.out.box.typ) hne (.int .i64 Y))
          have HR8 := hid ((HS7.out.res.other (q := w.heap.size + 1) (off := 4) (by omega) (.int .i64 X)).other (q := w.heap.size + 1) (off := 5) (by omega) (.int .i64 Y))
          have HK8 := hid ((HS7.out.kb.setNew (p := ⟨w.heap.size + 1, 4, none⟩) (Nat.le_succ _) (.int .i64 X)).setNew (p := ⟨w.heap.size + 1, 5, none⟩) (Nat.le_succ _) (.int .i64 Y))
          have HW8 := hid (own_store (off := 5) (y := .int .i64 Y) (own_store (off := 4) (y := .int .i64 X) HS7.out.rat HS7.out.box.typ (by decide)) (typ_set HS7.out.box.typ) (by decide))
          clear c4 c5 g4 g5 HS7
          generalize (w7.setCell ⟨w.heap.size + 1, 4, none⟩ (.int .i64 X)).setCell ⟨w.heap.size + 1, 5, none⟩ (.int .i64 Y) = W8 at *
          have hlW := prs_length i F
          rw [hlW] at HX8 HW8 ⊢
          generalize (bagsE es o i).length = l1 at *
          generalize (parsE es o i).length = l2 at *
          generalize (homesE es o j).length = l3 at *
          have c0 := HX8.out.c0
          have c1 := HX8.out.c1
          have c2 := HX8.out.c2
          have c3 := HX8.out.c3
          have c4 := HX8.out.c4
          have c5 := HX8.out.c5
          have d0 := HR8.out.c0
          have d1 := HR8.out.c1
          have d2 := HR8.out.c2
          have d3 := HR8.out.c3
          have d4 := HR8.out.c4
          have d5 := HR8.out.c5
          have f0 := HR8.out.free 0
          have f1 := HR8.out.free 1
          have f2 := HR8.out.free 2
          have f3 := HR8.out.free 3
          have f4 := HR8.out.free 4
          have f5 := HR8.out.free 5
          have HTy := hid HR8.out.typ
          go_wp2_with fail
          refine bodyPost_ret (v := .agg #[.slice aB l1 cB, .slice aP l2 cP, .slice aH l3 cH, .slice aW i cW, .int .i64 X, .int .i64 Y]) (by simp [results, Try.results78, go_sem, d0, d1, d2, d3, d4, d5]) rfl ⟨_, vs, _, _, _, by rw [HXY.out.1, HXY.out.2], ?_, ?_, ?_⟩
          · rw [← HNn.out]
            exact (((((HP8.out.store HTy.out hne _).store (typ_set HTy.out) hne _).store (typ_set (typ_set HTy.out)) hne _).store (typ_set (typ_set (typ_set HTy.out))) hne _).store (typ_set (typ_set (typ_set (typ_set HTy.out)))) hne _).store (typ_set (typ_set (typ_set (typ_set (typ_set HTy.out))))) hne _
          · exact own_store (own_store (own_store (own_store (own_store (own_store HW8.out HTy.out (by decide)) (typ_set HTy.out) (by decide)) (typ_set (typ_set HTy.out)) (by decide)) (typ_set (typ_set (typ_set HTy.out))) (by decide)) (typ_set (typ_set (typ_set (typ_set HTy.out)))) (by decide)) (typ_set (typ_set (typ_set (typ_set (typ_set HTy.out))))) (by decide)
          · exact (((((HK8.out.setNew (Nat.le_refl _) _).setNew (Nat.le_refl _) _).setNew (Nat.le_refl _) _).setNew (Nat.le_refl _) _).setNew (Nat.le_refl _) _).setNew (Nat.le_refl _) _

end Go.Proofs.Ytnmcgbfhgmmcpaa

/-
  impl.Eliminate at an order of a pattern's variables; both sides.
-/
namespace Go.Proofs.Ytnmcgbfhgmmcpaa
open Go.RowKit Go.Maps

set_option maxHeartbeats 8000000 in
set_option maxRecDepth 1000000 in
theorem iEliminate_yes (w : World) (ve vo : Value) (es : List (List Int)) (o : List Int) (k : Nat) (he : ISS w ve es) (hS : Short es) (ho : IS w vo o) (hp : patB (k : Int) es = true) (hoB : ordB (k : Int) o = true) (hcap : ∀ a n cap, vo = .slice a n cap → n ≤ cap) :
    Calls Try.prog 29 #[.int .i64 k, ve, vo] w fun e w' => ∃ vB vs vP vH vW, e = .returned (.agg #[vB, vP, vH, vW, .int .i64 (mostN (wdE es o k) k).num, .int .i64 (mostN (wdE es o k) k).den]) ∧
      PlS w' w.heap.size vB vs (bagsE es o k) vP (parsE es o k) vH (homesE es o es.length) ∧ w'.ownsRow w.heap.size 28 2 vW k (rcs (prs k (wdE es o k))) ∧ Below w.heap.size w w' := by
  have hO := ord_of hp hoB
  have hk6 := hO.k6
  obtain ⟨-, hed, -⟩ := pat_k hp
  obtain ⟨W1, hW1⟩ : ∃ W1, W1 = w.alloc (.cells #[.slice none 0 0, .slice none 0 0, .slice none 0 0, .slice none 0 0, .int .i64 0, .int .i64 0] 53) := ⟨_, rfl⟩
  have hB1 : Below w.heap.size w W1 := by rw [hW1]; exact (Below.refl _ _).alloc (Nat.le_refl _) _
  have HR1 : Hid (PBx W1 w.heap.size (.slice none 0 0) (.slice none 0 0) (.slice none 0 0) (.slice none 0 0) 0 0) := hid (by rw [hW1]; exact pbx_made _ _ _ _ _ _ _)
  have KP := hid (isPattern_calls W1 ve k es (he.below hB1) hS)
  have KO : Hid (∀ W, Below w.heap.size w W → Calls Try.prog 77 #[.int .i64 k, vo] W fun e w' => e = .returned (.bool (ordB k o)) ∧ w' = W) := hid fun W hW => isOrder_calls W vo o k (ho.below hW) (by rw [hO.len]; omega) hcap
  rw [hp] at KP
  rw [hoB] at KO
  have KL : Hid (∀ W b, Below w.heap.size w W → Cvs W b [] → Calls Try.prog 78 #[ve, vo, .map (some b)] W fun e w' => ∃ vB vs vP vH vW, e = .returned (.agg #[vB, vP, vH, vW, .int .i64 (mostN (wdE es o k) k).num, .int .i64 (mostN (wdE es o k) k).den]) ∧
      PlS w' W.heap.size vB vs (bagsE es o k) vP (parsE es o k) vH (homesE es o es.length) ∧ w'.ownsRow W.heap.size 28 2 vW k (rcs (prs k (wdE es o k))) ∧ Kb b W w') := hid fun W b hW hC => planOf_calls W ve vo es o k b (he.below hW) hS (ho.below hW) hO hed hC
  have HB1 := hid hB1
  have hmm := @run_makeMap Try.prog
  obtain ⟨ae, ce, rfl, -⟩ := he
  obtain ⟨ao, co, rfl, -⟩ := ho
  clear hB1 hS hcap hp hoB hO hed
  generalize (mostN (wdE es o k) k).num = X at *
  generalize ((mostN (wdE es o k) k).den : Int) = Y at *
  go_enter Try.func29, Try.ntmps29
  go_upto_region 1 with fail
  rw [← hW1]
  clear hW1
  go_wp2_with fail
  refine KP.out.mono ?_
  rintro e w2 ⟨rfl, hb2⟩
  have HR2 := hid (HR1.out.below hb2)
  have HB2 := hid (bt HB1.out hb2)
  clear hb2 HR1 HB1 KP
  go_wp2_with fail
  refine (KO.out w2 HB2.out).mono ?_
  rintro e w3 ⟨rfl, hw3⟩
  subst w3
  go_wp2_with fail
  have HA : Hid (Below w2.heap.size w2 (w2.alloc (.map #[] 0))) := hid ((Below.refl _ _).alloc (Nat.le_refl _) _)
  have hlt2 := HR2.out.lt
  refine (KL.out (w2.alloc (.map #[] 0)) w2.heap.size (bt HB2.out HA.out) (Cvs.start w2)).mono ?_
  rintro e w4 ⟨vB, vs, vP, vH, vW, rfl, hP, hW, hK⟩
  have HR4 := hid ((HR2.out.below HA.out).move (hK.block w.heap.size (by simp; omega) (by omega)))
  have HB4 : Hid (Below w.heap.size w w4) := hid ((bt HB2.out HA.out).trans (hK.below (by simp; omega) (by omega)))
  have HP4 := hid (hP.base (B' := w.heap.size) (by simp; omega))
  have HW4 := hid (own_base (B' := w.heap.size) hW (by simp; omega))
  obtain ⟨aB, cB, eB⟩ := hP.rl.sl
  obtain ⟨aP, cP, eP⟩ := ownSl hP.ownP
  obtain ⟨aH, cH, eH⟩ := ownSl hP.ownH
  obtain ⟨aW, cW, eW⟩ := ownSl hW
  subst eB eP eH eW
  clear hP hW hK HA HR2 HB2 KL KO
  generalize (bagsE es o k).length = l1 at *
  generalize (parsE es o k).length = l2 at *
  generalize (homesE es o es.length).length = l3 at *
  have hne : 53 ≠ 3 ∧ 53 ≠ 23 := by decide
  have d0 := HR4.out.c0
  have d1 := HR4.out.c1
  have d2 := HR4.out.c2
  have d3 := HR4.out.c3
  have d4 := HR4.out.c4
  have d5 := HR4.out.c5
  have f0 := HR4.out.free 0
  have f1 := HR4.out.free 1
  have f2 := HR4.out.free 2
  have f3 := HR4.out.free 3
  have f4 := HR4.out.free 4
  have f5 := HR4.out.free 5
  have HTy := hid HR4.out.typ
  go_wp2_with fail
  refine bodyPost_ret (v := .agg #[.slice aB l1 cB, .slice aP l2 cP, .slice aH l3 cH, .slice aW k cW, .int .i64 X, .int .i64 Y]) (by simp [results, Try.results29, go_sem, d0, d1, d2, d3, d4, d5]) rfl ⟨_, vs, _, _, _, rfl, ?_, ?_, ?_⟩
  · exact (((((HP4.out.store HTy.out hne _).store (typ_set HTy.out) hne _).store (typ_set (typ_set HTy.out)) hne _).store (typ_set (typ_set (typ_set HTy.out))) hne _).store (typ_set (typ_set (typ_set (typ_set HTy.out)))) hne _).store (typ_set (typ_set (typ_set (typ_set (typ_set HTy.out))))) hne _
  · exact own_store (own_store (own_store (own_store (own_store (own_store HW4.out HTy.out (by decide)) (typ_set HTy.out) (by decide)) (typ_set (typ_set HTy.out)) (by decide)) (typ_set (typ_set (typ_set HTy.out))) (by decide)) (typ_set (typ_set (typ_set (typ_set HTy.out)))) (by decide)) (typ_set (typ_set (typ_set (typ_set (typ_set HTy.out))))) (by decide)
  · exact (((((HB4.out.setCell (Nat.le_refl _) _).setCell (Nat.le_refl _) _).setCell (Nat.le_refl _) _).setCell (Nat.le_refl _) _).setCell (Nat.le_refl _) _).setCell (Nat.le_refl _) _

end Go.Proofs.Ytnmcgbfhgmmcpaa
