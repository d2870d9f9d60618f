import Derived.Test.YtnmcgbfhgmmcpaaW11
import Derived.Test.YtnmcgbfhgmmcpaaW12
namespace Go.Proofs.Ytnmcgbfhgmmcpaa
open Go.RowKit

theorem fac_le {m : Nat} (h : m ≤ 7) : Cov.fac m ≤ 5040 := by
  match m, h with
  | 0, _ => decide
  | 1, _ => decide
  | 2, _ => decide
  | 3, _ => decide
  | 4, _ => decide
  | 5, _ => decide
  | 6, _ => decide
  | 7, _ => decide

/-- costs as rationals -/
def rc (cost : Nat → Int) : Nat → Rat := fun j => ((cost j : Int) : Rat)

theorem whole_part {m n : Nat} {A T : Nat → Nat → Rat} {B : Nat → Nat} (h : Cov.Inv m n A T B) (hA : ∀ j, j ≤ n → ∀ r, r < m → Cov.Whole 1 (A j r)) (hm : m ≤ 7) (cost : Nat → Int) (hc : ∀ j, (cost j).natAbs ≤ 1) :
    (∀ i, i < m → ∀ j, j ≤ n → Sm 41000 (T i j)) ∧ (∀ j, j ≤ n → ∀ i, i ≤ m → Sm 41000 (rc cost j - Cov.sm i (fun i' => rc cost (B i') * T i' j))) := by
  obtain ⟨D, h0, hD, hw⟩ := h.small hA
  have hf := fac_le hm
  have hwc : ∀ j, Cov.Whole 1 (rc cost j) := fun j => ⟨cost j, rfl, hc j⟩
  refine ⟨fun i hi j hj => sm_of_whole h0 (by omega) (hw i hi j hj) (by omega), fun j hj i hi => ?_⟩
  have hDw : Cov.Whole (Cov.fac m) ((D : Int) : Rat) := ⟨D, rfl, hD⟩
  have e : (rc cost j - Cov.sm i (fun i' => rc cost (B i') * T i' j)) * ((D : Int) : Rat) = rc cost j * ((D : Int) : Rat) + -(Cov.sm i (fun i' => rc cost (B i') * (T i' j * ((D : Int) : Rat)))) := by
    have e1 : Cov.sm i (fun i' => rc cost (B i') * (T i' j * ((D : Int) : Rat))) = ((D : Int) : Rat) * Cov.sm i (fun i' => rc cost (B i') * T i' j) := by
      rw [← Cov.sm_mul]; exact Cov.sm_congr (fun i' _ => by grind)
    rw [e1]; grind
  have hs : Cov.Whole (i * (1 * Cov.fac m)) (Cov.sm i (fun i' => rc cost (B i') * (T i' j * ((D : Int) : Rat)))) := Cov.whole_sm i (fun i' hi' => (hwc _).mul (hw i' (by omega) j hj))
  have ht : Cov.Whole (1 * Cov.fac m + i * (1 * Cov.fac m)) ((rc cost j - Cov.sm i (fun i' => rc cost (B i') * T i' j)) * ((D : Int) : Rat)) := by
    rw [e]; exact ((hwc j).mul hDw).add hs.neg
  refine sm_of_whole h0 (by omega) ht ?_
  have h1 : i * (1 * Cov.fac m) ≤ 7 * 5040 := Nat.mul_le_mul (by omega) (by omega)
  omega

/-- a state with its costs in row m -/
def full (m : Nat) (cost : Nat → Int) (s : Cov.Sx) : Nat → Nat → Rat := fun i j => if i = m then Cov.red m (rc cost) s.T s.B j else s.T i j

theorem best_lt {g : Nat → Bool} {b : Nat → Nat → Bool} : ∀ {m o : Nat}, Cov.best g b m = some o → o < m
  | 0, _, h => by cases h
  | m + 1, o, h => by
    unfold Cov.best at h
    cases hb : Cov.best g b m with
    | none =>
      rw [hb] at h
      simp only at h
      split at h
      · simp only [Option.some.injEq] at h; omega
      · cases h
    | some o' =>
      rw [hb] at h
      have := best_lt hb
      simp only at h
      split at h
      · simp only [Option.some.injEq] at h; omega
      · simp only [Option.some.injEq] at h; omega
theorem best_congr {g g' : Nat → Bool} {b b' : Nat → Nat → Bool} : ∀ {m : Nat}, (∀ i, i < m → g i = g' i) → (∀ i, i < m → ∀ o, o < m → b i o = b' i o) → Cov.best g b m = Cov.best g' b' m
  | 0, _, _ => rfl
  | m + 1, hg, hb => by
    have ih := best_congr (m := m) (fun i hi => hg i (by omega)) (fun i hi o ho => hb i (by omega) o (by omega))
    unfold Cov.best
    rw [ih, hg m (by omega)]
    cases hbm : Cov.best g' b' m with
    | none => rfl
    | some o =>
      have ho : o < m := best_lt hbm
      simp only
      rw [hb m (by omega) o (by omega)]

theorem first_congr {p q : Nat → Bool} : ∀ {n : Nat}, (∀ i, i < n → p i = q i) → Cov.first p n = Cov.first q n
  | 0, _ => rfl
  | n + 1, h => by
    unfold Cov.first
    rw [first_congr (n := n) (fun i hi => h i (by omega)), h n (by omega)]

theorem enter_full {m n : Nat} {cost : Nat → Int} {bar : Nat → Bool} {s : Cov.Sx} : Cov.first (fun j => !bar j && decide (full m cost s m j < 0)) n = Cov.enterOf m n (rc cost) bar s := by
  unfold Cov.enterOf
  refine first_congr (fun j _ => ?_)
  unfold full
  rw [if_pos rfl]

theorem leave_full {m n : Nat} {cost : Nat → Int} {s : Cov.Sx} {c : Nat} : Cov.best (fun i => decide (0 < full m cost s i c)) (Cov.before (full m cost s) s.B n c) m = Cov.leaveOf m n s c := by
  unfold Cov.leaveOf
  have e : ∀ i, i < m → ∀ j, full m cost s i j = s.T i j := fun i hi j => if_neg (by omega)
  refine best_congr (fun i hi => by rw [e i hi]) (fun i hi o ho => ?_)
  unfold Cov.before
  rw [e i hi, e i hi, e o ho, e o ho]

theorem full_pivot {m n : Nat} {A : Nat → Nat → Rat} {cost : Nat → Int} {s : Cov.Sx} (h : Cov.Inv m n A s.T s.B) {r c : Nat} (hr : r < m) (hp : s.T r c ≠ 0) {a b : Nat} (ha : a ≤ m) :
    full m cost (Cov.pivS s r c) a b = Cov.pivT (full m cost s) r c a b := by
  have e : ∀ i, i < m → ∀ j, full m cost s i j = s.T i j := fun i hi j => if_neg (by omega)
  have em : ∀ j, full m cost s m j = Cov.red m (rc cost) s.T s.B j := fun j => if_pos rfl
  by_cases hm : a = m
  · subst hm
    rw [show full a cost (Cov.pivS s r c) a b = Cov.red a (rc cost) (Cov.pivT s.T r c) (Cov.pivB s.B r c) b from if_pos rfl, Cov.red_pivot h (rc cost) hr hp b]
    unfold Cov.pivT
    rw [if_neg (by omega), em, em, e r hr, e r hr]
  · rw [show full m cost (Cov.pivS s r c) a b = Cov.pivT s.T r c a b from if_neg hm]
    unfold Cov.pivT
    rw [e r hr, e r hr, e a (by omega), e a (by omega)]

theorem SxAt.there {w : World} {k m n : Nat} {C : Nat → Nat → Rat} {B : Nat → Nat} {bar : Nat → Bool} (h : SxAt w k m n C B bar) : w.there k 0 350 := by
  intro j hj
  rw [Nat.zero_add]
  obtain ⟨v, h1, _⟩ := h.lay.one j hj
  have h1' : w.cell? ⟨k, j, none⟩ = some v := h1
  rw [h1']
  exact ⟨rfl, h.free j hj⟩

end Go.Proofs.Ytnmcgbfhgmmcpaa

namespace Go.Proofs.Ytnmcgbfhgmmcpaa
open Go.RowKit

set_option maxRecDepth 100000 in
set_option maxHeartbeats 4000000 in
theorem leastBy_calls (w : World) (k m n : Nat) (A C0 : Nat → Nat → Rat) (s : Cov.Sx) (bar : Nat → Bool) (h : SxAt w k m n C0 s.B bar) (hC : ∀ i, i < m → ∀ j, j ≤ n → C0 i j = s.T i j) (hz : ∀ j, j ≤ n → Sm 41000 (C0 m j))
    (hG : Cov.Good m n A bar s) (hA : ∀ j, j ≤ n → ∀ r, r < m → Cov.Whole 1 (A j r)) (cost : Nat → Int) (hcost : ∀ j, (cost j).natAbs ≤ 1) :
    Calls Try.prog 90 #[.pointer (some ⟨k, 0, none⟩), .agg (arrV 20 (fun j => .int .i64 (cost j))).toArray] w fun e w' => e = .returned (.tuple #[]) ∧ Kb k w w' ∧ ∃ bar' s', Cov.Aim m n (rc cost) bar s bar' s' ∧ SxAt w' k m n (full m cost s') s'.B bar' := by
  have hm := h.lay.mle
  have hn := h.lay.nle
  obtain ⟨K, hK1, hK2⟩ := Cov.halts (rc cost) hG
  have hgood : Hid (∀ q, Cov.Good m n A bar (Cov.it m n (rc cost) bar s q)) := fun q => hG.it q
  have hbd : Hid (∀ q, (∀ a b, a ≤ m → b ≤ n → Sm 41000 (full m cost (Cov.it m n (rc cost) bar s q) a b))) := by
    intro q a b ha hb
    obtain ⟨g1, g2⟩ := whole_part (hgood.out q).inv hA hm cost hcost
    unfold full
    split
    · exact g2 b hb m (Nat.le_refl _)
    · exact g1 a (by omega) b hb
  have hpart : ∀ j i, j ≤ n → i ≤ m → Sm 41000 (part cost C0 s.B j i) := by
    intro j i hj hi
    obtain ⟨_, g2⟩ := whole_part hG.inv hA hm cost hcost
    have := g2 j hj i hi
    have e : part cost C0 s.B j i = rc cost j - Cov.sm i (fun i' => rc cost (s.B i') * s.T i' j) := by
      unfold part rc
      congr 1
      exact Cov.sm_congr (fun i' hi' => by rw [hC i' (by omega) j hj])
    rw [e]; exact this
  have hsm0 : ∀ a b, a ≤ m → b ≤ n → Sm 41000 (C0 a b) := by
    intro a b ha hb
    by_cases e : a = m
    · rw [e]; exact hz b hb
    · obtain ⟨g1, _⟩ := whole_part hG.inv hA hm cost hcost
      rw [hC a (by omega) b hb]; exact g1 a (by omega) b hb
  have PR := hid (fun (wx : World) (hx : SxAt wx k m n C0 s.B bar) => price_calls wx k m n C0 s.B bar hx cost hcost hG.inv.lt hsm0 hpart)
  have hprice : Hid (∀ wx, SxAt wx k m n (priced cost C0 s.B m (n + 1)) s.B bar → SxAt wx k m n (full m cost s) s.B bar) := by
    intro wx hx
    refine hx.congr (fun a b ha hb => ?_) (fun _ _ => rfl) (fun _ _ => rfl)
    unfold full priced
    by_cases e : a = m
    · rw [if_pos e, if_pos ⟨e, by omega⟩]
      unfold Cov.red part rc
      congr 1
      exact Cov.sm_congr (fun i' hi' => by rw [hC i' (by omega) b hb])
    · rw [if_neg e, if_neg (by omega), hC a (by omega) b hb]
  clear hpart hsm0 hcost hz hC
  have HA := hid hA
  have HK1 := hid hK1
  have HK2 := hid hK2
  have HG := hid hG
  clear hA hK1 hK2 hG
  have har := arrAt_alloc w 20 (fun j => .int .i64 (cost j)) 125
  have hsx0 := h.alloc (.cells (arrV 20 (fun j => .int .i64 (cost j))).toArray 125)
  have hkb0 : Kb k w (w.alloc (.cells (arrV 20 (fun j => .int .i64 (cost j))).toArray 125)) := Kb.of_below ((Below.refl _ _).alloc (Nat.le_refl _) _)
  have HR := hid har.range
  have HI : Hid ((Try.prog.info? 125).map (·.size) = some (arrV 20 (fun j => Value.int .i64 (cost j))).length) := by
    show _ = _
    rw [arrV_length]; exact infoC
  clear har
  go_enter Try.func90, Try.ntmps90
  go_wp2_with (first | (refine wpList_load_mid rfl 125 _ rfl w.heap.size 0 (by rfl) (arrV 20 (fun j => .int .i64 (cost j))) _ (by exact HR.out) Try.underlying125 (by rfl) (by exact HI.out) ?_))
  refine (PR.out _ hsx0).mono ?_
  rintro e w1 ⟨rfl, hk1, hs1⟩
  have hkb1 := hkb0.trans hk1
  have hs1' := hprice.out w1 hs1
  clear hkb0 hk1 hs1 hsx0 HR HI
  go_wp2_with fail
  go_loopg [4] K (fun g _ wr => ∃ q : Nat, q ≤ K ∧ g = K - q ∧ Kb k w wr ∧ SxAt wr k m n (full m cost (Cov.it m n (rc cost) bar s q)) (Cov.it m n (rc cost) bar s q).B bar)
  case atStart => exact ⟨0, Nat.zero_le _, by omega, hkb1, hs1'⟩
  case round =>
    obtain ⟨q, hq, hgk, hkb, hs⟩ := hrel
    clear hkb1 hs1'
    have HGK := hid hgk
    clear hgk
    obtain ⟨sq, hsq⟩ : ∃ sq, sq = Cov.it m n (rc cost) bar s q := ⟨_, rfl⟩
    have hgq : Hid (Cov.Good m n A bar sq) := by rw [hsq]; exact hgood.out q
    have hbq : Hid (∀ a b, a ≤ m → b ≤ n → Sm 41000 (full m cost sq a b)) := by rw [hsq]; exact hbd.out q
    have hbq1 : Hid (∀ a b, a ≤ m → b ≤ n → Sm 41000 (full m cost (Cov.nxt m n (rc cost) bar sq) a b)) := by rw [hsq]; exact hbd.out (q + 1)
    have HSQ := hid hsq
    rw [← hsq] at hs
    clear hsq
    go_wp2_with fail
    refine (entering_calls _ k m n _ _ bar hs).mono ?_
    rintro e w2 ⟨rfl, hb2⟩
    rw [enter_full]
    have hs2 := hs.below hb2
    have hkb2 := hkb.step hb2
    clear hs hkb
    cases he : Cov.enterOf m n (rc cost) bar sq with
    | none =>
      have hstep : Hid (Cov.stepOf m n (rc cost) bar sq = none) := by
        show _ = _
        unfold Cov.stepOf
        rw [he]
      clear he
      rw [show Cov.idx none = -1 from rfl]
      go_wp2_with fail
      refine (leaving_none _ _ (-1) (by decide)).mono ?_
      rintro e w3 ⟨rfl, hb3⟩
      have hs3 := hs2.below hb3
      have hkb3 := hkb2.step hb3
      clear hs2 hkb2
      have hqK : q = K := by
        by_cases e : q < K
        · exact absurd hstep.out (by rw [HSQ.out]; exact HK2.out q e)
        · omega
      have hAim : Hid (Cov.Aim m n (rc cost) bar s (Cov.narrowed m n (rc cost) bar sq) sq) := ⟨K, HK1.out, HK2.out, by rw [HSQ.out, hqK], rfl⟩
      clear hqK
      go_wp2_with fail
      refine (narrow_calls _ k m n _ _ bar hs3).mono ?_
      rintro e w4 ⟨rfl, hk4, hs4⟩
      go_wp2_with fail
      go_end0
      refine ⟨rfl, hkb3.trans hk4, _, sq, hAim.out, hs4.congr (fun _ _ _ _ => rfl) (fun _ _ => rfl) (fun j hj => ?_)⟩
      unfold Cov.narrowed full
      rw [if_pos rfl]
    | some c =>
      have hc : c < n := (Cov.first_some he).1
      rw [show Cov.idx (some c) = (c : Int) from rfl]
      have HE := hid he
      clear he
      go_wp2_with fail
      refine (leaving_some _ k m n _ _ bar hs2 c hc hbq.out).mono ?_
      rintro e w3 ⟨rfl, hb3⟩
      rw [leave_full]
      have hs3 := hs2.below hb3
      have hkb3 := hkb2.step hb3
      clear hs2 hkb2
      cases hl : Cov.leaveOf m n sq c with
      | none =>
        have hstep : Hid (Cov.stepOf m n (rc cost) bar sq = none) := by
          show _ = _
          unfold Cov.stepOf
          rw [HE.out]
          simp only
          rw [hl]
        clear hl
        rw [show Cov.idx none = -1 from rfl]
        have hqK : q = K := by
          by_cases e : q < K
          · exact absurd hstep.out (by rw [HSQ.out]; exact HK2.out q e)
          · omega
        have hAim : Hid (Cov.Aim m n (rc cost) bar s (Cov.narrowed m n (rc cost) bar sq) sq) := ⟨K, HK1.out, HK2.out, by rw [HSQ.out, hqK], rfl⟩
        clear hqK
        go_wp2_with fail
        refine (narrow_calls _ k m n _ _ bar hs3).mono ?_
        rintro e w4 ⟨rfl, hk4, hs4⟩
        go_wp2_with fail
        go_end0
        refine ⟨rfl, hkb3.trans hk4, _, sq, hAim.out, hs4.congr (fun _ _ _ _ => rfl) (fun _ _ => rfl) (fun j hj => ?_)⟩
        unfold Cov.narrowed full
        rw [if_pos rfl]
      | some r =>
        have hstep : Cov.stepOf m n (rc cost) bar sq = some (r, c) := by
          unfold Cov.stepOf
          rw [HE.out]
          simp only
          rw [hl]
        obtain ⟨hr, _, _, _, _, hpos, _⟩ := Cov.step_some hstep
        have hne : sq.T r c ≠ 0 := by grind
        have hnx : Cov.nxt m n (rc cost) bar sq = Cov.pivS sq r c := Cov.nxt_some hstep
        have hqK : q < K := by
          by_cases e : q < K
          · exact e
          · exfalso
            have e2 : q = K := by omega
            have := HK1.out
            rw [← e2, ← HSQ.out, hstep] at this
            cases this
        have hpv : Hid (∀ a b, a ≤ m → Cov.pivT (full m cost sq) r c a b = full m cost (Cov.pivS sq r c) a b) := fun a b ha => (full_pivot hgq.out.inv hr hne ha).symm
        have hsm' : Hid (∀ a b, a ≤ m → b ≤ n → Sm 41000 (Cov.pivT (full m cost sq) r c a b)) := fun a b ha hb => by
          rw [hpv.out a b ha, ← hnx]; exact hbq1.out a b ha hb
        have hne' : Hid (full m cost sq r c ≠ 0) := by
          show _ ≠ _
          unfold full
          rw [if_neg (by omega)]; exact hne
        have HN : Hid (Cov.it m n (rc cost) bar s (q + 1) = Cov.pivS sq r c) := by
          show Cov.nxt m n (rc cost) bar (Cov.it m n (rc cost) bar s q) = _
          rw [← HSQ.out]; exact hnx
        clear hl hstep hpos hnx hne
        rw [show Cov.idx (some r) = (r : Int) from rfl]
        have i1 : ¬ ((r : Int) < 0) := by omega
        go_wp2_with fail
        refine (pivoted_calls _ k m n _ _ bar hs3 r c hr hc hne'.out hbq.out hsm'.out).mono ?_
        rintro e w4 ⟨V, rfl, hV, hb4⟩
        have hs4 := hs3.below hb4
        have hkb4 := hkb3.step hb4
        have HT : Hid (w4.there k 0 V.size) := by rw [hV.1]; exact hs4.there
        have HI : Hid ((Try.prog.info? 120).map (·.size) = some V.size) := by
          show _ = _
          rw [hV.1]; exact infoSx
        have HO := hid hV.one
        have hs5 := hV.stored (w := w4) (b := k) hs4.there
        clear hs3 hkb3
        go_wp2_with (first | (refine wpList_store_mid rfl 120 _ _ rfl k 0 V (by rfl) (by rfl) (by exact HT.out) (by exact HI.out) (by exact HO.out) ?_))
        go_roundg (K - (q + 1))
        case measure => have := HGK.out; omega
        case rel =>
          refine ⟨q + 1, by omega, rfl, kb_setCells _ _ _ hkb4, ?_⟩
          rw [HN.out]
          exact hs5.congr (fun a b ha _ => (hpv.out a b ha).symm) (fun _ _ => rfl) (fun _ _ => rfl)

end Go.Proofs.Ytnmcgbfhgmmcpaa

namespace Go.Proofs.Ytnmcgbfhgmmcpaa
open Go.RowKit

set_option maxHeartbeats 400000 in
theorem columns_calls (w : World) (u : Nat) (a : Option Addr) (len cap : Nat) (below : Bool) (hu : u ≤ 7) (hl : len ≤ 7) :
    Calls Try.prog 111 #[.agg #[.int .i64 u, .slice a len cap, .bool below]] w fun e w' => e = .returned (.int .i64 ((if below then u + len + len else u + len : Nat) : Int)) ∧ Below w.heap.size w w' := by
  cases below
  · go_enter Try.func111, Try.ntmps111
    go_wp2
    go_ret
    exact ⟨ret_int (by simp), by go_grown⟩
  · go_enter Try.func111, Try.ntmps111
    go_wp2
    go_ret
    exact ⟨ret_int (by omega), by go_grown⟩

/-- a slice of numbers that can be read -/
def IntsAt (w : World) (v : Value) (l : List Nat) : Prop := ∃ a cap, v = .slice a l.length cap ∧ ∀ j, j < l.length → ∃ b o, a = some ⟨b, o, none⟩ ∧ w.cell? ⟨b, o + j, none⟩ = some (.int .i64 (l.getD j 0 : Nat))

/-- rows of such -/
def RowsAt (w : World) (v : Value) (L : List (List Nat)) : Prop := ∃ a cap, v = .slice a L.length cap ∧ ∀ i, i < L.length → ∃ b o x, a = some ⟨b, o, none⟩ ∧ w.cell? ⟨b, o + i, none⟩ = some x ∧ IntsAt w x (L.getD i [])

theorem IntsAt.below {w w' : World} {v : Value} {l : List Nat} (h : IntsAt w v l) (hb : Below w.heap.size w w') : IntsAt w' v l := by
  obtain ⟨a, cap, rfl, h⟩ := h
  refine ⟨a, cap, rfl, fun j hj => ?_⟩
  obtain ⟨b, o, e, hc⟩ := h j hj
  exact ⟨b, o, e, (hb.cell (p := ⟨b, o + j, none⟩) (World.block_lt_of_cell? w _ hc)).trans hc⟩

theorem RowsAt.below {w w' : World} {v : Value} {L : List (List Nat)} (h : RowsAt w v L) (hb : Below w.heap.size w w') : RowsAt w' v L := by
  obtain ⟨a, cap, rfl, h⟩ := h
  refine ⟨a, cap, rfl, fun i hi => ?_⟩
  obtain ⟨b, o, x, e, hc, hx⟩ := h i hi
  exact ⟨b, o, x, e, (hb.cell (p := ⟨b, o + i, none⟩) (World.block_lt_of_cell? w _ hc)).trans hc, hx.below hb⟩

/-- the first table of a program -/
def startC (u : Nat) (L : List (List Nat)) (below : Bool) : Nat → Nat → Rat :=
  let m := L.length
  let n := if below then u + m + m else u + m
  fun i j => if i < m then (if j = n then 1 else if j < u then (if (L.getD i []).contains j then 1 else 0) else if n - m + i = j then 1 else if below ∧ j = u + i then -1 else 0) else 0

theorem run_build_sx (a b : Int) (w : World) : (Instr.build 120 #[(0, .int .i64 a), (1, .int .i64 b)]).run Try.prog w = .ok (.agg ((zSx.set! 0 (.int .i64 a)).set! 1 (.int .i64 b))) w := by kernel_rfl

theorem ArrAt.drew {w : World} {k N : Nat} {f : Nat → Value} (h : ArrAt w k N f) : ArrAt w.drew k N f := h.move rfl
theorem ArrAt.alloc {w : World} {k N : Nat} {f : Nat → Value} (h : ArrAt w k N f) (hN : 0 < N) (o : Obj) : ArrAt (w.alloc o) k N f := h.move (Below.heap_alloc _ _ _ (h.lt hN))

/-- three cells -/
def f3 (x y z : Value) : Nat → Value
  | 0 => x
  | 1 => y
  | _ => z
theorem ArrAt.three {w : World} {k : Nat} {x y z : Value} (h : ArrAt w k 3 (f3 x y z)) : w.cell? ⟨k, 0, none⟩ = some x ∧ w.cell? ⟨k, 1, none⟩ = some y ∧ w.cell? ⟨k, 2, none⟩ = some z := ⟨h.cell 0 (by omega), h.cell 1 (by omega), h.cell 2 (by omega)⟩

/-- rows and columns written, all else zero -/
def bSx (a b : Int) : Array Value := (zSx.set! 0 (.int .i64 a)).set! 1 (.int .i64 b)

theorem run_build_sx' (a b : Int) (w : World) : (Instr.build 120 #[(0, .int .i64 a), (1, .int .i64 b)]).run Try.prog w = .ok (.agg (bSx a b)) w := run_build_sx a b w

theorem zSx_get {o : Nat} (h : o < 350) : zSx[o]? = some (if o < 330 then .int .i64 0 else .bool false) := by
  unfold zSx
  rw [Array.getElem?_append]
  by_cases e : o < 330
  · rw [if_pos (by simpa using e), if_pos e, Array.getElem?_replicate, if_pos e]
  · rw [if_neg (by simpa using e), if_neg e, Array.getElem?_replicate, if_pos (by simp; omega)]

theorem bSx_get {a b : Int} {o : Nat} (h : o < 350) : (bSx a b)[o]? = some (if o = 0 then .int .i64 a else if o = 1 then .int .i64 b else if o < 330 then .int .i64 0 else .bool false) := by
  unfold bSx
  rw [Array.set!_eq_setIfInBounds, Array.set!_eq_setIfInBounds, Array.getElem?_setIfInBounds, Array.getElem?_setIfInBounds, zSx_get h]
  by_cases e0 : o = 0
  · subst e0
    simp [zSx_size]
  · by_cases e1 : o = 1
    · subst e1
      simp [zSx_size]
    · rw [if_neg (by omega), if_neg (by omega), if_neg e0, if_neg e1]

theorem bSx_size (a b : Int) : (bSx a b).size = 350 := by simp [bSx, zSx_size]

theorem zc95 : Try.zeroCells120 = zSx := by kernel_rfl

/-- rows and columns written into zeros -/
def bList (a b : Int) : List Value := (bSx a b).toList

theorem bList_eq (a b : Int) : bList a b = (bSx a b).toList := rfl

theorem bList_zc (a b : Int) : (Try.zeroCells120.toList.set 0 (.int .i64 a)).set 1 (.int .i64 b) = bList a b := by
  rw [zc95]
  unfold bList bSx
  simp

theorem bList_length (a b : Int) : (bList a b).length = 350 := by rw [bList_eq]; simpa using bSx_size a b

theorem bList_get {a b : Int} {o : Nat} (h : o < 350) : (bList a b)[o]? = some (if o = 0 then .int .i64 a else if o = 1 then .int .i64 b else if o < 330 then .int .i64 0 else .bool false) := by
  rw [bList_eq, Array.getElem?_toList]; exact bSx_get h

theorem bList_one (a b : Int) : ∀ v ∈ bList a b, v.oneCell' = true := by
  intro v hv
  obtain ⟨j, hj, e⟩ := List.mem_iff_getElem.1 hv
  rw [bList_length] at hj
  have := bList_get (a := a) (b := b) hj
  rw [List.getElem?_eq_getElem (by rw [bList_length]; exact hj), e] at this
  simp only [Option.some.injEq] at this
  rw [this]
  repeat' split
  all_goals rfl

theorem run_store_b (a b : Int) (W : World) (g : Nat) (ht : W.there g 0 350) :
    (storeCells ⟨g, 0, none⟩ ((Try.zeroCells120.toList.set 0 (.int .i64 a)).set 1 (.int .i64 b))).run Try.prog W = .ok () (W.setCells g 0 (bList a b)) := by
  have hl := bList_length a b
  rw [bList_zc]
  exact run_storeCells_cells (P := Try.prog) g 0 (bList a b) 0 W (fun j hj => by have := (ht j (by omega)).1; simpa using this) (fun j hj => by have := (ht j (by omega)).2; simpa using this) (bList_one a b)

/-- what lies in a block that holds bList -/
theorem sx_bList {W : World} {g : Nat} (m n : Nat) (ht : W.there g 0 350) :
    (∀ o, o < 350 → (W.setCells g 0 (bList m n)).cell? ⟨g, o, none⟩ = some (if o = 0 then .int .i64 m else if o = 1 then .int .i64 n else if o < 330 then .int .i64 0 else .bool false)) ∧ ∀ o, o < 350 → (W.setCells g 0 (bList m n)).frozen? ⟨g, o, none⟩ = false := by
  refine ⟨fun o ho => ?_, fun o ho => ?_⟩
  · have := World.rangeAt_setCells_same W g 0 (bList m n) (by rw [bList_length]; exact ht) o _ (bList_get ho)
    rwa [Nat.zero_add] at this
  · have := (World.there_setCells ht g 0 (bList m n) o ho).2
    rwa [Nat.zero_add] at this

theorem setCells_heap (g : Nat) : ∀ (vs : List Value) (o : Nat) (W : World) (k : Nat), k ≠ g → (W.setCells g o vs).heap[k]? = W.heap[k]?
  | [], _, _, _, _ => rfl
  | v :: r, o, W, k, h => by
    rw [World.setCells, setCells_heap g r (o + 1) _ k h]
    exact Below.heap_setCell _ _ _ _ h

theorem there_zc (w : World) (t : TypeId) : (w.alloc (.cells Try.zeroCells120 t)).there w.heap.size 0 350 := by rw [zc95]; exact there_zSx w t

end Go.Proofs.Ytnmcgbfhgmmcpaa

/-
  The first table, cell by cell.
-/
namespace Go.Proofs.Ytnmcgbfhgmmcpaa
open Go.RowKit

/-- zeros have been laid up to line i, column j -/
structure Z0 (W : World) (g m n i j : Nat) : Prop where
  rows : W.cell? ⟨g, 0, none⟩ = some (.int .i64 m)
  cols : W.cell? ⟨g, 1, none⟩ = some (.int .i64 n)
  zero : ∀ a b, a ≤ m → b ≤ n → (a < i ∨ a = i ∧ b < j) → W.cell? ⟨g, 2 + a * 40 + b * 2, none⟩ = some (.int .i64 0) ∧ W.cell? ⟨g, 2 + a * 40 + b * 2 + 1, none⟩ = some (.int .i64 1)
  bas : ∀ a, a < m → W.cell? ⟨g, 322 + a, none⟩ = some (.int .i64 0)
  bars : ∀ b, b < n → W.cell? ⟨g, 330 + b, none⟩ = some (.bool false)
  one : ∀ o, o < 350 → ∃ v, W.cell? ⟨g, o, none⟩ = some v ∧ v.oneCell' = true
  free : ∀ o, o < 350 → W.frozen? ⟨g, o, none⟩ = false

theorem Z0.start {W : World} {g m n : Nat} (hm : m ≤ 7) (hn : n ≤ 19) (hc : ∀ o, o < 350 → W.cell? ⟨g, o, none⟩ = some (if o = 0 then .int .i64 m else if o = 1 then .int .i64 n else if o < 330 then .int .i64 0 else .bool false)) (hf : ∀ o, o < 350 → W.frozen? ⟨g, o, none⟩ = false) : Z0 W g m n 0 0 where
  rows := hc 0 (by omega)
  cols := hc 1 (by omega)
  zero a b _ _ h := by omega
  bas a ha := by rw [hc (322 + a) (by omega), if_neg (by omega), if_neg (by omega), if_pos (by omega)]
  bars b hb := by rw [hc (330 + b) (by omega), if_neg (by omega), if_neg (by omega), if_neg (by omega)]
  one o ho := ⟨_, hc o ho, by (repeat' split) <;> rfl⟩
  free := hf

theorem Z0.below {W W' : World} {g m n i j : Nat} (h : Z0 W g m n i j) (hb : Below W.heap.size W W') : Z0 W' g m n i j := by
  have hg : g < W.heap.size := World.block_lt_of_cell? W _ h.rows
  have hc : ∀ o, W'.cell? ⟨g, o, none⟩ = W.cell? ⟨g, o, none⟩ := fun o => hb.cell (p := ⟨g, o, none⟩) hg
  exact ⟨(hc _).trans h.rows, (hc _).trans h.cols, fun a b ha hb' hl => ⟨(hc _).trans (h.zero a b ha hb' hl).1, (hc _).trans (h.zero a b ha hb' hl).2⟩, fun a ha => (hc _).trans (h.bas a ha), fun b hb' => (hc _).trans (h.bars b hb'), fun o ho => by rw [hc]; exact h.one o ho, fun o ho => (hb.frozen (p := ⟨g, o, none⟩) hg).trans (h.free o ho)⟩

theorem Z0.drew {W : World} {g m n i j : Nat} (h : Z0 W g m n i j) : Z0 W.drew g m n i j := ⟨h.rows, h.cols, h.zero, h.bas, h.bars, h.one, h.free⟩

theorem Z0.step {W : World} {g m n i j : Nat} (h : Z0 W g m n i j) (hi : i ≤ m) (hj : j ≤ n) (hm : m ≤ 7) (hn : n ≤ 19) :
    Z0 ((W.setCell ⟨g, 2 + i * 40 + j * 2, none⟩ (.int .i64 0)).setCell ⟨g, 2 + i * 40 + j * 2 + 1, none⟩ (.int .i64 1)) g m n i (j + 1) := by
  have ne : ∀ (X : World) (a b : Nat) (v : Value), a ≠ b → (X.setCell ⟨g, b, none⟩ v).cell? ⟨g, a, none⟩ = X.cell? ⟨g, a, none⟩ := fun X a b v hab => World.cell?_setCell_other _ _ _ _ (by intro e2; simp only [Addr.mk.injEq] at e2; omega)
  obtain ⟨v0, c0, _⟩ := h.one (2 + i * 40 + j * 2) (by omega)
  obtain ⟨v1, c1, _⟩ := h.one (2 + i * 40 + j * 2 + 1) (by omega)
  have s0 : ((W.setCell ⟨g, 2 + i * 40 + j * 2, none⟩ (.int .i64 0)).setCell ⟨g, 2 + i * 40 + j * 2 + 1, none⟩ (.int .i64 1)).cell? ⟨g, 2 + i * 40 + j * 2, none⟩ = some (.int .i64 0) := (ne _ _ _ _ (by omega)).trans (World.cell?_setCell_same _ _ _ c0)
  have s1 : ((W.setCell ⟨g, 2 + i * 40 + j * 2, none⟩ (.int .i64 0)).setCell ⟨g, 2 + i * 40 + j * 2 + 1, none⟩ (.int .i64 1)).cell? ⟨g, 2 + i * 40 + j * 2 + 1, none⟩ = some (.int .i64 1) := World.cell?_setCell_same _ _ _ ((ne _ _ _ _ (by omega)).trans c1)
  have oth : ∀ o, o ≠ 2 + i * 40 + j * 2 → o ≠ 2 + i * 40 + j * 2 + 1 → ((W.setCell ⟨g, 2 + i * 40 + j * 2, none⟩ (.int .i64 0)).setCell ⟨g, 2 + i * 40 + j * 2 + 1, none⟩ (.int .i64 1)).cell? ⟨g, o, none⟩ = W.cell? ⟨g, o, none⟩ := fun o h1 h2 => (ne _ _ _ _ h2).trans (ne _ _ _ _ h1)
  refine ⟨(oth 0 (by omega) (by omega)).trans h.rows, (oth 1 (by omega) (by omega)).trans h.cols, fun a b ha hb hl => ?_, fun a ha => (oth _ (by omega) (by omega)).trans (h.bas a ha), fun b hb => (oth _ (by omega) (by omega)).trans (h.bars b hb), fun o ho => ?_, fun o ho => by rw [World.frozen?_setCell, World.frozen?_setCell]; exact h.free o ho⟩
  · by_cases e : a = i ∧ b = j
    · obtain ⟨rfl, rfl⟩ := e; exact ⟨s0, s1⟩
    · have := h.zero a b ha hb (by omega)
      exact ⟨(oth _ (by omega) (by omega)).trans this.1, (oth _ (by omega) (by omega)).trans this.2⟩
  · by_cases e1 : o = 2 + i * 40 + j * 2
    · subst e1; exact ⟨_, s0, rfl⟩
    · by_cases e2 : o = 2 + i * 40 + j * 2 + 1
      · subst e2; exact ⟨_, s1, rfl⟩
      · rw [oth o e1 e2]; exact h.one o ho

theorem Z0.next {W : World} {g m n i : Nat} (h : Z0 W g m n i (n + 1)) : Z0 W g m n (i + 1) 0 :=
  ⟨h.rows, h.cols, fun a b ha hb hl => h.zero a b ha hb (by omega), h.bas, h.bars, h.one, h.free⟩

theorem Z0.done {W : World} {g m n : Nat} (h : Z0 W g m n (m + 1) 0) (hm : m ≤ 7) (hn : n ≤ 19) : SxAt W g m n (fun _ _ => 0) (fun _ => 0) (fun _ => false) :=
  ⟨⟨h.rows, h.cols, fun i j hi hj => (h.zero i j hi hj (by omega)).1, fun i j hi hj => (h.zero i j hi hj (by omega)).2, h.bas, h.bars, h.one, hm, hn⟩, h.free⟩

/-- lines below i are the first table's; of line i the first q entries have been laid -/
def partC (u : Nat) (L : List (List Nat)) (below : Bool) (i q : Nat) : Nat → Nat → Rat := fun a b => if a < i then startC u L below a b else if a = i ∧ b ∈ (L.getD i []).take q then 1 else 0

theorem partC_zero (u : Nat) (L : List (List Nat)) (below : Bool) (a b : Nat) : partC u L below 0 0 a b = 0 := by
  unfold partC
  rw [if_neg (by omega)]
  simp

theorem partC_entry (u : Nat) (L : List (List Nat)) (below : Bool) (i q : Nat) (hq : q < (L.getD i []).length) (a b : Nat) :
    partC u L below i (q + 1) a b = if a = i ∧ b = (L.getD i []).getD q 0 then 1 else partC u L below i q a b := by
  unfold partC
  by_cases h1 : a < i
  · rw [if_pos h1, if_neg (by omega), if_pos h1]
  · rw [if_neg h1, if_neg h1]
    have hm : b ∈ (L.getD i []).take (q + 1) ↔ b ∈ (L.getD i []).take q ∨ b = (L.getD i []).getD q 0 := by
      generalize L.getD i [] = l at *
      rw [List.take_add_one, List.getElem?_eq_getElem hq, List.getD_eq_getElem?_getD, List.getElem?_eq_getElem hq, List.mem_append]
      simp only [Option.toList_some, List.mem_singleton, Option.getD_some]
    by_cases h2 : a = i
    · by_cases h3 : b = (L.getD i []).getD q 0
      · rw [if_pos ⟨h2, hm.2 (Or.inr h3)⟩, if_pos ⟨h2, h3⟩]
      · rw [if_neg (show ¬ (a = i ∧ b = (L.getD i []).getD q 0) from fun h => h3 h.2)]
        by_cases h4 : b ∈ (L.getD i []).take q
        · rw [if_pos ⟨h2, hm.2 (Or.inl h4)⟩, if_pos ⟨h2, h4⟩]
        · rw [if_neg (fun h => by rcases hm.1 h.2 with h5 | h5; exact h4 h5; exact h3 h5), if_neg (fun h => h4 h.2)]
    · rw [if_neg (fun h => h2 h.1), if_neg (fun h => h2 h.1), if_neg (fun h => h2 h.1)]

/-- a whole line -/
theorem partC_line (u : Nat) (L : List (List Nat)) (below : Bool) (n i : Nat) (hn : n = if below then u + L.length + L.length else u + L.length) (hi : i < L.length) (hin : ∀ j ∈ L.getD i [], j < u) (a b : Nat) :
    partC u L below (i + 1) 0 a b = if a = i ∧ b = n then 1 else if a = i ∧ b = n - L.length + i then 1 else if below = true ∧ a = i ∧ b = u + i then -1 else partC u L below i (L.getD i []).length a b := by
  have hc : ∀ (l : List Nat) (x : Nat), l.contains x = decide (x ∈ l) := fun l x => by
    by_cases hb : x ∈ l
    · rw [decide_eq_true hb]; exact List.contains_iff_mem.2 hb
    · rw [decide_eq_false hb]
      cases hc : l.contains x
      · rfl
      · exact absurd (List.contains_iff_mem.1 hc) hb
  unfold partC startC
  simp only [← hn, hc, decide_eq_true_eq, List.take_length]
  generalize hl : L.getD i [] = l at *
  have hm : ∀ x, x ∈ l → x < u := hin
  by_cases h2 : a = i
  · subst h2
    simp only [hl]
    cases below
    · simp only [Bool.false_eq_true, if_false] at hn
      grind
    · simp only [if_true] at hn
      grind
  · grind

end Go.Proofs.Ytnmcgbfhgmmcpaa
