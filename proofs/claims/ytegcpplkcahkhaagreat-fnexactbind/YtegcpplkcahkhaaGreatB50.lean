import Derived.Test.YtegcpplkcahkhaaGreatB49
/-
  laws.markTableS, heldTableS.
-/
namespace Go.Proofs.YtegcpplkcahkhaaGreat
open Go.RowKit

/-- a table's lists of numbers, in the order of marking -/
def flP (t : TbR) : List PV := (t.v0, t.vs) :: (t.us.zip t.rows ++ [(t.v2, t.ws)])
def ofT (tl : List TbR) (j : Nat) : Nat := ((tl.take j).flatMap flP).length

theorem flP_zero (t : TbR) : (flP t).getD 0 noP = (t.v0, t.vs) := rfl
theorem flP_len {t : TbR} (h : t.us.length = t.rows.length) : (flP t).length = t.rows.length + 2 := by simp [flP, h]
theorem flP_row {t : TbR} (h : t.us.length = t.rows.length) {i : Nat} (hi : i < t.rows.length) : (flP t).getD (1 + i) noP = (t.us.getD i undef, t.rows.getD i []) := by
  have hz : i < (t.us.zip t.rows).length := by rw [List.length_zip]; omega
  have e : (flP t)[1 + i]? = some (t.us.getD i undef, t.rows.getD i []) := by
    show ((t.v0, t.vs) :: (t.us.zip t.rows ++ [(t.v2, t.ws)]))[1 + i]? = _
    rw [Nat.add_comm, List.getElem?_cons_succ, List.getElem?_append_left hz, List.getElem?_eq_getElem hz, List.getElem_zip, List.getD_eq_getElem?_getD, List.getD_eq_getElem?_getD, List.getElem?_eq_getElem (by omega : i < t.us.length), List.getElem?_eq_getElem hi]
    rfl
  rw [List.getD_eq_getElem?_getD, e]; rfl
theorem flP_last {t : TbR} (h : t.us.length = t.rows.length) : (flP t).getD (1 + t.rows.length) noP = (t.v2, t.ws) := by
  have hz : (t.us.zip t.rows).length = t.rows.length := by rw [List.length_zip]; omega
  have e : (flP t)[1 + t.rows.length]? = some (t.v2, t.ws) := by
    show ((t.v0, t.vs) :: (t.us.zip t.rows ++ [(t.v2, t.ws)]))[1 + t.rows.length]? = _
    rw [Nat.add_comm, List.getElem?_cons_succ, List.getElem?_append_right (by omega), hz, Nat.sub_self]
    rfl
  rw [List.getD_eq_getElem?_getD, e]; rfl
theorem ofT_at {tl : List TbR} {j i : Nat} (hj : j < tl.length) (hi : i < (flP (tl.getD j noTb)).length) : (tl.flatMap flP).getD (ofT tl j + i) noP = (flP (tl.getD j noTb)).getD i noP := by
  have e : tl.getD j noTb = tl[j] := by rw [List.getD_eq_getElem?_getD, List.getElem?_eq_getElem hj]; rfl
  have es : tl.flatMap flP = (tl.take j).flatMap flP ++ (flP tl[j] ++ (tl.drop (j + 1)).flatMap flP) := by
    rw [← List.flatMap_cons, ← List.flatMap_append, ← List.drop_eq_getElem_cons hj, List.take_append_drop]
  rw [e] at hi ⊢
  rw [List.getD_eq_getElem?_getD, List.getD_eq_getElem?_getD, es, List.getElem?_append_right (by unfold ofT; omega), show ofT tl j + i - ((tl.take j).flatMap flP).length = i by unfold ofT; omega, List.getElem?_append_left hi]
theorem ofT_succ {tl : List TbR} {j : Nat} (hj : j < tl.length) : ofT tl (j + 1) = ofT tl j + (flP (tl.getD j noTb)).length := by
  unfold ofT
  rw [List.take_add_one, List.getElem?_eq_getElem hj, List.flatMap_append, List.length_append, List.getD_eq_getElem?_getD, List.getElem?_eq_getElem hj]
  simp
theorem ofT_all (tl : List TbR) : ofT tl tl.length = (tl.flatMap flP).length := by unfold ofT; rw [List.take_length]
theorem ofT_le (tl : List TbR) {i : Nat} : ∀ {j : Nat}, i ≤ j → j ≤ tl.length → ofT tl i ≤ ofT tl j
  | 0, h, _ => by
    have e : i = 0 := Nat.le_zero.1 h
    subst e
    exact Nat.le_refl _
  | j + 1, h, hl => by
    by_cases e : i = j + 1
    · rw [e]; exact Nat.le_refl _
    · have h1 := ofT_le tl (i := i) (j := j) (by omega) (by omega)
      have h2 := ofT_succ (tl := tl) (j := j) (by omega)
      omega

theorem mem_flP {t : TbR} {p : PV} (h : p ∈ flP t) : p.1 ∈ bls t := by
  rcases List.mem_cons.1 h with rfl | h
  · exact List.mem_cons_self
  · rcases List.mem_append.1 h with h | h
    · exact List.mem_cons_of_mem _ (List.mem_cons_of_mem _ (List.of_mem_zip h).1)
    · rw [List.mem_singleton.1 h]
      exact List.mem_cons_of_mem _ List.mem_cons_self
theorem TWr.flOwn {W : World} {B : Nat} {t : TbR} (h : TWr W B t) {p : PV} (hp : p ∈ flP t) : W.ownsRow B 3 1 p.1 p.2.length (p.2.map (Value.int .i64)) := by
  rcases List.mem_cons.1 hp with rfl | hp
  · exact h.o0
  · rcases List.mem_append.1 hp with hp | hp
    · obtain ⟨i, hi, e⟩ := List.getElem_of_mem hp
      rw [List.getElem_zip] at e
      rw [List.length_zip] at hi
      have := h.rq.each i (by omega)
      rw [List.getD_eq_getElem?_getD, List.getElem?_eq_getElem (by omega : i < t.us.length), List.getD_eq_getElem?_getD, List.getElem?_eq_getElem (by omega : i < t.rows.length)] at this
      rw [← e]
      exact this
    · rw [List.mem_singleton.1 hp]; exact h.o2
theorem ApW.symm {u v : Value} (h : ApW u v) : ApW v u := fun g h1 h2 => h g h2 h1
theorem TWr.flAp {W : World} {B : Nat} {t : TbR} (h : TWr W B t) : (flP t).Pairwise fun p q => ApW p.1 q.1 := by
  have hg : ∀ {i : Nat} (hi : i < t.us.length), t.us.getD i undef = t.us[i] := fun {i} hi => by rw [List.getD_eq_getElem?_getD, List.getElem?_eq_getElem hi]; rfl
  have hl := h.rq.len
  refine List.pairwise_cons.2 ⟨fun p hp => ?_, List.pairwise_append.2 ⟨?_, List.pairwise_singleton _ _, fun p hp q hq => ?_⟩⟩
  · rcases List.mem_append.1 hp with hp | hp
    · obtain ⟨i, hi, e⟩ := List.getElem_of_mem hp
      rw [List.getElem_zip] at e
      rw [List.length_zip] at hi
      rw [← e]
      have := h.a0 i (by omega)
      rw [hg (by omega)] at this
      exact this.symm
    · rw [List.mem_singleton.1 hp]; exact h.a02
  · rw [List.pairwise_iff_getElem]
    intro i j hi hj hij
    rw [List.getElem_zip, List.getElem_zip]
    rw [List.length_zip] at hi hj
    have := h.rq.ap i j hij (by omega)
    rw [hg (by omega), hg (by omega)] at this
    exact this
  · obtain ⟨i, hi, e⟩ := List.getElem_of_mem hp
    rw [List.getElem_zip] at e
    rw [List.length_zip] at hi
    rw [← e, List.mem_singleton.1 hq]
    have := h.a2 i (by omega)
    rw [hg (by omega)] at this
    exact this

theorem flat_len {tl : List TbR} (h : ∀ t ∈ tl, (flP t).length ≤ 10002) : (tl.flatMap flP).length ≤ tl.length * 10002 := by
  induction tl with
  | nil => simp
  | cons x r ih =>
    rw [List.flatMap_cons, List.length_append, List.length_cons]
    have h1 := h x List.mem_cons_self
    have h2 := ih fun t ht => h t (List.mem_cons_of_mem _ ht)
    omega

theorem TBs.gb {W : World} {B : Nat} {v : Value} {tl : List TbR} (h : TBs W B v tl) (h7 : tl.length ≤ 12) (hO : ∀ t ∈ tl, TvOk (tvB t)) : GB W B (tl.flatMap flP) := by
  have hm : ∀ {j : Nat} (hj : j < (tl.flatMap flP).length), (tl.flatMap flP).getD j noP = (tl.flatMap flP)[j] := fun {j} hj => by rw [List.getD_eq_getElem?_getD, List.getElem?_eq_getElem hj]; rfl
  have hpw : (tl.flatMap flP).Pairwise fun p q => ApW p.1 q.1 := List.pairwise_flatMap.2 ⟨fun t ht => TWr.flAp (h.each t ht), h.ap.imp fun hst (x : PV) hx (y : PV) hy => hst x.1 (mem_flP hx) y.1 (mem_flP hy)⟩
  refine ⟨fun j hj => ?_, fun i j hij hj => ?_, ?_⟩
  · rw [hm hj]
    obtain ⟨t, ht, hp⟩ := List.mem_flatMap.1 (List.getElem_mem hj)
    exact TWr.flOwn (h.each t ht) hp
  · rw [hm hj, hm (by omega)]
    exact List.pairwise_iff_getElem.1 hpw i j (by omega) hj hij
  · have h1 : (tl.flatMap flP).length ≤ tl.length * 10002 := flat_len fun t ht => by
      rw [flP_len (h.each t ht).rq.len]
      have h1 : t.rows.length ≤ 10000 := (hO t ht).n
      omega
    have h2 : lenB (tl.flatMap flP) (tl.flatMap flP).length ≤ (tl.flatMap flP).length * 10000 := lenB_mul (fun p hp => by
      obtain ⟨t, ht, hp⟩ := List.mem_flatMap.1 hp
      have ok := hO t ht
      rcases List.mem_cons.1 hp with rfl | hp
      · have : t.vs.length ≤ 6 := ok.vs
        show t.vs.length ≤ 10000
        omega
      · rcases List.mem_append.1 hp with hp | hp
        · have := ok.len p.2 (List.of_mem_zip hp).2
          omega
        · rw [List.mem_singleton.1 hp]; exact ok.ws) _
    omega

/-- what table j's round asks of the memory -/
theorem tbs_cells {w wr : World} {B k i : Nat} {tl : List TbR} (hG : GB w B (tl.flatMap flP)) {g : Nat} (hc : ∀ j q, j < tl.length → q < 3 → w.cell? ⟨g, j * 3 + q, none⟩ = (tcs (tl.getD j noTb))[q]?) (ht : ∃ cur, w.heap[g]? = some (.cells cur 60 (0, 0)))
    (hM : MkB w wr B (tl.flatMap flP) k i) (hi : i ≤ (tl.flatMap flP).length) {j : Nat} (hj : j < tl.length) :
    wr.cell? ⟨g, j * 3, none⟩ = some (tl.getD j noTb).v0 ∧ wr.cell? ⟨g, j * 3 + 1, none⟩ = some (tl.getD j noTb).v1 ∧ wr.cell? ⟨g, j * 3 + 2, none⟩ = some (tl.getD j noTb).v2 := by
  have e := hM.other hG hi ht (by decide)
  have mv : ∀ q, wr.cell? ⟨g, q, none⟩ = w.cell? ⟨g, q, none⟩ := fun q => World.cell?_of_block (w := w) (a := ⟨g, q, none⟩) e
  exact ⟨(mv _).trans (hc j 0 hj (by omega)), (mv _).trans (hc j 1 hj (by omega)), (mv _).trans (hc j 2 hj (by omega))⟩
theorem TWr.row {w wr : World} {B k i n : Nat} {ps : List PV} {t : TbR} (h : TWr w B t) (hG : GB w B ps) (hM : MkB w wr B ps k i) (hi : i ≤ ps.length) (hn : n < t.rows.length) : ∃ g cap, t.v1 = .slice (some ⟨g, 0, none⟩) t.rows.length cap ∧ wr.cell? ⟨g, n, none⟩ = some (t.us.getD n undef) := by
  obtain ⟨g, cap, e, -, hc⟩ := h.rq.get hn
  have ht := own_typ h.rq.own (g := g) (by rw [e]; rfl)
  exact ⟨g, cap, e, (World.cell?_of_block (w := w) (a := ⟨g, n, none⟩) (hM.other hG hi ht (by decide))).trans hc⟩

theorem TBs.nth {W : World} {B : Nat} {v : Value} {tl : List TbR} (h : TBs W B v tl) {j : Nat} (hj : j < tl.length) : TWr W B (tl.getD j noTb) := h.each _ (by rw [List.getD_eq_getElem?_getD, List.getElem?_eq_getElem hj]; exact List.getElem_mem _)

set_option maxHeartbeats 4000000 in
set_option maxRecDepth 1000000 in
theorem markTableS_calls (w : World) (B : Nat) (v : Value) (tl : List TbR) (h : TBs w B v tl) (h7 : tl.length ≤ 12) (hO : ∀ t ∈ tl, TvOk (tvB t)) :
    Calls Tryz.prog 15 #[v, .int .i64 1] w fun e w' => e = .returned (.int .i64 ((1 + lenB (tl.flatMap flP) (tl.flatMap flP).length : Nat) : Int)) ∧ MkB w w' B (tl.flatMap flP) 1 (tl.flatMap flP).length := by
  have hG := h.gb h7 hO
  obtain ⟨a, cap, rfl, hcell⟩ := own3 tcs (fun _ => rfl) noTb h.own
  obtain ⟨n, hn⟩ : ∃ n, n = tl.length := ⟨_, rfl⟩
  have HK : Hid (∀ j wr, j < n → MkB w wr B (tl.flatMap flP) 1 (ofT tl j) → ∃ g a0 n0 c0 a1 n1 c1 a2 n2 c2 L1 L2 L3 i1 i2, a = some ⟨g, 0, none⟩ ∧ wr.cell? ⟨g, j * 3, none⟩ = some (.slice a0 n0 c0) ∧ L1 = 1 + lenB (tl.flatMap flP) (ofT tl j) ∧
      Calls Tryz.prog 40 #[.slice a0 n0 c0, .int .i64 ((L1 : Nat) : Int)] wr (fun e w' => e = .returned (.int .i64 ((L2 : Nat) : Int)) ∧ MkB w w' B (tl.flatMap flP) 1 i1) ∧
      (∀ wA, MkB w wA B (tl.flatMap flP) 1 i1 → wA.cell? ⟨g, j * 3 + 1, none⟩ = some (.slice a1 n1 c1) ∧ Calls Tryz.prog 41 #[.slice a1 n1 c1, .int .i64 ((L2 : Nat) : Int)] wA (fun e w' => e = .returned (.int .i64 ((L3 : Nat) : Int)) ∧ MkB w w' B (tl.flatMap flP) 1 i2)) ∧
      (∀ wA, MkB w wA B (tl.flatMap flP) 1 i2 → wA.cell? ⟨g, j * 3 + 2, none⟩ = some (.slice a2 n2 c2) ∧ Calls Tryz.prog 40 #[.slice a2 n2 c2, .int .i64 ((L3 : Nat) : Int)] wA (fun e w' => e = .returned (.int .i64 ((1 + lenB (tl.flatMap flP) (ofT tl (j + 1)) : Nat) : Int)) ∧ MkB w w' B (tl.flatMap flP) 1 (ofT tl (j + 1))))) := hid fun j wr hj hM => by
    rw [hn] at hj
    rcases hcell with h0 | ⟨g, ea, ht, hc⟩
    · omega
    have tw := h.nth hj
    have hlen := tw.rq.len
    have hfl := flP_len hlen
    have hsu := ofT_succ hj
    have hle := ofT_le tl (show j + 1 ≤ tl.length from hj) (Nat.le_refl _)
    rw [ofT_all] at hle
    have p0 : (tl.flatMap flP).getD (ofT tl j) noP = ((tl.getD j noTb).v0, (tl.getD j noTb).vs) := by
      have := ofT_at (i := 0) hj (by omega)
      rw [Nat.add_zero] at this
      exact this.trans (flP_zero _)
    have p1 : ∀ i, i < (tl.getD j noTb).rows.length → (tl.flatMap flP).getD (ofT tl j + 1 + i) noP = ((tl.getD j noTb).us.getD i undef, (tl.getD j noTb).rows.getD i []) := fun i hi => by
      rw [Nat.add_assoc]
      exact (ofT_at (i := 1 + i) hj (by omega)).trans (flP_row hlen hi)
    have p2 : (tl.flatMap flP).getD (ofT tl j + 1 + (tl.getD j noTb).rows.length) noP = ((tl.getD j noTb).v2, (tl.getD j noTb).ws) := by
      rw [Nat.add_assoc]
      exact (ofT_at (i := 1 + (tl.getD j noTb).rows.length) hj (by omega)).trans (flP_last hlen)
    obtain ⟨a0, c0, e0⟩ := own_shapeW tw.o0
    obtain ⟨a1, c1, e1⟩ := own_shapeW tw.rq.own
    obtain ⟨a2, c2, e2⟩ := own_shapeW tw.o2
    have hn2 : (tl.getD j noTb).rows.length ≤ 10000 := (hO (tl.getD j noTb) (by rw [List.getD_eq_getElem?_getD, List.getElem?_eq_getElem hj]; exact List.getElem_mem _)).n
    refine ⟨g, a0, (tl.getD j noTb).vs.length, c0, a1, (tl.getD j noTb).rows.length, c1, a2, (tl.getD j noTb).ws.length, c2, _, 1 + lenB (tl.flatMap flP) (ofT tl j + 1), 1 + lenB (tl.flatMap flP) (ofT tl j + 1 + (tl.getD j noTb).rows.length), ofT tl j + 1, ofT tl j + 1 + (tl.getD j noTb).rows.length, ea, ?_, rfl, ?_, fun wA hA => ⟨?_, ?_⟩, fun wA hA => ⟨?_, ?_⟩⟩
    · rw [← e0]; exact (tbs_cells hG hc ht hM (by omega) hj).1
    · have := mark1 hM hG (by omega) (by omega)
      rw [p0] at this
      rw [← e0]; exact this
    · rw [← e1]; exact (tbs_cells hG hc ht hA (by omega) hj).2.1
    · refine marksB hA hG a1 (tl.getD j noTb).rows.length c1 (by omega) (by omega) (by omega) fun i hi => ?_
      obtain ⟨g1, cap1, ee, -⟩ := tw.rq.get hi
      rw [e1] at ee
      simp only [Value.slice.injEq, true_and] at ee
      refine ⟨g1, ee.1, fun wr' j' hj' hM' => ?_⟩
      obtain ⟨g2, cap2, ee2, hcc⟩ := tw.row hG hM' hj' hi
      rw [e1] at ee2
      simp only [Value.slice.injEq, true_and] at ee2
      rw [ee.1] at ee2
      simp only [Option.some.injEq, Addr.mk.injEq, and_true] at ee2
      obtain ⟨rfl, -⟩ := ee2
      rw [p1 i hi]; exact hcc
    · rw [← e2]; exact (tbs_cells hG hc ht hA (by omega) hj).2.2
    · have := mark1 hA hG (by omega) (by omega)
      rw [p2] at this
      rw [← e2, show ofT tl (j + 1) = ofT tl j + 1 + (tl.getD j noTb).rows.length + 1 by omega]; exact this
  have HL : Hid (∀ j, j ≤ n → 1 + lenB (tl.flatMap flP) (ofT tl j) ≤ 10000000001) := hid fun j hj => by
    have h1 := ofT_le tl (show j ≤ tl.length by omega) (Nat.le_refl _)
    rw [ofT_all] at h1
    have h2 := lenB_le (tl.flatMap flP) h1
    have h3 := hG.few
    omega
  rw [← ofT_all, ← hn]
  have hz : ofT tl 0 = 0 := by unfold ofT; simp
  have HM0 : Hid (MkB w w B (tl.flatMap flP) 1 (ofT tl 0)) := hid (by rw [hz]; exact MkB.start)
  have HL0 : Hid (1 = 1 + lenB (tl.flatMap flP) (ofT tl 0)) := hid (by rw [hz]; rfl)
  have hn7 : n ≤ 12 := by omega
  clear h hG hcell hO hn h7 hz
  go_enter Tryz.func15, Tryz.ntmps15
  go_wp2
  go_loopw [1, 5] (fun u t wr => ∃ j : Nat, j ≤ n ∧ t = .int .i64 j ∧ ∃ c : Nat, u = .int .i64 (c : Int) ∧ Hid (c = 1 + lenB (tl.flatMap flP) (ofT tl j) ∧ MkB w wr B (tl.flatMap flP) 1 (ofT tl j))) (fun _ t _ => n - (intOf t).toNat)
  case atStart => exact ⟨0, Nat.zero_le _, rfl, 1, rfl, hid ⟨HL0.out, HM0.out⟩⟩
  case round =>
    clear HM0 HL0
    obtain ⟨j, hj, rfl, c, rfl, hok⟩ := hrel
    by_cases hjn : j < n
    · have i1 : (j : Int) < (n : Int) := by omega
      obtain ⟨g, a0, n0, c0, a1, n1, c1, a2, n2, c2, L1, L2, L3, x1, x2, rfl, d0, hL1, k0, k1, k2⟩ := HK.out j wr hjn hok.out.2
      have hcl : c = L1 := hok.out.1.trans hL1.symm
      subst hcl
      have K0 := hid k0
      have K1 := hid k1
      have K2 := hid k2
      clear hok hL1 k0 k1 k2
      go_wp2_with fail
      refine K0.out.mono ?_
      rintro e wA ⟨rfl, hA⟩
      obtain ⟨d1, k1⟩ := K1.out wA hA
      have K1' := hid k1
      clear k1 hA K1 K0 d0
      go_wp2_with fail
      refine K1'.out.mono ?_
      rintro e wB ⟨rfl, hB⟩
      obtain ⟨d2, k2⟩ := K2.out wB hB
      have K2' := hid k2
      clear k2 hB K2 K1' d1
      go_wp2_with fail
      refine K2'.out.mono ?_
      rintro e wC ⟨rfl, hC⟩
      have HC := hid hC
      clear hC K2' d2
      go_wp2_with fail
      go_roundw
      case rel => exact ⟨j + 1, by omega, by go_num, _, rfl, hid ⟨rfl, HC.out⟩⟩
      case measure => simp [intOf]; omega
    · obtain rfl : j = n := by omega
      have i1 : ¬ ((j : Int) < (j : Int)) := by omega
      go_wp2
      go_ret
      exact ⟨ret_int (by have := hok.out.1; omega), hok.out.2⟩

set_option maxHeartbeats 4000000 in
set_option maxRecDepth 1000000 in
theorem heldTableS_calls (w W : World) (B : Nat) (v : Value) (tl : List TbR) (h : TBs w B v tl) (h7 : tl.length ≤ 12) (hO : ∀ t ∈ tl, TvOk (tvB t)) (hM : MkB w W B (tl.flatMap flP) 1 (tl.flatMap flP).length) :
    Calls Tryz.prog 16 #[v, .int .i64 1] W fun e w' => e = .returned (.int .i64 ((1 + lenB (tl.flatMap flP) (tl.flatMap flP).length : Nat) : Int)) ∧ w' = W := by
  have hG := h.gb h7 hO
  obtain ⟨a, cap, rfl, hcell⟩ := own3 tcs (fun _ => rfl) noTb h.own
  obtain ⟨n, hn⟩ : ∃ n, n = tl.length := ⟨_, rfl⟩
  have HK : Hid (∀ j, j < n → ∃ g a0 n0 c0 a1 n1 c1 a2 n2 c2 L1 L2 L3, a = some ⟨g, 0, none⟩ ∧ W.cell? ⟨g, j * 3, none⟩ = some (.slice a0 n0 c0) ∧ W.cell? ⟨g, j * 3 + 1, none⟩ = some (.slice a1 n1 c1) ∧ W.cell? ⟨g, j * 3 + 2, none⟩ = some (.slice a2 n2 c2) ∧ L1 = 1 + lenB (tl.flatMap flP) (ofT tl j) ∧
      Calls Tryz.prog 42 #[.slice a0 n0 c0, .int .i64 ((L1 : Nat) : Int)] W (fun e w' => e = .returned (.int .i64 ((L2 : Nat) : Int)) ∧ w' = W) ∧
      Calls Tryz.prog 43 #[.slice a1 n1 c1, .int .i64 ((L2 : Nat) : Int)] W (fun e w' => e = .returned (.int .i64 ((L3 : Nat) : Int)) ∧ w' = W) ∧
      Calls Tryz.prog 42 #[.slice a2 n2 c2, .int .i64 ((L3 : Nat) : Int)] W (fun e w' => e = .returned (.int .i64 ((1 + lenB (tl.flatMap flP) (ofT tl (j + 1)) : Nat) : Int)) ∧ w' = W)) := hid fun j hj => by
    rw [hn] at hj
    rcases hcell with h0 | ⟨g, ea, ht, hc⟩
    · omega
    have tw := h.nth hj
    have hlen := tw.rq.len
    have hfl := flP_len hlen
    have hsu := ofT_succ hj
    have hle := ofT_le tl (show j + 1 ≤ tl.length from hj) (Nat.le_refl _)
    rw [ofT_all] at hle
    have p0 : (tl.flatMap flP).getD (ofT tl j) noP = ((tl.getD j noTb).v0, (tl.getD j noTb).vs) := by
      have := ofT_at (i := 0) hj (by omega)
      rw [Nat.add_zero] at this
      exact this.trans (flP_zero _)
    have p1 : ∀ i, i < (tl.getD j noTb).rows.length → (tl.flatMap flP).getD (ofT tl j + 1 + i) noP = ((tl.getD j noTb).us.getD i undef, (tl.getD j noTb).rows.getD i []) := fun i hi => by
      rw [Nat.add_assoc]
      exact (ofT_at (i := 1 + i) hj (by omega)).trans (flP_row hlen hi)
    have p2 : (tl.flatMap flP).getD (ofT tl j + 1 + (tl.getD j noTb).rows.length) noP = ((tl.getD j noTb).v2, (tl.getD j noTb).ws) := by
      rw [Nat.add_assoc]
      exact (ofT_at (i := 1 + (tl.getD j noTb).rows.length) hj (by omega)).trans (flP_last hlen)
    obtain ⟨a0, c0, e0⟩ := own_shapeW tw.o0
    obtain ⟨a1, c1, e1⟩ := own_shapeW tw.rq.own
    obtain ⟨a2, c2, e2⟩ := own_shapeW tw.o2
    have hn2 : (tl.getD j noTb).rows.length ≤ 10000 := (hO (tl.getD j noTb) (by rw [List.getD_eq_getElem?_getD, List.getElem?_eq_getElem hj]; exact List.getElem_mem _)).n
    have hcs := tbs_cells hG hc ht hM (Nat.le_refl _) hj
    refine ⟨g, a0, (tl.getD j noTb).vs.length, c0, a1, (tl.getD j noTb).rows.length, c1, a2, (tl.getD j noTb).ws.length, c2, _, 1 + lenB (tl.flatMap flP) (ofT tl j + 1), 1 + lenB (tl.flatMap flP) (ofT tl j + 1 + (tl.getD j noTb).rows.length), ea, ?_, ?_, ?_, rfl, ?_, ?_, ?_⟩
    · rw [← e0]; exact hcs.1
    · rw [← e1]; exact hcs.2.1
    · rw [← e2]; exact hcs.2.2
    · have := hM.held (ofT tl j) (by omega) W (fun _ _ => rfl) (Nat.le_refl _)
      rw [p0] at this
      rw [← e0]; exact this
    · refine heldsB W (tl.flatMap flP) 1 (ofT tl j + 1) a1 (tl.getD j noTb).rows.length c1 (by omega) (fun i hi => ?_) (fun i hi => ?_) (fun i hi => hM.held (ofT tl j + 1 + i) (by omega) W (fun _ _ => rfl) (Nat.le_refl _))
      · obtain ⟨g2, cap2, ee2, hcc⟩ := tw.row hG hM (Nat.le_refl _) hi
        rw [e1] at ee2
        simp only [Value.slice.injEq, true_and] at ee2
        rw [p1 i hi]
        exact ⟨g2, ee2.1, hcc⟩
      · rw [p1 i hi]
        obtain ⟨au, cu, eu⟩ := own_shapeW (tw.rq.each i hi)
        exact ⟨au, _, cu, eu⟩
    · have := hM.held (ofT tl j + 1 + (tl.getD j noTb).rows.length) (by omega) W (fun _ _ => rfl) (Nat.le_refl _)
      rw [p2] at this
      rw [← e2, show ofT tl (j + 1) = ofT tl j + 1 + (tl.getD j noTb).rows.length + 1 by omega]; exact this
  rw [← ofT_all, ← hn]
  have hz : ofT tl 0 = 0 := by unfold ofT; simp
  have HL0 : Hid (1 = 1 + lenB (tl.flatMap flP) (ofT tl 0)) := hid (by rw [hz]; rfl)
  have hn7 : n ≤ 12 := by omega
  clear h hG hcell hO hn h7 hz hM
  go_enter Tryz.func16, Tryz.ntmps16
  go_wp2
  go_loop [1, 5] (fun u t => ∃ j : Nat, j ≤ n ∧ t = .int .i64 j ∧ ∃ c : Nat, u = .int .i64 (c : Int) ∧ Hid (c = 1 + lenB (tl.flatMap flP) (ofT tl j))) (fun _ t => n - (intOf t).toNat)
  case atStart => exact ⟨0, Nat.zero_le _, rfl, 1, rfl, hid HL0.out⟩
  case round =>
    clear HL0
    obtain ⟨j, hj, rfl, c, rfl, hok⟩ := hrel
    by_cases hjn : j < n
    · have i1 : (j : Int) < (n : Int) := by omega
      obtain ⟨g, a0, n0, c0, a1, n1, c1, a2, n2, c2, L1, L2, L3, rfl, d0, d1, d2, hL1, k0, k1, k2⟩ := HK.out j hjn
      have hcl : c = L1 := hok.out.trans hL1.symm
      subst hcl
      obtain ⟨L4, hL4⟩ : ∃ L : Nat, L = 1 + lenB (tl.flatMap flP) (ofT tl (j + 1)) := ⟨_, rfl⟩
      rw [← hL4] at k2
      have K0 := hid k0
      have K1 := hid k1
      have K2 := hid k2
      have HL4 := hid hL4
      have g2 : ¬ ((L2 : Int) < 0) := by omega
      have g3 : ¬ ((L3 : Int) < 0) := by omega
      have g4 : ¬ ((L4 : Int) < 0) := by omega
      clear hok hL1 k0 k1 k2 hL4
      go_wp2_with fail
      refine K0.out.mono ?_
      rintro e wA ⟨rfl, hA⟩
      subst hA
      clear K0 d0
      go_wp2_with fail
      refine K1.out.mono ?_
      rintro e wA ⟨rfl, hA⟩
      subst hA
      clear K1 d1
      go_wp2_with fail
      refine K2.out.mono ?_
      rintro e wA ⟨rfl, hA⟩
      subst hA
      clear K2 d2
      go_wp2_with fail
      go_round
      case rel => exact ⟨j + 1, by omega, by go_num, L4, rfl, hid HL4.out⟩
      case measure => simp [intOf]; omega
    · obtain rfl : j = n := by omega
      have i1 : ¬ ((j : Int) < (j : Int)) := by omega
      go_wp2
      go_ret
      exact ⟨ret_int (by have := hok.out; omega), rfl⟩

end Go.Proofs.YtegcpplkcahkhaaGreat
