import Derived.Test.YtcdfoephhjacdaaDoorQ49
/-
  spec.ParseData.
-/
namespace Go.Proofs.YtcdfoephhjacdaaDoor
open Go.RowKit

/-- how spec.ParseData ends -/
def ParSE (w : World) (l : List UInt8) (e : Ending) (w' : World) : Prop := Below w.heap.size w w' ∧
  ((60000 < l.length ∧ e = .returned (.tuple #[.agg #[.slice none 0 0], .int .i64 (-1)])) ∨
   (l.length ≤ 60000 ∧ ∃ k, k < (spl 10 l).length ∧ (∃ st, prT (spl 10 l) k = some st) ∧ prT (spl 10 l) (k + 1) = none ∧ e = .returned (.tuple #[.agg #[.slice none 0 0], .int .i64 ((k : Int) + 1)])) ∨
   (l.length ≤ 60000 ∧ ∃ st, prT (spl 10 l) (spl 10 l).length = some st ∧ ∃ v ds vr vw us, e = .returned (.tuple #[.agg #[v], .int .i64 0]) ∧ DsOf st ds ∧ SQ w' w.heap.size v ds vr vw us))

/-- a list of texts in its block -/
def LSt (W : World) (g : Nat) (ls : List (List UInt8)) : Prop := (∃ cur, W.heap[g]? = some (.cells cur 9 (0, 0))) ∧ ∀ j, j < ls.length → W.cell? ⟨g, j, none⟩ = some (.string ⟨(ls.getD j []).toArray⟩)
theorem own_txt {W : World} {B : Nat} {v : Value} {ls : List (List UInt8)} (h : W.ownsRow B 9 1 v ls.length (ls.map tx)) (h1 : 1 ≤ ls.length) : ∃ g c, v = .slice (some ⟨g, 0, none⟩) ls.length c ∧ ls.length ≤ c ∧ LSt W g ls := by
  rcases h.2 with ⟨rfl, h2⟩ | ⟨g, cap, cur, rfl, -, hg, hc, -⟩
  · omega
  · refine ⟨g, cap, rfl, hc, ⟨cur, hg⟩, fun j hj => ?_⟩
    rw [h.cellAt j (by omega), List.getElem?_map, List.getElem?_eq_getElem hj, List.getD_eq_getElem?_getD, List.getElem?_eq_getElem hj]
    rfl
theorem LSt.keep {W W' : World} {g : Nat} {ls : List (List UInt8)} (h : LSt W g ls) (hk : KeepU W W') : LSt W' g ls := by
  obtain ⟨⟨cur, hc⟩, h2⟩ := h
  have e := hk g cur _ (Or.inl rfl) hc
  exact ⟨⟨cur, e.trans hc⟩, fun j hj => (World.cell?_of_block e).trans (h2 j hj)⟩
theorem LSt.fs {W : World} {g c : Nat} {ls : List (List UInt8)} (h : LSt W g ls) (hc : ls.length ≤ c) : FS W (.slice (some ⟨g, 0, none⟩) ls.length c) ls := ⟨_, c, rfl, hc, Or.inr ⟨g, 0, rfl, fun j hj => by rw [Nat.zero_add]; exact h.2 j hj⟩⟩
theorem SQ.start (W : World) (B : Nat) (vr vw : Nat → Value) (us : Nat → List Value) : SQ W B (.slice none 0 0) [] vr vw us :=
  ⟨World.ownsRow_nil _ _ _ _, fun _ hi => absurd hi (Nat.not_lt_zero _), fun _ hi => absurd hi (Nat.not_lt_zero _), fun _ hi => absurd hi (Nat.not_lt_zero _), fun _ hi => absurd hi (Nat.not_lt_zero _)⟩
theorem SQ.base {W : World} {B B' : Nat} {v : Value} {ds : List RelV} {vr vw : Nat → Value} {us : Nat → List Value} (h : SQ W B v ds vr vw us) (hB : B' ≤ B) : SQ W B' v ds vr vw us :=
  ⟨own_base h.own hB, fun i hi => ⟨own_base (h.rw i hi).own hB, (h.rw i hi).len, fun j hj => own_base ((h.rw i hi).each j hj) hB⟩, fun i hi => own_base (h.ow i hi) hB, h.eq, h.nil⟩

/-- the loop's state -/
def PSs (W1 : World) (P B G : Nat) (ls : List (List UInt8)) (i : Nat) (W : World) : Prop := ∃ st v ds vr vw us, prT ls i = some st ∧ SQ W B v ds vr vw us ∧ DsOf st ds ∧ Boxed W P 24 v ∧ Below P W1 W ∧ B ≤ W.heap.size ∧ LSt W G ls

/-- what l2Line leaves -/
def LnP (B : Nat) (st : List RdV) (l : List UInt8) (w' : World) (v' : Value) : Prop := ∀ st', takA st l = some st' → ∃ ds' vr vw us, SQ w' B v' ds' vr vw us ∧ DsOf st' ds'
theorem LnP.below {B : Nat} {st : List RdV} {l : List UInt8} {w' w2 : World} {v' : Value} (h : LnP B st l w' v') (hb : Below w'.heap.size w' w2) : LnP B st l w2 v' := fun st' hs => by
  obtain ⟨ds', vr, vw, us, h1, h2⟩ := h st' hs
  exact ⟨ds', vr, vw, us, h1.below hb, h2⟩
theorem LnP.setD {B p : Nat} {st : List RdV} {l : List UInt8} {w' : World} {v' y : Value} (h : LnP B st l w' v') (ht : ∃ cur, w'.heap[p]? = some (.cells cur 24 (0, 0))) : LnP B st l (w'.setCell ⟨p, 0, none⟩ y) v' := fun st' hs => by
  obtain ⟨ds', vr, vw, us, h1, h2⟩ := h st' hs
  exact ⟨ds', vr, vw, us, h1.setD ht, h2⟩
theorem takA_mute {st : List RdV} {l : List UInt8} (h : mute l = true) : takA st l = some st := by unfold takA; rw [h, if_pos rfl]

theorem LSt.setD {W : World} {g p : Nat} {y : Value} {ls : List (List UInt8)} (h : LSt W g ls) (ht : ∃ cur, W.heap[p]? = some (.cells cur 24 (0, 0))) : LSt (W.setCell ⟨p, 0, none⟩ y) g ls := by
  obtain ⟨⟨cur, hc⟩, h2⟩ := h
  obtain ⟨cu2, hc2⟩ := ht
  have hne : g ≠ p := fun e => by
    rw [e, hc2] at hc
    simp only [Option.some.injEq, Obj.cells.injEq] at hc
    exact absurd hc.2.1 (by decide)
  have e := Below.heap_setCell W ⟨p, 0, none⟩ y g hne
  exact ⟨⟨cur, e.trans hc⟩, fun j hj => (World.cell?_of_block e).trans (h2 j hj)⟩
theorem mute_yes {s : ByteArray} (h : mute s.data.toList = true) (hp : 0 < s.size) : (((s[0]'hp).toNat : Int) == 35) = true := by
  rw [← byteAt_eq s 0 hp]
  unfold byteAt
  unfold mute at h
  cases hl : s.data.toList with
  | nil =>
    have hlen : s.data.toList.length = s.size := by simp
    rw [hl] at hlen
    simp at hlen
    omega
  | cons x r =>
    rw [hl] at h
    have e : x = 35 := by simpa using h
    rw [e]; rfl
theorem mute_no {s : ByteArray} (h : mute s.data.toList = false) : ∃ hp : 0 < s.size, (((s[0]'hp).toNat : Int) == 35) = false := by
  have hlen : s.data.toList.length = s.size := by simp
  unfold mute at h
  cases hl : s.data.toList with
  | nil => rw [hl] at h; simp at h
  | cons x r =>
    rw [hl] at h hlen
    have hp : 0 < s.size := by simp at hlen; omega
    refine ⟨hp, ?_⟩
    rw [← byteAt_eq s 0 hp]
    unfold byteAt
    rw [hl]
    have e : x ≠ 35 := by simpa using h
    simp only [beq_eq_false_iff_ne, ne_eq]
    exact fun e2 => e (UInt8.toNat_inj.1 (by show _ = 35; have e3 : ((x.toNat : Int)) = 35 := e2; omega))

set_option maxHeartbeats 8000000 in
set_option maxRecDepth 1000000 in
theorem sParse_calls (w : World) (s : ByteArray) (hs : s.size ≤ 1099511627776) :
    Calls Tryd.prog 5 #[.string s] w (ParSE w s.data.toList) := by
  obtain ⟨i0, hi, hz0, hz1, hz2⟩ := info_parts Tryd.infoReS
  have hlen : s.data.toList.length = s.size := by simp
  obtain ⟨W1, hW1⟩ : ∃ W1, W1 = w.alloc (.cells #[.slice none 0 0] 24) := ⟨_, rfl⟩
  have HB1 : Hid (Below w.heap.size w W1) := hid (by rw [hW1]; exact (Below.refl _ _).alloc (Nat.le_refl _) _)
  have HX1 : Hid (Boxed W1 w.heap.size 24 (.slice none 0 0)) := hid (by rw [hW1]; exact Boxed.new _ _ _)
  have hs1 : W1.heap.size = w.heap.size + 1 := by rw [hW1]; simp
  have HS1 := hid hs1
  have b1 := HX1.out.cell
  have f1 := HX1.out.frozen
  by_cases hbig : 60000 < s.size
  · have q1 : (60000 : Int) < (s.size : Int) := by omega
    have HF : Hid (∀ w', Below w.heap.size w w' → ParSE w s.data.toList (.returned (.tuple #[.agg #[.slice none 0 0], .int .i64 (-1)])) w') := hid fun w' hb => ⟨hb, Or.inl ⟨by omega, rfl⟩⟩
    clear hlen hbig hs1 hi hz0 hz1 hz2
    go_enter Tryd.func5, Tryd.ntmps5
    go_upto_region 1 with fail
    rw [← hW1]
    clear hW1
    go_wp2_with fail
    refine bodyPost_ret (v := .tuple #[.agg #[.slice none 0 0], .int .i64 (-1)]) (by simp [results, Tryd.results5, go_sem, b1]) rfl ?_
    exact HF.out _ (HB1.out.setCell (Nat.le_refl _) _)
  · have q1 : ¬ ((60000 : Int) < (s.size : Int)) := by omega
    have hsm : s.size ≤ 60000 := by omega
    obtain ⟨ls, hls⟩ : ∃ ls, ls = spl 10 s.data.toList := ⟨_, rfl⟩
    obtain ⟨W2, hW2⟩ : ∃ W2, W2 = W1.alloc (.cells #[.slice none 0 0] 24) := ⟨_, rfl⟩
    have hB2 : Below W1.heap.size W1 W2 := by rw [hW2]; exact (Below.refl _ _).alloc (Nat.le_refl _) _
    have HX2 : Hid (Boxed W2 W1.heap.size 24 (.slice none 0 0)) := hid (by rw [hW2]; exact Boxed.new _ _ _)
    have HS2 : Hid (W2.heap.size = W1.heap.size + 1) := hid (by rw [hW2]; simp)
    have HB2 := hid hB2
    have hl1 : 1 ≤ ls.length := by rw [hls]; exact spl_pos _ _
    have KS : Hid (Calls Tryd.prog 15 #[.string s, .int .u8 10] W2 fun e w' => ∃ g c, e = .returned (.slice (some ⟨g, 0, none⟩) ls.length c) ∧ Hid (Below W2.heap.size W2 w' ∧ ls.length ≤ c ∧ LSt w' g ls)) := hid ((l2Split_calls W2 s 10 (by omega)).mono fun e w' ⟨v, he, ho, hb⟩ => by
      rw [← hls] at ho
      obtain ⟨g, c, hv, hc, hL⟩ := own_txt ho hl1
      exact ⟨g, c, by rw [he, hv], hid ⟨hb, hc, hL⟩⟩)
    have hlz : ls.length ≤ 60001 := by rw [hls]; have := spl_le 10 s.data.toList; omega
    have HLl : Hid (∀ j, (ls.getD j []).length ≤ 60000) := hid fun j => by rw [hls]; have := spl_len 10 s.data.toList j; omega
    have HFn : Hid (∀ k w', k < ls.length → (∃ st, prT ls k = some st) → prT ls (k + 1) = none → Below w.heap.size w w' → ParSE w s.data.toList (.returned (.tuple #[.agg #[.slice none 0 0], .int .i64 ((k : Int) + 1)])) w') := hid fun k w' hk h1 h2 hb => ⟨hb, Or.inr (Or.inl ⟨by omega, k, by rw [← hls]; exact hk, by rw [← hls]; exact h1, by rw [← hls]; exact h2, rfl⟩)⟩
    have HFy : Hid (∀ v w' st ds vr vw us, prT ls ls.length = some st → DsOf st ds → SQ w' w.heap.size v ds vr vw us → Below w.heap.size w w' → ParSE w s.data.toList (.returned (.tuple #[.agg #[v], .int .i64 0])) w') := hid fun v w' st ds vr vw us h1 h2 h3 hb => ⟨hb, Or.inr (Or.inr ⟨by omega, st, by rw [← hls]; exact h1, v, ds, vr, vw, us, rfl, h2, h3⟩)⟩
    clear hlen hbig hs1 hB2 hls hsm
    go_enter Tryd.func5, Tryd.ntmps5
    go_upto_region 1 with fail
    rw [← hW1]
    clear hW1
    go_upto_region 4 with fail
    rw [← hW2]
    clear hW2
    obtain ⟨n, hn⟩ : ∃ n, n = ls.length := ⟨_, rfl⟩
    have HN := hid hn
    rw [← hn] at KS hlz
    clear hn
    obtain ⟨P, hP⟩ : ∃ P, P = W1.heap.size := ⟨_, rfl⟩
    have HPe := hid hP
    rw [← hP] at HX2 HS2 ⊢
    clear hP
    go_wp2_with (first | (go_at_call 15; refine KS.out.mono ?_; rintro e w3 ⟨G, cG, rfl, H3⟩) | fail)
    clear KS
    have HP0 : Hid (PSs W1 P (P + 1) G ls 0 w3) := hid ⟨[], _, [], fun _ => .slice none 0 0, fun _ => .slice none 0 0, fun _ => [], rfl, SQ.start _ _ _ _ _, ⟨rfl, fun _ h => absurd h (Nat.not_lt_zero _)⟩, bx_below HX2.out H3.out.1, by rw [HPe.out]; exact bt HB2.out H3.out.1, by rw [← HS2.out]; exact H3.out.1.size, H3.out.2.2⟩
    clear H3 HX2 HS2 HB2
    go_loopw [17] (fun t wr => ∃ i : Nat, i ≤ n ∧ t = .int .i64 i ∧ Hid (PSs W1 P (P + 1) G ls i wr)) (fun t _ => n - (intOf t).toNat)
    case atStart => exact ⟨0, Nat.zero_le _, rfl, HP0⟩
    case round =>
      clear HP0
      obtain ⟨i, hin, rfl, HH⟩ := hrel
      obtain ⟨st, v, ds, vr, vw, us, hst, hSQ, hof, hbx, hB, hBs, hL⟩ := HH.out
      obtain ⟨aV, cV, rfl⟩ := own_shapeR hSQ.own
      have HST := hid hst
      have HSQ := hid hSQ
      have HOF := hid hof
      have HBX := hid hbx
      have HB := hid hB
      have HBs := hid hBs
      have HL := hid hL
      clear HH hst hSQ hof hbx hB hBs hL
      have HBw : Hid (Below w.heap.size w wr) := hid (by
        have := HB.out
        rw [HPe.out] at this
        exact bt HB1.out this)
      have b2 : wr.cell? ⟨w.heap.size, 0, none⟩ = some (.slice none 0 0) := (HB.out.cell (p := ⟨w.heap.size, 0, none⟩) (by have := HPe.out; have := HS1.out; show w.heap.size < P; omega)).trans b1
      have HBx : Hid (wr.heap[w.heap.size]? = W1.heap[w.heap.size]?) := hid (HB.out.block _ (by have := HPe.out; have := HS1.out; omega))
      have f2 : wr.frozen? ⟨w.heap.size, 0, none⟩ = false := by rw [World.frozen?_of_block HBx.out]; exact f1
      have d2 := HBX.out.cell
      have df2 := HBX.out.frozen
      by_cases hlt : i < n
      · have i1 : (i : Int) < (n : Int) := by omega
        have hil : i < ls.length := by rw [← HN.out]; exact hlt
        have cl : wr.cell? ⟨G, i, none⟩ = some (.string ⟨(ls.getD i []).toArray⟩) := HL.out.2 i hil
        have HNx : Hid (prT ls (i + 1) = takA st (ls.getD i [])) := hid (by rw [prT, HST.out]; rfl)
        have hll := HLl.out i
        obtain ⟨sl, hsl⟩ : ∃ sl : ByteArray, sl = ⟨(ls.getD i []).toArray⟩ := ⟨_, rfl⟩
        have hsd : sl.data.toList = ls.getD i [] := by rw [hsl]
        rw [← hsl] at cl
        rw [← hsd] at HNx hll
        clear hsl hsd
        have hlen : sl.data.toList.length = sl.size := by simp
        cases hmu : mute sl.data.toList
        · obtain ⟨hp0, q3⟩ := mute_no hmu
          have h0 : ¬ sl.size = 0 := by omega
          have hne := not_empty h0
          have j0 : (0 : Int) < (sl.size : Int) := by omega
          obtain ⟨f, hfd⟩ : ∃ f, f = spl 32 sl.data.toList := ⟨_, rfl⟩
          have hf1 : 1 ≤ f.length := by rw [hfd]; exact spl_pos _ _
          have KS : Hid (∀ W, Below wr.heap.size wr W → Calls Tryd.prog 15 #[.string sl, .int .u8 32] W fun e w' => ∃ g nf c, e = .returned (.slice (some ⟨g, 0, none⟩) nf c) ∧ FS w' (.slice (some ⟨g, 0, none⟩) nf c) f ∧ Below W.heap.size W w' ∧ Below wr.heap.size wr w' ∧ Below (P + 1) wr w') := hid fun W hW => (l2Split_calls W sl 32 (by omega)).mono fun e w' ⟨v5, he, ho, hb⟩ => by
            rw [← hfd] at ho
            obtain ⟨g, c, hv, hc, hLs⟩ := own_txt ho hf1
            exact ⟨g, _, c, by rw [he, hv], hLs.fs hc, hb, bt hW hb, (bt hW hb).mono HBs.out⟩
          obtain ⟨ok, hok⟩ : ∃ ok, ok = (takA st sl.data.toList).isSome := ⟨_, rfl⟩
          have KL : Hid (∀ W vf, Below wr.heap.size wr W → FS W vf f → Calls Tryd.prog 16 #[.agg #[.slice aV ds.length cV], vf] W fun e w' => ∃ a m c, e = .returned (.tuple #[.agg #[.slice a m c], .bool ok]) ∧ KeepU W w' ∧ Below (P + 1) wr w' ∧ KeepU wr w' ∧ Hid (LnP (P + 1) st sl.data.toList w' (.slice a m c))) := hid fun W vf hW hF => by
            rw [hfd] at hF
            refine (l2Line_calls W (P + 1) _ st ds vr vw us (HSQ.out.below hW) (Nat.le_trans HBs.out hW.size) HOF.out (prT_ok HST.out) (prT_good HST.out) vf _ hmu hll hF).mono ?_
            rintro e w' ⟨v', rfl, ⟨a, m, c, rfl⟩, hb, hk, hP⟩
            exact ⟨a, m, c, by rw [hok], hk, (hW.mono HBs.out).trans hb, (KeepU.below hW).trans hk, hid hP⟩
          have KC : Hid (∀ W, Below (P + 1) wr W → W.cell? ⟨P, 0, none⟩ = some (.slice aV ds.length cV)) := hid fun W h => (h.cell (p := ⟨P, 0, none⟩) (Nat.lt_succ_self P)).trans d2
          have HOK := hid hok
          clear hok hfd hf1 hmu hlen hll
          go_upto_region 8 with fail
          go_cut [7, 8] from 29 to 35 (fun a b wx => ∃ X v', a = .pointer (some ⟨X, 0, none⟩) ∧ b = .bool ok ∧ Hid (SlV v' ∧ Boxed wx X 24 v' ∧ Below (P + 1) wr wx ∧ KeepU wr wx ∧ LnP (P + 1) st sl.data.toList wx v'))
          case first =>
            first | go_region_held3 (fun W => W.cell? ⟨P, 0, none⟩ = some (.slice aV ds.length cV))
              (first
                | exact KC.out _ (Below.refl _ _).drew
                | exact KC.out _ ((Below.refl _ _).drew.alloc HBs.out _)
                | exact KC.out _ hm5
                | exact KC.out _ (hm5.alloc (Nat.le_trans HBs.out hm5.size) _)
                | exact KC.out _ hm6
                | exact KC.out _ (hm6.alloc (Nat.le_trans HBs.out hm6.size) _)
                | exact KC.out _ (hm6.setCell (by first | exact HBs.out | exact Nat.le_trans HBs.out hb5.size) _)
                | fail)
              (first
                | (go_at_call 15; (first | (with_reducible refine (KS.out _ (Below.refl _ _).drew).mono ?_) | (with_reducible refine (KS.out _ ((Below.refl _ _).alloc (Nat.le_refl _) _).drew).mono ?_)); rintro e w5 ⟨g5, nf5, c5, rfl, hf5, hbs5, hb5, hm5⟩; try (have hx5 : Boxed w5 wr.heap.size 24 (.slice none 0 0) := bx_below (W := (wr.alloc (.cells #[.slice none 0 0] 24)).drew) (Boxed.new wr 24 (.slice none 0 0)) hbs5))
                | (go_at_call 16; (first | (with_reducible refine (KL.out _ _ hb5 hf5).mono ?_) | (with_reducible refine (KL.out _ _ (hb5.alloc hb5.size _) (hf5.below ((Below.refl _ _).alloc (Nat.le_refl _) _))).mono ?_)); rintro e w6 ⟨a6, m6, c6, rfl, hk6, hm6, hu6, hP6⟩; (first | (have hx6 : Boxed w6 wr.heap.size 24 (.slice none 0 0) := (hk6 _ _ _ (Or.inr rfl) hx5).trans hx5; have xc6 := hx6.cell; have xf6 := hx6.frozen) | have chk : KeepU w5 w6 := hk6 | (have hx6 : Boxed w6 w5.heap.size 24 (.slice none 0 0) := (hk6 w5.heap.size _ _ (Or.inr rfl) (Boxed.new w5 24 (.slice none 0 0))).trans (Boxed.new w5 24 (.slice none 0 0)); have xc6 := hx6.cell; have xf6 := hx6.frozen)))
                | fail) | fail
            all_goals (go_wp2_with fail; go_meet)
            all_goals first
              | exact ⟨_, _, rfl, rfl, hid ⟨⟨_, _, _, rfl⟩, hx6.set _, hm6.setCell (by first | exact HBs.out | exact Nat.le_trans HBs.out hb5.size) _, hu6.set (by first | exact Nat.le_refl _ | exact hb5.size), hP6.out.setD ⟨_, hx6⟩⟩⟩
              | exact ⟨_, _, rfl, rfl, hid ⟨⟨_, _, _, rfl⟩, Boxed.new w6 _ _, hm6.alloc (Nat.le_trans HBs.out hm6.size) _, hu6.trans (KeepU.below ((Below.refl _ _).alloc (Nat.le_refl _) _)), hP6.out.below ((Below.refl _ _).alloc (Nat.le_refl _) _)⟩⟩
          case rest =>
            obtain ⟨X, v', rfl, rfl, hcut⟩ := hcut
            obtain ⟨⟨aN, nN, cN, rfl⟩, hx, hm, hu, hP⟩ := hcut.out
            have hbP : Boxed wc P 24 (.slice aV ds.length cV) := (hm.block P (Nat.lt_succ_self P)).trans HBX.out
            have HBP := hid hbP
            have HM := hid hm
            have HU := hid hu
            have HP := hid hP
            have x1 := hx.cell
            have d3 := hbP.cell
            have df3 := hbP.frozen
            have hPw : w.heap.size < P + 1 := by have := HPe.out; have := HS1.out; omega
            have b3 : wc.cell? ⟨w.heap.size, 0, none⟩ = some (.slice none 0 0) := (hm.cell (p := ⟨w.heap.size, 0, none⟩) hPw).trans b2
            have f3 : wc.frozen? ⟨w.heap.size, 0, none⟩ = false := by rw [World.frozen?_of_block (hm.block w.heap.size hPw)]; exact f2
            have HBc : Hid (Below w.heap.size w wc) := hid (HBw.out.trans (hm.mono (by omega)))
            clear hcut hx hm hu hP KS KL KC cl d2 df2 b2 f2 hbP hPw
            cases hta : takA st sl.data.toList with
            | none =>
              have hok : ok = false := by rw [HOK.out, hta]; rfl
              subst hok
              rw [hta] at HNx
              clear HOK hta
              go_wp2_with fail
              refine bodyPost_ret (v := .tuple #[.agg #[.slice none 0 0], .int .i64 ((i : Int) + 1)]) (by simp [results, Tryd.results5, go_sem, b3]) rfl ?_
              exact HFn.out i _ hil ⟨st, HST.out⟩ HNx.out (HBc.out.setCell (Nat.le_refl _) _)
            | some st' =>
              have hok : ok = true := by rw [HOK.out, hta]; rfl
              subst hok
              have HP' := hid (HP.out st' hta)
              rw [hta] at HNx
              clear HOK hta HP
              go_wp2_with fail
              go_roundw
              case rel =>
                obtain ⟨ds', vr', vw', us', hS', hD'⟩ := HP'.out
                exact ⟨i + 1, by omega, by go_num, hid ⟨st', _, ds', vr', vw', us', HNx.out, hS'.setD ⟨_, HBP.out⟩, hD', HBP.out.set _, (HB.out.trans (HM.out.mono (Nat.le_succ P))).setCell (Nat.le_refl _) _, by rw [World.size_setCell]; exact Nat.le_trans HBs.out HM.out.size, (HL.out.keep HU.out).setD ⟨_, HBP.out⟩⟩⟩
              case measure => simp [intOf]; omega
        · have HGo : Hid (PSs W1 P (P + 1) G ls (i + 1) wr) := hid ⟨st, _, ds, vr, vw, us, HNx.out.trans (takA_mute hmu), HSQ.out, HOF.out, HBX.out, HB.out, HBs.out, HL.out⟩
          by_cases h0 : sl.size = 0
          · have e1 : sl = ⟨#[]⟩ := by
              obtain ⟨⟨l⟩⟩ := sl
              simp [ByteArray.size] at h0
              simp [h0]
            subst e1
            clear h0 hlen hll hmu HNx
            go_wp2_with fail
            go_roundw
            case rel => exact ⟨i + 1, by omega, by go_num, HGo⟩
            case measure => simp [intOf]; omega
          · have hne := not_empty h0
            have j0 : (0 : Int) < (sl.size : Int) := by omega
            have hp0 : 0 < sl.size := by omega
            have q3 := mute_yes hmu hp0
            clear h0 hlen hll hmu HNx
            go_wp2_with fail
            go_roundw
            case rel => exact ⟨i + 1, by omega, by go_num, HGo⟩
            case measure => simp [intOf]; omega
      · obtain rfl : i = n := by omega
        have i1 : ¬ ((i : Int) < (i : Int)) := by omega
        go_wp2_with fail
        refine bodyPost_ret (v := .tuple #[.agg #[.slice aV ds.length cV], .int .i64 0]) (by simp [results, Tryd.results5, go_sem, b2]) rfl ?_
        have hty : ∃ cur, wr.heap[w.heap.size]? = some (.cells cur 24 (0, 0)) := ⟨_, HBx.out.trans HX1.out⟩
        refine HFy.out _ _ st ds vr vw us (by rw [← HN.out]; exact HST.out) HOF.out ?_ (HBw.out.setCell (Nat.le_refl _) _)
        exact (HSQ.out.setD hty).base (by have := HPe.out; have := HS1.out; omega)

end Go.Proofs.YtcdfoephhjacdaaDoor
