import Derived.Deep.AppendLies
import Derived.Deep.RegionHeld3
import Derived.Laws.MakeOwn
import Derived.Test.YtcdfoephhjacdaaGreatDoorR47
/-
  impl.decimals: the numbers' texts, in a list of its own.
-/
namespace Go.Proofs.YtcdfoephhjacdaaGreatDoor
open Go.RowKit

theorem Tryz.infoStr : (Tryz.prog.info? 9).map (fun i => (i.zero, i.size, i.bytes)) = some (some (.string ⟨#[]⟩), 1, 16) := by kernel_rfl

def dcV (row : List Int) (q : Nat) : List Value := (row.take q).map fun x => .string ⟨(Lib.itoa x).toArray⟩
theorem dcV_succ {row : List Int} {q : Nat} (hq : q < row.length) : dcV row (q + 1) = dcV row q ++ [.string ⟨(Lib.itoa (row.getD q 0)).toArray⟩] := by
  have e : row.take (q + 1) = row.take q ++ [row.getD q 0] := by
    rw [List.take_add_one, List.getElem?_eq_getElem hq, List.getD_eq_getElem?_getD, List.getElem?_eq_getElem hq]; rfl
  unfold dcV
  rw [e, List.map_append]
  rfl

set_option maxHeartbeats 4000000 in
set_option maxRecDepth 1000000 in
theorem decimals_calls (w : World) (a : Option Addr) (c : Nat) (row : List Int) (hcell : ∀ q, q < row.length → ∃ b o, a = some ⟨b, o, none⟩ ∧ w.cell? ⟨b, o + q, none⟩ = some (.int .i64 (row.getD q 0))) (hn : row.length ≤ 1000000) (hv : ∀ q, q < row.length → -1000000 ≤ row.getD q 0 ∧ row.getD q 0 ≤ 1000000) (htab : Lib.TabIs Tryz.prog w "internal/strconv.uint64pow10" .u64 Lib.pow10Tab) :
    Calls Tryz.prog 25 #[.slice a row.length c] w fun e w' => ∃ g cp, e = .returned (.slice (some ⟨g, 0, none⟩) row.length cp) ∧ w'.ownsRow w.heap.size 9 1 (.slice (some ⟨g, 0, none⟩) row.length cp) row.length (dcV row row.length) ∧ Below w.heap.size w w' := by
  obtain ⟨iT, hi, hz0, hz1, hz2⟩ := info_parts Tryz.infoStr
  have KI : Hid (∀ W n, Below w.heap.size w W → -1000000 ≤ n → n ≤ 1000000 → Calls Tryz.prog 24 #[.int .i64 n] W fun e w' => e = .returned (.string ⟨(Lib.itoa n).toArray⟩) ∧ Below W.heap.size W w') := hid fun W n hW h0 h1 => Tryz.c_Itoa n (by omega) (by omega) W (tab_below htab hW)
  have HCu : Hid (∀ W, Below w.heap.size w W → ∀ q, q < row.length → ∃ b o, a = some ⟨b, o, none⟩ ∧ W.cell? ⟨b, o + q, none⟩ = some (.int .i64 (row.getD q 0))) := hid fun W hW q hq => by
    obtain ⟨b, o, rfl, h⟩ := hcell q hq
    exact ⟨b, o, rfl, (hW.cell (World.block_lt_of_cell? w _ h)).trans h⟩
  have HRv := hid hv
  have HS : Hid (∀ q, q < row.length → dcV row (q + 1) = dcV row q ++ [.string ⟨(Lib.itoa (row.getD q 0)).toArray⟩]) := hid fun q hq => dcV_succ hq
  have HS0 : Hid (dcV row 0 = []) := hid rfl
  clear htab hcell hv
  obtain ⟨m, hm⟩ : ∃ m, m = row.length := ⟨_, rfl⟩
  rw [← hm] at hn HRv HCu HS ⊢
  clear hm
  obtain ⟨Wm, hmk', hownm, hgrm⟩ := run_makeSlice_owned (P := Tryz.prog) w w.heap.size 26 9 iT (.string ⟨#[]⟩) 1 Tryz.underlying26 hi hz0 hz1 .i64 .i64 m (by omega) (by rw [hz2]; omega) (by unfold maxLen; omega) (Nat.le_refl _)
  have hmk : Sem.run Tryz.prog (Instr.makeSlice 26 (.int .i64 0) (.int .i64 (m : Int))) w = .ok (.slice (some ⟨w.heap.size, 0, none⟩) 0 m) Wm := hmk'
  have hbm : Below w.heap.size w Wm := (Below.refl _ _).grown hgrm (Nat.le_refl _) (fun j hj => by simp at hj)
  have HM0 : Hid (Below w.heap.size w Wm ∧ Wm.ownsRow w.heap.size 9 1 (.slice (some ⟨w.heap.size, 0, none⟩) 0 m) 0 (dcV row 0)) := hid ⟨hbm, by rw [HS0.out]; exact hownm⟩
  clear hmk' hownm hgrm hbm
  go_enter Tryz.func25, Tryz.ntmps25
  go_wp2_with fail
  clear hmk
  go_loopw [3, 11] (fun v t wr => ∃ (p : Nat) (g c : Nat), p ≤ m ∧ t = .int .i64 p ∧ v = .slice (some ⟨g, 0, none⟩) p c ∧ Hid (Below w.heap.size w wr ∧ wr.ownsRow w.heap.size 9 1 (.slice (some ⟨g, 0, none⟩) p c) p (dcV row p))) (fun _ t _ => m - (intOf t).toNat)
  case atStart => exact ⟨0, _, _, Nat.zero_le _, rfl, rfl, HM0⟩
  case round =>
    clear HM0
    obtain ⟨p, g, c2, hpm, rfl, rfl, HG⟩ := hrel
    by_cases hlp : p < m
    · have i2 : (p : Int) < (m : Int) := by omega
      obtain ⟨tb, to', ea, g0⟩ := HCu.out wr HG.out.1 p hlp
      subst ea
      obtain ⟨hv0, hv1⟩ := HRv.out p hlp
      have KI1 := hid (KI.out wr (row.getD p 0) HG.out.1 hv0 hv1)
      have HSp := hid (HS.out p hlp)
      generalize Lib.itoa (row.getD p 0) = it at *
      generalize row.getD p 0 = x at *
      go_wp2_with fail
      refine KI1.out.mono ?_
      rintro e w6 ⟨rfl, hb6⟩
      have HG6 : Hid (Below w.heap.size w w6 ∧ w6.ownsRow w.heap.size 9 1 (.slice (some ⟨g, 0, none⟩) p c2) p (dcV row p)) := hid ⟨bt HG.out.1 hb6, own_below HG.out.2 hb6⟩
      have hs6 := HG6.out.1.size
      clear hb6 KI1 HG g0
      go_wp2_with (first | (at_builtin; refine wpList_append_lies _ rfl _ _ 26 rfl w.heap.size 9 iT (.string ⟨#[]⟩) 1 16 Tryz.underlying26 hi hz0 hz1 hz2 rfl (by decide) _ _ _ rfl (HG6.out.2.alloc _) ⟨_, 0, none⟩ 1 1 [.string ⟨it.toArray⟩] rfl rfl (new1_cell _ _ _) (fun u hu => by simp at hu; subst hu; rfl) (by decide) (by unfold maxLen; omega) (by omega) (by simp; omega) _ rfl ?_; intro g8 cp8 w8 hown8 hgrow8 hat8 hlt8) | fail)
      have HN2 : Hid (Below w.heap.size w w8 ∧ w8.ownsRow w.heap.size 9 1 (.slice (some ⟨g8, 0, none⟩) (p + 1) cp8) (p + 1) (dcV row (p + 1))) := hid ⟨(HG6.out.1.alloc hs6 _).grown hgrow8 (by simp; omega) (fun j hj => (HG6.out.2.lt j hj).1), by rw [HSp.out]; exact hown8⟩
      clear hown8 hgrow8 hat8 hlt8
      go_wp2_with fail
      go_roundw
      case rel => exact ⟨p + 1, _, _, by omega, by go_num, rfl, HN2⟩
      case measure => simp [intOf]; omega
    · obtain rfl : p = m := by omega
      have i2 : ¬ ((p : Int) < (p : Int)) := by omega
      go_wp2_with fail
      go_ret
      exact ⟨g, c2, rfl, HG.out.2, HG.out.1⟩

end Go.Proofs.YtcdfoephhjacdaaGreatDoor

/-
  impl.PrintData.
-/
namespace Go.Proofs.YtcdfoephhjacdaaGreatDoor
open Go.RowKit

theorem lineR_join (r : RelV) : Lib.join [[114, 101, 108], nmL r, Lib.itoa r.ar] [32] ++ [10] = lineR r := by
  unfold lineR
  rw [Lib.join_cons]
  simp [Lib.joinTail]
theorem rowT_tail {row : List Int} (h : 1 ≤ row.length) : Lib.joinTail [32] (row.map Lib.itoa) = [32] ++ rowT row := by
  cases row with
  | nil => simp at h
  | cons x l =>
    unfold rowT
    rw [List.map_cons, Lib.join_cons]
    simp [Lib.joinTail]
theorem lineW_join (r : RelV) (i : Nat) (h : 1 ≤ (r.rows.getD i []).length) : Lib.join ([nmL r] ++ (r.rows.getD i []).map Lib.itoa ++ [Lib.itoa (r.ws.getD i 0)]) [32] ++ [10] = lineW r i := by
  unfold lineW
  rw [List.singleton_append, List.cons_append, Lib.join_cons]
  have e : Lib.joinTail [32] ((r.rows.getD i []).map Lib.itoa ++ [Lib.itoa (r.ws.getD i 0)]) = Lib.joinTail [32] ((r.rows.getD i []).map Lib.itoa) ++ ([32] ++ Lib.itoa (r.ws.getD i 0)) := by simp [Lib.joinTail]
  rw [e, rowT_tail h]
  simp


theorem own_at2 {W : World} {B n j : Nat} {e : TypeId} {v : Value} {xs : List Value} (h : W.ownsRow B e 1 v n xs) (hj : j < n) : ∃ g cap, v = .slice (some ⟨g, 0, none⟩) n cap ∧ n ≤ cap ∧ W.cell? ⟨g, j, none⟩ = xs[j]? := by
  have hl := h.1
  rcases h.2 with ⟨-, h2⟩ | ⟨g, cap, cur, rfl, hb', hc, hn, -, -, ht⟩
  · omega
  · refine ⟨g, cap, rfl, hn, ?_⟩
    rw [cell_of_row _ _ _ _ _ _ hc, ← ht, List.getElem?_take_of_lt (by omega), Array.getElem?_toList]

/-- the fields of a row's line -/
def fldA (r : RelV) (row : List Int) (q : Nat) : List ByteArray := [r.name] ++ (row.take q).map fun x => ⟨(Lib.itoa x).toArray⟩
def fldV (r : RelV) (row : List Int) (q : Nat) : List Value := (fldA r row q).map Value.string
theorem fldA_len (r : RelV) {row : List Int} {q : Nat} (hq : q ≤ row.length) : (fldA r row q).length = q + 1 := by
  unfold fldA
  rw [List.length_append, List.length_map, List.length_take, List.length_singleton]
  omega

theorem getD_memI {l : List Int} {q : Nat} (h : q < l.length) : l.getD q 0 ∈ l := by rw [List.getD_eq_getElem?_getD, List.getElem?_eq_getElem h]; exact List.getElem_mem _
theorem own_one (W : World) (B : Nat) (hB : B ≤ W.heap.size) (x : Value) : (W.alloc (.cells #[x] 9)).ownsRow B 9 1 (.slice (some ⟨W.heap.size, 0, none⟩) 1 1) 1 [x] :=
  ⟨rfl, .inr ⟨W.heap.size, 1, #[x], rfl, hB, heap_alloc_new _ _, Nat.le_refl _, by decide, rfl, rfl⟩⟩
theorem pb_start {w W : World} (hb : Below w.heap.size w W) : PB w (W.alloc (.cells #[.pointer none, .slice none 0 0] 69)) W.heap.size W.heap.size [] :=
  ⟨Or.inl ⟨Nat.le_refl _, _, heap_alloc_new _ _, World.ownsRowF_nil _ _ _ _, by simp [Value.ownBlock]⟩, hb.alloc hb.size _, hb.size, by simp⟩

theorem fldV_dc (r : RelV) (row : List Int) (q : Nat) : fldV r row q = [.string r.name] ++ dcV row q := by
  simp [fldV, fldA, dcV, Function.comp_def]
theorem own_news {W : World} {B n g c : Nat} {xs : List Value} (h : W.ownsRow B 9 1 (.slice (some ⟨g, 0, none⟩) n c) n xs) : ∀ j u, xs[j]? = some u → W.cell? ((⟨g, 0, none⟩ : Addr).add j) = some u := by
  intro j u hj
  have hjl : j < xs.length := (List.getElem?_eq_some_iff.1 hj).1
  have hl := h.1
  have hc := h.cellAt j (by omega)
  rw [show (⟨g, 0, none⟩ : Addr).add j = ⟨g, j, none⟩ by unfold Addr.add; by_cases h0 : j = 0 <;> simp [h0], hc]
  exact hj
theorem PB.grown0 {w W w3 : World} {B b Bu n s : Nat} {l : List UInt8} {e : TypeId} {u : Value} {xs : List Value} (h : PB w W B b l) (hu : W.ownsRow Bu e s u n xs) (he : e ≠ 69 ∧ e ≠ 5) (hBu : w.heap.size ≤ Bu) (hg : W.grownBy w3 u.ownBlock) : PB w w3 B b l :=
  ⟨isb_move h.isb fun g hg' => by
    rcases hg' with hg' | hg'
    · obtain ⟨_, _, h1⟩ := hg'; exact hg.block g (cells_lt h1) (own_neF hu ⟨_, _, h1⟩ he.1)
    · obtain ⟨_, _, h1⟩ := hg'; exact hg.block g (cells_lt h1) (own_neF hu ⟨_, _, h1⟩ he.2), h.bw.grown hg h.bw.size (fun q hq => Nat.le_trans hBu (hu.lt q hq).1), h.lo, Nat.le_trans h.bz hg.size⟩

set_option maxHeartbeats 8000000 in
set_option maxRecDepth 1000000 in
theorem iPrintData_calls (w : World) (v : Value) (ds : List RelV) (h : IRelS w v ds) (hr : OkRels ds) (htab : Lib.TabIs Tryz.prog w "internal/strconv.uint64pow10" .u64 Lib.pow10Tab) :
    Calls Tryz.prog 7 #[.agg #[v]] w fun e w' => e = .returned (.string ⟨(prtT ds).toArray⟩) ∧ Below w.heap.size w w' := by
  obtain ⟨iT, hi, hz0, hz1, hz2⟩ := info_parts Tryz.infoStr
  obtain ⟨W1, hW1⟩ : ∃ W1, W1 = w.alloc (.cells #[v] 25) := ⟨_, rfl⟩
  have hB1 : Below w.heap.size w W1 := by rw [hW1]; exact (Below.refl _ _).alloc (Nat.le_refl _) _
  have HB1 := hid hB1
  have hx : W1.cell? ⟨w.heap.size, 0, none⟩ = some v := by rw [hW1]; simp [go_sem]
  have hs1 : w.heap.size < W1.heap.size := by rw [hW1]; simp
  have KD := hid (dataOK_calls W1 v ds (h.below hB1) hr)
  obtain ⟨a, cap, rfl, hc⟩ := h
  unfold prtT
  cases hd : dataB ds
  · rw [hd] at KD
    rw [if_neg (by simp)]
    clear hc htab
    generalize ds.length = n at *
    go_enter Tryz.func7, Tryz.ntmps7
    go_upto_region 1 with fail
    rw [← hW1]
    clear hW1
    go_wp2_with fail
    refine KD.out.mono ?_
    rintro e w2 ⟨rfl, hb2⟩
    go_wp2_with fail
    go_ret
    exact ⟨rfl, bt HB1.out hb2⟩
  · rw [hd] at KD
    rw [if_pos rfl]
    obtain ⟨h50, hgr⟩ := gr_of hd
    have HG := hid hgr
    have HL := hid (dat_len hgr)
    have KI : Hid (∀ W n, Below w.heap.size w W → -1000000 ≤ n → n ≤ 1000000 → Calls Tryz.prog 24 #[.int .i64 n] W fun e w' => e = .returned (.string ⟨(Lib.itoa n).toArray⟩) ∧ Below W.heap.size W w') := hid fun W n hW h0 h1 => Tryz.c_Itoa n (by omega) (by omega) W (tab_below htab hW)
    have HC : Hid (∀ j, j < ds.length → ∃ b o vr vw, a = some ⟨b, o, none⟩ ∧ (∀ W, Below w.heap.size w W → W.cell? ⟨b, o + j * 4, none⟩ = some (.string (ds.getD j noRel).name) ∧ W.cell? ⟨b, o + j * 4 + 1, none⟩ = some (.int .i64 (ds.getD j noRel).ar) ∧ W.cell? ⟨b, o + j * 4 + 2, none⟩ = some vr ∧ W.cell? ⟨b, o + j * 4 + 3, none⟩ = some vw) ∧ IRel w vr vw (ds.getD j noRel)) := hid fun j hj => by
      rcases hc with h0 | ⟨b, o, rfl, hh⟩
      · omega
      · obtain ⟨vr, vw, c0, c1, c2, c3, hI⟩ := hh j hj
        have cc : ∀ {p : Addr} {x : Value} (W : World), Below w.heap.size w W → w.cell? p = some x → W.cell? p = some x := fun W hW h => (hW.cell (World.block_lt_of_cell? w _ h)).trans h
        exact ⟨b, o, vr, vw, rfl, fun W hW => ⟨cc W hW c0, cc W hW c1, cc W hW c2, cc W hW c3⟩, hI⟩
    have HDs : Hid (∀ j, datT ds (j + 1) = datT ds j ++ relT (ds.getD j noRel) (ds.getD j noRel).rows.length) := hid fun j => rfl
    have HD0 : Hid (datT ds 0 = []) := hid rfl
    have htab := hid htab
    clear hc hgr hd hr
    obtain ⟨n, hn⟩ : ∃ n, n = ds.length := ⟨_, rfl⟩
    rw [← hn] at HG HL HC h50 hW1 hx KD ⊢
    clear hn
    go_enter Tryz.func7, Tryz.ntmps7
    go_upto_region 1 with fail
    rw [← hW1]
    clear hW1
    go_wp2_with fail
    refine KD.out.mono ?_
    rintro e w2 ⟨rfl, hb2⟩
    have hx2 : w2.cell? ⟨w.heap.size, 0, none⟩ = some (.slice a n cap) := (hb2.cell (p := ⟨w.heap.size, 0, none⟩) hs1).trans hx
    have HB2 := hid (bt HB1.out hb2)
    clear hb2 KD hx HB1
    go_upto_region 4 with fail
    have HP0 := hid (pb_start HB2.out)
    have hx3 : (w2.alloc (.cells #[.pointer none, .slice none 0 0] 69)).cell? ⟨w.heap.size, 0, none⟩ = some (.slice a n cap) := by rw [World.cell?_alloc_past _ _ _ (World.block_lt_of_cell? w2 _ hx2)]; exact hx2
    clear hx2 HB2
    obtain ⟨tb, htb⟩ : ∃ tb, tb = w2.heap.size := ⟨_, rfl⟩
    rw [← htb] at HP0 ⊢
    clear htb
    generalize w2.alloc (.cells #[.pointer none, .slice none 0 0] 69) = W3 at *
    go_wp2_with fail
    clear hx3
    go_loopw [15] (fun t wr => ∃ (j : Nat), j ≤ n ∧ t = .int .i64 j ∧ Hid (PB w wr tb tb (datT ds j))) (fun t _ => n - (intOf t).toNat)
    case atStart => exact ⟨0, Nat.zero_le _, rfl, hid (by rw [HD0.out]; exact HP0.out)⟩
    case round =>
      clear HP0 HD0
      obtain ⟨j, hjn, rfl, HT⟩ := hrel
      by_cases hlt : j < n
      · have i1 : (j : Int) < (n : Int) := by omega
        obtain ⟨b, o, vr, vw, ea, hcs, hir⟩ := HC.out j hlt
        obtain ⟨c0, c1, c2, c3⟩ := hcs wr HT.out.bw
        subst ea
        have hG := HG.out j hlt
        have HGr := hid hG
        have hz := hG.nz
        have hDl := HL.out j (by omega)
        have HDj := hid (HDs.out j)
        obtain ⟨a1, k1, rfl, hc1⟩ := hir.rows
        obtain ⟨a2, k2, rfl, hc2⟩ := hir.ws
        generalize ds.getD j noRel = r at *
        clear hir HG HL hcs
        have HCr : Hid (∀ W, Below w.heap.size w W → ∀ i, i < r.rows.length → ∃ (b o : Nat) (u : Value), a1 = some ⟨b, o, none⟩ ∧ W.cell? ⟨b, o + i, none⟩ = some u ∧ IS w u (r.rows.getD i [])) := hid fun W hW i hi => by
          rcases hc1 with h0 | ⟨b, o, rfl, h⟩
          · omega
          · obtain ⟨u, h1, h2⟩ := h i hi
            exact ⟨b, o, u, rfl, (hW.cell (World.block_lt_of_cell? w _ h1)).trans h1, h2⟩
        have HCw : Hid (∀ W, Below w.heap.size w W → ∀ i, i < r.rows.length → ∃ (b o : Nat), a2 = some ⟨b, o, none⟩ ∧ W.cell? ⟨b, o + i, none⟩ = some (.int .i64 (r.ws.getD i 0))) := hid fun W hW i hi => by
          have := hG.wl
          rcases hc2 with h0 | ⟨b, o, rfl, h⟩
          · omega
          · exact ⟨b, o, rfl, (hW.cell (World.block_lt_of_cell? w _ (h i (by omega)))).trans (h i (by omega))⟩
        have hwl := hG.wl
        rw [hwl] at c3
        clear hc1 hc2 hG hwl
        obtain ⟨m, hm⟩ : ∃ m, m = r.rows.length := ⟨_, rfl⟩
        have HM := hid hm
        rw [← hm] at c2 c3 HCr HCw HDj
        clear hm
        go_upto_region 7 with fail
        have HX := hid (RXp.made wr r.name r.ar (.slice a1 m k1) (.slice a2 m k2))
        have HP := hid (HT.out.below ((Below.refl _ _).alloc (Nat.le_refl _) (.cells #[.string r.name, .int .i64 r.ar, .slice a1 m k1, .slice a2 m k2] 45)))
        clear HT c0 c1 c2 c3
        obtain ⟨p5, hp5⟩ : ∃ p, p = wr.heap.size := ⟨_, rfl⟩
        rw [← hp5] at HX ⊢
        clear hp5
        generalize wr.alloc (.cells #[.string r.name, .int .i64 r.ar, .slice a1 m k1, .slice a2 m k2] 45) = W4 at *
        go_cut [15] from 19 to 26 (fun t wx => t = .int .i64 j ∧ Hid (PB w wx tb tb (datT ds j ++ lineR r) ∧ RXp wx p5 r.name r.ar (.slice a1 m k1) (.slice a2 m k2)))
        case first =>
          have hG := HGr.out
          have d0 := HX.out.c0
          have d1 := HX.out.c1
          have ha1 := hG.a1
          have ha3 := hG.a3
          have hLR := hG.lR
          have HLj := hid (lineR_join r)
          have KI1 : Hid (∀ W, Below w.heap.size w W → Calls Tryz.prog 24 #[.int .i64 r.ar] W fun e w' => e = .returned (.string ⟨(Lib.itoa r.ar).toArray⟩) ∧ Below W.heap.size W w') := hid fun W hW => KI.out W r.ar hW (by omega) (by omega)
          have HKp : Hid (∀ W, PB w W tb tb (datT ds j) → Calls Tryz.prog 23 #[.pointer (some ⟨tb, 0, none⟩), .slice (some ⟨W.heap.size, 0, none⟩) 3 3] (W.alloc (.cells #[.string ⟨#[114, 101, 108]⟩, .string r.name, .string ⟨(Lib.itoa r.ar).toArray⟩] 9)) fun e w' => (∃ v, e = .returned v) ∧ PB w w' tb tb (datT ds j ++ lineR r) ∧ Lib.OthersKept 5 (some tb) (W.alloc (.cells #[.string ⟨#[114, 101, 108]⟩, .string r.name, .string ⟨(Lib.itoa r.ar).toArray⟩] 9)) w') := hid fun W hP => by
            have e : Lib.join ([(⟨#[114, 101, 108]⟩ : ByteArray), r.name, ⟨(Lib.itoa r.ar).toArray⟩].map (·.data.toList)) [32] = Lib.join [[114, 101, 108], nmL r, Lib.itoa r.ar] [32] := by simp [nmL]
            have hl : (Lib.join [[114, 101, 108], nmL r, Lib.itoa r.ar] [32]).length + 1 = (lineR r).length := by rw [← HLj.out, List.length_append]; rfl
            have := printFields_calls w _ tb tb (datT ds j) (hP.below ((Below.refl _ _).alloc (Nat.le_refl _) (.cells #[.string ⟨#[114, 101, 108]⟩, .string r.name, .string ⟨(Lib.itoa r.ar).toArray⟩] 9))) W.heap.size 0 3 [⟨#[114, 101, 108]⟩, r.name, ⟨(Lib.itoa r.ar).toArray⟩] (fun q x hq => by
              rw [Nat.zero_add, World.cell?_alloc_at _ _ _ _ rfl]
              match q, hq with
              | 0, hq => simp at hq; subst hq; rfl
              | 1, hq => simp at hq; subst hq; rfl
              | 2, hq => simp at hq; subst hq; rfl
              | q + 3, hq => simp at hq) (by simp) (by simp) (by simp) (by rw [e]; omega)
            rw [e, List.append_assoc, HLj.out] at this
            exact this
          clear hG
          generalize Lib.itoa r.ar = it at *
          go_region_law (first
            | (go_simp; go_at_call 24; (with_reducible refine (KI1.out _ (bt HP.out.bw (Below.refl _ _).drew)).mono ?_); rintro e w7 ⟨rfl, hb7'⟩; have hb7 : Below W4.heap.size W4 w7 := ⟨hb7'.os, hb7'.tape, hb7'.output, hb7'.size, hb7'.block⟩; have HP7 := hid (HP.out.below hb7); have HX7 := hid (HX.out.below hb7); have d0b := HX7.out.c0; have d1b := HX7.out.c1; clear hb7 hb7')
            | (go_simp; go_at_call 23; (with_reducible refine (HKp.out _ HP7.out).mono ?_); rintro e w8 ⟨⟨v8, rfl⟩, hP8, hk8⟩; have HX8 := hid ((HX7.out.below ((Below.refl _ _).alloc (Nat.le_refl _) _)).kept hk8 (HP7.out.ne HX7.out)))
            | fail)
          all_goals
            go_wp2_with fail
            go_meet
            exact ⟨rfl, hid ⟨hP8, HX8.out⟩⟩
        case rest =>
          obtain ⟨rfl, HT⟩ := hcut
          have HT0 : Hid (PB w wc tb tb (datT ds j ++ relT r 0) ∧ RXp wc p5 r.name r.ar (.slice a1 m k1) (.slice a2 m k2)) := hid HT.out
          clear HT HX HP
          generalize wc = W5 at *
          have d2 := HT0.out.2.c2
          have hm2 : m ≤ 2000 := by rw [HM.out]; exact HGr.out.n
          have HRl : Hid (∀ i, i ≤ m → (relT r i).length ≤ 1000 + i * 5000000) := hid fun i hi => HGr.out.lT i (by rw [← HM.out]; exact hi)
          have HRow : Hid (∀ i, i < m → (r.rows.getD i []).length ≤ 3 ∧ 1 ≤ (r.rows.getD i []).length ∧ (∀ q, q < (r.rows.getD i []).length → 0 ≤ (r.rows.getD i []).getD q 0 ∧ (r.rows.getD i []).getD q 0 ≤ 1000000) ∧ -1000000 ≤ r.ws.getD i 0 ∧ r.ws.getD i 0 ≤ 1000000 ∧ (lineW r i).length ≤ 5000000) := hid fun i hi => by
            have hi' : i < r.rows.length := by rw [← HM.out]; exact hi
            obtain ⟨h1, h2, h3⟩ := HGr.out.row i hi'
            have h4 := HGr.out.wt i hi'
            exact ⟨h1, h2, fun q hq => h3 _ (getD_memI hq), h4.1, h4.2, HGr.out.lW hi'⟩
          have HRs : Hid (∀ i, relT r (i + 1) = relT r i ++ lineW r i) := hid fun i => rfl
          clear HGr
          go_wp2_with fail
          clear d2
          go_loopw [29] (fun t wr => ∃ (i : Nat), i ≤ m ∧ t = .int .i64 i ∧ Hid (PB w wr tb tb (datT ds j ++ relT r i) ∧ RXp wr p5 r.name r.ar (.slice a1 m k1) (.slice a2 m k2))) (fun t _ => m - (intOf t).toNat)
          case atStart => exact ⟨0, Nat.zero_le _, rfl, HT0⟩
          case round =>
            clear HT0
            obtain ⟨i, him, rfl, HT⟩ := hrel
            by_cases hil : i < m
            · have i2 : (i : Int) < (m : Int) := by omega
              obtain ⟨b2, o2, u2, ea, e1, hu⟩ := HCr.out wr HT.out.1.bw i hil
              subst ea
              obtain ⟨hr3, hr1, hrv, hw0, hw1, hlw⟩ := HRow.out i hil
              have HRv := hid hrv
              have HRsi := hid (HRs.out i)
              have hRl := HRl.out i (by omega)
              have HLj := hid (lineW_join r i hr1)
              have hlen : (datT ds j ++ relT r i).length = (datT ds j).length + (relT r i).length := List.length_append
              obtain ⟨L, hL⟩ : ∃ L, L = datT ds j ++ relT r i := ⟨_, rfl⟩
              have HLL : Hid (datT ds j ++ relT r i = L) := hid hL.symm
              rw [← hL] at HT hlen
              clear hL
              generalize hrow : r.rows.getD i [] = row at *
              have d0 := HT.out.2.c0
              have HU := hid hu
              obtain ⟨au, cu, rfl, hcu⟩ := hu
              have HCu : Hid (∀ W, Below w.heap.size w W → ∀ q, q < row.length → ∃ b o, au = some ⟨b, o, none⟩ ∧ W.cell? ⟨b, o + q, none⟩ = some (.int .i64 (row.getD q 0))) := hid fun W hW q hq => by
                rcases hcu with h0 | ⟨b, o, rfl, h⟩
                · omega
                · exact ⟨b, o, rfl, (hW.cell (World.block_lt_of_cell? w _ (h q hq))).trans (h q hq)⟩
              clear hcu hrv hrow
              obtain ⟨lr, hlr⟩ : ∃ lr, lr = row.length := ⟨_, rfl⟩
              have HLr := hid hlr
              rw [← hlr] at e1 hr3 hr1 HRv HCu
              clear hlr
              have KD : Hid (∀ W, Below w.heap.size w W → Calls Tryz.prog 25 #[.slice au lr cu] W fun e w' => ∃ g cp, e = .returned (.slice (some ⟨g, 0, none⟩) lr cp) ∧ w'.ownsRow W.heap.size 9 1 (.slice (some ⟨g, 0, none⟩) lr cp) lr (dcV row lr) ∧ Below W.heap.size W w') := hid fun W hW => by
                have hh := decimals_calls W au cu row (fun q hq => by rw [← HLr.out] at hq; exact HCu.out W hW q hq) (by rw [← HLr.out]; omega) (fun q hq => by rw [← HLr.out] at hq; have := HRv.out q hq; omega) (tab_below htab.out hW)
                rw [← HLr.out] at hh
                exact hh
              have HFv := hid (fldV_dc r row lr)
              have hLd : (dcV row lr).length = lr * 1 := by unfold dcV; rw [List.length_map, List.length_take, ← HLr.out]; omega
              clear HCu
              go_upto_region 11 with fail
              clear e1
              go_cut [8] from 34 to 40 (fun u wx => ∃ vf, vf = u ∧ Hid (PB w wx tb tb L ∧ RXp wx p5 r.name r.ar (.slice (some ⟨b2, o2, none⟩) m k1) (.slice a2 m k2) ∧ wx.ownsRow w.heap.size 9 1 vf (lr + 1) (fldV r row lr)))
              case first =>
                clear HRv HRsi HLr HLL HRs HRl HRow HCr HCw HDj HDs
                have hone : Hid (∀ u ∈ dcV row lr, u.oneCell' = true) := hid fun u hu => by
                  unfold dcV at hu
                  obtain ⟨x, -, rfl⟩ := List.mem_map.1 hu
                  rfl
                have KA := hid (KD.out (wr.alloc (.cells #[.string r.name] 9)).drew (bt HT.out.1.bw ((Below.refl _ _).alloc (Nat.le_refl _) _)).drew)
                have HAm : Hid (∀ (w7 : World) (gD cD : Nat), w7.ownsRow (wr.alloc (.cells #[.string r.name] 9)).drew.heap.size 9 1 (.slice (some ⟨gD, 0, none⟩) lr cD) lr (dcV row lr) → Below (wr.alloc (.cells #[.string r.name] 9)).drew.heap.size (wr.alloc (.cells #[.string r.name] 9)).drew w7 → PB w w7 tb tb L ∧ RXp w7 p5 r.name r.ar (.slice (some ⟨b2, o2, none⟩) m k1) (.slice a2 m k2) ∧ w7.ownsRow (wr.heap.size + 1) 9 1 (.slice (some ⟨gD, 0, none⟩) lr cD) lr (dcV row lr) ∧ w7.ownsRow w.heap.size 9 1 (.slice (some ⟨wr.heap.size, 0, none⟩) 1 1) 1 [.string r.name]) := hid fun w7 gD cD hoD hb7' => by
                  have hb7 : Below (wr.alloc (.cells #[.string r.name] 9)).heap.size (wr.alloc (.cells #[.string r.name] 9)) w7 := ⟨hb7'.os, hb7'.tape, hb7'.output, hb7'.size, hb7'.block⟩
                  have ho : w7.ownsRow (wr.alloc (.cells #[.string r.name] 9)).heap.size 9 1 (.slice (some ⟨gD, 0, none⟩) lr cD) lr (dcV row lr) := hoD
                  rw [World.size_alloc] at ho
                  exact ⟨(HT.out.1.below ((Below.refl _ _).alloc (Nat.le_refl _) _)).below hb7, (HT.out.2.below ((Below.refl _ _).alloc (Nat.le_refl _) _)).below hb7, ho, own_below (own_one wr _ HT.out.1.bw.size _) hb7⟩
                go_region_law (first
                  | (go_simp; go_at_call 25; (with_reducible refine (KD.out _ (bt HT.out.1.bw (Below.refl _ _).drew)).mono ?_); rintro e w7 ⟨gD, cD, rfl, hoD, hb7'⟩; have hb7 : Below wr.heap.size wr w7 := ⟨hb7'.os, hb7'.tape, hb7'.output, hb7'.size, hb7'.block⟩; have HB7 : Hid (PB w w7 tb tb L ∧ RXp w7 p5 r.name r.ar (.slice (some ⟨b2, o2, none⟩) m k1) (.slice a2 m k2) ∧ w7.ownsRow wr.heap.size 9 1 (.slice (some ⟨gD, 0, none⟩) lr cD) lr (dcV row lr)) := hid ⟨HT.out.1.below hb7, HT.out.2.below hb7, hoD⟩; have d0b := HB7.out.2.1.c0; have hsB := HB7.out.1.bw.size; clear hb7 hb7' hoD d0)
                  | (go_simp; go_at_call 25; (with_reducible refine KA.out.mono ?_); rintro e w7 ⟨gD, cD, rfl, hoD, hb7'⟩; have HA7 := hid (HAm.out w7 gD cD hoD hb7'); have hsA := HA7.out.1.bw.size; clear hb7' hoD d0)
                  | (refine step_append_lies _ (by rfl) _ _ _ (by rfl) w.heap.size 9 iT (.string ⟨#[]⟩) 1 16 Tryz.underlying26 hi hz0 hz1 hz2 rfl (by decide) (.slice (some ⟨wr.heap.size, 0, none⟩) 1 1) 1 [.string r.name] (by rfl) HA7.out.2.2.2 ⟨gD, 0, none⟩ lr cD (dcV row lr) (by rfl) hLd (own_news HA7.out.2.2.1) hone.out hr1 (by unfold maxLen; omega) (by omega) hsA _ rfl ?_; intro g8 cp8 w8 hown8 hgrow8 hat8 hlt8; have HZ : Hid (PB w w8 tb tb L ∧ RXp w8 p5 r.name r.ar (.slice (some ⟨b2, o2, none⟩) m k1) (.slice a2 m k2) ∧ w8.ownsRow w.heap.size 9 1 (.slice (some ⟨g8, 0, none⟩) (1 + lr) cp8) (lr + 1) (fldV r row lr)) := hid ⟨HA7.out.1.grown0 HA7.out.2.2.2 (by decide) (Nat.le_refl _) hgrow8, ⟨(hgrow8.block p5 HA7.out.2.1.lt (own_ne HA7.out.2.2.2 HA7.out.2.1.typ (by decide))).trans HA7.out.2.1.blk⟩, by rw [HFv.out, Nat.add_comm lr 1]; exact hown8⟩; clear hown8 hgrow8 hat8 hlt8)
                  | (refine step_append_lies _ (by rfl) _ _ _ (by rfl) w.heap.size 9 iT (.string ⟨#[]⟩) 1 16 Tryz.underlying26 hi hz0 hz1 hz2 rfl (by decide) (.slice (some ⟨w7.heap.size, 0, none⟩) 1 1) 1 [.string r.name] (by rfl) (own_one w7 _ hsB _) ⟨gD, 0, none⟩ lr cD (dcV row lr) (by rfl) hLd (own_news (HB7.out.2.2.alloc _)) hone.out hr1 (by unfold maxLen; omega) (by omega) (by first | (simp; omega) | (show _ ≤ (w7.alloc _).heap.size; simp; omega)) _ rfl ?_; intro g8 cp8 w8 hown8 hgrow8' hat8 hlt8; have hgrow8 : (w7.alloc (.cells #[.string r.name] 9)).grownBy w8 (Value.slice (some ⟨w7.heap.size, 0, none⟩) 1 1).ownBlock := hgrow8'; have HZ : Hid (PB w w8 tb tb L ∧ RXp w8 p5 r.name r.ar (.slice (some ⟨b2, o2, none⟩) m k1) (.slice a2 m k2) ∧ w8.ownsRow w.heap.size 9 1 (.slice (some ⟨g8, 0, none⟩) (1 + lr) cp8) (lr + 1) (fldV r row lr)) := hid ⟨(HB7.out.1.below ((Below.refl _ _).alloc (Nat.le_refl _) _)).grown0 (own_one w7 _ hsB _) (by decide) (Nat.le_refl _) hgrow8, ⟨(kept_of2 hgrow8 HB7.out.2.1.lt (fun e2 => by have := HB7.out.2.1.lt; simp [Value.ownBlock] at e2; omega)).trans HB7.out.2.1.blk⟩, by rw [HFv.out, Nat.add_comm lr 1]; exact hown8⟩; clear hown8 hgrow8 hgrow8' hat8 hlt8)
                  | fail)
                all_goals
                  go_wp2_with fail
                  go_meet
                  exact ⟨_, rfl, HZ⟩
              case rest =>
                obtain ⟨vf, rfl, HT⟩ := hcut
                generalize wc = wr at *
                obtain ⟨b4, o4, eb, e4⟩ := HCw.out wr HT.out.1.bw i hil
                subst eb
                have d3 := HT.out.2.1.c3
                have KI1 := hid (KI.out wr (r.ws.getD i 0) HT.out.1.bw hw0 hw1)
                have HXs : Hid ((fldA r row lr ++ [(⟨(Lib.itoa (r.ws.getD i 0)).toArray⟩ : ByteArray)]).map (·.data.toList) = [nmL r] ++ row.map Lib.itoa ++ [Lib.itoa (r.ws.getD i 0)]) := hid (by
                  unfold fldA
                  rw [HLr.out, List.take_length]
                  simp [nmL, Function.comp_def])
                have hfl : (fldA r row lr).length = lr + 1 := fldA_len r (by rw [← HLr.out]; exact Nat.le_refl _)
                have hll : (Lib.join ([nmL r] ++ row.map Lib.itoa ++ [Lib.itoa (r.ws.getD i 0)]) [32]).length + 1 = (lineW r i).length := by rw [← HLj.out, List.length_append]; rfl
                generalize Lib.itoa (r.ws.getD i 0) = it at *
                generalize r.ws.getD i 0 = x at *
                go_wp2_with fail
                refine KI1.out.mono ?_
                rintro e w7 ⟨rfl, hb7⟩
                have HT7 : Hid (PB w w7 tb tb L ∧ RXp w7 p5 r.name r.ar (.slice (some ⟨b2, o2, none⟩) m k1) (.slice (some ⟨b4, o4, none⟩) m k2) ∧ w7.ownsRow w.heap.size 9 1 vf (lr + 1) (fldV r row lr)) := hid ⟨HT.out.1.below hb7, HT.out.2.1.below hb7, own_below HT.out.2.2 hb7⟩
                have hs7 := HT7.out.1.bw.size
                clear hb7 KI1 HT e4 d3
                go_wp2_with (first | (at_builtin; refine wpList_append_lies _ rfl _ _ 26 rfl w.heap.size 9 iT (.string ⟨#[]⟩) 1 16 Tryz.underlying26 hi hz0 hz1 hz2 rfl (by decide) vf _ _ rfl (HT7.out.2.2.alloc _) ⟨_, 0, none⟩ 1 1 [.string ⟨it.toArray⟩] rfl rfl (new1_cell _ _ _) (fun u hu => by simp at hu; subst hu; rfl) (by decide) (by unfold maxLen; omega) (by omega) (by simp; omega) _ rfl ?_; intro g8 cp8 w8 hown8 hgrow8 hat8 hlt8) | fail)
                have HP8 := hid (HT7.out.1.grown HT7.out.2.2 (by decide) (Nat.le_refl _) hgrow8)
                have HX8 : Hid (RXp w8 p5 r.name r.ar (.slice (some ⟨b2, o2, none⟩) m k1) (.slice (some ⟨b4, o4, none⟩) m k2)) := hid ⟨(kept_of2 hgrow8 HT7.out.2.1.lt (own_ne HT7.out.2.2 HT7.out.2.1.typ (by decide))).trans HT7.out.2.1.blk⟩
                have KPf : Hid (Calls Tryz.prog 23 #[.pointer (some ⟨tb, 0, none⟩), .slice (some ⟨g8, 0, none⟩) (lr + 1 + 1) cp8] w8 fun e w' => (∃ v, e = .returned v) ∧ PB w w' tb tb (L ++ lineW r i) ∧ Lib.OthersKept 5 (some tb) w8 w') := hid (by
                  obtain ⟨g', c', e', hnc, -⟩ := own_at2 hown8 (j := 0) (by omega)
                  simp only [Value.slice.injEq, Option.some.injEq, Addr.mk.injEq] at e'
                  have hn2 : (fldA r row lr ++ [(⟨it.toArray⟩ : ByteArray)]).length = lr + 1 + 1 := by rw [List.length_append, hfl]; rfl
                  have := printFields_calls w w8 tb tb L HP8.out g8 0 cp8 (fldA r row lr ++ [(⟨it.toArray⟩ : ByteArray)]) (fun t y ht => by
                    have htl : t < lr + 1 + 1 := by rw [← hn2]; exact (List.getElem?_eq_some_iff.1 ht).1
                    obtain ⟨g9, c9, e9, -, h9⟩ := own_at2 hown8 (j := t) htl
                    simp only [Value.slice.injEq, Option.some.injEq, Addr.mk.injEq] at e9
                    rw [Nat.zero_add, e9.1.1, h9]
                    have : fldV r row lr ++ [Value.string ⟨it.toArray⟩] = (fldA r row lr ++ [(⟨it.toArray⟩ : ByteArray)]).map Value.string := by rw [List.map_append]; rfl
                    rw [this, List.getElem?_map, ht]
                    rfl) hlt8 (by rw [hn2]; omega) (by rw [hn2]; omega) (by rw [HXs.out]; omega)
                  rw [HXs.out, hn2, List.append_assoc, HLj.out] at this
                  exact this)
                clear hown8 hgrow8 hat8 hlt8 HT7
                refine KPf.out.mono ?_
                rintro e w9 ⟨⟨v9, rfl⟩, hP9, hk9⟩
                have HF : Hid (PB w w9 tb tb (datT ds j ++ relT r (i + 1)) ∧ RXp w9 p5 r.name r.ar (.slice (some ⟨b2, o2, none⟩) m k1) (.slice (some ⟨b4, o4, none⟩) m k2)) := hid ⟨by rw [HRsi.out, ← List.append_assoc, HLL.out]; exact hP9, HX8.out.kept hk9 (HP8.out.ne HX8.out)⟩
                clear hP9 hk9 KPf HP8 HX8
                go_wp2_with fail
                go_roundw
                case rel => exact ⟨i + 1, by omega, by go_num, HF⟩
                case measure => simp [intOf]; omega
            · obtain rfl : i = m := by omega
              have i2 : ¬ ((i : Int) < (i : Int)) := by omega
              have HF : Hid (PB w wr tb tb (datT ds (j + 1))) := hid (by rw [HDj.out]; exact HT.out.1)
              clear HT HCr HCw HRow HRs HRl
              go_wp2_with fail
              go_roundw
              case rel => exact ⟨j + 1, by omega, by go_num, HF⟩
              case measure => simp [intOf]; omega
      · obtain rfl : j = n := by omega
        have i1 : ¬ ((j : Int) < (j : Int)) := by omega
        have KS := hid (Tryz.c_String tb tb (datT ds j) wr HT.out.isb HT.out.bz)
        have HBf := hid HT.out
        clear HT HC HDs HG HL
        go_wp2_with fail
        refine KS.out.mono ?_
        rintro e w9 ⟨rfl, -, hb9, -⟩
        have HBz := hid (HBf.out.bw.trans (hb9.mono HBf.out.lo))
        clear hb9 KS
        go_wp2_with fail
        go_ret
        exact ⟨rfl, HBz.out⟩

end Go.Proofs.YtcdfoephhjacdaaGreatDoor
