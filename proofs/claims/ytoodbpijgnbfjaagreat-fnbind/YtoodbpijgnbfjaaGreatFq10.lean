import Derived.Deep.Cut
import Derived.Deep.CutBlock
import Derived.Test.YtoodbpijgnbfjaaGreatFq07
import Derived.Test.YtoodbpijgnbfjaaGreatFq08
import Derived.Test.YtoodbpijgnbfjaaGreatFq09
namespace Go.Proofs.YtoodbpijgnbfjaaGreat
open Go.RowKit

def upL (k : Nat) : List Int := (List.range k).map Int.ofNat
theorem upL_len (k : Nat) : (upL k).length = k := by simp [upL]
theorem upL_succ (k : Nat) : upL (k + 1) = upL k ++ [(k : Int)] := by unfold upL; rw [List.range_succ, List.map_append]; rfl

set_option maxHeartbeats 2000000 in
set_option maxRecDepth 1000000 in
theorem hUpTo_calls (w : World) (k : Nat) (hk : k ≤ 1000) :
    Calls Tryz.prog 9 #[.int .i64 k] w fun e w' => ∃ v, e = .returned v ∧ w'.ownsRow w.heap.size 3 1 v (upL k).length ((upL k).map (Value.int .i64)) ∧ Below w.heap.size w w' := by
  obtain ⟨i0, hi, hz0, hz1, hz2⟩ := info_parts Tryz.infoInt
  obtain ⟨W1, hW1⟩ : ∃ W1, W1 = w.alloc (.cells #[] 3) := ⟨_, rfl⟩
  have HS1 : Hid (Below w.heap.size w W1 ∧ W1.ownsRow w.heap.size 3 1 (.slice (some ⟨w.heap.size, 0, none⟩) 0 0) 0 []) := hid (by
    rw [hW1]
    exact ⟨(Below.refl _ _).alloc (Nat.le_refl _) _, World.ownsRow_made w #[] 0 (Nat.le_refl _) (by decide) rfl⟩)
  rw [upL_len]
  go_enter Tryz.func9, Tryz.ntmps9
  go_upto_region 2 with fail
  rw [← hW1]
  clear hW1
  go_wp2_with fail
  go_loopw [3, 4] (fun u t wr => ∃ (j : Nat) (vv : Value), j ≤ k ∧ t = .int .i64 j ∧ vv = u ∧ Hid (Below w.heap.size w wr ∧ wr.ownsRow w.heap.size 3 1 vv j ((upL j).map (Value.int .i64)))) (fun _ t _ => k - (intOf t).toNat)
  case atStart => exact ⟨0, _, Nat.zero_le _, rfl, rfl, hid ⟨HS1.out.1, HS1.out.2⟩⟩
  case round =>
    clear HS1
    obtain ⟨j, vv, hjn, rfl, rfl, HT⟩ := hrel
    by_cases hlt : j < k
    · have i1 : (j : Int) < (k : Int) := by omega
      have hs := HT.out.1.size
      go_wp2_with (first | (at_builtin; refine wpList_append_lies _ rfl _ _ 33 rfl w.heap.size 3 i0 (.int .i64 0) 1 8 Tryz.underlying33 hi hz0 hz1 hz2 rfl (by decide) vv _ _ rfl (HT.out.2.alloc _) ⟨_, 0, none⟩ 1 1 [.int .i64 j] rfl rfl (new1_cell _ _ _) (fun u hu => by simp at hu; subst hu; rfl) (by decide) (by unfold maxLen; omega) (by omega) (by simp; omega) _ rfl ?_; intro g6 cp6 w6 hown6 hgrow6 hat6 hlt6) | fail)
      have HN : Hid (Below w.heap.size w w6 ∧ w6.ownsRow w.heap.size 3 1 (.slice (some ⟨g6, 0, none⟩) (j + 1) cp6) (j + 1) ((upL (j + 1)).map (Value.int .i64))) := hid ⟨(HT.out.1.alloc hs _).grown hgrow6 (by simp; omega) (fun q hq => (HT.out.2.lt q hq).1), by rw [upL_succ, List.map_append]; exact hown6⟩
      clear hown6 hgrow6 hat6 hlt6 HT
      go_wp2_with fail
      go_roundw
      case rel => exact ⟨j + 1, _, by omega, by go_num, rfl, HN⟩
      case measure => simp [intOf]; omega
    · obtain rfl : j = k := by omega
      have i1 : ¬ ((j : Int) < (j : Int)) := by omega
      go_wp2_with fail
      go_ret
      exact ⟨vv, rfl, HT.out.2, HT.out.1⟩

theorem cells2 (w : World) (x y : Value) (t : TypeId) : (w.alloc (.cells #[x, y] t)).cell? ⟨w.heap.size, 0, none⟩ = some x ∧ (w.alloc (.cells #[x, y] t)).cell? ⟨w.heap.size, 1, none⟩ = some y := by
  constructor <;> (rw [World.cell?_alloc_at _ _ _ _ rfl]; rfl)
theorem cells4 (w : World) (x y z u : Value) (t : TypeId) : (w.alloc (.cells #[x, y, z, u] t)).cell? ⟨w.heap.size, 0, none⟩ = some x ∧ (w.alloc (.cells #[x, y, z, u] t)).cell? ⟨w.heap.size, 1, none⟩ = some y ∧ (w.alloc (.cells #[x, y, z, u] t)).cell? ⟨w.heap.size, 2, none⟩ = some z ∧ (w.alloc (.cells #[x, y, z, u] t)).cell? ⟨w.heap.size, 3, none⟩ = some u := by
  refine ⟨?_, ?_, ?_, ?_⟩ <;> (rw [World.cell?_alloc_at _ _ _ _ rfl]; rfl)
theorem bclF {w w' : World} {a : Addr} {v : Value} (hb : Below w.heap.size w w') (h : w.cell? a = some v) : w'.cell? a = some v := (hb.cell (World.block_lt_of_cell? w _ h)).trans h

set_option maxHeartbeats 4000000 in
set_option maxRecDepth 1000000 in
theorem hAtom_calls (w : World) (v vt vn vv : Value) (ds : List RelV) (rel : ByteArray) (ts : List TermV) (V : List ByteArray) (vals : List Int) (h : IRelS w v ds) (ht : ITm w vt ts) (hn : ISt w vn V) (hv : IS w vv vals) (hl : ds.length ≤ 100000) (hlt : ts.length ≤ 100000) (hlV : V.length ≤ 100000) (hVv : V.length = vals.length)
    (hok : ∀ k, k < ds.length → ((ds.getD k noRel).name.toList == rel.toList) = true → (ds.getD k noRel).rows.length ≤ 100000 ∧ (ds.getD k noRel).ws.length = (ds.getD k noRel).rows.length ∧ ∀ i, i < (ds.getD k noRel).rows.length → ((ds.getD k noRel).rows.getD i []).length = ts.length) :
    Calls Tryz.prog 16 #[.agg #[v], .agg #[.string rel, vt], vn, vv] w fun e w' => ∃ z : Int, e = .returned (.tuple #[.int .i64 z, .bool (atB ds V vals (rel, ts))]) ∧ Below w.heap.size w w' := by
  obtain ⟨W1, hW1⟩ : ∃ W1, W1 = (w.alloc (.cells #[v] 25)).alloc (.cells #[.string rel, vt] 51) := ⟨_, rfl⟩
  have hB1 : Below w.heap.size w W1 := by rw [hW1]; exact ((Below.refl _ _).alloc (Nat.le_refl _) _).alloc (by simp) _
  have HB1 := hid hB1
  have hd0 : W1.cell? ⟨w.heap.size, 0, none⟩ = some v := by
    rw [hW1]
    exact bclF ((Below.refl _ _).alloc (Nat.le_refl _) _) (by rw [World.cell?_alloc_at _ _ _ _ rfl]; rfl)
  have ha : W1.cell? ⟨w.heap.size + 1, 0, none⟩ = some (.string rel) ∧ W1.cell? ⟨w.heap.size + 1, 1, none⟩ = some vt := by
    have := cells2 (w.alloc (.cells #[v] 25)) (.string rel) vt 51
    rw [World.size_alloc] at this
    rw [hW1]
    exact this
  have HRt : Hid (∀ k, relD ds V vals (rel, ts) k = false → relD ds V vals (rel, ts) k = false) := hid fun k h => h
  obtain ⟨RES, hRES⟩ : ∃ R, R = atB ds V vals (rel, ts) := ⟨_, rfl⟩
  have HNo : Hid ((∀ k, k < ds.length → relD ds V vals (rel, ts) k = false) → RES = false) := hid fun h => by rw [hRES]; exact atB_no h
  have HYe : Hid (∀ k i, k < ds.length → ((ds.getD k noRel).name.toList == rel.toList) = true → i < (ds.getD k noRel).rows.length → relR V vals ts (ds.getD k noRel).rows i = true → RES = true) := hid fun k i h1 h2 h3 h4 => by rw [hRES]; exact atB_yes (a := (rel, ts)) h1 h2 h3 h4
  have HRn : Hid (∀ k, (∀ i, i < (ds.getD k noRel).rows.length → relR V vals ts (ds.getD k noRel).rows i = false) → relD ds V vals (rel, ts) k = false) := hid fun k h => relD_no (a := (rel, ts)) h
  have HRx : Hid (∀ k, ((ds.getD k noRel).name.toList == rel.toList) = false → relD ds V vals (rel, ts) k = false) := hid fun k h => by unfold relD; rw [h, Bool.false_and]
  rw [← hRES]
  obtain ⟨RD, hRD⟩ : ∃ R : Nat → Bool, R = relD ds V vals (rel, ts) := ⟨_, rfl⟩
  rw [← hRD] at HNo HRn HRx
  clear hRES hRD HRt
  have HOK := hid hok
  obtain ⟨ad, cd, rfl, hcd⟩ := h
  obtain ⟨at', ct, rfl, hct⟩ := ht
  obtain ⟨an, cn, rfl, hcn⟩ := hn
  obtain ⟨av, cv, rfl, hcv⟩ := hv
  have HD : Hid (∀ W, Below w.heap.size w W → ∀ j, j < ds.length → ∃ b o, ad = some ⟨b, o, none⟩ ∧ RelAt W b (o + j * 4) (ds.getD j noRel)) := hid fun W hW j hj => by
    rcases hcd with h0 | ⟨b, o, e, hh⟩
    · omega
    · exact ⟨b, o, e, (hh j hj).below hW⟩
  have HTm : Hid (∀ W, Below w.heap.size w W → ∀ j, j < ts.length → ∃ b o, at' = some ⟨b, o, none⟩ ∧ W.cell? ⟨b, o + j * 2, none⟩ = some (.string (ts.getD j noTm).1) ∧ W.cell? ⟨b, o + j * 2 + 1, none⟩ = some (.int .i64 (ts.getD j noTm).2)) := hid fun W hW j hj => by
    rcases hct with h0 | ⟨b, o, e, hh⟩
    · omega
    · exact ⟨b, o, e, bclF hW (hh j hj).1, bclF hW (hh j hj).2⟩
  have HNm : Hid (∀ W, Below w.heap.size w W → ∀ j, j < V.length → ∃ b o b' o', an = some ⟨b, o, none⟩ ∧ W.cell? ⟨b, o + j, none⟩ = some (.string (V.getD j noTx)) ∧ av = some ⟨b', o', none⟩ ∧ W.cell? ⟨b', o' + j, none⟩ = some (.int .i64 (vals.getD j 0))) := hid fun W hW j hj => by
    rcases hcn with h0 | ⟨b, o, e, hh⟩
    · omega
    · rcases hcv with h0 | ⟨b', o', e', hh'⟩
      · omega
      · exact ⟨b, o, b', o', e, bclF hW (hh j hj), e', bclF hW (hh' j (by omega))⟩
  rw [← hVv]
  clear hcd hct hcn hcv hok hVv
  obtain ⟨n, hn'⟩ : ∃ n, n = ds.length := ⟨_, rfl⟩
  rw [← hn'] at hl HNo HYe HOK HD hd0 hW1 ⊢
  clear hn'
  obtain ⟨nt, hnt⟩ : ∃ nt, nt = ts.length := ⟨_, rfl⟩
  have HNT := hid hnt
  rw [← hnt] at hlt HOK HTm ha hW1 ⊢
  clear hnt
  obtain ⟨nV, hnV⟩ : ∃ nV, nV = V.length := ⟨_, rfl⟩
  have HNV := hid hnV
  rw [← hnV] at hlV HNm ⊢
  clear hnV
  have HBX : Hid (∀ W, Below W1.heap.size W1 W → W.cell? ⟨w.heap.size, 0, none⟩ = some (.slice ad n cd) ∧ W.cell? ⟨w.heap.size + 1, 0, none⟩ = some (.string rel) ∧ W.cell? ⟨w.heap.size + 1, 1, none⟩ = some (.slice at' nt ct)) := hid fun W hW => ⟨bclF hW hd0, bclF hW ha.1, bclF hW ha.2⟩
  clear hd0 ha hB1
  have hs1 : W1.heap.size = w.heap.size + 2 := by rw [hW1]; simp
  go_enter Tryz.func16, Tryz.ntmps16
  go_upto_region 1 with fail
  rw [← hW1]
  clear hW1 hs1
  obtain ⟨x0, -, -⟩ := HBX.out W1 (Below.refl _ _)
  go_wp2_with fail
  clear x0
  go_loopw [23] (fun t wr => ∃ (k : Nat), k ≤ n ∧ t = .int .i64 k ∧ Hid (Below W1.heap.size W1 wr ∧ ∀ i, i < k → RD i = false)) (fun t _ => n - (intOf t).toNat)
  case atStart => exact ⟨0, Nat.zero_le _, rfl, hid ⟨Below.refl _ _, fun i hi => by omega⟩⟩
  case round =>
    obtain ⟨k, hkn, rfl, HT⟩ := hrel
    by_cases hlk : k < n
    · have i1 : (k : Int) < (n : Int) := by omega
      obtain ⟨b, o, ea, vr, vw, c0, c1, c2, c3, hir⟩ := HD.out wr (bt HB1.out HT.out.1) k hlk
      subst ea
      have HOKk := hid (HOK.out k hlk)
      have HYk : Hid (∀ i, ((ds.getD k noRel).name.toList == rel.toList) = true → i < (ds.getD k noRel).rows.length → relR V vals ts (ds.getD k noRel).rows i = true → RES = true) := hid fun i h1 h2 h3 => HYe.out k i hlk h1 h2 h3
      have HRk := hid (HRn.out k)
      have HXk := hid (HRx.out k)
      have HNx : Hid (RD k = false → ∀ i, i < k + 1 → RD i = false) := hid fun hy i hi => by
        by_cases e : i = k
        · rw [e]; exact hy
        · exact HT.out.2 i (by omega)
      generalize ds.getD k noRel = r at *
      obtain ⟨ar, cr, er, hcr⟩ := hir.rows
      obtain ⟨aw, cw, ew, hcw⟩ := hir.ws
      subst er ew
      obtain ⟨W3, hW3⟩ : ∃ W3, W3 = wr.alloc (.cells #[.string r.name, .int .i64 r.ar, .slice ar r.rows.length cr, .slice aw r.ws.length cw] 53) := ⟨_, rfl⟩
      have hB3 : Below wr.heap.size wr W3 := by rw [hW3]; exact (Below.refl _ _).alloc (Nat.le_refl _) _
      have hx3 := cells4 wr (.string r.name) (.int .i64 r.ar) (.slice ar r.rows.length cr) (.slice aw r.ws.length cw) 53
      rw [← hW3] at hx3
      have HX3 : Hid (∀ W, Below W3.heap.size W3 W → W.cell? ⟨wr.heap.size, 0, none⟩ = some (.string r.name) ∧ W.cell? ⟨wr.heap.size, 2, none⟩ = some (.slice ar r.rows.length cr) ∧ W.cell? ⟨wr.heap.size, 3, none⟩ = some (.slice aw r.ws.length cw)) := hid fun W hW => ⟨bclF hW hx3.1, bclF hW hx3.2.2.1, bclF hW hx3.2.2.2⟩
      have HRw : Hid (∀ W, Below W3.heap.size W3 W → ∀ i, i < r.rows.length → ∃ b o u, ar = some ⟨b, o, none⟩ ∧ W.cell? ⟨b, o + i, none⟩ = some u ∧ IS W u (r.rows.getD i [])) := hid fun W hW i hi => by
        rcases hcr with h0 | ⟨b, o, e, hh⟩
        · omega
        · obtain ⟨u, h1, h2⟩ := hh i hi
          exact ⟨b, o, u, e, bclF (bt hB3 hW) h1, h2.below (bt hB3 hW)⟩
      have HWw : Hid (∀ W, Below W3.heap.size W3 W → ∀ i, i < r.ws.length → ∃ b o, aw = some ⟨b, o, none⟩ ∧ W.cell? ⟨b, o + i, none⟩ = some (.int .i64 (r.ws.getD i 0))) := hid fun W hW i hi => by
        rcases hcw with h0 | ⟨b, o, e, hh⟩
        · omega
        · exact ⟨b, o, e, bclF (bt hB3 hW) (hh i hi)⟩
      have HB3 := hid (bt HT.out.1 hB3)
      clear hir hcr hcw hx3 hB3 HT
      obtain ⟨nr, hnr⟩ : ∃ nr, nr = r.rows.length := ⟨_, rfl⟩
      rw [← hnr] at HX3 HRw HOKk HYk HRk hW3 c2
      clear hnr
      generalize r.ws.length = nw at *
      generalize r.name = nm at *
      generalize r.ar = arr at *
      go_upto_region 4 with fail
      rw [← hW3]
      clear hW3 c0 c1 c2 c3
      obtain ⟨y0, y2, y3⟩ := HX3.out W3 (Below.refl _ _)
      obtain ⟨z0, z1, z2⟩ := HBX.out W3 HB3.out
      cases hb : (nm.toList == rel.toList)
      · have HZ := hid (HNx.out (HXk.out hb))
        clear HYk HRk HXk HNx HOKk
        go_wp2
        go_roundw
        case rel => exact ⟨k + 1, by omega, by go_num, hid ⟨HB3.out, HZ.out⟩⟩
        case measure => simp [intOf]; omega
      · obtain ⟨hr5, hwl, hrl⟩ := HOKk.out hb
        have HRL := hid hrl
        have HYb : Hid (∀ i, i < nr → relR V vals ts r.rows i = true → RES = true) := hid fun i h1 h2 => HYk.out i hb h1 h2
        clear HYk HXk HOKk hrl
        generalize wr = wk at *
        go_wp2_with fail
        clear y0 y2 y3 z0 z1 z2
        go_loopw [35] (fun t wr => ∃ (i : Nat), i ≤ nr ∧ t = .int .i64 i ∧ Hid (Below W3.heap.size W3 wr ∧ ∀ q, q < i → relR V vals ts r.rows q = false)) (fun t _ => nr - (intOf t).toNat)
        case atStart => exact ⟨0, Nat.zero_le _, rfl, hid ⟨Below.refl _ _, fun i hi => by omega⟩⟩
        case round =>
          obtain ⟨i, hin, rfl, HTi⟩ := hrel
          by_cases hli : i < nr
          · have i2 : (i : Int) < (nr : Int) := by omega
            obtain ⟨b2, o2, u, ea, e1, hu⟩ := HRw.out wr HTi.out.1 i hli
            subst ea
            have HLr := hid (HRL.out i hli)
            have HYi := hid (HYb.out i hli)
            have HNi : Hid (relR V vals ts r.rows i = false → ∀ q, q < i + 1 → relR V vals ts r.rows q = false) := hid fun hy q hq => by
              by_cases e : q = i
              · rw [e]; exact hy
              · exact HTi.out.2 q (by omega)
            have HBi := hid HTi.out.1
            have hrr : relR V vals ts r.rows i = trmB V vals ts (r.rows.getD i []) nt := by rw [HNT.out]; rfl
            rw [hrr] at HYi HNi
            clear hrr HTi
            generalize r.rows.getD i [] = row at *
            obtain ⟨au, cu, rfl, hcu⟩ := hu
            have HU : Hid (∀ W, Below wr.heap.size wr W → ∀ p, p < nt → ∃ b o, au = some ⟨b, o, none⟩ ∧ W.cell? ⟨b, o + p, none⟩ = some (.int .i64 (row.getD p 0))) := hid fun W hW p hp => by
              have := HLr.out
              rcases hcu with h0 | ⟨b, o, e, hh⟩
              · omega
              · exact ⟨b, o, e, bclF hW (hh p (by omega))⟩
            rw [HLr.out] at e1
            clear hcu
            obtain ⟨z0, z1, z2⟩ := HBX.out wr (bt HB3.out HBi.out)
            generalize wr = wi at *
            go_wp2_with fail
            clear z0 z1 z2 e1
            go_loopw [14, 43] (fun s t wr => ∃ (p : Nat), p ≤ nt ∧ t = .int .i64 p ∧ s = .bool (trmB V vals ts row p) ∧ Hid (Below wi.heap.size wi wr)) (fun _ t _ => nt - (intOf t).toNat)
            case atStart => exact ⟨0, Nat.zero_le _, rfl, rfl, hid (Below.refl _ _)⟩
            case round =>
              obtain ⟨p, hpn, rfl, rfl, HBp⟩ := hrel
              by_cases hlp : p < nt
              · have i3 : (p : Int) < (nt : Int) := by omega
                obtain ⟨b3, o3, ea, c0, c1⟩ := HTm.out wr (bt (bt HB1.out HB3.out) (bt HBi.out HBp.out)) p hlp
                subst ea
                obtain ⟨b4, o4, ea4, c4⟩ := HU.out wr HBp.out p hlp
                subst ea4
                have HSp := hid (trmB_succ V vals ts row p)
                generalize ts.getD p noTm = tm at *
                obtain ⟨tn, tv⟩ := tm
                dsimp only at *
                obtain ⟨W5, hW5⟩ : ∃ W5, W5 = wr.alloc (.cells #[.string tn, .int .i64 tv] 79) := ⟨_, rfl⟩
                have hB5 : Below wr.heap.size wr W5 := by rw [hW5]; exact (Below.refl _ _).alloc (Nat.le_refl _) _
                have hx5 := cells2 wr (.string tn) (.int .i64 tv) 79
                rw [← hW5] at hx5
                have HX5 : Hid (∀ W, Below W5.heap.size W5 W → W.cell? ⟨wr.heap.size, 0, none⟩ = some (.string tn)) := hid fun W hW => bclF hW hx5.1
                have x1 := hx5.2
                have HB5 := hid (bt HBp.out hB5)
                have HU5 : Hid (∀ W, Below W5.heap.size W5 W → W.cell? ⟨b4, o4 + p, none⟩ = some (.int .i64 (row.getD p 0))) := hid fun W hW => bclF (bt hB5 hW) c4
                have HV0 : Hid (tv = valN V vals (tn, tv) 0) := hid rfl
                have HVn : Hid (valN V vals (tn, tv) nV = valT V vals (tn, tv)) := hid (by rw [HNV.out]; rfl)
                clear hx5 hB5 c4
                go_upto_region 12 with fail
                rw [← hW5]
                clear hW5 c0 c1
                generalize wr = wp at *
                go_wp2_with fail
                clear x1
                go_loopw [17, 52] (fun s t wr => ∃ (q : Nat) (y : Int), q ≤ nV ∧ t = .int .i64 q ∧ s = .int .i64 y ∧ Hid (y = valN V vals (tn, tv) q ∧ Below W5.heap.size W5 wr)) (fun _ t _ => nV - (intOf t).toNat)
                case atStart => exact ⟨0, _, Nat.zero_le _, rfl, rfl, hid ⟨HV0.out, Below.refl _ _⟩⟩
                case round =>
                  obtain ⟨q, y, hqn, rfl, rfl, HQ⟩ := hrel
                  by_cases hlq : q < nV
                  · have i4 : (q : Int) < (nV : Int) := by omega
                    obtain ⟨b6, o6, b7, o7, ea6, c6, ea7, c7⟩ := HNm.out wr (bt (bt (bt HB1.out HB3.out) HBi.out) (bt HB5.out HQ.out.2)) q hlq
                    subst ea6 ea7
                    have x0 := HX5.out wr HQ.out.2
                    have HS : Hid (valN V vals (tn, tv) (q + 1) = if tn.toList == (V.getD q noTx).toList then vals.getD q 0 else valN V vals (tn, tv) q) := hid rfl
                    generalize V.getD q noTx = nmq at *
                    generalize vals.getD q 0 = vq at *
                    cases hb2 : (tn.toList == nmq.toList)
                    · rw [hb2] at HS
                      have HS2 : Hid (y = valN V vals (tn, tv) (q + 1)) := hid (by rw [HS.out]; exact HQ.out.1)
                      have HQ2 := hid HQ.out.2
                      clear HS HQ
                      go_wp2
                      go_roundw
                      case rel => exact ⟨q + 1, y, by omega, by go_num, rfl, hid ⟨HS2.out, HQ2.out⟩⟩
                      case measure => simp [intOf]; omega
                    · rw [hb2] at HS
                      have HS2 : Hid (vq = valN V vals (tn, tv) (q + 1)) := hid (by rw [HS.out]; rfl)
                      have HQ2 := hid HQ.out.2
                      clear HS HQ
                      go_wp2
                      go_roundw
                      case rel => exact ⟨q + 1, vq, by omega, by go_num, rfl, hid ⟨HS2.out, HQ2.out⟩⟩
                      case measure => simp [intOf]; omega
                  · obtain rfl : q = nV := by omega
                    have i4 : ¬ ((q : Int) < (q : Int)) := by omega
                    have u4 := HU5.out wr HQ.out.2
                    have hyv : y = valT V vals (tn, tv) := HQ.out.1.trans HVn.out
                    rw [← hyv] at HSp
                    have HQ2 := hid (bt HB5.out HQ.out.2)
                    clear HQ HV0 HVn hyv
                    generalize row.getD p 0 = rv at *
                    generalize trmB V vals ts row p = s0 at *
                    cases s0
                    · rw [Bool.false_and] at HSp
                      go_wp2
                      go_roundw
                      case rel => exact ⟨p + 1, by omega, by go_num, by rw [HSp.out], HQ2⟩
                      case measure => simp [intOf]; omega
                    · rw [Bool.true_and] at HSp
                      by_cases hrv : rv = y
                      · subst hrv
                        rw [decide_eq_true rfl] at HSp
                        go_wp2
                        go_roundw
                        case rel => exact ⟨p + 1, by omega, by go_num, by rw [HSp.out], HQ2⟩
                        case measure => simp [intOf]; omega
                      · rw [decide_eq_false hrv] at HSp
                        have hrb : (rv == y) = false := by simp [hrv]
                        go_wp2
                        go_roundw
                        case rel => exact ⟨p + 1, by omega, by go_num, by rw [HSp.out], HQ2⟩
                        case measure => simp [intOf]; omega
              · obtain rfl : p = nt := by omega
                have i3 : ¬ ((p : Int) < (p : Int)) := by omega
                generalize trmB V vals ts row p = s0 at *
                have HBq := hid (bt HBi.out HBp.out)
                cases s0
                · have HZ := hid (HNi.out rfl)
                  go_wp2_with fail
                  go_roundw
                  case rel => exact ⟨i + 1, by omega, by go_num, hid ⟨HBq.out, HZ.out⟩⟩
                  case measure => simp [intOf]; omega
                · have HZ := hid (HYi.out rfl)
                  obtain ⟨-, -, y3⟩ := HX3.out wr HBq.out
                  obtain ⟨b8, o8, ea8, c8⟩ := HWw.out wr HBq.out i (by omega)
                  subst ea8
                  have i5 : (i : Int) < (nw : Int) := by omega
                  generalize r.ws.getD i 0 = wz at *
                  go_wp2_with fail
                  go_ret2
                  exact ⟨⟨wz, by rw [HZ.out]; rfl⟩, bt (bt HB1.out HB3.out) HBq.out⟩
          · obtain rfl : i = nr := by omega
            have i2 : ¬ ((i : Int) < (i : Int)) := by omega
            have HZ := hid (HNx.out (HRk.out HTi.out.2))
            have HBq := hid (bt HB3.out HTi.out.1)
            clear HTi
            go_wp2_with fail
            go_roundw
            case rel => exact ⟨k + 1, by omega, by go_num, hid ⟨HBq.out, HZ.out⟩⟩
            case measure => simp [intOf]; omega
    · obtain rfl : k = n := by omega
      have i1 : ¬ ((k : Int) < (k : Int)) := by omega
      have HR := hid (HNo.out HT.out.2)
      go_wp2_with fail
      go_ret2
      exact ⟨⟨0, by rw [HR.out]; rfl⟩, bt HB1.out HT.out.1⟩

end Go.Proofs.YtoodbpijgnbfjaaGreat

namespace Go.Proofs.YtoodbpijgnbfjaaGreat
open Go.RowKit

def dgs (n : Nat) : Nat → List Int
  | 0 => []
  | i + 1 => ((n / 7 ^ i % 7 : Nat) : Int) :: dgs n i
theorem dgs_len (n : Nat) : ∀ i, (dgs n i).length = i
  | 0 => rfl
  | i + 1 => by show (dgs n i).length + 1 = i + 1; rw [dgs_len n i]
def allB (ds : List RelV) (ats : List AtomV) (V : List ByteArray) (vals : List Int) : Bool := ats.all fun a => atB ds V vals a
def brL (ds : List RelV) (ats : List AtomV) (V : List ByteArray) (m : Nat) : List (List Int) := ((List.range m).filter fun n => allB ds ats V (dgs n V.length)).map fun n => dgs n V.length
theorem brL_succ (ds : List RelV) (ats : List AtomV) (V : List ByteArray) (m : Nat) : brL ds ats V (m + 1) = brL ds ats V m ++ (if allB ds ats V (dgs m V.length) then [dgs m V.length] else []) := by
  unfold brL
  rw [List.range_succ, List.filter_append, List.map_append, List.filter_cons]
  split <;> rfl
theorem brL_le (ds : List RelV) (ats : List AtomV) (V : List ByteArray) (m : Nat) : (brL ds ats V m).length ≤ m := by
  unfold brL; rw [List.length_map]; exact Nat.le_trans (List.length_filter_le _ _) (by simp)
theorem allB_yes {ds : List RelV} {ats : List AtomV} {V : List ByteArray} {vals : List Int} (h : ∀ i, i < ats.length → atB ds V vals (ats.getD i noAt) = true) : allB ds ats V vals = true := by
  unfold allB
  rw [List.all_eq_true]
  intro a ha
  obtain ⟨i, hi, rfl⟩ := List.getElem_of_mem ha
  have := h i hi
  rw [List.getD_eq_getElem?_getD, List.getElem?_eq_getElem hi] at this
  exact this
theorem allB_no {ds : List RelV} {ats : List AtomV} {V : List ByteArray} {vals : List Int} {i : Nat} (hi : i < ats.length) (h : atB ds V vals (ats.getD i noAt) = false) : allB ds ats V vals = false := by
  unfold allB
  rw [List.all_eq_false]
  exact ⟨ats.getD i noAt, by rw [List.getD_eq_getElem?_getD, List.getElem?_eq_getElem hi]; exact List.getElem_mem hi, by rw [h]; simp⟩
theorem own_someF {w : World} {B n : Nat} {e : TypeId} {v : Value} {xs : List Value} (h : w.ownsRow B e 1 v n xs) (hn : 0 < n) : ∃ g c, v = .slice (some ⟨g, 0, none⟩) n c := by
  rcases h.2 with ⟨rfl, h2⟩ | ⟨g, cap, cur, rfl, -⟩
  · omega
  · exact ⟨g, cap, rfl⟩
theorem pow7 {i : Nat} (h : i ≤ 6) : 7 ^ i ≤ 117649 := Nat.le_trans (Nat.pow_le_pow_right (by decide) h) (by decide)

section
variable {W w3 : World} {B g c : Nat} {v0 v1 v2 v' : Value} {us : List Value} {ps ss : List Int} {rows : List (List Int)} {o : Obj}
theorem TW.push1 {u : Value} {r : List Int} {wr : World} (h : TW wr B v0 v1 v2 us ps rows ss) (hB : B ≤ wr.heap.size) (hb : Below wr.heap.size wr W) (hu : W.ownsRow wr.heap.size 3 1 u r.length (r.map (Value.int .i64))) (hg : (W.alloc o).grownBy w3 v1.ownBlock) (hown : w3.ownsRow B 33 1 v' (rows.length + 1) (us ++ [u])) : TW w3 B v0 v' v2 (us ++ [u]) ps (rows ++ [r]) ss := by
  have h' := TW.below h hb
  have mv : ∀ {x : Value} {n : Nat} {xs : List Value} {B' : Nat}, W.ownsRow B' 3 1 x n xs → w3.ownsRow B' 3 1 x n xs := fun hx => own_move hx fun q hq => kept_of hg (hx.lt q hq).2 (own_ne h'.rq.own (own_typ hx hq) (by decide))
  have far : ∀ {x : Value} {n : Nat} {xs : List Value}, wr.ownsRow B 3 1 x n xs → ApW u x := fun hx q h1 h2 => by
    have := (hu.lt q h1).1
    have := (hx.lt q h2).2
    omega
  refine ⟨mv h'.o0, h'.rq.step (own_base hu hB) (fun i hi q h1 h2 => ?_) hown hg, mv h'.o2, h.a02, fun i hi => ?_, fun i hi => ?_⟩
  · have := ((h.rq.each i hi).lt q h1).2
    have := (hu.lt q h2).1
    omega
  · rw [List.length_append, List.length_singleton] at hi
    by_cases e : i < rows.length
    · rw [List.getD_eq_getElem?_getD, List.getElem?_append_left (by rw [h.rq.len]; exact e), ← List.getD_eq_getElem?_getD]; exact h.a0 i e
    · obtain rfl : i = rows.length := by omega
      rw [List.getD_eq_getElem?_getD, List.getElem?_append_right (by rw [h.rq.len]; exact Nat.le_refl _), h.rq.len, Nat.sub_self]; exact far h.o0
  · rw [List.length_append, List.length_singleton] at hi
    by_cases e : i < rows.length
    · rw [List.getD_eq_getElem?_getD, List.getElem?_append_left (by rw [h.rq.len]; exact e), ← List.getD_eq_getElem?_getD]; exact h.a2 i e
    · obtain rfl : i = rows.length := by omega
      rw [List.getD_eq_getElem?_getD, List.getElem?_append_right (by rw [h.rq.len]; exact Nat.le_refl _), h.rq.len, Nat.sub_self]; exact far h.o2
theorem grow_int {n : Nat} {xs : List Value} (hw : W.ownsRow B 3 1 v0 n xs) (hg : (W.alloc o).grownBy w3 v0.ownBlock) (hat : v0.ownBlock = some g ∨ g = (W.alloc o).heap.size) :
    (∀ {y : Value} {k : Nat} {ys : List Value}, W.ownsRow B 3 1 y k ys → ApW y v0 → w3.ownsRow B 3 1 y k ys ∧ ApW y (.slice (some ⟨g, 0, none⟩) (n + 1) c)) ∧ (∀ {y : Value} {k : Nat} {ys : List Value}, W.ownsRow B 33 1 y k ys → w3.ownsRow B 33 1 y k ys) := by
  refine ⟨fun {y k ys} hy ha => ⟨own_move hy fun q hq => kept_of hg (hy.lt q hq).2 (fun e => ha q hq e.symm), fun q hq h2 => ?_⟩, fun {y k ys} hy => own_move hy fun q hq => kept_of hg (hy.lt q hq).2 (own_ne hw (own_typ hy hq) (by decide))⟩
  simp only [Value.ownBlock, Option.some.injEq] at h2
  subst h2
  rcases hat with h | h
  · exact ha _ hq h
  · have := (hy.lt _ hq).2
    rw [World.size_alloc] at h
    omega
theorem ApW.sym {u v : Value} (h : ApW u v) : ApW v u := fun q h1 h2 => h q h2 h1
theorem TW.push0 {x : Int} (h : TW W B v0 v1 v2 us ps rows ss) (hg : (W.alloc o).grownBy w3 v0.ownBlock) (hat : v0.ownBlock = some g ∨ g = (W.alloc o).heap.size) (hown : w3.ownsRow B 3 1 (.slice (some ⟨g, 0, none⟩) (ps.length + 1) c) (ps.length + 1) (ps.map (Value.int .i64) ++ [.int .i64 x])) : TW w3 B (.slice (some ⟨g, 0, none⟩) (ps.length + 1) c) v1 v2 us (ps ++ [x]) rows ss := by
  obtain ⟨k1, k2⟩ := grow_int (c := c) h.o0 hg hat
  exact ⟨by rw [List.length_append, List.map_append]; exact hown, ⟨k2 h.rq.own, h.rq.len, fun i hi => (k1 (h.rq.each i hi) (h.a0 i hi)).1, h.rq.ap⟩, (k1 h.o2 h.a02.sym).1, (k1 h.o2 h.a02.sym).2.sym, fun i hi => (k1 (h.rq.each i hi) (h.a0 i hi)).2, h.a2⟩
theorem TW.push2 {x : Int} (h : TW W B v0 v1 v2 us ps rows ss) (hg : (W.alloc o).grownBy w3 v2.ownBlock) (hat : v2.ownBlock = some g ∨ g = (W.alloc o).heap.size) (hown : w3.ownsRow B 3 1 (.slice (some ⟨g, 0, none⟩) (ss.length + 1) c) (ss.length + 1) (ss.map (Value.int .i64) ++ [.int .i64 x])) : TW w3 B v0 v1 (.slice (some ⟨g, 0, none⟩) (ss.length + 1) c) us ps rows (ss ++ [x]) := by
  obtain ⟨k1, k2⟩ := grow_int (c := c) h.o2 hg hat
  exact ⟨(k1 h.o0 h.a02).1, ⟨k2 h.rq.own, h.rq.len, fun i hi => (k1 (h.rq.each i hi) (h.a2 i hi)).1, h.rq.ap⟩, by rw [List.length_append, List.map_append]; exact hown, (k1 h.o0 h.a02).2, h.a0, fun i hi => (k1 (h.rq.each i hi) (h.a2 i hi)).2⟩
end

end Go.Proofs.YtoodbpijgnbfjaaGreat
