import Derived.Deep.AppendLies
import Derived.Deep.CutRange
import Derived.Deep.RegionLaw
import Derived.Laws.MakeOwn
import Derived.Test.YtcdfoephhjacdaaGreatDoorR13
import Derived.Test.YtcdfoephhjacdaaGreatDoorR47
/-
  spec.PrintQuery: its parts.
-/
namespace Go.Proofs.YtcdfoephhjacdaaGreatDoor
open Go.RowKit

theorem new1_cellQ (w : World) (v : Value) (t : TypeId) : ∀ j u, [v][j]? = some u → (w.alloc (.cells #[v] t)).cell? ((⟨w.heap.size, 0, none⟩ : Addr).add j) = some u := by
  intro j u hj
  match j, hj with
  | 0, hj => simp at hj; subst hj; simp [Addr.add]
theorem own_belowQ {B n s : Nat} {e : TypeId} {w w' : World} {v : Value} {xs : List Value} (h : w.ownsRow B e s v n xs) (hb : Below w.heap.size w w') : w'.ownsRow B e s v n xs := by
  obtain ⟨h1, h2⟩ := h
  refine ⟨h1, ?_⟩
  rcases h2 with h2 | ⟨g, cap, cur, hv, hg, hc, hr⟩
  · exact Or.inl h2
  · refine Or.inr ⟨g, cap, cur, hv, hg, ?_, hr⟩
    have hlt : g < w.heap.size := by
      rcases Nat.lt_or_ge g w.heap.size with h1 | h1
      · exact h1
      · rw [Array.getElem?_eq_none h1] at hc; cases hc
    exact (hb.block g hlt).trans hc

def ML {α : Type} (f : α → List UInt8) (l : List α) (p : Nat) : List ByteArray := (l.take p).map fun x => ⟨(f x).toArray⟩
theorem ML_succ {α : Type} (f : α → List UInt8) (d : α) {l : List α} {p : Nat} (h : p < l.length) : ML f l (p + 1) = ML f l p ++ [⟨(f (l.getD p d)).toArray⟩] := by
  unfold ML
  have e : l.take (p + 1) = l.take p ++ [l.getD p d] := by
    rw [List.take_add_one, List.getElem?_eq_getElem h, List.getD_eq_getElem?_getD, List.getElem?_eq_getElem h]; rfl
  rw [e, List.map_append]; rfl
theorem ML_len {α : Type} (f : α → List UInt8) {l : List α} {p : Nat} (h : p ≤ l.length) : (ML f l p).length = p := by
  unfold ML; rw [List.length_map, List.length_take]; omega
theorem bts_of (l : List UInt8) : bts ⟨l.toArray⟩ = l := by simp [bts]
theorem ML_bts {α : Type} (f : α → List UInt8) (l : List α) : (ML f l l.length).map bts = l.map f := by
  unfold ML
  rw [List.take_length, List.map_map]
  apply List.map_congr_left
  intro x _
  exact bts_of _
theorem get_all {α : Type} (d : α) {P : α → Prop} {l : List α} (h : ∀ j, j < l.length → P (l.getD j d)) : ∀ x ∈ l, P x := fun x hx => by
  obtain ⟨j, hj, e⟩ := List.getElem_of_mem hx
  have := h j hj
  rw [List.getD_eq_getElem?_getD, List.getElem?_eq_getElem hj] at this
  rw [← e]; exact this
theorem atom_cat (rb jt : List UInt8) : (((⟨rb.toArray⟩ : ByteArray) ++ ⟨#[40]⟩) ++ ⟨jt.toArray⟩) ++ ⟨#[41]⟩ = ⟨(rb ++ [40] ++ jt ++ [41]).toArray⟩ := by
  rw [show (⟨#[40]⟩ : ByteArray) = ⟨[40].toArray⟩ from rfl, show (⟨#[41]⟩ : ByteArray) = ⟨[41].toArray⟩ from rfl, cat_bytes, cat_bytes, cat_bytes]

theorem ring_size : ∀ k : Nat, k ≤ 3 → (ringB (k : Int)).size ≤ 5
  | 0, _ => by decide
  | 1, _ => by decide
  | 2, _ => by decide
  | 3, _ => by decide
  | k + 4, h => by omega

end Go.Proofs.YtcdfoephhjacdaaGreatDoor

/-
  impl.printedAtom.
-/
namespace Go.Proofs.YtcdfoephhjacdaaGreatDoor
open Go.RowKit

theorem tabQ_below {w W : World} (h : Lib.TabIs Tryz.prog w "internal/strconv.uint64pow10" .u64 Lib.pow10Tab) (hb : Below w.heap.size w W) : Lib.TabIs Tryz.prog W "internal/strconv.uint64pow10" .u64 Lib.pow10Tab := by
  unfold Lib.TabIs World.var? at *
  cases hg : Tryz.prog.globalNamed "internal/strconv.uint64pow10" with
  | none => rw [hg] at h; simp at h
  | some g =>
    rw [hg] at h
    simp only [Option.bind_some] at h ⊢
    have hlt : g < w.heap.size := by
      rcases Nat.lt_or_ge g w.heap.size with h1 | h1
      · exact h1
      · rw [Array.getElem?_eq_none h1] at h; simp at h
    rw [hb.block g hlt]
    exact h

theorem own_joins {W : World} {B : Nat} {v : Value} {L : List ByteArray} (h : W.ownsRow B 9 1 v L.length (L.map Value.string)) (hn : ∃ g c, v = .slice (some ⟨g, 0, none⟩) L.length c) (hl : L.length ≤ 1048576) (hJ : (jn (L.map bts)).length ≤ 140737488355328) :
    Calls Tryz.prog 31 #[v, .string ⟨#[44, 32]⟩] W fun e w' => e = .returned (.string ⟨(jn (L.map bts)).toArray⟩) ∧ Below W.heap.size W w' := by
  obtain ⟨g, c, rfl⟩ := hn
  rcases h.2 with ⟨h1, -⟩ | ⟨g', cap, cur, h1, h2, h3, h4, h5, h6, h7⟩
  · simp at h1
  · simp only [Value.slice.injEq, Option.some.injEq, Addr.mk.injEq] at h1
    obtain ⟨⟨rfl, -⟩, -, rfl⟩ := h1
    have hlt : g < W.heap.size := by
      rcases Nat.lt_or_ge g W.heap.size with h1 | h1
      · exact h1
      · rw [Array.getElem?_eq_none h1] at h3; cases h3
    exact Tryz.c_Join g 0 c L ⟨#[44, 32]⟩ W (fun j x hj => by
      have hjl : j < L.length := (List.getElem?_eq_some_iff.1 hj).1
      have := h.cellAt j (by omega)
      rw [Nat.zero_add, this, List.getElem?_map, hj]
      rfl) hlt (by omega) h4 hJ

set_option maxHeartbeats 8000000 in
set_option maxRecDepth 1000000 in
theorem printedAtom_calls (w : World) (v : Value) (rel : ByteArray) (ts : List TermV) (hit : ITm w v ts) (hab : atomB (rel, ts) = true) (hm : ts.length ≤ 1048576) (htab : Lib.TabIs Tryz.prog w "internal/strconv.uint64pow10" .u64 Lib.pow10Tab) :
    Calls Tryz.prog 32 #[.agg #[.string rel, v]] w fun e w' => e = .returned (.string ⟨(atomT (rel, ts)).toArray⟩) ∧ Below w.heap.size w w' := by
  obtain ⟨iT, hi, hz0, hz1, hz2⟩ := info_parts Tryz.infoSt
  have htl := terms_len hab hm
  dsimp only at htl
  obtain ⟨rb, rfl⟩ : ∃ rb : List UInt8, rel = ⟨rb.toArray⟩ := ⟨bts rel, (bts_mk rel).symm⟩
  unfold atomB at hab
  simp only [Bool.and_eq_true, decide_eq_true_eq] at hab
  have hrb : rb.length ≤ 30 := by have h' : rb.toArray.size ≤ 30 := name_len hab.1.1; simpa using h'
  have HTb : Hid (∀ p, p < ts.length → termB (ts.getD p noTm) = true) := hid fun p hp => List.all_eq_true.1 hab.2 _ (by rw [List.getD_eq_getElem?_getD, List.getElem?_eq_getElem hp]; exact List.getElem_mem _)
  rw [show atomT ((⟨rb.toArray⟩ : ByteArray), ts) = rb ++ [40] ++ jn (ts.map termT) ++ [41] by unfold atomT; rw [bts_of]]
  have KJt : Hid (∀ (W : World) B v, W.ownsRow B 9 1 v ts.length ((ML termT ts ts.length).map Value.string) → (∃ g c, v = .slice (some ⟨g, 0, none⟩) ts.length c) → Calls Tryz.prog 31 #[v, .string ⟨#[44, 32]⟩] W fun e w' => e = .returned (.string ⟨(jn (ts.map termT)).toArray⟩) ∧ Below W.heap.size W w') := hid fun W B v hv hn => by
    have := own_joins (L := ML termT ts ts.length) (by rw [ML_len _ (Nat.le_refl _)]; exact hv) (by rw [ML_len _ (Nat.le_refl _)]; exact hn) (by rw [ML_len _ (Nat.le_refl _)]; exact hm) (by rw [ML_bts]; omega)
    rwa [ML_bts] at this
  have KI : Hid (∀ W n, Below w.heap.size w W → 0 ≤ n → n ≤ 1000000 → Calls Tryz.prog 24 #[.int .i64 n] W fun e w' => e = .returned (.string ⟨(Lib.itoa n).toArray⟩) ∧ Below W.heap.size W w') := hid fun W n hW h0 h1 => Tryz.c_Itoa n (by omega) (by omega) W (tabQ_below htab hW)
  generalize jn (ts.map termT) = jm at *
  clear hab htab
  obtain ⟨ua, uc, rfl, hterm⟩ := hit
  have HCt : Hid (∀ W, Below w.heap.size w W → ∀ p, p < ts.length → ∃ b o, ua = some ⟨b, o, none⟩ ∧ W.cell? ⟨b, o + p * 2, none⟩ = some (.string (ts.getD p noTm).1) ∧ W.cell? ⟨b, o + p * 2 + 1, none⟩ = some (.int .i64 (ts.getD p noTm).2)) := hid fun W hW p hp => by
    rcases hterm with h0 | ⟨b, o, rfl, hh⟩
    · omega
    · exact ⟨b, o, rfl, bcl' hW (hh p hp).1, bcl' hW (hh p hp).2⟩
  clear hterm
  obtain ⟨m, hm'⟩ : ∃ m, m = ts.length := ⟨_, rfl⟩
  have HM := hid hm'
  rw [← hm'] at hm HTb KJt HCt ⊢
  clear hm'
  go_enter Tryz.func32, Tryz.ntmps32
  go_upto_region 1 with fail
  obtain ⟨Wx, hWx⟩ : ∃ Wx, Wx = w.alloc (.cells #[.string ⟨rb.toArray⟩, .slice ua m uc] 55) := ⟨_, rfl⟩
  have f0 : Wx.cell? ⟨w.heap.size, 0, none⟩ = some (.string ⟨rb.toArray⟩) := by rw [hWx, World.cell?_alloc_at _ _ _ _ rfl]; rfl
  have f1 : Wx.cell? ⟨w.heap.size, 1, none⟩ = some (.slice ua m uc) := by rw [hWx, World.cell?_alloc_at _ _ _ _ rfl]; rfl
  have HX : Hid (Below w.heap.size w Wx) := hid (by rw [hWx]; exact (Below.refl _ _).alloc (Nat.le_refl _) _)
  rw [← hWx]
  clear hWx
  obtain ⟨Wm, hmk', hownm, hgrm⟩ := run_makeSlice_owned (P := Tryz.prog) Wx Wx.heap.size 26 9 iT (.string ⟨#[]⟩) 1 Tryz.underlying26 hi hz0 hz1 .i64 .i64 m (by omega) (by rw [hz2]; omega) (by unfold maxLen; omega) (Nat.le_refl _)
  have hmk : Sem.run Tryz.prog (Instr.makeSlice 26 (.int .i64 0) (.int .i64 (m : Int))) Wx = .ok (.slice (some ⟨Wx.heap.size, 0, none⟩) 0 m) Wm := hmk'
  have hbm : Below Wx.heap.size Wx Wm := (Below.refl _ _).grown hgrm (Nat.le_refl _) (fun j hj => by simp at hj)
  have f0m := bcl' hbm f0
  have f1m := bcl' hbm f1
  have HM0 : Hid (Below Wx.heap.size Wx Wm ∧ Wm.ownsRow Wx.heap.size 9 1 (.slice (some ⟨Wx.heap.size, 0, none⟩) 0 m) 0 ((ML termT ts 0).map Value.string)) := hid ⟨hbm, hownm⟩
  clear hmk' hownm hgrm hbm
  go_wp2_with fail
  clear hmk f1 f1m f0m
  go_loopw [3, 13] (fun v t wr => ∃ (p : Nat) (g c : Nat), p ≤ m ∧ t = .int .i64 p ∧ v = .slice (some ⟨g, 0, none⟩) p c ∧ Hid (Below Wx.heap.size Wx wr ∧ wr.ownsRow Wx.heap.size 9 1 (.slice (some ⟨g, 0, none⟩) p c) p ((ML termT ts p).map Value.string))) (fun _ t _ => m - (intOf t).toNat)
  case atStart => exact ⟨0, _, _, Nat.zero_le _, rfl, rfl, HM0⟩
  case round =>
    clear HM0
    obtain ⟨p, g, c, hpm, rfl, rfl, HG⟩ := hrel
    by_cases hlp : p < m
    · have i2 : (p : Int) < (m : Int) := by omega
      have HBw := hid (bt HX.out HG.out.1)
      obtain ⟨tb, to', ea, g0, g1⟩ := HCt.out wr HBw.out p hlp
      subst ea
      have htb := HTb.out p hlp
      have HS := hid (ML_succ termT noTm (l := ts) (p := p) (by rw [← HM.out]; exact hlp))
      generalize ts.getD p noTm = t at *
      obtain ⟨x, y⟩ := t
      unfold termB at htb
      rw [show termT ((x, y) : TermV) = if x.toList.isEmpty then Lib.itoa y else bts x from rfl] at HS
      dsimp only at *
      generalize wr = Wt at *
      go_upto_region 5 with fail
      obtain ⟨W5, hW5⟩ : ∃ W5, W5 = Wt.alloc (.cells #[.string x, .int .i64 y] 89) := ⟨_, rfl⟩
      have t0 : W5.cell? ⟨Wt.heap.size, 0, none⟩ = some (.string x) := by rw [hW5, World.cell?_alloc_at _ _ _ _ rfl]; rfl
      have t1 : W5.cell? ⟨Wt.heap.size, 1, none⟩ = some (.int .i64 y) := by rw [hW5, World.cell?_alloc_at _ _ _ _ rfl]; rfl
      have HG5 : Hid (Below Wx.heap.size Wx W5 ∧ W5.ownsRow Wx.heap.size 9 1 (.slice (some ⟨g, 0, none⟩) p c) p ((ML termT ts p).map Value.string)) := hid ⟨by rw [hW5]; exact HG.out.1.alloc HG.out.1.size _, by rw [hW5]; exact HG.out.2.alloc _⟩
      rw [← hW5]
      clear hW5 HG g0 g1 HBw
      generalize Wt.heap.size = tp at *
      cases hem : x.toList.isEmpty
      · rw [hem, if_neg (by decide), bts_mk] at HS
        have hs5 := HG5.out.1.size
        clear htb
        go_wp2_with (first | (at_builtin; refine wpList_append_lies _ rfl _ _ 26 rfl Wx.heap.size 9 iT (.string ⟨#[]⟩) 1 16 Tryz.underlying26 hi hz0 hz1 hz2 rfl (by decide) _ _ _ rfl (HG5.out.2.alloc _) ⟨_, 0, none⟩ 1 1 [.string x] rfl rfl (new1_cellQ _ _ _) (fun u hu => by simp at hu; subst hu; rfl) (by decide) (by unfold maxLen; omega) (by omega) (by simp; omega) _ rfl ?_; intro g8 cp8 w8 hown8 hgrow8 hat8 hlt8) | fail)
        have HN2 : Hid (Below Wx.heap.size Wx w8 ∧ w8.ownsRow Wx.heap.size 9 1 (.slice (some ⟨g8, 0, none⟩) (p + 1) cp8) (p + 1) ((ML termT ts (p + 1)).map Value.string)) := hid ⟨(HG5.out.1.alloc hs5 _).grown hgrow8 (by simp; omega) (fun j hj => (HG5.out.2.lt j hj).1), by rw [HS.out, List.map_append]; exact hown8⟩
        clear hown8 hgrow8 hat8 hlt8
        go_wp2_with fail
        go_roundw
        case rel => exact ⟨p + 1, _, _, by omega, by go_num, rfl, HN2⟩
        case measure => simp [intOf]; omega
      · rw [hem, if_pos rfl] at HS htb
        simp only [Bool.and_eq_true, decide_eq_true_eq] at htb
        have KD := hid (KI.out W5 y (bt HX.out HG5.out.1) htb.1 htb.2)
        generalize Lib.itoa y = it at *
        go_wp2_with fail
        refine KD.out.mono ?_
        rintro e w6 ⟨rfl, hb6⟩
        have HG6 : Hid (Below Wx.heap.size Wx w6 ∧ w6.ownsRow Wx.heap.size 9 1 (.slice (some ⟨g, 0, none⟩) p c) p ((ML termT ts p).map Value.string)) := hid ⟨bt HG5.out.1 hb6, own_belowQ HG5.out.2 hb6⟩
        have hs6 := HG6.out.1.size
        clear hb6 KD HG5 t0 t1
        go_wp2_with (first | (at_builtin; refine wpList_append_lies _ rfl _ _ 26 rfl Wx.heap.size 9 iT (.string ⟨#[]⟩) 1 16 Tryz.underlying26 hi hz0 hz1 hz2 rfl (by decide) _ _ _ rfl (HG6.out.2.alloc _) ⟨_, 0, none⟩ 1 1 [.string ⟨it.toArray⟩] rfl rfl (new1_cellQ _ _ _) (fun u hu => by simp at hu; subst hu; rfl) (by decide) (by unfold maxLen; omega) (by omega) (by simp; omega) _ rfl ?_; intro g8 cp8 w8 hown8 hgrow8 hat8 hlt8) | fail)
        have HN2 : Hid (Below Wx.heap.size Wx w8 ∧ w8.ownsRow Wx.heap.size 9 1 (.slice (some ⟨g8, 0, none⟩) (p + 1) cp8) (p + 1) ((ML termT ts (p + 1)).map Value.string)) := hid ⟨(HG6.out.1.alloc hs6 _).grown hgrow8 (by simp; omega) (fun j hj => (HG6.out.2.lt j hj).1), by rw [HS.out, List.map_append]; exact hown8⟩
        clear hown8 hgrow8 hat8 hlt8
        go_wp2_with fail
        go_roundw
        case rel => exact ⟨p + 1, _, _, by omega, by go_num, rfl, HN2⟩
        case measure => simp [intOf]; omega
    · obtain rfl : p = m := by omega
      have i2 : ¬ ((p : Int) < (p : Int)) := by omega
      have KJ2 : Hid (∀ W, Below wr.heap.size wr W → Calls Tryz.prog 31 #[.slice (some ⟨g, 0, none⟩) p c, .string ⟨#[44, 32]⟩] W fun e w' => e = .returned (.string ⟨jm.toArray⟩) ∧ Below W.heap.size W w') := hid fun W hW => KJt.out W _ _ (own_belowQ HG.out.2 hW) ⟨_, _, rfl⟩
      have f0a := bcl' HG.out.1 f0
      have HB := hid (bt HX.out HG.out.1)
      have hcc1 : ¬ (9223372036854775807 < rb.length + 1) := by omega
      have hcc2 : ¬ (9223372036854775807 < rb.length + 1 + jm.length) := by omega
      have hcc3 : ¬ (9223372036854775807 < rb.length + 1 + jm.length + 1) := by omega
      clear HG HX f0 KJt
      generalize wr = Wt at *
      go_upto_region 9 with fail
      go_region_law (first
        | (go_simp; go_at_call 31; (with_reducible refine (KJ2.out _ (Below.refl _ _).drew).mono ?_); rintro e w6 ⟨rfl, hb6'⟩; have hb6 : Below Wt.heap.size Wt w6 := ⟨hb6'.os, hb6'.tape, hb6'.output, hb6'.size, hb6'.block⟩; have f0b := bcl' hb6 f0a; have HB6 := hid (bt HB.out hb6); clear hb6 hb6')
        | fail)
      all_goals
        go_wp2_with fail
        go_ret
        refine ⟨?_, HB6.out⟩
        rw [show rb ++ 40 :: (jm ++ [41]) = rb ++ [40] ++ jm ++ [41] by simp, ← atom_cat]
        try rfl
end Go.Proofs.YtcdfoephhjacdaaGreatDoor

/-
  impl.PrintQuery.
-/
namespace Go.Proofs.YtcdfoephhjacdaaGreatDoor
open Go.RowKit

/-- the words of the rings lie in their variable -/
def RgW (W : World) : Prop := ∀ k : Nat, 1 ≤ k → k ≤ 3 → W.cell? ⟨0, k, none⟩ = some (.string (ringB (k : Int)))
theorem RgW.below {W W' : World} (h : RgW W) (hb : Below W.heap.size W W') : RgW W' := fun k h1 h3 => bcl' hb (h k h1 h3)

theorem query_cat (nb s ja : List UInt8) : ((((((⟨nb.toArray⟩ : ByteArray) ++ ⟨#[40]⟩) ++ ⟨s.toArray⟩) ++ ⟨#[41, 32, 58, 45, 32]⟩) ++ ⟨ja.toArray⟩) ++ ⟨#[46]⟩) = ⟨(nb ++ [40] ++ s ++ [41, 32, 58, 45, 32] ++ ja ++ [46]).toArray⟩ := by
  rw [show (⟨#[40]⟩ : ByteArray) = ⟨[40].toArray⟩ from rfl, show (⟨#[41, 32, 58, 45, 32]⟩ : ByteArray) = ⟨[41, 32, 58, 45, 32].toArray⟩ from rfl, show (⟨#[46]⟩ : ByteArray) = ⟨[46].toArray⟩ from rfl, cat_bytes, cat_bytes, cat_bytes, cat_bytes, cat_bytes]

set_option maxHeartbeats 8000000 in
set_option maxRecDepth 1000000 in
theorem iPrintQuery_cap (w : World) (gh ch : Nat) (va : Value) (q : QV) (hch : q.head.length ≤ ch) (h : IQ w (.slice (some ⟨gh, 0, none⟩) q.head.length ch) va q) (hgh : gh < w.heap.size) (hq : OkQ q) (htab : Lib.TabIs Tryz.prog w "internal/strconv.uint64pow10" .u64 Lib.pow10Tab) (hrg : RgW w) :
    Calls Tryz.prog 9 #[.agg #[.string q.name, .slice (some ⟨gh, 0, none⟩) q.head.length ch, .int .i64 q.ring, va]] w fun e w' => e = .returned (.string ⟨(prqT q).toArray⟩) ∧ Below w.heap.size w w' := by
  obtain ⟨iT, hi, hz0, hz1, hz2⟩ := info_parts Tryz.infoSt
  obtain ⟨vh, hvh⟩ : ∃ vh, vh = Value.slice (some ⟨gh, 0, none⟩) q.head.length ch := ⟨_, rfl⟩
  rw [← hvh] at h ⊢
  obtain ⟨W1, hW1⟩ : ∃ W1, W1 = w.alloc (.cells #[.string q.name, vh, .int .i64 q.ring, va] 29) := ⟨_, rfl⟩
  have c0 : W1.cell? ⟨w.heap.size, 0, none⟩ = some (.string q.name) := by rw [hW1, World.cell?_alloc_at _ _ _ _ rfl]; rfl
  have c1 : W1.cell? ⟨w.heap.size, 1, none⟩ = some vh := by rw [hW1, World.cell?_alloc_at _ _ _ _ rfl]; rfl
  have c2 : W1.cell? ⟨w.heap.size, 2, none⟩ = some (.int .i64 q.ring) := by rw [hW1, World.cell?_alloc_at _ _ _ _ rfl]; rfl
  have c3 : W1.cell? ⟨w.heap.size, 3, none⟩ = some va := by rw [hW1, World.cell?_alloc_at _ _ _ _ rfl]; rfl
  have hs1 : w.heap.size < W1.heap.size := by rw [hW1]; simp
  have HB1 : Hid (Below w.heap.size w W1) := hid (by rw [hW1]; exact (Below.refl _ _).alloc (Nat.le_refl _) _)
  have KS := hid (hasGoodShape_calls W1 vh va q (h.below HB1.out) hq)
  have HI := hid h
  unfold prqT
  cases hsh : shapeB q
  · rw [hsh] at KS
    rw [if_neg (by simp)]
    obtain ⟨a2, k2, e2, -⟩ := h.atoms
    subst e2 hvh
    clear h hq HI
    generalize q.name = nm at *
    generalize q.ring = rg at *
    generalize q.head.length = n1 at *
    generalize q.atoms.length = n2 at *
    go_enter Tryz.func9, Tryz.ntmps9
    go_upto_region 1 with fail
    rw [← hW1]
    clear hW1
    go_wp2_with fail
    refine KS.out.mono ?_
    rintro e w2 ⟨rfl, hb2⟩
    go_wp2_with fail
    go_ret
    exact ⟨rfl, bt HB1.out hb2⟩
  · rw [hsh] at KS
    rw [if_pos rfl]
    have G := gq_of hsh hq
    have HJl : Hid ((jn (q.head.map bts)).length ≤ 100000000) := hid (by
      have := jn_len 30 (q.head.map bts) fun x hx => by
        obtain ⟨t, ht, rfl⟩ := List.mem_map.1 hx
        rw [bts_len]; exact G.hd t ht
      rw [List.length_map] at this
      have := G.hl
      omega)
    have KJ : Hid (∀ W, Below w.heap.size w W → Calls Tryz.prog 31 #[vh, .string ⟨#[44, 32]⟩] W fun e w' => e = .returned (.string ⟨(jn (q.head.map bts)).toArray⟩) ∧ Below W.heap.size W w') := hid fun W hW => by
      rw [hvh]
      obtain ⟨a, cp, ee, hc⟩ := HI.out.head
      rw [hvh] at ee
      simp only [Value.slice.injEq] at ee
      obtain ⟨rfl, -, -⟩ := ee
      exact Tryz.c_Join gh 0 ch q.head ⟨#[44, 32]⟩ W (fun j x hj => by
        have hjl : j < q.head.length := (List.getElem?_eq_some_iff.1 hj).1
        rcases hc with h0 | ⟨b, o, eb, hh⟩
        · omega
        · simp only [Option.some.injEq, Addr.mk.injEq] at eb
          obtain ⟨rfl, rfl, -⟩ := eb
          have := bcl' hW (hh j hjl)
          rw [this, List.getD_eq_getElem?_getD, hj]
          rfl) (Nat.lt_of_lt_of_le hgh hW.size) (by have := G.hl; omega) hch (Nat.le_trans HJl.out (by omega))
    obtain ⟨a2, k2, e2, hca⟩ := h.atoms
    subst e2
    have hnm := G.nm
    have hr0 := G.r0
    have hr3 := G.r3
    have hal := G.al
    have HAt := hid G.at'
    clear h hq hsh G
    subst hvh
    unfold headT
    obtain ⟨nm, hd, rg, ats⟩ := q
    obtain ⟨nb, rfl⟩ : ∃ nb : List UInt8, nm = ⟨nb.toArray⟩ := ⟨bts nm, (bts_mk nm).symm⟩
    obtain ⟨k, rfl⟩ : ∃ k : Nat, rg = k := ⟨rg.toNat, by dsimp only at hr0; omega⟩
    dsimp only at *
    rw [bts_of]
    have hnb : nb.length ≤ 30 := by have h' : nb.toArray.size ≤ 30 := hnm; simpa using h'
    have hjl := HJl.out
    generalize jn (hd.map bts) = jt at *
    have hk3 : k ≤ 3 := by omega
    clear hnm hr0 hr3 HI HJl
    have HC : Hid (∀ W, Below w.heap.size w W → ∀ j, j < ats.length → ∃ b o u, a2 = some ⟨b, o, none⟩ ∧ W.cell? ⟨b, o + j * 2, none⟩ = some (.string (ats.getD j noAt).1) ∧ W.cell? ⟨b, o + j * 2 + 1, none⟩ = some u ∧ ITm w u (ats.getD j noAt).2) := hid fun W hW j hj => by
      rcases hca with h0 | ⟨b, o, rfl, hh⟩
      · omega
      · obtain ⟨u, d0, d1, hi⟩ := hh j hj
        exact ⟨b, o, u, rfl, bcl' hW d0, bcl' hW d1, hi⟩
    clear hca
    have hAL : ∀ x ∈ ats, (atomT x).length ≤ 33554464 := get_all noAt fun j hj => atomT_len (HAt.out j hj).1 (HAt.out j hj).2
    have hJa : (jn (ats.map atomT)).length ≤ 100000000000000 := by
      have := jn_len 33554464 (ats.map atomT) fun x hx => by
        obtain ⟨t, ht, rfl⟩ := List.mem_map.1 hx
        exact hAL t ht
      rw [List.length_map] at this
      have h3 := Nat.mul_le_mul_right (33554464 + 2) hal
      omega
    have KJa : Hid (∀ (W : World) B v, W.ownsRow B 9 1 v ats.length ((ML atomT ats ats.length).map Value.string) → (∃ g c, v = .slice (some ⟨g, 0, none⟩) ats.length c) → Calls Tryz.prog 31 #[v, .string ⟨#[44, 32]⟩] W fun e w' => e = .returned (.string ⟨(jn (ats.map atomT)).toArray⟩) ∧ Below W.heap.size W w') := hid fun W B v hv hn => by
      have := own_joins (L := ML atomT ats ats.length) (by rw [ML_len _ (Nat.le_refl _)]; exact hv) (by rw [ML_len _ (Nat.le_refl _)]; exact hn) (by rw [ML_len _ (Nat.le_refl _)]; exact hal) (by rw [ML_bts]; omega)
      rwa [ML_bts] at this
    have KP : Hid (∀ W u j, Below w.heap.size w W → j < ats.length → ITm w u (ats.getD j noAt).2 → Calls Tryz.prog 32 #[.agg #[.string (ats.getD j noAt).1, u]] W fun e w' => e = .returned (.string ⟨(atomT (ats.getD j noAt)).toArray⟩) ∧ Below W.heap.size W w') := hid fun W u j hW hj hu => printedAtom_calls W u _ _ (hu.below hW) (HAt.out j hj).1 (HAt.out j hj).2 (tabQ_below htab hW)
    generalize jn (ats.map atomT) = ja at *
    obtain ⟨hT, hhT⟩ : ∃ hT, hT = jt ++ (if 0 < (k : Int) then [59, 32] ++ bts (ringB (k : Int)) else []) := ⟨_, rfl⟩
    have H0 : Hid (k = 0 → hT = jt) := hid fun h => by rw [hhT, if_neg (by omega), List.append_nil]
    have H1 : Hid (1 ≤ k → hT = jt ++ ([59, 32] ++ bts (ringB (k : Int)))) := hid fun h => by rw [hhT, if_pos (by omega)]
    have hTl : hT.length ≤ 100000100 := by
      by_cases hk : k = 0
      · rw [H0.out hk]; omega
      · rw [H1.out (by omega), List.length_append, List.length_append, bts_len]
        have := ring_size k hk3
        simp only [List.length_cons, List.length_nil]
        omega
    rw [← hhT]
    clear hhT hAL
    have HRg := hid hrg
    obtain ⟨n, hn⟩ : ∃ n, n = ats.length := ⟨_, rfl⟩
    have HN := hid hn
    rw [← hn] at c3 KS hW1 hal HAt HC KJa KP ⊢
    clear hn htab hrg
    generalize hd.length = nh at *
    go_enter Tryz.func9, Tryz.ntmps9
    go_upto_region 1 with fail
    rw [← hW1]
    clear hW1
    go_wp2_with fail
    refine KS.out.mono ?_
    rintro e w2 ⟨rfl, hb2⟩
    have KJ1 := hid (KJ.out w2 (bt HB1.out hb2))
    have d1 := bcl' hb2 c1
    clear KS KJ
    go_wp2_with fail
    refine KJ1.out.mono ?_
    rintro e w3 ⟨rfl, hb3⟩
    have HT := hid (bt hb2 hb3)
    have d2 := bcl' HT.out c2
    have HRg3 := hid (HRg.out.below (bt HB1.out HT.out))
    clear KJ1 d1 hb2 hb3 HRg c1
    go_upto_if 15 with fail
    go_cut [3] from 7 (fun v wx => ∃ s : List UInt8, v = .string ⟨s.toArray⟩ ∧ Hid (s = hT ∧ wx = w3))
    case first =>
      by_cases hk : k = 0
      · subst hk
        have HE := hid (H0.out rfl)
        go_wp2_with fail
        go_meet
        exact ⟨jt, rfl, hid ⟨HE.out.symm, by trivial⟩⟩
      · have i1 : ((k : Int) != 0) = true := by simp; omega
        have i2 : (k : Int) < 4 := by omega
        have i3 : ¬ ((k : Int) < 0) := by omega
        have HE := hid (H1.out (by omega))
        have hkb := ring_size k hk3
        have e3 : w3.cell? ⟨0, k, none⟩ = some (.string ⟨(bts (ringB (k : Int))).toArray⟩) := by rw [bts_mk]; exact HRg3.out k (by omega) hk3
        rw [← bts_len] at hkb
        generalize bts (ringB (k : Int)) = kb at *
        have hcc1 : ¬ (9223372036854775807 < 2 + kb.length) := by omega
        have hcc2 : ¬ (9223372036854775807 < jt.length + (2 + kb.length)) := by omega
        go_wp2_with fail
        go_meet
        refine ⟨jt ++ ([59, 32] ++ kb), ?_, hid ⟨HE.out.symm, by trivial⟩⟩
        rw [← cat_bytes, ← cat_bytes]
    case rest =>
      obtain ⟨s2, rfl, HT'⟩ := hcut
      obtain ⟨hs2, hw3⟩ := HT'.out
      subst wc
      have hl2 : s2.length ≤ 100000100 := by rw [hs2]; exact hTl
      have HS2 := hid hs2
      clear H0 H1 d2 HT' c2 hTl hjl HRg3 hs2
      have d3 := bcl' HT.out c3
      have d0 := bcl' HT.out c0
      obtain ⟨Wm, hmk', hownm, hgrm⟩ := run_makeSlice_owned (P := Tryz.prog) w3 W1.heap.size 26 9 iT (.string ⟨#[]⟩) 1 Tryz.underlying26 hi hz0 hz1 .i64 .i64 n (by omega) (by rw [hz2]; omega) (by unfold maxLen; omega) HT.out.size
      have hmk : Sem.run Tryz.prog (Instr.makeSlice 26 (.int .i64 0) (.int .i64 (n : Int))) w3 = .ok (.slice (some ⟨w3.heap.size, 0, none⟩) 0 n) Wm := hmk'
      have hbm : Below w3.heap.size w3 Wm := (Below.refl _ _).grown hgrm (Nat.le_refl _) (fun j hj => by simp at hj)
      have d3m := bcl' hbm d3
      have HM0 : Hid (Below W1.heap.size W1 Wm ∧ Wm.ownsRow W1.heap.size 9 1 (.slice (some ⟨w3.heap.size, 0, none⟩) 0 n) 0 ((ML atomT ats 0).map Value.string)) := hid ⟨bt HT.out hbm, hownm⟩
      clear hmk' hownm hgrm hbm HT
      go_wp2_with fail
      clear hmk d3 d3m d0
      go_loopw [4, 30] (fun v t wr => ∃ (i : Nat) (g c : Nat), i ≤ n ∧ t = .int .i64 i ∧ v = .slice (some ⟨g, 0, none⟩) i c ∧ Hid (Below W1.heap.size W1 wr ∧ wr.ownsRow W1.heap.size 9 1 (.slice (some ⟨g, 0, none⟩) i c) i ((ML atomT ats i).map Value.string))) (fun _ t _ => n - (intOf t).toNat)
      case atStart => exact ⟨0, _, _, Nat.zero_le _, rfl, rfl, HM0⟩
      case round =>
        clear HM0
        obtain ⟨i, g, c, hin, rfl, rfl, HH⟩ := hrel
        by_cases hlt : i < n
        · have i1 : (i : Int) < (n : Int) := by omega
          have HBw := hid (bt HB1.out HH.out.1)
          obtain ⟨b, o, u, ea, e0, e1, hit⟩ := HC.out wr HBw.out i hlt
          subst ea
          have HMs := hid (ML_succ atomT noAt (l := ats) (p := i) (by rw [← HN.out]; exact hlt))
          have KP1 : Hid (∀ W, Below w.heap.size w W → Calls Tryz.prog 32 #[.agg #[.string (ats.getD i noAt).1, u]] W fun e w' => e = .returned (.string ⟨(atomT (ats.getD i noAt)).toArray⟩) ∧ Below W.heap.size W w') := hid fun W hW => KP.out W u i hW hlt hit
          generalize atomT (ats.getD i noAt) = aT at *
          obtain ⟨ua, uc, rfl, -⟩ := hit
          generalize (ats.getD i noAt).1 = rel at *
          generalize (ats.getD i noAt).2.length = m at *
          generalize wr = Wr at *
          go_upto_region 10 with fail
          obtain ⟨Wx, hWx⟩ : ∃ Wx, Wx = Wr.alloc (.cells #[.string rel, .slice ua m uc] 55) := ⟨_, rfl⟩
          have f0 : Wx.cell? ⟨Wr.heap.size, 0, none⟩ = some (.string rel) := by rw [hWx, World.cell?_alloc_at _ _ _ _ rfl]; rfl
          have f1 : Wx.cell? ⟨Wr.heap.size, 1, none⟩ = some (.slice ua m uc) := by rw [hWx, World.cell?_alloc_at _ _ _ _ rfl]; rfl
          have HX : Hid (Below W1.heap.size W1 Wx ∧ Wx.ownsRow W1.heap.size 9 1 (.slice (some ⟨g, 0, none⟩) i c) i ((ML atomT ats i).map Value.string)) := hid ⟨by rw [hWx]; exact HH.out.1.alloc HH.out.1.size _, by rw [hWx]; exact HH.out.2.alloc _⟩
          rw [← hWx]
          clear hWx HH e0 e1 HBw
          have KP2 := hid (KP1.out Wx (bt HB1.out HX.out.1))
          generalize Wr.heap.size = bp at *
          go_wp2_with fail
          refine KP2.out.mono ?_
          rintro e w6 ⟨rfl, hb6⟩
          have HG6 : Hid (Below W1.heap.size W1 w6 ∧ w6.ownsRow W1.heap.size 9 1 (.slice (some ⟨g, 0, none⟩) i c) i ((ML atomT ats i).map Value.string)) := hid ⟨bt HX.out.1 hb6, own_belowQ HX.out.2 hb6⟩
          have hs6 := HG6.out.1.size
          clear hb6 KP2 KP1 HX f0 f1
          go_wp2_with (first | (at_builtin; refine wpList_append_lies _ rfl _ _ 26 rfl W1.heap.size 9 iT (.string ⟨#[]⟩) 1 16 Tryz.underlying26 hi hz0 hz1 hz2 rfl (by decide) _ _ _ rfl (HG6.out.2.alloc _) ⟨_, 0, none⟩ 1 1 [.string ⟨aT.toArray⟩] rfl rfl (new1_cellQ _ _ _) (fun u hu => by simp at hu; subst hu; rfl) (by decide) (by unfold maxLen; omega) (by omega) (by simp; omega) _ rfl ?_; intro g8 cp8 w8 hown8 hgrow8 hat8 hlt8) | fail)
          have HN2 : Hid (Below W1.heap.size W1 w8 ∧ w8.ownsRow W1.heap.size 9 1 (.slice (some ⟨g8, 0, none⟩) (i + 1) cp8) (i + 1) ((ML atomT ats (i + 1)).map Value.string)) := hid ⟨(HG6.out.1.alloc hs6 _).grown hgrow8 (by simp; omega) (fun j hj => (HG6.out.2.lt j hj).1), by rw [HMs.out, List.map_append]; exact hown8⟩
          clear hown8 hgrow8 hat8 hlt8
          go_wp2_with fail
          go_roundw
          case rel => exact ⟨i + 1, _, _, by omega, by go_num, rfl, HN2⟩
          case measure => simp [intOf]; omega
        · obtain rfl : i = n := by omega
          have i1 : ¬ ((i : Int) < (i : Int)) := by omega
          have KJ2 : Hid (∀ W, Below wr.heap.size wr W → Calls Tryz.prog 31 #[.slice (some ⟨g, 0, none⟩) i c, .string ⟨#[44, 32]⟩] W fun e w' => e = .returned (.string ⟨ja.toArray⟩) ∧ Below W.heap.size W w') := hid fun W hW => KJa.out W _ _ (own_belowQ HH.out.2 hW) ⟨_, _, rfl⟩
          have f0a := bcl' HH.out.1 c0
          have HB := hid (bt HB1.out HH.out.1)
          have hcc1 : ¬ (9223372036854775807 < nb.length + 1) := by omega
          have hcc2 : ¬ (9223372036854775807 < nb.length + 1 + s2.length) := by omega
          have hcc3 : ¬ (9223372036854775807 < nb.length + 1 + s2.length + 5) := by omega
          have hcc4 : ¬ (9223372036854775807 < nb.length + 1 + s2.length + 5 + ja.length) := by omega
          have hcc5 : ¬ (9223372036854775807 < nb.length + 1 + s2.length + 5 + ja.length + 1) := by omega
          clear HH KJa
          generalize wr = Wt at *
          go_upto_region 12 with fail
          go_region_law (first
            | (go_simp; go_at_call 31; (with_reducible refine (KJ2.out _ (Below.refl _ _).drew).mono ?_); rintro e w6 ⟨rfl, hb6'⟩; have hb6 : Below Wt.heap.size Wt w6 := ⟨hb6'.os, hb6'.tape, hb6'.output, hb6'.size, hb6'.block⟩; have f0b := bcl' hb6 f0a; have HB6 := hid (bt HB.out hb6); clear hb6 hb6')
            | fail)
          all_goals
            go_wp2_with fail
            go_ret
            refine ⟨?_, HB6.out⟩
            rw [← HS2.out]
            exact congrArg (fun x => Ending.returned (Value.string x)) ((query_cat nb s2 ja).trans (by simp))
end Go.Proofs.YtcdfoephhjacdaaGreatDoor
