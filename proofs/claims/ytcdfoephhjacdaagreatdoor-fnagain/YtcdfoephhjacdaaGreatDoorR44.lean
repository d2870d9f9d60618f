import Derived.Test.YtcdfoephhjacdaaGreatDoorR39
import Derived.Test.YtcdfoephhjacdaaGreatDoorR42
import Derived.Test.YtcdfoephhjacdaaGreatDoorR43
/-
  impl.readQuery.
-/
namespace Go.Proofs.YtcdfoephhjacdaaGreatDoor
open Go.RowKit

def fltV (c z : Int) : Value := .iface 78 (.agg #[.int .i64 c, .int .i64 z])
def wthV (part : ByteArray) (c z : Int) : Value := .iface 109 (.agg #[.string part, .iface 78 (.agg #[.int .i64 c, .int .i64 z])])
/-- how readQuery ends: a query, or an error with its code and place -/
def RqE (w : World) (s : ByteArray) (e : Ending) (w' : World) : Prop :=
  (∃ nm x hd r y us, pqA s = (some ⟨nm, hd, r, us.map uAt⟩, 0, 0) ∧ e = .returned (.tuple #[.agg #[.string nm, x, .int .i64 r, y], .nilIface]) ∧ QyR w.heap.size w' x hd y us ∧ Below w.heap.size w w') ∨
  (∃ c z er, (pqA s = (none, c, z.toNat) ∧ 0 ≤ z ∨ (c = 3 ∧ z = -1 ∧ pqA s = (none, 3, s.size))) ∧ (er = fltV c z ∨ ∃ part, er = wthV part c z) ∧ e = .returned (.tuple #[.agg #[.string ⟨#[]⟩, .slice none 0 0, .int .i64 0, .slice none 0 0], er]) ∧ Below w.heap.size w w')

theorem tok_at {W : World} {B cap : Nat} {a : Option Addr} {ts : List TkV} (h : W.ownsRow B 156 4 (.slice a ts.length cap) ts.length (ts.flatMap tkv)) (h0 : 0 < W.heap.size) : ts.length ≤ cap ∧ ∃ tb, tb < W.heap.size ∧ ∀ j, j < ts.length → ∃ o, a = some ⟨tb, o, none⟩ ∧ ∀ i, i < 4 → W.cell? ⟨tb, o + j * 4 + i, none⟩ = (tkv (ts.getD j noTk))[i]? := by
  have h' := h
  rcases h'.2 with ⟨e, h2⟩ | ⟨g, cap', cur, e, -, -, hc, -⟩
  · exact ⟨by omega, 0, h0, fun j hj => by omega⟩
  · obtain ⟨rfl, rfl⟩ : a = some ⟨g, 0, none⟩ ∧ cap = cap' := by simpa using e
    have hg := (h.lt g rfl).2
    refine ⟨hc, g, hg, fun j hj => ⟨0, rfl, fun i hi => ?_⟩⟩
    rw [Nat.zero_add, h.cellAt (j * 4 + i) (by omega)]
    exact flat_at tkv 4 (fun _ => rfl) noTk ts j i hj hi

set_option maxHeartbeats 8000000 in
set_option maxRecDepth 1000000 in
theorem readQuery_calls (w : World) (s : ByteArray) (hs : s.size ≤ 1048576) (hsy : SyV w) (hrg : RgV w) : Calls Tryz.prog 27 #[.string s] w (RqE w s) := by
  obtain ⟨W1, hW1⟩ : ∃ W, W = w.alloc (.cells #[.string ⟨#[]⟩, .slice none 0 0, .int .i64 0, .slice none 0 0] 29) := ⟨_, rfl⟩
  have hB1 : Below w.heap.size w W1 := by rw [hW1]; exact (Below.refl _ _).alloc (Nat.le_refl _) _
  have hR0 : W1.heap[w.heap.size]? = some (.cells #[.string ⟨#[]⟩, .slice none 0 0, .int .i64 0, .slice none 0 0] 29 (0, 0)) := by rw [hW1]; exact heap_alloc_new _ _
  have hs1 : W1.heap.size = w.heap.size + 1 := by rw [hW1]; simp
  have HSet : Hid (∀ (W : World) a' b' c' d', W.heap[w.heap.size]? = some (.cells #[.string ⟨#[]⟩, .slice none 0 0, .int .i64 0, .slice none 0 0] 29 (0, 0)) → Below w.heap.size w W → ∃ WF, WF = (((W.setCell ⟨w.heap.size, 0, none⟩ a').setCell ⟨w.heap.size, 1, none⟩ b').setCell ⟨w.heap.size, 2, none⟩ c').setCell ⟨w.heap.size, 3, none⟩ d' ∧ (WF.cell? ⟨w.heap.size, 0, none⟩ = some a' ∧ WF.cell? ⟨w.heap.size, 1, none⟩ = some b' ∧ WF.cell? ⟨w.heap.size, 2, none⟩ = some c' ∧ WF.cell? ⟨w.heap.size, 3, none⟩ = some d') ∧ Below w.heap.size w WF ∧ (∀ {x y hd us}, QyR w.heap.size W x hd y us → QyR w.heap.size WF x hd y us) ∧ W.cell? ⟨w.heap.size, 0, none⟩ = some (.string ⟨#[]⟩) ∧ W.cell? ⟨w.heap.size, 1, none⟩ = some (.slice none 0 0) ∧ W.cell? ⟨w.heap.size, 2, none⟩ = some (.int .i64 0) ∧ W.cell? ⟨w.heap.size, 3, none⟩ = some (.slice none 0 0) ∧ W.frozen? ⟨w.heap.size, 0, none⟩ = false ∧ W.frozen? ⟨w.heap.size, 1, none⟩ = false ∧ W.frozen? ⟨w.heap.size, 2, none⟩ = false ∧ W.frozen? ⟨w.heap.size, 3, none⟩ = false) := hid fun W a' b' c' d' hW hb => by
    have h4 := q4_set (a' := a') (b' := b') (c' := c') (d' := d') hW
    have fr : ∀ q, W.frozen? ⟨w.heap.size, q, none⟩ = false := fun q => by unfold World.frozen?; rw [hW]; simp
    exact ⟨_, rfl, ⟨cell_of_row _ _ _ _ _ _ h4.1, cell_of_row _ _ _ _ _ _ h4.1, cell_of_row _ _ _ _ _ _ h4.1, cell_of_row _ _ _ _ _ _ h4.1⟩, (((hb.setCell (Nat.le_refl _) _).setCell (Nat.le_refl _) _).setCell (Nat.le_refl _) _).setCell (Nat.le_refl _) _, h4.2, cell_of_row _ _ _ _ _ _ hW, cell_of_row _ _ _ _ _ _ hW, cell_of_row _ _ _ _ _ _ hW, cell_of_row _ _ _ _ _ _ hW, fr 0, fr 1, fr 2, fr 3⟩
  generalize hE : RqE w s = E
  have HNo : Hid (∀ c z er w', (pqA s = (none, c, z.toNat) ∧ 0 ≤ z ∨ (c = 3 ∧ z = -1 ∧ pqA s = (none, 3, s.size))) → (er = fltV c z ∨ ∃ part, er = wthV part c z) → Below w.heap.size w w' → E (.returned (.tuple #[.agg #[.string ⟨#[]⟩, .slice none 0 0, .int .i64 0, .slice none 0 0], er])) w') := hid fun c z er w' h1 h2 h3 => by rw [← hE]; exact Or.inr ⟨c, z, er, h1, h2, rfl, h3⟩
  have HYes : Hid (∀ nm x hd r y us w', pqA s = (some ⟨nm, hd, r, us.map uAt⟩, 0, 0) → QyR w.heap.size w' x hd y us → Below w.heap.size w w' → E (.returned (.tuple #[.agg #[.string nm, x, .int .i64 r, y], .nilIface])) w') := hid fun nm x hd r y us w' h1 h2 h3 => by rw [← hE]; exact Or.inl ⟨nm, x, hd, r, y, us, h1, rfl, h2, h3⟩
  clear hE
  by_cases h3 : 3000 < s.size
  · have i3 : (3000 : Int) < (s.size : Int) := by omega
    obtain ⟨WF, hWF, hq, hbF, -, r0, r1, r2, r3, f0, f1, f2, f3⟩ := HSet.out W1 (.string ⟨#[]⟩) (.slice none 0 0) (.int .i64 0) (.slice none 0 0) hR0 hB1
    have HE : Hid (E (.returned (.tuple #[.agg #[.string ⟨#[]⟩, .slice none 0 0, .int .i64 0, .slice none 0 0], .iface 78 (.agg #[.int .i64 1, .int .i64 0])])) WF) := hid (HNo.out 1 0 (fltV 1 0) WF (Or.inl ⟨pq_long h3, by omega⟩) (Or.inl rfl) hbF)
    have HQ := hid hq
    have HWF := hid hWF
    clear HNo HYes hq hWF hbF HSet hR0 hB1 h3 hs1 hsy hrg
    go_enter Tryz.func27, Tryz.ntmps27
    go_upto_region 2 with fail
    rw [← hW1]
    clear hW1
    go_cut [3] from 4 (fun x wx => x = .iface 78 (.agg #[.int .i64 1, .int .i64 0]) ∧ Hid (wx = WF))
    case first =>
      go_wp2_with fail
      go_meet
      exact ⟨rfl, hid HWF.out.symm⟩
    case rest =>
      obtain ⟨rfl, hw⟩ := hcut
      have hw := hw.out
      subst wc
      obtain ⟨q0, q1, q2, q3⟩ := HQ.out
      clear r0 r1 r2 r3 f0 f1 f2 f3
      rename_i KK1 hKK1
      refine hKK1 _ _ ?_
      refine wp_ret ?_
      refine bodyPost_ret (v := .tuple #[.agg #[.string ⟨#[]⟩, .slice none 0 0, .int .i64 0, .slice none 0 0], .iface 78 (.agg #[.int .i64 1, .int .i64 0])]) (by simp [results, Tryz.results27, go_sem, q0, q1, q2, q3]) rfl ?_
      exact HE.out
  · have i3 : ¬ ((3000 : Int) < (s.size : Int)) := by omega
    have KT := hid (tokensOf_calls W1 s hs (hsy.below hB1))
    have HB1 := hid hB1
    have HR0 := hid hR0
    have hV := World.block_lt_of_cell? w _ (hrg 0 (by omega))
    go_enter Tryz.func27, Tryz.ntmps27
    go_upto_region 3 with fail
    rw [← hW1]
    clear hW1 hB1 hR0 hsy
    go_wp2_with fail
    refine KT.out.mono ?_
    rintro e w2 (⟨a, cap, hl, rfl, ho2, hb2⟩ | ⟨o, hl, rfl, hb2⟩)
    rotate_left
    · obtain ⟨WF, hWF, hq, hbF, -, r0, r1, r2, r3, f0, f1, f2, f3⟩ := HSet.out w2 (.string ⟨#[]⟩) (.slice none 0 0) (.int .i64 0) (.slice none 0 0) ((hb2.block w.heap.size (by omega)).trans HR0.out) (HB1.out.trans (hb2.mono (by omega)))
      have HE : Hid (E (.returned (.tuple #[.agg #[.string ⟨#[]⟩, .slice none 0 0, .int .i64 0, .slice none 0 0], .iface 109 (.agg #[.string ⟨#[116, 111, 107, 101, 110, 115]⟩, .iface 78 (.agg #[.int .i64 2, .int .i64 (o : Int)])])])) WF) := hid (HNo.out 2 (o : Int) (wthV ⟨#[116, 111, 107, 101, 110, 115]⟩ 2 (o : Int)) WF (Or.inl ⟨by rw [Int.toNat_natCast]; exact pq_lex h3 hl, by omega⟩) (Or.inr ⟨_, rfl⟩) hbF)
      have HQ := hid hq
      have HWF := hid hWF
      clear HNo HYes hq hWF hbF HSet HR0 HB1 h3 hs1 hrg KT hb2 hl
      go_upto_region 5 with fail
      go_cut [3] from 4 (fun x wx => x = .iface 109 (.agg #[.string ⟨#[116, 111, 107, 101, 110, 115]⟩, .iface 78 (.agg #[.int .i64 2, .int .i64 (o : Int)])]) ∧ Hid (wx = WF))
      case first =>
        go_wp2_with fail
        go_meet
        exact ⟨rfl, hid HWF.out.symm⟩
      case rest =>
        obtain ⟨rfl, hw⟩ := hcut
        have hw := hw.out
        subst wc
        obtain ⟨q0, q1, q2, q3⟩ := HQ.out
        clear r0 r1 r2 r3 f0 f1 f2 f3
        rename_i KK1 hKK1
        refine hKK1 _ _ ?_
        refine wp_ret ?_
        refine bodyPost_ret (v := .tuple #[.agg #[.string ⟨#[]⟩, .slice none 0 0, .int .i64 0, .slice none 0 0], .iface 109 (.agg #[.string ⟨#[116, 111, 107, 101, 110, 115]⟩, .iface 78 (.agg #[.int .i64 2, .int .i64 (o : Int)])])]) (by simp [results, Tryz.results27, go_sem, q0, q1, q2, q3]) rfl ?_
        exact HE.out
    · have hB2 : Below w.heap.size w w2 := HB1.out.trans (hb2.mono (by omega))
      have hR2 := (hb2.block w.heap.size (by omega)).trans HR0.out
      have hs2 : w.heap.size < w2.heap.size := by have := hb2.size; omega
      obtain ⟨hcap, tb, htb, hat⟩ := tok_at ho2 (by omega)
      obtain ⟨hok, hlen⟩ := lexA_ok s
      have KP := hid (parse_calls w2 tb cap a (lexA s).1 hcap hat htb (hrg.below hB2) hok (by omega))
      have HOk := hid hok
      have HB2 := hid hB2
      have HR2 := hid hR2
      have HL := hid hl
      have HBad : Hid (∀ pe WF, qryF (lexA s).1 = .error pe → Below w.heap.size w WF → E (.returned (.tuple #[.agg #[.string ⟨#[]⟩, .slice none 0 0, .int .i64 0, .slice none 0 0], .iface 109 (.agg #[.string ⟨#[103, 114, 97, 109, 109, 97, 114]⟩, .iface 78 (.agg #[.int .i64 3, .int .i64 (offZ (lexA s).1 pe)])])])) WF) := hid fun pe WF hq hb => by
        refine HNo.out 3 (offZ (lexA s).1 pe) (wthV ⟨#[103, 114, 97, 109, 109, 97, 114]⟩ 3 (offZ (lexA s).1 pe)) WF ?_ (Or.inr ⟨_, rfl⟩) hb
        have hp := pq_bad h3 hl hq
        unfold offZ
        by_cases hlt : pe < (lexA s).1.length
        · rw [if_pos hlt] at hp ⊢
          exact Or.inl ⟨by rw [Int.toNat_natCast]; exact hp, by omega⟩
        · rw [if_neg hlt] at hp ⊢
          exact Or.inr ⟨rfl, rfl, hp⟩
      have HOkq : Hid (∀ q, qryF (lexA s).1 = .ok q → pqA s = (some q, 0, 0)) := hid fun q hq => pq_ok h3 hl hq
      clear hat hcap hok hlen ho2 hb2 hl HR0 HB1 KT hB2 hR2 hrg h3 HL HOk htb
      generalize (lexA s).1 = ts at *
      generalize ts.length = n at *
      go_upto_region 6 with fail
      go_wp2_with fail
      refine KP.out.mono ?_
      rintro e w3 (⟨nm, x, hd, r, y, us, hq, rfl, hqr, hb3⟩ | ⟨pe, hq, rfl, hb3⟩)
      · obtain ⟨ax, cx, ex⟩ := own_shapeT2 hqr.own1
        obtain ⟨ay, cy, ey⟩ := own_shapeT2 hqr.own2
        obtain ⟨nx', hnx'⟩ : ∃ n, n = hd.length := ⟨_, rfl⟩
        obtain ⟨ny', hny'⟩ : ∃ n, n = us.length := ⟨_, rfl⟩
        rw [← hnx'] at ex
        rw [← hny'] at ey
        subst ex ey
        have HNX := hid hnx'
        have HNY := hid hny'
        clear hnx' hny'
        obtain ⟨W4, hW4⟩ : ∃ W, W = w3.alloc (.cells #[.string nm, .slice ax nx' cx, .int .i64 r, .slice ay ny' cy] 29) := ⟨_, rfl⟩
        have hb34 : Below w3.heap.size w3 W4 := by rw [hW4]; exact (Below.refl _ _).alloc (Nat.le_refl _) _
        have hbl : W4.heap[w3.heap.size]? = some (.cells #[.string nm, .slice ax nx' cx, .int .i64 r, .slice ay ny' cy] 29 (0, 0)) := by rw [hW4]; exact heap_alloc_new _ _
        have hb4 : Below w.heap.size w W4 := HB2.out.trans ((hb3.mono (Nat.le_of_lt hs2)).trans (hb34.mono (by have := hb3.size; omega)))
        have hR4 := (hb34.block w.heap.size (by have := hb3.size; omega)).trans ((hb3.block w.heap.size hs2).trans HR2.out)
        have hq4 : QyR w.heap.size W4 (.slice ax nx' cx) hd (.slice ay ny' cy) us := ⟨own_below (own_base hqr.own1 (Nat.le_of_lt hs2)) hb34, own_below (own_base hqr.own2 (Nat.le_of_lt hs2)) hb34, fun u hu => own_below (own_base (hqr.tms u hu) (Nat.le_of_lt hs2)) hb34, hqr.ap⟩
        obtain ⟨WF, hWF, hqq, hbF, hqF, r0, r1, r2, r3, f0, f1, f2, f3⟩ := HSet.out W4 (.string nm) (.slice ax nx' cx) (.int .i64 r) (.slice ay ny' cy) hR4 hb4
        have HE := hid (HYes.out nm _ hd r _ us WF (HOkq.out _ hq) (hqF hq4) hbF)
        have HQ := hid hqq
        have HWF := hid hWF
        have l0 : W4.cell? ⟨w3.heap.size, 0, none⟩ = some (.string nm) := cell_of_row _ _ _ _ _ _ hbl
        have l1 : W4.cell? ⟨w3.heap.size, 1, none⟩ = some (.slice ax nx' cx) := cell_of_row _ _ _ _ _ _ hbl
        have l2 : W4.cell? ⟨w3.heap.size, 2, none⟩ = some (.int .i64 r) := cell_of_row _ _ _ _ _ _ hbl
        have l3 : W4.cell? ⟨w3.heap.size, 3, none⟩ = some (.slice ay ny' cy) := cell_of_row _ _ _ _ _ _ hbl
        go_upto_region 7 with fail
        rw [← hW4]
        clear hW4 hb34 hbl hb4 hR4 hq4 hWF hqq hbF hqF HNo HYes HSet HR2 HB2 HBad HOkq hq hqr hb3 KP HNX HNY
        generalize w3.heap.size = L at *
        go_upto_region 9 with fail
        go_cut [3] from 4 (fun x wx => x = .nilIface ∧ Hid (wx = WF))
        case first =>
          go_wp2_with fail
          go_meet
          exact ⟨rfl, hid HWF.out.symm⟩
        case rest =>
          obtain ⟨rfl, hw⟩ := hcut
          have hw := hw.out
          subst wc
          obtain ⟨q0, q1, q2, q3⟩ := HQ.out
          clear r0 r1 r2 r3 f0 f1 f2 f3
          rename_i KK1 hKK1
          refine hKK1 _ _ ?_
          refine wp_ret ?_
          refine bodyPost_ret (v := .tuple #[.agg #[.string nm, .slice ax nx' cx, .int .i64 r, .slice ay ny' cy], .nilIface]) (by simp [results, Tryz.results27, go_sem, q0, q1, q2, q3]) rfl ?_
          exact HE.out
      · obtain ⟨W4, hW4⟩ : ∃ W, W = w3.alloc (.cells #[.string ⟨#[]⟩, .slice none 0 0, .int .i64 0, .slice none 0 0] 29) := ⟨_, rfl⟩
        have hb34 : Below w3.heap.size w3 W4 := by rw [hW4]; exact (Below.refl _ _).alloc (Nat.le_refl _) _
        have hb4 : Below w.heap.size w W4 := HB2.out.trans ((hb3.mono (Nat.le_of_lt hs2)).trans (hb34.mono (by have := hb3.size; omega)))
        have hR4 := (hb34.block w.heap.size (by have := hb3.size; omega)).trans ((hb3.block w.heap.size hs2).trans HR2.out)
        obtain ⟨WF, hWF, hqq, hbF, -, r0, r1, r2, r3, f0, f1, f2, f3⟩ := HSet.out W4 (.string ⟨#[]⟩) (.slice none 0 0) (.int .i64 0) (.slice none 0 0) hR4 hb4
        have HE : Hid (E (.returned (.tuple #[.agg #[.string ⟨#[]⟩, .slice none 0 0, .int .i64 0, .slice none 0 0], .iface 109 (.agg #[.string ⟨#[103, 114, 97, 109, 109, 97, 114]⟩, .iface 78 (.agg #[.int .i64 3, .int .i64 (offZ ts pe)])])])) WF) := hid (HBad.out pe WF hq hbF)
        have HQ := hid hqq
        have HWF := hid hWF
        clear HBad
        generalize offZ ts pe = zz at *
        go_upto_region 7 with fail
        rw [← hW4]
        clear hW4 hb34 hb4 hR4 hWF hqq hbF HNo HYes HSet HR2 HB2 HOkq hq hb3 KP
        generalize w3.heap.size = L at *
        go_upto_region 8 with fail
        go_cut [3] from 4 (fun x wx => x = .iface 109 (.agg #[.string ⟨#[103, 114, 97, 109, 109, 97, 114]⟩, .iface 78 (.agg #[.int .i64 3, .int .i64 zz])]) ∧ Hid (wx = WF))
        case first =>
          go_wp2_with fail
          go_meet
          exact ⟨rfl, hid HWF.out.symm⟩
        case rest =>
          obtain ⟨rfl, hw⟩ := hcut
          have hw := hw.out
          subst wc
          obtain ⟨q0, q1, q2, q3⟩ := HQ.out
          clear r0 r1 r2 r3 f0 f1 f2 f3
          rename_i KK1 hKK1
          refine hKK1 _ _ ?_
          refine wp_ret ?_
          refine bodyPost_ret (v := .tuple #[.agg #[.string ⟨#[]⟩, .slice none 0 0, .int .i64 0, .slice none 0 0], .iface 109 (.agg #[.string ⟨#[103, 114, 97, 109, 109, 97, 114]⟩, .iface 78 (.agg #[.int .i64 3, .int .i64 zz])])]) (by simp [results, Tryz.results27, go_sem, q0, q1, q2, q3]) rfl ?_
          exact HE.out

end Go.Proofs.YtcdfoephhjacdaaGreatDoor
