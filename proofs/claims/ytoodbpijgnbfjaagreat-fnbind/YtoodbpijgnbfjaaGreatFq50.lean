import Derived.Test.YtoodbpijgnbfjaaGreatFq03
import Derived.Test.YtoodbpijgnbfjaaGreatFq05
import Derived.Test.YtoodbpijgnbfjaaGreatFq26
import Derived.Test.YtoodbpijgnbfjaaGreatFq29
import Derived.Test.YtoodbpijgnbfjaaGreatFq30
import Derived.Test.YtoodbpijgnbfjaaGreatFq32
import Derived.Test.YtoodbpijgnbfjaaGreatFq33
import Derived.Test.YtoodbpijgnbfjaaGreatFq35
import Derived.Test.YtoodbpijgnbfjaaGreatFq36
import Derived.Test.YtoodbpijgnbfjaaGreatFq49
namespace Go.Proofs.YtoodbpijgnbfjaaGreat
open Go.RowKit

theorem ringQ_nm (L : Nat → Int) (n : Nat) (nm : ByteArray) (m : Nat) (s : CSt) : ∀ i, ∀ a ∈ (ringQ L n nm m i s).1, a.1 = nm
  | 0, a, h => by simp [ringQ] at h
  | i + 1, a, h => by
    rw [ringQ] at h
    dsimp only at h
    rw [List.mem_append, List.mem_singleton] at h
    rcases h with h | rfl
    · exact ringQ_nm L n nm m s i a h
    · rfl
theorem atomsQ_nm {m : Nat} {ds : List RelV} (hd : DatG m ds) (hm : 0 < m) (L : Nat → Int) (n k cnt : Nat) (used : List ByteArray) (s : CSt) : ∀ i, ∀ a ∈ (atomsQ L n ds k cnt i used s).1, ∃ z : Nat, z < ds.length ∧ a.1 = (ds.getD z noRel).name
  | 0, a, h => by simp [atomsQ] at h
  | i + 1, a, h => by
    rw [atomsQ] at h
    dsimp only at h
    rw [List.mem_append, List.mem_singleton] at h
    rcases h with h | rfl
    · exact atomsQ_nm hd hm L n k cnt used s i a h
    · exact ⟨_, pk_lt L n ds.length _ (by have := hd.len; omega), rfl⟩
theorem atsQ_nm {m : Nat} {ds : List RelV} (hd : DatG m ds) (hm : 0 < m) (L : Nat → Int) (n : Nat) (s : CSt) : ∀ a ∈ (atsQ L n ds s).1, ∃ z : Nat, z < ds.length ∧ a.1 = (ds.getD z noRel).name := fun a h => by
  have hl := hd.len
  rw [atsQ] at h
  dsimp only at h
  rw [List.mem_append] at h
  rcases h with h | h
  · unfold preQ at h
    dsimp only at h
    split at h
    · exact ⟨0, by omega, ringQ_nm _ _ _ _ _ _ a h⟩
    · cases h
  · exact atomsQ_nm hd hm L n _ _ _ _ _ a h
theorem own_capF {W : World} {B n s : Nat} {e : TypeId} {a : Option Addr} {c : Nat} {xs : List Value} (h : W.ownsRow B e s (.slice a n c) n xs) : n ≤ c := by
  rcases h.2 with ⟨e1, hz⟩ | ⟨g, cap, cur, e1, -, -, hcap, -⟩
  · omega
  · simp only [Value.slice.injEq] at e1; omega

theorem drwDC : DrwDC := fun w g a L n cap s0 h hn hk => drawData_calls w g a L n cap s0 h hn hk
theorem drwQC : DrwQC := fun w g a L n cap s0 m ds v h hn hk hd hm hm4 hi hik => by
  refine (drawQuery_calls w g a L n cap s0 m ds v h hn hk hd hm hm4 hi hik).mono ?_
  rintro e w' ⟨hv, y, us, B, rfl, hD, hu, hB, h1, h2, h3⟩
  obtain ⟨p1, p2, p3, p4⟩ := drawQ_parts L n ds s0
  generalize (drawQ L n ds s0).1 = Q at *
  obtain ⟨a1, c1, e1⟩ := own_shapeR h1
  obtain ⟨a2, c2, e2⟩ := own_shapeR h2
  subst e1 e2
  have hul : us.length = Q.atoms.length := by rw [← hu, List.length_map]
  refine ⟨a1, c1, a2, c2, by rw [p2, hul], by rw [← hul]; exact own_capF h2, hD.kc, fun w'' hk => ?_, ?_⟩
  · have mv : ∀ {e : TypeId} {s : Nat} {x : Value} {k : Nat} {xs : List Value}, w'.ownsRow B e s x k xs → w''.ownsRow B e s x k xs := fun hx => own_move hx fun g hg => hk g (Nat.le_trans hB (hx.lt g hg).1) (hx.lt g hg).2
    have := iq_own (nm := Q.name) (r := Q.ring) (mv h1) (mv h2) (fun u hu' => mv (h3 u hu'))
    rw [hu, hul] at this
    cases Q
    exact this
  · rw [p1]
    exact atsQ_nm hd hm L n s0
theorem drwCA : DrwCA := drawChecked_calls drwDC drwQC
theorem drwC : DrwC := fun w a n cap L hn hc => (drwCA w a n cap L hn hc).mono fun _ _ h => h.plain

end Go.Proofs.YtoodbpijgnbfjaaGreat

namespace Go.Proofs.YtoodbpijgnbfjaaGreat

def nmL (r : RelV) : List UInt8 := r.name.data.toList
structure GR (r : RelV) : Prop where
  nm : (nmL r).length ≤ 30
  nz : r.name.size ≤ 30
  a1 : 1 ≤ r.ar
  a3 : r.ar ≤ 3
  n : r.rows.length ≤ 2000
  wl : r.ws.length = r.rows.length
  row : ∀ i, i < r.rows.length → (r.rows.getD i []).length ≤ 3 ∧ 1 ≤ (r.rows.getD i []).length ∧ ∀ x ∈ r.rows.getD i [], 0 ≤ x ∧ x ≤ 1000000
  wt : ∀ i, i < r.rows.length → -1000000 ≤ r.ws.getD i 0 ∧ r.ws.getD i 0 ≤ 1000000

theorem gr_of {ds : List RelV} (h : dataB ds = true) : ds.length ≤ 50 ∧ ∀ j, j < ds.length → GR (ds.getD j noRel) := by
  unfold dataB at h
  simp only [Bool.and_eq_true, decide_eq_true_eq, List.all_eq_true] at h
  refine ⟨h.1, fun j hj => ?_⟩
  have h1 := h.2 j (List.mem_range.2 hj)
  unfold relAtB relB at h1
  generalize ds.getD j noRel = r at *
  simp only [Bool.and_eq_true, decide_eq_true_eq, List.all_eq_true] at h1
  obtain ⟨⟨⟨⟨⟨⟨⟨h2, h3⟩, h4⟩, h5⟩, h6⟩, h7⟩, h8⟩, -⟩ := h1
  unfold arityB at h3
  simp only [Bool.and_eq_true, decide_eq_true_eq] at h3
  have hz : r.name.size ≤ 30 := by
    unfold relName nameB at h2
    simp only [Bool.and_eq_true, decide_eq_true_eq] at h2
    omega
  have hrl : ∀ i, i < r.rows.length → ((r.rows.getD i []).length : Int) = r.ar := fun i hi => by
    unfold rowsB at h5
    rw [List.all_eq_true] at h5
    have h9 := h5 i (by simpa using hi)
    unfold rowAt at h9
    simp only [Bool.and_eq_true, decide_eq_true_eq] at h9
    omega
  refine ⟨by unfold nmL; rw [Array.length_toList]; exact hz, hz, h3.1, h3.2, h4, h7, fun i hi => ⟨by have := hrl i hi; omega, by have := hrl i hi; omega, fun x hx => ?_⟩, fun i hi => ?_⟩
  · have hm : r.rows.getD i [] ∈ r.rows := by rw [List.getD_eq_getElem?_getD, List.getElem?_eq_getElem hi]; exact List.getElem_mem _
    have := h6 _ hm x hx
    unfold valB at this
    simpa using this
  · have hm : r.ws.getD i 0 ∈ r.ws := by rw [List.getD_eq_getElem?_getD, List.getElem?_eq_getElem (by omega)]; exact List.getElem_mem _
    have := h8 _ hm
    unfold wtB at this
    simpa using this

end Go.Proofs.YtoodbpijgnbfjaaGreat

namespace Go.Proofs.YtoodbpijgnbfjaaGreat
open Go.RowKit

theorem okr_ofB {ds : List RelV} (h : dataB ds = true) : OkRels ds := by
  obtain ⟨h1, h2⟩ := gr_of h
  refine ⟨by omega, fun j => ?_⟩
  by_cases hj : j < ds.length
  · have g := h2 j hj
    refine ⟨by have := g.nz; omega, ⟨by have := g.n; omega, fun k => ?_⟩, by rw [g.wl]; have := g.n; omega⟩
    by_cases hk : k < (ds.getD j noRel).rows.length
    · have := (g.row k hk).1; omega
    · rw [List.getD_eq_getElem?_getD, List.getElem?_eq_none (by omega)]; exact Nat.zero_le _
  · rw [List.getD_eq_getElem?_getD, List.getElem?_eq_none (by omega)]
    refine ⟨Nat.zero_le _, ⟨Nat.zero_le _, fun k => ?_⟩, Nat.zero_le _⟩
    rw [List.getD_eq_getElem?_getD]; exact Nat.zero_le _
theorem two_newB (w1 : World) (x y0 y1 y2 y3 : Value) : Below w1.heap.size w1 ((w1.alloc (.cells #[x] 25)).alloc (.cells #[y0, y1, y2, y3] 29)) ∧ ((w1.alloc (.cells #[x] 25)).alloc (.cells #[y0, y1, y2, y3] 29)).cell? ⟨w1.heap.size, 0, none⟩ = some x ∧ ((w1.alloc (.cells #[x] 25)).alloc (.cells #[y0, y1, y2, y3] 29)).cell? ⟨w1.heap.size + 1, 0, none⟩ = some y0 ∧ ((w1.alloc (.cells #[x] 25)).alloc (.cells #[y0, y1, y2, y3] 29)).cell? ⟨w1.heap.size + 1, 1, none⟩ = some y1 ∧ ((w1.alloc (.cells #[x] 25)).alloc (.cells #[y0, y1, y2, y3] 29)).cell? ⟨w1.heap.size + 1, 2, none⟩ = some y2 ∧ ((w1.alloc (.cells #[x] 25)).alloc (.cells #[y0, y1, y2, y3] 29)).cell? ⟨w1.heap.size + 1, 3, none⟩ = some y3 := by
  refine ⟨((Below.refl _ _).alloc (Nat.le_refl _) _).alloc (by simp) _, ?_, ?_, ?_, ?_, ?_⟩
  · rw [World.cell?_alloc_past _ _ _ (by simp), World.cell?_alloc_at _ _ _ _ rfl]; rfl
  all_goals (rw [World.cell?_alloc_at _ _ _ _ (by simp)]; rfl)
theorem upcB {X Y : World} {b o : Nat} {v : Value} (hb : Below X.heap.size X Y) (hc : X.cell? ⟨b, o, none⟩ = some v) : Y.cell? ⟨b, o, none⟩ = some v := (hb.cell (p := ⟨b, o, none⟩) (World.block_lt_of_cell? X _ hc)).trans hc
theorem DrF.hok {ds : List RelV} {q : QV} (h : DrF ds q) : ∀ j, j < q.atoms.length → (q.atoms.getD j noAt).2.length ≤ 100000 ∧ ∀ k, k < ds.length → ((ds.getD k noRel).name.toList == (q.atoms.getD j noAt).1.toList) = true → (ds.getD k noRel).rows.length ≤ 100000 ∧ (ds.getD k noRel).ws.length = (ds.getD k noRel).rows.length ∧ ∀ i, i < (ds.getD k noRel).rows.length → ((ds.getD k noRel).rows.getD i []).length = (q.atoms.getD j noAt).2.length := fun j hj => by
  have h3 := h.tm3 _ (getD_memG (d := noAt) hj)
  refine ⟨by omega, fun k hk e => ?_⟩
  have hd := (checkP_zero h.zc).1
  have hix : RelIx ds (q.atoms.getD j noAt).1 (k : Int) := Or.inr ⟨k, rfl, hk, e, fun i hi => by
    cases e2 : ((ds.getD i noRel).name.toList == (q.atoms.getD j noAt).1.toList)
    · rfl
    · rw [beq_tx, decide_eq_true_eq] at e e2
      have := data_inj hd (by omega) hk (e2.trans e.symm)
      omega⟩
  obtain ⟨-, hB⟩ := btH_of h.zc h.ok hj hix
  exact ⟨by have := hB.n; omega, hB.wl, hB.len⟩
theorem brL_short {ds : List RelV} {ats : List AtomV} {V : List ByteArray} (h : V.length ≤ 5) : Short (brL ds ats V (7 ^ V.length)) := by
  refine ⟨Nat.le_trans (brL_le _ _ _ _) (Nat.le_trans (pow7 (by omega)) (by decide)), fun j => ?_⟩
  by_cases hj : j < (brL ds ats V (7 ^ V.length)).length
  · have := ((brL_mem _).1 (getD_memG (d := []) hj)).1
    omega
  · rw [List.getD_eq_getElem?_getD, List.getElem?_eq_none (by omega)]
    exact Nat.zero_le _

set_option maxHeartbeats 8000000 in
set_option maxRecDepth 1000000 in
theorem fnBind_walk (w : World) (a : Option Addr) (n cap : Nat) (L : Nat → Int) (hn : n ≤ 9223372036854775807) (hB : n ≤ 1048576 → Cod w a L n) :
    Calls Tryz.prog 3 #[.slice a n cap] w fun e w' => e = .returned (.bool true) ∧ Below w.heap.size w w' := by
  by_cases hbig : 1048576 < n
  · have q1 : (1048576 : Int) < (n : Int) := by omega
    clear hB
    go_enter Tryz.func3, Tryz.ntmps3
    go_wp2
    go_ret
    exact ⟨rfl, Below.refl _ _⟩
  · have q1 : ¬ (1048576 : Int) < (n : Int) := by omega
    have hcod := hB (by omega)
    have hD := drF L n
    have KD : Hid (∀ W, Below w.heap.size w W → Calls Tryz.prog 4 #[.slice a n cap] W (DrwE W (dsC L n) (qC L n))) := hid fun W hW => drwC W a n cap L (by omega) (hcod.below hW)
    generalize dsC L n = ds at *
    generalize qC L n = q at *
    have hdat := (checkP_zero hD.zc).1
    have hokr := okr_ofB hdat
    have h5 := hD.five
    have hvq := hD.vars
    obtain ⟨R, hR⟩ : ∃ R, R = brL ds q.atoms (VL q.atoms q.atoms.length) (7 ^ (VL q.atoms q.atoms.length).length) := ⟨_, rfl⟩
    have hS : Short R := by rw [hR]; exact brL_short h5
    have KB : Hid (∀ W a0 c0 vh va, IRelS W (.slice a0 ds.length c0) ds → IQ W vh va q → Calls Tryz.prog 5 #[.agg #[.slice a0 ds.length c0], .agg #[.string q.name, vh, .int .i64 q.ring, va]] W fun e w' => ∃ x0 x1 x2, e = .returned (.tuple #[x0, x1, x2]) ∧ ISS w' x0 R ∧ Below W.heap.size W w') := hid fun W a0 c0 vh va h1 h2 => by
      have := hBrute_calls W (.slice a0 ds.length c0) vh va ds q h1 h2 hD.ok (by have := (gr_of hdat).1; omega) (by rw [hvq]; omega) hD.hok
      rw [hvq, ← hR] at this
      exact this
    have KV : Hid (∀ W vh va, IQ W vh va q → Calls Tryz.prog 6 #[.agg #[.string q.name, vh, .int .i64 q.ring, va]] W fun e w' => ∃ b c, e = .returned (.slice b (VL q.atoms q.atoms.length).length c) ∧ Below W.heap.size W w') := hid fun W vh va h => (sVariables_calls W vh va q h hD.ok).mono fun e w' ⟨v, e1, e2, e3⟩ => by
      rw [hvq] at e2
      obtain ⟨b, c, rfl, -⟩ := e2
      exact ⟨b, c, e1, e3⟩
    have KI : Hid (∀ W a0 c0 gh ch va, IRelS W (.slice a0 ds.length c0) ds → IQ W (.slice (some ⟨gh, 0, none⟩) q.head.length ch) va q → q.head.length ≤ ch → Calls Tryz.prog 8 #[.agg #[.slice a0 ds.length c0], .agg #[.string q.name, .slice (some ⟨gh, 0, none⟩) q.head.length ch, .int .i64 q.ring, va]] W fun e w' => ∃ v tl, e = .returned v ∧ ITs w' v (tl.map tvB) ∧ BdF ds q tl ∧ Below W.heap.size W w') := hid fun W a0 c0 gh ch va h1 h2 h3 => (iBind_calls W _ _ va ds q h1 hokr h2 hD.ok (by rintro _ _ _ ⟨⟩; exact h3)).mono fun e w' ⟨v, e1, tl, e2, e3, e4, e5⟩ => ⟨v, tl, e1, e2.its, hD.bd e3 e4, e5⟩
    have KU : Hid (∀ W, Calls Tryz.prog 9 #[.int .i64 ((VL q.atoms q.atoms.length).length : Nat)] W fun e w' => ∃ v, e = .returned v ∧ IS w' v (upL (VL q.atoms q.atoms.length).length) ∧ Below W.heap.size W w') := hid fun W => (hUpTo_calls W _ (by omega)).mono fun e w' ⟨v, e1, e2, e3⟩ => ⟨v, e1, own_is e2, e3⟩
    have KJ : Hid (∀ W vt vo tl, ITs W vt (tl.map tvB) → IS W vo (upL (VL q.atoms q.atoms.length).length) → BdF ds q tl → Calls Tryz.prog 7 #[vt, vo] W fun e w' => ∃ (b : Option Addr) (c : Nat) (z : Int), e = .returned (.tuple #[.slice b R.length c, .int .i64 z]) ∧ 0 ≤ z ∧ ((VL q.atoms q.atoms.length).length = 0 ∨ (R.length : Int) ≤ z) ∧ ISS w' (.slice b R.length c) R ∧ Below W.heap.size W w') := hid fun W vt vo tl h1 h2 h3 => by
      have h7 := (checkP_zero hD.zc).2.2.1
      have hl := h3.len
      refine (join_calls W vt vo (tl.map tvB) (upL (VL q.atoms q.atoms.length).length) h1 h2 (by rw [List.length_map]; omega) (by rw [upL_len]; omega) (BdF.mem fun j hj => ?_)).mono ?_
      · have ht := tabJ_ok (h3.tabJ hj)
        exact ⟨by have := ht.vs; omega, ⟨by have := ht.n; omega, fun i => by
          by_cases hi : i < (tvB (tl.getD j noTb)).rows.length
          · have h9 := (h3.tbF hj).len _ (getD_memG (d := []) hi)
            have h8 := (h3.tbF hj).vs
            have := ht.vs
            rw [h8] at this
            omega
          · rw [List.getD_eq_getElem?_getD, List.getElem?_eq_none (by omega)]; exact Nat.zero_le _⟩, by
          have e := (h3.tab j hj).choose_spec.2.2.1
          have := ht.n
          show (tl.getD j noTb).ws.length ≤ _
          have : (tl.getD j noTb).rows.length ≤ 10000 := ht.n
          omega⟩
      · rintro e w' ⟨v, us, rfl, hq1, hb⟩
        obtain ⟨a1, a2, a3⟩ := h3.all
        rw [a1, ← hR] at hq1
        rw [← hR] at a3
        have hi : ISS w' v R := hq1.rs.iss (Below.refl _ _)
        obtain ⟨b, c, rfl, -⟩ := id hi
        exact ⟨b, c, _, rfl, a2, a3, hi, hb⟩
    have KH : Hid (∀ W b c b' c', ISS W (.slice b R.length c) R → ISS W (.slice b' R.length c') R → Calls Tryz.prog 10 #[.slice b R.length c, .slice b' R.length c'] W fun e w' => e = .returned (.bool true) ∧ Below W.heap.size W w') := hid fun W b c b' c' h1 h2 => (hRows_quiet W _ _ R h1 h2 hS).mono fun e w' ⟨e1, m, e2⟩ => ⟨e1, by rw [e2]; exact below_drewN (Below.refl _ _) _⟩
    generalize (VL q.atoms q.atoms.length).length = k at *
    clear hB hcod hD hdat hokr h5 hvq hS hR
    go_enter Tryz.func3, Tryz.ntmps3
    go_upto_region 4 with (first | (go_at_call 4; refine (KD.out w (Below.refl _ _)).mono ?_; rintro e w1 ⟨a0, c0, gh, ch, a1, c1, rfl, hb1, hI1, hQ1, hgh1, hch1⟩) | fail)
    obtain ⟨hb2, d2, x0, x1, x2, x3⟩ := two_newB w1 (.slice a0 ds.length c0) (.string q.name) (.slice (some ⟨gh, 0, none⟩) q.head.length ch) (.int .i64 q.ring) (.slice a1 q.atoms.length c1)
    have HBa := hid (bt hb1 hb2)
    have HIa := hid (hI1.below hb2)
    have HQa := hid (hQ1.below hb2)
    have HX := hid (And.intro x0 (And.intro x1 (And.intro x2 x3)))
    generalize (w1.alloc (.cells #[.slice a0 ds.length c0] 25)).alloc (.cells #[.string q.name, .slice (some ⟨gh, 0, none⟩) q.head.length ch, .int .i64 q.ring, .slice a1 q.atoms.length c1] 29) = W2 at *
    clear hb1 hI1 hQ1 hgh1 hch1 hb2
    generalize w1.heap.size = B1 at *
    go_upto_region 5 with (first | (go_at_call 5; refine (KB.out W2 _ _ _ _ HIa.out HQa.out).mono ?_; rintro e w3 ⟨r0, r1, r2, rfl, hr0, hb3⟩; have HR0 := hid hr0; obtain ⟨rb, rc, rfl, -⟩ := hr0) | fail)
    have HBb := hid (bt HBa.out hb3)
    have HQb := hid (HQa.out.below hb3)
    obtain ⟨x0', x1', x2', x3'⟩ := HX.out
    replace x0' := upcB hb3 x0'
    replace x1' := upcB hb3 x1'
    replace x2' := upcB hb3 x2'
    replace x3' := upcB hb3 x3'
    have HX3 := hid (And.intro x0' (And.intro x1' (And.intro x2' x3')))
    clear x0 x1 x2 x3 x0' x1' x2' x3' hb3 HX HBa HQa HIa d2
    go_upto_region 6 with (first | (go_at_call 4; refine (KD.out w3 HBb.out).mono ?_; rintro e w9 ⟨a9, c9, gh9, ch9, a10, c10, rfl, hb9, hI9, hQ9, hgh9, hch9⟩) | fail)
    obtain ⟨hb10, e2, z0, z1, z2, z3⟩ := two_newB w9 (.slice a9 ds.length c9) (.string q.name) (.slice (some ⟨gh9, 0, none⟩) q.head.length ch9) (.int .i64 q.ring) (.slice a10 q.atoms.length c10)
    have hbC := bt hb9 hb10
    have HBX := hid (bt HBb.out hbC)
    have HQx := hid (HQb.out.below hbC)
    have HRx := hid (HR0.out.below hbC)
    have HIy := hid (hI9.below hb10)
    have HQy := hid (hQ9.below hb10)
    obtain ⟨y0, y1, y2, y3⟩ := HX3.out
    replace y0 := upcB hbC y0
    replace y1 := upcB hbC y1
    replace y2 := upcB hbC y2
    replace y3 := upcB hbC y3
    generalize (w9.alloc (.cells #[.slice a9 ds.length c9] 25)).alloc (.cells #[.string q.name, .slice (some ⟨gh9, 0, none⟩) q.head.length ch9, .int .i64 q.ring, .slice a10 q.atoms.length c10] 29) = WX at *
    clear hb9 hb10 hbC hI9 hQ9 hgh9 HX3 HBb HQb HR0
    generalize w9.heap.size = B9 at *
    go_upto_region 7 with (first | (go_at_call 6; refine (KV.out WX _ _ HQx.out).mono ?_; rintro e wV ⟨vb, vc, rfl, hbV⟩) | fail)
    have HBV := hid (bt HBX.out hbV)
    have HIV := hid (HIy.out.below hbV)
    have HQV := hid (HQy.out.below hbV)
    have HRV := hid (HRx.out.below hbV)
    replace e2 := upcB hbV e2
    replace z0 := upcB hbV z0
    replace z1 := upcB hbV z1
    replace z2 := upcB hbV z2
    replace z3 := upcB hbV z3
    clear y0 y1 y2 y3 hbV HBX HIy HQy HRx HQx
    go_upto_region 8 with (first
      | (go_at_call 8; refine (KI.out wV _ _ _ _ _ HIV.out HQV.out hch9).mono ?_; rintro e wI ⟨vI, tl, rfl, hIt, hBd, hbI⟩; have HTI := hid hIt; have HBd := hid hBd; have HBI := hid hbI)
      | (go_at_call 9; refine (KU.out wI).mono ?_; rintro e wU ⟨vU, rfl, hUs, hbU⟩; have HUs := hid hUs; have HBU := hid hbU)
      | (go_at_call 7; refine (KJ.out wU _ _ _ (HTI.out.below HBU.out) HUs.out HBd.out).mono ?_; rintro e wJ ⟨jb, jc, z, rfl, hz0, hzk, hJs, hbJ⟩; have HJs := hid hJs; have HBJ := hid hbJ)
      | fail)
    have HRJ := hid (HRV.out.below (bt HBI.out (bt HBU.out HBJ.out)))
    have HBZ := hid (bt HBV.out (bt HBI.out (bt HBU.out HBJ.out)))
    clear HRV HBV HIV HQV e2 z0 z1 z2 z3
    by_cases hk : (k : Int) = 0
    · clear hzk
      go_wp2_with (first
        | (go_at_call 10; refine (KH.out wJ _ _ _ _ HJs.out HRJ.out).mono ?_; rintro e wZ ⟨rfl, hbZ⟩)
        | fail)
      go_ret
      exact ⟨rfl, bt HBZ.out hbZ⟩
    · have hzr : (R.length : Int) ≤ z := by omega
      clear hzk
      go_wp2_with (first
        | (go_at_call 10; refine (KH.out wJ _ _ _ _ HJs.out HRJ.out).mono ?_; rintro e wZ ⟨rfl, hbZ⟩)
        | fail)
      go_ret
      exact ⟨rfl, bt HBZ.out hbZ⟩

end Go.Proofs.YtoodbpijgnbfjaaGreat
