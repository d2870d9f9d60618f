import Derived.Deep.RegionHeldLaw
import Derived.Laws.AppendOwnNone
import Derived.Test.YtcdfoephhjacdaaGreatDoorR14
import Derived.Test.YtcdfoephhjacdaaGreatDoorR21
import Derived.Test.YtcdfoephhjacdaaGreatDoorR25
/-
  spec.l3DrawQuery is drawQ.
-/
namespace Go.Proofs.YtcdfoephhjacdaaGreatDoor
open Go.RowKit

theorem Tryz.infoAtF : (Tryz.prog.info? 55).map (fun i => (i.zero, i.size, i.bytes)) = some (some (.agg #[.string ⟨#[]⟩, .slice none 0 0]), 2, 40) := by kernel_rfl
theorem Tryz.infoStF : (Tryz.prog.info? 9).map (fun i => (i.zero, i.size, i.bytes)) = some (some (.string ⟨#[]⟩), 1, 16) := by kernel_rfl
theorem Tryz.infoTmF : (Tryz.prog.info? 89).map (fun i => (i.zero, i.size, i.bytes)) = some (some (.agg #[.string ⟨#[]⟩, .int .i64 0]), 2, 24) := by kernel_rfl
theorem QA.start {w W w1 W2 : World} {g : Nat} {v : Value} {rg : Int} (hW : W = (w.alloc (.cells #[v] 25)).alloc (.cells #[.string ⟨#[]⟩, .slice none 0 0, .int .i64 0, .slice none 0 0] 29)) (hk : Kc g W w1) (hg : g < w.heap.size)
    (hW2 : W2 = (w1.alloc (.cells #[.string ⟨#[113]⟩, .slice none 0 0, .int .i64 rg, .slice none 0 0] 29)).alloc (.cells vnC 9)) : QA w W2 w1.heap.size (w1.heap.size + 1) v rg (.slice none 0 0) (.slice none 0 0) [] := by
  have hs : W.heap.size = w.heap.size + 2 := by rw [hW]; simp
  have h1 := hk.size
  have hb : Below w1.heap.size w1 W2 := by rw [hW2]; exact ((Below.refl _ _).alloc (Nat.le_refl _) _).alloc (by simp) _
  have a1 : W.heap[w.heap.size]? = some (.cells #[v] 25 (0, 0)) := by rw [hW, Below.heap_alloc _ _ _ (by simp)]; exact heap_alloc_new _ _
  have a2 : W.heap[w.heap.size + 1]? = some (.cells #[.string ⟨#[]⟩, .slice none 0 0, .int .i64 0, .slice none 0 0] 29 (0, 0)) := by
    have := heap_alloc_new (w.alloc (.cells #[v] 25)) (.cells #[.string ⟨#[]⟩, .slice none 0 0, .int .i64 0, .slice none 0 0] 29)
    rw [World.size_alloc] at this
    rw [hW]; exact this
  refine ⟨?_, ?_, ?_, ?_, World.ownsRow_nil _ _ _ _, fun u hu => by simp at hu, by omega, by omega⟩
  · exact (hb.block _ (by omega)).trans (heap_kc a1 hk (by omega))
  · exact (hb.block _ (by omega)).trans (heap_kc a2 hk (by omega))
  · rw [hW2, Below.heap_alloc _ _ _ (by simp)]; exact heap_alloc_new _ _
  · have := heap_alloc_new (w1.alloc (.cells #[.string ⟨#[113]⟩, .slice none 0 0, .int .i64 rg, .slice none 0 0] 29)) (.cells vnC 9)
    rw [World.size_alloc] at this
    rw [hW2]; exact this

theorem Kc.alT {g : Nat} {a b : World} (h : Kc g a b) (o : Obj) : Kc g a (b.alloc o) := h.up ((Below.refl _ _).alloc h.size o)
theorem Kc.nwT {g c o : Nat} {a b : World} {v : Value} (h : Kc g a b) (hc : a.heap.size ≤ c) : Kc g a (b.setCell ⟨c, o, none⟩ v) := h.up ((Below.refl _ _).setCell hc v)
theorem Kc.dwT {g : Nat} {a b : World} (h : Kc g a b) : Kc g a b.drew := h.drewN 1
theorem kc4T {g c : Nat} {a b : World} {v0 v1 v2 v3 : Value} (h : Kc g a b) (hc : a.heap.size ≤ c) : Kc g a ((((b.setCell ⟨c, 0, none⟩ v0).setCell ⟨c, 1, none⟩ v1).setCell ⟨c, 2, none⟩ v2).setCell ⟨c, 3, none⟩ v3) := (((h.nwT hc).nwT hc).nwT hc).nwT hc
theorem bel4T {N c : Nat} {b : World} {v0 v1 v2 v3 : Value} (hc : N ≤ c) : Below N b ((((b.setCell ⟨c, 0, none⟩ v0).setCell ⟨c, 1, none⟩ v1).setCell ⟨c, 2, none⟩ v2).setCell ⟨c, 3, none⟩ v3) := ((((Below.refl _ _).setCell (by exact hc) _).setCell (by exact hc) _).setCell (by exact hc) _).setCell (by exact hc) _
theorem set4T {W : World} {p : Nat} {x0 x1 x2 x3 v0 v1 v2 v3 : Value} {t : TypeId} (h : W.heap[p]? = some (.cells #[x0, x1, x2, x3] t (0, 0))) : ((((W.setCell ⟨p, 0, none⟩ v0).setCell ⟨p, 1, none⟩ v1).setCell ⟨p, 2, none⟩ v2).setCell ⟨p, 3, none⟩ v3).heap[p]? = some (.cells #[v0, v1, v2, v3] t (0, 0)) := by
  have h1 : (W.setCell ⟨p, 0, none⟩ v0).heap[p]? = some (.cells #[v0, x1, x2, x3] t (0, 0)) := by rw [heap_setCell_same _ _ _ _ _ _ h]; rfl
  have h2 : ((W.setCell ⟨p, 0, none⟩ v0).setCell ⟨p, 1, none⟩ v1).heap[p]? = some (.cells #[v0, v1, x2, x3] t (0, 0)) := by rw [heap_setCell_same _ _ _ _ _ _ h1]; rfl
  have h3 : (((W.setCell ⟨p, 0, none⟩ v0).setCell ⟨p, 1, none⟩ v1).setCell ⟨p, 2, none⟩ v2).heap[p]? = some (.cells #[v0, v1, v2, x3] t (0, 0)) := by rw [heap_setCell_same _ _ _ _ _ _ h2]; rfl
  rw [heap_setCell_same _ _ _ _ _ _ h3]; rfl
theorem box_cellsT {W : World} {p : Nat} {x0 x1 x2 x3 : Value} {t : TypeId} (h : W.heap[p]? = some (.cells #[x0, x1, x2, x3] t (0, 0))) : W.cell? ⟨p, 0, none⟩ = some x0 ∧ W.cell? ⟨p, 1, none⟩ = some x1 ∧ W.cell? ⟨p, 2, none⟩ = some x2 ∧ W.cell? ⟨p, 3, none⟩ = some x3 ∧ W.frozen? ⟨p, 0, none⟩ = false ∧ W.frozen? ⟨p, 1, none⟩ = false ∧ W.frozen? ⟨p, 2, none⟩ = false ∧ W.frozen? ⟨p, 3, none⟩ = false := by
  have hf : ∀ o, W.frozen? ⟨p, o, none⟩ = false := fun o => by unfold World.frozen?; rw [show W.heap[p]? = _ from h]; simp
  refine ⟨?_, ?_, ?_, ?_, hf 0, hf 1, hf 2, hf 3⟩ <;> (rw [cell_of_row _ _ _ _ _ _ h]; rfl)
theorem lit7T {W w6 : World} {g : Nat} {x0 x1 x2 x3 : Value} {t2 : TypeId} (hK : Kc g (W.alloc (.cells #[x0, x1, x2, x3] t2)).drew w6) (hg : g < W.heap.size) : w6.heap[W.heap.size]? = some (.cells #[x0, x1, x2, x3] t2 (0, 0)) := heap_kc (show (W.alloc (.cells #[x0, x1, x2, x3] t2)).drew.heap[W.heap.size]? = some (.cells #[x0, x1, x2, x3] t2 (0, 0)) from heap_alloc_new _ _) hK (by omega)

/-- what stands whatever is written into g does not lie in g -/
theorem ne_of_kc {w : World} {g b : Nat} {f : Nat → Nat} (hg : g < w.heap.size) (h : ∀ w', Kc g w w' → ∃ v, w'.cell? ⟨b, f 0, none⟩ = some v) : b ≠ g := fun e => by
  subst e
  obtain ⟨v, hv⟩ := h { w with heap := w.heap.setIfInBounds b (.cells #[] 0 (0, 0)) } ⟨rfl, rfl, rfl, by simp, fun x _ hx => by
    show (w.heap.setIfInBounds b _)[x]? = _
    rw [Array.getElem?_setIfInBounds_ne (Ne.symm hx)]⟩
  have hh : ({ w with heap := w.heap.setIfInBounds b (.cells #[] 0 (0, 0)) } : World).heap[b]? = some (.cells #[] 0 (0, 0)) := by
    show (w.heap.setIfInBounds b _)[b]? = _
    rw [Array.getElem?_setIfInBounds_self_of_lt hg]
  rw [cell_of_row _ _ _ _ _ _ hh] at hv
  simp at hv

theorem own_setN' {W : World} {B n s p : Nat} {e : TypeId} {v u : Value} {xs : List Value} {o : Nat} (h : W.ownsRow B e s v n xs) (hp : ∀ c, v.ownBlock = some c → c ≠ p) : (W.setCell ⟨p, o, none⟩ u).ownsRow B e s v n xs :=
  own_move h fun c hc => Below.heap_setCell _ _ _ _ (hp c hc)

theorem Kt.trans {g pn : Nat} {a b c : World} (h : Kt g pn a b) (k : Kt g pn b c) : Kt g pn a c :=
  ⟨Nat.le_trans h.size k.size, fun x hx hg hs => (k.block x (Nat.lt_of_lt_of_le hx h.size) hg (fun hp cur f => by rw [h.block x hx hg hs]; exact hs hp cur f)).trans (h.block x hx hg hs)⟩

theorem QA.head {w W : World} {p pn : Nat} {v : Value} {rg : Int} {x y : Value} {us : List UV} (h : QA w W p pn v rg x y us) (x' : Value) : QA w (W.setCell ⟨p, 1, none⟩ x') p pn v rg x' y us := by
  have hp := h.hp
  have hpn := h.hpn
  refine ⟨?_, ?_, ?_, ?_, own_setN h.own (by omega), fun u hu => own_setN (h.tms u hu) (by omega), hp, hpn⟩
  · rw [Below.heap_setCell _ _ _ _ (show w.heap.size ≠ p by omega)]; exact h.b3
  · rw [Below.heap_setCell _ _ _ _ (show w.heap.size + 1 ≠ p by omega)]; exact h.b4
  · rw [heap_setCell_same _ _ _ _ _ _ h.b5]; rfl
  · rw [Below.heap_setCell _ _ _ _ (show pn ≠ p by omega)]; exact h.nm
theorem iq_own {B : Nat} {W : World} {x y : Value} {hd : List ByteArray} {us : List UV} {nm : ByteArray} {r : Int} (h1 : W.ownsRow B 9 1 x hd.length (hd.map Value.string)) (h2 : W.ownsRow B 55 2 y us.length (us.flatMap atc)) (ht : ∀ u ∈ us, W.ownsRow B 89 2 u.2.1 u.2.2.length (u.2.2.flatMap tmc)) : IQ W x y ⟨nm, hd, r, us.map uAt⟩ := by
  refine ⟨own_st h1, ?_⟩
  show IAt W y (us.map uAt)
  rcases own_any h2 with ⟨rfl, hz⟩ | ⟨g, cap, rfl, -⟩
  · exact ⟨none, 0, by rw [List.length_map, hz], Or.inl (by rw [List.length_map, hz])⟩
  · refine ⟨_, cap, by rw [List.length_map], Or.inr ⟨g, 0, rfl, fun j hj => ?_⟩⟩
    rw [List.length_map] at hj
    rw [getU_at hj, Nat.zero_add]
    refine ⟨(us.getD j noU).2.1, ?_, ?_, own_terms (ht _ (getU hj))⟩
    · have := h2.cellAt (j * 2 + 0) (by omega)
      rw [flatU us j 0 hj (by omega)] at this
      exact this
    · have := h2.cellAt (j * 2 + 1) (by omega)
      rw [flatU us j 1 hj (by omega)] at this
      exact this

theorem own_newsT {W : World} {B n g c : Nat} {xs : List Value} (h : W.ownsRow B 9 1 (.slice (some ⟨g, 0, none⟩) n c) n xs) : ∀ j u, xs[j]? = some u → W.cell? ((⟨g, 0, none⟩ : Addr).add j) = some u := by
  intro j u hj
  have hjl : j < xs.length := (List.getElem?_eq_some_iff.1 hj).1
  have hl := h.1
  have hc := h.cellAt j (by omega)
  rw [show (⟨g, 0, none⟩ : Addr).add j = ⟨g, j, none⟩ by unfold Addr.add; by_cases h0 : j = 0 <;> simp [h0], hc]
  exact hj
/-- how l3DrawQuery ends -/
def DQE (w : World) (g : Nat) (a : Option Addr) (L : Nat → Int) (n cap : Nat) (ds : List RelV) (s0 : CSt) (e : Ending) (w' : World) : Prop := ∃ (hv y : Value) (us : List UV) (B : Nat), e = .returned (.agg #[.string ⟨#[113]⟩, hv, .int .i64 (drawQ L n ds s0).1.ring, y]) ∧ Dr w w' g a L n cap (drawQ L n ds s0).2 ∧ us.map uAt = (drawQ L n ds s0).1.atoms ∧ w.heap.size ≤ B ∧ w'.ownsRow B 9 1 hv (drawQ L n ds s0).1.head.length ((drawQ L n ds s0).1.head.map Value.string) ∧ w'.ownsRow B 55 2 y us.length (us.flatMap atc) ∧ ∀ u ∈ us, w'.ownsRow B 89 2 u.2.1 u.2.2.length (u.2.2.flatMap tmc)

set_option maxHeartbeats 20000000 in
set_option maxRecDepth 1000000 in
theorem drawQuery_calls (w : World) (g : Nat) (a : Option Addr) (L : Nat → Int) (n cap : Nat) (s0 : CSt) (m : Nat) (ds : List RelV) (v : Value) (h : RdF w g a L n cap s0) (hn : n ≤ 1048576) (hk : s0.1 ≤ 1000000) (hd : DatG m ds) (hm : 0 < m) (hm4 : m ≤ 4) (hi0 : IRelS w v ds) (hik : ∀ w', Kc g w w' → IRelS w' v ds) :
    Calls Tryz.prog 15 #[.pointer (some ⟨g, 0, none⟩), .agg #[v]] w (DQE w g a L n cap ds s0) := by
  have hgl := h.lt
  obtain ⟨iA, hA0, hA1, hA2, hA3⟩ := info_parts Tryz.infoAtF
  obtain ⟨iS, hS0, hS1, hS2, hS3⟩ := info_parts Tryz.infoStF
  obtain ⟨iT, hT0, hT1, hT2, hT3⟩ := info_parts Tryz.infoTmF
  have hlen := hd.len
  obtain ⟨aD, cD, eD, hcD⟩ := hi0
  rcases hcD with h0 | ⟨bD, oD, rfl, -⟩
  · omega
  subst eD
  obtain ⟨nd, hnd⟩ : ∃ nd, nd = ds.length := ⟨_, rfl⟩
  rw [← hnd] at hik ⊢
  have HND := hid hnd
  have hnd4 : nd ≤ 4 := by omega
  have hndp : 0 < nd := by omega
  clear hnd hlen
  have hne : bD ≠ g := ne_of_kc (f := fun _ => oD + 0 * 4) hgl fun w' hk' => by
    obtain ⟨aR, cR, eR, hR⟩ := hik w' hk'
    simp only [Value.slice.injEq] at eR
    obtain ⟨rfl, -, -⟩ := eR
    rcases hR with h0 | ⟨b', o', e', hR⟩
    · have := HND.out; omega
    · cases e'
      obtain ⟨vr', vw', x0, -⟩ := hR 0 (by have := HND.out; omega)
      exact ⟨_, x0⟩
  have HIK := hid hik
  clear hik
  obtain ⟨W0, hW0⟩ : ∃ W0, W0 = (w.alloc (.cells #[.slice (some ⟨bD, oD, none⟩) nd cD] 25)).alloc (.cells #[.string ⟨#[]⟩, .slice none 0 0, .int .i64 0, .slice none 0 0] 29) := ⟨_, rfl⟩
  have hB0 : Below w.heap.size w W0 := by rw [hW0]; exact ((Below.refl _ _).alloc (Nat.le_refl _) _).alloc (by simp) _
  have HW0 := hid hW0
  have HD0 := hid ((Dr.start h).bel hB0)
  clear h hB0
  have at1 := pkF_at L n 4 s0
  have at2 := pkF_at L n 4 (pkF L n 4 s0).2
  have at3 := pkF_at L n 4 (pkF L n 4 (pkF L n 4 s0).2).2
  have at4 := pkF_at L n 4 (sQ L n s0)
  have lt2 := pk_lt L n 4 (pkF L n 4 s0).2 (by omega)
  have lt3 := pk_lt L n 4 (pkF L n 4 (pkF L n 4 s0).2).2 (by omega)
  have at3' : (sQ L n s0).1 ≤ (pkF L n 4 (pkF L n 4 s0).2).2.1 + 1 := at3
  have HDR : Hid (drawQ L n ds s0 = (⟨⟨#[113]⟩, (hdQ L n (VL (atsQ L n ds s0).1 (atsQ L n ds s0).1.length) (VL (atsQ L n ds s0).1 (atsQ L n ds s0).1.length).length (atsQ L n ds s0).2).1, ((pkF L n 4 s0).1 : Int), (atsQ L n ds s0).1⟩, (hdQ L n (VL (atsQ L n ds s0).1 (atsQ L n ds s0).1.length) (VL (atsQ L n ds s0).1 (atsQ L n ds s0).1.length).length (atsQ L n ds s0).2).2)) := hid rfl
  have HAT : Hid (atsQ L n ds s0 = ((preQ L n ds (cQ L n s0) (sQ L n s0)).1 ++ (atomsQ L n ds (kQ L n s0) (preQ L n ds (cQ L n s0) (sQ L n s0)).2.1 (preQ L n ds (cQ L n s0) (sQ L n s0)).2.1 [] (preQ L n ds (cQ L n s0) (sQ L n s0)).2.2).1, (atomsQ L n ds (kQ L n s0) (preQ L n ds (cQ L n s0) (sQ L n s0)).2.1 (preQ L n ds (cQ L n s0) (sQ L n s0)).2.1 [] (preQ L n ds (cQ L n s0) (sQ L n s0)).2.2).2.2)) := hid rfl
  go_enter Tryz.func15, Tryz.ntmps15
  go_upto_region 1 with fail
  rw [← hW0]
  clear hW0
  go_upto_region 2 with (first | (go_at_call 35; refine (HD0.out.pick hn (by omega) (m := 4) (by omega)).mono ?_; rintro e w1 ⟨rfl, hD1, hK1⟩) | fail)
  obtain ⟨W2, hW2⟩ : ∃ W2, W2 = (w1.alloc (.cells #[.string ⟨#[113]⟩, .slice none 0 0, .int .i64 ((pkF L n 4 s0).1 : Nat), .slice none 0 0] 29)).alloc (.cells vnC 9) := ⟨_, rfl⟩
  have HQ2 := hid (QA.start HW0.out hK1 hgl hW2)
  have HD2 : Hid (Dr w W2 g a L n cap (pkF L n 4 s0).2) := hid (hD1.bel (by rw [hW2]; exact ((Below.refl _ _).alloc hD1.kc.size _).alloc (by have := hD1.kc.size; simp; omega) _))
  clear hD1 hK1 HD0 HW0
  generalize hrg : (((pkF L n 4 s0).1 : Nat) : Int) = rg at *
  go_upto_region 3 with fail
  rw [show (#[.string ⟨#[120]⟩, .string ⟨#[121]⟩, .string ⟨#[122]⟩, .string ⟨#[119]⟩, .string ⟨#[117, 95, 49]⟩, .string ⟨#[84]⟩] : Array Value) = vnC from rfl, ← hW2]
  clear hW2
  have hpp := HQ2.out.hp
  have hppn := HQ2.out.hpn
  generalize w1.heap.size = p at *
  generalize p + 1 = pn at *
  go_upto_region 4 with (first | (go_at_call 35; refine (HD2.out.pick hn (by omega) (m := 4) (by omega)).mono ?_; rintro e w3 ⟨rfl, hD3, hK3⟩) | fail)
  have HD3 := hid hD3
  have HQ3 := hid (HQ2.out.kc hK3 hgl)
  clear hD3 hK3 HD2 HQ2
  go_upto_region 5 with (first | (go_at_call 35; refine (HD3.out.pick hn (by omega) (m := 4) (by omega)).mono ?_; rintro e w4 ⟨rfl, hD4, hK4⟩) | fail)
  rw [show (2 : Int) + ((pkF L n 4 (pkF L n 4 s0).2).1 : Nat) = ((kQ L n s0 : Nat) : Int) by unfold kQ; omega, show (1 : Int) + ((pkF L n 4 (pkF L n 4 (pkF L n 4 s0).2).2).1 : Nat) = ((cQ L n s0 : Nat) : Int) by unfold cQ; omega]
  have HD4 : Hid (Dr w w4 g a L n cap (sQ L n s0)) := hid hD4
  have HQ4 := hid (HQ3.out.kc hK4 hgl)
  have hpnl := HQ4.out.lt
  clear hD4 hK4 HD3 HQ3
  obtain ⟨W5, hW5⟩ : ∃ W5, W5 = w4.alloc (.cells #[] 9) := ⟨_, rfl⟩
  have HU5 : Hid (W5.ownsRow (pn + 1) 9 1 (.slice (some ⟨w4.heap.size, 0, none⟩) 0 0) 0 []) := hid (by rw [hW5]; exact World.ownsRow_made w4 #[] 0 (by omega) (by decide) rfl)
  have HD5 : Hid (Dr w W5 g a L n cap (sQ L n s0)) := hid (by rw [hW5]; exact HD4.out.bel ((Below.refl _ _).alloc HD4.out.kc.size _))
  have HQ5 : Hid (QA w W5 p pn (.slice (some ⟨bD, oD, none⟩) nd cD) rg (.slice none 0 0) (.slice none 0 0) []) := hid (by rw [hW5]; exact HQ4.out.bel ((Below.refl _ _).alloc (Nat.le_refl _) _) hgl)
  clear HD4 HQ4
  go_upto_region 6 with fail
  rw [← hW5]
  clear hW5 hpnl
  generalize w4.heap.size = gu at *
  go_upto_if 34 with (first | (go_at_call 35; refine (HD5.out.pick hn (by omega) (m := 4) (by omega)).mono ?_; rintro e w6 ⟨rfl, hD6, hK6⟩) | fail)
  have HD6 := hid hD6
  have HQ6 := hid (HQ5.out.kc hK6 hgl)
  have HU6 := hid (usd_kt HU5.out hK6 (by omega))
  clear hD6 hK6 HD5 HQ5 HU5
  have hsq : (sQ L n s0).1 ≤ 1000003 := by omega
  clear at1 at2 at3 at3' hk lt2 lt3
  have hkq : kQ L n s0 ≤ 5 ∧ 2 ≤ kQ L n s0 := by have := pk_lt L n 4 (pkF L n 4 s0).2 (by omega); unfold kQ; omega
  have hcq : cQ L n s0 ≤ 4 := by have := pk_lt L n 4 (pkF L n 4 (pkF L n 4 s0).2).2 (by omega); unfold cQ; omega
  generalize kQ L n s0 = k at *
  generalize hcQ' : cQ L n s0 = c0 at *
  generalize sQ L n s0 = s1 at *
  go_cut [8] (fun v8 wx => ∃ y us, v8 = .int .i64 ((preQ L n ds c0 s1).2.1 : Nat) ∧ us.map uAt = (preQ L n ds c0 s1).1 ∧ Hid (Dr w wx g a L n cap (preQ L n ds c0 s1).2.2 ∧ QA w wx p pn (.slice (some ⟨bD, oD, none⟩) nd cD) rg (.slice none 0 0) y us ∧ wx.ownsRow (pn + 1) 9 1 (.slice (some ⟨gu, 0, none⟩) 0 0) 0 []))
  case first =>
    by_cases hz : (pkF L n 4 s1).1 = 0
    · have e1 : preQ L n ds c0 s1 = ((ringQ L n (ds.getD 0 noRel).name (3 + (pkF L n 2 (pkF L n 4 s1).2).1) (3 + (pkF L n 2 (pkF L n 4 s1).2).1) (pkF L n 2 (pkF L n 4 s1).2).2).1, (pkF L n 2 (ringQ L n (ds.getD 0 noRel).name (3 + (pkF L n 2 (pkF L n 4 s1).2).1) (3 + (pkF L n 2 (pkF L n 4 s1).2).1) (pkF L n 2 (pkF L n 4 s1).2).2).2).1, (pkF L n 2 (ringQ L n (ds.getD 0 noRel).name (3 + (pkF L n 2 (pkF L n 4 s1).2).1) (3 + (pkF L n 2 (pkF L n 4 s1).2).1) (pkF L n 2 (pkF L n 4 s1).2).2).2).2) := if_pos hz
      have at5 := pkF_at L n 2 (pkF L n 4 s1).2
      have lt5 := pk_lt L n 2 (pkF L n 4 s1).2 (by omega)
      have HE1 := hid e1
      rw [hz]
      clear e1 hz
      go_upto_region 8 with (first | (go_at_call 35; refine (HD6.out.pick hn (by omega) (m := 2) (by omega)).mono ?_; rintro e w7 ⟨rfl, hD7, hK7⟩) | fail)
      rw [show (3 : Int) + ((pkF L n 2 (pkF L n 4 s1).2).1 : Nat) = ((3 + (pkF L n 2 (pkF L n 4 s1).2).1 : Nat) : Int) by omega]
      have HD7 := hid hD7
      have HQ7 := hid (HQ6.out.kc hK7 hgl)
      have HU7 := hid (usd_kt HU6.out hK7 (by omega))
      obtain ⟨M, hM⟩ : ∃ M, M = 3 + (pkF L n 2 (pkF L n 4 s1).2).1 := ⟨_, rfl⟩
      rw [← hM] at HE1 ⊢
      have hM4 : M ≤ 4 ∧ 3 ≤ M := by omega
      have hs2 : (pkF L n 2 (pkF L n 4 s1).2).2.1 ≤ 1000005 := by omega
      clear hM hD7 hK7 HD6 HQ6 HU6 at5 lt5
      generalize (pkF L n 2 (pkF L n 4 s1).2).2 = s2 at *
      go_upto_block 0 with fail
      go_wp2_with fail
      go_loopg [11] M (fun gk v11 wr => ∃ (i : Nat) (y : Value) (us : List UV), v11 = .int .i64 i ∧ i ≤ M ∧ gk = M - i ∧ Hid (us.map uAt = (ringQ L n (ds.getD 0 noRel).name M i s2).1 ∧ Dr w wr g a L n cap (ringQ L n (ds.getD 0 noRel).name M i s2).2 ∧ QA w wr p pn (.slice (some ⟨bD, oD, none⟩) nd cD) rg (.slice none 0 0) y us ∧ wr.ownsRow (pn + 1) 9 1 (.slice (some ⟨gu, 0, none⟩) 0 0) 0 []))
      case atStart => exact ⟨0, _, [], rfl, Nat.zero_le _, rfl, hid ⟨rfl, HD7.out, HQ7.out, HU7.out⟩⟩
      case round =>
        clear HD7 HQ7 HU7
        obtain ⟨i, y, us, rfl, hi, hgk, HH⟩ := hrel
        generalize wr = wo at *
        have hrat := ringQ_at L n (ds.getD 0 noRel).name M s2 i
        by_cases hlt : i < M
        · have i1 : (i : Int) < (M : Int) := by omega
          have i6 : (i : Int) < 6 := by omega
          obtain ⟨hUs, hDz, hQz, hUz⟩ := HH.out
          obtain ⟨r, hr⟩ : ∃ r, r = (i + 1) % M := ⟨_, rfl⟩
          have hr6 : r < 6 := by have := Nat.mod_lt (i + 1) (show 0 < M by omega); omega
          have hre : ((i : Int) + 1) % (M : Int) = (r : Int) := by rw [hr]; simp
          have hrt : ((i : Int) + 1).tmod (M : Int) = (r : Int) := by rw [Int.tmod_eq_emod_of_nonneg (by omega)]; exact hre
          have r6 : (r : Int) < 6 := by omega
          have M0 : ¬ (M : Int) = 0 := by omega
          have n1 := hQz.name (i := i) (by omega)
          have n2 := hQz.name (i := r) (by omega)
          have hszo := hQz.lt
          have hul : us.length = i := by
            have h1 := (ringQ_ok L n (ds.getD 0 noRel).name (by have := hd.rel 0 (by omega); exact (rel_parts this).1) M (by omega) (by omega) s2 i (by omega)).1
            have h2 := congrArg List.length hUs
            rw [List.length_map] at h2
            omega
          have HUs := hid hUs
          have HDz := hid hDz
          have HQz := hid hQz
          have HUz := hid hUz
          have HR : Hid (r = (i + 1) % M) := hid hr
          have HNX : Hid (ringQ L n (ds.getD 0 noRel).name M (i + 1) s2 = ((ringQ L n (ds.getD 0 noRel).name M i s2).1 ++ [((ds.getD 0 noRel).name, if (pkF L n 3 (ringQ L n (ds.getD 0 noRel).name M i s2).2).1 = 2 then [(vnQ.getD r noB, 0), (vnQ.getD i noB, 0)] else [(vnQ.getD i noB, 0), (vnQ.getD r noB, 0)])], (pkF L n 3 (ringQ L n (ds.getD 0 noRel).name M i s2).2).2)) := hid (by rw [hr]; rfl)
          clear HH hUs hDz hQz hUz hr
          generalize ringQ L n (ds.getD 0 noRel).name M i s2 = RQ at *
          obtain ⟨rats, s3⟩ := RQ
          have hs3 : s3.1 ≤ 1000010 := by have : s3.1 ≤ s2.1 + i := hrat; omega
          clear hrat
          generalize vnQ.getD i noB = na at *
          generalize vnQ.getD r noB = nb at *
          obtain ⟨W2, hW2⟩ : ∃ W2, W2 = (wo.alloc (.cells #[.string na, .int .i64 0] 89)).alloc (.cells #[.string nb, .int .i64 0] 89) := ⟨_, rfl⟩
          have HB2 : Hid (Below wo.heap.size wo W2) := hid (by rw [hW2]; exact ((Below.refl _ _).alloc (Nat.le_refl _) _).alloc (by simp) _)
          have hb1 : W2.heap[wo.heap.size]? = some (.cells #[.string na, .int .i64 0] 89 (0, 0)) := by rw [hW2, Below.heap_alloc _ _ _ (by simp)]; exact heap_alloc_new _ _
          have hb2 : W2.heap[wo.heap.size + 1]? = some (.cells #[.string nb, .int .i64 0] 89 (0, 0)) := by
            have := heap_alloc_new (wo.alloc (.cells #[.string na, .int .i64 0] 89)) (.cells #[.string nb, .int .i64 0] 89)
            rw [World.size_alloc] at this
            rw [hW2]; exact this
          have Hb1 := hid hb1
          have Hb2 := hid hb2
          clear hb1 hb2
          go_upto_region 13 with fail
          rw [← hW2]
          clear hW2
          have hgo : g < wo.heap.size := by omega
          have KP : Hid (Calls Tryz.prog 35 #[.pointer (some ⟨g, 0, none⟩), .int .i64 ((3 : Nat) : Int)] W2 fun e w' => e = .returned (.int .i64 ((pkF L n 3 s3).1 : Nat)) ∧ Dr w w' g a L n cap (pkF L n 3 s3).2 ∧ Kc g W2 w') := hid ((HDz.out.bel (HB2.out.mono HDz.out.kc.size)).pick hn (by show s3.1 ≤ _; omega) (m := 3) (by omega))
          go_upto_if 58 with (first | (go_at_call 35; refine KP.out.mono ?_; rintro e w3 ⟨rfl, hD3, hK3⟩) | fail)
          have HK3 := hid ((Kc.ofBelow HB2.out).trans hK3)
          have HD3 := hid hD3
          have hb1 := heap_kc Hb1.out hK3 (by omega)
          have hb2 := heap_kc Hb2.out hK3 (by omega)
          have n3 := HK3.out.cell (by omega) n1
          have Hb3 := hid (And.intro hb1 hb2)
          obtain ⟨c0', c1'⟩ : w3.cell? ⟨wo.heap.size, 0, none⟩ = some (.string na) ∧ w3.cell? ⟨wo.heap.size, 1, none⟩ = some (.int .i64 0) := ⟨by rw [cell_of_row _ _ _ _ _ _ hb1]; rfl, by rw [cell_of_row _ _ _ _ _ _ hb1]; rfl⟩
          obtain ⟨d0', d1'⟩ : w3.cell? ⟨wo.heap.size + 1, 0, none⟩ = some (.string nb) ∧ w3.cell? ⟨wo.heap.size + 1, 1, none⟩ = some (.int .i64 0) := ⟨by rw [cell_of_row _ _ _ _ _ _ hb2]; rfl, by rw [cell_of_row _ _ _ _ _ _ hb2]; rfl⟩
          have f0 : ∀ o, w3.frozen? ⟨wo.heap.size, o, none⟩ = false := fun o => by unfold World.frozen?; rw [show w3.heap[wo.heap.size]? = _ from hb1]; simp
          clear hD3 hK3 HB2 Hb1 Hb2 hb1 hb2 n1 n2 KP hre hrt
          go_cut [] from 38 to 78 (fun wx => ∃ ta tb, Hid ((if (pkF L n 3 s3).1 = 2 then [(nb, (0 : Int)), (na, 0)] else [(na, 0), (nb, 0)]) = [(ta, 0), (tb, 0)] ∧ Kc g wo wx ∧ Dr w wx g a L n cap (pkF L n 3 s3).2 ∧ wx.heap[wo.heap.size]? = some (.cells #[.string ta, .int .i64 0] 89 (0, 0)) ∧ wx.heap[wo.heap.size + 1]? = some (.cells #[.string tb, .int .i64 0] 89 (0, 0))))
          case first =>
            by_cases hz : (pkF L n 3 s3).1 = 2
            · have e2 : (if (pkF L n 3 s3).1 = 2 then [(nb, (0 : Int)), (na, 0)] else [(na, 0), (nb, 0)]) = [(nb, 0), (na, 0)] := if_pos hz
              have HE2 := hid e2
              clear e2
              rw [hz]
              have f00 := f0 0
              have f01 := f0 1
              obtain ⟨W4, hW4⟩ : ∃ W4, W4 = (w3.setCell ⟨wo.heap.size, 0, none⟩ (.string nb)).setCell ⟨wo.heap.size, 1, none⟩ (.int .i64 0) := ⟨_, rfl⟩
              have h41 : W4.heap[wo.heap.size]? = some (.cells #[.string nb, .int .i64 0] 89 (0, 0)) := by
                have h1 : (w3.setCell ⟨wo.heap.size, 0, none⟩ (.string nb)).heap[wo.heap.size]? = some (.cells #[.string nb, .int .i64 0] 89 (0, 0)) := by rw [heap_setCell_same _ _ _ _ _ _ Hb3.out.1]; rfl
                rw [hW4, heap_setCell_same _ _ _ _ _ _ h1]; rfl
              have h42 : W4.heap[wo.heap.size + 1]? = some (.cells #[.string nb, .int .i64 0] 89 (0, 0)) := by rw [hW4, Below.heap_setCell _ _ _ _ (show wo.heap.size + 1 ≠ wo.heap.size by omega), Below.heap_setCell _ _ _ _ (show wo.heap.size + 1 ≠ wo.heap.size by omega)]; exact Hb3.out.2
              have hB4 : Below wo.heap.size w3 W4 := by rw [hW4]; exact ((Below.refl _ _).setCell (show wo.heap.size ≤ wo.heap.size from Nat.le_refl _) _).setCell (show wo.heap.size ≤ wo.heap.size from Nat.le_refl _) _
              have n4 : W4.cell? ⟨pn, i, none⟩ = some (.string na) := (World.cell?_of_block (w := w3) (a := ⟨pn, i, none⟩) (hB4.block pn hszo)).trans n3
              have e0 : W4.cell? ⟨wo.heap.size + 1, 0, none⟩ = some (.string nb) := by rw [cell_of_row _ _ _ _ _ _ h42]; rfl
              have e1 : W4.cell? ⟨wo.heap.size + 1, 1, none⟩ = some (.int .i64 0) := by rw [cell_of_row _ _ _ _ _ _ h42]; rfl
              have e2 : ∀ o, W4.frozen? ⟨wo.heap.size + 1, o, none⟩ = false := fun o => by unfold World.frozen?; rw [show W4.heap[wo.heap.size + 1]? = _ from h42]; simp
              have e20 := e2 0
              have e21 := e2 1
              have HF : Hid (Kc g wo ((W4.setCell ⟨wo.heap.size + 1, 0, none⟩ (.string na)).setCell ⟨wo.heap.size + 1, 1, none⟩ (.int .i64 0)) ∧ Dr w ((W4.setCell ⟨wo.heap.size + 1, 0, none⟩ (.string na)).setCell ⟨wo.heap.size + 1, 1, none⟩ (.int .i64 0)) g a L n cap (pkF L n 3 s3).2 ∧ ((W4.setCell ⟨wo.heap.size + 1, 0, none⟩ (.string na)).setCell ⟨wo.heap.size + 1, 1, none⟩ (.int .i64 0)).heap[wo.heap.size]? = some (.cells #[.string nb, .int .i64 0] 89 (0, 0)) ∧ ((W4.setCell ⟨wo.heap.size + 1, 0, none⟩ (.string na)).setCell ⟨wo.heap.size + 1, 1, none⟩ (.int .i64 0)).heap[wo.heap.size + 1]? = some (.cells #[.string na, .int .i64 0] 89 (0, 0))) := hid (by
                have hb5 : Below wo.heap.size w3 ((W4.setCell ⟨wo.heap.size + 1, 0, none⟩ (.string na)).setCell ⟨wo.heap.size + 1, 1, none⟩ (.int .i64 0)) := (hB4.setCell (show wo.heap.size ≤ wo.heap.size + 1 by omega) _).setCell (show wo.heap.size ≤ wo.heap.size + 1 by omega) _
                refine ⟨HK3.out.up hb5, HD3.out.bel (hb5.mono (by omega)), ?_, ?_⟩
                · rw [Below.heap_setCell _ _ _ _ (show wo.heap.size ≠ wo.heap.size + 1 by omega), Below.heap_setCell _ _ _ _ (show wo.heap.size ≠ wo.heap.size + 1 by omega)]; exact h41
                · have h1 : (W4.setCell ⟨wo.heap.size + 1, 0, none⟩ (.string na)).heap[wo.heap.size + 1]? = some (.cells #[.string na, .int .i64 0] 89 (0, 0)) := by rw [heap_setCell_same _ _ _ _ _ _ h42]; rfl
                  rw [heap_setCell_same _ _ _ _ _ _ h1]; rfl)
              clear h41 h42 hB4 e2 f0
              go_upto_region 15 with fail
              rw [← hW4]
              clear hW4
              go_wp2_with fail
              go_meet
              exact ⟨nb, na, hid ⟨HE2.out, HF.out⟩⟩
            · have e2 : (if (pkF L n 3 s3).1 = 2 then [(nb, (0 : Int)), (na, 0)] else [(na, 0), (nb, 0)]) = [(na, 0), (nb, 0)] := if_neg hz
              have HE2 := hid e2
              clear e2
              have j1 : ((((pkF L n 3 s3).1 : Nat) : Int) == 2) = false := by simp; omega
              have j2 : ¬ (((pkF L n 3 s3).1 : Nat) : Int) = 2 := by omega
              go_wp2_with fail
              go_meet
              exact ⟨na, nb, hid ⟨HE2.out, HK3.out, HD3.out, Hb3.out.1, Hb3.out.2⟩⟩
          case rest =>
          obtain ⟨ta, tb, hcut⟩ := hcut
          obtain ⟨hIf, hKc, hDc, hh1, hh2⟩ := hcut.out
          have HQc := hid (HQz.out.kc hKc hgl)
          have HUc := hid (usd_kt HUz.out hKc (by omega))
          have HKc := hid hKc
          have HDc := hid hDc
          have HHc := hid (And.intro hh1 hh2)
          rw [hIf] at HNX
          clear hcut hIf hKc hDc HK3 HD3 Hb3 n3 c0' c1' d0' d1' f0
          obtain ⟨nm0, hnm0⟩ : ∃ nm0, nm0 = (ds.getD 0 noRel).name := ⟨_, rfl⟩
          rw [← hnm0] at HNX
          have HNM0 := hid hnm0
          have hRel : ∀ W, Kc g w W → W.cell? ⟨bD, oD, none⟩ = some (.string nm0) := fun W hW => by
            obtain ⟨aR, cR, eR, hR⟩ := HIK.out W hW
            simp only [Value.slice.injEq] at eR
            obtain ⟨rfl, -, -⟩ := eR
            rcases hR with h0 | ⟨b', o', e', hR⟩
            · have := HND.out; omega
            · cases e'
              obtain ⟨vr', vw', x0, -⟩ := hR 0 (by have := HND.out; omega)
              rw [hnm0]
              simpa using x0
          have hbD : bD < w.heap.size := World.block_lt_of_cell? w _ (hRel w (Kc.refl _ _))
          have hcR := hRel wc HDc.out.kc
          clear hRel hnm0
          obtain ⟨ay, cy, ey⟩ := own_shapeR HQc.out.own
          subst ey
          obtain ⟨ny, hny⟩ : ∃ ny, ny = us.length := ⟨_, rfl⟩
          have hny8 : ny ≤ 8 := by omega
          rw [← hny] at HQc
          have hszc : wo.heap.size + 1 < wc.heap.size := heap_ltF hh2
          have HOy := hid HQc.out.own
          rw [← hny] at HOy
          have hyb : ∀ c, (Value.slice ay ny cy).ownBlock = some c → pn + 1 ≤ c ∧ c < wo.heap.size := fun c hc => by
            have h1 := (HQz.out.own.lt c (by rw [← hny] ; exact hc))
            exact h1
          have HSK : Hid (∀ W : World, (∀ b, b < wc.heap.size → b ≠ p → some b ≠ (Value.slice ay ny cy).ownBlock → W.heap[b]? = wc.heap[b]?) → W.cell? ⟨w.heap.size, 0, none⟩ = some (.slice (some ⟨bD, oD, none⟩) nd cD) ∧ W.cell? ⟨bD, oD, none⟩ = some (.string nm0) ∧ W.cell? ⟨wo.heap.size, 0, none⟩ = some (.string ta) ∧ W.cell? ⟨wo.heap.size, 1, none⟩ = some (.int .i64 0) ∧ W.cell? ⟨wo.heap.size + 1, 0, none⟩ = some (.string tb) ∧ W.cell? ⟨wo.heap.size + 1, 1, none⟩ = some (.int .i64 0)) := hid fun W hW => by
            have c3 := HQc.out.c3
            have d0 : wc.cell? ⟨wo.heap.size, 0, none⟩ = some (.string ta) := by rw [cell_of_row _ _ _ _ _ _ hh1]; rfl
            have d1 : wc.cell? ⟨wo.heap.size, 1, none⟩ = some (.int .i64 0) := by rw [cell_of_row _ _ _ _ _ _ hh1]; rfl
            have d2 : wc.cell? ⟨wo.heap.size + 1, 0, none⟩ = some (.string tb) := by rw [cell_of_row _ _ _ _ _ _ hh2]; rfl
            have d3 : wc.cell? ⟨wo.heap.size + 1, 1, none⟩ = some (.int .i64 0) := by rw [cell_of_row _ _ _ _ _ _ hh2]; rfl
            have up : ∀ {b o : Nat} {u : Value}, b ≠ p → (pn + 1 ≤ b → wo.heap.size ≤ b) → wc.cell? ⟨b, o, none⟩ = some u → W.cell? ⟨b, o, none⟩ = some u := fun {b o u} h1 h2 hc => (World.cell?_of_block (w := wc) (a := ⟨b, o, none⟩) (hW b (World.block_lt_of_cell? wc _ hc) h1 (fun e => by have := hyb b e.symm; omega))).trans hc
            exact ⟨up (by omega) (by omega) c3, up (by omega) (by omega) hcR, up (by omega) (by omega) d0, up (by omega) (by omega) d1, up (by omega) (by omega) d2, up (by omega) (by omega) d3⟩
          have hB1 : Below wc.heap.size wc (wc.drew.alloc (.cells #[.string ta, .int .i64 0, .string tb, .int .i64 0] 89)) := (Below.refl _ _).drew.alloc (Nat.le_refl _) _
          have hB2 : Below wc.heap.size wc ((wc.drew.alloc (.cells #[.string ta, .int .i64 0, .string tb, .int .i64 0] 89)).alloc (.cells #[.string nm0, .slice (some ⟨wc.heap.size, 0, none⟩) 2 2] 55)) := hB1.alloc hB1.size _
          have HS0 : Hid (wc.drew.cell? ⟨w.heap.size, 0, none⟩ = some (.slice (some ⟨bD, oD, none⟩) nd cD) ∧ wc.drew.cell? ⟨bD, oD, none⟩ = some (.string nm0) ∧ wc.drew.cell? ⟨wo.heap.size, 0, none⟩ = some (.string ta) ∧ wc.drew.cell? ⟨wo.heap.size, 1, none⟩ = some (.int .i64 0) ∧ wc.drew.cell? ⟨wo.heap.size + 1, 0, none⟩ = some (.string tb) ∧ wc.drew.cell? ⟨wo.heap.size + 1, 1, none⟩ = some (.int .i64 0)) := hid (HSK.out wc.drew fun b _ _ _ => rfl)
          have HS1 : Hid ((wc.drew.alloc (.cells #[.string ta, .int .i64 0, .string tb, .int .i64 0] 89)).cell? ⟨w.heap.size, 0, none⟩ = some (.slice (some ⟨bD, oD, none⟩) nd cD) ∧ (wc.drew.alloc (.cells #[.string ta, .int .i64 0, .string tb, .int .i64 0] 89)).cell? ⟨bD, oD, none⟩ = some (.string nm0) ∧ (wc.drew.alloc (.cells #[.string ta, .int .i64 0, .string tb, .int .i64 0] 89)).cell? ⟨wo.heap.size, 0, none⟩ = some (.string ta) ∧ (wc.drew.alloc (.cells #[.string ta, .int .i64 0, .string tb, .int .i64 0] 89)).cell? ⟨wo.heap.size, 1, none⟩ = some (.int .i64 0) ∧ (wc.drew.alloc (.cells #[.string ta, .int .i64 0, .string tb, .int .i64 0] 89)).cell? ⟨wo.heap.size + 1, 0, none⟩ = some (.string tb) ∧ (wc.drew.alloc (.cells #[.string ta, .int .i64 0, .string tb, .int .i64 0] 89)).cell? ⟨wo.heap.size + 1, 1, none⟩ = some (.int .i64 0)) := hid (HSK.out _ fun b hb _ _ => hB1.block b hb)
          have HS2 : Hid (((wc.drew.alloc (.cells #[.string ta, .int .i64 0, .string tb, .int .i64 0] 89)).alloc (.cells #[.string nm0, .slice (some ⟨wc.heap.size, 0, none⟩) 2 2] 55)).cell? ⟨w.heap.size, 0, none⟩ = some (.slice (some ⟨bD, oD, none⟩) nd cD) ∧ ((wc.drew.alloc (.cells #[.string ta, .int .i64 0, .string tb, .int .i64 0] 89)).alloc (.cells #[.string nm0, .slice (some ⟨wc.heap.size, 0, none⟩) 2 2] 55)).cell? ⟨bD, oD, none⟩ = some (.string nm0) ∧ ((wc.drew.alloc (.cells #[.string ta, .int .i64 0, .string tb, .int .i64 0] 89)).alloc (.cells #[.string nm0, .slice (some ⟨wc.heap.size, 0, none⟩) 2 2] 55)).cell? ⟨wo.heap.size, 0, none⟩ = some (.string ta) ∧ ((wc.drew.alloc (.cells #[.string ta, .int .i64 0, .string tb, .int .i64 0] 89)).alloc (.cells #[.string nm0, .slice (some ⟨wc.heap.size, 0, none⟩) 2 2] 55)).cell? ⟨wo.heap.size, 1, none⟩ = some (.int .i64 0) ∧ ((wc.drew.alloc (.cells #[.string ta, .int .i64 0, .string tb, .int .i64 0] 89)).alloc (.cells #[.string nm0, .slice (some ⟨wc.heap.size, 0, none⟩) 2 2] 55)).cell? ⟨wo.heap.size + 1, 0, none⟩ = some (.string tb) ∧ ((wc.drew.alloc (.cells #[.string ta, .int .i64 0, .string tb, .int .i64 0] 89)).alloc (.cells #[.string nm0, .slice (some ⟨wc.heap.size, 0, none⟩) 2 2] 55)).cell? ⟨wo.heap.size + 1, 1, none⟩ = some (.int .i64 0)) := hid (HSK.out _ fun b hb _ _ => hB2.block b hb)
          have HOA : Hid (((wc.drew.alloc (.cells #[.string ta, .int .i64 0, .string tb, .int .i64 0] 89)).alloc (.cells #[.string nm0, .slice (some ⟨wc.heap.size, 0, none⟩) 2 2] 55)).ownsRow (pn + 1) 55 2 (Value.slice ay ny cy) ny (us.flatMap atc)) := hid (own_below HOy.out hB2)
          have hbA : ((wc.drew.alloc (.cells #[.string ta, .int .i64 0, .string tb, .int .i64 0] 89)).alloc (.cells #[.string nm0, .slice (some ⟨wc.heap.size, 0, none⟩) 2 2] 55)).heap[wc.heap.size + 1]? = some (.cells #[.string nm0, .slice (some ⟨wc.heap.size, 0, none⟩) 2 2] 55 (0, 0)) := by
            have := heap_alloc_new (wc.drew.alloc (.cells #[.string ta, .int .i64 0, .string tb, .int .i64 0] 89)) (.cells #[.string nm0, .slice (some ⟨wc.heap.size, 0, none⟩) 2 2] 55)
            rw [World.size_alloc] at this
            exact this
          have HNW : Hid (∀ j u, [Value.string nm0, .slice (some ⟨wc.heap.size, 0, none⟩) 2 2][j]? = some u → ((wc.drew.alloc (.cells #[.string ta, .int .i64 0, .string tb, .int .i64 0] 89)).alloc (.cells #[.string nm0, .slice (some ⟨wc.heap.size, 0, none⟩) 2 2] 55)).cell? ((⟨wc.heap.size + 1, 0, none⟩ : Addr).add j) = some u) := hid (World.news_of_block hbA)
          have HON : Hid (∀ u ∈ [Value.string nm0, .slice (some ⟨wc.heap.size, 0, none⟩) 2 2], u.oneCell' = true) := hid (fun u hu => by simp at hu; rcases hu with rfl | rfl <;> rfl)
          have HSZ : Hid (pn + 1 ≤ ((wc.drew.alloc (.cells #[.string ta, .int .i64 0, .string tb, .int .i64 0] 89)).alloc (.cells #[.string nm0, .slice (some ⟨wc.heap.size, 0, none⟩) 2 2] 55)).heap.size) := hid (by have := hB2.size; omega)
          have HSA : Hid (∀ w3, ((wc.drew.alloc (.cells #[.string ta, .int .i64 0, .string tb, .int .i64 0] 89)).alloc (.cells #[.string nm0, .slice (some ⟨wc.heap.size, 0, none⟩) 2 2] 55)).grownBy w3 (Value.slice ay ny cy).ownBlock → (w3.cell? ⟨w.heap.size, 0, none⟩ = some (.slice (some ⟨bD, oD, none⟩) nd cD) ∧ w3.cell? ⟨bD, oD, none⟩ = some (.string nm0) ∧ w3.cell? ⟨wo.heap.size, 0, none⟩ = some (.string ta) ∧ w3.cell? ⟨wo.heap.size, 1, none⟩ = some (.int .i64 0) ∧ w3.cell? ⟨wo.heap.size + 1, 0, none⟩ = some (.string tb) ∧ w3.cell? ⟨wo.heap.size + 1, 1, none⟩ = some (.int .i64 0)) ∧ True) := hid fun w3 hg => ⟨HSK.out w3 fun b hb _ hne => (hg.block b (Nat.lt_of_lt_of_le hb hB2.size) hne).trans (hB2.block b hb), trivial⟩
          have HTL : Hid ((wc.drew.alloc (.cells #[.string ta, .int .i64 0, .string tb, .int .i64 0] 89)).ownsRow (pn + 1) 89 2 (.slice (some ⟨wc.heap.size, 0, none⟩) 2 2) 2 [.string ta, .int .i64 0, .string tb, .int .i64 0]) := hid (World.ownsRow_lit wc.drew #[.string ta, .int .i64 0, .string tb, .int .i64 0] 2 (by show pn + 1 ≤ wc.heap.size; omega) (by decide) rfl)
          have HSA2 : Hid (∀ g3 cp3 w3, World.ownsRow w3 (pn + 1) 55 2 (.slice (some ⟨g3, 0, none⟩) (ny + 1) cp3) (ny + 1) (us.flatMap atc ++ [Value.string nm0, .slice (some ⟨wc.heap.size, 0, none⟩) 2 2]) → ((wc.drew.alloc (.cells #[.string ta, .int .i64 0, .string tb, .int .i64 0] 89)).alloc (.cells #[.string nm0, .slice (some ⟨wc.heap.size, 0, none⟩) 2 2] 55)).grownBy w3 (Value.slice ay ny cy).ownBlock → (w3.frozen? ⟨p, 3, none⟩ = false ∧ w3.cell? ⟨p, 3, none⟩ = some (Value.slice ay ny cy) ∧ True) ∧ Hid (((w3.setCell ⟨p, 3, none⟩ (.slice (some ⟨g3, 0, none⟩) (ny + 1) cp3)).cell? ⟨w.heap.size, 0, none⟩ = some (.slice (some ⟨bD, oD, none⟩) nd cD) ∧ (w3.setCell ⟨p, 3, none⟩ (.slice (some ⟨g3, 0, none⟩) (ny + 1) cp3)).cell? ⟨bD, oD, none⟩ = some (.string nm0) ∧ (w3.setCell ⟨p, 3, none⟩ (.slice (some ⟨g3, 0, none⟩) (ny + 1) cp3)).cell? ⟨wo.heap.size, 0, none⟩ = some (.string ta) ∧ (w3.setCell ⟨p, 3, none⟩ (.slice (some ⟨g3, 0, none⟩) (ny + 1) cp3)).cell? ⟨wo.heap.size, 1, none⟩ = some (.int .i64 0) ∧ (w3.setCell ⟨p, 3, none⟩ (.slice (some ⟨g3, 0, none⟩) (ny + 1) cp3)).cell? ⟨wo.heap.size + 1, 0, none⟩ = some (.string tb) ∧ (w3.setCell ⟨p, 3, none⟩ (.slice (some ⟨g3, 0, none⟩) (ny + 1) cp3)).cell? ⟨wo.heap.size + 1, 1, none⟩ = some (.int .i64 0)) ∧ ((us ++ [(nm0, Value.slice (some ⟨wc.heap.size, 0, none⟩) 2 2, [(ta, (0 : Int)), (tb, 0)])]).map uAt = (ringQ L n (ds.getD 0 noRel).name M (i + 1) s2).1 ∧ Dr w (w3.setCell ⟨p, 3, none⟩ (.slice (some ⟨g3, 0, none⟩) (ny + 1) cp3)) g a L n cap (ringQ L n (ds.getD 0 noRel).name M (i + 1) s2).2 ∧ QA w (w3.setCell ⟨p, 3, none⟩ (.slice (some ⟨g3, 0, none⟩) (ny + 1) cp3)) p pn (.slice (some ⟨bD, oD, none⟩) nd cD) rg (.slice none 0 0) (.slice (some ⟨g3, 0, none⟩) (ny + 1) cp3) (us ++ [(nm0, Value.slice (some ⟨wc.heap.size, 0, none⟩) 2 2, [(ta, (0 : Int)), (tb, 0)])]) ∧ (w3.setCell ⟨p, 3, none⟩ (.slice (some ⟨g3, 0, none⟩) (ny + 1) cp3)).ownsRow (pn + 1) 9 1 (.slice (some ⟨gu, 0, none⟩) 0 0) 0 []))) := hid fun g3 cp3 w3 hown hg => by
            have hkp : w3.heap[p]? = wc.heap[p]? := (hg.block p (by have := hB2.size; omega) (fun e => by have := hyb p e.symm; omega)).trans (hB2.block p (by omega))
            have hQ1 := HQc.out.bel hB1 hgl
            refine ⟨⟨?_, ?_, trivial⟩, hid ⟨?_, ?_, ?_, ?_, ?_⟩⟩
            · rw [World.frozen?_of_block (w := wc) hkp]; exact HQc.out.c5.2.2.2.2 3
            · rw [World.cell?_of_block (w := wc) (a := ⟨p, 3, none⟩) hkp]; exact HQc.out.c5.2.2.2.1
            · refine HSK.out _ fun b hb hp hne => ?_
              rw [Below.heap_setCell _ _ _ _ hp]
              exact (hg.block b (Nat.lt_of_lt_of_le hb hB2.size) hne).trans (hB2.block b hb)
            · rw [← HNM0.out, HNX.out, List.map_append, HUs.out]; rfl
            · rw [← HNM0.out, HNX.out]
              exact HDc.out.bel ((((hB2.mono (by omega)).grown hg (by have := hB2.size; omega) (fun c hc => by have := hyb c hc; omega))).setCell (by show w.heap.size ≤ p; omega) _)
            · exact hQ1.push HTL.out hg (by rw [← hny]; exact hown)
            · exact usd_push (own_below HUc.out hB1) (own_below HOy.out hB1) hg (by omega)
          clear HSK hyb hcR hh1 hh2 hB1 hB2 hbA HTL HOy HUc HDc HKc HHc HUs HDz HQz HUz HNX hny
          obtain ⟨-, -, -, c5, -⟩ := HQc.out.c5
          have c5d : wc.drew.cell? ⟨p, 3, none⟩ = some (Value.slice ay ny cy) := c5
          have c5a : (wc.drew.alloc (.cells #[.string ta, .int .i64 0, .string tb, .int .i64 0] 89)).cell? ⟨p, 3, none⟩ = some (Value.slice ay ny cy) := by rw [World.cell?_alloc_lt _ _ _ (by show p < wc.heap.size; omega)]; exact c5d
          have c5b : ((wc.drew.alloc (.cells #[.string ta, .int .i64 0, .string tb, .int .i64 0] 89)).alloc (.cells #[.string nm0, .slice (some ⟨wc.heap.size, 0, none⟩) 2 2] 55)).cell? ⟨p, 3, none⟩ = some (Value.slice ay ny cy) := by rw [World.cell?_alloc_lt _ _ _ (by show p < (wc.drew.alloc (.cells #[.string ta, .int .i64 0, .string tb, .int .i64 0] 89)).heap.size; rw [World.size_alloc]; show p < wc.heap.size + 1; omega)]; exact c5a
          have c5x : (wc.alloc (.cells #[.string ta, .int .i64 0, .string tb, .int .i64 0] 89)).cell? ⟨p, 3, none⟩ = some (Value.slice ay ny cy) := by rw [World.cell?_alloc_lt _ _ _ (by show p < wc.heap.size; omega)]; exact c5
          have c5y : ((wc.alloc (.cells #[.string ta, .int .i64 0, .string tb, .int .i64 0] 89)).alloc (.cells #[.string nm0, .slice (some ⟨wc.heap.size, 0, none⟩) 2 2] 55)).cell? ⟨p, 3, none⟩ = some (Value.slice ay ny cy) := by rw [World.cell?_alloc_lt _ _ _ (by show p < (wc.alloc (.cells #[.string ta, .int .i64 0, .string tb, .int .i64 0] 89)).heap.size; rw [World.size_alloc]; omega)]; exact c5x
          clear HQc c5
          go_upto_region 16 with fail
          refine wp_region_held_drew (S := fun W => W.cell? ⟨w.heap.size, 0, none⟩ = some (.slice (some ⟨bD, oD, none⟩) nd cD) ∧ W.cell? ⟨bD, oD, none⟩ = some (.string nm0) ∧ W.cell? ⟨wo.heap.size, 0, none⟩ = some (.string ta) ∧ W.cell? ⟨wo.heap.size, 1, none⟩ = some (.int .i64 0) ∧ W.cell? ⟨wo.heap.size + 1, 0, none⟩ = some (.string tb) ∧ W.cell? ⟨wo.heap.size + 1, 1, none⟩ = some (.int .i64 0)) (by kernel_rfl) HS0.out (fun hHeld => ?_)
          refine wpAnyH_take (i := 0) (oi := { dst := some 65, op := Op.fieldAddr 29 (Operand.tmp 5) 3, type := 0, pos := "l3_query.go:360", after := #[], guard := none }) (v := ?_) rfl (by kernel_rfl) (by kernel_rfl) (by kernel_rfl) (fun _ _ _ h => h) (Or.inl ⟨by rfl, ?_⟩) (by assumption) ?_
          rotate_left 1
          · (intro w hSw; (try dsimp only at hSw); go_simp) <;> with_reducible rfl
          try simp only [Act.put, List.setIfInBounds_toArray, List.set_cons_zero, List.set_cons_succ]
          refine wpAnyH_take (i := 2) (oi := { dst := some 67, op := Op.fieldAddr 25 (Operand.tmp 3) 0, type := 0, pos := "l3_query.go:360", after := #[], guard := none }) (v := ?_) rfl (by kernel_rfl) (by kernel_rfl) (by kernel_rfl) (fun _ _ _ h => h) (Or.inl ⟨by rfl, ?_⟩) (by assumption) ?_
          rotate_left 1
          · (intro w hSw; (try dsimp only at hSw); go_simp) <;> with_reducible rfl
          try simp only [Act.put, List.setIfInBounds_toArray, List.set_cons_zero, List.set_cons_succ]
          refine wpAnyH_take (i := 3) (oi := { dst := some 68, op := Op.load 23 (Operand.tmp 67), type := 23, pos := "l3_query.go:360", after := #[{ on := 2, ground := Ground.data }], guard := none }) (v := ?_) rfl (by kernel_rfl) (by kernel_rfl) (by kernel_rfl) (fun _ _ _ h => h) (Or.inl ⟨by rfl, ?_⟩) (by assumption) ?_
          rotate_left 1
          · (intro w hSw; (try dsimp only at hSw); go_simp) <;> with_reducible rfl
          try simp only [Act.put, List.setIfInBounds_toArray, List.set_cons_zero, List.set_cons_succ]
          refine wpAnyH_take (i := 4) (oi := { dst := some 69, op := Op.indexAddr 23 (Operand.tmp 68) (Operand.const (Value.int IntKind.i64 0)), type := 0, pos := "l3_query.go:360", after := #[{ on := 3, ground := Ground.data }], guard := none }) (v := ?_) rfl (by kernel_rfl) (by kernel_rfl) (by kernel_rfl) (fun _ _ _ h => h) (Or.inl ⟨by rfl, ?_⟩) (by assumption) ?_
          rotate_left 1
          · (intro w hSw; (try dsimp only at hSw); go_simp) <;> with_reducible rfl
          try simp only [Act.put, List.setIfInBounds_toArray, List.set_cons_zero, List.set_cons_succ]
          refine wpAnyH_take (i := 5) (oi := { dst := some 70, op := Op.fieldAddr 45 (Operand.tmp 69) 0, type := 0, pos := "l3_query.go:360", after := #[{ on := 4, ground := Ground.data }], guard := none }) (v := ?_) rfl (by kernel_rfl) (by kernel_rfl) (by kernel_rfl) (fun _ _ _ h => h) (Or.inl ⟨by rfl, ?_⟩) (by assumption) ?_
          rotate_left 1
          · (intro w hSw; (try dsimp only at hSw); go_simp) <;> with_reducible rfl
          try simp only [Act.put, List.setIfInBounds_toArray, List.set_cons_zero, List.set_cons_succ]
          refine wpAnyH_take (i := 6) (oi := { dst := some 71, op := Op.load 9 (Operand.tmp 70), type := 9, pos := "l3_query.go:360", after := #[{ on := 5, ground := Ground.data }], guard := none }) (v := ?_) rfl (by kernel_rfl) (by kernel_rfl) (by kernel_rfl) (fun _ _ _ h => h) (Or.inl ⟨by rfl, ?_⟩) (by assumption) ?_
          rotate_left 1
          · (intro w hSw; (try dsimp only at hSw); go_simp) <;> with_reducible rfl
          try simp only [Act.put, List.setIfInBounds_toArray, List.set_cons_zero, List.set_cons_succ]
          refine wpAnyH_take (i := 7) (oi := { dst := some 72, op := Op.load 89 (Operand.tmp 12), type := 89, pos := "l3_query.go:360", after := #[], guard := none }) (v := ?_) rfl (by kernel_rfl) (by kernel_rfl) (by kernel_rfl) (fun _ _ _ h => h) (Or.inl ⟨by rfl, ?_⟩) (by assumption) ?_
          rotate_left 1
          · (intro w hSw; (try dsimp only at hSw); go_simp) <;> with_reducible rfl
          try simp only [Act.put, List.setIfInBounds_toArray, List.set_cons_zero, List.set_cons_succ]
          refine wpAnyH_take (i := 8) (oi := { dst := some 73, op := Op.load 89 (Operand.tmp 13), type := 89, pos := "l3_query.go:360", after := #[], guard := none }) (v := ?_) rfl (by kernel_rfl) (by kernel_rfl) (by kernel_rfl) (fun _ _ _ h => h) (Or.inl ⟨by rfl, ?_⟩) (by assumption) ?_
          rotate_left 1
          · (intro w hSw; (try dsimp only at hSw); go_simp) <;> with_reducible rfl
          try simp only [Act.put, List.setIfInBounds_toArray, List.set_cons_zero, List.set_cons_succ]
          refine wpAnyH_ready (rs := [1, 9]) (by kernel_rfl) (by simp) ?_
          refine AllReadyH.cons (o := { dst := some 66, op := Op.load 27 (Operand.tmp 65), type := 27, pos := "l3_query.go:360", after := #[{ on := 0, ground := Ground.data }], guard := none }) rfl (fun K hK => ?_) (AllReadyH.cons (o := { dst := some 74, op := Op.buildSlice 53 2 #[(0, Operand.tmp 72), (1, Operand.tmp 73)], type := 53, pos := "l3_query.go:360", after := #[{ on := 7, ground := Ground.data }, { on := 8, ground := Ground.data }], guard := none }) rfl (fun K hK => ?_) (AllReadyH.nil))
          · go_simp
            refine hK.out _ _ (by assumption) (fun hHeld => ?_)
            clear hK K
            try simp only [Act.put, List.setIfInBounds_toArray, List.set_cons_zero, List.set_cons_succ]
            refine wpAnyH_ready (rs := [9]) (by kernel_rfl) (by simp) ?_
            refine AllReadyH.cons (o := { dst := some 74, op := Op.buildSlice 53 2 #[(0, Operand.tmp 72), (1, Operand.tmp 73)], type := 53, pos := "l3_query.go:360", after := #[{ on := 7, ground := Ground.data }, { on := 8, ground := Ground.data }], guard := none }) rfl (fun K hK => ?_) (AllReadyH.nil)
            go_simp
            refine hK.out _ _ (HS1.out) (fun hHeld => ?_)
            clear hK K
            try simp only [Act.put, List.setIfInBounds_toArray, List.set_cons_zero, List.set_cons_succ]
            refine wpAnyH_take (i := 10) (oi := { dst := some 75, op := Op.build 55 #[(0, Operand.tmp 71), (1, Operand.tmp 74)], type := 55, pos := "l3_query.go:360", after := #[{ on := 6, ground := Ground.data }, { on := 9, ground := Ground.data }], guard := none }) (v := ?_) rfl (by kernel_rfl) (by kernel_rfl) (by kernel_rfl) (fun _ _ _ h => h) (Or.inl ⟨by rfl, ?_⟩) (by assumption) ?_
            rotate_left 1
            · (intro w hSw; (try dsimp only at hSw); go_simp) <;> with_reducible rfl
            try simp only [Act.put, List.setIfInBounds_toArray, List.set_cons_zero, List.set_cons_succ]
            refine wpAnyH_ready (rs := [11]) (by kernel_rfl) (by simp) ?_
            refine AllReadyH.cons (o := { dst := some 76, op := Op.buildSlice 27 1 #[(0, Operand.tmp 75)], type := 27, pos := "l3_query.go:360", after := #[{ on := 10, ground := Ground.data }], guard := none }) rfl (fun K hK => ?_) (AllReadyH.nil)
            go_simp
            refine hK.out _ _ (HS2.out) (fun hHeld => ?_)
            clear hK K
            try simp only [Act.put, List.setIfInBounds_toArray, List.set_cons_zero, List.set_cons_succ]
            refine wpAnyH_ready (rs := [12]) (by kernel_rfl) (by simp) ?_
            refine AllReadyH.cons (o := { dst := some 77, op := Op.call { callee := Callee.builtin Builtin.append, args := #[Operand.tmp 66, Operand.tmp 76], argTypes := #[27, 27] }, type := 27, pos := "l3_query.go:360", after := #[{ on := 1, ground := Ground.data }, { on := 11, ground := Ground.data }], guard := none }) rfl (fun K hK => ?_) (AllReadyH.nil)
            refine step_append_lies _ rfl _ _ 27 rfl (pn + 1) 55 iA (.agg #[.string ⟨#[]⟩, .slice none 0 0]) 2 40 Tryz.underlying27 hA0 hA1 hA2 hA3 rfl (by decide) (.slice ay ny cy) ny _ rfl HOA.out ⟨wc.heap.size + 1, 0, none⟩ 1 1 [.string nm0, .slice (some ⟨wc.heap.size, 0, none⟩) 2 2] rfl rfl HNW.out HON.out (by decide) (by unfold maxLen; omega) (by omega) HSZ.out _ rfl ?_; intro g3 cp3 w3 hown3 hgrow3 hat3 hlt3
            have HS3 := HSA.out w3 hgrow3
            refine hK.out _ _ (HS3.1) (fun hHeld => ?_)
            clear hK K
            try simp only [Act.put, List.setIfInBounds_toArray, List.set_cons_zero, List.set_cons_succ]
            refine wpAnyH_take (i := 13) (oi := { dst := some 78, op := Op.fieldAddr 29 (Operand.tmp 5) 3, type := 0, pos := "l3_query.go:360", after := #[{ on := 0, ground := Ground.phase }, { on := 1, ground := Ground.phase }, { on := 2, ground := Ground.phase }, { on := 3, ground := Ground.phase }, { on := 4, ground := Ground.phase }, { on := 5, ground := Ground.phase }, { on := 6, ground := Ground.phase }, { on := 7, ground := Ground.phase }, { on := 8, ground := Ground.phase }, { on := 9, ground := Ground.phase }, { on := 10, ground := Ground.phase }, { on := 11, ground := Ground.phase }, { on := 12, ground := Ground.phase }], guard := none }) (v := ?_) rfl (by kernel_rfl) (by kernel_rfl) (by kernel_rfl) (fun _ _ _ h => h) (Or.inl ⟨by rfl, ?_⟩) (by assumption) ?_
            rotate_left 1
            · (intro w hSw; (try dsimp only at hSw); go_simp) <;> with_reducible rfl
            try simp only [Act.put, List.setIfInBounds_toArray, List.set_cons_zero, List.set_cons_succ]
            refine wpAnyH_ready (rs := [14]) (by kernel_rfl) (by simp) ?_
            refine AllReadyH.cons (o := { dst := none, op := Op.store 27 (Operand.tmp 78) (Operand.tmp 77), type := 0, pos := "l3_query.go:360", after := #[{ on := 13, ground := Ground.data }, { on := 12, ground := Ground.data }, { on := 12, ground := Ground.chain }, { on := 0, ground := Ground.phase }, { on := 1, ground := Ground.phase }, { on := 2, ground := Ground.phase }, { on := 3, ground := Ground.phase }, { on := 4, ground := Ground.phase }, { on := 5, ground := Ground.phase }, { on := 6, ground := Ground.phase }, { on := 7, ground := Ground.phase }, { on := 8, ground := Ground.phase }, { on := 9, ground := Ground.phase }, { on := 10, ground := Ground.phase }, { on := 11, ground := Ground.phase }, { on := 12, ground := Ground.phase }], guard := none }) rfl (fun K hK => ?_) (AllReadyH.nil)
            obtain ⟨f3, hZ⟩ := HSA2.out g3 cp3 w3 hown3 hgrow3
            have f3h := hid f3
            have c3f := f3.1
            have c3v := f3.2.1
            go_simp
            refine hK.out _ _ (hZ.out.1) (fun hHeld => ?_)
            clear hK K
            try simp only [Act.put, List.setIfInBounds_toArray, List.set_cons_zero, List.set_cons_succ]
            refine wpAnyH_done (by kernel_rfl) ?_ _
            have HZ := hZ.out.2
            clear hZ f3h c3f c3v f3 HS3 hHeld
            go_wp2_with fail
            go_roundg (M - (i + 1))
            case measure => omega
            case rel => exact ⟨i + 1, _, _, by go_num, by omega, rfl, hid HZ⟩
          · go_simp
            refine hK.out _ _ (HS1.out) (fun hHeld => ?_)
            clear hK K
            try simp only [Act.put, List.setIfInBounds_toArray, List.set_cons_zero, List.set_cons_succ]
            refine wpAnyH_take (i := 10) (oi := { dst := some 75, op := Op.build 55 #[(0, Operand.tmp 71), (1, Operand.tmp 74)], type := 55, pos := "l3_query.go:360", after := #[{ on := 6, ground := Ground.data }, { on := 9, ground := Ground.data }], guard := none }) (v := ?_) rfl (by kernel_rfl) (by kernel_rfl) (by kernel_rfl) (fun _ _ _ h => h) (Or.inl ⟨by rfl, ?_⟩) (by assumption) ?_
            rotate_left 1
            · (intro w hSw; (try dsimp only at hSw); go_simp) <;> with_reducible rfl
            try simp only [Act.put, List.setIfInBounds_toArray, List.set_cons_zero, List.set_cons_succ]
            refine wpAnyH_ready (rs := [1, 11]) (by kernel_rfl) (by simp) ?_
            refine AllReadyH.cons (o := { dst := some 66, op := Op.load 27 (Operand.tmp 65), type := 27, pos := "l3_query.go:360", after := #[{ on := 0, ground := Ground.data }], guard := none }) rfl (fun K hK => ?_) (AllReadyH.cons (o := { dst := some 76, op := Op.buildSlice 27 1 #[(0, Operand.tmp 75)], type := 27, pos := "l3_query.go:360", after := #[{ on := 10, ground := Ground.data }], guard := none }) rfl (fun K hK => ?_) (AllReadyH.nil))
            · go_simp
              refine hK.out _ _ (by assumption) (fun hHeld => ?_)
              clear hK K
              try simp only [Act.put, List.setIfInBounds_toArray, List.set_cons_zero, List.set_cons_succ]
              refine wpAnyH_ready (rs := [11]) (by kernel_rfl) (by simp) ?_
              refine AllReadyH.cons (o := { dst := some 76, op := Op.buildSlice 27 1 #[(0, Operand.tmp 75)], type := 27, pos := "l3_query.go:360", after := #[{ on := 10, ground := Ground.data }], guard := none }) rfl (fun K hK => ?_) (AllReadyH.nil)
              go_simp
              refine hK.out _ _ (HS2.out) (fun hHeld => ?_)
              clear hK K
              try simp only [Act.put, List.setIfInBounds_toArray, List.set_cons_zero, List.set_cons_succ]
              refine wpAnyH_ready (rs := [12]) (by kernel_rfl) (by simp) ?_
              refine AllReadyH.cons (o := { dst := some 77, op := Op.call { callee := Callee.builtin Builtin.append, args := #[Operand.tmp 66, Operand.tmp 76], argTypes := #[27, 27] }, type := 27, pos := "l3_query.go:360", after := #[{ on := 1, ground := Ground.data }, { on := 11, ground := Ground.data }], guard := none }) rfl (fun K hK => ?_) (AllReadyH.nil)
              refine step_append_lies _ rfl _ _ 27 rfl (pn + 1) 55 iA (.agg #[.string ⟨#[]⟩, .slice none 0 0]) 2 40 Tryz.underlying27 hA0 hA1 hA2 hA3 rfl (by decide) (.slice ay ny cy) ny _ rfl HOA.out ⟨wc.heap.size + 1, 0, none⟩ 1 1 [.string nm0, .slice (some ⟨wc.heap.size, 0, none⟩) 2 2] rfl rfl HNW.out HON.out (by decide) (by unfold maxLen; omega) (by omega) HSZ.out _ rfl ?_; intro g3 cp3 w3 hown3 hgrow3 hat3 hlt3
              have HS3 := HSA.out w3 hgrow3
              refine hK.out _ _ (HS3.1) (fun hHeld => ?_)
              clear hK K
              try simp only [Act.put, List.setIfInBounds_toArray, List.set_cons_zero, List.set_cons_succ]
              refine wpAnyH_take (i := 13) (oi := { dst := some 78, op := Op.fieldAddr 29 (Operand.tmp 5) 3, type := 0, pos := "l3_query.go:360", after := #[{ on := 0, ground := Ground.phase }, { on := 1, ground := Ground.phase }, { on := 2, ground := Ground.phase }, { on := 3, ground := Ground.phase }, { on := 4, ground := Ground.phase }, { on := 5, ground := Ground.phase }, { on := 6, ground := Ground.phase }, { on := 7, ground := Ground.phase }, { on := 8, ground := Ground.phase }, { on := 9, ground := Ground.phase }, { on := 10, ground := Ground.phase }, { on := 11, ground := Ground.phase }, { on := 12, ground := Ground.phase }], guard := none }) (v := ?_) rfl (by kernel_rfl) (by kernel_rfl) (by kernel_rfl) (fun _ _ _ h => h) (Or.inl ⟨by rfl, ?_⟩) (by assumption) ?_
              rotate_left 1
              · (intro w hSw; (try dsimp only at hSw); go_simp) <;> with_reducible rfl
              try simp only [Act.put, List.setIfInBounds_toArray, List.set_cons_zero, List.set_cons_succ]
              refine wpAnyH_ready (rs := [14]) (by kernel_rfl) (by simp) ?_
              refine AllReadyH.cons (o := { dst := none, op := Op.store 27 (Operand.tmp 78) (Operand.tmp 77), type := 0, pos := "l3_query.go:360", after := #[{ on := 13, ground := Ground.data }, { on := 12, ground := Ground.data }, { on := 12, ground := Ground.chain }, { on := 0, ground := Ground.phase }, { on := 1, ground := Ground.phase }, { on := 2, ground := Ground.phase }, { on := 3, ground := Ground.phase }, { on := 4, ground := Ground.phase }, { on := 5, ground := Ground.phase }, { on := 6, ground := Ground.phase }, { on := 7, ground := Ground.phase }, { on := 8, ground := Ground.phase }, { on := 9, ground := Ground.phase }, { on := 10, ground := Ground.phase }, { on := 11, ground := Ground.phase }, { on := 12, ground := Ground.phase }], guard := none }) rfl (fun K hK => ?_) (AllReadyH.nil)
              obtain ⟨f3, hZ⟩ := HSA2.out g3 cp3 w3 hown3 hgrow3
              have f3h := hid f3
              have c3f := f3.1
              have c3v := f3.2.1
              go_simp
              refine hK.out _ _ (hZ.out.1) (fun hHeld => ?_)
              clear hK K
              try simp only [Act.put, List.setIfInBounds_toArray, List.set_cons_zero, List.set_cons_succ]
              refine wpAnyH_done (by kernel_rfl) ?_ _
              have HZ := hZ.out.2
              clear hZ f3h c3f c3v f3 HS3 hHeld
              go_wp2_with fail
              go_roundg (M - (i + 1))
              case measure => omega
              case rel => exact ⟨i + 1, _, _, by go_num, by omega, rfl, hid HZ⟩
            · go_simp
              refine hK.out _ _ (HS2.out) (fun hHeld => ?_)
              clear hK K
              try simp only [Act.put, List.setIfInBounds_toArray, List.set_cons_zero, List.set_cons_succ]
              refine wpAnyH_ready (rs := [1]) (by kernel_rfl) (by simp) ?_
              refine AllReadyH.cons (o := { dst := some 66, op := Op.load 27 (Operand.tmp 65), type := 27, pos := "l3_query.go:360", after := #[{ on := 0, ground := Ground.data }], guard := none }) rfl (fun K hK => ?_) (AllReadyH.nil)
              go_simp
              refine hK.out _ _ (by assumption) (fun hHeld => ?_)
              clear hK K
              try simp only [Act.put, List.setIfInBounds_toArray, List.set_cons_zero, List.set_cons_succ]
              refine wpAnyH_ready (rs := [12]) (by kernel_rfl) (by simp) ?_
              refine AllReadyH.cons (o := { dst := some 77, op := Op.call { callee := Callee.builtin Builtin.append, args := #[Operand.tmp 66, Operand.tmp 76], argTypes := #[27, 27] }, type := 27, pos := "l3_query.go:360", after := #[{ on := 1, ground := Ground.data }, { on := 11, ground := Ground.data }], guard := none }) rfl (fun K hK => ?_) (AllReadyH.nil)
              refine step_append_lies _ rfl _ _ 27 rfl (pn + 1) 55 iA (.agg #[.string ⟨#[]⟩, .slice none 0 0]) 2 40 Tryz.underlying27 hA0 hA1 hA2 hA3 rfl (by decide) (.slice ay ny cy) ny _ rfl HOA.out ⟨wc.heap.size + 1, 0, none⟩ 1 1 [.string nm0, .slice (some ⟨wc.heap.size, 0, none⟩) 2 2] rfl rfl HNW.out HON.out (by decide) (by unfold maxLen; omega) (by omega) HSZ.out _ rfl ?_; intro g3 cp3 w3 hown3 hgrow3 hat3 hlt3
              have HS3 := HSA.out w3 hgrow3
              refine hK.out _ _ (HS3.1) (fun hHeld => ?_)
              clear hK K
              try simp only [Act.put, List.setIfInBounds_toArray, List.set_cons_zero, List.set_cons_succ]
              refine wpAnyH_take (i := 13) (oi := { dst := some 78, op := Op.fieldAddr 29 (Operand.tmp 5) 3, type := 0, pos := "l3_query.go:360", after := #[{ on := 0, ground := Ground.phase }, { on := 1, ground := Ground.phase }, { on := 2, ground := Ground.phase }, { on := 3, ground := Ground.phase }, { on := 4, ground := Ground.phase }, { on := 5, ground := Ground.phase }, { on := 6, ground := Ground.phase }, { on := 7, ground := Ground.phase }, { on := 8, ground := Ground.phase }, { on := 9, ground := Ground.phase }, { on := 10, ground := Ground.phase }, { on := 11, ground := Ground.phase }, { on := 12, ground := Ground.phase }], guard := none }) (v := ?_) rfl (by kernel_rfl) (by kernel_rfl) (by kernel_rfl) (fun _ _ _ h => h) (Or.inl ⟨by rfl, ?_⟩) (by assumption) ?_
              rotate_left 1
              · (intro w hSw; (try dsimp only at hSw); go_simp) <;> with_reducible rfl
              try simp only [Act.put, List.setIfInBounds_toArray, List.set_cons_zero, List.set_cons_succ]
              refine wpAnyH_ready (rs := [14]) (by kernel_rfl) (by simp) ?_
              refine AllReadyH.cons (o := { dst := none, op := Op.store 27 (Operand.tmp 78) (Operand.tmp 77), type := 0, pos := "l3_query.go:360", after := #[{ on := 13, ground := Ground.data }, { on := 12, ground := Ground.data }, { on := 12, ground := Ground.chain }, { on := 0, ground := Ground.phase }, { on := 1, ground := Ground.phase }, { on := 2, ground := Ground.phase }, { on := 3, ground := Ground.phase }, { on := 4, ground := Ground.phase }, { on := 5, ground := Ground.phase }, { on := 6, ground := Ground.phase }, { on := 7, ground := Ground.phase }, { on := 8, ground := Ground.phase }, { on := 9, ground := Ground.phase }, { on := 10, ground := Ground.phase }, { on := 11, ground := Ground.phase }, { on := 12, ground := Ground.phase }], guard := none }) rfl (fun K hK => ?_) (AllReadyH.nil)
              obtain ⟨f3, hZ⟩ := HSA2.out g3 cp3 w3 hown3 hgrow3
              have f3h := hid f3
              have c3f := f3.1
              have c3v := f3.2.1
              go_simp
              refine hK.out _ _ (hZ.out.1) (fun hHeld => ?_)
              clear hK K
              try simp only [Act.put, List.setIfInBounds_toArray, List.set_cons_zero, List.set_cons_succ]
              refine wpAnyH_done (by kernel_rfl) ?_ _
              have HZ := hZ.out.2
              clear hZ f3h c3f c3v f3 HS3 hHeld
              go_wp2_with fail
              go_roundg (M - (i + 1))
              case measure => omega
              case rel => exact ⟨i + 1, _, _, by go_num, by omega, rfl, hid HZ⟩
        · obtain rfl : i = M := by omega
          have i1 : ¬ (i : Int) < (i : Int) := by omega
          obtain ⟨hUs, hDz, hQz, hUz⟩ := HH.out
          have HUs := hid hUs
          have HDz := hid hDz
          have HQz := hid hQz
          have HUz := hid hUz
          clear HH hUs hDz hQz hUz
          go_wp2_with (first | (go_at_call 35; refine (HDz.out.pick hn (by omega) (m := 2) (by omega)).mono ?_; rintro e w8 ⟨rfl, hD8, hK8⟩) | fail)
          go_meet
          rw [HE1.out]
          exact ⟨y, us, rfl, HUs.out, hid ⟨hD8, HQz.out.kc hK8 hgl, usd_kt HUz.out hK8 (by omega)⟩⟩
    · have e1 : preQ L n ds c0 s1 = ([], c0, (pkF L n 4 s1).2) := if_neg hz
      have j1 : ((((pkF L n 4 s1).1 : Nat) : Int) == 0) = false := by simp; omega
      have j2 : ¬ (((pkF L n 4 s1).1 : Nat) : Int) = 0 := by omega
      go_wp2_with fail
      go_meet
      rw [e1]
      exact ⟨_, [], rfl, rfl, hid ⟨HD6.out, HQ6.out, HU6.out⟩⟩
  case rest =>
  obtain ⟨y0, us0, rfl, hus, hcut⟩ := hcut
  obtain ⟨hD7, hQ7, hU7⟩ := hcut.out
  obtain ⟨hcnt, hs2, hpl⟩ := preQ_at hd hm L n c0 s1 hcq
  have hs2' : (preQ L n ds c0 s1).2.2.1 ≤ 1000013 := by omega
  clear HD6 HQ6 HU6 hcut hs2 at4 hsq hcQ' hcq
  generalize preQ L n ds c0 s1 = pre at *
  obtain ⟨pats, cnt, s2⟩ := pre
  have hcnt' : cnt ≤ 4 := hcnt
  have hs2 : s2.1 ≤ 1000013 := hs2'
  have hpl' : pats.length ≤ 4 := hpl
  have HD7 : Hid (Dr w wc g a L n cap s2) := hid hD7
  have HQ7 := hid hQ7
  have HU7 := hid hU7
  have HUS : Hid (us0.map uAt = pats) := hid hus
  clear hcnt hs2' hpl hD7 hQ7 hU7 hus
  go_upto_block 2 with fail
  go_wp2_with fail
  go_loopg [9, 14] cnt (fun gk v9 v14 wr => ∃ (i : Nat) (y : Value) (us : List UV), v14 = .int .i64 i ∧ i ≤ cnt ∧ gk = cnt - i ∧ Hid (us.map uAt = pats ++ (atomsQ L n ds k cnt i [] s2).1 ∧ Dr w wr g a L n cap (atomsQ L n ds k cnt i [] s2).2.2 ∧ QA w wr p pn (.slice (some ⟨bD, oD, none⟩) nd cD) rg (.slice none 0 0) y us ∧ wr.ownsRow (pn + 1) 9 1 v9 (atomsQ L n ds k cnt i [] s2).2.1.length ((atomsQ L n ds k cnt i [] s2).2.1.map Value.string)))
  case atStart => exact ⟨0, _, _, rfl, Nat.zero_le _, rfl, hid ⟨by rw [HUS.out]; exact (List.append_nil _).symm, HD7.out, HQ7.out, HU7.out⟩⟩
  case round =>
    clear HD7 HQ7 HU7 HUS
    obtain ⟨i, y, us, rfl, hi, hgk, HH⟩ := hrel
    rename_i v9
    generalize wr = wo at *
    obtain ⟨hat, hul⟩ := atomsQ_at hd hm L n k cnt [] s2 i
    by_cases hlt : i < cnt
    · have i1 : (i : Int) < (cnt : Int) := by omega
      obtain ⟨hUs, hDz, hQz, hUz⟩ := HH.out
      have HNX : Hid (atomsQ L n ds k cnt (i + 1) [] s2 = ((atomsQ L n ds k cnt i [] s2).1 ++ [((ds.getD (pkF L n ds.length (atomsQ L n ds k cnt i [] s2).2.2).1 noRel).name, (termsQ L n k (ds.getD (pkF L n ds.length (atomsQ L n ds k cnt i [] s2).2.2).1 noRel).ar.toNat (decide (i + 1 = cnt)) (ds.getD (pkF L n ds.length (atomsQ L n ds k cnt i [] s2).2.2).1 noRel).ar.toNat (atomsQ L n ds k cnt i [] s2).2.1 (pkF L n ds.length (atomsQ L n ds k cnt i [] s2).2.2).2).1)], (termsQ L n k (ds.getD (pkF L n ds.length (atomsQ L n ds k cnt i [] s2).2.2).1 noRel).ar.toNat (decide (i + 1 = cnt)) (ds.getD (pkF L n ds.length (atomsQ L n ds k cnt i [] s2).2.2).1 noRel).ar.toNat (atomsQ L n ds k cnt i [] s2).2.1 (pkF L n ds.length (atomsQ L n ds k cnt i [] s2).2.2).2).2)) := hid rfl
      have hul2 : us.length ≤ 8 := by
        have h1 := (atomsQ_ok hd hm L n k cnt [] s2 (by omega) (by omega) (fun x hx => by simp at hx) i).1
        have h2 := congrArg List.length hUs
        rw [List.length_map, List.length_append] at h2
        omega
      have HUsd : Hid (Usd (atomsQ L n ds k cnt i [] s2).2.1) := hid (atomsQ_ok hd hm L n k cnt [] s2 (by omega) (by omega) (fun x hx => by simp at hx) i).2.2
      have HUs := hid hUs
      have HDz := hid hDz
      have HQz := hid hQz
      have HUz := hid hUz
      have hszo := hQz.lt
      clear HH hUs hDz hQz hUz
      rw [← HND.out] at HNX
      generalize atomsQ L n ds k cnt i [] s2 = AQ at *
      obtain ⟨oats, used, s3⟩ := AQ
      have hs3 : s3.1 ≤ 1000100 := by have : s3.1 ≤ s2.1 + i * 16 := hat; omega
      have hused : used.length ≤ 12 := by have : used.length ≤ 0 + i * 3 := hul; omega
      clear hat hul
      have hz := pk_lt L n nd s3 (by omega)
      have hzat := pkF_at L n nd s3
      have hrel : relB (ds.getD (pkF L n nd s3).1 noRel) = true := hd.rel _ (by have := HND.out; have := hd.len; omega)
      obtain ⟨-, hr1, hr3⟩ := rel_parts hrel
      obtain ⟨ar, har⟩ : ∃ ar : Nat, (ar : Int) = (ds.getD (pkF L n nd s3).1 noRel).ar := ⟨(ds.getD (pkF L n nd s3).1 noRel).ar.toNat, by omega⟩
      have har' : (ds.getD (pkF L n nd s3).1 noRel).ar.toNat = ar := by omega
      have har3 : ar ≤ 3 := by omega
      obtain ⟨nm, hnm⟩ : ∃ nm, nm = (ds.getD (pkF L n nd s3).1 noRel).name := ⟨_, rfl⟩
      simp only [har', ← hnm] at HNX
      obtain ⟨fr, fw, hf⟩ : ∃ (fr fw : Nat → Option Addr × Nat × Nat), ∀ kk, kk < nd → ∀ W, Kc g wo W → W.cell? ⟨bD, oD + kk * 4, none⟩ = some (.string (ds.getD kk noRel).name) ∧ W.cell? ⟨bD, oD + kk * 4 + 1, none⟩ = some (.int .i64 (ds.getD kk noRel).ar) ∧ W.cell? ⟨bD, oD + kk * 4 + 2, none⟩ = some (.slice (fr kk).1 (fr kk).2.1 (fr kk).2.2) ∧ W.cell? ⟨bD, oD + kk * 4 + 3, none⟩ = some (.slice (fw kk).1 (fw kk).2.1 (fw kk).2.2) := by
        have hx : ∀ kk, ∃ (a1 a2 : Option Addr × Nat × Nat), kk < nd → ∀ W, Kc g wo W → W.cell? ⟨bD, oD + kk * 4, none⟩ = some (.string (ds.getD kk noRel).name) ∧ W.cell? ⟨bD, oD + kk * 4 + 1, none⟩ = some (.int .i64 (ds.getD kk noRel).ar) ∧ W.cell? ⟨bD, oD + kk * 4 + 2, none⟩ = some (.slice a1.1 a1.2.1 a1.2.2) ∧ W.cell? ⟨bD, oD + kk * 4 + 3, none⟩ = some (.slice a2.1 a2.2.1 a2.2.2) := fun kk => by
          by_cases hkk : kk < nd
          · obtain ⟨aR, cR, eR, hR⟩ := HIK.out wo HDz.out.kc
            simp only [Value.slice.injEq] at eR
            obtain ⟨rfl, -, -⟩ := eR
            rcases hR with h0 | ⟨b', o', e', hR⟩
            · have := HND.out; omega
            · cases e'
              obtain ⟨vr', vw', x0, x1, x2, x3, hir⟩ := hR kk (by have := HND.out; omega)
              obtain ⟨ra, rc, rfl, -⟩ := hir.rows
              obtain ⟨wa, wc', rfl, -⟩ := hir.ws
              exact ⟨(ra, _, rc), (wa, _, wc'), fun _ W hW => ⟨hW.cell hne x0, hW.cell hne x1, hW.cell hne x2, hW.cell hne x3⟩⟩
          · exact ⟨(none, 0, 0), (none, 0, 0), fun h => absurd h hkk⟩
        exact ⟨fun kk => (hx kk).choose, fun kk => (hx kk).choose_spec.choose, fun kk h => (hx kk).choose_spec.choose_spec h⟩
      obtain ⟨fn, hfn⟩ : ∃ fn : Nat → ByteArray, ∀ kk, (ds.getD kk noRel).name = fn kk := ⟨_, fun _ => rfl⟩
      obtain ⟨fa, hfa⟩ : ∃ fa : Nat → Int, ∀ kk, (ds.getD kk noRel).ar = fa kk := ⟨_, fun _ => rfl⟩
      simp only [hfn, hfa] at hf hnm har
      have HSS : Hid (∀ W, Kc g wo W → W.cell? ⟨w.heap.size, 0, none⟩ = some (.slice (some ⟨bD, oD, none⟩) nd cD) ∧ (∀ kk, kk < nd → W.cell? ⟨bD, oD + kk * 4, none⟩ = some (.string (fn kk))) ∧ (∀ kk, kk < nd → W.cell? ⟨bD, oD + kk * 4 + 1, none⟩ = some (.int .i64 (fa kk))) ∧ (∀ kk, kk < nd → W.cell? ⟨bD, oD + kk * 4 + 2, none⟩ = some (.slice (fr kk).1 (fr kk).2.1 (fr kk).2.2)) ∧ (∀ kk, kk < nd → W.cell? ⟨bD, oD + kk * 4 + 3, none⟩ = some (.slice (fw kk).1 (fw kk).2.1 (fw kk).2.2)) ∧ Kc g wo W) := hid fun W hW => ⟨hW.cell (by omega) HQz.out.c3, fun kk h => (hf kk h W hW).1, fun kk h => (hf kk h W hW).2.1, fun kk h => (hf kk h W hW).2.2.1, fun kk h => (hf kk h W hW).2.2.2, hW⟩
      have KP : Hid (∀ W, Below wo.heap.size wo W → Calls Tryz.prog 35 #[.pointer (some ⟨g, 0, none⟩), .int .i64 (nd : Int)] W fun e w' => e = .returned (.int .i64 ((pkF L n nd s3).1 : Nat)) ∧ Dr w w' g a L n cap (pkF L n nd s3).2 ∧ Kc g W w' ∧ Kc g wo w') := hid fun W hW => ((HDz.out.bel (hW.mono HDz.out.kc.size)).pick hn (by show s3.1 ≤ _; omega) (m := nd) (by omega)).mono fun e w' ⟨h1, h2, h3⟩ => ⟨h1, h2, h3, (Kc.ofBelow hW).trans h3⟩
      have HHN : Hid (nm = fn (pkF L n nd s3).1) := hid hnm
      have HAR : Hid ((ar : Int) = fa (pkF L n nd s3).1) := hid har
      have hs4 : (pkF L n nd s3).2.1 ≤ 1000101 := by omega
      clear hf hfn hfa hnm har har' hrel hr1 hr3 hzat
      generalize (pkF L n nd s3).1 = z at *
      generalize (pkF L n nd s3).2 = s4 at *
      have z1 : (z : Int) < (nd : Int) := by omega
      have hgo : g < wo.heap.size := by omega
      go_upto_region 21 with fail
      go_cut [15] from 81 to 178 (fun u wx => ∃ (p15 : Nat) (vr vw : Value), u = Value.pointer (some ⟨p15, 0, none⟩) ∧ Hid (wo.heap.size ≤ p15 ∧ Dr w wx g a L n cap s4 ∧ Kc g wo wx ∧ wx.heap[p15]? = some (.cells #[.string nm, .int .i64 (ar : Int), vr, vw] 45 (0, 0))))
      case first =>
        clear HNX HUs HQz HUz hd
        first | go_region_held3 (fun W => W.cell? ⟨w.heap.size, 0, none⟩ = some (.slice (some ⟨bD, oD, none⟩) nd cD) ∧ (∀ kk, kk < nd → W.cell? ⟨bD, oD + kk * 4, none⟩ = some (.string (fn kk))) ∧ (∀ kk, kk < nd → W.cell? ⟨bD, oD + kk * 4 + 1, none⟩ = some (.int .i64 (fa kk))) ∧ (∀ kk, kk < nd → W.cell? ⟨bD, oD + kk * 4 + 2, none⟩ = some (.slice (fr kk).1 (fr kk).2.1 (fr kk).2.2)) ∧ (∀ kk, kk < nd → W.cell? ⟨bD, oD + kk * 4 + 3, none⟩ = some (.slice (fw kk).1 (fw kk).2.1 (fw kk).2.2)) ∧ Kc g wo W)
          (first
            | with_reducible exact HSS.out _ (Kc.refl _ _).dwT
            | with_reducible exact HSS.out _ ((Kc.refl _ _).alT _).dwT
            | with_reducible exact HSS.out _ hKr
            | with_reducible exact HSS.out _ (hKr.alT _)
            | with_reducible exact HSS.out _ (kc4T hKr (by omega))
            | fail)
          (first | (go_at_call 35; refine (KP.out _ (by first | exact (Below.refl _ _).drew | exact ((Below.refl _ _).alloc (Nat.le_refl _) _).drew)).mono ?_; rintro e w6 ⟨rfl, hD6, hK6, hKr⟩; have hs6 := hKr.size; first | (with_reducible have hh := lit7T hK6 hgo; obtain ⟨k0, k1, k2, k3, k4, k5, k6, k7⟩ := box_cellsT hh) | skip) | fail) | fail
        all_goals (go_wp2_with fail; go_meet; rw [HHN.out, HAR.out])
        all_goals first
          | exact ⟨w6.heap.size, _, _, rfl, hid ⟨by omega, hD6.bel ((Below.refl _ _).alloc hD6.kc.size _), hKr.alT _, heap_alloc_new _ _⟩⟩
          | exact ⟨wo.heap.size, _, _, rfl, hid ⟨Nat.le_refl _, hD6.bel (bel4T (by omega)), kc4T hKr (Nat.le_refl _), set4T hh⟩⟩
      case rest =>
      obtain ⟨p15, vr, vw, rfl, hcut⟩ := hcut
      obtain ⟨hp15, hD8, hK8, hb15⟩ := hcut.out
      clear hcut HSS KP HHN HAR
      have hc0 : wc.cell? ⟨p15, 0, none⟩ = some (.string nm) := by rw [cell_of_row _ _ _ _ _ _ hb15]; rfl
      have hp15l : p15 < wc.heap.size := heap_ltF hb15
      obtain ⟨W5, hW5⟩ : ∃ W5, W5 = wc.alloc (.cells #[.string nm, .slice none 0 0] 55) := ⟨_, rfl⟩
      have hB5 : Below wc.heap.size wc W5 := by rw [hW5]; exact (Below.refl _ _).alloc (Nat.le_refl _) _
      have HD5 := hid (hD8.bel (hB5.mono hD8.kc.size))
      have HKt5 : Hid (Kt g pn wo W5) := hid (((Kt.refl g pn wo).kc hK8).up (hB5.mono hK8.size))
      have HU5 := hid (own_below (usd_kt HUz.out hK8 (by omega)) hB5)
      have H15 : Hid (W5.heap[p15]? = some (.cells #[.string nm, .int .i64 (ar : Int), vr, vw] 45 (0, 0))) := hid ((hB5.block _ hp15l).trans hb15)
      have H16 : Hid (W5.heap[wc.heap.size]? = some (.cells #[.string nm, .slice none 0 0] 55 (0, 0))) := hid (by rw [hW5]; exact heap_alloc_new _ _)
      have hswc : wo.heap.size ≤ wc.heap.size := hK8.size
      clear hD8 hK8 hb15 hB5 HDz HUz
      go_upto_block 4 with fail
      rw [← hW5]
      clear hW5 hc0
      generalize wc.heap.size = p16 at *
      go_wp2_with fail
      go_loopg [9, 17] ar (fun gk v9 v17 wx => ∃ (j : Nat) (vt : Value), v17 = .int .i64 j ∧ j ≤ ar ∧ gk = ar - j ∧ Hid (Dr w wx g a L n cap (termsQ L n k ar (decide (i + 1 = cnt)) j used s4).2.2 ∧ Kt g pn wo wx ∧ wx.ownsRow (pn + 1) 9 1 v9 (termsQ L n k ar (decide (i + 1 = cnt)) j used s4).2.1.length ((termsQ L n k ar (decide (i + 1 = cnt)) j used s4).2.1.map Value.string) ∧ wx.heap[p15]? = some (.cells #[.string nm, .int .i64 (ar : Int), vr, vw] 45 (0, 0)) ∧ wx.heap[p16]? = some (.cells #[.string nm, vt] 55 (0, 0)) ∧ wx.ownsRow (p16 + 1) 89 2 vt j ((termsQ L n k ar (decide (i + 1 = cnt)) j used s4).1.flatMap tmc)))
      case atStart => exact ⟨0, _, rfl, Nat.zero_le _, rfl, hid ⟨HD5.out, HKt5.out, HU5.out, H15.out, H16.out, World.ownsRow_nil _ _ _ _⟩⟩
      case round =>
        clear HD5 HKt5 HU5 H15 H16
        obtain ⟨j, vt, rfl, hj, hgk2, HJ⟩ := hrel
        rename_i v9j
        generalize wr = w12 at *
        obtain ⟨hDj, hKj, hUj, h15, h16, hTj⟩ := HJ.out
        obtain ⟨htat, htul⟩ := termsQ_at L n k ar (decide (i + 1 = cnt)) used s4 j
        have c15 : w12.cell? ⟨p15, 1, none⟩ = some (.int .i64 (ar : Int)) := by rw [cell_of_row _ _ _ _ _ _ h15]; rfl
        by_cases hjl : j < ar
        · have j1 : (j : Int) < (ar : Int) := by omega
          have HNJ : Hid (termsQ L n k ar (decide (i + 1 = cnt)) (j + 1) used s4 = if (pkF L n 14 (termsQ L n k ar (decide (i + 1 = cnt)) j used s4).2.2).1 = 13 then ((termsQ L n k ar (decide (i + 1 = cnt)) j used s4).1 ++ [(noB, ((pkF L n 3 (pkF L n 14 (termsQ L n k ar (decide (i + 1 = cnt)) j used s4).2.2).2).1 : Int))], (termsQ L n k ar (decide (i + 1 = cnt)) j used s4).2.1, (pkF L n 3 (pkF L n 14 (termsQ L n k ar (decide (i + 1 = cnt)) j used s4).2.2).2).2) else ((termsQ L n k ar (decide (i + 1 = cnt)) j used s4).1 ++ [((varQ L n k j (decide (i + 1 = cnt) && decide (j + 1 = ar)) (termsQ L n k ar (decide (i + 1 = cnt)) j used s4).2.1 (pkF L n 14 (termsQ L n k ar (decide (i + 1 = cnt)) j used s4).2.2).2).1, 0)], (termsQ L n k ar (decide (i + 1 = cnt)) j used s4).2.1 ++ [(varQ L n k j (decide (i + 1 = cnt) && decide (j + 1 = ar)) (termsQ L n k ar (decide (i + 1 = cnt)) j used s4).2.1 (pkF L n 14 (termsQ L n k ar (decide (i + 1 = cnt)) j used s4).2.2).2).1], (varQ L n k j (decide (i + 1 = cnt) && decide (j + 1 = ar)) (termsQ L n k ar (decide (i + 1 = cnt)) j used s4).2.1 (pkF L n 14 (termsQ L n k ar (decide (i + 1 = cnt)) j used s4).2.2).2).2)) := hid rfl
          have hTl : (termsQ L n k ar (decide (i + 1 = cnt)) j used s4).1.length = j := (termsQ_ok L n k ar (decide (i + 1 = cnt)) used s4 (by omega) (by omega) HUsd.out j).1
          have HDj := hid hDj
          have HKj := hid hKj
          have HUj := hid hUj
          have H15 := hid h15
          have H16 := hid h16
          have HTj := hid hTj
          obtain ⟨au, cu, eu⟩ := own_shapeR hUj
          subst eu
          clear HJ hDj hKj hUj h15 h16 hTj
          generalize termsQ L n k ar (decide (i + 1 = cnt)) j used s4 = TJ at *
          obtain ⟨ts, ud, s5⟩ := TJ
          have hs5 : s5.1 ≤ 1000130 := by have : s5.1 ≤ s4.1 + j * 5 := htat; omega
          have hud : ud.length ≤ 16 := by have : ud.length ≤ used.length + j := htul; omega
          clear htat htul
          obtain ⟨nu, hnu⟩ : ∃ nu, nu = ud.length := ⟨_, rfl⟩
          have HNU := hid hnu
          have hnu16 : nu ≤ 16 := by omega
          have HUj2 : Hid (w12.ownsRow (pn + 1) 9 1 (.slice au nu cu) nu (ud.map Value.string)) := hid (by rw [hnu]; exact HUj.out)
          rw [show ((ts, ud, s5) : List TermV × List ByteArray × CSt).2.1.length = nu from hnu.symm]
          clear hnu HUj hud
          have hsz12 : wo.heap.size ≤ w12.heap.size := HKj.out.size
          obtain ⟨W1, hW1⟩ : ∃ W1, W1 = w12.alloc (.cells #[.string ⟨#[]⟩, .int .i64 0] 89) := ⟨_, rfl⟩
          have HB1 : Hid (Below w12.heap.size w12 W1) := hid (by rw [hW1]; exact (Below.refl _ _).alloc (Nat.le_refl _) _)
          have H18 : Hid (W1.heap[w12.heap.size]? = some (.cells #[.string ⟨#[]⟩, .int .i64 0] 89 (0, 0))) := hid (by rw [hW1]; exact heap_alloc_new _ _)
          have hg12 : g < w12.heap.size := by omega
          have hsw12 : w.heap.size ≤ w12.heap.size := by omega
          have KP14 : Hid (Calls Tryz.prog 35 #[.pointer (some ⟨g, 0, none⟩), .int .i64 ((14 : Nat) : Int)] W1 fun e w' => e = .returned (.int .i64 ((pkF L n 14 s5).1 : Nat)) ∧ Dr w w' g a L n cap (pkF L n 14 s5).2 ∧ Kc g W1 w') := hid ((HDj.out.bel (HB1.out.mono HDj.out.kc.size)).pick hn (by show s5.1 ≤ _; omega) (m := 14) (by omega))
          go_upto_region 27 with fail
          rw [← hW1]
          clear hW1 c15
          go_upto_if 107 with (first | (go_at_call 35; refine KP14.out.mono ?_; rintro e w13 ⟨rfl, hD13, hK13⟩) | fail)
          have HD13 := hid hD13
          have HK13 := hid ((Kc.ofBelow HB1.out).trans hK13)
          have hb18 := heap_kc H18.out hK13 (by omega)
          have at14 := pkF_at L n 14 s5
          have hs6 : (pkF L n 14 s5).2.1 ≤ 1000131 := by have : (pkF L n 14 s5).2.1 ≤ s5.1 + 1 := at14; omega
          clear hD13 hK13 KP14 H18 HB1 at14 hs5
          go_cut [9] from 98 to 172 (fun u9 wx => ∃ (x : ByteArray) (val : Int) (ud' : List ByteArray) (s' : CSt), Hid (termsQ L n k ar (decide (i + 1 = cnt)) (j + 1) used s4 = (ts ++ [(x, val)], ud', s') ∧ Dr w wx g a L n cap s' ∧ Kt g pn w12 wx ∧ wx.ownsRow (pn + 1) 9 1 u9 ud'.length (ud'.map Value.string) ∧ wx.heap[w12.heap.size]? = some (.cells #[.string x, .int .i64 val] 89 (0, 0))))
          case first =>
            by_cases hz13 : (pkF L n 14 s5).1 = 13
            · have HN2 : Hid (termsQ L n k ar (decide (i + 1 = cnt)) (j + 1) used s4 = (ts ++ [(noB, ((pkF L n 3 (pkF L n 14 s5).2).1 : Int))], ud, (pkF L n 3 (pkF L n 14 s5).2).2)) := hid (HNJ.out.trans (if_pos hz13))
              rw [hz13]
              have f18 : ∀ o, w13.frozen? ⟨w12.heap.size, o, none⟩ = false := fun o => by unfold World.frozen?; rw [show w13.heap[w12.heap.size]? = _ from hb18]; simp
              have KP3 : Hid (Calls Tryz.prog 35 #[.pointer (some ⟨g, 0, none⟩), .int .i64 ((3 : Nat) : Int)] w13 fun e w' => e = .returned (.int .i64 ((pkF L n 3 (pkF L n 14 s5).2).1 : Nat)) ∧ Dr w w' g a L n cap (pkF L n 3 (pkF L n 14 s5).2).2 ∧ Kc g w13 w' ∧ w'.heap[w12.heap.size]? = some (.cells #[.string ⟨#[]⟩, .int .i64 0] 89 (0, 0)) ∧ w'.cell? ⟨w12.heap.size, 1, none⟩ = some (.int .i64 0) ∧ w'.frozen? ⟨w12.heap.size, 1, none⟩ = false) := hid ((HD13.out.pick hn (by omega) (m := 3) (by omega)).mono fun e w' ⟨h1, h2, h3⟩ => by
                have h4 := heap_kc hb18 h3 (by omega)
                exact ⟨h1, h2, h3, h4, by rw [cell_of_row _ _ _ _ _ _ h4]; rfl, by unfold World.frozen?; rw [show w'.heap[w12.heap.size]? = _ from h4]; simp⟩)
              clear hb18 f18
              go_wp2_with (first | (go_at_call 35; refine KP3.out.mono ?_; rintro e w14 ⟨rfl, hD14, hK14, hb14, hc14, hf14⟩) | fail)
              go_meet
              refine ⟨noB, _, ud, _, hid ⟨HN2.out, hD14.bel ((Below.refl _ _).setCell (by show w.heap.size ≤ w12.heap.size; omega) _), (((Kt.refl g pn w12).kc (HK13.out.trans hK14)).nw (Nat.le_refl _)), ?_, ?_⟩⟩
              · rw [← HNU.out]
                exact own_setN' (usd_kt HUj2.out (HK13.out.trans hK14) (by omega)) (by intro c hc; have := (HUj2.out.lt c hc).2; omega)
              · rw [heap_setCell_same _ _ _ _ _ _ hb14]; rfl
            · have HN2 : Hid (termsQ L n k ar (decide (i + 1 = cnt)) (j + 1) used s4 = (ts ++ [((varQ L n k j (decide (i + 1 = cnt) && decide (j + 1 = ar)) ud (pkF L n 14 s5).2).1, 0)], ud ++ [(varQ L n k j (decide (i + 1 = cnt) && decide (j + 1 = ar)) ud (pkF L n 14 s5).2).1], (varQ L n k j (decide (i + 1 = cnt) && decide (j + 1 = ar)) ud (pkF L n 14 s5).2).2)) := hid (HNJ.out.trans (if_neg hz13))
              have y1 : ((((pkF L n 14 s5).1 : Nat) : Int) == 13) = false := by simp; omega
              have y2 : ¬ (((pkF L n 14 s5).1 : Nat) : Int) = 13 := by omega
              have HQ12 := hid (HQz.out.kt HKj.out hgl)
              clear HNJ
              generalize (pkF L n 14 s5).2 = s6 at *
              have hzk := pk_lt L n k s6 (by omega)
              have atk := pkF_at L n k s6
              have hs7 : (pkF L n k s6).2.1 ≤ 1000132 := by omega
              have KPk : Hid (Calls Tryz.prog 35 #[.pointer (some ⟨g, 0, none⟩), .int .i64 (k : Int)] w13 fun e w' => e = .returned (.int .i64 ((pkF L n k s6).1 : Nat)) ∧ Dr w w' g a L n cap (pkF L n k s6).2 ∧ Kc g w12 w' ∧ w'.heap[w12.heap.size]? = some (.cells #[.string ⟨#[]⟩, .int .i64 0] 89 (0, 0)) ∧ w'.cell? ⟨w12.heap.size, 0, none⟩ = some (.string ⟨#[]⟩) ∧ w'.frozen? ⟨w12.heap.size, 0, none⟩ = false ∧ w'.cell? ⟨pn, (pkF L n k s6).1, none⟩ = some (.string (vnQ.getD (pkF L n k s6).1 noB))) := hid ((HD13.out.pick hn (by omega) (m := k) (by omega)).mono fun e w' ⟨h1, h2, h3⟩ => by
                have h4 := heap_kc hb18 h3 (by omega)
                exact ⟨h1, h2, HK13.out.trans h3, h4, by rw [cell_of_row _ _ _ _ _ _ h4]; rfl, by unfold World.frozen?; rw [show w'.heap[w12.heap.size]? = _ from h4]; simp, (HQ12.out.kc (HK13.out.trans h3) hgl).name (by omega)⟩)
              have HV1 : Hid (varQ1 L n k j ud s6 = if j = 0 ∧ 0 < ud.length then (if 0 < (pkF L n 3 (pkF L n k s6).2).1 then ud.getD (ud.length - 1) noB else vnQ.getD (pkF L n k s6).1 noB, (pkF L n 3 (pkF L n k s6).2).2) else (vnQ.getD (pkF L n k s6).1 noB, (pkF L n k s6).2)) := hid rfl
              have HV : Hid (varQ L n k j (decide (i + 1 = cnt) && decide (j + 1 = ar)) ud s6 = if (decide (i + 1 = cnt) && decide (j + 1 = ar)) = true ∧ 0 < ud.length then (if (pkF L n 3 (varQ1 L n k j ud s6).2).1 = 0 then ud.getD 0 noB else (varQ1 L n k j ud s6).1, (pkF L n 3 (varQ1 L n k j ud s6).2).2) else varQ1 L n k j ud s6) := hid rfl
              have hvat : (varQ1 L n k j ud s6).2.1 ≤ 1000140 := by have := varQ1_at L n k j ud s6; omega
              generalize varQ L n k j (decide (i + 1 = cnt) && decide (j + 1 = ar)) ud s6 = vq at *
              generalize varQ1 L n k j ud s6 = vq1 at *
              generalize vnQ.getD (pkF L n k s6).1 noB = x0 at *
              generalize (pkF L n k s6).1 = zk at *
              generalize (pkF L n k s6).2 = s7 at *
              have zk6 : (zk : Int) < 6 := by omega
              rw [← HNU.out] at HV1 HV
              clear hb18 hzk atk hs6 HD13 HK13
              go_upto_region 30 with (first | (go_at_call 35; refine KPk.out.mono ?_; rintro e w14 ⟨rfl, hD14, hK14, hb14, hc14, hf14, hn14⟩) | fail)
              have hB14 : Below w12.heap.size w14 (w14.setCell ⟨w12.heap.size, 0, none⟩ (.string x0)) := (Below.refl _ _).setCell (by show w12.heap.size ≤ w12.heap.size; omega) _
              have HD14 := hid (hD14.bel (hB14.mono hsw12))
              have HK14 := hid (hK14.up hB14)
              have HB14 : Hid ((w14.setCell ⟨w12.heap.size, 0, none⟩ (.string x0)).heap[w12.heap.size]? = some (.cells #[.string x0, .int .i64 0] 89 (0, 0))) := hid (by rw [heap_setCell_same _ _ _ _ _ _ hb14]; rfl)
              clear hD14 hK14 hb14 hc14 hf14 hn14 hB14 KPk
              generalize w14.setCell ⟨w12.heap.size, 0, none⟩ (.string x0) = w15 at *
              go_cut [129] from 98 to 172 (fun u wx => ∃ b : Bool, u = .bool b ∧ Hid (Dr w wx g a L n cap vq1.2 ∧ Kc g w12 wx ∧ wx.heap[w12.heap.size]? = some (.cells #[.string x0, .int .i64 0] 89 (0, 0)) ∧ (b = true → 0 < nu ∧ vq1.1 = ud.getD (nu - 1) noB) ∧ (b = false → vq1.1 = x0)))
              case first =>
                by_cases hj0 : j = 0
                · have q0 : ((j : Int) == 0) = true := by simp; omega
                  by_cases hnu0 : 0 < nu
                  · have q1 : (0 : Int) < (nu : Int) := by omega
                    have e1 : vq1 = (if 0 < (pkF L n 3 s7).1 then ud.getD (nu - 1) noB else x0, (pkF L n 3 s7).2) := HV1.out.trans (if_pos ⟨hj0, hnu0⟩)
                    have HE1 := hid e1
                    clear e1 hj0
                    go_wp2_with (first | (go_at_call 35; refine (HD14.out.pick hn (by omega) (m := 3) (by omega)).mono ?_; rintro e w16 ⟨rfl, hD16, hK16⟩) | fail)
                    go_meet
                    refine ⟨decide (0 < (pkF L n 3 s7).1), by simp, hid ⟨by rw [HE1.out]; exact hD16, HK14.out.trans hK16, heap_kc HB14.out hK16 (by omega), fun hb => ?_, fun hb => ?_⟩⟩
                    · rw [HE1.out]; exact ⟨hnu0, if_pos (by simpa using hb)⟩
                    · rw [HE1.out]; exact if_neg (by simpa using hb)
                  · have q1 : ¬ (0 : Int) < (nu : Int) := by omega
                    have e1 : vq1 = (x0, s7) := HV1.out.trans (if_neg fun h => hnu0 h.2)
                    have HE1 := hid e1
                    clear e1 hj0
                    go_wp2_with fail
                    go_meet
                    exact ⟨false, rfl, hid ⟨by rw [HE1.out]; exact HD14.out, HK14.out, HB14.out, (fun hb => by cases hb), fun _ => by rw [HE1.out]⟩⟩
                · have q0 : ((j : Int) == 0) = false := by simp; omega
                  have e1 : vq1 = (x0, s7) := HV1.out.trans (if_neg fun h => hj0 h.1)
                  have HE1 := hid e1
                  clear e1
                  go_wp2_with fail
                  go_meet
                  exact ⟨false, rfl, hid ⟨by rw [HE1.out]; exact HD14.out, HK14.out, HB14.out, (fun hb => by cases hb), fun _ => by rw [HE1.out]⟩⟩
              case rest =>
              obtain ⟨b1, rfl, hcut⟩ := hcut
              obtain ⟨hD16, hK16, hb16, hT1, hF1⟩ := hcut.out
              have HD16 := hid hD16
              have HK16 := hid hK16
              have HB16 := hid hb16
              have HT1 := hid hT1
              have HF1 := hid hF1
              clear hcut hD16 hK16 hb16 hT1 hF1 HD14 HK14 HB14 HV1 hs7
              generalize wc = w16 at *
              go_upto_if 129 with fail
              go_cut [] from 98 to 172 (fun wx => Hid (Dr w wx g a L n cap vq1.2 ∧ Kc g w12 wx ∧ wx.heap[w12.heap.size]? = some (.cells #[.string vq1.1, .int .i64 0] 89 (0, 0))))
              case first =>
                cases b1
                · have HFX := hid (HF1.out rfl)
                  clear HF1 HT1
                  go_wp2_with fail
                  go_meet
                  exact hid ⟨HD16.out, HK16.out, by rw [HFX.out]; exact HB16.out⟩
                · obtain ⟨hnu0, hx1⟩ := HT1.out rfl
                  have HX1 := hid hx1
                  have HU16 := usd_kt HUj2.out HK16.out (show g ≤ pn by omega)
                  obtain ⟨gq, cq, eq, -, -⟩ := HU16.form hnu0
                  obtain ⟨rq, hrq⟩ : ∃ rq, nu = rq + 1 := ⟨nu - 1, by omega⟩
                  have hcq := HU16
                  rw [eq] at hcq
                  have hcl : w16.cell? ⟨gq, rq, none⟩ = some (.string vq1.1) := by
                    rw [hcq.cellAt rq (by omega), List.getElem?_map, hx1, show nu - 1 = rq by omega, List.getElem?_eq_getElem (by have := HNU.out; omega), List.getD_eq_getElem?_getD, List.getElem?_eq_getElem (by have := HNU.out; omega)]
                    rfl
                  simp only [Value.slice.injEq, true_and] at eq
                  obtain ⟨rfl, rfl⟩ := eq
                  have q2 : (nu : Int) - 1 = (rq : Int) := by omega
                  have q3 : (rq : Int) < (nu : Int) := by omega
                  have c18 : w16.cell? ⟨w12.heap.size, 0, none⟩ = some (.string x0) := by rw [cell_of_row _ _ _ _ _ _ HB16.out]; rfl
                  have f18 : w16.frozen? ⟨w12.heap.size, 0, none⟩ = false := by unfold World.frozen?; rw [show w16.heap[w12.heap.size]? = _ from HB16.out]; simp
                  have HF : Hid (Dr w (w16.setCell ⟨w12.heap.size, 0, none⟩ (.string vq1.1)) g a L n cap vq1.2 ∧ Kc g w12 (w16.setCell ⟨w12.heap.size, 0, none⟩ (.string vq1.1)) ∧ (w16.setCell ⟨w12.heap.size, 0, none⟩ (.string vq1.1)).heap[w12.heap.size]? = some (.cells #[.string vq1.1, .int .i64 0] 89 (0, 0))) := hid ⟨HD16.out.bel ((Below.refl _ _).setCell (by show w.heap.size ≤ w12.heap.size; omega) _), HK16.out.nwT (Nat.le_refl _), by rw [heap_setCell_same _ _ _ _ _ _ HB16.out]; rfl⟩
                  clear hx1 HU16 hcq hrq hnu0
                  go_wp2_with fail
                  go_meet
                  exact HF
              case rest =>
              obtain ⟨hD17, hK17, hb17⟩ := hcut.out
              have HD17 := hid hD17
              have HK17 := hid hK17
              have HB17 := hid hb17
              have c15 : wc.cell? ⟨p15, 1, none⟩ = some (.int .i64 (ar : Int)) := hK17.cell (by omega) (by rw [cell_of_row _ _ _ _ _ _ H15.out]; rfl)
              clear hcut hD17 hK17 hb17 HD16 HK16 HB16 HT1 HF1
              generalize wc = w17 at *
              go_upto_region 32 with fail
              go_cut [157] from 98 to 172 (fun u wx => ∃ b : Bool, u = .bool b ∧ Hid (Dr w wx g a L n cap vq.2 ∧ Kc g w12 wx ∧ wx.heap[w12.heap.size]? = some (.cells #[.string vq1.1, .int .i64 0] 89 (0, 0)) ∧ (b = true → 0 < nu ∧ vq.1 = ud.getD 0 noB) ∧ (b = false → vq.1 = vq1.1)))
              case first =>
                by_cases hic : i + 1 = cnt
                · have q0 : ((i : Int) == (cnt : Int) - 1) = true := by simp; omega
                  by_cases hja : j + 1 = ar
                  · have q4 : ((j : Int) == (ar : Int) - 1) = true := by simp; omega
                    by_cases hnu0 : 0 < nu
                    · have q1 : (0 : Int) < (nu : Int) := by omega
                      have e1 : vq = (if (pkF L n 3 vq1.2).1 = 0 then ud.getD 0 noB else vq1.1, (pkF L n 3 vq1.2).2) := HV.out.trans (if_pos ⟨by simp [hic, hja], hnu0⟩)
                      have HE1 := hid e1
                      clear e1 hic hja
                      go_wp2_with (first | (go_at_call 35; refine (HD17.out.pick hn (by omega) (m := 3) (by omega)).mono ?_; rintro e w18 ⟨rfl, hD18, hK18⟩) | fail)
                      go_meet
                      refine ⟨_, rfl, hid ⟨by rw [HE1.out]; exact hD18, HK17.out.trans hK18, heap_kc HB17.out hK18 (by omega), fun hb => ?_, fun hb => ?_⟩⟩
                      · rw [HE1.out]; exact ⟨hnu0, if_pos (by simpa using hb)⟩
                      · rw [HE1.out]; exact if_neg (by simpa using hb)
                    · have q1 : ¬ (0 : Int) < (nu : Int) := by omega
                      have e1 : vq = vq1 := HV.out.trans (if_neg fun h => hnu0 h.2)
                      have HE1 := hid e1
                      clear e1 hic hja
                      go_wp2_with fail
                      go_meet
                      exact ⟨false, rfl, hid ⟨by rw [HE1.out]; exact HD17.out, HK17.out, HB17.out, (fun hb => by cases hb), fun _ => by rw [HE1.out]⟩⟩
                  · have q4 : ((j : Int) == (ar : Int) - 1) = false := by simp; omega
                    have e1 : vq = vq1 := HV.out.trans (if_neg fun h => by have := h.1; simp [hja] at this)
                    have HE1 := hid e1
                    clear e1 hic
                    go_wp2_with fail
                    go_meet
                    exact ⟨false, rfl, hid ⟨by rw [HE1.out]; exact HD17.out, HK17.out, HB17.out, (fun hb => by cases hb), fun _ => by rw [HE1.out]⟩⟩
                · have q0 : ((i : Int) == (cnt : Int) - 1) = false := by simp; omega
                  have e1 : vq = vq1 := HV.out.trans (if_neg fun h => by have := h.1; simp [hic] at this)
                  have HE1 := hid e1
                  clear e1
                  go_wp2_with fail
                  go_meet
                  exact ⟨false, rfl, hid ⟨by rw [HE1.out]; exact HD17.out, HK17.out, HB17.out, (fun hb => by cases hb), fun _ => by rw [HE1.out]⟩⟩
              case rest =>
              obtain ⟨b1, rfl, hcut⟩ := hcut
              obtain ⟨hD16, hK16, hb16, hT1, hF1⟩ := hcut.out
              have HD16 := hid hD16
              have HK16 := hid hK16
              have HB16 := hid hb16
              have HT1 := hid hT1
              have HF1 := hid hF1
              clear hcut hD16 hK16 hb16 hT1 hF1 HD17 HK17 HB17 HV c15 hvat
              generalize wc = w16 at *
              go_upto_if 157 with fail
              go_cut [] from 98 to 172 (fun wx => Hid (Dr w wx g a L n cap vq.2 ∧ Kc g w12 wx ∧ wx.heap[w12.heap.size]? = some (.cells #[.string vq.1, .int .i64 0] 89 (0, 0))))
              case first =>
                cases b1
                · have HFX := hid (HF1.out rfl)
                  clear HF1 HT1
                  go_wp2_with fail
                  go_meet
                  exact hid ⟨HD16.out, HK16.out, by rw [HFX.out]; exact HB16.out⟩
                · obtain ⟨hnu0, hx1⟩ := HT1.out rfl
                  have HU16 := usd_kt HUj2.out HK16.out (show g ≤ pn by omega)
                  obtain ⟨gq, cq, eq, -, -⟩ := HU16.form hnu0
                  have hcq := HU16
                  rw [eq] at hcq
                  have hcl : w16.cell? ⟨gq, 0, none⟩ = some (.string vq.1) := by
                    rw [hcq.cellAt 0 (by omega), List.getElem?_map, hx1, List.getElem?_eq_getElem (by have := HNU.out; omega), List.getD_eq_getElem?_getD, List.getElem?_eq_getElem (by have := HNU.out; omega)]
                    rfl
                  simp only [Value.slice.injEq, true_and] at eq
                  obtain ⟨rfl, rfl⟩ := eq
                  have q3 : (0 : Int) < (nu : Int) := by omega
                  have c18 : w16.cell? ⟨w12.heap.size, 0, none⟩ = some (.string vq1.1) := by rw [cell_of_row _ _ _ _ _ _ HB16.out]; rfl
                  have f18 : w16.frozen? ⟨w12.heap.size, 0, none⟩ = false := by unfold World.frozen?; rw [show w16.heap[w12.heap.size]? = _ from HB16.out]; simp
                  have HF : Hid (Dr w (w16.setCell ⟨w12.heap.size, 0, none⟩ (.string vq.1)) g a L n cap vq.2 ∧ Kc g w12 (w16.setCell ⟨w12.heap.size, 0, none⟩ (.string vq.1)) ∧ (w16.setCell ⟨w12.heap.size, 0, none⟩ (.string vq.1)).heap[w12.heap.size]? = some (.cells #[.string vq.1, .int .i64 0] 89 (0, 0))) := hid ⟨HD16.out.bel ((Below.refl _ _).setCell (by show w.heap.size ≤ w12.heap.size; omega) _), HK16.out.nwT (Nat.le_refl _), by rw [heap_setCell_same _ _ _ _ _ _ HB16.out]; rfl⟩
                  clear hx1 HU16 hcq hnu0
                  go_wp2_with fail
                  go_meet
                  exact HF
              case rest =>
              obtain ⟨hD17, hK17, hb17⟩ := hcut.out
              have c18 : wc.cell? ⟨w12.heap.size, 0, none⟩ = some (.string vq.1) := by rw [cell_of_row _ _ _ _ _ _ hb17]; rfl
              have HU17 := hid (usd_kt HUj2.out hK17 (show g ≤ pn by omega))
              have HD17 := hid hD17
              have HK17 := hid hK17
              have HB17 := hid hb17
              have hszc : w12.heap.size < wc.heap.size := heap_ltF hb17
              clear hcut hD17 hK17 hb17 HD16 HK16 HB16 HT1 HF1
              generalize wc = w17 at *
              go_wp2_with (first
                | (at_builtin; refine wpList_append_lies _ rfl _ _ 26 rfl (pn + 1) 9 iS (.string ⟨#[]⟩) 1 16 Tryz.underlying26 hS0 hS1 hS2 hS3 rfl (by decide) (.slice au nu cu) _ _ rfl (HU17.out.alloc _) ⟨w17.heap.size, 0, none⟩ 1 1 [.string vq.1] rfl rfl (new1_cellT _ _ _) (fun u hu => by simp at hu; subst hu; rfl) (by decide) (by unfold maxLen; omega) (by omega) (by rw [World.size_alloc]; omega) _ rfl ?_; intro g19 cp19 w19 hown19 hgrow19 hat19 hlt19)
                | fail)
              go_meet
              refine ⟨vq.1, 0, ud ++ [vq.1], vq.2, hid ⟨HN2.out, ?_, ((Kt.refl g pn w12).kc HK17.out).usd HU17.out hgrow19, ?_, ?_⟩⟩
              · exact HD17.out.bel (((Below.refl _ _).alloc (by omega) _).grown hgrow19 (by simp; omega) (fun c hc => by have := (HU17.out.lt c hc).1; omega))
              · rw [List.length_append, List.length_singleton, ← HNU.out, List.map_append]; exact hown19
              · exact (kept_of hgrow19 hszc (own_ne HU17.out ⟨_, HB17.out⟩ (by decide))).trans HB17.out
          case rest =>
          obtain ⟨x, val, ud', s', hcut⟩ := hcut
          obtain ⟨hE, hD20, hK20, hU20, hb20⟩ := hcut.out
          rename_i v9c
          have HE := hid hE
          have hTc := hK20.own HTj.out (show g < p16 + 1 by omega) (by decide)
          have h15c := hK20.heap H15.out (show p15 ≠ g by omega) (by decide)
          have h16c := hK20.heap H16.out (show p16 ≠ g by omega) (by decide)
          obtain ⟨at', ct', et⟩ := own_shapeR hTc
          subst et
          obtain ⟨au', cu', eu'⟩ := own_shapeR hU20
          subst eu'
          have HD20 := hid hD20
          have HK20 := hid (HKj.out.trans hK20)
          have HU20 := hid hU20
          have HTc := hid hTc
          have H15c := hid h15c
          have H16c := hid h16c
          have d16 : wc.cell? ⟨p16, 1, none⟩ = some (.slice at' j ct') := by rw [cell_of_row _ _ _ _ _ _ h16c]; rfl
          have d18 : wc.cell? ⟨w12.heap.size, 0, none⟩ = some (.string x) := by rw [cell_of_row _ _ _ _ _ _ hb20]; rfl
          have d19 : wc.cell? ⟨w12.heap.size, 1, none⟩ = some (.int .i64 val) := by rw [cell_of_row _ _ _ _ _ _ hb20]; rfl
          have hszc : w12.heap.size < wc.heap.size := heap_ltF hb20
          have hp16c : p16 < wc.heap.size := heap_ltF h16c
          have HNW : Hid (∀ jj u, [Value.string x, .int .i64 val][jj]? = some u → (wc.alloc (.cells #[.string x, .int .i64 val] 89)).cell? ((⟨wc.heap.size, 0, none⟩ : Addr).add jj) = some u) := hid (World.news_of_block (heap_alloc_new wc _))
          have HON : Hid (∀ u ∈ [Value.string x, .int .i64 val], u.oneCell' = true) := hid (fun u hu => by simp at hu; rcases hu with rfl | rfl <;> rfl)
          have HSA : Hid (∀ g21 cp21 w21, World.ownsRow w21 (p16 + 1) 89 2 (.slice (some ⟨g21, 0, none⟩) (j + 1) cp21) (j + 1) (ts.flatMap tmc ++ [Value.string x, .int .i64 val]) → (wc.alloc (.cells #[.string x, .int .i64 val] 89)).grownBy w21 (Value.slice at' j ct').ownBlock → (w21.cell? ⟨p16, 1, none⟩ = some (.slice at' j ct') ∧ w21.frozen? ⟨p16, 1, none⟩ = false) ∧ Hid (Dr w (w21.setCell ⟨p16, 1, none⟩ (.slice (some ⟨g21, 0, none⟩) (j + 1) cp21)) g a L n cap s' ∧ Kt g pn wo (w21.setCell ⟨p16, 1, none⟩ (.slice (some ⟨g21, 0, none⟩) (j + 1) cp21)) ∧ (w21.setCell ⟨p16, 1, none⟩ (.slice (some ⟨g21, 0, none⟩) (j + 1) cp21)).ownsRow (pn + 1) 9 1 (.slice au' ud'.length cu') ud'.length (ud'.map Value.string) ∧ (w21.setCell ⟨p16, 1, none⟩ (.slice (some ⟨g21, 0, none⟩) (j + 1) cp21)).heap[p15]? = some (.cells #[.string nm, .int .i64 (ar : Int), vr, vw] 45 (0, 0)) ∧ (w21.setCell ⟨p16, 1, none⟩ (.slice (some ⟨g21, 0, none⟩) (j + 1) cp21)).heap[p16]? = some (.cells #[.string nm, .slice (some ⟨g21, 0, none⟩) (j + 1) cp21] 55 (0, 0)) ∧ (w21.setCell ⟨p16, 1, none⟩ (.slice (some ⟨g21, 0, none⟩) (j + 1) cp21)).ownsRow (p16 + 1) 89 2 (.slice (some ⟨g21, 0, none⟩) (j + 1) cp21) (j + 1) ((ts ++ [(x, val)]).flatMap tmc))) := hid fun g21 cp21 w21 hown hg => by
            have k16 : w21.heap[p16]? = some (.cells #[.string nm, .slice at' j ct'] 55 (0, 0)) := (kept_of hg hp16c (own_ne HTc.out ⟨_, H16c.out⟩ (by decide))).trans H16c.out
            have k15 : w21.heap[p15]? = some (.cells #[.string nm, .int .i64 (ar : Int), vr, vw] 45 (0, 0)) := (kept_of hg (heap_ltF H15c.out) (own_ne HTc.out ⟨_, H15c.out⟩ (by decide))).trans H15c.out
            have hbel : Below wo.heap.size wc w21 := ((Below.refl _ _).alloc (by omega) _).grown hg (by rw [World.size_alloc]; omega) (fun c hc => by have := (HTc.out.lt c hc).1; omega)
            have hbel2 : Below wo.heap.size wc (w21.setCell ⟨p16, 1, none⟩ (.slice (some ⟨g21, 0, none⟩) (j + 1) cp21)) := hbel.setCell (by show wo.heap.size ≤ p16; omega) _
            refine ⟨⟨by rw [cell_of_row _ _ _ _ _ _ k16]; rfl, by unfold World.frozen?; rw [show w21.heap[p16]? = _ from k16]; simp⟩, hid ⟨HD20.out.bel (hbel2.mono (by omega)), HK20.out.up hbel2, ?_, ?_, ?_, ?_⟩⟩
            · exact own_setT (own_move HU20.out fun c hc => kept_of hg (HU20.out.lt c hc).2 (own_ne HTc.out (own_typ HU20.out hc) (by decide))) k16 (by decide)
            · rw [Below.heap_setCell _ _ _ _ (show p15 ≠ p16 by omega)]; exact k15
            · rw [heap_setCell_same _ _ _ _ _ _ k16]; rfl
            · rw [List.flatMap_append, List.flatMap_cons, List.flatMap_nil, List.append_nil]
              exact own_setN hown (by omega)
          clear hcut hE hD20 hK20 hU20 hb20 hTc h15c h16c HDj HKj HUj2 H15 H16 HTj HNJ hb18 HD13 HK13
          go_wp2_with (first
            | (at_builtin; refine wpList_append_lies _ rfl _ _ 53 rfl (p16 + 1) 89 iT (.agg #[.string ⟨#[]⟩, .int .i64 0]) 2 24 Tryz.underlying53 hT0 hT1 hT2 hT3 rfl (by decide) (.slice at' j ct') _ _ rfl (HTc.out.alloc _) ⟨wc.heap.size, 0, none⟩ 1 1 [.string x, .int .i64 val] rfl rfl HNW.out HON.out (by decide) (by unfold maxLen; omega) (by omega) (by rw [World.size_alloc]; omega) _ rfl ?_; intro g21 cp21 w21 hown21 hgrow21 hat21 hlt21; obtain ⟨⟨c21, f21⟩, HZ21⟩ := HSA.out g21 cp21 w21 hown21 hgrow21)
            | fail)
          clear hown21 hgrow21 hat21 hlt21 c21 f21 HSA HNW HON
          go_roundg (ar - (j + 1))
          case measure => omega
          case rel => exact ⟨j + 1, _, by go_num, by omega, rfl, by rw [HE.out]; exact HZ21⟩
        · obtain rfl : j = ar := by omega
          have j1 : ¬ (j : Int) < (j : Int) := by omega
          have hTl : (termsQ L n k j (decide (i + 1 = cnt)) j used s4).1.length = j := (termsQ_ok L n k j (decide (i + 1 = cnt)) used s4 (by omega) (by omega) HUsd.out j).1
          have hQj := HQz.out.kt hKj hgl
          obtain ⟨au, cu, eu⟩ := own_shapeR hUj
          subst eu
          obtain ⟨at', ct', et⟩ := own_shapeR hTj
          subst et
          obtain ⟨ay, cy, ey⟩ := own_shapeR hQj.own
          subst ey
          have HQj := hid hQj
          have HDj := hid hDj
          have HUj := hid hUj
          have HTj : Hid (w12.ownsRow (pn + 1) 89 2 (.slice at' j ct') (termsQ L n k j (decide (i + 1 = cnt)) j used s4).1.length ((termsQ L n k j (decide (i + 1 = cnt)) j used s4).1.flatMap tmc)) := hid (by rw [hTl]; exact own_base hTj (by omega))
          obtain ⟨-, -, -, d5, d5f⟩ := hQj.c5
          have d5f3 := d5f 3
          have d16 : w12.cell? ⟨p16, 0, none⟩ = some (.string nm) := by rw [cell_of_row _ _ _ _ _ _ h16]; rfl
          have d17 : w12.cell? ⟨p16, 1, none⟩ = some (.slice at' j ct') := by rw [cell_of_row _ _ _ _ _ _ h16]; rfl
          have hs12 : pn < w12.heap.size := hQj.lt
          obtain ⟨nu, hnu⟩ : ∃ nu, nu = us.length := ⟨_, rfl⟩
          have HNU := hid hnu
          have hnu8 : nu ≤ 8 := by omega
          have HNW : Hid (∀ jj u, [Value.string nm, .slice at' j ct'][jj]? = some u → (w12.alloc (.cells #[.string nm, .slice at' j ct'] 55)).cell? ((⟨w12.heap.size, 0, none⟩ : Addr).add jj) = some u) := hid (World.news_of_block (heap_alloc_new w12 _))
          have HON : Hid (∀ u ∈ [Value.string nm, .slice at' j ct'], u.oneCell' = true) := hid (fun u hu => by simp at hu; rcases hu with rfl | rfl <;> rfl)
          rw [← hnu] at d5
          have HOy : Hid (w12.ownsRow (pn + 1) 55 2 (.slice ay nu cy) nu (us.flatMap atc)) := hid (by rw [hnu]; exact hQj.own)
          have HSA : Hid (∀ g21 cp21 w21, World.ownsRow w21 (pn + 1) 55 2 (.slice (some ⟨g21, 0, none⟩) (nu + 1) cp21) (nu + 1) (us.flatMap atc ++ [Value.string nm, .slice at' j ct']) → (w12.alloc (.cells #[.string nm, .slice at' j ct'] 55)).grownBy w21 (Value.slice ay nu cy).ownBlock → (w21.cell? ⟨p, 3, none⟩ = some (.slice ay nu cy) ∧ w21.frozen? ⟨p, 3, none⟩ = false) ∧ Hid ((us ++ [(nm, Value.slice at' j ct', (termsQ L n k j (decide (i + 1 = cnt)) j used s4).1)]).map uAt = pats ++ (atomsQ L n ds k cnt (i + 1) [] s2).1 ∧ Dr w (w21.setCell ⟨p, 3, none⟩ (.slice (some ⟨g21, 0, none⟩) (nu + 1) cp21)) g a L n cap (atomsQ L n ds k cnt (i + 1) [] s2).2.2 ∧ QA w (w21.setCell ⟨p, 3, none⟩ (.slice (some ⟨g21, 0, none⟩) (nu + 1) cp21)) p pn (.slice (some ⟨bD, oD, none⟩) nd cD) rg (.slice none 0 0) (.slice (some ⟨g21, 0, none⟩) (nu + 1) cp21) (us ++ [(nm, Value.slice at' j ct', (termsQ L n k j (decide (i + 1 = cnt)) j used s4).1)]) ∧ (w21.setCell ⟨p, 3, none⟩ (.slice (some ⟨g21, 0, none⟩) (nu + 1) cp21)).ownsRow (pn + 1) 9 1 (.slice au (termsQ L n k j (decide (i + 1 = cnt)) j used s4).2.1.length cu) (atomsQ L n ds k cnt (i + 1) [] s2).2.1.length ((atomsQ L n ds k cnt (i + 1) [] s2).2.1.map Value.string))) := hid fun g21 cp21 w21 hown hg => by
            have hkp : w21.heap[p]? = w12.heap[p]? := kept_of hg (by omega) (fun e => by have := (HOy.out.lt p e.symm).1; omega)
            have e1 := HNX.out
            refine ⟨⟨?_, ?_⟩, hid ⟨?_, ?_, ?_, ?_⟩⟩
            · rw [World.cell?_of_block (w := w12) (a := ⟨p, 3, none⟩) hkp]; exact d5
            · rw [World.frozen?_of_block (w := w12) (a := ⟨p, 3, none⟩) hkp]; exact d5f3
            · rw [e1, List.map_append, HUs.out, List.append_assoc]; rfl
            · rw [e1]
              exact HDj.out.bel ((((Below.refl _ _).alloc (by omega) _).grown hg (by rw [World.size_alloc]; omega) (fun c hc => by have := (HOy.out.lt c hc).1; omega)).setCell (by show w.heap.size ≤ p; omega) _)
            · rw [hnu] at hown hg ⊢
              exact HQj.out.push HTj.out hg hown
            · rw [e1]
              exact usd_push HUj.out HOy.out hg (by omega)
          clear HJ hDj hKj hUj h15 h16 hTj hQj d5f htat htul hnu HNX
          go_wp2_with (first
            | (at_builtin; refine wpList_append_lies _ rfl _ _ 27 rfl (pn + 1) 55 iA (.agg #[.string ⟨#[]⟩, .slice none 0 0]) 2 40 Tryz.underlying27 hA0 hA1 hA2 hA3 rfl (by decide) (.slice ay nu cy) _ _ rfl (HOy.out.alloc _) ⟨w12.heap.size, 0, none⟩ 1 1 [.string nm, .slice at' j ct'] rfl rfl HNW.out HON.out (by decide) (by unfold maxLen; omega) (by omega) (by rw [World.size_alloc]; omega) _ rfl ?_; intro g21 cp21 w21 hown21 hgrow21 hat21 hlt21; obtain ⟨⟨c21, f21⟩, HZ21⟩ := HSA.out g21 cp21 w21 hown21 hgrow21)
            | fail)
          clear hown21 hgrow21 hat21 hlt21 c21 f21 HSA HNW HON
          go_roundg (cnt - (i + 1))
          case measure => omega
          case rel => exact ⟨i + 1, _, _, by go_num, by omega, rfl, HZ21⟩
    · obtain rfl : i = cnt := by omega
      have i1 : ¬ (i : Int) < (i : Int) := by omega
      obtain ⟨hUs, hDz, hQz, hUz⟩ := HH.out
      have hAE := HAT.out
      have hU2 : us.map uAt = (atsQ L n ds s0).1 := by rw [hAE]; exact hUs
      have hD2 : Dr w wo g a L n cap (atsQ L n ds s0).2 := by rw [hAE]; exact hDz
      have hGA := atsQ_ok hd hm L n s0
      have hsA : (atsQ L n ds s0).2.1 ≤ 1000100 := by rw [hAE]; show (atomsQ L n ds k i i [] s2).2.2.1 ≤ _; omega
      have hU4 := hUs
      clear HH hUs hDz hUz hAE HAT hat hul
      generalize atsQ L n ds s0 = AT at *
      obtain ⟨ats, sA⟩ := AT
      have hsA' : sA.1 ≤ 1000100 := hsA
      have hU3 : us.map uAt = ats := hU2
      have hIQ : IQ wo (.slice none 0 0) y ⟨⟨#[113]⟩, [], rg, ats⟩ := by rw [← hU3]; exact iq_own (B := pn + 1) (World.ownsRow_nil _ _ _ _) hQz.own hQz.tms
      have hOK : OkQ ⟨⟨#[113]⟩, [], rg, ats⟩ := okq_genO (show (1 : Nat) ≤ 1048576 by decide) (fun x hx => by simp at hx) hGA (Nat.zero_le _)
      have KV : Hid (Calls Tryz.prog 18 #[.agg #[.string ⟨#[113]⟩, .slice none 0 0, .int .i64 rg, y]] wo fun e w' => ∃ v, e = .returned v ∧ w'.ownsRow wo.heap.size 9 1 v (VL ats ats.length).length ((VL ats ats.length).map Value.string) ∧ Below wo.heap.size wo w') := hid (l3Vars_calls wo (.slice none 0 0) y ⟨⟨#[113]⟩, [], rg, ats⟩ hIQ hOK)
      have hVl : (VL ats ats.length).length ≤ 30 := by
        have h1 := VL_few (ats := ats) (fun a ha => (hGA.ok a ha).2) ats.length
        have h2 : ats.length ≤ 8 := by rw [← hU3, List.length_map]; have h3 := congrArg List.length hU4; rw [List.length_map, List.length_append] at h3; have h4 := (atomsQ_ok hd hm L n k i [] s2 (by omega) (by omega) (fun x hx => by simp at hx) i).1; omega
        omega
      have HU3 := hid hU3
      have HD2 : Hid (Dr w wo g a L n cap sA) := hid hD2
      have HQz := hid hQz
      obtain ⟨ay, cy, ey⟩ := own_shapeR hQz.own
      subst ey
      obtain ⟨c50, c51, c52, c53, -⟩ := hQz.c5
      have hpno := hQz.lt
      clear hIQ hOK hGA hU2 hU3 hD2 hsA hQz hU4
      have HDR2 : Hid (drawQ L n ds s0 = (⟨⟨#[113]⟩, (hdQ L n (VL ats ats.length) (VL ats ats.length).length sA).1, rg, ats⟩, (hdQ L n (VL ats ats.length) (VL ats ats.length).length sA).2)) := hid HDR.out
      clear HDR
      generalize VL ats ats.length = V at *
      generalize us.length = nus at *
      go_upto_block 6 with (first | (go_at_call 18; refine KV.out.mono ?_; rintro e w22 ⟨vv, rfl, hV22, hB22⟩; obtain ⟨av, cv, ev⟩ := own_shapeR hV22; subst ev) | fail)
      have HV22 := hid hV22
      have HD22 := hid (HD2.out.bel (hB22.mono HD2.out.kc.size))
      have HQ22 := hid (HQz.out.bel hB22 hgl)
      clear hV22 hB22 KV HD2 HQz c50 c51 c52 c53
      obtain ⟨NV, hNV⟩ : ∃ NV, NV = V.length := ⟨_, rfl⟩
      have HNV := hid hNV
      have hNV30 : NV ≤ 30 := by omega
      rw [← hNV] at HV22 HDR2 ⊢
      clear hNV hVl
      go_wp2_with fail
      go_loopg [182] NV (fun gk v182 wx => ∃ (t : Nat) (x : Value), v182 = .int .i64 t ∧ t ≤ NV ∧ gk = NV - t ∧ Hid (Dr w wx g a L n cap (hdQ L n V t sA).2 ∧ QA w wx p pn (.slice (some ⟨bD, oD, none⟩) nd cD) rg x (.slice ay nus cy) us ∧ wx.ownsRow (pn + 1) 9 1 x (hdQ L n V t sA).1.length ((hdQ L n V t sA).1.map Value.string) ∧ wx.ownsRow wo.heap.size 9 1 (.slice av NV cv) NV (V.map Value.string) ∧ ((hdQ L n V t sA).1 = [] → x = .slice none 0 0)))
      case atStart => exact ⟨0, _, rfl, Nat.zero_le _, rfl, hid ⟨HD22.out, HQ22.out, World.ownsRow_nil _ _ _ _, HV22.out, fun _ => rfl⟩⟩
      case round =>
        clear HD22 HQ22 HV22
        obtain ⟨t, x, rfl, ht, hgk2, HJ⟩ := hrel
        generalize wr = w23 at *
        obtain ⟨hD23, hQ23, hO23, hV23, hN23⟩ := HJ.out
        obtain ⟨hhat, hhl⟩ := hdQ_at L n V sA t
        obtain ⟨ax, cx, ex⟩ := own_shapeR hO23
        subst ex
        have HD23 := hid hD23
        have HQ23 := hid hQ23
        have HO23 := hid hO23
        have HV23 := hid hV23
        have HN23 := hid hN23
        clear HJ hD23 hQ23 hO23 hV23 hN23
        have HNX : Hid (hdQ L n V (t + 1) sA = (if (pkF L n 5 (hdQ L n V t sA).2).1 ≤ 2 then V.getD t noB :: (hdQ L n V t sA).1 else (hdQ L n V t sA).1, (pkF L n 5 (hdQ L n V t sA).2).2)) := hid rfl
        by_cases htl : t < NV
        · have t1 : (t : Int) < (NV : Int) := by omega
          generalize hdQ L n V t sA = HT at *
          obtain ⟨hh, sB⟩ := HT
          have hsB : sB.1 ≤ 1000140 := by have : sB.1 ≤ sA.1 + t := hhat; omega
          have hhl' : hh.length ≤ 30 := by have : hh.length ≤ t := hhl; omega
          clear hhat hhl
          obtain ⟨gV, cV', eV, -, -⟩ := HV23.out.form (show 0 < NV by omega)
          simp only [Value.slice.injEq, true_and] at eV
          obtain ⟨rfl, rfl⟩ := eV
          have cV : w23.cell? ⟨gV, t, none⟩ = some (.string (V.getD t noB)) := by
            rw [HV23.out.cellAt t (by omega), List.getElem?_map, List.getElem?_eq_getElem (by have := HNV.out; omega), List.getD_eq_getElem?_getD, List.getElem?_eq_getElem (by have := HNV.out; omega)]
            rfl
          generalize V.getD t noB = vn at *
          have KP5 : Hid (Calls Tryz.prog 35 #[.pointer (some ⟨g, 0, none⟩), .int .i64 ((5 : Nat) : Int)] w23 fun e w' => e = .returned (.int .i64 ((pkF L n 5 sB).1 : Nat)) ∧ Dr w w' g a L n cap (pkF L n 5 sB).2 ∧ Kc g w23 w') := hid (HD23.out.pick hn (by show sB.1 ≤ _; omega) (m := 5) (by omega))
          go_upto_if 188 with (first | (go_at_call 35; refine KP5.out.mono ?_; rintro e w24 ⟨rfl, hD24, hK24⟩) | fail)
          have hQ24 := HQ23.out.kc hK24 hgl
          have hO24 := usd_kt HO23.out hK24 (show g ≤ pn by omega)
          have hV24 := own_kcF HV23.out hK24 (show g < wo.heap.size by omega)
          have hpn24 := hQ24.lt
          have HD24 := hid hD24
          have HQ24 := hid hQ24
          have HO24 := hid hO24
          have HV24 := hid hV24
          clear hD24 hK24 KP5 cV HQ23 HO23 HV23 HD23
          by_cases hz2 : (pkF L n 5 sB).1 ≤ 2
          · have z2 : ((((pkF L n 5 sB).1 : Nat) : Int)) ≤ 2 := by omega
            have HNX2 : Hid (hdQ L n V (t + 1) sA = (vn :: hh, (pkF L n 5 sB).2)) := hid (HNX.out.trans (by show (if _ then _ else _, _) = _; rw [if_pos hz2]))
            have hB25 : Below w24.heap.size w24 (w24.alloc (.cells #[.string vn] 9)) := (Below.refl _ _).alloc (Nat.le_refl _) _
            have hQ25 := hQ24.bel hB25 hgl
            obtain ⟨-, c51, -, -, c5f⟩ := hQ25.c5
            have c5f1 := c5f 1
            have HOL : Hid ((w24.alloc (.cells #[.string vn] 9)).ownsRow (pn + 1) 9 1 (.slice (some ⟨w24.heap.size, 0, none⟩) 1 1) 1 [.string vn]) := hid (World.ownsRow_lit w24 #[.string vn] 1 (by omega) (by decide) rfl)
            have hp24 : p < w24.heap.size := by omega
            clear HNX hz2 c5f
            cases hh with
            | nil =>
              have hx0 := HN23.out rfl
              simp only [List.length_nil, Value.slice.injEq, true_and] at hx0
              obtain ⟨rfl, rfl⟩ := hx0
              have HF : Hid (Dr w ((w24.alloc (.cells #[.string vn] 9)).setCell ⟨p, 1, none⟩ (.slice (some ⟨w24.heap.size, 0, none⟩) 1 1)) g a L n cap (pkF L n 5 sB).2 ∧ QA w ((w24.alloc (.cells #[.string vn] 9)).setCell ⟨p, 1, none⟩ (.slice (some ⟨w24.heap.size, 0, none⟩) 1 1)) p pn (.slice (some ⟨bD, oD, none⟩) nd cD) rg (.slice (some ⟨w24.heap.size, 0, none⟩) 1 1) (.slice ay nus cy) us ∧ ((w24.alloc (.cells #[.string vn] 9)).setCell ⟨p, 1, none⟩ (.slice (some ⟨w24.heap.size, 0, none⟩) 1 1)).ownsRow (pn + 1) 9 1 (.slice (some ⟨w24.heap.size, 0, none⟩) 1 1) 1 [.string vn] ∧ ((w24.alloc (.cells #[.string vn] 9)).setCell ⟨p, 1, none⟩ (.slice (some ⟨w24.heap.size, 0, none⟩) 1 1)).ownsRow wo.heap.size 9 1 (.slice (some ⟨gV, 0, none⟩) NV cv) NV (V.map Value.string)) := hid ⟨HD24.out.bel (((Below.refl _ _).alloc HD24.out.kc.size _).setCell (by show w.heap.size ≤ p; omega) _), hQ25.head _, own_setN HOL.out (by omega), own_setN (own_below HV24.out hB25) (by omega)⟩
              clear hB25 hQ25 hQ24 hO24 hV24
              go_wp2_with (first
                | (at_builtin; refine wpList_append_own_none rfl _ _ 26 rfl (pn + 1) 9 iS 1 Tryz.underlying26 hS0 (.slice (some ⟨w24.heap.size, 0, none⟩) 1 1) 1 [.string vn] rfl HOL.out rfl ?_)
                | fail)
              go_roundg (NV - (t + 1))
              case measure => omega
              case rel =>
                rw [World.setCell_alloc_past _ _ _ _ hp24] at HF
                exact ⟨t + 1, _, by go_num, by omega, rfl, hid ⟨by rw [HNX2.out]; exact HF.out.1, HF.out.2.1, by rw [HNX2.out]; exact HF.out.2.2.1, HF.out.2.2.2, (fun h => by rw [HNX2.out] at h; cases h)⟩⟩
            | cons h1 hr =>
              obtain ⟨gx, cx', eX, -, -⟩ := HO24.out.form (by show 0 < (h1 :: hr).length; simp)
              simp only [Value.slice.injEq, true_and] at eX
              obtain ⟨rfl, rfl⟩ := eX
              generalize hhh : h1 :: hr = hh at *
              have hhp : 0 < hh.length := by rw [← hhh]; simp
              clear hhh
              obtain ⟨nx, hnx⟩ : ∃ nx, nx = hh.length := ⟨_, rfl⟩
              have HNXL := hid hnx
              have c51' : (w24.alloc (.cells #[.string vn] 9)).cell? ⟨p, 1, none⟩ = some (.slice (some ⟨gx, 0, none⟩) nx cx) := by rw [hnx]; exact c51
              have HO24' : Hid (w24.ownsRow (pn + 1) 9 1 (.slice (some ⟨gx, 0, none⟩) nx cx) nx (hh.map Value.string)) := hid (by rw [hnx]; exact HO24.out)
              have hnx30 : nx ≤ 30 := by omega
              have hnx0 : 0 < nx := by omega
              have HNW : Hid (∀ jj u, (hh.map Value.string)[jj]? = some u → (w24.alloc (.cells #[.string vn] 9)).cell? ((⟨gx, 0, none⟩ : Addr).add jj) = some u) := hid (own_newsT (own_below HO24'.out hB25))
              have HON : Hid (∀ u ∈ hh.map Value.string, u.oneCell' = true) := hid (fun u hu => by rw [List.mem_map] at hu; obtain ⟨_, _, rfl⟩ := hu; rfl)
              have HLL : Hid ((hh.map Value.string).length = nx * 1) := hid (by rw [List.length_map, hnx, Nat.mul_one])
              have HSA : Hid (∀ g26 cp26 w26, World.ownsRow w26 (pn + 1) 9 1 (.slice (some ⟨g26, 0, none⟩) (1 + nx) cp26) (1 + nx) ([.string vn] ++ hh.map Value.string) → (w24.alloc (.cells #[.string vn] 9)).grownBy w26 (Value.slice (some ⟨w24.heap.size, 0, none⟩) 1 1).ownBlock → (w26.cell? ⟨p, 1, none⟩ = some (.slice (some ⟨gx, 0, none⟩) nx cx) ∧ w26.frozen? ⟨p, 1, none⟩ = false) ∧ Hid (Dr w (w26.setCell ⟨p, 1, none⟩ (.slice (some ⟨g26, 0, none⟩) (1 + nx) cp26)) g a L n cap (pkF L n 5 sB).2 ∧ QA w (w26.setCell ⟨p, 1, none⟩ (.slice (some ⟨g26, 0, none⟩) (1 + nx) cp26)) p pn (.slice (some ⟨bD, oD, none⟩) nd cD) rg (.slice (some ⟨g26, 0, none⟩) (1 + nx) cp26) (.slice ay nus cy) us ∧ (w26.setCell ⟨p, 1, none⟩ (.slice (some ⟨g26, 0, none⟩) (1 + nx) cp26)).ownsRow (pn + 1) 9 1 (.slice (some ⟨g26, 0, none⟩) (1 + nx) cp26) (vn :: hh).length ((vn :: hh).map Value.string) ∧ (w26.setCell ⟨p, 1, none⟩ (.slice (some ⟨g26, 0, none⟩) (1 + nx) cp26)).ownsRow wo.heap.size 9 1 (.slice (some ⟨gV, 0, none⟩) NV cv) NV (V.map Value.string))) := hid fun g26 cp26 w26 hown hg => by
                have hb26 : Below w24.heap.size w24 w26 := hB25.grown hg (by rw [World.size_alloc]; omega) (fun c hc => by simp [Value.ownBlock] at hc; omega)
                have hQ26 := HQ24.out.bel hb26 hgl
                have hk : w26.heap[p]? = w24.heap[p]? := hb26.block p hp24
                refine ⟨⟨?_, ?_⟩, hid ⟨HD24.out.bel ((hb26.mono HD24.out.kc.size).setCell (by show w.heap.size ≤ p; omega) _), hQ26.head _, ?_, own_setN (own_below HV24.out hb26) (by omega)⟩⟩
                · rw [hnx]; exact hQ26.c5.2.1
                · exact hQ26.c5.2.2.2.2 1
                · rw [show (vn :: hh).length = 1 + nx by rw [List.length_cons, hnx]; omega]
                  exact own_setN hown (by omega)
              clear hB25 hQ25 hQ24 hO24 hV24 c51 HO24 HN23
              clear hnx hhp
              go_wp2_with (first
                | (at_builtin; refine wpList_append_lies _ rfl _ _ 26 rfl (pn + 1) 9 iS (.string ⟨#[]⟩) 1 16 Tryz.underlying26 hS0 hS1 hS2 hS3 rfl (by decide) (.slice (some ⟨w24.heap.size, 0, none⟩) 1 1) 1 [.string vn] rfl HOL.out ⟨gx, 0, none⟩ nx cx (hh.map Value.string) rfl HLL.out HNW.out HON.out hnx0 (by unfold maxLen; omega) (by omega) (by rw [World.size_alloc]; omega) _ rfl ?_; intro g26 cp26 w26 hown26 hgrow26 hat26 hlt26; obtain ⟨⟨c26, f26⟩, HZ26⟩ := HSA.out g26 cp26 w26 hown26 hgrow26)
                | fail)
              clear hown26 hgrow26 hat26 hlt26 c26 f26 HSA
              go_roundg (NV - (t + 1))
              case measure => omega
              case rel => exact ⟨t + 1, _, by go_num, by omega, rfl, hid ⟨by rw [HNX2.out]; exact HZ26.out.1, HZ26.out.2.1, by rw [HNX2.out]; exact HZ26.out.2.2.1, HZ26.out.2.2.2, (fun h => by rw [HNX2.out] at h; cases h)⟩⟩
          · have z2 : ¬ ((((pkF L n 5 sB).1 : Nat) : Int)) ≤ 2 := by omega
            have HNX2 : Hid (hdQ L n V (t + 1) sA = (hh, (pkF L n 5 sB).2)) := hid (HNX.out.trans (by show (if _ then _ else _, _) = _; rw [if_neg hz2]))
            clear HNX hz2 hQ24 hO24 hV24
            go_wp2_with fail
            go_roundg (NV - (t + 1))
            case measure => omega
            case rel => exact ⟨t + 1, _, by go_num, by omega, rfl, hid ⟨by rw [HNX2.out]; exact HD24.out, HQ24.out, by rw [HNX2.out]; exact HO24.out, HV24.out, (fun h => by rw [HNX2.out] at h; exact HN23.out h)⟩⟩
        · obtain rfl : t = NV := by omega
          have t1 : ¬ (t : Int) < (t : Int) := by omega
          clear HNX HN23 HV23
          generalize hdQ L n V t sA = HT at *
          obtain ⟨hh, sB⟩ := HT
          obtain ⟨nx, hnx⟩ : ∃ nx, nx = hh.length := ⟨_, rfl⟩
          have HNXL := hid hnx
          rw [show (hh, sB).1.length = nx from hnx.symm] at HQ23 HO23
          have hQ := HQ23.out
          obtain ⟨c50, c51, c52, c53, -⟩ := hQ.c5
          obtain ⟨d0, d1, d2, d3, f0, f1, f2, f3⟩ := boxq_cellsO hQ.b4
          have hp1 : ¬ w.heap.size + 1 = p := by omega
          obtain ⟨WF, hWF⟩ : ∃ WF, WF = (((w23.setCell ⟨w.heap.size + 1, 0, none⟩ (.string ⟨#[113]⟩)).setCell ⟨w.heap.size + 1, 1, none⟩ (.slice ax nx cx)).setCell ⟨w.heap.size + 1, 2, none⟩ (.int .i64 rg)).setCell ⟨w.heap.size + 1, 3, none⟩ (.slice ay nus cy) := ⟨_, rfl⟩
          have mv : ∀ {e : TypeId} {s' k' : Nat} {z : Value} {xs : List Value}, w23.ownsRow (pn + 1) e s' z k' xs → WF.ownsRow (pn + 1) e s' z k' xs := fun hz => by rw [hWF]; exact own_setN (own_setN (own_setN (own_setN hz (by omega)) (by omega)) (by omega)) (by omega)
          have hbF : WF.heap[w.heap.size + 1]? = some (.cells #[.string ⟨#[113]⟩, .slice ax nx cx, .int .i64 rg, .slice ay nus cy] 29 (0, 0)) := by rw [hWF]; exact set4T hQ.b4
          obtain ⟨r0, r1, r2, r3, -, -, -, -⟩ := boxq_cellsO hbF
          have HFin : Hid (DQE w g a L n cap ds s0 (.returned (.agg #[.string ⟨#[113]⟩, .slice ax nx cx, .int .i64 rg, .slice ay nus cy])) WF) := hid (by
            refine ⟨.slice ax nx cx, .slice ay nus cy, us, pn + 1, ?_, ?_, ?_, by omega, ?_, mv hQ.own, fun u hu => mv (hQ.tms u hu)⟩
            · rw [HDR2.out]
            · rw [HDR2.out, hWF]
              exact HD23.out.bel (bel4T (show w.heap.size ≤ w.heap.size + 1 by omega))
            · rw [HDR2.out]; exact HU3.out
            · rw [HDR2.out]
              show WF.ownsRow (pn + 1) 9 1 (.slice ax nx cx) hh.length (hh.map Value.string)
              rw [← hnx]
              exact mv (by have := HO23.out; exact this))
          clear hnx mv hbF hQ
          go_wp2_with fail
          rw [← hWF]
          refine bodyPost_ret (v := .agg #[.string ⟨#[113]⟩, .slice ax nx cx, .int .i64 rg, .slice ay nus cy]) (by simp [results, Tryz.results15, go_sem, r0, r1, r2, r3]) rfl ?_
          exact HFin.out

end Go.Proofs.YtcdfoephhjacdaaGreatDoor
