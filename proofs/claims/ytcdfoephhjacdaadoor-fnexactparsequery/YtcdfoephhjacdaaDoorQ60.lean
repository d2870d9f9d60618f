import Derived.Deep.RegionHeldLaw
import Derived.Test.YtcdfoephhjacdaaDoorQ59
/-
  The model's reader: atom, walked.
-/
namespace Go.Proofs.YtcdfoephhjacdaaDoor
open Go.RowKit

theorem own_shapeT2 {w : World} {B n s : Nat} {e : TypeId} {v : Value} {xs : List Value} (h : w.ownsRow B e s v n xs) : ∃ a cap, v = .slice a n cap := by
  rcases h.2 with ⟨rfl, h2⟩ | ⟨g, cap, cur, rfl, -⟩
  · exact ⟨none, 0, by rw [h2]⟩
  · exact ⟨_, cap, rfl⟩
theorem new2_cell (w : World) (x y : Value) (t : TypeId) : ∀ j v, [x, y][j]? = some v → (w.alloc (.cells #[x, y] t)).cell? ((⟨w.heap.size, 0, none⟩ : Addr).add j) = some v := by
  intro j v hj
  have e : (⟨w.heap.size, 0, none⟩ : Addr).add j = ⟨w.heap.size, j, none⟩ := by unfold Addr.add; by_cases h0 : j = 0 <;> simp [h0]
  rw [e, World.cell?_alloc_at _ _ _ _ rfl]
  match j, hj with
  | 0, hj => simpa using hj
  | 1, hj => simpa using hj
  | j + 2, hj => simp at hj
/-- where the reader stands -/
def posOf (W : World) (g : Nat) : Nat := match W.cell? ⟨g, 1, none⟩ with | some (.int _ z) => z.toNat | _ => 0
theorem RdB.pos {W : World} {g p : Nat} {v : Value} {b : Bool} (h : RdB W g v p b) : posOf W g = p := by unfold posOf; rw [h.c1]; simp

/-- the term that is read at p, and the state behind it -/
def tmA (ts : List TkV) (p : Nat) (b : Bool) : TermV := (if ntB ts p b 48 then ⟨#[]⟩ else if ntB ts p b 97 then (ts.getD p noTk).nm else ⟨#[]⟩, if ntB ts p b 48 then ((ts.getD p noTk).v : Int) else 0)
def tmP (ts : List TkV) (p : Nat) (b : Bool) : Nat := if ntB ts p b 48 then p + 1 else if ntB ts p b 97 then p + 1 else p
def tmQ (ts : List TkV) (p : Nat) (b : Bool) : Bool := if ntB ts p b 48 then b else if ntB ts p b 97 then b else true
/-- the loop's state: what is read so far gives the whole -/
def AtI (ts : List TkV) (R : Except Nat (AtomV × Nat)) (rel : ByteArray) (p : Nat) (b : Bool) (acc : List TermV) : Prop := if b then R = .error p else ∃ f, ts.length ≤ p + f ∧ R = finA (cntF ts f p acc) rel
theorem AtI.first {ts : List TkV} {R : Except Nat (AtomV × Nat)} {rel : ByteArray} {p f : Nat} {b : Bool} {acc : List TermV} (hok : ∀ j, j < ts.length → TkOk (ts.getD j noTk)) (h : if b then R = .error p else ts.length ≤ p + f ∧ R = finA (trmF ts f p acc) rel) : AtI ts R rel (tmP ts p b) (tmQ ts p b) (acc ++ [tmA ts p b]) := by
  cases b with
  | true => exact h
  | false =>
    obtain ⟨hf, hR⟩ := h
    unfold tmP tmQ tmA AtI
    by_cases h48 : ntB ts p false 48 = true
    · obtain ⟨-, hp, hk⟩ := ntB_iff.1 h48
      obtain ⟨f', hf', e⟩ := trm_yes (acc := acc) hf hp (Or.inr hk)
      rw [h48]
      refine ⟨f', hf', ?_⟩
      rw [hR, e]
      have hn : (ts.getD p noTk).nm = ⟨#[]⟩ := (hok p hp).nm (by omega)
      rw [hn]; rfl
    · rw [Bool.not_eq_true] at h48
      by_cases h97 : ntB ts p false 97 = true
      · obtain ⟨-, hp, hk⟩ := ntB_iff.1 h97
        obtain ⟨f', hf', e⟩ := trm_yes (acc := acc) hf hp (Or.inl hk)
        rw [h48, h97]
        refine ⟨f', hf', ?_⟩
        rw [hR, e]
        have hn : (ts.getD p noTk).v = 0 := (hok p hp).vz hk
        rw [hn]; rfl
      · rw [Bool.not_eq_true] at h97
        rw [h48, h97]
        show R = .error p
        rw [hR, trm_no (fun hp => ⟨fun e => absurd (ntB_iff.2 ⟨rfl, hp, e⟩) (by rw [h97]; decide), fun e => absurd (ntB_iff.2 ⟨rfl, hp, e⟩) (by rw [h48]; decide)⟩)]
        rfl

theorem at2_set {W : World} {r : Nat} {u v x y : Value} (h : W.heap[r]? = some (.cells #[u, v] 96 (0, 0))) : ((W.setCell ⟨r, 0, none⟩ x).setCell ⟨r, 1, none⟩ y).heap[r]? = some (.cells #[x, y] 96 (0, 0)) := by
  have h1 : (W.setCell ⟨r, 0, none⟩ x).heap[r]? = some (.cells #[x, v] 96 (0, 0)) := by rw [heap_setCell_same _ _ _ _ _ _ h]; rfl
  rw [heap_setCell_same _ _ _ _ _ _ h1]; rfl
theorem own_setA {W : World} {B n r o : Nat} {x y u v : Value} {xs : List Value} (h : W.ownsRow B 145 2 x n xs) (hr : W.heap[r]? = some (.cells #[u, v] 96 (0, 0))) : (W.setCell ⟨r, o, none⟩ y).ownsRow B 145 2 x n xs :=
  own_move h fun b hb => Below.heap_setCell _ _ _ _ (fun e => by
    obtain ⟨cur, ht⟩ := own_typ h hb
    rw [show b = r from e, hr] at ht
    simp at ht)

/-- how atom ends -/
def AtE (w : World) (g : Nat) (v : Value) (R : Except Nat (AtomV × Nat)) (e : Ending) (w' : World) : Prop := ∃ rel x acc, e = .returned (.agg #[.string rel, x]) ∧ w'.ownsRow w.heap.size 145 2 x acc.length (acc.flatMap tmc) ∧ Ex g w w' ∧ RdB w' g v (aft R).1 (aft R).2 ∧ ∀ a p', R = .ok (a, p') → a = (rel, acc)

set_option maxHeartbeats 16000000 in
set_option maxRecDepth 1000000 in
theorem rAtom_calls (w : World) (g : Nat) (v : Value) (ts : List TkV) (p : Nat) (b : Bool) (h : RdB w g v p b) (hv : ITk w v ts) (ha : Apt v g) (hok : ∀ j, j < ts.length → TkOk (ts.getD j noTk)) (hl : ts.length ≤ 100000) (hp : p ≤ ts.length) :
    Calls Tryd.prog 55 #[.pointer (some ⟨g, 0, none⟩)] w (AtE w g v (atmB ts p b)) := by
  obtain ⟨iT, hi, hz0, hz1, hz2⟩ := info_parts Tryd.infoTm
  obtain ⟨W1, hW1⟩ : ∃ W, W = w.alloc (.cells #[.string ⟨#[]⟩, .slice none 0 0] 96) := ⟨_, rfl⟩
  have hB1 : Below w.heap.size w W1 := by rw [hW1]; exact (Below.refl _ _).alloc (Nat.le_refl _) _
  have hR0 : W1.heap[w.heap.size]? = some (.cells #[.string ⟨#[]⟩, .slice none 0 0] 96 (0, 0)) := by rw [hW1]; exact heap_alloc_new _ _
  have hs1 : w.heap.size < W1.heap.size := by rw [hW1]; simp
  have hglt := h.lt
  have HV : Hid (∀ W, Ex g w W → ITk W v ts) := hid fun W hW => hv.ex ha hW
  have HX1 : Hid (Ex g w W1) := hid (Ex.bel hB1)
  have HR0 := hid hR0
  have KN := hid (rName_calls W1 g v ts p b (h.below hB1) (HV.out W1 HX1.out) ha (by omega))
  have KW : Hid (∀ W p b c, Ex g w W → RdB W g v p b → p ≤ 1048576 → (c = 40 ∨ c = 41 ∨ c = 44 ∨ c = 59 ∨ c = 46 ∨ c = 58) → _) := hid fun W p b c h1 h2 h3 h4 => rWant_calls W g v ts p b c h2 (HV.out W h1) hok h3 h4
  have KTk : Hid (∀ W p b c, Ex g w W → RdB W g v p b → p ≤ 1048576 → (c = 40 ∨ c = 41 ∨ c = 44 ∨ c = 59 ∨ c = 46 ∨ c = 58) → _) := hid fun W p b c h1 h2 h3 h4 => rTake_calls W g v ts p b c h2 (HV.out W h1) hok h3 h4
  have KTm : Hid (∀ W p b, Ex g w W → RdB W g v p b → p ≤ 1048576 → Calls Tryd.prog 84 #[.pointer (some ⟨g, 0, none⟩)] W fun e w' => e = .returned (.agg #[.string (tmA ts p b).1, .int .i64 (tmA ts p b).2]) ∧ RdB w' g v (tmP ts p b) (tmQ ts p b) ∧ Ex g W w') := hid fun W p b h1 h2 h3 => rTerm_calls W g v ts p b h2 (HV.out W h1) ha h3
  have HRES : Hid (∀ rel p2 b2, (ntB ts p b 97 = false → b2 = true ∧ p2 = p) → (ntB ts p b 97 = true → rel = (ts.getD p noTk).nm ∧ p2 = (if tkB ts (p + 1) b 40 then p + 2 else p + 1) ∧ b2 = (if tkB ts (p + 1) b 40 then b else true)) → (if b2 then atmB ts p b = .error p2 else ts.length ≤ p2 + (ts.length + 1) ∧ atmB ts p b = finA (trmF ts (ts.length + 1) p2 []) rel)) := hid fun rel p2 b2 h1 h2 => by
    cases hn : ntB ts p b 97
    · obtain ⟨rfl, rfl⟩ := h1 hn
      show atmB ts p2 b = .error p2
      unfold atmB
      cases b
      · show atmF ts p2 = _
        unfold atmF
        rw [tk_no (fun hp hm => by simp only [List.mem_cons, List.not_mem_nil, or_false] at hm; rw [ntB_iff.2 ⟨rfl, hp, hm⟩] at hn; cases hn)]
      · rfl
    · obtain ⟨rfl, rfl, rfl⟩ := h2 hn
      obtain ⟨rfl, hp1, hk1⟩ := ntB_iff.1 hn
      have e1 : atmB ts p false = (match tk ts [40] (p + 1) with | .error e => .error e | .ok (_, p2) => match trmF ts (ts.length + 1) p2 [] with | .error e => .error e | .ok (l, p3) => .ok (((ts.getD p noTk).nm, l), p3)) := by
        show atmF ts p = _
        unfold atmF
        rw [tk_ok hp1 (by rw [hk1]; simp)]
        rfl
      cases ht : tkB ts (p + 1) false 40
      · show atmB ts p false = .error (p + 1)
        rw [e1, tk_no (fun hp hm => by simp only [List.mem_cons, List.not_mem_nil, or_false] at hm; rw [tkB_iff.2 ⟨rfl, hp, hm⟩] at ht; cases ht)]
      · obtain ⟨-, hp2, hk2⟩ := tkB_iff.1 ht
        refine ⟨by omega, ?_⟩
        rw [e1, tk_ok hp2 (by rw [hk2]; simp)]
        rfl
  have HFin : Hid (∀ rel p2 b2 acc, AtI ts (atmB ts p b) rel p2 b2 acc → tkB ts p2 b2 44 = false → aft (atmB ts p b) = (if tkB ts p2 b2 41 then (p2 + 1, b2) else (p2, true)) ∧ ∀ a p', atmB ts p b = .ok (a, p') → a = (rel, acc)) := hid fun rel p2 b2 acc hI h44 => by
    cases b2
    · obtain ⟨f, hf, e⟩ := hI
      cases h41 : tkB ts p2 false 41
      · have e2 : cntF ts f p2 acc = .error p2 := cnt_no fun hp => ⟨fun e => absurd (tkB_iff.2 ⟨rfl, hp, e⟩) (by rw [h44]; decide), fun e => absurd (tkB_iff.2 ⟨rfl, hp, e⟩) (by rw [h41]; decide)⟩
        rw [e2] at e
        rw [e]
        exact ⟨rfl, fun a p' e3 => by cases e3⟩
      · obtain ⟨-, hp, hk⟩ := tkB_iff.1 h41
        rw [cnt_end hp hk] at e
        rw [e]
        refine ⟨rfl, fun a p' e3 => ?_⟩
        have e4 : ((rel, acc), p2 + 1) = (a, p') := Except.ok.inj e3
        exact (congrArg Prod.fst e4).symm
    · have e : atmB ts p b = .error p2 := hI
      have h41 : tkB ts p2 true 41 = false := rfl
      rw [e, h41]
      exact ⟨rfl, fun a p' e3 => by cases e3⟩
  have HNext : Hid (∀ rel p2 b2 acc, AtI ts (atmB ts p b) rel p2 b2 acc → tkB ts p2 b2 44 = true → p2 < ts.length ∧ AtI ts (atmB ts p b) rel (tmP ts (p2 + 1) b2) (tmQ ts (p2 + 1) b2) (acc ++ [tmA ts (p2 + 1) b2])) := hid fun rel p2 b2 acc hI h44 => by
    obtain ⟨rfl, hp, hk⟩ := tkB_iff.1 h44
    obtain ⟨f, hf, e⟩ := hI
    refine ⟨hp, AtI.first (f := f) hok ⟨by omega, ?_⟩⟩
    rw [e, cnt_com hp hk]
  have HF1 : Hid (∀ rel p2 b2 f acc, (if b2 then atmB ts p b = .error p2 else ts.length ≤ p2 + f ∧ atmB ts p b = finA (trmF ts f p2 acc) rel) → AtI ts (atmB ts p b) rel (tmP ts p2 b2) (tmQ ts p2 b2) (acc ++ [tmA ts p2 b2])) := hid fun rel p2 b2 f acc h => AtI.first hok h
  have HTP : Hid (∀ p2 b2, p2 ≤ ts.length → p2 ≤ tmP ts p2 b2 ∧ tmP ts p2 b2 ≤ ts.length) := hid fun p2 b2 hp2 => by
    unfold tmP
    cases h48 : ntB ts p2 b2 48
    · cases h97 : ntB ts p2 b2 97
      · exact ⟨Nat.le_refl _, hp2⟩
      · obtain ⟨-, h1, -⟩ := ntB_iff.1 h97
        exact ⟨Nat.le_succ _, h1⟩
    · obtain ⟨-, h1, -⟩ := ntB_iff.1 h48
      exact ⟨Nat.le_succ _, h1⟩
  generalize hRR : atmB ts p b = R at *
  clear hRR h hv ha
  have KW40 : Hid (∀ W p b, Ex g w W → RdB W g v p b → p ≤ 1048576 → Calls Tryd.prog 51 #[.pointer (some ⟨g, 0, none⟩), .string ⟨#[40]⟩] W fun e w' => e = .returned (.tuple #[]) ∧ RdB w' g v (if tkB ts p b 40 then p + 1 else p) (if tkB ts p b 40 then b else true) ∧ Ex g W w') := hid fun W p b h1 h2 h3 => KW.out W p b 40 h1 h2 h3 (by omega)
  have KW41 : Hid (∀ W p b, Ex g w W → RdB W g v p b → p ≤ 1048576 → Calls Tryd.prog 51 #[.pointer (some ⟨g, 0, none⟩), .string ⟨#[41]⟩] W fun e w' => e = .returned (.tuple #[]) ∧ RdB w' g v (if tkB ts p b 41 then p + 1 else p) (if tkB ts p b 41 then b else true) ∧ Ex g W w') := hid fun W p b h1 h2 h3 => KW.out W p b 41 h1 h2 h3 (by omega)
  have KT44 : Hid (∀ W p b, Ex g w W → RdB W g v p b → p ≤ 1048576 → Calls Tryd.prog 53 #[.pointer (some ⟨g, 0, none⟩), .string ⟨#[44]⟩] W fun e w' => e = .returned (.bool (tkB ts p b 44)) ∧ RdB w' g v (if tkB ts p b 44 then p + 1 else p) b ∧ Ex g W w') := hid fun W p b h1 h2 h3 => KTk.out W p b 44 h1 h2 h3 (by omega)
  have HHr : Hid (∀ p1 b1, p1 = (if ntB ts p b 97 then p + 1 else p) → b1 = (if ntB ts p b 97 then b else true) → p1 ≤ ts.length ∧ (if tkB ts p1 b1 40 then p1 + 1 else p1) ≤ ts.length ∧ ∀ rel, rel = (if ntB ts p b 97 then (ts.getD p noTk).nm else ⟨#[]⟩ : ByteArray) → (if (if tkB ts p1 b1 40 then b1 else true) = true then R = .error (if tkB ts p1 b1 40 then p1 + 1 else p1) else ts.length ≤ (if tkB ts p1 b1 40 then p1 + 1 else p1) + (ts.length + 1) ∧ R = finA (trmF ts (ts.length + 1) (if tkB ts p1 b1 40 then p1 + 1 else p1) []) rel)) := hid fun p1 b1 e1 e2 => by
    have hle : p1 ≤ ts.length := by
      rw [e1]
      cases hn : ntB ts p b 97
      · exact hp
      · exact (ntB_iff.1 hn).2.1
    refine ⟨hle, ?_, fun rel hrel => ?_⟩
    · cases ht : tkB ts p1 b1 40
      · exact hle
      · exact (tkB_iff.1 ht).2.1
    · refine HRES.out rel _ _ (fun hn => ?_) (fun hn => ?_)
      · rw [hn] at e1 e2
        have e2' : b1 = true := e2
        have ht : tkB ts p1 b1 40 = false := by rw [e2']; rfl
        rw [ht]
        exact ⟨rfl, e1⟩
      · rw [hn] at e1 e2 hrel
        have e1' : p1 = p + 1 := e1
        have e2' : b1 = b := e2
        subst e1' e2'
        exact ⟨hrel, rfl, rfl⟩
  clear HRES KW KTk
  obtain ⟨rel0, hrel0⟩ : ∃ r, r = (if ntB ts p b 97 then (ts.getD p noTk).nm else ⟨#[]⟩ : ByteArray) := ⟨_, rfl⟩
  obtain ⟨p1, hp1⟩ : ∃ r, r = (if ntB ts p b 97 then p + 1 else p) := ⟨_, rfl⟩
  obtain ⟨b1, hb1⟩ : ∃ r, r = (if ntB ts p b 97 then b else true) := ⟨_, rfl⟩
  rw [← hrel0, ← hp1, ← hb1] at KN
  obtain ⟨hle1, hle2, hst⟩ := HHr.out p1 b1 hp1 hb1
  have HST := hid (hst rel0 hrel0)
  clear HHr hst hrel0 hp1 hb1
  generalize hp2 : (if tkB ts p1 b1 40 then p1 + 1 else p1) = p2 at *
  generalize hb2 : (if tkB ts p1 b1 40 then b1 else true) = b2 at *
  have HK40 : Hid (∀ W, Ex g w W → RdB W g v p1 b1 → Calls Tryd.prog 51 #[.pointer (some ⟨g, 0, none⟩), .string ⟨#[40]⟩] W fun e w' => e = .returned (.tuple #[]) ∧ RdB w' g v p2 b2 ∧ Ex g W w') := hid fun W h1 h2 => by
    have := KW40.out W p1 b1 h1 h2 (by omega)
    rw [hp2, hb2] at this
    exact this
  clear hp2 hb2 KW40
  have hl2 : ts.length ≤ 100000 := hl
  generalize hN : ts.length = N at *
  clear hN
  go_enter Tryd.func55, Tryd.ntmps55
  go_upto_region 1 with fail
  rw [← hW1]
  clear hW1 hB1 hR0
  go_upto_region 2 with (first | (go_at_call 50; refine KN.out.mono ?_; rintro e w2 ⟨rfl, hr2, hx2⟩) | fail)
  obtain ⟨W3, hW3⟩ : ∃ W, W = w2.alloc (.cells #[.string rel0, .slice none 0 0] 96) := ⟨_, rfl⟩
  have HAt : Hid (AtS W1 W3 g w2.heap.size rel0 (.slice none 0 0) []) := hid ⟨by rw [hW3]; exact heap_alloc_new _ _, ⟨rfl, Or.inl ⟨rfl, rfl⟩⟩, by rw [hW3]; exact hx2.allocd _, hx2.size, by omega⟩
  have HR3 : Hid (RdB W3 g v p1 b1) := hid (by rw [hW3]; exact hr2.below ((Below.refl _ _).alloc (Nat.le_refl _) _))
  rw [← hW3]
  obtain ⟨A, hA⟩ : ∃ A, A = w2.heap.size := ⟨_, rfl⟩
  rw [← hA] at HAt ⊢
  clear hW3 hA hr2 hx2 KN
  have K4 := hid (HK40.out W3 (HX1.out.trans HAt.out.ex) HR3.out)
  go_upto_region 3 with (first | (go_at_call 51; refine K4.out.mono ?_; rintro e w4 ⟨rfl, hr4, hx4⟩) | fail)
  have HAt := hid (HAt.out.next hx4)
  have HR4 := hid hr4
  clear hr4 hx4 K4 HK40 HR3
  obtain ⟨⟨ts1, ts2⟩, htm⟩ : ∃ t, t = tmA ts p2 b2 := ⟨_, rfl⟩
  have KT0 := KTm.out w4.drew p2 b2 ((HX1.out.trans HAt.out.ex).trans (Ex.bel (Below.refl _ _).drew)) (HR4.out.below (Below.refl _ _).drew) (by omega)
  obtain ⟨acc, hacc⟩ : ∃ a : List TermV, a = [] := ⟨_, rfl⟩
  have hI0 := HF1.out rel0 p2 b2 (N + 1) acc (by rw [hacc]; exact HST.out)
  have HAt : Hid (AtS W1 w4 g A rel0 (.slice none 0 0) acc) := hid (by rw [hacc]; exact HAt.out)
  have htp := HTP.out p2 b2 hle2
  rw [← htm] at KT0 hI0
  have KT : Hid (Calls Tryd.prog 84 #[.pointer (some ⟨g, 0, none⟩)] w4.drew fun e w' => e = .returned (.agg #[.string ts1, .int .i64 ts2]) ∧ RdB w' g v (tmP ts p2 b2) (tmQ ts p2 b2) ∧ Ex g w4 w') := hid (KT0.mono fun e w' ⟨h1, h2, h3⟩ => ⟨h1, h2, (Ex.bel (Below.refl _ _).drew).trans h3⟩)
  have HI0 := hid hI0
  clear KT0 hI0 htm HST
  generalize tmP ts p2 b2 = p3 at *
  generalize tmQ ts p2 b2 = b3 at *
  generalize hxx : (Value.slice none 0 0) = xx at HAt
  have hal : acc.length ≤ p3 := by rw [hacc]; exact Nat.zero_le _
  generalize hrl : rel0 = rel at *
  clear hrl hacc hxx
  obtain ⟨ax, cx, ex⟩ := own_shapeT2 HAt.out.own
  obtain ⟨nx', hnx'⟩ : ∃ n, n = acc.length := ⟨_, rfl⟩
  rw [← hnx'] at ex
  subst ex
  have hAg : A ≠ g := by have := HAt.out.hA; have := HAt.out.hg; omega
  have c1 := HAt.out.c1
  have HOA : Hid (∀ W, AtS W1 W g A rel (.slice ax nx' cx) acc → (W.alloc (.cells #[.string ts1, .int .i64 ts2] 145)).ownsRow W1.heap.size 145 2 (.slice ax nx' cx) nx' (acc.flatMap tmc)) := hid fun W hW => by have h := hW.own.alloc (.cells #[.string ts1, .int .i64 ts2] 145); rw [← hnx'] at h; exact h
  have HPush : Hid (∀ (W w6 : World) (o : Obj) (x' : Value), AtS W1 W g A rel (.slice ax nx' cx) acc → (W.alloc o).grownBy w6 (Value.slice ax nx' cx).ownBlock → w6.ownsRow W1.heap.size 145 2 x' (nx' + 1) (acc.flatMap tmc ++ [.string ts1, .int .i64 ts2]) → AtS W1 (w6.setCell ⟨A, 1, none⟩ x') g A rel x' (acc ++ [(ts1, ts2)])) := hid fun W w6 o x' h1 h2 h3 => h1.push h2 (by rw [← hnx']; exact h3)
  have hnl : nx' ≤ 100001 := by omega
  clear hnx'
  go_cut [14] from 9 to 15 (fun _ wx => Hid (∃ x', AtS W1 wx g A rel x' (acc ++ [(ts1, ts2)]) ∧ RdB wx g v p3 b3))
  case first =>
    go_region_law (first
            | (go_simp; go_at_call 84; (with_reducible refine KT.out.mono ?_); rintro e w5 ⟨rfl, hr5, hx5⟩; have ha5 := HAt.out.next hx5; have HA5 := hid ha5; have HR5 := hid hr5; have d1 := ha5.c1; have dl := ha5.lt; have da : ∀ o', (w5.alloc o').cell? ⟨A, 1, none⟩ = some (.slice ax nx' cx) := (fun o' => (World.cell?_alloc_past _ _ _ dl).trans d1); clear ha5 hr5 hx5)
            | (refine step_append_lies _ (by rfl) _ _ _ (by rfl) W1.heap.size 145 iT (.agg #[.string ⟨#[]⟩, .int .i64 0]) 2 24 Tryd.underlying94 hi hz0 hz1 hz2 rfl (by decide) (.slice ax nx' cx) nx' (acc.flatMap tmc) (by rfl) (HOA.out w5 HA5.out) ⟨w5.heap.size, 0, none⟩ 1 1 [.string ts1, .int .i64 ts2] (by rfl) (by rfl) (new2_cell _ _ _ _) (fun u hu => by simp at hu; rcases hu with rfl | rfl <;> rfl) (by decide) (by unfold maxLen; omega) (by omega) (by have := HA5.out.ex.size; simp; omega) (w5.heap.size + 1) (by simp) ?_; intro g6 cp6 w6 hown6 hgrow6 hat6 hlt6; have HN6 := hid (HPush.out w5 w6 _ (.slice (some ⟨g6, 0, none⟩) (nx' + 1) cp6) HA5.out hgrow6 hown6); have HR6 := hid ((HR5.out.belN (HA5.out.bel3 hgrow6) HA5.out.hg).set (o := 1) (u := .slice (some ⟨g6, 0, none⟩) (nx' + 1) cp6) (show A ≠ g from hAg)); have b6 := HA5.out.blk3 hgrow6; have d6 : w6.cell? ⟨A, 1, none⟩ = some (.slice ax nx' cx) := (cell_of_row _ _ _ _ _ _ b6); have f6 : w6.frozen? ⟨A, 1, none⟩ = false := (by unfold World.frozen?; rw [b6]; simp); clear hown6 hgrow6 hat6 hlt6 b6)
            | fail)
    all_goals (go_wp2_with fail; go_meet)
    all_goals exact hid ⟨_, HN6.out, HR6.out⟩
  case rest =>
  have HS0 := hcut
  clear hcut HOA HPush KT HR4 HAt c1
  generalize wc = W6 at *
  have hal0 : (acc ++ [(ts1, ts2)]).length ≤ p3 + 1 := by rw [List.length_append, List.length_singleton]; omega
  generalize acc ++ [(ts1, ts2)] = acc0 at *
  clear hnl hal
  go_wp2_with fail
  go_loopw [16] (fun _ wr => ∃ (p : Nat) (b : Bool) (acc : List TermV), p ≤ N ∧ acc.length ≤ p + 1 ∧ Hid (AtI ts R rel p b acc ∧ RdB wr g v p b ∧ ∃ x, AtS W1 wr g A rel x acc)) (fun _ wr => N + 1 - posOf wr g)
  case atStart =>
    obtain ⟨x', h1, h2⟩ := HS0.out
    exact ⟨p3, b3, acc0, by omega, hal0, hid ⟨HI0.out, h2, x', h1⟩⟩
  case round =>
    clear HS0 HI0
    obtain ⟨p4, b4, acc, hp4, hal, HS⟩ := hrel
    obtain ⟨hI, hr4, x4, ha4⟩ := HS.out
    have HAt0 := hid ha4
    have HI4 := hid hI
    have K44 := hid (KT44.out wr p4 b4 (HX1.out.trans ha4.ex) hr4 (by omega))
    have hpos := hr4.pos
    clear hI hr4 ha4 HS
    cases h44 : tkB ts p4 b4 44
    · rw [h44] at K44
      obtain ⟨haft, hval⟩ := HFin.out rel p4 b4 acc HI4.out h44
      have HV4 := hid hval
      have HAF := hid haft
      clear haft hval hpos
      obtain ⟨ax, cx, ex⟩ := own_shapeT2 HAt0.out.own
      subst ex
      have hgr : w.heap.size ≠ g := by omega
      go_wp2_with (first
        | (go_at_call 53; refine K44.out.mono ?_; rintro e w5 ⟨rfl, hr5, hx5⟩; have ha5 := HAt0.out.next hx5; have HA5 := hid ha5; have K41 := hid (KW41.out w5 p4 b4 (HX1.out.trans ha5.ex) hr5 (by omega)); clear ha5 hr5 hx5)
        | (go_at_call 51; refine K41.out.mono ?_; rintro e w6 ⟨rfl, hr6, hx6⟩; have ha6 := HA5.out.next hx6; have HA6 := hid ha6; have HR6 := hid hr6; have d0 := ha6.c0; have d1 := ha6.c1; have br := (ha6.ex.block w.heap.size hs1 hgr).trans HR0.out; have HBR := hid br; have r0 : w6.cell? ⟨w.heap.size, 0, none⟩ = some (.string ⟨#[]⟩) := (cell_of_row _ _ _ _ _ _ br); have r1 : w6.cell? ⟨w.heap.size, 1, none⟩ = some (.slice none 0 0) := (cell_of_row _ _ _ _ _ _ br); have f0 : w6.frozen? ⟨w.heap.size, 0, none⟩ = false := (by unfold World.frozen?; rw [br]; simp); have f1 : w6.frozen? ⟨w.heap.size, 1, none⟩ = false := (by unfold World.frozen?; rw [br]; simp); clear ha6 hr6 hx6 br)
        | fail)
      have hfin := at2_set (x := .string rel) (y := .slice ax acc.length cx) HBR.out
      have q0 : ((w6.setCell ⟨w.heap.size, 0, none⟩ (.string rel)).setCell ⟨w.heap.size, 1, none⟩ (.slice ax acc.length cx)).cell? ⟨w.heap.size, 0, none⟩ = some (.string rel) := cell_of_row _ _ _ _ _ _ hfin
      have q1 : ((w6.setCell ⟨w.heap.size, 0, none⟩ (.string rel)).setCell ⟨w.heap.size, 1, none⟩ (.slice ax acc.length cx)).cell? ⟨w.heap.size, 1, none⟩ = some (.slice ax acc.length cx) := cell_of_row _ _ _ _ _ _ hfin
      refine bodyPost_ret (v := .agg #[.string rel, .slice ax acc.length cx]) (by simp [results, Tryd.results55, go_sem, q0, q1]) rfl ?_
      have hm1 : (w6.setCell ⟨w.heap.size, 0, none⟩ (.string rel)).heap[w.heap.size]? = some (.cells #[.string rel, .slice none 0 0] 96 (0, 0)) := by rw [heap_setCell_same _ _ _ _ _ _ HBR.out]; rfl
      refine ⟨rel, _, acc, rfl, own_setA (own_setA (own_base HA6.out.own (Nat.le_of_lt hs1)) HBR.out) hm1, ((HX1.out.trans HA6.out.ex).new (Nat.le_refl _)).new (Nat.le_refl _), ?_, HV4.out⟩
      have hrr := (HR6.out.set (h := w.heap.size) (o := 0) (u := .string rel) hgr).set (h := w.heap.size) (o := 1) (u := .slice ax acc.length cx) hgr
      rw [HAF.out]
      cases h41 : tkB ts p4 b4 41
      · rw [h41] at hrr; exact hrr
      · rw [h41] at hrr; exact hrr
    · rw [h44] at K44
      obtain ⟨hplt, hI5⟩ := HNext.out rel p4 b4 acc HI4.out h44
      have htp4 := HTP.out (p4 + 1) b4 (by omega)
      obtain ⟨⟨ts1', ts2'⟩, htm⟩ : ∃ t, t = tmA ts (p4 + 1) b4 := ⟨_, rfl⟩
      go_upto_region 5 with (first | (go_at_call 53; refine K44.out.mono ?_; rintro e w4' ⟨rfl, hr5, hx5⟩) | fail)
      have HR5a : Hid (RdB w4' g v (p4 + 1) b4) := hid hr5
      have HAt := hid (HAt0.out.next hx5)
      clear hr5 hx5 K44 HAt0
      have KT0 := KTm.out w4'.drew (p4 + 1) b4 ((HX1.out.trans HAt.out.ex).trans (Ex.bel (Below.refl _ _).drew)) (HR5a.out.below (Below.refl _ _).drew) (by omega)
      rw [← htm] at KT0 hI5
      have HI5 := hid hI5
      generalize ts1' = ts1 at *
      generalize ts2' = ts2 at *
      have KT : Hid (Calls Tryd.prog 84 #[.pointer (some ⟨g, 0, none⟩)] w4'.drew fun e w' => e = .returned (.agg #[.string ts1, .int .i64 ts2]) ∧ RdB w' g v (tmP ts (p4 + 1) b4) (tmQ ts (p4 + 1) b4) ∧ Ex g w4' w') := hid (KT0.mono fun e w' ⟨h1, h2, h3⟩ => ⟨h1, h2, (Ex.bel (Below.refl _ _).drew).trans h3⟩)
      have hpos0 : posOf wr g = p4 := hpos
      clear KT0 hI5 htm HI4
      generalize tmP ts (p4 + 1) b4 = p5 at *
      generalize tmQ ts (p4 + 1) b4 = b5 at *
      have hal5 : (acc ++ [(ts1, ts2)]).length ≤ p5 + 1 := by rw [List.length_append, List.length_singleton]; omega
      obtain ⟨ax, cx, ex⟩ := own_shapeT2 HAt.out.own
      obtain ⟨nx', hnx'⟩ : ∃ n, n = acc.length := ⟨_, rfl⟩
      rw [← hnx'] at ex
      subst ex
      have hAg : A ≠ g := by have := HAt.out.hA; have := HAt.out.hg; omega
      have c1 := HAt.out.c1
      have HOA : Hid (∀ W, AtS W1 W g A rel (.slice ax nx' cx) acc → (W.alloc (.cells #[.string ts1, .int .i64 ts2] 145)).ownsRow W1.heap.size 145 2 (.slice ax nx' cx) nx' (acc.flatMap tmc)) := hid fun W hW => by have h := hW.own.alloc (.cells #[.string ts1, .int .i64 ts2] 145); rw [← hnx'] at h; exact h
      have HPush : Hid (∀ (W w6 : World) (o : Obj) (x' : Value), AtS W1 W g A rel (.slice ax nx' cx) acc → (W.alloc o).grownBy w6 (Value.slice ax nx' cx).ownBlock → w6.ownsRow W1.heap.size 145 2 x' (nx' + 1) (acc.flatMap tmc ++ [.string ts1, .int .i64 ts2]) → AtS W1 (w6.setCell ⟨A, 1, none⟩ x') g A rel x' (acc ++ [(ts1, ts2)])) := hid fun W w6 o x' h1 h2 h3 => h1.push h2 (by rw [← hnx']; exact h3)
      have hnl : nx' ≤ 100001 := by omega
      clear hnx'
      go_region_law (first
                | (go_simp; go_at_call 84; (with_reducible refine KT.out.mono ?_); rintro e w5 ⟨rfl, hr5, hx5⟩; have ha5 := HAt.out.next hx5; have HA5 := hid ha5; have HR5 := hid hr5; have d1 := ha5.c1; have dl := ha5.lt; have da : ∀ o', (w5.alloc o').cell? ⟨A, 1, none⟩ = some (.slice ax nx' cx) := (fun o' => (World.cell?_alloc_past _ _ _ dl).trans d1); clear ha5 hr5 hx5)
                | (refine step_append_lies _ (by rfl) _ _ _ (by rfl) W1.heap.size 145 iT (.agg #[.string ⟨#[]⟩, .int .i64 0]) 2 24 Tryd.underlying94 hi hz0 hz1 hz2 rfl (by decide) (.slice ax nx' cx) nx' (acc.flatMap tmc) (by rfl) (HOA.out w5 HA5.out) ⟨w5.heap.size, 0, none⟩ 1 1 [.string ts1, .int .i64 ts2] (by rfl) (by rfl) (new2_cell _ _ _ _) (fun u hu => by simp at hu; rcases hu with rfl | rfl <;> rfl) (by decide) (by unfold maxLen; omega) (by omega) (by have := HA5.out.ex.size; simp; omega) (w5.heap.size + 1) (by simp) ?_; intro g6 cp6 w6 hown6 hgrow6 hat6 hlt6; have HN6 := hid (HPush.out w5 w6 _ (.slice (some ⟨g6, 0, none⟩) (nx' + 1) cp6) HA5.out hgrow6 hown6); have HR6 := hid ((HR5.out.belN (HA5.out.bel3 hgrow6) HA5.out.hg).set (o := 1) (u := .slice (some ⟨g6, 0, none⟩) (nx' + 1) cp6) (show A ≠ g from hAg)); have b6 := HA5.out.blk3 hgrow6; have d6 : w6.cell? ⟨A, 1, none⟩ = some (.slice ax nx' cx) := (cell_of_row _ _ _ _ _ _ b6); have f6 : w6.frozen? ⟨A, 1, none⟩ = false := (by unfold World.frozen?; rw [b6]; simp); clear hown6 hgrow6 hat6 hlt6 b6)
                | fail)
      all_goals
        have hpos6 := HR6.out.pos
        go_wp2_with fail
        go_roundw
        case rel => exact ⟨p5, b5, acc ++ [(ts1, ts2)], by omega, hal5, hid ⟨HI5.out, HR6.out, _, HN6.out⟩⟩
        case measure => rw [hpos6, hpos0]; omega

end Go.Proofs.YtcdfoephhjacdaaDoor
