import Derived.Test.YtegcpplkcahkhaaGreatB24
import Derived.Test.YtegcpplkcahkhaaGreatB37
/-
  The places of an atom's variables, by their numbers.
-/
namespace Go.Proofs.YtegcpplkcahkhaaGreat
open Go.RowKit Go.Maps

/-- the last place of a variable among the first p terms -/
def lastO (ts : List TermV) : Nat → ByteArray → Option Nat
  | 0, _ => none
  | p + 1, x => if (ts.getD p noTm).1.toList == x.toList then some p else lastO ts p x
theorem lastO_lt {ts : List TermV} {x : ByteArray} : ∀ {p q : Nat}, lastO ts p x = some q → q < p
  | 0, q, h => by cases h
  | p + 1, q, h => by
    unfold lastO at h
    split at h
    · cases h; omega
    · have := lastO_lt h; omega
theorem lastO_is {ts : List TermV} {x : ByteArray} : ∀ {p q : Nat}, lastO ts p x = some q → ((ts.getD q noTm).1.toList == x.toList) = true
  | 0, q, h => by cases h
  | p + 1, q, h => by
    unfold lastO at h
    split at h
    · rename_i h1; cases h; exact h1
    · exact lastO_is h
theorem lastO_some {ts : List TermV} {x : ByteArray} : ∀ {p i : Nat}, i < p → ((ts.getD i noTm).1.toList == x.toList) = true → (lastO ts p x).isSome = true
  | 0, i, hi, _ => by omega
  | p + 1, i, hi, h => by
    unfold lastO
    split
    · rfl
    · rename_i h1
      have : i ≠ p := fun e => h1 (by rw [← e]; exact h)
      exact lastO_some (by omega) h

theorem Numb.inj {w : World} {b : Nat} {L : List ByteArray} (h : Numb w b L) {i j : Nat} (hi : i < L.length) (hj : j < L.length) (e : L.getD i noTx = L.getD j noTx) : i = j := by
  obtain ⟨D, -, -, -, h3⟩ := h
  have h1 := h3 i hi (.lit (.int .i64 0))
  have h2 := h3 j hj (.lit (.int .i64 0))
  rw [e, h2] at h1
  simp only [DataW.lit.injEq, Lit.int.injEq, true_and] at h1
  omega
theorem hasT_ix {L : List ByteArray} {x : ByteArray} (h : hasT L x = true) : ∃ i, i < L.length ∧ L.getD i noTx = x := by
  unfold hasT at h
  rw [List.any_eq_true] at h
  obtain ⟨y, hy, he⟩ := h
  obtain ⟨i, hi, rfl⟩ := List.getElem_of_mem hy
  refine ⟨i, hi, ?_⟩
  rw [beq_tx] at he
  rw [List.getD_eq_getElem?_getD, List.getElem?_eq_getElem hi]
  simpa using he

theorem Tryz.lawI : Keyed Tryz.prog 3 := int_keyed Tryz.underlying3

/-- block b holds the places of the variables V among the first p terms -/
structure Vp (w : World) (b : Nat) (V : List ByteArray) (ts : List TermV) (p : Nat) (D : DataW Unit) (nn : Nat) : Prop where
  own : w.ownsMap Tryz.prog 3 (plainElem Tryz.prog 3) b nn D
  le : nn ≤ p
  size : Maps.size D ≤ p
  has : ∀ v : Nat, v < V.length → Maps.has D (.int .i64 (v : Int)) = (lastO ts p (V.getD v noTx)).isSome
  only : ∀ k : Int, Maps.has D (.int .i64 k) = true → ∃ v : Nat, v < V.length ∧ k = v
  val : ∀ v : Nat, v < V.length → ∀ q, lastO ts p (V.getD v noTx) = some q → ∀ zd, D.atKey (.int .i64 (v : Int)) zd = .lit (.int .i64 (q : Int))

section
variable {w w' : World} {b : Nat} {V : List ByteArray} {ts : List TermV} {p : Nat} {D : DataW Unit} {nn : Nat}
theorem Vp.start (w : World) (V : List ByteArray) (ts : List TermV) : Vp (w.alloc (.map #[] 0)) w.heap.size V ts 0 (.map []) 0 :=
  ⟨World.ownsMap_made _ _ _ _, Nat.le_refl _, Nat.le_refl _, fun _ _ => rfl, (fun _ h => by cases h), (fun _ _ _ h => by cases h)⟩
theorem Vp.bel (h : Vp w b V ts p D nn) (hb : Below w.heap.size w w') : Vp w' b V ts p D nn := ⟨map_bel h.own hb, h.le, h.size, h.has, h.only, h.val⟩
theorem Vp.skip (h : Vp w b V ts p D nn) (hne : ∀ v, v < V.length → (V.getD v noTx).toList.isEmpty = false) (he : (ts.getD p noTm).1.toList.isEmpty = true) : Vp w b V ts (p + 1) D nn := by
  have e : ∀ v, v < V.length → lastO ts (p + 1) (V.getD v noTx) = lastO ts p (V.getD v noTx) := fun v hv => by
    conv => lhs; unfold lastO
    rw [if_neg]
    intro e2
    have := hne v hv
    rw [← beq_iff_eq.1 e2, he] at this
    cases this
  exact ⟨h.own, by have := h.le; omega, by have := h.size; omega, fun v hv => by rw [e v hv]; exact h.has v hv, h.only, fun v hv q hq => h.val v hv q (by rw [← e v hv]; exact hq)⟩
theorem Vp.put (h : Vp w b V ts p D nn) (hinj : ∀ i j, i < V.length → j < V.length → V.getD i noTx = V.getD j noTx → i = j) {i : Nat} (hi : i < V.length) (he : V.getD i noTx = (ts.getD p noTm).1)
    (h' : w'.ownsMap Tryz.prog 3 (plainElem Tryz.prog 3) b (nn + 1) (D.put (.int .i64 (i : Int)) (.lit (.int .i64 (p : Int))))) : Vp w' b V ts (p + 1) (D.put (.int .i64 (i : Int)) (.lit (.int .i64 (p : Int)))) (nn + 1) := by
  have hk : WideAt.IsKeyLit (Lit.int .i64 (i : Int)) := by simp [WideAt.IsKeyLit]
  have hM := h.own.isMap
  have e1 : lastO ts (p + 1) (V.getD i noTx) = some p := by
    unfold lastO
    rw [if_pos (by rw [he]; simp)]
  have e2 : ∀ v, v < V.length → v ≠ i → lastO ts (p + 1) (V.getD v noTx) = lastO ts p (V.getD v noTx) := fun v hv hne => by
    conv => lhs; unfold lastO
    rw [if_neg]
    intro e3
    rw [beq_tx] at e3
    exact hne (hinj v i hv hi ((of_decide_eq_true e3).symm.trans he.symm))
  have ne : ∀ v : Nat, v ≠ i → Lit.int .i64 (v : Int) ≠ Lit.int .i64 (i : Int) := fun v hv e3 => by
    simp only [Lit.int.injEq, true_and] at e3
    omega
  refine ⟨h', by have := h.le; omega, ?_, fun v hv => ?_, fun k hkk => ?_, fun v hv q hq zd => ?_⟩
  · rw [size_put (h.own.tidy Tryz.lawI)]
    have := h.size
    split <;> omega
  · by_cases e : v = i
    · subst e; rw [has_put_same hM hk, e1]; rfl
    · rw [has_put_other (ne v e), e2 v hv e]; exact h.has v hv
  · by_cases e : k = (i : Int)
    · exact ⟨i, hi, e⟩
    · rw [has_put_other (fun e3 => e (by simpa using e3))] at hkk
      exact h.only k hkk
  · by_cases e : v = i
    · subst e
      rw [e1] at hq
      cases hq
      rw [atKey_put_same hM hk]
    · rw [e2 v hv e] at hq
      rw [atKey_put_other (ne v e)]
      exact h.val v hv q hq zd
end

/-- the numbers of an atom's variables, ascending -/
def vrs (V : List ByteArray) (ts : List TermV) : List Nat := (List.range V.length).filter fun v => (lastO ts ts.length (V.getD v noTx)).isSome
def vrsI (V : List ByteArray) (ts : List TermV) : List Int := (vrs V ts).map Int.ofNat

end Go.Proofs.YtegcpplkcahkhaaGreat

/-
  impl.variablePlaces.
-/
namespace Go.Proofs.YtegcpplkcahkhaaGreat
open Go.RowKit Go.Maps

set_option maxHeartbeats 8000000 in
set_option maxRecDepth 1000000 in
theorem variablePlaces_calls (w : World) (vt : Value) (ts : List TermV) (nb : Nat) (V : List ByteArray) (ht : ITm w vt ts) (hN : Numb w nb V) (hl : ts.length ≤ 1000) (hV : V.length ≤ 1000) (hne : ∀ v, v < V.length → (V.getD v noTx).toList.isEmpty = false)
    (hall : ∀ i, i < ts.length → (ts.getD i noTm).1.toList.isEmpty = false → hasT V (ts.getD i noTm).1 = true) (hsz : ∀ i, i < ts.length → (ts.getD i noTm).1.size ≤ 1048576) :
    Calls Tryz.prog 58 #[vt, .map (some nb)] w fun e w' => ∃ b, e = .returned (.map (some b)) ∧ w.heap.size ≤ b ∧ (∃ D nn, Vp w' b V ts ts.length D nn) ∧ Below w.heap.size w w' := by
  have hmm := @run_makeMap Tryz.prog
  have HN0 := hid hN
  have HNE := hid hne
  have HALL := hid hall
  have HSZ := hid hsz
  have HINJ : Hid (∀ i j, i < V.length → j < V.length → V.getD i noTx = V.getD j noTx → i = j) := hid fun i j hi hj e => hN.inj hi hj e
  clear hN hne hall hsz
  obtain ⟨ta, tc', rfl, htc⟩ := ht
  have HC : Hid (∀ W, Below w.heap.size w W → ∀ j, j < ts.length → ∃ b o, ta = some ⟨b, o, none⟩ ∧ W.cell? ⟨b, o + j * 2, none⟩ = some (.string (ts.getD j noTm).1) ∧ W.cell? ⟨b, o + j * 2 + 1, none⟩ = some (.int .i64 (ts.getD j noTm).2)) := hid fun W hW j hj => by
    rcases htc with h0 | ⟨b, o, rfl, hh⟩
    · omega
    · exact ⟨b, o, rfl, bcl' hW (hh j hj).1, bcl' hW (hh j hj).2⟩
  clear htc
  obtain ⟨n, hn⟩ : ∃ n, n = ts.length := ⟨_, rfl⟩
  have HN := hid hn
  rw [← hn] at HC HALL HSZ hl ⊢
  clear hn
  go_enter Tryz.func58, Tryz.ntmps58
  go_wp2_with fail
  have HS0 : Hid (Below w.heap.size w (w.alloc (.map #[] 0)) ∧ ∃ D nn, Vp (w.alloc (.map #[] 0)) w.heap.size V ts 0 D nn) := hid ⟨(Below.refl _ _).alloc (Nat.le_refl _) _, _, _, Vp.start w V ts⟩
  obtain ⟨bm, hbm⟩ : ∃ b, b = w.heap.size := ⟨_, rfl⟩
  have HBM := hid hbm
  go_loopw [11] (fun t wr => ∃ p : Nat, p ≤ n ∧ t = .int .i64 p ∧ Hid (Below w.heap.size w wr ∧ ∃ D nn, Vp wr w.heap.size V ts p D nn)) (fun t _ => n - (intOf t).toNat)
  case atStart => exact ⟨0, Nat.zero_le _, rfl, HS0⟩
  case round =>
    clear HS0
    obtain ⟨p, hpn, rfl, HG⟩ := hrel
    by_cases hlp : p < n
    · have i1 : (p : Int) < (n : Int) := by omega
      obtain ⟨b, o, ea, g0, g1⟩ := HC.out wr HG.out.1 p hlp
      subst ea
      obtain ⟨D, nn, hvp⟩ := HG.out.2
      have HA := hid (HALL.out p hlp)
      have hxs : (ts.getD p noTm).1.size ≤ 9223372036854775807 := by have := HSZ.out p hlp; omega
      have HSk : Hid ((ts.getD p noTm).1.toList.isEmpty = true → ∀ W, Below wr.heap.size wr W → Vp W w.heap.size V ts (p + 1) D nn) := hid fun he W hW => (hvp.bel hW).skip HNE.out he
      have HPt : Hid (∀ (W : World) i, i < V.length → V.getD i noTx = (ts.getD p noTm).1 → W.ownsMap Tryz.prog 3 (plainElem Tryz.prog 3) w.heap.size (nn + 1) (D.put (.int .i64 (i : Int)) (.lit (.int .i64 (p : Int)))) → Vp W w.heap.size V ts (p + 1) (D.put (.int .i64 (i : Int)) (.lit (.int .i64 (p : Int)))) (nn + 1)) := hid fun W i hi he h' => hvp.put HINJ.out hi he h'
      have hown := hvp.own
      have hnn := hvp.le
      have hsz := HG.out.1.size
      have HBr := hid HG.out.1
      clear hvp HG
      have HIx : Hid (hasT V (ts.getD p noTm).1 = true → ∃ i, i < V.length ∧ V.getD i noTx = (ts.getD p noTm).1) := hid hasT_ix
      generalize ts.getD p noTm = tt at *
      obtain ⟨x, y⟩ := tt
      dsimp only at *
      cases hem : x.toList.isEmpty
      · obtain ⟨i, hi, hix⟩ := HIx.out (HA.out hem)
        obtain ⟨DN, hownN, -, -, hatN⟩ := (HN0.out.bel HBr.out)
        have hatI : ∀ c : Int, DN.atKey (.string x.data.toList) (.lit (.int .i64 0)) = .lit (.int .i64 c) → c = (i : Int) := fun c hc => by
          have := hatN i hi (.lit (.int .i64 0))
          rw [hix, hc] at this
          simpa using this
        have HP1 := hid fun W => HPt.out W i hi hix
        clear hatN HPt HIx HA HSk
        go_wp2_with (first | (at_lookup; refine wpList_lookup_own_int _ rfl _ _ 76 rfl 9 3 .i64 Tryz.lawT Tryz.underlying76 Tryz.underlying3 (Tryz.zeroN _) nb V.length DN rfl (hownN.alloc _) _ _ rfl (WideMaps.keyOf_string_mk Tryz.underlying9 hxs) ?_; intro cL hatk hwc; obtain rfl := hatI cL hatk) | (at_mapUpdate; refine wpList_mapUpdate_own _ rfl _ _ _ 108 rfl 3 3 Tryz.lawI Tryz.underlying108 _ w.heap.size nn _ rfl (hown.alloc _) (by unfold maxLen; omega) _ _ _ rfl rfl (keyOf_int_mk Tryz.underlying3 (WalkArith.wf_i64 (by omega))) _ [] (plainElem_int Tryz.underlying3 (WalkArith.wf_i64 (by omega))) ?_) | fail)
        intro w3 hown3 hgrow3
        have HN2 : Hid (Below w.heap.size w w3 ∧ ∃ D nn, Vp w3 w.heap.size V ts (p + 1) D nn) := hid ⟨(HBr.out.alloc hsz _).grown hgrow3 (by simp; omega) (fun j hj => by cases hj; omega), _, _, HP1.out w3 hown3⟩
        clear hown3 hgrow3 hown hownN
        go_wp2_with fail
        go_roundw
        case rel => exact ⟨p + 1, by omega, by go_num, HN2⟩
        case measure => simp [intOf]; omega
      · have HN2 : Hid (Below w.heap.size w (wr.alloc (.cells #[.string x, .int .i64 y] 62)) ∧ ∃ D nn, Vp (wr.alloc (.cells #[.string x, .int .i64 y] 62)) w.heap.size V ts (p + 1) D nn) := hid ⟨HBr.out.alloc hsz _, _, _, HSk.out hem _ ((Below.refl _ _).alloc (Nat.le_refl _) _)⟩
        clear HPt HIx HA HSk hown
        go_wp2_with fail
        go_roundw
        case rel => exact ⟨p + 1, by omega, by go_num, HN2⟩
        case measure => simp [intOf]; omega
    · obtain rfl : p = n := by omega
      have i1 : ¬ ((p : Int) < (p : Int)) := by omega
      obtain ⟨D, nn, hvp⟩ := HG.out.2
      have HV := hid hvp
      have HBr := hid HG.out.1
      clear hvp HG
      go_wp2_with fail
      go_ret
      exact ⟨_, rfl, Nat.le_refl _, ⟨D, nn, HV.out⟩, HBr.out⟩

end Go.Proofs.YtegcpplkcahkhaaGreat
