import Derived.Deep.CutBlock
import Derived.Deep.CutRange
import Derived.Deep.RegionHeldLaw
import Derived.Test.YtcdfoephhjacdaaDoorQ61
/-
  The model's reader: query, walked.
-/
namespace Go.Proofs.YtcdfoephhjacdaaDoor
open Go.RowKit

def rgT (i : Nat) : ByteArray := if i = 0 then ⟨#[]⟩ else if i = 1 then cntT else if i = 2 then sumT else minT
theorem rg_at : ∀ k : Nat, k < 4 → (#[Value.string ⟨#[]⟩, .string ⟨#[99, 111, 117, 110, 116]⟩, .string ⟨#[115, 117, 109]⟩, .string ⟨#[109, 105, 110]⟩])[k]? = some (.string (rgT k))
  | 0, _ => rfl
  | 1, _ => rfl
  | 2, _ => rfl
  | 3, _ => rfl
  | k + 4, h => by omega
set_option maxHeartbeats 2000000 in
set_option maxRecDepth 1000000 in
theorem rings_calls (w : World) : Calls Tryd.prog 54 #[] w fun e w' => ∃ g : Nat, e = .returned (.slice (some ⟨g, 0, none⟩) 4 4) ∧ Below w.heap.size w w' ∧ w.heap.size ≤ g ∧ g < w'.heap.size ∧ ∀ k : Nat, k < 4 → w'.cell? ⟨g, k, none⟩ = some (.string (rgT k)) := by
  go_enter Tryd.func54, Tryd.ntmps54
  go_wp2_with fail
  go_ret
  refine ⟨_, rfl, (Below.refl _ _).alloc (Nat.le_refl _) _, Nat.le_refl _, by simp, fun k h1 => ?_⟩
  rw [World.cell?_alloc_at _ _ _ _ rfl]
  exact rg_at k h1
theorem rng_eq {s : ByteArray} (hz : s.size ≠ 0) : ∀ k : Nat, k < 4 → (s.toList == (rgT k).toList) = decide (rngN s = k ∧ 0 < k)
  | 0, _ => by
    have := not_empty hz
    have e : (rgT 0).toList = [] := by simp only [rgT, ByteArray.toList_eq]; rfl
    rw [e]
    cases h : s.toList with
    | nil => rw [h] at this; cases this
    | cons a l => simp
  | 1, _ => by
    show (s.toList == cntT.toList) = _
    unfold rngN
    by_cases h : s.toList = cntT.toList
    · rw [if_pos h, h]; simp
    · rw [if_neg h]
      have : (s.toList == cntT.toList) = false := by simpa using h
      rw [this]
      by_cases h2 : s.toList = sumT.toList
      · rw [if_pos h2]; rfl
      · rw [if_neg h2]
        by_cases h3 : s.toList = minT.toList
        · rw [if_pos h3]; rfl
        · rw [if_neg h3]; rfl
  | 2, _ => by
    show (s.toList == sumT.toList) = _
    unfold rngN
    by_cases h : s.toList = cntT.toList
    · rw [if_pos h, h]; simp only [cntT, sumT, ByteArray.toList_eq]; decide
    · rw [if_neg h]
      by_cases h2 : s.toList = sumT.toList
      · rw [if_pos h2, h2]; simp
      · rw [if_neg h2]
        have : (s.toList == sumT.toList) = false := by simpa using h2
        rw [this]
        by_cases h3 : s.toList = minT.toList
        · rw [if_pos h3]; rfl
        · rw [if_neg h3]; rfl
  | 3, _ => by
    show (s.toList == minT.toList) = _
    unfold rngN
    by_cases h : s.toList = cntT.toList
    · rw [if_pos h, h]; simp only [cntT, minT, ByteArray.toList_eq]; decide
    · rw [if_neg h]
      by_cases h2 : s.toList = sumT.toList
      · rw [if_pos h2, h2]; simp only [sumT, minT, ByteArray.toList_eq]; decide
      · rw [if_neg h2]
        by_cases h3 : s.toList = minT.toList
        · rw [if_pos h3, h3]; simp
        · rw [if_neg h3]
          have : (s.toList == minT.toList) = false := by simpa using h3
          rw [this]; rfl
  | k + 4, h => by omega
theorem rngN_lt (s : ByteArray) : rngN s < 4 := by
  unfold rngN
  split
  · omega
  · split
    · omega
    · split <;> omega

def nmS (ts : List TkV) (p : Nat) (b : Bool) : ByteArray := if ntB ts p b 97 then (ts.getD p noTk).nm else ⟨#[]⟩
def nmP (ts : List TkV) (p : Nat) (b : Bool) : Nat := if ntB ts p b 97 then p + 1 else p
def nmQ (ts : List TkV) (p : Nat) (b : Bool) : Bool := if ntB ts p b 97 then b else true
def wtP (ts : List TkV) (p : Nat) (b : Bool) (c : Nat) : Nat := if tkB ts p b c then p + 1 else p
def wtQ (ts : List TkV) (p : Nat) (b : Bool) (c : Nat) : Bool := if tkB ts p b c then b else true
theorem nmP_le {ts : List TkV} {p : Nat} {b : Bool} (h : p ≤ ts.length) : nmP ts p b ≤ ts.length ∧ p ≤ nmP ts p b := by
  unfold nmP
  cases hn : ntB ts p b 97
  · exact ⟨h, Nat.le_refl _⟩
  · have := (ntB_iff.1 hn).2.1
    exact ⟨this, Nat.le_succ _⟩
theorem wtP_le {ts : List TkV} {p c : Nat} {b : Bool} (h : p ≤ ts.length) : wtP ts p b c ≤ ts.length := by
  unfold wtP
  cases hn : tkB ts p b c
  · exact h
  · exact (tkB_iff.1 hn).2.1

/-- a query's rows -/
structure QyR (B : Nat) (W : World) (x : Value) (hd : List ByteArray) (y : Value) (us : List UV) : Prop where
  own1 : W.ownsRow B 9 1 x hd.length (hd.map Value.string)
  own2 : W.ownsRow B 96 2 y us.length (us.flatMap atc)
  tms : ∀ u ∈ us, W.ownsRow B 145 2 u.2.1 u.2.2.length (u.2.2.flatMap tmc)
  ap : us.Pairwise fun u v => Apr u.2.1 v.2.1
theorem QyS.rows {w0 W : World} {g A B : Nat} {nm : ByteArray} {x y : Value} {hd : List ByteArray} {r : Int} {us : List UV} (h : QyS w0 W g A nm x hd r y us) (hB : B ≤ w0.heap.size) : QyR B W x hd y us :=
  ⟨own_base h.own1 hB, own_base h.own2 hB, fun u hu => own_base (h.tms u hu) hB, h.ap⟩
theorem QyR.set {B r o : Nat} {W : World} {x y v : Value} {hd : List ByteArray} {us : List UV} {cur : Array Value} (h : QyR B W x hd y us) (hr : W.heap[r]? = some (.cells cur 33 (0, 0))) : QyR B (W.setCell ⟨r, o, none⟩ v) x hd y us :=
  ⟨own_setT h.own1 hr (by decide), own_setT h.own2 hr (by decide), fun u hu => own_setT (h.tms u hu) hr (by decide), h.ap⟩
theorem q4_set {W : World} {r : Nat} {a b c d a' b' c' d' : Value} (h : W.heap[r]? = some (.cells #[a, b, c, d] 33 (0, 0))) :
    ((((W.setCell ⟨r, 0, none⟩ a').setCell ⟨r, 1, none⟩ b').setCell ⟨r, 2, none⟩ c').setCell ⟨r, 3, none⟩ d').heap[r]? = some (.cells #[a', b', c', d'] 33 (0, 0)) ∧
    (∀ {B : Nat} {x y : Value} {hd : List ByteArray} {us : List UV}, QyR B W x hd y us → QyR B ((((W.setCell ⟨r, 0, none⟩ a').setCell ⟨r, 1, none⟩ b').setCell ⟨r, 2, none⟩ c').setCell ⟨r, 3, none⟩ d') x hd y us) := by
  have h1 : (W.setCell ⟨r, 0, none⟩ a').heap[r]? = some (.cells #[a', b, c, d] 33 (0, 0)) := by rw [heap_setCell_same _ _ _ _ _ _ h]; rfl
  have h2 : ((W.setCell ⟨r, 0, none⟩ a').setCell ⟨r, 1, none⟩ b').heap[r]? = some (.cells #[a', b', c, d] 33 (0, 0)) := by rw [heap_setCell_same _ _ _ _ _ _ h1]; rfl
  have h3 : (((W.setCell ⟨r, 0, none⟩ a').setCell ⟨r, 1, none⟩ b').setCell ⟨r, 2, none⟩ c').heap[r]? = some (.cells #[a', b', c', d] 33 (0, 0)) := by rw [heap_setCell_same _ _ _ _ _ _ h2]; rfl
  exact ⟨by rw [heap_setCell_same _ _ _ _ _ _ h3]; rfl, fun hq => (((hq.set h).set h1).set h2).set h3⟩
theorem new1_cellT (w : World) (v : Value) (t : TypeId) : ∀ j u, [v][j]? = some u → (w.alloc (.cells #[v] t)).cell? ((⟨w.heap.size, 0, none⟩ : Addr).add j) = some u := by
  intro j u hj
  match j, hj with
  | 0, hj => simp at hj; subst hj; simp [Addr.add]

/-- how query ends -/
def QyE (w : World) (g : Nat) (v : Value) (ts : List TkV) (R : Except Nat QV) (e : Ending) (w' : World) : Prop := ∃ nm x hd r y us p' b', e = .returned (.agg #[.string nm, x, .int .i64 r, y]) ∧ QyR w.heap.size w' x hd y us ∧ Ex g w w' ∧ RdB w' g v p' b' ∧ p' ≤ ts.length ∧ R = if b' then .error p' else .ok ⟨nm, hd, r, us.map uAt⟩

theorem Tryd.infoStrQ : (Tryd.prog.info? 9).map (fun i => (i.zero, i.size, i.bytes)) = some (some (.string ⟨#[]⟩), 1, 16) := by kernel_rfl
theorem Tryd.infoAtQ : (Tryd.prog.info? 96).map (fun i => (i.zero, i.size, i.bytes)) = some (some (.agg #[.string ⟨#[]⟩, .slice none 0 0]), 2, 40) := by kernel_rfl

end Go.Proofs.YtcdfoephhjacdaaDoor

/-
  A text's tokens are such as may be; the whole answer.
-/
namespace Go.Proofs.YtcdfoephhjacdaaDoor
open Go.RowKit

theorem rn_le (p : Int → Bool) (s : ByteArray) (o : Nat) (ho : o ≤ s.size) : o + rn p s o ≤ s.size := by
  have hl : s.data.toList.length = s.size := by simp
  have h := (List.takeWhile_sublist (l := s.data.toList.drop o) (fun b => p (b.toNat : Int))).length_le
  rw [List.length_drop] at h
  unfold rn
  omega
theorem rn_pos {p : Int → Bool} {s : ByteArray} {o : Nat} (ho : o < s.size) (hp : p (byteAt s o) = true) : 0 < rn p s o := by
  have hl : s.data.toList.length = s.size := by simp
  have hl' : o < s.data.toList.length := by omega
  unfold rn
  rw [List.drop_eq_getElem_cons hl', List.takeWhile_cons]
  have e : byteAt s o = ((s.data.toList[o]).toNat : Int) := by
    unfold byteAt
    rw [List.getD_eq_getElem?_getD, List.getElem?_eq_getElem hl', Option.getD_some]
  rw [e] at hp
  rw [if_pos hp]
  simp
theorem ext_size (s : ByteArray) (o n : Nat) (h : o + n ≤ s.size) : (s.extract o (o + n)).size = n := by
  rw [ByteArray.size_extract]
  omega
theorem nx_sepn {s : ByteArray} {o n : Nat} (h : nx s o = some (none, n)) : n = 1 := by
  unfold nx at h
  split at h
  · have := Option.some.inj h
    exact (congrArg Prod.snd this).symm
  · split at h
    · split at h <;> simp at h
    · split at h
      · split at h <;> simp at h
      · split at h
        · split at h <;> simp at h
        · split at h <;> simp at h
theorem nx_tok {s : ByteArray} {o k v n : Nat} {nm : ByteArray} (ho : o < s.size) (h : nx s o = some (some (k, nm, v), n)) : TkOk ⟨k, nm, v, o⟩ ∧ 0 < n ∧ o + n ≤ s.size := by
  unfold nx at h
  split at h
  · simp at h
  · split at h
    · rename_i h1 h2
      split at h
      · simp only [Option.some.injEq, Prod.mk.injEq] at h
        obtain ⟨⟨rfl, rfl, rfl⟩, rfl⟩ := h
        have hp : 0 < rn nbyteB s o := rn_pos ho (by unfold nbyteB; rw [h2]; rfl)
        have hl := rn_le nbyteB s o (by omega)
        refine ⟨⟨Or.inl rfl, fun h => absurd rfl h, fun _ => ?_, Nat.zero_le _, fun _ => rfl⟩, hp, hl⟩
        show (s.extract o (o + rn nbyteB s o)).size ≠ 0
        rw [ext_size _ _ _ hl]; omega
      · simp at h
    · split at h
      · rename_i h1 h2 h3
        split at h
        · rename_i h4
          simp only [Option.some.injEq, Prod.mk.injEq] at h
          obtain ⟨⟨rfl, rfl, rfl⟩, rfl⟩ := h
          exact ⟨⟨Or.inr (Or.inl rfl), fun _ => rfl, fun h => by simp at h, h4, fun h => by simp at h⟩, rn_pos ho h3, rn_le digitB s o (by omega)⟩
        · simp at h
      · split at h
        · split at h
          · rename_i h5
            simp only [Option.some.injEq, Prod.mk.injEq] at h
            obtain ⟨⟨rfl, rfl, rfl⟩, rfl⟩ := h
            exact ⟨⟨by simp, fun _ => rfl, fun h => by simp at h, Nat.zero_le _, fun h => by simp at h⟩, by omega, by omega⟩
          · simp at h
        · split at h
          · rename_i h6
            simp only [Option.some.injEq, Prod.mk.injEq] at h
            obtain ⟨⟨rfl, rfl, rfl⟩, rfl⟩ := h
            have hc : byteAt s o = 40 ∨ byteAt s o = 41 ∨ byteAt s o = 44 ∨ byteAt s o = 59 ∨ byteAt s o = 46 := by
              unfold symB at h6
              simp only [Bool.or_eq_true, decide_eq_true_eq] at h6
              omega
            refine ⟨⟨?_, fun _ => rfl, ?_, Nat.zero_le _, ?_⟩, by omega, by omega⟩
            · show (byteAt s o).toNat = 97 ∨ _
              rcases hc with hc | hc | hc | hc | hc <;> rw [hc] <;> simp
            · show (byteAt s o).toNat = 97 → _
              intro e; omega
            · show (byteAt s o).toNat = 97 → _
              intro e; omega
          · simp at h
theorem lex_all (s : ByteArray) : ∀ (f o : Nat) (acc : List TkV), o ≤ s.size → (∀ t ∈ acc, TkOk t) → acc.length ≤ o → (∀ t ∈ (lexF s f o acc).1, TkOk t) ∧ (lexF s f o acc).1.length ≤ s.size
  | 0, o, acc, ho, h1, h2 => ⟨h1, Nat.le_trans h2 ho⟩
  | f + 1, o, acc, ho, h1, h2 => by
    rw [lexF]
    by_cases hlt : o < s.size
    · rw [if_pos hlt]
      cases hn : nx s o with
      | none => exact ⟨h1, Nat.le_trans h2 ho⟩
      | some x =>
        obtain ⟨t, n⟩ := x
        cases t with
        | none =>
          have e1 := nx_sepn hn
          subst e1
          exact lex_all s f (o + 1) acc (by omega) h1 (by omega)
        | some y =>
          obtain ⟨k, nm, v⟩ := y
          obtain ⟨a1, a2, a3⟩ := nx_tok hlt hn
          refine lex_all s f (o + n) _ a3 (fun t ht => ?_) (by rw [List.length_append, List.length_singleton]; omega)
          rw [List.mem_append, List.mem_singleton] at ht
          rcases ht with ht | rfl
          · exact h1 t ht
          · exact a1
    · rw [if_neg hlt]
      exact ⟨h1, Nat.le_trans h2 ho⟩
theorem lexA_ok (s : ByteArray) : (∀ j, j < (lexA s).1.length → TkOk ((lexA s).1.getD j noTk)) ∧ (lexA s).1.length ≤ s.size := by
  obtain ⟨h1, h2⟩ := lex_all s (s.size + 1) 0 [] (Nat.zero_le _) (fun t ht => by simp at ht) (Nat.zero_le _)
  refine ⟨fun j hj => h1 _ ?_, h2⟩
  rw [List.getD_eq_getElem?_getD, List.getElem?_eq_getElem hj, Option.getD_some]
  exact List.getElem_mem hj

/-- the query of the answer -/
def pqQ (s : ByteArray) : QV := (pqA s).1.getD ⟨⟨#[]⟩, [], 0, []⟩
theorem pq_long {s : ByteArray} (h : 3000 < s.size) : pqA s = (none, 1, 0) := by unfold pqA; rw [if_pos h]
theorem pq_lex {s : ByteArray} {o : Nat} (h : ¬ 3000 < s.size) (hl : (lexA s).2 = some o) : pqA s = (none, 2, o) := by
  unfold pqA; rw [if_neg h]
  cases e : lexA s with
  | mk a b => rw [e] at hl; simp only at hl; subst hl; rfl
theorem pq_bad {s : ByteArray} {p : Nat} (h : ¬ 3000 < s.size) (hl : (lexA s).2 = none) (hq : qryF (lexA s).1 = .error p) : pqA s = (none, 3, if p < (lexA s).1.length then ((lexA s).1.getD p noTk).at' else s.size) := by
  unfold pqA; rw [if_neg h]
  cases e : lexA s with
  | mk a b => rw [e] at hl hq; simp only at hl hq; subst hl; simp only; rw [hq]
theorem pq_ok {s : ByteArray} {q : QV} (h : ¬ 3000 < s.size) (hl : (lexA s).2 = none) (hq : qryF (lexA s).1 = .ok q) : pqA s = (some q, 0, 0) := by
  unfold pqA; rw [if_neg h]
  cases e : lexA s with
  | mk a b => rw [e] at hl hq; simp only at hl hq; subst hl; simp only; rw [hq]
theorem QyR.nil (B : Nat) (W : World) : QyR B W (.slice none 0 0) [] (.slice none 0 0) [] := ⟨⟨rfl, Or.inl ⟨rfl, rfl⟩⟩, ⟨rfl, Or.inl ⟨rfl, rfl⟩⟩, fun u hu => by simp at hu, List.Pairwise.nil⟩

/-- how ParseQuery ends -/
def PqE (w : World) (s : ByteArray) (e : Ending) (w' : World) : Prop := ∃ nm x hd r y us, e = .returned (.tuple #[.agg #[.string nm, x, .int .i64 r, y], .int .i64 (pqA s).2.1, .int .i64 ((pqA s).2.2 : Int)]) ∧ QyR w.heap.size w' x hd y us ∧ Below w.heap.size w w' ∧ pqQ s = ⟨nm, hd, r, us.map uAt⟩
theorem PqE.no {w w' : World} {s : ByteArray} {c : Int} {o : Nat} (h : pqA s = (none, c, o)) (hb : Below w.heap.size w w') : PqE w s (.returned (.tuple #[.agg #[.string ⟨#[]⟩, .slice none 0 0, .int .i64 0, .slice none 0 0], .int .i64 c, .int .i64 (o : Int)])) w' :=
  ⟨⟨#[]⟩, _, [], 0, _, [], by rw [h], QyR.nil _ _, hb, by unfold pqQ; rw [h]; rfl⟩
theorem PqE.yes {w w' : World} {s : ByteArray} {nm : ByteArray} {x y : Value} {hd : List ByteArray} {r : Int} {us : List UV} (h : pqA s = (some ⟨nm, hd, r, us.map uAt⟩, 0, 0)) (hr : QyR w.heap.size w' x hd y us) (hb : Below w.heap.size w w') : PqE w s (.returned (.tuple #[.agg #[.string nm, x, .int .i64 r, y], .int .i64 0, .int .i64 0])) w' :=
  ⟨nm, x, hd, r, y, us, by rw [h]; rfl, hr, hb, by unfold pqQ; rw [h]; rfl⟩

end Go.Proofs.YtcdfoephhjacdaaDoor
