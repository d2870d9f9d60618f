import Derived.Deep.CutBlock
import Derived.Deep.CutRange
import Derived.Deep.RegionHeldLaw
import Derived.WalkLawsBesides
import Derived.Test.YtcdfoephhjacdaaGreatDoorR08
import Derived.Test.YtcdfoephhjacdaaGreatDoorR19
/-
  The model's reader: query, walked.
-/
namespace Go.Proofs.YtcdfoephhjacdaaGreatDoor
open Go.RowKit

def rgT (i : Nat) : ByteArray := if i = 0 then ⟨#[]⟩ else if i = 1 then cntT else if i = 2 then sumT else minT
theorem rg_at : ∀ k : Nat, k < 4 → (#[Value.string ⟨#[]⟩, .string ⟨#[99, 111, 117, 110, 116]⟩, .string ⟨#[115, 117, 109]⟩, .string ⟨#[109, 105, 110]⟩])[k]? = some (.string (rgT k))
  | 0, _ => rfl
  | 1, _ => rfl
  | 2, _ => rfl
  | 3, _ => rfl
  | k + 4, h => by omega
theorem rng_eq {s : ByteArray} (hz : s.size ≠ 0) : ∀ k : Nat, k < 4 → (s.toList == (rgT k).toList) = decide (rngN s = k ∧ 0 < k)
  | 0, _ => by
    have := not_empty hz
    have e : (rgT 0).toList = [] := by simp only [rgT, ByteArray.toList_eq]; rfl
    rw [e]
    cases h : s.toList with
    | nil => rw [h] at this; cases this
    | cons a l => simp
  | 1, _ => by
    show (s.toList == cntT.toList) = _
    unfold rngN
    by_cases h : s.toList = cntT.toList
    · rw [if_pos h, h]; simp
    · rw [if_neg h]
      have : (s.toList == cntT.toList) = false := by simpa using h
      rw [this]
      by_cases h2 : s.toList = sumT.toList
      · rw [if_pos h2]; rfl
      · rw [if_neg h2]
        by_cases h3 : s.toList = minT.toList
        · rw [if_pos h3]; rfl
        · rw [if_neg h3]; rfl
  | 2, _ => by
    show (s.toList == sumT.toList) = _
    unfold rngN
    by_cases h : s.toList = cntT.toList
    · rw [if_pos h, h]; simp only [cntT, sumT, ByteArray.toList_eq]; decide
    · rw [if_neg h]
      by_cases h2 : s.toList = sumT.toList
      · rw [if_pos h2, h2]; simp
      · rw [if_neg h2]
        have : (s.toList == sumT.toList) = false := by simpa using h2
        rw [this]
        by_cases h3 : s.toList = minT.toList
        · rw [if_pos h3]; rfl
        · rw [if_neg h3]; rfl
  | 3, _ => by
    show (s.toList == minT.toList) = _
    unfold rngN
    by_cases h : s.toList = cntT.toList
    · rw [if_pos h, h]; simp only [cntT, minT, ByteArray.toList_eq]; decide
    · rw [if_neg h]
      by_cases h2 : s.toList = sumT.toList
      · rw [if_pos h2, h2]; simp only [sumT, minT, ByteArray.toList_eq]; decide
      · rw [if_neg h2]
        by_cases h3 : s.toList = minT.toList
        · rw [if_pos h3, h3]; simp
        · rw [if_neg h3]
          have : (s.toList == minT.toList) = false := by simpa using h3
          rw [this]; rfl
  | k + 4, h => by omega
theorem rngN_lt (s : ByteArray) : rngN s < 4 := by
  unfold rngN
  split
  · omega
  · split
    · omega
    · split <;> omega

def nmS (ts : List TkV) (p : Nat) (b : Bool) : ByteArray := if ntB ts p b 97 then (ts.getD p noTk).nm else ⟨#[]⟩
def nmP (ts : List TkV) (p : Nat) (b : Bool) : Nat := if ntB ts p b 97 then p + 1 else p
def nmQ (ts : List TkV) (p : Nat) (b : Bool) : Bool := if ntB ts p b 97 then b else true
def wtP (ts : List TkV) (p : Nat) (b : Bool) (c : Nat) : Nat := if tkB ts p b c then p + 1 else p
def wtQ (ts : List TkV) (p : Nat) (b : Bool) (c : Nat) : Bool := if tkB ts p b c then b else true
theorem nmP_le {ts : List TkV} {p : Nat} {b : Bool} (h : p ≤ ts.length) : nmP ts p b ≤ ts.length ∧ p ≤ nmP ts p b := by
  unfold nmP
  cases hn : ntB ts p b 97
  · exact ⟨h, Nat.le_refl _⟩
  · have := (ntB_iff.1 hn).2.1
    exact ⟨this, Nat.le_succ _⟩
theorem wtP_le {ts : List TkV} {p c : Nat} {b : Bool} (h : p ≤ ts.length) : wtP ts p b c ≤ ts.length := by
  unfold wtP
  cases hn : tkB ts p b c
  · exact h
  · exact (tkB_iff.1 hn).2.1

/-- a query's rows -/
structure QyR (B : Nat) (W : World) (x : Value) (hd : List ByteArray) (y : Value) (us : List UV) : Prop where
  own1 : W.ownsRow B 9 1 x hd.length (hd.map Value.string)
  own2 : W.ownsRow B 55 2 y us.length (us.flatMap atc)
  tms : ∀ u ∈ us, W.ownsRow B 89 2 u.2.1 u.2.2.length (u.2.2.flatMap tmc)
  ap : us.Pairwise fun u v => Apr u.2.1 v.2.1
theorem QyS.rows {w0 W : World} {g A B : Nat} {nm : ByteArray} {x y : Value} {hd : List ByteArray} {r : Int} {us : List UV} (h : QyS w0 W g A nm x hd r y us) (hB : B ≤ w0.heap.size) : QyR B W x hd y us :=
  ⟨own_base h.own1 hB, own_base h.own2 hB, fun u hu => own_base (h.tms u hu) hB, h.ap⟩
theorem QyR.set {B r o : Nat} {W : World} {x y v : Value} {hd : List ByteArray} {us : List UV} {cur : Array Value} (h : QyR B W x hd y us) (hr : W.heap[r]? = some (.cells cur 29 (0, 0))) : QyR B (W.setCell ⟨r, o, none⟩ v) x hd y us :=
  ⟨own_setT h.own1 hr (by decide), own_setT h.own2 hr (by decide), fun u hu => own_setT (h.tms u hu) hr (by decide), h.ap⟩
theorem q4_set {W : World} {r : Nat} {a b c d a' b' c' d' : Value} (h : W.heap[r]? = some (.cells #[a, b, c, d] 29 (0, 0))) :
    ((((W.setCell ⟨r, 0, none⟩ a').setCell ⟨r, 1, none⟩ b').setCell ⟨r, 2, none⟩ c').setCell ⟨r, 3, none⟩ d').heap[r]? = some (.cells #[a', b', c', d'] 29 (0, 0)) ∧
    (∀ {B : Nat} {x y : Value} {hd : List ByteArray} {us : List UV}, QyR B W x hd y us → QyR B ((((W.setCell ⟨r, 0, none⟩ a').setCell ⟨r, 1, none⟩ b').setCell ⟨r, 2, none⟩ c').setCell ⟨r, 3, none⟩ d') x hd y us) := by
  have h1 : (W.setCell ⟨r, 0, none⟩ a').heap[r]? = some (.cells #[a', b, c, d] 29 (0, 0)) := by rw [heap_setCell_same _ _ _ _ _ _ h]; rfl
  have h2 : ((W.setCell ⟨r, 0, none⟩ a').setCell ⟨r, 1, none⟩ b').heap[r]? = some (.cells #[a', b', c, d] 29 (0, 0)) := by rw [heap_setCell_same _ _ _ _ _ _ h1]; rfl
  have h3 : (((W.setCell ⟨r, 0, none⟩ a').setCell ⟨r, 1, none⟩ b').setCell ⟨r, 2, none⟩ c').heap[r]? = some (.cells #[a', b', c', d] 29 (0, 0)) := by rw [heap_setCell_same _ _ _ _ _ _ h2]; rfl
  exact ⟨by rw [heap_setCell_same _ _ _ _ _ _ h3]; rfl, fun hq => (((hq.set h).set h1).set h2).set h3⟩
theorem new1_cellT (w : World) (v : Value) (t : TypeId) : ∀ j u, [v][j]? = some u → (w.alloc (.cells #[v] t)).cell? ((⟨w.heap.size, 0, none⟩ : Addr).add j) = some u := by
  intro j u hj
  match j, hj with
  | 0, hj => simp at hj; subst hj; simp [Addr.add]

theorem Tryz.infoStrQ : (Tryz.prog.info? 9).map (fun i => (i.zero, i.size, i.bytes)) = some (some (.string ⟨#[]⟩), 1, 16) := by kernel_rfl
theorem Tryz.infoAtQ : (Tryz.prog.info? 55).map (fun i => (i.zero, i.size, i.bytes)) = some (some (.agg #[.string ⟨#[]⟩, .slice none 0 0]), 2, 40) := by kernel_rfl

end Go.Proofs.YtcdfoephhjacdaaGreatDoor

/-
  A text's tokens are such as may be; the whole answer.
-/
namespace Go.Proofs.YtcdfoephhjacdaaGreatDoor
open Go.RowKit

theorem rn_le (p : Int → Bool) (s : ByteArray) (o : Nat) (ho : o ≤ s.size) : o + rn p s o ≤ s.size := by
  have hl : s.data.toList.length = s.size := by simp
  have h := (List.takeWhile_sublist (l := s.data.toList.drop o) (fun b => p (b.toNat : Int))).length_le
  rw [List.length_drop] at h
  unfold rn
  omega
theorem rn_pos {p : Int → Bool} {s : ByteArray} {o : Nat} (ho : o < s.size) (hp : p (byteAt s o) = true) : 0 < rn p s o := by
  have hl : s.data.toList.length = s.size := by simp
  have hl' : o < s.data.toList.length := by omega
  unfold rn
  rw [List.drop_eq_getElem_cons hl', List.takeWhile_cons]
  have e : byteAt s o = ((s.data.toList[o]).toNat : Int) := by
    unfold byteAt
    rw [List.getD_eq_getElem?_getD, List.getElem?_eq_getElem hl', Option.getD_some]
  rw [e] at hp
  rw [if_pos hp]
  simp
theorem ext_size (s : ByteArray) (o n : Nat) (h : o + n ≤ s.size) : (s.extract o (o + n)).size = n := by
  rw [ByteArray.size_extract]
  omega
theorem nx_sepn {s : ByteArray} {o n : Nat} (h : nx s o = some (none, n)) : n = 1 := by
  unfold nx at h
  split at h
  · have := Option.some.inj h
    exact (congrArg Prod.snd this).symm
  · split at h
    · split at h <;> simp at h
    · split at h
      · split at h <;> simp at h
      · split at h
        · split at h <;> simp at h
        · split at h <;> simp at h
theorem nx_tok {s : ByteArray} {o k v n : Nat} {nm : ByteArray} (ho : o < s.size) (h : nx s o = some (some (k, nm, v), n)) : TkOk ⟨k, nm, v, o⟩ ∧ 0 < n ∧ o + n ≤ s.size := by
  unfold nx at h
  split at h
  · simp at h
  · split at h
    · rename_i h1 h2
      split at h
      · simp only [Option.some.injEq, Prod.mk.injEq] at h
        obtain ⟨⟨rfl, rfl, rfl⟩, rfl⟩ := h
        have hp : 0 < rn nbyteB s o := rn_pos ho (by unfold nbyteB; rw [h2]; rfl)
        have hl := rn_le nbyteB s o (by omega)
        refine ⟨⟨Or.inl rfl, fun h => absurd rfl h, fun _ => ?_, Nat.zero_le _, fun _ => rfl⟩, hp, hl⟩
        show (s.extract o (o + rn nbyteB s o)).size ≠ 0
        rw [ext_size _ _ _ hl]; omega
      · simp at h
    · split at h
      · rename_i h1 h2 h3
        split at h
        · rename_i h4
          simp only [Option.some.injEq, Prod.mk.injEq] at h
          obtain ⟨⟨rfl, rfl, rfl⟩, rfl⟩ := h
          exact ⟨⟨Or.inr (Or.inl rfl), fun _ => rfl, fun h => by simp at h, h4, fun h => by simp at h⟩, rn_pos ho h3, rn_le digitB s o (by omega)⟩
        · simp at h
      · split at h
        · split at h
          · rename_i h5
            simp only [Option.some.injEq, Prod.mk.injEq] at h
            obtain ⟨⟨rfl, rfl, rfl⟩, rfl⟩ := h
            exact ⟨⟨by simp, fun _ => rfl, fun h => by simp at h, Nat.zero_le _, fun h => by simp at h⟩, by omega, by omega⟩
          · simp at h
        · split at h
          · rename_i h6
            simp only [Option.some.injEq, Prod.mk.injEq] at h
            obtain ⟨⟨rfl, rfl, rfl⟩, rfl⟩ := h
            have hc : byteAt s o = 40 ∨ byteAt s o = 41 ∨ byteAt s o = 44 ∨ byteAt s o = 59 ∨ byteAt s o = 46 := by
              unfold symB at h6
              simp only [Bool.or_eq_true, decide_eq_true_eq] at h6
              omega
            refine ⟨⟨?_, fun _ => rfl, ?_, Nat.zero_le _, ?_⟩, by omega, by omega⟩
            · show (byteAt s o).toNat = 97 ∨ _
              rcases hc with hc | hc | hc | hc | hc <;> rw [hc] <;> simp
            · show (byteAt s o).toNat = 97 → _
              intro e; omega
            · show (byteAt s o).toNat = 97 → _
              intro e; omega
          · simp at h
theorem lex_all (s : ByteArray) : ∀ (f o : Nat) (acc : List TkV), o ≤ s.size → (∀ t ∈ acc, TkOk t) → acc.length ≤ o → (∀ t ∈ (lexF s f o acc).1, TkOk t) ∧ (lexF s f o acc).1.length ≤ s.size
  | 0, o, acc, ho, h1, h2 => ⟨h1, Nat.le_trans h2 ho⟩
  | f + 1, o, acc, ho, h1, h2 => by
    rw [lexF]
    by_cases hlt : o < s.size
    · rw [if_pos hlt]
      cases hn : nx s o with
      | none => exact ⟨h1, Nat.le_trans h2 ho⟩
      | some x =>
        obtain ⟨t, n⟩ := x
        cases t with
        | none =>
          have e1 := nx_sepn hn
          subst e1
          exact lex_all s f (o + 1) acc (by omega) h1 (by omega)
        | some y =>
          obtain ⟨k, nm, v⟩ := y
          obtain ⟨a1, a2, a3⟩ := nx_tok hlt hn
          refine lex_all s f (o + n) _ a3 (fun t ht => ?_) (by rw [List.length_append, List.length_singleton]; omega)
          rw [List.mem_append, List.mem_singleton] at ht
          rcases ht with ht | rfl
          · exact h1 t ht
          · exact a1
    · rw [if_neg hlt]
      exact ⟨h1, Nat.le_trans h2 ho⟩
theorem lexA_ok (s : ByteArray) : (∀ j, j < (lexA s).1.length → TkOk ((lexA s).1.getD j noTk)) ∧ (lexA s).1.length ≤ s.size := by
  obtain ⟨h1, h2⟩ := lex_all s (s.size + 1) 0 [] (Nat.zero_le _) (fun t ht => by simp at ht) (Nat.zero_le _)
  refine ⟨fun j hj => h1 _ ?_, h2⟩
  rw [List.getD_eq_getElem?_getD, List.getElem?_eq_getElem hj, Option.getD_some]
  exact List.getElem_mem hj

/-- the query of the answer -/
def pqQ (s : ByteArray) : QV := (pqA s).1.getD ⟨⟨#[]⟩, [], 0, []⟩
theorem pq_long {s : ByteArray} (h : 3000 < s.size) : pqA s = (none, 1, 0) := by unfold pqA; rw [if_pos h]
theorem pq_lex {s : ByteArray} {o : Nat} (h : ¬ 3000 < s.size) (hl : (lexA s).2 = some o) : pqA s = (none, 2, o) := by
  unfold pqA; rw [if_neg h]
  cases e : lexA s with
  | mk a b => rw [e] at hl; simp only at hl; subst hl; rfl
theorem pq_bad {s : ByteArray} {p : Nat} (h : ¬ 3000 < s.size) (hl : (lexA s).2 = none) (hq : qryF (lexA s).1 = .error p) : pqA s = (none, 3, if p < (lexA s).1.length then ((lexA s).1.getD p noTk).at' else s.size) := by
  unfold pqA; rw [if_neg h]
  cases e : lexA s with
  | mk a b => rw [e] at hl hq; simp only at hl hq; subst hl; simp only; rw [hq]
theorem pq_ok {s : ByteArray} {q : QV} (h : ¬ 3000 < s.size) (hl : (lexA s).2 = none) (hq : qryF (lexA s).1 = .ok q) : pqA s = (some q, 0, 0) := by
  unfold pqA; rw [if_neg h]
  cases e : lexA s with
  | mk a b => rw [e] at hl hq; simp only at hl hq; subst hl; simp only; rw [hq]
theorem QyR.nil (B : Nat) (W : World) : QyR B W (.slice none 0 0) [] (.slice none 0 0) [] := ⟨⟨rfl, Or.inl ⟨rfl, rfl⟩⟩, ⟨rfl, Or.inl ⟨rfl, rfl⟩⟩, fun u hu => by simp at hu, List.Pairwise.nil⟩

/-- how ParseQuery ends -/
def PqE (w : World) (s : ByteArray) (e : Ending) (w' : World) : Prop := ∃ nm x hd r y us, e = .returned (.tuple #[.agg #[.string nm, x, .int .i64 r, y], .int .i64 (pqA s).2.1, .int .i64 ((pqA s).2.2 : Int)]) ∧ QyR w.heap.size w' x hd y us ∧ Below w.heap.size w w' ∧ pqQ s = ⟨nm, hd, r, us.map uAt⟩
theorem PqE.no {w w' : World} {s : ByteArray} {c : Int} {o : Nat} (h : pqA s = (none, c, o)) (hb : Below w.heap.size w w') : PqE w s (.returned (.tuple #[.agg #[.string ⟨#[]⟩, .slice none 0 0, .int .i64 0, .slice none 0 0], .int .i64 c, .int .i64 (o : Int)])) w' :=
  ⟨⟨#[]⟩, _, [], 0, _, [], by rw [h], QyR.nil _ _, hb, by unfold pqQ; rw [h]; rfl⟩
theorem PqE.yes {w w' : World} {s : ByteArray} {nm : ByteArray} {x y : Value} {hd : List ByteArray} {r : Int} {us : List UV} (h : pqA s = (some ⟨nm, hd, r, us.map uAt⟩, 0, 0)) (hr : QyR w.heap.size w' x hd y us) (hb : Below w.heap.size w w') : PqE w s (.returned (.tuple #[.agg #[.string nm, x, .int .i64 r, y], .int .i64 0, .int .i64 0])) w' :=
  ⟨nm, x, hd, r, y, us, by rw [h]; rfl, hr, hb, by unfold pqQ; rw [h]; rfl⟩

end Go.Proofs.YtcdfoephhjacdaaGreatDoor

/-
  The program's parser: take.
-/
namespace Go.Proofs.YtcdfoephhjacdaaGreatDoor
open Go.RowKit

/-- a kind as the program writes it -/
def kdT (k : Nat) : ByteArray := ⟨#[UInt8.ofNat k]⟩
def tkv (t : TkV) : List Value := [.string (kdT t.k), .string t.nm, .int .i64 (t.v : Int), .int .i64 (t.at' : Int)]
/-- the parser's block g: the tokens l are still to be taken; they lie in block tb -/
structure PaS (W : World) (g tb : Nat) (a : Option Addr) (cap : Nat) (l : List TkV) : Prop where
  blk : W.heap[g]? = some (.cells #[.slice a l.length cap] 161 (0, 0))
  cap : l.length ≤ cap
  at' : ∀ j, j < l.length → ∃ o, a = some ⟨tb, o, none⟩ ∧ ∀ i, i < 4 → W.cell? ⟨tb, o + j * 4 + i, none⟩ = (tkv (l.getD j noTk))[i]?
  ne : tb ≠ g
section
variable {W W' : World} {g tb cap : Nat} {a : Option Addr} {l : List TkV}
theorem PaS.c0 (h : PaS W g tb a cap l) : W.cell? ⟨g, 0, none⟩ = some (.slice a l.length cap) := cell_of_row _ _ _ _ _ _ h.blk
theorem PaS.lt (h : PaS W g tb a cap l) : g < W.heap.size := World.block_lt_of_cell? W _ h.c0
theorem PaS.free (h : PaS W g tb a cap l) (q : Nat) : W.frozen? ⟨g, q, none⟩ = false := by
  unfold World.frozen?
  rw [h.blk]
  simp
theorem PaS.below (h : PaS W g tb a cap l) (hb : Below W.heap.size W W') : PaS W' g tb a cap l :=
  ⟨(hb.block g h.lt).trans h.blk, h.cap, fun j hj => by
    obtain ⟨o, e, hc⟩ := h.at' j hj
    refine ⟨o, e, fun i hi => ?_⟩
    have h1 := hc i hi
    have h2 : ∃ u, (tkv (l.getD j noTk))[i]? = some u := ⟨_, List.getElem?_eq_getElem (show i < (tkv (l.getD j noTk)).length from hi)⟩
    obtain ⟨u, hu⟩ := h2
    rw [hu] at h1 ⊢
    exact (hb.cell (p := ⟨tb, o + j * 4 + i, none⟩) (World.block_lt_of_cell? W _ h1)).trans h1, h.ne⟩
/-- the next token is taken -/
theorem PaS.step {t : TkV} {a' : Option Addr} (h : PaS W g tb a cap (t :: l)) (ha : l.length ≠ 0 → ∀ o, a = some ⟨tb, o, none⟩ → a' = some ⟨tb, o + 4, none⟩) : PaS (W.setCell ⟨g, 0, none⟩ (.slice a' l.length (cap - 1))) g tb a' (cap - 1) l := by
  refine ⟨by rw [heap_setCell_same _ _ _ _ _ _ h.blk]; rfl, by have := h.cap; rw [List.length_cons] at this; omega, fun j hj => ?_, h.ne⟩
  obtain ⟨o, e, hc⟩ := h.at' (j + 1) (by rw [List.length_cons]; omega)
  refine ⟨o + 4, ha (by omega) o e, fun i hi => ?_⟩
  rw [World.cell?_setCell_other _ _ _ _ (by intro e3; simp only [Addr.mk.injEq] at e3; exact h.ne (by omega))]
  have := hc i hi
  rw [show o + (j + 1) * 4 + i = o + 4 + j * 4 + i by omega] at this
  exact this
end

/-- what the parser panics with -/
def flt (z : Int) : List PanicEntry := [{ v := .iface 78 (.agg #[.int .i64 3, .int .i64 z]), recovered := false }]

set_option maxHeartbeats 2000000 in
set_option maxRecDepth 1000000 in
theorem unfit_any (w : World) (k nm : ByteArray) (v z : Int) : Calls Tryz.prog 110 #[.agg #[.string k, .string nm, .int .i64 v, .int .i64 z]] w fun e w' => e = .returned (.agg #[.int .i64 3, .int .i64 z]) ∧ Below w.heap.size w w' := by
  go_enter Tryz.func110, Tryz.ntmps110
  go_wp2_with fail
  refine bodyPost_ret (v := .agg #[.int .i64 3, .int .i64 z]) (by simp [results, Tryz.results110, go_sem]) rfl ?_
  refine ⟨rfl, ?_⟩
  first | exact ((Below.refl _ _).alloc (Nat.le_refl _) _).alloc (by simp) _ | trace_state

theorem unfit_calls (w : World) (t : TkV) : Calls Tryz.prog 110 #[.agg #[.string (kdT t.k), .string t.nm, .int .i64 (t.v : Int), .int .i64 (t.at' : Int)]] w fun e w' => e = .returned (.agg #[.int .i64 3, .int .i64 (t.at' : Int)]) ∧ Below w.heap.size w w' := unfit_any w _ _ _ _

theorem has_kd {ks : List Nat} {t : TkV} (ht : TkOk t) (hks : ∀ k ∈ ks, k < 256) : hasT (ks.map kdT) (kdT t.k) = decide (t.k ∈ ks) := by
  have h8 : t.k < 256 := by rcases ht.k with h | h | h | h | h | h | h | h <;> omega
  have inj : ∀ a b, a < 256 → b < 256 → (kdT a).toList = (kdT b).toList → a = b := fun a b ha hb e => by
    unfold kdT at e
    simp only [ByteArray.toList_eq] at e
    have e2 : UInt8.ofNat a = UInt8.ofNat b := by simpa using e
    have e3 := congrArg UInt8.toNat e2
    rw [UInt8.toNat_ofNat_of_lt' (by simpa using ha), UInt8.toNat_ofNat_of_lt' (by simpa using hb)] at e3
    exact e3
  unfold hasT
  by_cases hm : t.k ∈ ks
  · rw [decide_eq_true hm, List.any_eq_true]
    exact ⟨kdT t.k, List.mem_map_of_mem hm, by simp⟩
  · rw [decide_eq_false hm, List.any_eq_false]
    intro x hx he
    obtain ⟨k, hk, rfl⟩ := List.mem_map.1 hx
    have := inj k t.k (hks k hk) h8 (by simpa using he)
    rw [this] at hk
    exact hm hk

end Go.Proofs.YtcdfoephhjacdaaGreatDoor

/-
  The program's parser: take, walked.
-/
namespace Go.Proofs.YtcdfoephhjacdaaGreatDoor
open Go.RowKit

theorem q4T {W : World} {r : Nat} {ty : TypeId} {a b c d a' b' c' d' : Value} (h : W.heap[r]? = some (.cells #[a, b, c, d] ty (0, 0))) :
    ((((W.setCell ⟨r, 0, none⟩ a').setCell ⟨r, 1, none⟩ b').setCell ⟨r, 2, none⟩ c').setCell ⟨r, 3, none⟩ d').heap[r]? = some (.cells #[a', b', c', d'] ty (0, 0)) := by
  have h1 : (W.setCell ⟨r, 0, none⟩ a').heap[r]? = some (.cells #[a', b, c, d] ty (0, 0)) := by rw [heap_setCell_same _ _ _ _ _ _ h]; rfl
  have h2 : ((W.setCell ⟨r, 0, none⟩ a').setCell ⟨r, 1, none⟩ b').heap[r]? = some (.cells #[a', b', c, d] ty (0, 0)) := by rw [heap_setCell_same _ _ _ _ _ _ h1]; rfl
  have h3 : (((W.setCell ⟨r, 0, none⟩ a').setCell ⟨r, 1, none⟩ b').setCell ⟨r, 2, none⟩ c').heap[r]? = some (.cells #[a', b', c', d] ty (0, 0)) := by rw [heap_setCell_same _ _ _ _ _ _ h2]; rfl
  rw [heap_setCell_same _ _ _ _ _ _ h3]; rfl
theorem PaS.set {W : World} {g tb cap r o : Nat} {a : Option Addr} {l : List TkV} {v : Value} (h : PaS W g tb a cap l) (h1 : r ≠ g) (h2 : r ≠ tb) : PaS (W.setCell ⟨r, o, none⟩ v) g tb a cap l :=
  ⟨by rw [Below.heap_setCell _ _ _ _ (fun e => h1 e.symm)]; exact h.blk, h.cap, fun j hj => by
    obtain ⟨q, e, hc⟩ := h.at' j hj
    exact ⟨q, e, fun i hi => by rw [World.cell?_setCell_other _ _ _ _ (by intro e3; simp only [Addr.mk.injEq] at e3; exact h2 (by omega))]; exact hc i hi⟩, h.ne⟩

set_option maxHeartbeats 4000000 in
set_option maxRecDepth 1000000 in
theorem take_none (w : World) (g tb cap : Nat) (a : Option Addr) (vk : Value) (h : PaS w g tb a cap []) : Calls Tryz.prog 107 #[.pointer (some ⟨g, 0, none⟩), vk] w fun e w' => e = .panicked (flt (-1)) ∧ Below w.heap.size w w' := by
  have c0 := h.c0
  have d0 : (w.alloc (.cells #[.string ⟨#[]⟩, .string ⟨#[]⟩, .int .i64 0, .int .i64 0] 156)).cell? ⟨g, 0, none⟩ = some (.slice a 0 cap) := (World.cell?_alloc_past _ _ _ h.lt).trans c0
  have hb : Below w.heap.size w (w.alloc (.cells #[.string ⟨#[]⟩, .string ⟨#[]⟩, .int .i64 0, .int .i64 0] 156)) := (Below.refl _ _).alloc (Nat.le_refl _) _
  have HB := hid hb
  clear h hb
  go_enter Tryz.func107, Tryz.ntmps107
  go_wp2_with fail
  exact ⟨rfl, rfl, HB.out⟩

set_option maxHeartbeats 4000000 in
set_option maxRecDepth 1000000 in
theorem take_no (w : World) (g tb cap : Nat) (a : Option Addr) (vk : Value) (ks : List Nat) (t : TkV) (r : List TkV) (h : PaS w g tb a cap (t :: r)) (hk : ISt w vk (ks.map kdT)) (hkl : ks.length ≤ 100) (hk8 : ∀ k ∈ ks, k < 256) (ht : TkOk t) (hl : r.length ≤ 1000000) (hm : ¬ t.k ∈ ks) : Calls Tryz.prog 107 #[.pointer (some ⟨g, 0, none⟩), vk] w fun e w' => e = .panicked (flt (t.at' : Int)) ∧ Below w.heap.size w w' := by
  obtain ⟨W1, hW1⟩ : ∃ W, W = w.alloc (.cells #[.string ⟨#[]⟩, .string ⟨#[]⟩, .int .i64 0, .int .i64 0] 156) := ⟨_, rfl⟩
  have hb1 : Below w.heap.size w W1 := by rw [hW1]; exact (Below.refl _ _).alloc (Nat.le_refl _) _
  have h1 := h.below hb1
  have c0 := h1.c0
  obtain ⟨o, ea, hc⟩ := h1.at' 0 (by simp)
  have t0 : W1.cell? ⟨tb, o, none⟩ = some (.string (kdT t.k)) := hc 0 (by omega)
  have t1 : W1.cell? ⟨tb, o + 1, none⟩ = some (.string t.nm) := hc 1 (by omega)
  have t2 : W1.cell? ⟨tb, o + 2, none⟩ = some (.int .i64 (t.v : Int)) := hc 2 (by omega)
  have t3 : W1.cell? ⟨tb, o + 3, none⟩ = some (.int .i64 (t.at' : Int)) := hc 3 (by omega)
  obtain ⟨W2, hW2⟩ : ∃ W, W = W1.alloc (.cells #[.string (kdT t.k), .string t.nm, .int .i64 (t.v : Int), .int .i64 (t.at' : Int)] 156) := ⟨_, rfl⟩
  have hb2 : Below W1.heap.size W1 W2 := by rw [hW2]; exact (Below.refl _ _).alloc (Nat.le_refl _) _
  have h2 := h1.below hb2
  have hs12 : W1.heap.size = w.heap.size + 1 := by rw [hW1]; simp
  have hs2 : W2.heap.size = W1.heap.size + 1 := by rw [hW2]; simp
  have hbl : W2.heap[W1.heap.size]? = some (.cells #[.string (kdT t.k), .string t.nm, .int .i64 (t.v : Int), .int .i64 (t.at' : Int)] 156 (0, 0)) := by rw [hW2]; exact heap_alloc_new _ _
  have hbr : W2.heap[w.heap.size]? = some (.cells #[.string ⟨#[]⟩, .string ⟨#[]⟩, .int .i64 0, .int .i64 0] 156 (0, 0)) := by
    rw [hb2.block w.heap.size (by omega), hW1]; exact heap_alloc_new _ _
  have hb02 : Below w.heap.size w W2 := hb1.trans (hb2.mono (by omega))
  have KC := hid (containsT_calls W2 vk (ks.map kdT) (kdT t.k) (hk.below hb02) (by rw [List.length_map]; omega))
  rw [has_kd ht hk8] at KC
  have KU := hid (unfit_calls W2 t)
  have HTB : Hid (tb < w.heap.size) := hid (by
    obtain ⟨o2, -, hc2⟩ := h.at' 0 (by simp)
    exact World.block_lt_of_cell? w _ (hc2 0 (by omega)))
  have hcap := h1.cap
  rw [List.length_cons] at hcap
  have e0 : W2.cell? ⟨g, 0, none⟩ = some (.slice a (r.length + 1) cap) := h2.c0
  have fg := h2.free 0
  have hglt := h.lt
  have HP2 := hid h2
  have HB2 := hid hb02
  have hn : ((r.length : Int) + 1 == 0) = false := by simp; omega
  have l0 : W2.cell? ⟨W1.heap.size, 0, none⟩ = some (.string (kdT t.k)) := cell_of_row _ _ _ _ _ _ hbl
  have l1 : W2.cell? ⟨W1.heap.size, 1, none⟩ = some (.string t.nm) := cell_of_row _ _ _ _ _ _ hbl
  have l2 : W2.cell? ⟨W1.heap.size, 2, none⟩ = some (.int .i64 (t.v : Int)) := cell_of_row _ _ _ _ _ _ hbl
  have l3 : W2.cell? ⟨W1.heap.size, 3, none⟩ = some (.int .i64 (t.at' : Int)) := cell_of_row _ _ _ _ _ _ hbl
  rw [hs12] at l0 l1 l2 l3
  clear hs2
  have c0' : W1.cell? ⟨g, 0, none⟩ = some (.slice a (r.length + 1) cap) := c0
  have HBR := hid hbr
  rw [decide_eq_false hm] at KC
  clear h h1 h2 hc hb1 hb2 hbl hbr hk hk8 c0 hb02
  generalize kdT t.k = kd at *
  generalize t.nm = nm at *
  generalize (t.v : Int) = tv at *
  generalize (t.at' : Int) = ta at *
  subst ea
  generalize hrl : r.length = n at *
  clear HP2 HBR hrl HTB
  go_enter Tryz.func107, Tryz.ntmps107
  go_upto_region 1 with fail
  rw [← hW1]
  clear hW1
  go_upto_region 4 with fail
  rw [← hW2]
  clear hW2 t0 t1 t2 t3 c0'
  go_wp2_with (first | (go_at_call 131; refine KC.out.mono ?_; rintro e w' ⟨rfl, hw'⟩; subst w') | (go_at_call 110; refine KU.out.mono ?_; rintro e w3 ⟨rfl, hb3⟩; have HB3 := hid (bt HB2.out hb3); clear hb3) | fail)
  exact ⟨rfl, rfl, HB3.out⟩

set_option maxHeartbeats 4000000 in
set_option maxRecDepth 1000000 in
theorem take_yes (w : World) (g tb cap : Nat) (a : Option Addr) (vk : Value) (ks : List Nat) (t : TkV) (r : List TkV) (h : PaS w g tb a cap (t :: r)) (hk : ISt w vk (ks.map kdT)) (hkl : ks.length ≤ 100) (hk8 : ∀ k ∈ ks, k < 256) (ht : TkOk t) (hl : r.length ≤ 1000000) (hm : t.k ∈ ks) : Calls Tryz.prog 107 #[.pointer (some ⟨g, 0, none⟩), vk] w fun e w' => e = .returned (.agg #[.string (kdT t.k), .string t.nm, .int .i64 (t.v : Int), .int .i64 (t.at' : Int)]) ∧ (∃ a cap, PaS w' g tb a cap r) ∧ Ex g w w' := by
  obtain ⟨W1, hW1⟩ : ∃ W, W = w.alloc (.cells #[.string ⟨#[]⟩, .string ⟨#[]⟩, .int .i64 0, .int .i64 0] 156) := ⟨_, rfl⟩
  have hb1 : Below w.heap.size w W1 := by rw [hW1]; exact (Below.refl _ _).alloc (Nat.le_refl _) _
  have h1 := h.below hb1
  have c0 := h1.c0
  obtain ⟨o, ea, hc⟩ := h1.at' 0 (by simp)
  have t0 : W1.cell? ⟨tb, o, none⟩ = some (.string (kdT t.k)) := hc 0 (by omega)
  have t1 : W1.cell? ⟨tb, o + 1, none⟩ = some (.string t.nm) := hc 1 (by omega)
  have t2 : W1.cell? ⟨tb, o + 2, none⟩ = some (.int .i64 (t.v : Int)) := hc 2 (by omega)
  have t3 : W1.cell? ⟨tb, o + 3, none⟩ = some (.int .i64 (t.at' : Int)) := hc 3 (by omega)
  obtain ⟨W2, hW2⟩ : ∃ W, W = W1.alloc (.cells #[.string (kdT t.k), .string t.nm, .int .i64 (t.v : Int), .int .i64 (t.at' : Int)] 156) := ⟨_, rfl⟩
  have hb2 : Below W1.heap.size W1 W2 := by rw [hW2]; exact (Below.refl _ _).alloc (Nat.le_refl _) _
  have h2 := h1.below hb2
  have hs12 : W1.heap.size = w.heap.size + 1 := by rw [hW1]; simp
  have hs2 : W2.heap.size = W1.heap.size + 1 := by rw [hW2]; simp
  have hbl : W2.heap[W1.heap.size]? = some (.cells #[.string (kdT t.k), .string t.nm, .int .i64 (t.v : Int), .int .i64 (t.at' : Int)] 156 (0, 0)) := by rw [hW2]; exact heap_alloc_new _ _
  have hbr : W2.heap[w.heap.size]? = some (.cells #[.string ⟨#[]⟩, .string ⟨#[]⟩, .int .i64 0, .int .i64 0] 156 (0, 0)) := by
    rw [hb2.block w.heap.size (by omega), hW1]; exact heap_alloc_new _ _
  have hb02 : Below w.heap.size w W2 := hb1.trans (hb2.mono (by omega))
  have KC := hid (containsT_calls W2 vk (ks.map kdT) (kdT t.k) (hk.below hb02) (by rw [List.length_map]; omega))
  rw [has_kd ht hk8] at KC
  have KU := hid (unfit_calls W2 t)
  have HTB : Hid (tb < w.heap.size) := hid (by
    obtain ⟨o2, -, hc2⟩ := h.at' 0 (by simp)
    exact World.block_lt_of_cell? w _ (hc2 0 (by omega)))
  have hcap := h1.cap
  rw [List.length_cons] at hcap
  have e0 : W2.cell? ⟨g, 0, none⟩ = some (.slice a (r.length + 1) cap) := h2.c0
  have fg := h2.free 0
  have hglt := h.lt
  have HP2 := hid h2
  have HB2 := hid hb02
  have hn : ((r.length : Int) + 1 == 0) = false := by simp; omega
  have l0 : W2.cell? ⟨W1.heap.size, 0, none⟩ = some (.string (kdT t.k)) := cell_of_row _ _ _ _ _ _ hbl
  have l1 : W2.cell? ⟨W1.heap.size, 1, none⟩ = some (.string t.nm) := cell_of_row _ _ _ _ _ _ hbl
  have l2 : W2.cell? ⟨W1.heap.size, 2, none⟩ = some (.int .i64 (t.v : Int)) := cell_of_row _ _ _ _ _ _ hbl
  have l3 : W2.cell? ⟨W1.heap.size, 3, none⟩ = some (.int .i64 (t.at' : Int)) := cell_of_row _ _ _ _ _ _ hbl
  rw [hs12] at l0 l1 l2 l3
  clear hs2
  have c0' : W1.cell? ⟨g, 0, none⟩ = some (.slice a (r.length + 1) cap) := c0
  have HBR := hid hbr
  rw [decide_eq_true hm] at KC
  clear h h1 h2 hc hb1 hb2 hbl hbr hk hk8 c0 hb02
  generalize kdT t.k = kd at *
  generalize t.nm = nm at *
  generalize (t.v : Int) = tv at *
  generalize (t.at' : Int) = ta at *
  subst ea
  generalize hrl : r.length = n at *
  clear KU
  go_enter Tryz.func107, Tryz.ntmps107
  go_upto_region 1 with fail
  rw [← hW1]
  clear hW1
  go_upto_region 4 with fail
  rw [← hW2]
  clear hW2 t0 t1 t2 t3 c0'
  go_upto_region 6 with (first | (go_at_call 131; refine KC.out.mono ?_; rintro e w' ⟨rfl, hw'⟩; subst w') | fail)
  clear KC
  have htb : tb < w.heap.size := HTB.out
  have HST : Hid (PaS (W2.setCell ⟨g, 0, none⟩ (.slice (if cap = 1 then some ⟨tb, o, none⟩ else some ⟨tb, o + 4, none⟩) n (cap - 1))) g tb (if cap = 1 then some ⟨tb, o, none⟩ else some ⟨tb, o + 4, none⟩) (cap - 1) r) := hid (by
    rw [← hrl]
    refine HP2.out.step fun h0 o' e => ?_
    have e2 : o = o' := by simpa using e
    rw [if_neg (by omega), e2])
  have HX3 : Hid (Ex g w (W2.setCell ⟨g, 0, none⟩ (.slice (if cap = 1 then some ⟨tb, o, none⟩ else some ⟨tb, o + 4, none⟩) n (cap - 1)))) := hid (Ex.bel HB2.out).set
  have HKp : Hid (∀ v : Value, (W2.setCell ⟨g, 0, none⟩ v).heap[w.heap.size]? = some (.cells #[.string ⟨#[]⟩, .string ⟨#[]⟩, .int .i64 0, .int .i64 0] 156 (0, 0)) ∧ (W2.setCell ⟨g, 0, none⟩ v).cell? ⟨w.heap.size + 1, 0, none⟩ = some (.string kd) ∧ (W2.setCell ⟨g, 0, none⟩ v).cell? ⟨w.heap.size + 1, 1, none⟩ = some (.string nm) ∧ (W2.setCell ⟨g, 0, none⟩ v).cell? ⟨w.heap.size + 1, 2, none⟩ = some (.int .i64 tv) ∧ (W2.setCell ⟨g, 0, none⟩ v).cell? ⟨w.heap.size + 1, 3, none⟩ = some (.int .i64 ta)) := hid fun v => by
    have ne : ∀ q, (W2.setCell ⟨g, 0, none⟩ v).cell? ⟨w.heap.size + 1, q, none⟩ = W2.cell? ⟨w.heap.size + 1, q, none⟩ := fun q => World.cell?_setCell_other _ _ _ _ (by intro e3; simp only [Addr.mk.injEq] at e3; omega)
    exact ⟨by rw [Below.heap_setCell _ _ _ _ (show w.heap.size ≠ g by omega)]; exact HBR.out, (ne 0).trans l0, (ne 1).trans l1, (ne 2).trans l2, (ne 3).trans l3⟩
  go_upto_region 7 with fail
  clear l0 l1 l2 l3 e0 fg HP2 HB2 HBR HTB hrl
  generalize (if cap = 1 then some (⟨tb, o, none⟩ : Addr) else some ⟨tb, o + 4, none⟩) = a' at *
  obtain ⟨hbr, l0, l1, l2, l3⟩ := HKp.out (.slice a' n (cap - 1))
  clear HKp
  generalize W2.setCell ⟨g, 0, none⟩ (.slice a' n (cap - 1)) = W3 at *
  obtain ⟨WF, hWF⟩ : ∃ W, W = (((W3.setCell ⟨w.heap.size, 0, none⟩ (.string kd)).setCell ⟨w.heap.size, 1, none⟩ (.string nm)).setCell ⟨w.heap.size, 2, none⟩ (.int .i64 tv)).setCell ⟨w.heap.size, 3, none⟩ (.int .i64 ta) := ⟨_, rfl⟩
  have hfin := q4T (a' := .string kd) (b' := .string nm) (c' := .int .i64 tv) (d' := .int .i64 ta) hbr
  rw [← hWF] at hfin
  have q0 : WF.cell? ⟨w.heap.size, 0, none⟩ = some (.string kd) := cell_of_row _ _ _ _ _ _ hfin
  have q1 : WF.cell? ⟨w.heap.size, 1, none⟩ = some (.string nm) := cell_of_row _ _ _ _ _ _ hfin
  have q2 : WF.cell? ⟨w.heap.size, 2, none⟩ = some (.int .i64 tv) := cell_of_row _ _ _ _ _ _ hfin
  have q3 : WF.cell? ⟨w.heap.size, 3, none⟩ = some (.int .i64 ta) := cell_of_row _ _ _ _ _ _ hfin
  have HPF : Hid (PaS WF g tb a' (cap - 1) r) := hid (by rw [hWF]; exact (((HST.out.set (by omega) (by omega)).set (by omega) (by omega)).set (by omega) (by omega)).set (by omega) (by omega))
  have HXF : Hid (Ex g w WF) := hid (by rw [hWF]; exact (((HX3.out.new (Nat.le_refl _)).new (Nat.le_refl _)).new (Nat.le_refl _)).new (Nat.le_refl _))
  have r0 : W3.cell? ⟨w.heap.size, 0, none⟩ = some (.string ⟨#[]⟩) := cell_of_row _ _ _ _ _ _ hbr
  have r1 : W3.cell? ⟨w.heap.size, 1, none⟩ = some (.string ⟨#[]⟩) := cell_of_row _ _ _ _ _ _ hbr
  have r2 : W3.cell? ⟨w.heap.size, 2, none⟩ = some (.int .i64 0) := cell_of_row _ _ _ _ _ _ hbr
  have r3 : W3.cell? ⟨w.heap.size, 3, none⟩ = some (.int .i64 0) := cell_of_row _ _ _ _ _ _ hbr
  have fr : ∀ q, W3.frozen? ⟨w.heap.size, q, none⟩ = false := fun q => by unfold World.frozen?; rw [hbr]; simp
  have f0 := fr 0
  have f1 := fr 1
  have f2 := fr 2
  have f3 := fr 3
  have HQ := hid (And.intro q0 (And.intro q1 (And.intro q2 q3)))
  have HWF := hid hWF
  clear hfin hbr q0 q1 q2 q3 fr hWF HST HX3
  go_cut [36] from 5 (fun _ wx => Hid (wx = WF))
  case first =>
    go_wp2_with fail
    go_meet
    exact hid HWF.out.symm
  case rest =>
    have hw := hcut.out
    subst wc
    obtain ⟨q0, q1, q2, q3⟩ := HQ.out
    clear l0 l1 l2 l3 r0 r1 r2 r3 f0 f1 f2 f3
    go_wp2_with fail
    refine bodyPost_ret (v := .agg #[.string kd, .string nm, .int .i64 tv, .int .i64 ta]) (by simp [results, Tryz.results107, go_sem, q0, q1, q2, q3]) rfl ?_
    exact ⟨rfl, ⟨_, _, HPF.out⟩, HXF.out⟩

end Go.Proofs.YtcdfoephhjacdaaGreatDoor
