import Derived.Test.YtcdfoephhjacdaaDoorQ40
import Derived.Test.YtcdfoephhjacdaaDoorQ62
import Derived.Test.YtcdfoephhjacdaaDoorQ64
/-
  The query that a text asks for is small; its rows read.
-/
namespace Go.Proofs.YtcdfoephhjacdaaDoor
open Go.RowKit

theorem nx_nm {s : ByteArray} {o k v n : Nat} {nm : ByteArray} (ho : o < s.size) (h : nx s o = some (some (k, nm, v), n)) : nm.size ≤ 30 := by
  unfold nx at h
  split at h
  · simp at h
  · split at h
    · split at h
      · rename_i h3
        simp only [Option.some.injEq, Prod.mk.injEq] at h
        obtain ⟨⟨rfl, rfl, rfl⟩, rfl⟩ := h
        rw [ext_size _ _ _ (rn_le nbyteB s o (by omega))]
        exact h3
      · simp at h
    · split at h
      · split at h
        · simp only [Option.some.injEq, Prod.mk.injEq] at h
          obtain ⟨⟨rfl, rfl, rfl⟩, rfl⟩ := h
          exact Nat.zero_le _
        · simp at h
      · split at h
        · split at h
          · simp only [Option.some.injEq, Prod.mk.injEq] at h
            obtain ⟨⟨rfl, rfl, rfl⟩, rfl⟩ := h
            exact Nat.zero_le _
          · simp at h
        · split at h
          · simp only [Option.some.injEq, Prod.mk.injEq] at h
            obtain ⟨⟨rfl, rfl, rfl⟩, rfl⟩ := h
            exact Nat.zero_le _
          · simp at h
theorem lex_nm (s : ByteArray) : ∀ (f o : Nat) (acc : List TkV), (∀ t ∈ acc, t.nm.size ≤ 30) → ∀ t ∈ (lexF s f o acc).1, t.nm.size ≤ 30
  | 0, o, acc, h1 => h1
  | f + 1, o, acc, h1 => by
    rw [lexF]
    by_cases hlt : o < s.size
    · rw [if_pos hlt]
      cases hn : nx s o with
      | none => exact h1
      | some x =>
        obtain ⟨t, n⟩ := x
        cases t with
        | none => exact lex_nm s f (o + n) acc h1
        | some y =>
          obtain ⟨k, nm, v⟩ := y
          refine lex_nm s f (o + n) _ fun t ht => ?_
          rw [List.mem_append, List.mem_singleton] at ht
          rcases ht with ht | rfl
          · exact h1 t ht
          · exact nx_nm hlt hn
    · rw [if_neg hlt]
      exact h1
/-- tokens of short names -/
def Shrt (ts : List TkV) : Prop := ∀ j, (ts.getD j noTk).nm.size ≤ 30
theorem lexA_nm (s : ByteArray) : Shrt (lexA s).1 := fun j => by
  rw [List.getD_eq_getElem?_getD]
  cases h : (lexA s).1[j]? with
  | none => exact Nat.zero_le _
  | some t => exact lex_nm s _ 0 [] (fun t ht => by simp at ht) t (List.mem_of_getElem? h)
theorem tk_inv {ts : List TkV} {ks : List Nat} {p p' : Nat} {t : TkV} (h : tk ts ks p = .ok (t, p')) : t = ts.getD p noTk ∧ p' = p + 1 ∧ p < ts.length := by
  unfold tk at h
  split at h
  · rename_i h1
    have e := Except.ok.inj h
    exact ⟨(congrArg Prod.fst e).symm, (congrArg Prod.snd e).symm, h1.1⟩
  · cases h
def TmSm (l : List TermV) : Prop := ∀ t ∈ l, t.1.size ≤ 30
theorem trm_fit {ts : List TkV} (hn : Shrt ts) : ∀ (f p : Nat) (acc l : List TermV) (p3 : Nat), TmSm acc → acc.length ≤ p → trmF ts f p acc = .ok (l, p3) → TmSm l ∧ l.length ≤ p3
  | 0, p, acc, l, p3, _, _, h => by cases h
  | f + 1, p, acc, l, p3, ha, hl, h => by
    rw [trmF] at h
    cases h1 : tk ts [97, 48] p with
    | error e => rw [h1] at h; cases h
    | ok x =>
      obtain ⟨t, p1⟩ := x
      obtain ⟨rfl, rfl, -⟩ := tk_inv h1
      rw [h1] at h
      simp only at h
      have ha' : TmSm (acc ++ [((ts.getD p noTk).nm, ((ts.getD p noTk).v : Int))]) := fun t ht => by
        rw [List.mem_append, List.mem_singleton] at ht
        rcases ht with ht | rfl
        · exact ha t ht
        · exact hn p
      cases h2 : tk ts [44, 41] (p + 1) with
      | error e => rw [h2] at h; cases h
      | ok y =>
        obtain ⟨u, p2⟩ := y
        obtain ⟨rfl, rfl, -⟩ := tk_inv h2
        rw [h2] at h
        simp only at h
        split at h
        · exact trm_fit hn f _ _ _ _ ha' (by rw [List.length_append, List.length_singleton]; omega) h
        · have e := Except.ok.inj h
          have e1 := congrArg Prod.fst e
          have e2 := congrArg Prod.snd e
          simp only at e1 e2
          subst e1 e2
          exact ⟨ha', by rw [List.length_append, List.length_singleton]; omega⟩
def AtSm (N : Nat) (a : AtomV) : Prop := a.1.size ≤ 30 ∧ a.2.length ≤ N ∧ TmSm a.2
theorem atm_fit {ts : List TkV} (hn : Shrt ts) {p p3 : Nat} {a : AtomV} (h : atmF ts p = .ok (a, p3)) : AtSm ts.length a := by
  have hp := atm_pos h
  unfold atmF at h
  cases h1 : tk ts [97] p with
  | error e => rw [h1] at h; cases h
  | ok x =>
    obtain ⟨t, p1⟩ := x
    obtain ⟨rfl, rfl, -⟩ := tk_inv h1
    rw [h1] at h
    simp only at h
    cases h2 : tk ts [40] (p + 1) with
    | error e => rw [h2] at h; cases h
    | ok y =>
      obtain ⟨u, p2⟩ := y
      obtain ⟨rfl, rfl, -⟩ := tk_inv h2
      rw [h2] at h
      simp only at h
      cases h3 : trmF ts (ts.length + 1) (p + 1 + 1) [] with
      | error e => rw [h3] at h; cases h
      | ok z =>
        obtain ⟨l, p4⟩ := z
        rw [h3] at h
        obtain ⟨b1, b2⟩ := trm_fit hn _ _ _ _ _ (fun t ht => by simp at ht) (Nat.zero_le _) h3
        have e := Except.ok.inj h
        have e1 := congrArg Prod.fst e
        have e2 := congrArg Prod.snd e
        simp only at e1 e2
        subst e1 e2
        exact ⟨hn p, by show l.length ≤ _; omega, b1⟩
theorem ats_fit {ts : List TkV} (hn : Shrt ts) : ∀ (f p : Nat) (acc l : List AtomV) (p3 : Nat), (∀ a ∈ acc, AtSm ts.length a) → acc.length ≤ p → atsF ts f p acc = .ok (l, p3) → (∀ a ∈ l, AtSm ts.length a) ∧ l.length ≤ ts.length
  | 0, p, acc, l, p3, _, _, h => by cases h
  | f + 1, p, acc, l, p3, ha, hl, h => by
    rw [atsF] at h
    cases h1 : atmF ts p with
    | error e => rw [h1] at h; cases h
    | ok x =>
      obtain ⟨a, p1⟩ := x
      have hp := atm_pos h1
      rw [h1] at h
      simp only at h
      have ha' : ∀ b ∈ acc ++ [a], AtSm ts.length b := fun b hb => by
        rw [List.mem_append, List.mem_singleton] at hb
        rcases hb with hb | rfl
        · exact ha b hb
        · exact atm_fit hn h1
      cases h2 : tk ts [44, 46] p1 with
      | error e => rw [h2] at h; cases h
      | ok y =>
        obtain ⟨u, p2⟩ := y
        obtain ⟨rfl, rfl, hp1⟩ := tk_inv h2
        rw [h2] at h
        simp only at h
        split at h
        · exact ats_fit hn f _ _ _ _ ha' (by rw [List.length_append, List.length_singleton]; omega) h
        · have e := Except.ok.inj h
          have e1 := congrArg Prod.fst e
          simp only at e1
          subst e1
          exact ⟨ha', by rw [List.length_append, List.length_singleton]; omega⟩
def HdSm (N : Nat) (l : List ByteArray) : Prop := l.length ≤ N ∧ ∀ s ∈ l, s.size ≤ 30
theorem end_fit {ts : List TkV} {p r p3 : Nat} {acc l : List ByteArray} (h : endF ts p acc = .ok (l, r, p3)) : l = acc ∧ p < ts.length := by
  unfold endF at h
  cases h1 : tk ts [59, 41] p with
  | error e => rw [h1] at h; cases h
  | ok x =>
    obtain ⟨t, p1⟩ := x
    obtain ⟨rfl, rfl, hp⟩ := tk_inv h1
    rw [h1] at h
    simp only at h
    split at h
    · exact ⟨(congrArg Prod.fst (Except.ok.inj h)).symm, hp⟩
    · cases h2 : rngF ts (p + 1) with
      | error e => rw [h2] at h; cases h
      | ok y =>
        obtain ⟨r2, p2⟩ := y
        rw [h2] at h
        exact ⟨(congrArg Prod.fst (Except.ok.inj h)).symm, hp⟩
theorem hd_fit {ts : List TkV} (hn : Shrt ts) : ∀ (f p : Nat) (acc l : List ByteArray) (r p3 : Nat), (∀ s ∈ acc, s.size ≤ 30) → acc.length ≤ p → hdF ts f p acc = .ok (l, r, p3) → HdSm ts.length l
  | 0, p, acc, l, r, p3, _, _, h => by cases h
  | f + 1, p, acc, l, r, p3, ha, hl, h => by
    rw [hdF] at h
    cases h1 : tk ts [44] p with
    | error e =>
      rw [h1] at h
      simp only at h
      obtain ⟨rfl, hp⟩ := end_fit h
      exact ⟨by omega, ha⟩
    | ok x =>
      obtain ⟨t, p1⟩ := x
      obtain ⟨rfl, rfl, -⟩ := tk_inv h1
      rw [h1] at h
      simp only at h
      cases h2 : tk ts [97] (p + 1) with
      | error e => rw [h2] at h; cases h
      | ok y =>
        obtain ⟨u, p2⟩ := y
        obtain ⟨rfl, rfl, -⟩ := tk_inv h2
        rw [h2] at h
        simp only at h
        refine hd_fit hn f _ _ _ _ _ (fun s hs => ?_) (by rw [List.length_append, List.length_singleton]; omega) h
        rw [List.mem_append, List.mem_singleton] at hs
        rcases hs with hs | rfl
        · exact ha s hs
        · exact hn _
theorem head_fit {ts : List TkV} (hn : Shrt ts) {p r p3 : Nat} {l : List ByteArray} (h : headF ts p = .ok (l, r, p3)) : HdSm ts.length l := by
  unfold headF at h
  cases h1 : tk ts [97] p with
  | error e =>
    rw [h1] at h
    simp only at h
    obtain ⟨rfl, hp⟩ := end_fit h
    exact ⟨Nat.zero_le _, fun s hs => by simp at hs⟩
  | ok x =>
    obtain ⟨t, p1⟩ := x
    obtain ⟨rfl, rfl, -⟩ := tk_inv h1
    rw [h1] at h
    simp only at h
    refine hd_fit hn _ _ _ _ _ _ (fun s hs => ?_) (by show 1 ≤ p + 1; omega) h
    rw [List.mem_singleton] at hs
    subst hs
    exact hn p
/-- a small query -/
structure QFit (N : Nat) (q : QV) : Prop where
  name : q.name.size ≤ 30
  head : HdSm N q.head
  alen : q.atoms.length ≤ N
  atoms : ∀ a ∈ q.atoms, AtSm N a
theorem qry_fit {ts : List TkV} (hn : Shrt ts) {q : QV} (h : qryF ts = .ok q) : QFit ts.length q := by
  unfold qryF at h
  cases h1 : tk ts [97] 0 with
  | error e => rw [h1] at h; cases h
  | ok x =>
    obtain ⟨t, p1⟩ := x
    obtain ⟨rfl, rfl, -⟩ := tk_inv h1
    rw [h1] at h
    simp only at h
    cases h2 : tk ts [40] (0 + 1) with
    | error e => rw [h2] at h; cases h
    | ok y =>
      obtain ⟨u, p2⟩ := y
      rw [h2] at h
      simp only at h
      cases h3 : headF ts p2 with
      | error e => rw [h3] at h; cases h
      | ok z =>
        obtain ⟨hd, r, p3⟩ := z
        rw [h3] at h
        simp only at h
        cases h4 : tk ts [58] p3 with
        | error e => rw [h4] at h; cases h
        | ok v =>
          obtain ⟨u4, p4⟩ := v
          rw [h4] at h
          simp only at h
          cases h5 : atsF ts (ts.length + 1) p4 [] with
          | error e => rw [h5] at h; cases h
          | ok m =>
            obtain ⟨ats, p5⟩ := m
            rw [h5] at h
            simp only at h
            split at h
            · cases h
            · have e := Except.ok.inj h
              subst e
              obtain ⟨b1, b2⟩ := ats_fit hn _ _ _ _ _ (fun a ha => by simp at ha) (Nat.zero_le _) h5
              exact ⟨hn 0, head_fit hn h3, b2, b1⟩
theorem QFit.none (N : Nat) : QFit N ⟨⟨#[]⟩, [], 0, []⟩ := ⟨Nat.zero_le _, ⟨Nat.zero_le _, fun s hs => by simp at hs⟩, Nat.zero_le _, fun a ha => by simp at ha⟩
theorem QFit.up {N M : Nat} {q : QV} (h : QFit N q) (hm : N ≤ M) : QFit M q := ⟨h.name, ⟨Nat.le_trans h.head.1 hm, h.head.2⟩, Nat.le_trans h.alen hm, fun a ha => ⟨(h.atoms a ha).1, Nat.le_trans (h.atoms a ha).2.1 hm, (h.atoms a ha).2.2⟩⟩
theorem pqQ_fit (s : ByteArray) : QFit 3000 (pqQ s) := by
  unfold pqQ
  by_cases h : 3000 < s.size
  · rw [pq_long h]; exact QFit.none _
  · cases hl : (lexA s).2 with
    | some o => rw [pq_lex h hl]; exact QFit.none _
    | none =>
      cases hq : qryF (lexA s).1 with
      | error p => rw [pq_bad h hl hq]; exact QFit.none _
      | ok q => rw [pq_ok h hl hq]; exact (qry_fit (lexA_nm s) hq).up (by have := (lexA_ok s).2; omega)
theorem mem_getDq {α : Type} {l : List α} {j : Nat} {d : α} (hj : j < l.length) : l.getD j d ∈ l := by
  rw [List.getD_eq_getElem?_getD, List.getElem?_eq_getElem hj, Option.getD_some]
  exact List.getElem_mem hj
theorem QFit.ok {q : QV} (h : QFit 3000 q) : OkQ q :=
  ⟨by have := h.name; omega, by have := h.head.1; omega, fun j hj => by have := h.head.2 _ (mem_getDq (d := noTx) hj); omega, by have := h.alen; omega, fun j hj => by
    obtain ⟨a1, a2, a3⟩ := h.atoms _ (mem_getDq (d := noAt) hj)
    exact ⟨by omega, by omega, fun i hi => by have := a3 _ (mem_getDq (d := noTm) hi); omega⟩⟩
theorem getU_at {us : List UV} {j : Nat} (hj : j < us.length) : (us.map uAt).getD j noAt = uAt (us.getD j noU) := by
  rw [List.getD_eq_getElem?_getD, List.getD_eq_getElem?_getD, List.getElem?_map, List.getElem?_eq_getElem hj]
  rfl
/-- the atoms' terms are few -/
theorem QFit.tms {nm : ByteArray} {hd : List ByteArray} {r : Int} {us : List UV} (h : QFit 3000 ⟨nm, hd, r, us.map uAt⟩) (j : Nat) (hj : j < us.length) : (us.getD j noU).2.2.length ≤ 3000 := by
  have := (h.atoms (uAt (us.getD j noU)) (List.mem_map.2 ⟨_, getU hj, rfl⟩)).2.1
  exact this
theorem kA_le {us : List UV} {k : Nat} (h : ∀ j, j < us.length → (us.getD j noU).2.2.length ≤ 3000) : ∀ j, j ≤ us.length → kAq us k j ≤ k + j * 6001
  | 0, _ => by show k ≤ _; omega
  | j + 1, hj => by
    have := kA_le (k := k) h j (by omega)
    have := h j (by omega)
    show kAq us k j + 1 + 2 * (us.getD j noU).2.2.length ≤ _
    omega
theorem flatT : ∀ (l : List TermV) (j i : Nat), j < l.length → i < 2 → (l.flatMap tmc)[j * 2 + i]? = (tmc (l.getD j noTm))[i]?
  | [], j, i, hj, _ => by simp at hj
  | x :: l, 0, i, _, hi => by
    rw [List.flatMap_cons, Nat.zero_mul, Nat.zero_add, List.getElem?_append_left (by show i < 2; exact hi)]
    rfl
  | x :: l, j + 1, i, hj, hi => by
    rw [List.flatMap_cons, List.getElem?_append_right (by show 2 ≤ _; omega), show (j + 1) * 2 + i - (tmc x).length = j * 2 + i by show (j + 1) * 2 + i - 2 = _; omega]
    exact flatT l j i (by simpa using hj) hi
theorem own_terms {W : World} {B : Nat} {v : Value} {l : List TermV} (h : W.ownsRow B 145 2 v l.length (l.flatMap tmc)) : ITm W v l := by
  rcases own_any h with ⟨rfl, hz⟩ | ⟨g, cap, rfl, -⟩
  · exact ⟨none, 0, by rw [hz], Or.inl hz⟩
  · refine ⟨_, cap, rfl, Or.inr ⟨g, 0, rfl, fun j hj => ⟨?_, ?_⟩⟩⟩
    · have := h.cellAt (j * 2 + 0) (by omega)
      rw [flatT l j 0 hj (by omega)] at this
      rw [Nat.zero_add]
      exact this
    · have := h.cellAt (j * 2 + 1) (by omega)
      rw [flatT l j 1 hj (by omega)] at this
      rw [Nat.zero_add]
      exact this
theorem QyR.is {B : Nat} {W : World} {x y : Value} {hd : List ByteArray} {us : List UV} {nm : ByteArray} {r : Int} (h : QyR B W x hd y us) : IQ W x y ⟨nm, hd, r, us.map uAt⟩ := by
  refine ⟨?_, ?_⟩
  · show ISt W x hd
    have h1 := h.own1
    rcases own_any h1 with ⟨rfl, hz⟩ | ⟨g, cap, rfl, -⟩
    · exact ⟨none, 0, by rw [hz], Or.inl hz⟩
    · refine ⟨_, cap, rfl, Or.inr ⟨g, 0, rfl, fun j hj => ?_⟩⟩
      have := h1.cellAt j (by omega)
      rw [List.getElem?_map, List.getElem?_eq_getElem hj] at this
      rw [Nat.zero_add, List.getD_eq_getElem?_getD, List.getElem?_eq_getElem hj]
      exact this
  · show IAt W y (us.map uAt)
    have h2 := h.own2
    rcases own_any h2 with ⟨rfl, hz⟩ | ⟨g, cap, rfl, -⟩
    · exact ⟨none, 0, by rw [List.length_map, hz], Or.inl (by rw [List.length_map, hz])⟩
    · refine ⟨_, cap, by rw [List.length_map], Or.inr ⟨g, 0, rfl, fun j hj => ?_⟩⟩
      rw [List.length_map] at hj
      rw [getU_at hj, Nat.zero_add]
      refine ⟨(us.getD j noU).2.1, ?_, ?_, own_terms (h.tms _ (getU hj))⟩
      · have := h2.cellAt (j * 2 + 0) (by omega)
        rw [flatU us j 0 hj (by omega)] at this
        exact this
      · have := h2.cellAt (j * 2 + 1) (by omega)
        rw [flatU us j 1 hj (by omega)] at this
        exact this
theorem QyR.below {B : Nat} {W W' : World} {x y : Value} {hd : List ByteArray} {us : List UV} (h : QyR B W x hd y us) (hb : Below W.heap.size W W') : QyR B W' x hd y us :=
  ⟨own_below h.own1 hb, own_below h.own2 hb, fun u hu => own_below (h.tms u hu) hb, h.ap⟩

end Go.Proofs.YtcdfoephhjacdaaDoor
