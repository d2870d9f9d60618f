import Derived.Test.YtcdfoephhjacdaaGreatDoorR07
import Derived.Test.YtcdfoephhjacdaaGreatDoorR08
import Derived.Test.YtcdfoephhjacdaaGreatDoorR11
import Derived.Test.YtcdfoephhjacdaaGreatDoorR12
/-
  A query's text; spec.l3Join.
-/
namespace Go.Proofs.YtcdfoephhjacdaaGreatDoor
open Go.RowKit

theorem digs_len2 : ∀ (k n : Nat), n < 10 ^ (k + 1) → (Lib.decDigits n).length ≤ k + 1
  | 0, n, h => by rw [Lib.decDigits, dif_pos (by omega)]; simp
  | k + 1, n, h => by
    rw [Lib.decDigits]
    by_cases h1 : n < 10
    · rw [dif_pos h1]; simp
    · rw [dif_neg h1, List.length_append, List.length_singleton]
      have := digs_len2 k (n / 10) (by rw [Nat.pow_succ] at h; omega)
      omega
theorem itoa_short (n : Int) (h0 : 0 ≤ n) (h1 : n ≤ 1000000) : (Lib.itoa n).length ≤ 30 := by
  unfold Lib.itoa
  rw [if_neg (by omega)]
  have := digs_len2 6 n.toNat (by omega)
  omega

def jn (l : List (List UInt8)) : List UInt8 := Lib.join l [44, 32]
def bts (x : ByteArray) : List UInt8 := x.data.toList
def termT (t : TermV) : List UInt8 := if t.1.toList.isEmpty then Lib.itoa t.2 else bts t.1
def atomT (a : AtomV) : List UInt8 := bts a.1 ++ [40] ++ jn (a.2.map termT) ++ [41]
def ringB (r : Int) : ByteArray := if r = 1 then ⟨#[99, 111, 117, 110, 116]⟩ else if r = 2 then ⟨#[115, 117, 109]⟩ else if r = 3 then ⟨#[109, 105, 110]⟩ else ⟨#[]⟩
def headT (q : QV) : List UInt8 := jn (q.head.map bts) ++ (if 0 < q.ring then [59, 32] ++ bts (ringB q.ring) else [])
def prqT (q : QV) : List UInt8 := if shapeB q then bts q.name ++ [40] ++ headT q ++ [41, 32, 58, 45, 32] ++ jn (q.atoms.map atomT) ++ [46] else []

theorem bts_len (x : ByteArray) : (bts x).length = x.size := by unfold bts; simp
theorem bts_mk (x : ByteArray) : (⟨(bts x).toArray⟩ : ByteArray) = x := by unfold bts; simp

theorem jtail_len (M : Nat) (l : List (List UInt8)) (h : ∀ x ∈ l, x.length ≤ M) : (Lib.joinTail [44, 32] l).length ≤ l.length * (M + 2) := by
  induction l with
  | nil => simp [Lib.joinTail]
  | cons x l ih =>
    have h1 := ih fun y hy => h y (List.mem_cons_of_mem _ hy)
    have h2 := h x (List.mem_cons_self ..)
    have e : Lib.joinTail [44, 32] (x :: l) = [44, 32] ++ x ++ Lib.joinTail [44, 32] l := by simp [Lib.joinTail]
    rw [e, List.length_append, List.length_append, List.length_cons (a := x), Nat.add_mul]
    simp only [List.length_cons, List.length_nil]
    omega
theorem jn_len (M : Nat) (l : List (List UInt8)) (h : ∀ x ∈ l, x.length ≤ M) : (jn l).length ≤ l.length * (M + 2) := by
  cases l with
  | nil => simp [jn, Lib.join_nil]
  | cons x l =>
    have h1 := jtail_len M l fun y hy => h y (List.mem_cons_of_mem _ hy)
    have h2 := h x (List.mem_cons_self ..)
    unfold jn
    rw [Lib.join_cons, List.length_append, List.length_cons, Nat.add_mul]
    omega
theorem termT_len {t : TermV} (h : termB t = true) : (termT t).length ≤ 30 := by
  unfold termB at h
  unfold termT
  by_cases e : t.1.toList.isEmpty = true
  · rw [if_pos e] at h ⊢
    simp only [Bool.and_eq_true, decide_eq_true_eq] at h
    exact itoa_short _ h.1 h.2
  · rw [if_neg e] at h ⊢
    unfold nameB at h
    simp only [Bool.and_eq_true, decide_eq_true_eq] at h
    rw [bts_len]
    exact h.1.1.1.2
theorem name_len {x : ByteArray} (h : nameB x = true) : x.size ≤ 30 := by
  unfold nameB at h
  simp only [Bool.and_eq_true, decide_eq_true_eq] at h
  exact h.1.1.2
theorem terms_len {a : AtomV} (h : atomB a = true) (hl : a.2.length ≤ 1048576) : (jn (a.2.map termT)).length ≤ 33554432 := by
  unfold atomB at h
  simp only [Bool.and_eq_true, decide_eq_true_eq] at h
  have := jn_len 30 (a.2.map termT) fun x hx => by
    obtain ⟨t, ht, rfl⟩ := List.mem_map.1 hx
    exact termT_len (List.all_eq_true.1 h.2 t ht)
  rw [List.length_map] at this
  omega
theorem atomT_len {a : AtomV} (h : atomB a = true) (hl : a.2.length ≤ 1048576) : (atomT a).length ≤ 33554464 := by
  have h1 := terms_len h hl
  unfold atomB at h
  simp only [Bool.and_eq_true, decide_eq_true_eq] at h
  have h2 := name_len h.1.1
  unfold atomT
  simp only [List.length_append, bts_len, List.length_cons, List.length_nil]
  omega

/-- what a query of good shape has -/
structure GQ (q : QV) : Prop where
  nm : q.name.size ≤ 30
  r0 : 0 ≤ q.ring
  r3 : q.ring ≤ 3
  hd : ∀ x ∈ q.head, x.size ≤ 30
  hl : q.head.length ≤ 1048576
  al : q.atoms.length ≤ 1048576
  at' : ∀ j, j < q.atoms.length → atomB (q.atoms.getD j noAt) = true ∧ (q.atoms.getD j noAt).2.length ≤ 1048576
theorem gq_of {q : QV} (h : shapeB q = true) (hq : OkQ q) : GQ q := by
  unfold shapeB at h
  simp only [Bool.and_eq_true, decide_eq_true_eq] at h
  obtain ⟨⟨⟨⟨⟨h1, h2⟩, h3⟩, h4⟩, h5⟩, h6⟩ := h
  refine ⟨name_len h1, h2, h3, fun x hx => name_len (List.all_eq_true.1 h5 x hx), hq.len, hq.alen, fun j hj => ⟨List.all_eq_true.1 h6 _ ?_, (hq.atoms j hj).len⟩⟩
  rw [List.getD_eq_getElem?_getD, List.getElem?_eq_getElem hj]; exact List.getElem_mem _

end Go.Proofs.YtcdfoephhjacdaaGreatDoor

/-
  A query's grammar over its tokens: plain mathematics. A reading ends at a position, or fails at one.
-/
namespace Go.Proofs.YtcdfoephhjacdaaGreatDoor
open Go.RowKit

/-- the token at p, if it is of one of the kinds -/
def tk (ts : List TkV) (ks : List Nat) (p : Nat) : Except Nat (TkV × Nat) := if p < ts.length ∧ (ts.getD p noTk).k ∈ ks then .ok (ts.getD p noTk, p + 1) else .error p
theorem tk_ok {ts : List TkV} {ks : List Nat} {p : Nat} (h : p < ts.length) (hk : (ts.getD p noTk).k ∈ ks) : tk ts ks p = .ok (ts.getD p noTk, p + 1) := if_pos ⟨h, hk⟩
theorem tk_no {ts : List TkV} {ks : List Nat} {p : Nat} (h : p < ts.length → ¬ (ts.getD p noTk).k ∈ ks) : tk ts ks p = .error p := if_neg fun e => h e.1 e.2

/-- an atom's terms, from the first of those still to be read -/
def trmF (ts : List TkV) : Nat → Nat → List TermV → Except Nat (List TermV × Nat)
  | 0, p, _ => .error p
  | f + 1, p, acc =>
    match tk ts [97, 48] p with
    | .error e => .error e
    | .ok (t, p1) =>
      match tk ts [44, 41] p1 with
      | .error e => .error e
      | .ok (u, p2) => if u.k = 44 then trmF ts f p2 (acc ++ [(t.nm, (t.v : Int))]) else .ok (acc ++ [(t.nm, (t.v : Int))], p2)
def atmF (ts : List TkV) (p : Nat) : Except Nat (AtomV × Nat) :=
  match tk ts [97] p with
  | .error e => .error e
  | .ok (t, p1) =>
    match tk ts [40] p1 with
    | .error e => .error e
    | .ok (_, p2) =>
      match trmF ts (ts.length + 1) p2 [] with
      | .error e => .error e
      | .ok (l, p3) => .ok ((t.nm, l), p3)
/-- the atoms, from the first of those still to be read, up to the full stop -/
def atsF (ts : List TkV) : Nat → Nat → List AtomV → Except Nat (List AtomV × Nat)
  | 0, p, _ => .error p
  | f + 1, p, acc =>
    match atmF ts p with
    | .error e => .error e
    | .ok (a, p1) =>
      match tk ts [44, 46] p1 with
      | .error e => .error e
      | .ok (u, p2) => if u.k = 44 then atsF ts f p2 (acc ++ [a]) else .ok (acc ++ [a], p2)
def cntT : ByteArray := ⟨#[99, 111, 117, 110, 116]⟩
def sumT : ByteArray := ⟨#[115, 117, 109]⟩
def minT : ByteArray := ⟨#[109, 105, 110]⟩
def rngN (s : ByteArray) : Nat := if s.toList = cntT.toList then 1 else if s.toList = sumT.toList then 2 else if s.toList = minT.toList then 3 else 0
/-- behind the semicolon: a ring and the closing bracket -/
def rngF (ts : List TkV) (p : Nat) : Except Nat (Nat × Nat) :=
  match tk ts [97] p with
  | .error e => .error e
  | .ok (t, p1) => if rngN t.nm = 0 then .error p else
    match tk ts [41] p1 with
    | .error e => .error e
    | .ok (_, p2) => .ok (rngN t.nm, p2)
/-- the head behind its last name -/
def endF (ts : List TkV) (p : Nat) (acc : List ByteArray) : Except Nat (List ByteArray × Nat × Nat) :=
  match tk ts [59, 41] p with
  | .error e => .error e
  | .ok (u, p1) => if u.k = 41 then .ok (acc, 0, p1) else
    match rngF ts p1 with
    | .error e => .error e
    | .ok (r, p2) => .ok (acc, r, p2)
/-- the head, behind a name -/
def hdF (ts : List TkV) : Nat → Nat → List ByteArray → Except Nat (List ByteArray × Nat × Nat)
  | 0, p, _ => .error p
  | f + 1, p, acc =>
    match tk ts [44] p with
    | .error _ => endF ts p acc
    | .ok (_, p1) =>
      match tk ts [97] p1 with
      | .error e => .error e
      | .ok (t, p2) => hdF ts f p2 (acc ++ [t.nm])
def headF (ts : List TkV) (p : Nat) : Except Nat (List ByteArray × Nat × Nat) :=
  match tk ts [97] p with
  | .error _ => endF ts p []
  | .ok (t, p1) => hdF ts (ts.length + 1) p1 [t.nm]
def qryF (ts : List TkV) : Except Nat QV :=
  match tk ts [97] 0 with
  | .error e => .error e
  | .ok (t, p1) =>
    match tk ts [40] p1 with
    | .error e => .error e
    | .ok (_, p2) =>
      match headF ts p2 with
      | .error e => .error e
      | .ok (hd, r, p3) =>
        match tk ts [58] p3 with
        | .error e => .error e
        | .ok (_, p4) =>
          match atsF ts (ts.length + 1) p4 [] with
          | .error e => .error e
          | .ok (ats, p5) => if p5 < ts.length then .error p5 else .ok ⟨t.nm, hd, (r : Int), ats⟩

/-- the whole answer: the query, the code, the offset -/
def pqA (s : ByteArray) : Option QV × Int × Nat :=
  if 3000 < s.size then (none, 1, 0) else
  match lexA s with
  | (_, some o) => (none, 2, o)
  | (ts, none) =>
    match qryF ts with
    | .error p => (none, 3, if p < ts.length then (ts.getD p noTk).at' else s.size)
    | .ok q => (some q, 0, 0)

end Go.Proofs.YtcdfoephhjacdaaGreatDoor

/-
  A query's text read again is the query: plain mathematics.
-/
namespace Go.Proofs.YtcdfoephhjacdaaGreatDoor
open Go.RowKit

abbrev Tk3 := Nat × ByteArray × Nat
def tk3 (t : TkV) : Tk3 := (t.k, t.nm, t.v)
def sy3 (c : Nat) : Tk3 := (c, ⟨#[]⟩, 0)
/-- a text is cut as far as rest goes not -/
def LS (s : ByteArray) (rest : List UInt8) (cs : List Tk3) : Prop := ∃ o acc, LexI s o acc ∧ s.data.toList.drop o = rest ∧ acc.map tk3 = cs
theorem drop_byte {s : ByteArray} {o : Nat} {b : UInt8} {r : List UInt8} (h : s.data.toList.drop o = b :: r) : o < s.size ∧ byteAt s o = (b.toNat : Int) := by
  have hl : s.data.toList.length = s.size := by simp
  have ho : o < s.data.toList.length := by
    rcases Nat.lt_or_ge o s.data.toList.length with h1 | h1
    · exact h1
    · rw [List.drop_eq_nil_of_le h1] at h; cases h
  refine ⟨by omega, ?_⟩
  rw [List.drop_eq_getElem_cons ho] at h
  have e := (List.cons.inj h).1
  unfold byteAt
  rw [List.getD_eq_getElem?_getD, List.getElem?_eq_getElem ho, Option.getD_some, e]
theorem drop_len {s : ByteArray} {o : Nat} {x r : List UInt8} (h : s.data.toList.drop o = x ++ r) (hx : x ≠ []) : o + x.length ≤ s.size ∧ s.data.toList.drop (o + x.length) = r := by
  have hl : s.data.toList.length = s.size := by simp
  have e := congrArg List.length h
  rw [List.length_drop, List.length_append, hl] at e
  have : 0 < x.length := List.length_pos_iff.2 hx
  refine ⟨by omega, ?_⟩
  have e2 := congrArg (List.drop x.length) h
  rw [List.drop_drop, List.drop_left] at e2
  exact e2
def Off (p : Int → Bool) (r : List UInt8) : Prop := r = [] ∨ ∃ b t, r = b :: t ∧ p (b.toNat : Int) = false
theorem rn_of {p : Int → Bool} {s : ByteArray} {o : Nat} {x r : List UInt8} (h : s.data.toList.drop o = x ++ r) (hx : ∀ b ∈ x, p (b.toNat : Int) = true) (hr : Off p r) : rn p s o = x.length := by
  unfold rn
  rw [h, List.takeWhile_append_of_pos (by simpa using hx)]
  rcases hr with rfl | ⟨b, t, rfl, hb⟩
  · simp
  · rw [List.takeWhile_cons, if_neg (by rw [hb]; decide), List.append_nil]
theorem ext_of {s : ByteArray} {o : Nat} {x r : List UInt8} (h : s.data.toList.drop o = x ++ r) : s.extract o (o + x.length) = ⟨x.toArray⟩ := by
  have e : (s.extract o (o + x.length)).data.toList = x := by
    rw [ByteArray.data_extract, Array.toList_extract, List.extract_eq_take_drop, h, Nat.add_sub_cancel_left, List.take_left]
  cases hx : s.extract o (o + x.length) with
  | mk d =>
    rw [hx] at e
    simp only at e
    rw [← e]
theorem LS.sep {s : ByteArray} {r : List UInt8} {cs : List Tk3} (h : LS s (32 :: r) cs) : LS s r cs := by
  obtain ⟨o, acc, hl, hd, rfl⟩ := h
  obtain ⟨ho, hb⟩ := drop_byte hd
  obtain ⟨h1, h2⟩ := drop_len (x := [32]) (r := r) hd (by simp)
  refine ⟨o + 1, acc, hl.sep ho ?_ (by omega) h1, h2, rfl⟩
  unfold nx
  rw [if_pos (by rw [hb]; decide)]
theorem LS.put {s : ByteArray} {o k v n : Nat} {nm : ByteArray} {acc : List TkV} {x r : List UInt8} (hl : LexI s o acc) (hd : s.data.toList.drop o = x ++ r) (hx : x ≠ []) (hn : nx s o = some (some (k, nm, v), n)) (e : n = x.length) : LS s r (acc.map tk3 ++ [(k, nm, v)]) := by
  subst e
  obtain ⟨h1, h2⟩ := drop_len hd hx
  have h3 : 0 < x.length := List.length_pos_iff.2 hx
  exact ⟨o + x.length, _, hl.tok (by omega) hn h3 h1, h2, by rw [List.map_append]; rfl⟩
theorem LS.sym {s : ByteArray} {r : List UInt8} {cs : List Tk3} {c : UInt8} (h : LS s (c :: r) cs) (hc : c = 40 ∨ c = 41 ∨ c = 44 ∨ c = 59 ∨ c = 46) : LS s r (cs ++ [sy3 c.toNat]) := by
  obtain ⟨o, acc, hl, hd, rfl⟩ := h
  obtain ⟨ho, hb⟩ := drop_byte hd
  refine LS.put (x := [c]) hl hd (by simp) (n := 1) ?_ rfl
  unfold nx
  rw [hb]
  rcases hc with rfl | rfl | rfl | rfl | rfl <;> rfl
theorem LS.arrow {s : ByteArray} {r : List UInt8} {cs : List Tk3} (h : LS s (58 :: 45 :: r) cs) : LS s r (cs ++ [sy3 58]) := by
  obtain ⟨o, acc, hl, hd, rfl⟩ := h
  obtain ⟨ho, hb⟩ := drop_byte hd
  obtain ⟨h1, h2⟩ := drop_len (x := [58]) (r := 45 :: r) hd (by simp)
  obtain ⟨ho2, hb2⟩ := drop_byte h2
  refine LS.put (x := [58, 45]) hl hd (by simp) (n := 2) ?_ rfl
  have ho3 : o + 1 < s.size := ho2
  have hb3 : byteAt s (o + 1) = 45 := hb2
  unfold nx
  rw [hb, if_neg (by decide), if_neg (by decide), if_neg (by decide), if_pos (by decide), if_pos ⟨ho3, hb3⟩]
theorem name_bytes {nm : ByteArray} (h : nameB nm = true) : (∃ b t, bts nm = b :: t ∧ letterB (b.toNat : Int) = true) ∧ (∀ b ∈ bts nm, nbyteB (b.toNat : Int) = true) ∧ (bts nm).length ≤ 30 := by
  unfold nameB at h
  simp only [Bool.and_eq_true, decide_eq_true_eq, List.all_eq_true, List.mem_range] at h
  obtain ⟨⟨⟨h1, h2⟩, h3⟩, h4⟩ := h
  have hl : nm.data.toList.length = nm.size := by simp
  refine ⟨?_, fun b hb => ?_, by rw [bts_len]; exact h2⟩
  · unfold byteAt at h3
    unfold bts
    cases e : nm.data.toList with
    | nil => rw [e] at hl; simp at hl; omega
    | cons b t => rw [e] at h3; exact ⟨b, t, rfl, h3⟩
  · obtain ⟨i, hi, rfl⟩ := List.getElem_of_mem hb
    unfold bts at hi
    have := h4 i (by omega)
    unfold byteAt at this
    rw [List.getD_eq_getElem?_getD, List.getElem?_eq_getElem hi, Option.getD_some] at this
    exact this
theorem LS.name {s nm : ByteArray} {r : List UInt8} {cs : List Tk3} (h : LS s (bts nm ++ r) cs) (hn : nameB nm = true) (hr : Off nbyteB r) : LS s r (cs ++ [(97, nm, 0)]) := by
  obtain ⟨o, acc, hl, hd, rfl⟩ := h
  obtain ⟨⟨b, t, e, hb1⟩, h2, h3⟩ := name_bytes hn
  have hd2 := hd
  rw [e] at hd2
  obtain ⟨ho, hb⟩ := drop_byte (b := b) (r := t ++ r) hd2
  refine LS.put (x := bts nm) hl hd (by rw [e]; simp) (n := (bts nm).length) ?_ rfl
  have hrn := rn_of hd h2 hr
  have hns : sepB (b.toNat : Int) = false := by
    have hb1' := hb1
    unfold letterB at hb1'
    unfold sepB
    simp only [Bool.or_eq_true, Bool.and_eq_true, decide_eq_true_eq] at hb1'
    simp only [Bool.or_eq_false_iff, decide_eq_false_iff_not]
    omega
  unfold nx
  rw [hb, if_neg (by rw [hns]; decide), if_pos hb1, hrn, if_pos h3, ext_of hd, bts_mk]
theorem LS.num {s : ByteArray} {n : Nat} {r : List UInt8} {cs : List Tk3} (h : LS s (Lib.decDigits n ++ r) cs) (hn : n ≤ 1000000) (hr : Off digitB r) : LS s r (cs ++ [(48, ⟨#[]⟩, n)]) := by
  obtain ⟨o, acc, hl, hd, rfl⟩ := h
  obtain ⟨h1, h2⟩ := digits_num n n (Nat.le_refl _)
  have hdg : ∀ b ∈ Lib.decDigits n, digitB (b.toNat : Int) = true := fun b hb => by
    have := dgt_num (h1.dg b hb)
    unfold digitB
    simp only [Bool.and_eq_true, decide_eq_true_eq]
    omega
  cases e : Lib.decDigits n with
  | nil => exact absurd e h1.ne
  | cons b t =>
    have hd2 := hd
    rw [e] at hd2
    obtain ⟨ho, hb⟩ := drop_byte (b := b) (r := t ++ r) hd2
    have hb1 := hdg b (by rw [e]; simp)
    refine LS.put (x := Lib.decDigits n) hl hd h1.ne (n := (Lib.decDigits n).length) ?_ rfl
    have hrn := rn_of hd hdg hr
    have hst : stretch s o (Lib.decDigits n).length = Lib.decDigits n := by
      unfold stretch
      rw [hd, List.take_left]
    have hns : sepB (b.toNat : Int) = false ∧ letterB (b.toNat : Int) = false := by
      have hb1' := hb1
      unfold digitB at hb1'
      unfold sepB letterB
      simp only [Bool.and_eq_true, decide_eq_true_eq] at hb1'
      simp only [Bool.or_eq_false_iff, Bool.and_eq_false_iff, decide_eq_false_iff_not]
      omega
    unfold nx
    rw [hb, if_neg (by rw [hns.1]; decide), if_neg (by rw [hns.2]; decide), if_pos hb1, hrn, hst, h2, if_pos hn]

/-- the tokens of things with commas between them -/
def jtk {α : Type} (tok : α → List Tk3) : List α → List Tk3
  | [] => []
  | a :: l => tok a ++ l.flatMap fun b => sy3 44 :: tok b
theorem LS.list {α : Type} {s : ByteArray} {f : α → List UInt8} {tok : α → List Tk3} {ok : α → Prop} {e : UInt8} {r : List UInt8}
    (hstep : ∀ a c r cs, ok a → (c = 44 ∨ c = e) → LS s (f a ++ c :: r) cs → LS s (c :: r) (cs ++ tok a)) :
    ∀ (l : List α) (a : α) (cs : List Tk3), (∀ b ∈ a :: l, ok b) → LS s (jn ((a :: l).map f) ++ e :: r) cs → LS s (e :: r) (cs ++ jtk tok (a :: l))
  | [], a, cs, ho, h => by
    have e1 : jn ([a].map f) = f a := by unfold jn; rw [List.map_singleton, Lib.join_one]
    rw [e1] at h
    have := hstep a e r cs (ho a (by simp)) (Or.inr rfl) h
    simpa [jtk] using this
  | b :: l, a, cs, ho, h => by
    have e1 : jn ((a :: b :: l).map f) = f a ++ (44 :: 32 :: jn ((b :: l).map f)) := by
      unfold jn
      rw [List.map_cons, List.map_cons, Lib.join_cons, Lib.join_cons]
      simp [Lib.joinTail]
    rw [e1, List.append_assoc] at h
    have h1 := hstep a 44 _ cs (ho a (by simp)) (Or.inl rfl) h
    have h2 := LS.list hstep l b _ (fun x hx => ho x (List.mem_cons_of_mem _ hx)) (h1.sym (by decide)).sep
    have e2 : cs ++ tok a ++ [sy3 (44 : UInt8).toNat] ++ jtk tok (b :: l) = cs ++ jtk tok (a :: b :: l) := by
      simp [jtk, List.append_assoc]
    rw [e2] at h2
    exact h2
theorem off_c {p : Int → Bool} {c : UInt8} {r : List UInt8} (h : p (c.toNat : Int) = false) : Off p (c :: r) := Or.inr ⟨c, r, rfl, h⟩
def tmTok (t : TermV) : List Tk3 := if t.1.toList.isEmpty then [(48, ⟨#[]⟩, t.2.toNat)] else [(97, t.1, 0)]
theorem LS.term {s : ByteArray} (t : TermV) (c : UInt8) (r : List UInt8) (cs : List Tk3) (ht : termB t = true) (hc : c = 44 ∨ c = 41) (h : LS s (termT t ++ c :: r) cs) : LS s (c :: r) (cs ++ tmTok t) := by
  unfold termB at ht
  unfold termT at h
  unfold tmTok
  by_cases e : t.1.toList.isEmpty = true
  · rw [if_pos e] at ht h ⊢
    simp only [Bool.and_eq_true, decide_eq_true_eq] at ht
    have hi : Lib.itoa t.2 = Lib.decDigits t.2.toNat := by unfold Lib.itoa; rw [if_neg (by omega)]
    rw [hi] at h
    exact h.num (by omega) (off_c (by rcases hc with rfl | rfl <;> decide))
  · rw [if_neg e] at ht h ⊢
    simp only [Bool.and_eq_true, decide_eq_true_eq] at ht
    exact h.name ht.1 (off_c (by rcases hc with rfl | rfl <;> decide))
def atTok (a : AtomV) : List Tk3 := [(97, a.1, 0), sy3 40] ++ jtk tmTok a.2 ++ [sy3 41]
theorem LS.atom {s : ByteArray} (a : AtomV) (c : UInt8) (r : List UInt8) (cs : List Tk3) (ha : atomB a = true) (h : LS s (atomT a ++ c :: r) cs) : LS s (c :: r) (cs ++ atTok a) := by
  unfold atomB at ha
  simp only [Bool.and_eq_true, decide_eq_true_eq, List.all_eq_true] at ha
  obtain ⟨⟨h1, h2⟩, h3⟩ := ha
  have e : atomT a ++ c :: r = bts a.1 ++ (40 :: (jn (a.2.map termT) ++ 41 :: (c :: r))) := by simp [atomT, List.append_assoc]
  rw [e] at h
  have k1 := (h.name h1 (off_c (by decide))).sym (by decide)
  cases hl : a.2 with
  | nil => rw [hl] at h2; simp at h2
  | cons t l =>
    rw [hl] at k1 h3
    have k2 := LS.list (ok := fun t => termB t = true) (tok := tmTok) (f := termT) (fun a c r cs h1 h2 h3 => LS.term a c r cs h1 h2 h3) l t _ h3 k1
    have k3 := k2.sym (by decide)
    unfold atTok
    rw [hl]
    simpa [List.append_assoc] using k3
def rgTok (q : QV) : List Tk3 := if 0 < q.ring then [sy3 59, (97, ringB q.ring, 0)] else []
def qTok (q : QV) : List Tk3 := [(97, q.name, 0), sy3 40] ++ jtk (fun n => [(97, n, 0)]) q.head ++ rgTok q ++ [sy3 41, sy3 58] ++ jtk atTok q.atoms ++ [sy3 46]
theorem ring_name {r : Int} (h0 : 0 < r) (h3 : r ≤ 3) : nameB (ringB r) = true := by
  obtain rfl | rfl | rfl : r = 1 ∨ r = 2 ∨ r = 3 := by omega
  all_goals decide
theorem LS.head {s : ByteArray} {hd : List ByteArray} {e : UInt8} {r : List UInt8} {cs : List Tk3} (hn : ∀ n ∈ hd, nameB n = true) (he : e = 59 ∨ e = 41) (h : LS s (jn (hd.map bts) ++ e :: r) cs) : LS s (e :: r) (cs ++ jtk (fun n => [(97, n, 0)]) hd) := by
  cases hd with
  | nil => simpa [jtk, jn, Lib.join_nil] using h
  | cons a l => exact LS.list (ok := fun n => nameB n = true) (tok := fun n => [(97, n, 0)]) (f := bts) (fun n c r cs h1 h2 h3 => h3.name h1 (off_c (by rcases h2 with rfl | rfl; decide; rcases he with rfl | rfl <;> decide))) l a _ hn h
theorem LS.query {s : ByteArray} {q : QV} (hq : shapeB q = true) (h : LS s (prqT q) []) : LS s [] (qTok q) := by
  have hq' := hq
  unfold shapeB at hq'
  simp only [Bool.and_eq_true, decide_eq_true_eq, List.all_eq_true] at hq'
  obtain ⟨⟨⟨⟨⟨h1, h2⟩, h3⟩, h4⟩, h5⟩, h6⟩ := hq'
  have hat : ∀ cs, LS s (jn (q.atoms.map atomT) ++ 46 :: []) cs → LS s [] (cs ++ jtk atTok q.atoms ++ [sy3 46]) := fun cs h => by
    cases hl : q.atoms with
    | nil => rw [hl] at h4; simp at h4
    | cons a l =>
      rw [hl] at h h6
      exact (LS.list (ok := fun a => atomB a = true) (tok := atTok) (f := atomT) (fun a c r cs h1 h2 h3 => LS.atom a c r cs h1 h3) l a _ h6 h).sym (by decide)
  have e : prqT q = bts q.name ++ (40 :: (headT q ++ (41 :: 32 :: 58 :: 45 :: 32 :: (jn (q.atoms.map atomT) ++ 46 :: [])))) := by
    unfold prqT
    rw [if_pos hq]
    simp [List.append_assoc]
  rw [e] at h
  have k1 := (h.name h1 (off_c (by decide))).sym (by decide)
  have k2 : LS s (41 :: 32 :: 58 :: 45 :: 32 :: (jn (q.atoms.map atomT) ++ 46 :: [])) ([] ++ [(97, q.name, 0)] ++ [sy3 (40 : UInt8).toNat] ++ jtk (fun n => [(97, n, 0)]) q.head ++ rgTok q) := by
    unfold headT at k1
    unfold rgTok
    by_cases hr : 0 < q.ring
    · rw [if_pos hr] at k1 ⊢
      have e2 : jn (q.head.map bts) ++ ([59, 32] ++ bts (ringB q.ring)) ++ (41 :: 32 :: 58 :: 45 :: 32 :: (jn (q.atoms.map atomT) ++ 46 :: [])) = jn (q.head.map bts) ++ (59 :: (32 :: (bts (ringB q.ring) ++ (41 :: 32 :: 58 :: 45 :: 32 :: (jn (q.atoms.map atomT) ++ 46 :: []))))) := by simp [List.append_assoc]
      rw [e2] at k1
      have k3 := (((k1.head h5 (Or.inl rfl)).sym (by decide)).sep).name (ring_name hr h3) (off_c (by decide))
      simpa [List.append_assoc] using k3
    · rw [if_neg hr] at k1 ⊢
      rw [List.append_nil] at k1 ⊢
      exact k1.head h5 (Or.inr rfl)
  have k3 := hat _ ((k2.sym (by decide)).sep.arrow.sep)
  unfold qTok
  simpa [List.append_assoc] using k3

section
variable {ts : List TkV} {p : Nat} {c : Tk3} {r : List Tk3} {ks : List Nat}
theorem at_drop (h : (ts.map tk3).drop p = c :: r) : p < ts.length ∧ tk3 (ts.getD p noTk) = c ∧ (ts.map tk3).drop (p + 1) = r := by
  have hp : p < (ts.map tk3).length := by
    rcases Nat.lt_or_ge p (ts.map tk3).length with h1 | h1
    · exact h1
    · rw [List.drop_eq_nil_of_le h1] at h; cases h
  rw [List.drop_eq_getElem_cons hp] at h
  obtain ⟨e1, e2⟩ := List.cons.inj h
  rw [List.length_map] at hp
  refine ⟨hp, ?_, e2⟩
  rw [List.getElem_map] at e1
  rw [List.getD_eq_getElem?_getD, List.getElem?_eq_getElem hp, Option.getD_some]
  exact e1
theorem tk_at (h : (ts.map tk3).drop p = c :: r) (hk : c.1 ∈ ks) : ∃ t, tk ts ks p = .ok (t, p + 1) ∧ t.k = c.1 ∧ t.nm = c.2.1 ∧ t.v = c.2.2 ∧ (ts.map tk3).drop (p + 1) = r ∧ p < ts.length := by
  obtain ⟨h1, h2, h3⟩ := at_drop h
  subst h2
  exact ⟨_, tk_ok h1 hk, rfl, rfl, rfl, h3, h1⟩
theorem tk_off (h : (ts.map tk3).drop p = c :: r) (hk : ¬ c.1 ∈ ks) : tk ts ks p = .error p := by
  obtain ⟨h1, h2, h3⟩ := at_drop h
  subst h2
  exact tk_no fun _ => hk
end
theorem tm_back {t : TermV} (h : termB t = true) : ∃ c : Tk3, tmTok t = [c] ∧ (c.1 = 97 ∨ c.1 = 48) ∧ (c.2.1, (c.2.2 : Int)) = t := by
  unfold termB at h
  unfold tmTok
  by_cases e : t.1.toList.isEmpty = true
  · rw [if_pos e] at h ⊢
    simp only [Bool.and_eq_true, decide_eq_true_eq] at h
    refine ⟨_, rfl, Or.inr rfl, ?_⟩
    have e1 : t.1 = ⟨#[]⟩ := by
      obtain ⟨⟨⟨l⟩⟩, v⟩ := t
      rw [List.isEmpty_iff, ByteArray.toList_eq] at e
      simp only at e
      rw [e]
    exact Prod.ext e1.symm (by show ((t.2.toNat : Nat) : Int) = t.2; omega)
  · rw [if_neg e] at h ⊢
    simp only [Bool.and_eq_true, decide_eq_true_eq] at h
    exact ⟨_, rfl, Or.inl rfl, Prod.ext rfl (by show ((0 : Nat) : Int) = t.2; omega)⟩
theorem trm_rd {ts : List TkV} {r : List Tk3} : ∀ (l : List TermV) (a : TermV) (f p : Nat) (acc : List TermV), (∀ t ∈ a :: l, termB t = true) → ts.length ≤ p + f → (ts.map tk3).drop p = jtk tmTok (a :: l) ++ sy3 41 :: r → ∃ p', trmF ts f p acc = .ok (acc ++ a :: l, p') ∧ (ts.map tk3).drop p' = r
  | l, a, f, p, acc, ho, hf, h => by
    obtain ⟨c, e1, e2, e3⟩ := tm_back (ho a (by simp))
    have h' : (ts.map tk3).drop p = c :: (l.flatMap (fun b => sy3 44 :: tmTok b) ++ sy3 41 :: r) := by rw [h]; simp [jtk, e1]
    obtain ⟨t, k1, k2, k3, k4, k5, k6⟩ := tk_at (ks := [97, 48]) h' (by rcases e2 with e | e <;> rw [e] <;> simp)
    have et : (t.nm, (t.v : Int)) = a := by rw [k3, k4]; exact e3
    cases f with
    | zero => omega
    | succ f =>
      rw [trmF, k1]
      simp only
      rw [et]
      match l, ho, k5 with
      | [], _, k5 =>
        obtain ⟨u, j1, j2, -, -, j5, -⟩ := tk_at (ks := [44, 41]) (c := sy3 41) k5 (by decide)
        rw [j1]
        simp only
        rw [if_neg (by rw [j2]; decide)]
        exact ⟨_, rfl, j5⟩
      | b :: l, ho, k5 =>
        have k5' : (ts.map tk3).drop (p + 1) = sy3 44 :: (jtk tmTok (b :: l) ++ sy3 41 :: r) := by rw [k5]; simp [jtk]
        obtain ⟨u, j1, j2, -, -, j5, -⟩ := tk_at (ks := [44, 41]) k5' (by decide)
        rw [j1]
        simp only
        rw [if_pos (by rw [j2]; rfl)]
        obtain ⟨p', i1, i2⟩ := trm_rd l b f (p + 1 + 1) (acc ++ [a]) (fun t ht => ho t (List.mem_cons_of_mem _ ht)) (by omega) j5
        exact ⟨p', by rw [i1, List.append_assoc]; rfl, i2⟩
theorem atm_rd {ts : List TkV} {r : List Tk3} {a : AtomV} {p : Nat} (ha : atomB a = true) (h : (ts.map tk3).drop p = atTok a ++ r) : ∃ p', atmF ts p = .ok (a, p') ∧ (ts.map tk3).drop p' = r := by
  unfold atomB at ha
  simp only [Bool.and_eq_true, decide_eq_true_eq, List.all_eq_true] at ha
  obtain ⟨⟨h1, h2⟩, h3⟩ := ha
  have h' : (ts.map tk3).drop p = (97, a.1, 0) :: (sy3 40 :: (jtk tmTok a.2 ++ sy3 41 :: r)) := by rw [h]; simp [atTok]
  obtain ⟨t, k1, k2, k3, -, k5, -⟩ := tk_at (ks := [97]) h' (List.mem_singleton.2 rfl)
  obtain ⟨u, j1, -, -, -, j5, -⟩ := tk_at (ks := [40]) k5 (by decide)
  cases hl : a.2 with
  | nil => rw [hl] at h2; simp at h2
  | cons b l =>
    rw [hl] at j5 h3
    obtain ⟨p', i1, i2⟩ := trm_rd l b (ts.length + 1) (p + 1 + 1) [] h3 (by omega) j5
    refine ⟨p', ?_, i2⟩
    unfold atmF
    rw [k1]
    simp only
    rw [j1]
    simp only
    rw [i1]
    simp only
    rw [k3]
    show Except.ok ((a.1, [] ++ b :: l), p') = _
    rw [List.nil_append, ← hl]
theorem ats_rd {ts : List TkV} {r : List Tk3} : ∀ (l : List AtomV) (a : AtomV) (f p : Nat) (acc : List AtomV), (∀ t ∈ a :: l, atomB t = true) → ts.length ≤ p + f → (ts.map tk3).drop p = jtk atTok (a :: l) ++ sy3 46 :: r → ∃ p', atsF ts f p acc = .ok (acc ++ a :: l, p') ∧ (ts.map tk3).drop p' = r
  | l, a, f, p, acc, ho, hf, h => by
    have h' : (ts.map tk3).drop p = atTok a ++ (l.flatMap (fun b => sy3 44 :: atTok b) ++ sy3 46 :: r) := by rw [h]; simp [jtk]
    obtain ⟨p1, k1, k2⟩ := atm_rd (ho a (by simp)) h'
    have hp1 : p < p1 := by
      have e1 := congrArg List.length h'
      have e2 := congrArg List.length k2
      rw [List.length_append] at e1
      have : 0 < (atTok a).length := by simp [atTok]
      rw [List.length_drop] at e1 e2
      omega
    have hpl : p < ts.length := by
      have e1 := congrArg List.length h'
      rw [List.length_append, List.length_drop, List.length_map] at e1
      have : 0 < (atTok a).length := by simp [atTok]
      omega
    cases f with
    | zero => omega
    | succ f =>
      rw [atsF, k1]
      simp only
      match l, ho, k2 with
      | [], _, k2 =>
        obtain ⟨u, j1, j2, -, -, j5, -⟩ := tk_at (ks := [44, 46]) (c := sy3 46) k2 (by decide)
        rw [j1]
        simp only
        rw [if_neg (by rw [j2]; decide)]
        exact ⟨_, rfl, j5⟩
      | b :: l, ho, k2 =>
        have k2' : (ts.map tk3).drop p1 = sy3 44 :: (jtk atTok (b :: l) ++ sy3 46 :: r) := by rw [k2]; simp [jtk]
        obtain ⟨u, j1, j2, -, -, j5, -⟩ := tk_at (ks := [44, 46]) k2' (by decide)
        rw [j1]
        simp only
        rw [if_pos (by rw [j2]; rfl)]
        obtain ⟨p', i1, i2⟩ := ats_rd l b f (p1 + 1) (acc ++ [a]) (fun t ht => ho t (List.mem_cons_of_mem _ ht)) (by omega) j5
        exact ⟨p', by rw [i1, List.append_assoc]; rfl, i2⟩
theorem rng_back {r : Int} (h0 : 0 < r) (h3 : r ≤ 3) : (rngN (ringB r) : Int) = r ∧ rngN (ringB r) ≠ 0 := by
  obtain rfl | rfl | rfl : r = 1 ∨ r = 2 ∨ r = 3 := by omega
  all_goals
    have e : ∀ r : Int, (ringB r).toList = (ringB r).data.toList := fun r => ByteArray.toList_eq _
    unfold rngN
    rw [e, ByteArray.toList_eq, ByteArray.toList_eq, ByteArray.toList_eq]
    decide
theorem end_rd {ts : List TkV} {r : List Tk3} {q : QV} {p : Nat} (acc : List ByteArray) (h0 : 0 ≤ q.ring) (h3 : q.ring ≤ 3) (h : (ts.map tk3).drop p = rgTok q ++ sy3 41 :: r) : ∃ n p', endF ts p acc = .ok (acc, n, p') ∧ (n : Int) = q.ring ∧ (ts.map tk3).drop p' = r := by
  unfold rgTok at h
  by_cases hr : 0 < q.ring
  · rw [if_pos hr] at h
    obtain ⟨t, k1, k2, -, -, k5, -⟩ := tk_at (ks := [59, 41]) (c := sy3 59) h (by decide)
    obtain ⟨u, j1, j2, j3, -, j5, -⟩ := tk_at (ks := [97]) k5 (List.mem_singleton.2 rfl)
    obtain ⟨v, i1, -, -, -, i5, -⟩ := tk_at (ks := [41]) j5 (by decide)
    obtain ⟨r1, r2⟩ := rng_back hr h3
    refine ⟨rngN (ringB q.ring), p + 1 + 1 + 1, ?_, r1, i5⟩
    unfold endF
    rw [k1]
    simp only
    rw [if_neg (by rw [k2]; decide)]
    unfold rngF
    rw [j1]
    simp only
    rw [j3]
    simp only
    rw [if_neg r2, i1]
  · rw [if_neg hr] at h
    obtain ⟨t, k1, k2, -, -, k5, -⟩ := tk_at (ks := [59, 41]) (c := sy3 41) h (by decide)
    refine ⟨0, p + 1, ?_, by omega, k5⟩
    unfold endF
    rw [k1]
    simp only
    rw [if_pos (by rw [k2]; rfl)]
theorem end_not44 {q : QV} {r : List Tk3} : ∃ c t, rgTok q ++ sy3 41 :: r = c :: t ∧ ¬ c.1 ∈ [44] ∧ ¬ c.1 ∈ [97] := by
  unfold rgTok
  split
  · exact ⟨_, _, rfl, by decide, by decide⟩
  · exact ⟨_, _, rfl, by decide, by decide⟩
theorem hd_rd {ts : List TkV} {r : List Tk3} {q : QV} (h0 : 0 ≤ q.ring) (h3 : q.ring ≤ 3) : ∀ (l : List ByteArray) (f p : Nat) (acc : List ByteArray), ts.length ≤ p + f → (ts.map tk3).drop p = (l.flatMap fun n => sy3 44 :: [(97, n, 0)]) ++ (rgTok q ++ sy3 41 :: r) → ∃ n p', hdF ts f p acc = .ok (acc ++ l, n, p') ∧ (n : Int) = q.ring ∧ (ts.map tk3).drop p' = r
  | l, f, p, acc, hf, h => by
    have hpl : p < ts.length := by
      have e1 := congrArg List.length h
      rw [List.length_append, List.length_append, List.length_cons, List.length_drop, List.length_map] at e1
      omega
    cases f with
    | zero => omega
    | succ f =>
      match l, h with
      | [], h =>
        rw [List.flatMap_nil, List.nil_append] at h
        obtain ⟨c, t, e, n1, -⟩ := end_not44 (q := q) (r := r)
        obtain ⟨n, p', i1, i2, i3⟩ := end_rd acc h0 h3 h
        refine ⟨n, p', ?_, i2, i3⟩
        rw [hdF, tk_off (h.trans e) n1]
        simp only
        rw [i1, List.append_nil]
      | a :: l, h =>
        have h' : (ts.map tk3).drop p = sy3 44 :: ((97, a, 0) :: ((l.flatMap fun n => sy3 44 :: [(97, n, 0)]) ++ (rgTok q ++ sy3 41 :: r))) := by rw [h]; simp
        obtain ⟨t, k1, -, -, -, k5, -⟩ := tk_at (ks := [44]) h' (by decide)
        obtain ⟨u, j1, -, j3, -, j5, -⟩ := tk_at (ks := [97]) k5 (List.mem_singleton.2 rfl)
        obtain ⟨n, p', i1, i2, i3⟩ := hd_rd h0 h3 l f (p + 1 + 1) (acc ++ [a]) (by omega) j5
        refine ⟨n, p', ?_, i2, i3⟩
        rw [hdF, k1]
        simp only
        rw [j1]
        simp only
        rw [j3]
        simp only
        rw [i1, List.append_assoc]
        rfl
theorem head_rd {ts : List TkV} {r : List Tk3} {q : QV} {p : Nat} (h0 : 0 ≤ q.ring) (h3 : q.ring ≤ 3) (h : (ts.map tk3).drop p = jtk (fun n => [(97, n, 0)]) q.head ++ (rgTok q ++ sy3 41 :: r)) : ∃ n p', headF ts p = .ok (q.head, n, p') ∧ (n : Int) = q.ring ∧ (ts.map tk3).drop p' = r := by
  unfold headF
  cases hl : q.head with
  | nil =>
    rw [hl] at h
    have h' : (ts.map tk3).drop p = rgTok q ++ sy3 41 :: r := by rw [h]; simp [jtk]
    obtain ⟨c, t, e, -, n1⟩ := end_not44 (q := q) (r := r)
    rw [tk_off (h'.trans e) n1]
    exact end_rd [] h0 h3 h'
  | cons a l =>
    rw [hl] at h
    have h' : (ts.map tk3).drop p = (97, a, 0) :: ((l.flatMap fun n => sy3 44 :: [(97, n, 0)]) ++ (rgTok q ++ sy3 41 :: r)) := by rw [h]; simp [jtk]
    obtain ⟨t, k1, -, k3, -, k5, -⟩ := tk_at (ks := [97]) h' (List.mem_singleton.2 rfl)
    rw [k1]
    simp only
    rw [k3]
    simp only
    exact hd_rd h0 h3 l (ts.length + 1) (p + 1) [a] (by omega) k5
theorem qry_rd {ts : List TkV} {q : QV} (hq : shapeB q = true) (h : ts.map tk3 = qTok q) : qryF ts = .ok q := by
  unfold shapeB at hq
  simp only [Bool.and_eq_true, decide_eq_true_eq, List.all_eq_true] at hq
  obtain ⟨⟨⟨⟨⟨h1, h2⟩, h3⟩, h4⟩, h5⟩, h6⟩ := hq
  have h' : (ts.map tk3).drop 0 = (97, q.name, 0) :: (sy3 40 :: (jtk (fun n => [(97, n, 0)]) q.head ++ (rgTok q ++ sy3 41 :: (sy3 58 :: (jtk atTok q.atoms ++ sy3 46 :: []))))) := by rw [h]; simp [qTok]
  obtain ⟨t, k1, -, k3, -, k5, -⟩ := tk_at (ks := [97]) h' (List.mem_singleton.2 rfl)
  obtain ⟨u, j1, -, -, -, j5, -⟩ := tk_at (ks := [40]) k5 (by decide)
  obtain ⟨n, p3, i1, i2, i3⟩ := head_rd h2 h3 j5
  obtain ⟨v, m1, -, -, -, m5, -⟩ := tk_at (ks := [58]) i3 (by decide)
  cases hl : q.atoms with
  | nil => rw [hl] at h4; simp at h4
  | cons a l =>
    rw [hl] at m5 h6
    obtain ⟨p5, o1, o2⟩ := ats_rd l a (ts.length + 1) (p3 + 1) [] h6 (by omega) m5
    have hp5 : ¬ p5 < ts.length := by
      have e := congrArg List.length o2
      rw [List.length_drop, List.length_map, List.length_nil] at e
      omega
    unfold qryF
    rw [k1]
    simp only
    rw [j1]
    simp only
    rw [i1]
    simp only
    rw [m1]
    simp only
    rw [o1]
    simp only
    rw [if_neg hp5, k3, i2, List.nil_append, ← hl]
/-- a query's text, read again -/
theorem pq_round {q : QV} (hq : shapeB q = true) (hl : (prqT q).length ≤ 3000) : pqA ⟨(prqT q).toArray⟩ = (some q, 0, 0) := by
  obtain ⟨o, acc, h1, h2, h3⟩ := LS.query (s := ⟨(prqT q).toArray⟩) hq ⟨0, [], LexI.start _, by simp, rfl⟩
  have hs : (⟨(prqT q).toArray⟩ : ByteArray).size = (prqT q).length := by simp [ByteArray.size]
  have ho : o = (⟨(prqT q).toArray⟩ : ByteArray).size := by
    have e := congrArg List.length h2
    rw [List.length_drop, List.length_nil] at e
    have := h1.1
    have hz : (⟨(prqT q).toArray⟩ : ByteArray).data.toList.length = (⟨(prqT q).toArray⟩ : ByteArray).size := by rw [hs]
    omega
  rw [ho] at h1
  have e := h1.done
  unfold pqA
  rw [if_neg (by omega), e]
  simp only
  rw [qry_rd hq h3]

end Go.Proofs.YtcdfoephhjacdaaGreatDoor
