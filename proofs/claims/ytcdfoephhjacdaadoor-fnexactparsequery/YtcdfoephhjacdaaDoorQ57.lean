import Derived.Test.YtcdfoephhjacdaaDoorQ39
import Derived.Test.YtcdfoephhjacdaaDoorQ56
/-
  A query's grammar over its tokens: plain mathematics. A reading ends at a position, or fails at one.
-/
namespace Go.Proofs.YtcdfoephhjacdaaDoor
open Go.RowKit

/-- the token at p, if it is of one of the kinds -/
def tk (ts : List TkV) (ks : List Nat) (p : Nat) : Except Nat (TkV × Nat) := if p < ts.length ∧ (ts.getD p noTk).k ∈ ks then .ok (ts.getD p noTk, p + 1) else .error p
theorem tk_ok {ts : List TkV} {ks : List Nat} {p : Nat} (h : p < ts.length) (hk : (ts.getD p noTk).k ∈ ks) : tk ts ks p = .ok (ts.getD p noTk, p + 1) := if_pos ⟨h, hk⟩
theorem tk_no {ts : List TkV} {ks : List Nat} {p : Nat} (h : p < ts.length → ¬ (ts.getD p noTk).k ∈ ks) : tk ts ks p = .error p := if_neg fun e => h e.1 e.2

/-- an atom's terms, from the first of those still to be read -/
def trmF (ts : List TkV) : Nat → Nat → List TermV → Except Nat (List TermV × Nat)
  | 0, p, _ => .error p
  | f + 1, p, acc =>
    match tk ts [97, 48] p with
    | .error e => .error e
    | .ok (t, p1) =>
      match tk ts [44, 41] p1 with
      | .error e => .error e
      | .ok (u, p2) => if u.k = 44 then trmF ts f p2 (acc ++ [(t.nm, (t.v : Int))]) else .ok (acc ++ [(t.nm, (t.v : Int))], p2)
def atmF (ts : List TkV) (p : Nat) : Except Nat (AtomV × Nat) :=
  match tk ts [97] p with
  | .error e => .error e
  | .ok (t, p1) =>
    match tk ts [40] p1 with
    | .error e => .error e
    | .ok (_, p2) =>
      match trmF ts (ts.length + 1) p2 [] with
      | .error e => .error e
      | .ok (l, p3) => .ok ((t.nm, l), p3)
/-- the atoms, from the first of those still to be read, up to the full stop -/
def atsF (ts : List TkV) : Nat → Nat → List AtomV → Except Nat (List AtomV × Nat)
  | 0, p, _ => .error p
  | f + 1, p, acc =>
    match atmF ts p with
    | .error e => .error e
    | .ok (a, p1) =>
      match tk ts [44, 46] p1 with
      | .error e => .error e
      | .ok (u, p2) => if u.k = 44 then atsF ts f p2 (acc ++ [a]) else .ok (acc ++ [a], p2)
def cntT : ByteArray := ⟨#[99, 111, 117, 110, 116]⟩
def sumT : ByteArray := ⟨#[115, 117, 109]⟩
def minT : ByteArray := ⟨#[109, 105, 110]⟩
def rngN (s : ByteArray) : Nat := if s.toList = cntT.toList then 1 else if s.toList = sumT.toList then 2 else if s.toList = minT.toList then 3 else 0
/-- behind the semicolon: a ring and the closing bracket -/
def rngF (ts : List TkV) (p : Nat) : Except Nat (Nat × Nat) :=
  match tk ts [97] p with
  | .error e => .error e
  | .ok (t, p1) => if rngN t.nm = 0 then .error p else
    match tk ts [41] p1 with
    | .error e => .error e
    | .ok (_, p2) => .ok (rngN t.nm, p2)
/-- the head behind its last name -/
def endF (ts : List TkV) (p : Nat) (acc : List ByteArray) : Except Nat (List ByteArray × Nat × Nat) :=
  match tk ts [59, 41] p with
  | .error e => .error e
  | .ok (u, p1) => if u.k = 41 then .ok (acc, 0, p1) else
    match rngF ts p1 with
    | .error e => .error e
    | .ok (r, p2) => .ok (acc, r, p2)
/-- the head, behind a name -/
def hdF (ts : List TkV) : Nat → Nat → List ByteArray → Except Nat (List ByteArray × Nat × Nat)
  | 0, p, _ => .error p
  | f + 1, p, acc =>
    match tk ts [44] p with
    | .error _ => endF ts p acc
    | .ok (_, p1) =>
      match tk ts [97] p1 with
      | .error e => .error e
      | .ok (t, p2) => hdF ts f p2 (acc ++ [t.nm])
def headF (ts : List TkV) (p : Nat) : Except Nat (List ByteArray × Nat × Nat) :=
  match tk ts [97] p with
  | .error _ => endF ts p []
  | .ok (t, p1) => hdF ts (ts.length + 1) p1 [t.nm]
def qryF (ts : List TkV) : Except Nat QV :=
  match tk ts [97] 0 with
  | .error e => .error e
  | .ok (t, p1) =>
    match tk ts [40] p1 with
    | .error e => .error e
    | .ok (_, p2) =>
      match headF ts p2 with
      | .error e => .error e
      | .ok (hd, r, p3) =>
        match tk ts [58] p3 with
        | .error e => .error e
        | .ok (_, p4) =>
          match atsF ts (ts.length + 1) p4 [] with
          | .error e => .error e
          | .ok (ats, p5) => if p5 < ts.length then .error p5 else .ok ⟨t.nm, hd, (r : Int), ats⟩

/-- the whole answer: the query, the code, the offset -/
def pqA (s : ByteArray) : Option QV × Int × Nat :=
  if 3000 < s.size then (none, 1, 0) else
  match lexA s with
  | (_, some o) => (none, 2, o)
  | (ts, none) =>
    match qryF ts with
    | .error p => (none, 3, if p < ts.length then (ts.getD p noTk).at' else s.size)
    | .ok q => (some q, 0, 0)

end Go.Proofs.YtcdfoephhjacdaaDoor
