import Derived.Test.YtcdfoephhjacdaaDoorQ21
import Derived.Test.YtcdfoephhjacdaaDoorQ27
/-
  A query's text as tokens: plain mathematics.
-/
namespace Go.Proofs.YtcdfoephhjacdaaDoor
open Go.RowKit

/-- a token: its kind (97 a name, 48 a number, else a symbol's first byte), name, value, offset -/
structure TkV where
  k : Nat
  nm : ByteArray
  v : Nat
  at' : Nat
def noTk : TkV := ⟨0, ⟨#[]⟩, 0, 0⟩

/-- how far bytes of a kind go on from offset o -/
def rn (p : Int → Bool) (s : ByteArray) (o : Nat) : Nat := ((s.data.toList.drop o).takeWhile fun b => p (b.toNat : Int)).length
theorem byte_drop {s : ByteArray} {o i : Nat} (h : o + i < s.size) : (s.data.toList.drop o)[i]? = some (s.data.toList.getD (o + i) 0) := by
  have e : s.data.toList.length = s.size := by simp
  have hl : o + i < s.data.toList.length := by omega
  rw [List.getElem?_drop, List.getD_eq_getElem?_getD, List.getElem?_eq_getElem hl]; rfl
theorem takeWhile_len {α : Type} (p : α → Bool) : ∀ (l : List α) (n : Nat), (∀ i x, i < n → l[i]? = some x → p x = true) → n ≤ l.length → (∀ x, l[n]? = some x → p x = false) → (l.takeWhile p).length = n
  | [], n, _, hn, _ => by simp at hn; subst hn; rfl
  | x :: r, 0, _, _, h2 => by rw [List.takeWhile_cons, if_neg (by rw [h2 x rfl]; decide)]; rfl
  | x :: r, n + 1, h1, hn, h2 => by
    rw [List.takeWhile_cons, if_pos (h1 0 x (by omega) rfl), List.length_cons, takeWhile_len p r n (fun i y hi hy => h1 (i + 1) y (by omega) hy) (by simpa using hn) (fun y hy => h2 y hy)]
theorem rn_eq {p : Int → Bool} {s : ByteArray} {o n : Nat} (h1 : ∀ i, i < n → p (byteAt s (o + i)) = true) (h2 : o + n ≤ s.size) (h3 : o + n = s.size ∨ p (byteAt s (o + n)) = false) : rn p s o = n := by
  have hl : s.data.toList.length = s.size := by simp
  refine takeWhile_len _ _ n (fun i x hi hx => ?_) (by rw [List.length_drop]; omega) (fun x hx => ?_)
  · rw [byte_drop (by omega)] at hx
    rw [← Option.some.inj hx]
    exact h1 i hi
  · rcases h3 with h3 | h3
    · rw [List.getElem?_eq_none (by rw [List.length_drop]; omega)] at hx; cases hx
    · by_cases h4 : o + n = s.size
      · rw [List.getElem?_eq_none (by rw [List.length_drop]; omega)] at hx; cases hx
      · rw [byte_drop (by omega)] at hx
        rw [← Option.some.inj hx]
        exact h3

/-- the digits of a stretch -/
def stretch (s : ByteArray) (o n : Nat) : List UInt8 := (s.data.toList.drop o).take n
def sepB (c : Int) : Bool := decide (c = 9) || decide (c = 10) || decide (c = 13) || decide (c = 32)
def symB (c : Int) : Bool := decide (c = 40) || decide (c = 41) || decide (c = 44) || decide (c = 59) || decide (c = 46)
/-- what stands at offset o: none, if nothing that may; else a token, or none for a separator, and its length -/
def nx (s : ByteArray) (o : Nat) : Option (Option (Nat × ByteArray × Nat) × Nat) :=
  if sepB (byteAt s o) then some (none, 1)
  else if letterB (byteAt s o) then (if rn nbyteB s o ≤ 30 then some (some (97, s.extract o (o + rn nbyteB s o), 0), rn nbyteB s o) else none)
  else if digitB (byteAt s o) then (if dv (stretch s o (rn digitB s o)) ≤ 1000000 then some (some (48, ⟨#[]⟩, dv (stretch s o (rn digitB s o))), rn digitB s o) else none)
  else if byteAt s o = 58 then (if o + 1 < s.size ∧ byteAt s (o + 1) = 45 then some (some (58, ⟨#[]⟩, 0), 2) else none)
  else if symB (byteAt s o) then some (some ((byteAt s o).toNat, ⟨#[]⟩, 0), 1)
  else none

def lexF (s : ByteArray) : Nat → Nat → List TkV → List TkV × Option Nat
  | 0, _, acc => (acc, none)
  | f + 1, o, acc => if o < s.size then (match nx s o with
    | none => (acc, some o)
    | some (none, n) => lexF s f (o + n) acc
    | some (some (k, nm, v), n) => lexF s f (o + n) (acc ++ [⟨k, nm, v, o⟩])) else (acc, none)
/-- a text's tokens, and the offset of the first thing that is none -/
def lexA (s : ByteArray) : List TkV × Option Nat := lexF s (s.size + 1) 0 []
/-- so far the tokens acc have been cut, up to offset o -/
def LexI (s : ByteArray) (o : Nat) (acc : List TkV) : Prop := o ≤ s.size ∧ ∃ f, s.size - o < f ∧ lexF s f o acc = lexA s
theorem LexI.start (s : ByteArray) : LexI s 0 [] := ⟨Nat.zero_le _, s.size + 1, by omega, rfl⟩
theorem LexI.done {s : ByteArray} {acc : List TkV} (h : LexI s s.size acc) : lexA s = (acc, none) := by
  obtain ⟨-, f, hf, e⟩ := h
  cases f with
  | zero => omega
  | succ f => rw [← e, lexF, if_neg (by omega)]
theorem LexI.bad {s : ByteArray} {o : Nat} {acc : List TkV} (h : LexI s o acc) (ho : o < s.size) (hn : nx s o = none) : lexA s = (acc, some o) := by
  obtain ⟨-, f, hf, e⟩ := h
  cases f with
  | zero => omega
  | succ f => rw [← e, lexF, if_pos ho, hn]
theorem LexI.sep {s : ByteArray} {o n : Nat} {acc : List TkV} (h : LexI s o acc) (ho : o < s.size) (hn : nx s o = some (none, n)) (h1 : 0 < n) (h2 : o + n ≤ s.size) : LexI s (o + n) acc := by
  obtain ⟨-, f, hf, e⟩ := h
  cases f with
  | zero => omega
  | succ f =>
    refine ⟨h2, f, by omega, ?_⟩
    rw [← e, lexF, if_pos ho, hn]
theorem LexI.tok {s : ByteArray} {o n k v : Nat} {nm : ByteArray} {acc : List TkV} (h : LexI s o acc) (ho : o < s.size) (hn : nx s o = some (some (k, nm, v), n)) (h1 : 0 < n) (h2 : o + n ≤ s.size) : LexI s (o + n) (acc ++ [⟨k, nm, v, o⟩]) := by
  obtain ⟨-, f, hf, e⟩ := h
  cases f with
  | zero => omega
  | succ f =>
    refine ⟨h2, f, by omega, ?_⟩
    rw [← e, lexF, if_pos ho, hn]

/-- the tokens that may be -/
structure TkOk (t : TkV) : Prop where
  k : t.k = 97 ∨ t.k = 48 ∨ t.k = 58 ∨ t.k = 40 ∨ t.k = 41 ∨ t.k = 44 ∨ t.k = 59 ∨ t.k = 46
  nm : t.k ≠ 97 → t.nm = ⟨#[]⟩
  nz : t.k = 97 → t.nm.size ≠ 0
  v : t.v ≤ 1000000
  vz : t.k = 97 → t.v = 0

end Go.Proofs.YtcdfoephhjacdaaDoor
