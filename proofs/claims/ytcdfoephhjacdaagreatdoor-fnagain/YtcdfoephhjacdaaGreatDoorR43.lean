import Derived.Test.YtcdfoephhjacdaaGreatDoorR20
import Derived.Test.YtcdfoephhjacdaaGreatDoorR41
/-
  spec.ParseQuery, over its parser's contract.
-/
namespace Go.Proofs.YtcdfoephhjacdaaGreatDoor
open Go.RowKit

theorem flat_at {α : Type} (f : α → List Value) (m : Nat) (hf : ∀ x, (f x).length = m) (d : α) : ∀ (l : List α) (j i : Nat), j < l.length → i < m → (l.flatMap f)[j * m + i]? = (f (l.getD j d))[i]?
  | [], j, i, hj, _ => by simp at hj
  | x :: l, 0, i, _, hi => by
    rw [List.flatMap_cons, Nat.zero_mul, Nat.zero_add, List.getElem?_append_left (by rw [hf]; exact hi)]
    rfl
  | x :: l, j + 1, i, hj, hi => by
    rw [List.flatMap_cons, List.getElem?_append_right (by rw [hf, Nat.succ_mul]; omega), hf]
    rw [show (j + 1) * m + i - m = j * m + i by rw [Nat.succ_mul]; omega]
    exact flat_at f m hf d l j i (by simpa using hj) hi
theorem own_Apt {W : World} {B cap g n s m : Nat} {e : TypeId} {a : Option Addr} {xs : List Value} (h : W.ownsRow B e s (.slice a n cap) m xs) (hg : W.heap.size ≤ g) : Apt (.slice a n cap) g := fun b o n' c' e2 hb => by
  have e3 : a = some ⟨b, o, none⟩ := by
    have := (Value.slice.inj e2).1
    exact this
  subst e3
  rcases h.2 with ⟨e4, -⟩ | ⟨g', cap', cur, e4, -⟩
  · cases e4
  · have h4 := (h.lt g' (by rw [e4]; rfl)).2
    have e5 := (Value.slice.inj e4).1
    have e6 : b = g' := by simpa using congrArg (fun x => x.map Addr.block) e5
    omega

def wrZ (o : Option Nat) : Int := match o with | none => -1 | some o => (o : Int)
end Go.Proofs.YtcdfoephhjacdaaGreatDoor
