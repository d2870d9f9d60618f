import Derived.Laws.BytesArg
import Derived.Test.YtoodbpijgnbfjaaGreatFq04
import Derived.Test.YtoodbpijgnbfjaaGreatFq31
namespace Go.Proofs.YtoodbpijgnbfjaaGreat
open Go.RowKit

end Go.Proofs.YtoodbpijgnbfjaaGreat

namespace Go.Proofs.YtoodbpijgnbfjaaGreat
open Go.RowKit

end Go.Proofs.YtoodbpijgnbfjaaGreat

namespace Go.Proofs.YtoodbpijgnbfjaaGreat
open Go.RowKit

theorem own_any {W : World} {B e s n : Nat} {v : Value} {xs : List Value} (h : W.ownsRow B e s v n xs) : (v = .slice none 0 0 ∧ n = 0) ∨ ∃ g cap, v = .slice (some ⟨g, 0, none⟩) n cap ∧ g < W.heap.size ∧ (∀ j, j < n * s → ∃ u, W.cell? ⟨g, j, none⟩ = some u) ∧ (∀ j, j < n * s → W.frozen? ⟨g, j, none⟩ = false) := by
  have h' := h
  rcases h'.2 with ⟨e1, e2⟩ | ⟨g, cap, cur, e1, -, hc, -⟩
  · exact Or.inl ⟨e1, e2⟩
  · subst e1
    refine Or.inr ⟨g, cap, rfl, (h.lt g rfl).2, fun j hj => ⟨xs[j]'(by rw [h.1]; exact hj), ?_⟩, fun j _ => h.frozenAt j⟩
    rw [h.cellAt j hj]
    exact List.getElem?_eq_getElem _
end Go.Proofs.YtoodbpijgnbfjaaGreat

namespace Go.Proofs.YtoodbpijgnbfjaaGreat
open Go.RowKit

def noU : UV := (⟨#[]⟩, .slice none 0 0, [])
section
variable {w wr w2 w4 : World} {B g k i : Nat} {us : List UV}
end

end Go.Proofs.YtoodbpijgnbfjaaGreat

namespace Go.Proofs.YtoodbpijgnbfjaaGreat
open Go.RowKit

theorem getU {us : List UV} {j : Nat} (hj : j < us.length) : us.getD j noU ∈ us := by
  rw [List.getD_eq_getElem?_getD, List.getElem?_eq_getElem hj, Option.getD_some]
  exact List.getElem_mem hj
theorem flatU : ∀ (us : List UV) (j i : Nat), j < us.length → i < 2 → (us.flatMap atc)[j * 2 + i]? = (atc (us.getD j noU))[i]?
  | [], j, i, hj, _ => by simp at hj
  | x :: l, 0, i, _, hi => by
    rw [List.flatMap_cons, Nat.zero_mul, Nat.zero_add, List.getElem?_append_left (by show i < 2; exact hi)]
    rfl
  | x :: l, j + 1, i, hj, hi => by
    rw [List.flatMap_cons, List.getElem?_append_right (by show 2 ≤ _; omega), show (j + 1) * 2 + i - (atc x).length = j * 2 + i by show (j + 1) * 2 + i - 2 = _; omega]
    exact flatU l j i (by simpa using hj) hi
end Go.Proofs.YtoodbpijgnbfjaaGreat

namespace Go.Proofs.YtoodbpijgnbfjaaGreat
open Go.RowKit

theorem getU_at {us : List UV} {j : Nat} (hj : j < us.length) : (us.map uAt).getD j noAt = uAt (us.getD j noU) := by
  rw [List.getD_eq_getElem?_getD, List.getD_eq_getElem?_getD, List.getElem?_map, List.getElem?_eq_getElem hj]
  rfl
theorem flatT : ∀ (l : List TermV) (j i : Nat), j < l.length → i < 2 → (l.flatMap tmc)[j * 2 + i]? = (tmc (l.getD j noTm))[i]?
  | [], j, i, hj, _ => by simp at hj
  | x :: l, 0, i, _, hi => by
    rw [List.flatMap_cons, Nat.zero_mul, Nat.zero_add, List.getElem?_append_left (by show i < 2; exact hi)]
    rfl
  | x :: l, j + 1, i, hj, hi => by
    rw [List.flatMap_cons, List.getElem?_append_right (by show 2 ≤ _; omega), show (j + 1) * 2 + i - (tmc x).length = j * 2 + i by show (j + 1) * 2 + i - 2 = _; omega]
    exact flatT l j i (by simpa using hj) hi
theorem own_terms {W : World} {B : Nat} {v : Value} {l : List TermV} (h : W.ownsRow B 79 2 v l.length (l.flatMap tmc)) : ITm W v l := by
  rcases own_any h with ⟨rfl, hz⟩ | ⟨g, cap, rfl, -⟩
  · exact ⟨none, 0, by rw [hz], Or.inl hz⟩
  · refine ⟨_, cap, rfl, Or.inr ⟨g, 0, rfl, fun j hj => ⟨?_, ?_⟩⟩⟩
    · have := h.cellAt (j * 2 + 0) (by omega)
      rw [flatT l j 0 hj (by omega)] at this
      rw [Nat.zero_add]
      exact this
    · have := h.cellAt (j * 2 + 1) (by omega)
      rw [flatT l j 1 hj (by omega)] at this
      rw [Nat.zero_add]
      exact this
end Go.Proofs.YtoodbpijgnbfjaaGreat
