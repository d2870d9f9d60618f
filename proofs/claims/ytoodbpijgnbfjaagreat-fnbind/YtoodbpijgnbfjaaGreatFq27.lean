import Derived.Test.YtoodbpijgnbfjaaGreatFq07
import Derived.Test.YtoodbpijgnbfjaaGreatFq09
import Derived.Test.YtoodbpijgnbfjaaGreatFq16
import Derived.Test.YtoodbpijgnbfjaaGreatFq26
namespace Go.Proofs.YtoodbpijgnbfjaaGreat
open Go.RowKit

def relS (d : RelV) (vr vw : Value) : List Value := [.string d.name, .int .i64 d.ar, vr, vw]

structure RWs (W : World) (B : Nat) (v : Value) (us : List Value) (ls : List (List Int)) : Prop where
  own : W.ownsRow B 33 1 v ls.length us
  len : us.length = ls.length
  each : ∀ i, i < ls.length → W.ownsRow B 3 1 (us.getD i undef) (ls.getD i []).length ((ls.getD i []).map (Value.int .i64))

structure SQ (W : World) (B : Nat) (v : Value) (ds : List RelV) (vr vw : Nat → Value) (us : Nat → List Value) : Prop where
  own : W.ownsRow B 53 4 v ds.length ((List.range ds.length).flatMap fun i => relS (ds.getD i noRel) (vr i) (vw i))
  rw : ∀ i, i < ds.length → RWs W B (vr i) (us i) (ds.getD i noRel).rows
  ow : ∀ i, i < ds.length → W.ownsRow B 3 1 (vw i) (ds.getD i noRel).ws.length ((ds.getD i noRel).ws.map (Value.int .i64))
  eq : ∀ i, i < ds.length → (ds.getD i noRel).ws.length = (ds.getD i noRel).rows.length
  nil : ∀ i, i < ds.length → (ds.getD i noRel).rows = [] → vr i = .slice none 0 0 ∧ vw i = .slice none 0 0

section
variable {W W' : World} {B : Nat} {v : Value} {ds : List RelV} {vr vw : Nat → Value} {us : Nat → List Value}
theorem RWs.below {vv : Value} {uu : List Value} {ls : List (List Int)} (h : RWs W B vv uu ls) (hb : Below W.heap.size W W') : RWs W' B vv uu ls := ⟨own_below h.own hb, h.len, fun i hi => own_below (h.each i hi) hb⟩
theorem RWs.iss {vv : Value} {uu : List Value} {ls : List (List Int)} (h : RWs W B vv uu ls) : ISS W vv ls := by
  rcases h.own.2 with ⟨rfl, hn⟩ | ⟨g, cap, cur, rfl, -, hg, h1, h2, h3, h4⟩
  · exact ⟨none, 0, by rw [hn], Or.inl hn⟩
  · refine ⟨_, cap, rfl, Or.inr ⟨g, 0, rfl, fun j hj => ⟨uu.getD j undef, ?_, own_is (h.each j hj)⟩⟩⟩
    rw [Nat.zero_add, h.own.cellAt j (by omega), List.getD_eq_getElem?_getD, List.getElem?_eq_getElem (by have := h.len; omega)]
    rfl
theorem SQ.below (h : SQ W B v ds vr vw us) (hb : Below W.heap.size W W') : SQ W' B v ds vr vw us :=
  ⟨own_below h.own hb, fun i hi => (h.rw i hi).below hb, fun i hi => own_below (h.ow i hi) hb, h.eq, h.nil⟩
theorem flat4_len (f : Nat → List Value) (hf : ∀ i, (f i).length = 4) : ∀ n, ((List.range n).flatMap f).length = n * 4
  | 0 => rfl
  | n + 1 => by rw [List.range_succ, List.flatMap_append, List.length_append, flat4_len f hf n, List.flatMap_singleton, hf]; omega
theorem flat4 (f : Nat → List Value) (hf : ∀ i, (f i).length = 4) : ∀ n i j, i < n → j < 4 → ((List.range n).flatMap f)[i * 4 + j]? = (f i)[j]?
  | 0, i, j, hi, hj => absurd hi (Nat.not_lt_zero _)
  | n + 1, i, j, hi, hj => by
    rw [List.range_succ, List.flatMap_append, List.flatMap_singleton]
    by_cases e : i < n
    · rw [List.getElem?_append_left (by rw [flat4_len f hf]; omega)]
      exact flat4 f hf n i j e hj
    · obtain rfl : i = n := by omega
      rw [List.getElem?_append_right (by rw [flat4_len f hf]; omega), flat4_len f hf, show i * 4 + j - i * 4 = j by omega]
theorem SQ.cells {g cap : Nat} (h : SQ W B (.slice (some ⟨g, 0, none⟩) ds.length cap) ds vr vw us) {i : Nat} (hi : i < ds.length) :
    W.cell? ⟨g, i * 4, none⟩ = some (.string (ds.getD i noRel).name) ∧ W.cell? ⟨g, i * 4 + 1, none⟩ = some (.int .i64 (ds.getD i noRel).ar) ∧ W.cell? ⟨g, i * 4 + 2, none⟩ = some (vr i) ∧ W.cell? ⟨g, i * 4 + 3, none⟩ = some (vw i) := by
  have hc : ∀ j, j < 4 → W.cell? ⟨g, i * 4 + j, none⟩ = (relS (ds.getD i noRel) (vr i) (vw i))[j]? := fun j hj => by
    rw [h.own.cellAt _ (by omega), flat4 _ (fun _ => rfl) _ i j hi hj]
  exact ⟨hc 0 (by decide), hc 1 (by decide), hc 2 (by decide), hc 3 (by decide)⟩
theorem SQ.irels (h : SQ W B v ds vr vw us) : IRelS W v ds := by
  rcases h.own.2 with ⟨rfl, hn⟩ | ⟨g, cap, cur, rfl, hx⟩
  · exact ⟨none, 0, by rw [hn], Or.inl hn⟩
  · refine ⟨_, cap, rfl, Or.inr ⟨g, 0, rfl, fun j hj => ?_⟩⟩
    obtain ⟨c0, c1, c2, c3⟩ := h.cells hj
    rw [Nat.zero_add]
    exact ⟨_, _, c0, c1, c2, c3, (h.rw j hj).iss, own_is (h.ow j hj)⟩
end

end Go.Proofs.YtoodbpijgnbfjaaGreat
