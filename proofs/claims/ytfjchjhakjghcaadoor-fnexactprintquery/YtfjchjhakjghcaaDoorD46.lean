import Derived.Deep.AppendLies
import Derived.Deep.CutRange
import Derived.Deep.RegionLaw
import Derived.Test.YtfjchjhakjghcaaDoorD45
/-
  spec.PrintQuery: its parts.
-/
namespace Go.Proofs.YtfjchjhakjghcaaDoor
open Go.RowKit

theorem new1_cellQ (w : World) (v : Value) (t : TypeId) : ∀ j u, [v][j]? = some u → (w.alloc (.cells #[v] t)).cell? ((⟨w.heap.size, 0, none⟩ : Addr).add j) = some u := by
  intro j u hj
  match j, hj with
  | 0, hj => simp at hj; subst hj; simp [Addr.add]
theorem own_belowQ {B n s : Nat} {e : TypeId} {w w' : World} {v : Value} {xs : List Value} (h : w.ownsRow B e s v n xs) (hb : Below w.heap.size w w') : w'.ownsRow B e s v n xs := by
  obtain ⟨h1, h2⟩ := h
  refine ⟨h1, ?_⟩
  rcases h2 with h2 | ⟨g, cap, cur, hv, hg, hc, hr⟩
  · exact Or.inl h2
  · refine Or.inr ⟨g, cap, cur, hv, hg, ?_, hr⟩
    have hlt : g < w.heap.size := by
      rcases Nat.lt_or_ge g w.heap.size with h1 | h1
      · exact h1
      · rw [Array.getElem?_eq_none h1] at hc; cases hc
    exact (hb.block g hlt).trans hc

def ML {α : Type} (f : α → List UInt8) (l : List α) (p : Nat) : List ByteArray := (l.take p).map fun x => ⟨(f x).toArray⟩
theorem ML_succ {α : Type} (f : α → List UInt8) (d : α) {l : List α} {p : Nat} (h : p < l.length) : ML f l (p + 1) = ML f l p ++ [⟨(f (l.getD p d)).toArray⟩] := by
  unfold ML
  have e : l.take (p + 1) = l.take p ++ [l.getD p d] := by
    rw [List.take_add_one, List.getElem?_eq_getElem h, List.getD_eq_getElem?_getD, List.getElem?_eq_getElem h]; rfl
  rw [e, List.map_append]; rfl
theorem ML_len {α : Type} (f : α → List UInt8) {l : List α} {p : Nat} (h : p ≤ l.length) : (ML f l p).length = p := by
  unfold ML; rw [List.length_map, List.length_take]; omega
theorem bts_of (l : List UInt8) : bts ⟨l.toArray⟩ = l := by simp [bts]
theorem ML_bts {α : Type} (f : α → List UInt8) (l : List α) : (ML f l l.length).map bts = l.map f := by
  unfold ML
  rw [List.take_length, List.map_map]
  apply List.map_congr_left
  intro x _
  exact bts_of _
theorem ML_size {α : Type} (f : α → List UInt8) (M : Nat) {l : List α} {p : Nat} (h : ∀ x ∈ l, (f x).length ≤ M) : ∀ x ∈ ML f l p, x.size ≤ M := fun x hx => by
  unfold ML at hx
  obtain ⟨t, ht, rfl⟩ := List.mem_map.1 hx
  have := h t (List.mem_of_mem_take ht)
  show (f t).toArray.size ≤ M
  simpa using this
theorem get_all {α : Type} (d : α) {P : α → Prop} {l : List α} (h : ∀ j, j < l.length → P (l.getD j d)) : ∀ x ∈ l, P x := fun x hx => by
  obtain ⟨j, hj, e⟩ := List.getElem_of_mem hx
  have := h j hj
  rw [List.getD_eq_getElem?_getD, List.getElem?_eq_getElem hj] at this
  rw [← e]; exact this
theorem atom_cat (rb jt : List UInt8) : (((⟨rb.toArray⟩ : ByteArray) ++ ⟨#[40]⟩) ++ ⟨jt.toArray⟩) ++ ⟨#[41]⟩ = ⟨(rb ++ [40] ++ jt ++ [41]).toArray⟩ := by
  rw [show (⟨#[40]⟩ : ByteArray) = ⟨[40].toArray⟩ from rfl, show (⟨#[41]⟩ : ByteArray) = ⟨[41].toArray⟩ from rfl, cat_bytes, cat_bytes, cat_bytes]

theorem ring_at : ∀ k : Nat, 1 ≤ k → k ≤ 3 → (#[Value.string ⟨#[]⟩, .string ⟨#[99, 111, 117, 110, 116]⟩, .string ⟨#[115, 117, 109]⟩, .string ⟨#[109, 105, 110]⟩])[k]? = some (.string (ringB (k : Int)))
  | 1, _, _ => rfl
  | 2, _, _ => rfl
  | 3, _, _ => rfl
  | 0, h, _ => by omega
  | k + 4, _, h => by omega

theorem ring_size : ∀ k : Nat, k ≤ 3 → (ringB (k : Int)).size ≤ 5
  | 0, _ => by decide
  | 1, _ => by decide
  | 2, _ => by decide
  | 3, _ => by decide
  | k + 4, h => by omega

theorem l3Rings_calls (w : World) : Calls Tryd.prog 33 #[] w fun e w' => ∃ g : Nat, e = .returned (.slice (some ⟨g, 0, none⟩) 4 4) ∧ Below w.heap.size w w' ∧ ∀ k : Nat, 1 ≤ k → k ≤ 3 → w'.cell? ⟨g, k, none⟩ = some (.string (ringB (k : Int))) := by
  go_enter Tryd.func33, Tryd.ntmps33
  go_wp2_with fail
  go_ret
  refine ⟨_, rfl, (Below.refl _ _).alloc (Nat.le_refl _) _, fun k h1 h3 => ?_⟩
  rw [World.cell?_alloc_at _ _ _ _ rfl]
  exact ring_at k h1 h3
end Go.Proofs.YtfjchjhakjghcaaDoor
