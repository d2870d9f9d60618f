import Derived.Test.YtfjchjhakjghcaaDoorD18
import Derived.Test.YtfjchjhakjghcaaDoorD21
/-
  The text of data.
-/
namespace Go.Proofs.YtfjchjhakjghcaaDoor

def nmL (r : RelV) : List UInt8 := r.name.data.toList
def lineR (r : RelV) : List UInt8 := [114, 101, 108, 32] ++ nmL r ++ [32] ++ Lib.itoa r.ar ++ [10]
def lineW (r : RelV) (i : Nat) : List UInt8 := nmL r ++ [32] ++ rowT (r.rows.getD i []) ++ [32] ++ Lib.itoa (r.ws.getD i 0) ++ [10]
def relT (r : RelV) : Nat → List UInt8
  | 0 => lineR r
  | k + 1 => relT r k ++ lineW r k
def datT (ds : List RelV) : Nat → List UInt8
  | 0 => []
  | j + 1 => datT ds j ++ relT (ds.getD j noRel) (ds.getD j noRel).rows.length

/-- a relation that is right -/
structure GR (r : RelV) : Prop where
  nm : (nmL r).length ≤ 30
  nz : r.name.size ≤ 30
  a1 : 1 ≤ r.ar
  a3 : r.ar ≤ 3
  n : r.rows.length ≤ 2000
  wl : r.ws.length = r.rows.length
  row : ∀ i, i < r.rows.length → (r.rows.getD i []).length ≤ 3 ∧ 1 ≤ (r.rows.getD i []).length ∧ ∀ x ∈ r.rows.getD i [], 0 ≤ x ∧ x ≤ 1000000
  wt : ∀ i, i < r.rows.length → -1000000 ≤ r.ws.getD i 0 ∧ r.ws.getD i 0 ≤ 1000000

theorem GR.lR {r : RelV} (h : GR r) : (lineR r).length ≤ 1000 := by
  have h1 := itoa_len r.ar
  have h2 := h.a1
  have h3 := h.a3
  have h4 := h.nm
  unfold lineR
  simp only [List.length_append, List.length_cons, List.length_nil]
  omega
theorem GR.lW {r : RelV} (h : GR r) {i : Nat} (hi : i < r.rows.length) : (lineW r i).length ≤ 5000000 := by
  obtain ⟨h1, -, h2⟩ := h.row i hi
  have h3 := rowT_len 1000000 (r.rows.getD i []) fun x hx => by have := h2 x hx; omega
  have h4 := itoa_len (r.ws.getD i 0)
  have h5 := h.wt i hi
  have h6 := h.nm
  unfold lineW
  simp only [List.length_append, List.length_cons, List.length_nil]
  omega
theorem GR.lT {r : RelV} (h : GR r) : ∀ k, k ≤ r.rows.length → (relT r k).length ≤ 1000 + k * 5000000
  | 0, _ => by have := h.lR; show (lineR r).length ≤ _; omega
  | k + 1, hk => by
    have h1 := GR.lT h k (by omega)
    have h2 := h.lW (i := k) (by omega)
    show (relT r k ++ lineW r k).length ≤ _
    rw [List.length_append]
    omega
theorem dat_len {ds : List RelV} (h : ∀ j, j < ds.length → GR (ds.getD j noRel)) : ∀ j, j ≤ ds.length → (datT ds j).length ≤ j * 10000001000
  | 0, _ => by simp [datT]
  | j + 1, hj => by
    have h1 := dat_len h j (by omega)
    have h2 := (h j (by omega)).lT _ (Nat.le_refl _)
    have h3 := (h j (by omega)).n
    show (datT ds j ++ relT _ _).length ≤ _
    rw [List.length_append]
    omega

theorem gr_of {ds : List RelV} (h : dataB ds = true) : ds.length ≤ 50 ∧ ∀ j, j < ds.length → GR (ds.getD j noRel) := by
  unfold dataB at h
  simp only [Bool.and_eq_true, decide_eq_true_eq, List.all_eq_true] at h
  refine ⟨h.1, fun j hj => ?_⟩
  have h1 := h.2 j (List.mem_range.2 hj)
  unfold relAtB relB at h1
  generalize ds.getD j noRel = r at *
  simp only [Bool.and_eq_true, decide_eq_true_eq, List.all_eq_true] at h1
  obtain ⟨⟨⟨⟨⟨⟨⟨h2, h3⟩, h4⟩, h5⟩, h6⟩, h7⟩, h8⟩, -⟩ := h1
  unfold arityB at h3
  simp only [Bool.and_eq_true, decide_eq_true_eq] at h3
  have hz : r.name.size ≤ 30 := by
    unfold relName nameB at h2
    simp only [Bool.and_eq_true, decide_eq_true_eq] at h2
    omega
  have hrl : ∀ i, i < r.rows.length → ((r.rows.getD i []).length : Int) = r.ar := fun i hi => by
    unfold rowsB at h5
    rw [List.all_eq_true] at h5
    have h9 := h5 i (by simpa using hi)
    unfold rowAt at h9
    simp only [Bool.and_eq_true, decide_eq_true_eq] at h9
    omega
  refine ⟨by unfold nmL; rw [Array.length_toList]; exact hz, hz, h3.1, h3.2, h4, h7, fun i hi => ⟨by have := hrl i hi; omega, by have := hrl i hi; omega, fun x hx => ?_⟩, fun i hi => ?_⟩
  · have hm : r.rows.getD i [] ∈ r.rows := by rw [List.getD_eq_getElem?_getD, List.getElem?_eq_getElem hi]; exact List.getElem_mem _
    have := h6 _ hm x hx
    unfold valB at this
    simpa using this
  · have hm : r.ws.getD i 0 ∈ r.ws := by rw [List.getD_eq_getElem?_getD, List.getElem?_eq_getElem (by omega)]; exact List.getElem_mem _
    have := h8 _ hm
    unfold wtB at this
    simpa using this

end Go.Proofs.YtfjchjhakjghcaaDoor
