import Derived.Test.YtliggcbiiaegeacEk04
import Derived.Test.YtliggcbiiaegeacEk09
import Derived.Test.YtliggcbiiaegeacEk21
import Derived.Test.YtliggcbiiaegeacEk22
/-
  Rows of rationals in memory, each in a block of its own.
-/
namespace Go.Proofs.Ytliggcbiiaegeac
open Go.RowKit

/-- block g begins with n cells of type t, none frozen, cell i holding f i -/
def RwIs (w : World) (g : Nat) (t : TypeId) (n : Nat) (f : Nat → Value) : Prop :=
  ∃ cur : Array Value, w.heap[g]? = some (.cells cur t (0, 0)) ∧ ∀ i, i < n → cur[i]? = some (f i)

section
variable {w w' : World} {g h n : Nat} {t t' : TypeId} {f f' : Nat → Value}

theorem RwIs.cell (H : RwIs w g t n f) {i : Nat} (hi : i < n) : w.cell? ⟨g, i, none⟩ = some (f i) := by
  obtain ⟨c, hb, hc⟩ := H
  simp [World.cell?, hb, hc i hi]
theorem RwIs.free (H : RwIs w g t n f) (i : Nat) : w.frozen? ⟨g, i, none⟩ = false := by
  obtain ⟨c, hb, _⟩ := H
  simp [World.frozen?, hb]
theorem RwIs.lt (H : RwIs w g t n f) : g < w.heap.size := by
  obtain ⟨c, hb, _⟩ := H
  obtain ⟨hlt, _⟩ := Array.getElem?_eq_some_iff.1 hb
  exact hlt
theorem RwIs.congr (H : RwIs w g t n f) (e : ∀ i, i < n → f i = f' i) : RwIs w g t n f' := by
  obtain ⟨c, hb, hc⟩ := H
  exact ⟨c, hb, fun i hi => by rw [hc i hi, e i hi]⟩
theorem RwIs.of_block (H : RwIs w g t n f) (e : w'.heap[g]? = w.heap[g]?) : RwIs w' g t n f := by
  obtain ⟨c, hb, hc⟩ := H
  exact ⟨c, e.trans hb, hc⟩
theorem RwIs.below (H : RwIs w g t n f) (hb : Below w.heap.size w w') : RwIs w' g t n f := H.of_block (hb.block g H.lt)
theorem RwIs.set (H : RwIs w g t n f) (i : Nat) (v : Value) : RwIs (w.setCell ⟨g, i, none⟩ v) g t n (fun j => if j = i then v else f j) := by
  obtain ⟨c, hb, hc⟩ := H
  refine ⟨c.setIfInBounds i v, ?_, fun j hj => ?_⟩
  · simp [World.setCell, Array.getElem?_modify, hb]
  · have hjc : j < c.size := by
      have := hc j hj
      exact (Array.getElem?_eq_some_iff.1 this).1
    rw [Array.getElem?_setIfInBounds]
    by_cases e : j = i
    · subst e
      simp [hjc]
    · rw [if_neg (fun h => e h.symm)]
      show c[j]? = some (if j = i then v else f j)
      rw [if_neg e]
      exact hc j hj
theorem RwIs.other (H : RwIs w g t n f) (hne : g ≠ h) (i : Nat) (v : Value) : RwIs (w.setCell ⟨h, i, none⟩ v) g t n f := H.of_block (Below.heap_setCell _ _ _ _ hne)
theorem RwIs.ne {m : Nat} (H : RwIs w g t n f) (K : RwIs w h t' m f') (ht : t ≠ t') : g ≠ h := by
  rintro rfl
  obtain ⟨c, hb, _⟩ := H
  obtain ⟨c', hb', _⟩ := K
  rw [hb] at hb'
  simp only [Option.some.injEq, Obj.cells.injEq] at hb'
  exact ht hb'.2.1
end

/-- a row of rationals, cell by cell -/
def ratF (r : Nat → Rat) : Nat → Value := fun k => if k % 2 = 0 then .int .i64 (r (k / 2)).num else .int .i64 (r (k / 2)).den

def RowAt (w : World) (g n : Nat) (r : Nat → Rat) : Prop := RwIs w g 49 ((n + 1) * 2) (ratF r)

section
variable {w w' : World} {g h n : Nat} {r : Nat → Rat}
theorem RowAt.num (H : RowAt w g n r) {j : Nat} (hj : j ≤ n) : w.cell? ⟨g, j * 2, none⟩ = some (.int .i64 (r j).num) := by
  rw [RwIs.cell H (by omega)]
  unfold ratF
  rw [if_pos (by omega), show j * 2 / 2 = j by omega]
theorem RowAt.den (H : RowAt w g n r) {j : Nat} (hj : j ≤ n) : w.cell? ⟨g, j * 2 + 1, none⟩ = some (.int .i64 (r j).den) := by
  rw [RwIs.cell H (by omega)]
  unfold ratF
  rw [if_neg (by omega), show (j * 2 + 1) / 2 = j by omega]
theorem RowAt.set (H : RowAt w g n r) (j : Nat) (q : Rat) : RowAt ((w.setCell ⟨g, j * 2, none⟩ (.int .i64 q.num)).setCell ⟨g, j * 2 + 1, none⟩ (.int .i64 q.den)) g n (fun i => if i = j then q else r i) := by
  refine RwIs.congr (RwIs.set (RwIs.set H (j * 2) _) (j * 2 + 1) _) (fun k hk => ?_)
  unfold ratF
  show _ = if k % 2 = 0 then Value.int IntKind.i64 (if k / 2 = j then q else r (k / 2)).num else Value.int IntKind.i64 (if k / 2 = j then q else r (k / 2)).den
  by_cases e1 : k = j * 2 + 1
  · rw [if_pos e1, if_neg (by omega), if_pos (by omega)]
  · rw [if_neg e1]
    by_cases e2 : k = j * 2
    · rw [if_pos e2, if_pos (by omega), if_pos (by omega)]
    · rw [if_neg e2, if_neg (show ¬ k / 2 = j by omega)]
theorem RowAt.other (H : RowAt w g n r) (hne : g ≠ h) (i k : Nat) (v u : Value) : RowAt ((w.setCell ⟨h, i, none⟩ v).setCell ⟨h, k, none⟩ u) g n r := RwIs.other (RwIs.other H hne i v) hne k u
theorem RowAt.congr {r' : Nat → Rat} (H : RowAt w g n r) (e : ∀ j, j ≤ n → r j = r' j) : RowAt w g n r' := by
  refine RwIs.congr H (fun k hk => ?_)
  unfold ratF
  rw [e (k / 2) (by omega)]

theorem zs_get (k : Nat) : ∀ j, j < k → (zs k)[j * 2]? = some (.int .i64 0) ∧ (zs k)[j * 2 + 1]? = some (.int .i64 1) := by
  induction k with
  | zero => intro j hj; omega
  | succ k ih =>
    intro j hj
    have hl : (zs k).length = k * 2 := by simp [zs]
    rw [zs_succ]
    by_cases e : j < k
    · rw [List.getElem?_append_left (by omega), List.getElem?_append_left (by omega)]
      exact ih j e
    · obtain rfl : j = k := by omega
      rw [List.getElem?_append_right (by omega), List.getElem?_append_right (by omega), hl]
      simp

theorem own_zero {B : Nat} {v : Value} (H : w.ownsRow B 49 2 v (n + 1) (zs (n + 1))) : ∃ g cap, v = .slice (some ⟨g, 0, none⟩) (n + 1) cap ∧ B ≤ g ∧ g < w.heap.size ∧ RowAt w g n (fun _ => 0) := by
  rcases H.2 with ⟨_, h⟩ | ⟨g, cap, cur, rfl, hb, hc, hn, -, -, ht⟩
  · omega
  · have hr : RowAt w g n (fun _ => 0) := by
      refine ⟨cur, hc, fun i hi => ?_⟩
      have e : cur[i]? = (zs (n + 1))[i]? := by
        rw [← ht, List.getElem?_take_of_lt hi, Array.getElem?_toList]
      rw [e]
      unfold ratF
      obtain ⟨h1, h2⟩ := zs_get (n + 1) (i / 2) (by omega)
      by_cases e2 : i % 2 = 0
      · rw [if_pos e2]
        rw [show i / 2 * 2 = i by omega] at h1
        exact h1
      · rw [if_neg e2]
        rw [show i / 2 * 2 + 1 = i by omega] at h2
        exact h2
    exact ⟨g, cap, rfl, hb, hr.lt, hr⟩
end

/-- the rows, one below another -/
structure Mat (w : World) (B G n : Nat) (g cp : Nat → Nat) (R : Nat → Nat → Rat) : Prop where
  top : RwIs w G 48 n (fun i => .slice (some ⟨g i, 0, none⟩) (n + 1) (cp i))
  row : ∀ i, i < n → RowAt w (g i) n (R i)
  inj : ∀ i, i < n → ∀ k, k < n → g i = g k → i = k
  base : B ≤ G ∧ ∀ i, i < n → B ≤ g i

section
variable {w w' : World} {B G n : Nat} {g cp : Nat → Nat} {R R' : Nat → Nat → Rat}
theorem Mat.ne (H : Mat w B G n g cp R) {i : Nat} (hi : i < n) : g i ≠ G := RwIs.ne (H.row i hi) H.top (by decide)
theorem Mat.below (H : Mat w B G n g cp R) (hb : Below w.heap.size w w') : Mat w' B G n g cp R := ⟨H.top.below hb, fun i hi => RwIs.below (H.row i hi) hb, H.inj, H.base⟩
theorem Mat.congr (H : Mat w B G n g cp R) (e : ∀ i, i < n → ∀ j, j ≤ n → R i j = R' i j) : Mat w B G n g cp R' := ⟨H.top, fun i hi => (H.row i hi).congr (e i hi), H.inj, H.base⟩
theorem Mat.head (H : Mat w B G n g cp R) {i : Nat} (hi : i < n) : w.cell? ⟨G, i, none⟩ = some (.slice (some ⟨g i, 0, none⟩) (n + 1) (cp i)) := H.top.cell hi
theorem Mat.swap (H : Mat w B G n g cp R) {c p : Nat} (hc : c < n) (hp : p < n) :
    Mat ((w.setCell ⟨G, p, none⟩ (.slice (some ⟨g c, 0, none⟩) (n + 1) (cp c))).setCell ⟨G, c, none⟩ (.slice (some ⟨g p, 0, none⟩) (n + 1) (cp p))) B G n (Cov.swp g c p) (Cov.swp cp c p) (Cov.swpR R c p) := by
  refine ⟨RwIs.congr ((H.top.set p _).set c _) (fun i _ => ?_), fun i hi => ?_, fun i hi k hk e => ?_, H.base.1, fun i hi => ?_⟩
  · unfold Cov.swp
    by_cases e1 : i = c
    · rw [if_pos e1, if_pos e1, if_pos e1]
    · rw [if_neg e1, if_neg e1, if_neg e1]
      by_cases e2 : i = p
      · rw [if_pos e2, if_pos e2, if_pos e2]
      · rw [if_neg e2, if_neg e2, if_neg e2]
  · have hk : ∀ k, k < n → RowAt ((w.setCell ⟨G, p, none⟩ (.slice (some ⟨g c, 0, none⟩) (n + 1) (cp c))).setCell ⟨G, c, none⟩ (.slice (some ⟨g p, 0, none⟩) (n + 1) (cp p))) (g k) n (R k) := fun k hk => (H.row k hk).other (H.ne hk) _ _ _ _
    unfold Cov.swp Cov.swpR
    split
    · exact hk p hp
    · split
      · exact hk c hc
      · exact hk i hi
  · have hinj := H.inj
    unfold Cov.swp at e
    by_cases a1 : i = c
    · by_cases b1 : k = c
      · omega
      · rw [if_pos a1, if_neg b1] at e
        by_cases b2 : k = p
        · rw [if_pos b2] at e
          have := hinj p hp c hc e
          omega
        · rw [if_neg b2] at e
          have := hinj p hp k hk e
          omega
    · rw [if_neg a1] at e
      by_cases a2 : i = p
      · rw [if_pos a2] at e
        by_cases b1 : k = c
        · rw [if_pos b1] at e
          have := hinj c hc p hp e
          omega
        · rw [if_neg b1] at e
          by_cases b2 : k = p
          · omega
          · rw [if_neg b2] at e
            have := hinj c hc k hk e
            omega
      · rw [if_neg a2] at e
        by_cases b1 : k = c
        · rw [if_pos b1] at e
          have := hinj i hi p hp e
          omega
        · rw [if_neg b1] at e
          by_cases b2 : k = p
          · rw [if_pos b2] at e
            have := hinj i hi c hc e
            omega
          · rw [if_neg b2] at e
            exact hinj i hi k hk e
  · unfold Cov.swp
    split
    · exact H.base.2 p hp
    · split
      · exact H.base.2 c hc
      · exact H.base.2 i hi
theorem Mat.set (H : Mat w B G n g cp R) {r : Nat} (hr : r < n) (j : Nat) (q : Rat) :
    Mat ((w.setCell ⟨g r, j * 2, none⟩ (.int .i64 q.num)).setCell ⟨g r, j * 2 + 1, none⟩ (.int .i64 q.den)) B G n g cp (fun i k => if i = r ∧ k = j then q else R i k) := by
  refine ⟨(H.top.other (fun e => H.ne hr e.symm) _ _).other (fun e => H.ne hr e.symm) _ _, fun i hi => ?_, H.inj, H.base⟩
  by_cases e : i = r
  · subst e
    exact ((H.row i hi).set j q).congr (fun k _ => by
      by_cases e : k = j
      · rw [if_pos e, if_pos ⟨rfl, e⟩]
      · rw [if_neg e, if_neg (fun h => e h.2)])
  · exact ((H.row i hi).other (fun h => e (H.inj i hi r hr h)) _ _ _ _).congr (fun k _ => by rw [if_neg (fun h => e h.1)])
end

/-- the first k rows, while they are laid -/
structure Rws (w : World) (B n k : Nat) (vr : Value) (vs : List Value) (g cp : Nat → Nat) (R : Nat → Nat → Rat) : Prop where
  own : w.ownsRow B 48 1 vr k vs
  len : vs.length = k
  val : ∀ i, i < k → vs.getD i undef = .slice (some ⟨g i, 0, none⟩) (n + 1) (cp i)
  row : ∀ i, i < k → RowAt w (g i) n (R i)
  inj : ∀ i, i < k → ∀ j, j < k → g i = g j → i = j
  base : ∀ i, i < k → B ≤ g i

section
variable {w w' : World} {B n k : Nat} {vr : Value} {vs : List Value} {g cp : Nat → Nat} {R : Nat → Nat → Rat}
theorem Rws.below (H : Rws w B n k vr vs g cp R) (hb : Below w.heap.size w w') : Rws w' B n k vr vs g cp R := ⟨own_below H.own hb, H.len, H.val, fun i hi => RwIs.below (H.row i hi) hb, H.inj, H.base⟩

theorem RwIs.typ {w : World} {g n : Nat} {t : TypeId} {f : Nat → Value} (H : RwIs w g t n f) : ∃ cur, w.heap[g]? = some (.cells cur t (0, 0)) := by
  obtain ⟨c, hb, _⟩ := H
  exact ⟨c, hb⟩

theorem Rws.other (H : Rws w B n k vr vs g cp R) {c m : Nat} {f : Nat → Value} (hc : RwIs w c 49 m f) (hne : ∀ i, i < k → g i ≠ c) (a : Nat) (v : Value) : Rws (w.setCell ⟨c, a, none⟩ v) B n k vr vs g cp R :=
  ⟨own_move H.own (fun q hq => Below.heap_setCell _ _ _ _ (fun e => own_ne H.own hc.typ (by decide) (by rw [hq]; exact congrArg some e.symm))), H.len, H.val, fun i hi => RwIs.other (H.row i hi) (hne i hi) _ _, H.inj, H.base⟩

theorem Rws.step {w3 : World} {o : Obj} {vr' : Value} {c cap : Nat} {r : Nat → Rat} (H : Rws w B n k vr vs g cp R) (hr : RowAt w c n r) (hcB : B ≤ c) (hne : ∀ i, i < k → g i ≠ c) (hR : ∀ j, j ≤ n → r j = R k j)
    (hown : w3.ownsRow B 48 1 vr' (k + 1) (vs ++ [.slice (some ⟨c, 0, none⟩) (n + 1) cap])) (hg : (w.alloc o).grownBy w3 vr.ownBlock) :
    Rws w3 B n (k + 1) vr' (vs ++ [.slice (some ⟨c, 0, none⟩) (n + 1) cap]) (fun i => if i = k then c else g i) (fun i => if i = k then cap else cp i) R := by
  have hsz : (w.alloc o).heap.size = w.heap.size + 1 := by simp
  have hk : ∀ b, b < w.heap.size → some b ≠ vr.ownBlock → w3.heap[b]? = w.heap[b]? := fun b hb hne => (hg.block b (by omega) hne).trans (Below.heap_alloc _ _ _ hb)
  have hrow : ∀ {q : Nat} {f : Nat → Rat}, RowAt w q n f → RowAt w3 q n f := fun h => RwIs.of_block h (hk _ h.lt (own_ne H.own h.typ (by decide)))
  refine ⟨hown, by rw [List.length_append, H.len]; rfl, fun i hi => ?_, fun i hi => ?_, fun i hi j hj e => ?_, fun i hi => ?_⟩
  · by_cases e : i = k
    · subst e
      rw [if_pos rfl, if_pos rfl, List.getD_eq_getElem?_getD, List.getElem?_append_right (by rw [H.len]; exact Nat.le_refl _), H.len]; simp
    · rw [if_neg e, if_neg e, List.getD_eq_getElem?_getD, List.getElem?_append_left (by rw [H.len]; omega), ← List.getD_eq_getElem?_getD]
      exact H.val i (by omega)
  · by_cases e : i = k
    · subst e
      rw [if_pos rfl]
      exact (hrow hr).congr hR
    · rw [if_neg e]
      exact hrow (H.row i (by omega))
  · by_cases e1 : i = k
    · by_cases e2 : j = k
      · omega
      · rw [if_pos e1, if_neg e2] at e
        exact absurd e.symm (hne j (by omega))
    · by_cases e2 : j = k
      · rw [if_neg e1, if_pos e2] at e
        exact absurd e (hne i (by omega))
      · rw [if_neg e1, if_neg e2] at e
        exact H.inj i (by omega) j (by omega) e
  · by_cases e : i = k
    · rw [if_pos e]; exact hcB
    · rw [if_neg e]; exact H.base i (by omega)

theorem Rws.mat (H : Rws w B n n vr vs g cp R) (hn : 0 < n) : ∃ G cap, vr = .slice (some ⟨G, 0, none⟩) n cap ∧ Mat w B G n g cp R := by
  rcases H.own.2 with ⟨_, h⟩ | ⟨G, cap, cur, rfl, hb, hc, -, -, -, ht⟩
  · omega
  · refine ⟨G, cap, rfl, ⟨cur, hc, fun i hi => ?_⟩, H.row, H.inj, hb, H.base⟩
    have e : cur[i]? = vs[i]? := by
      rw [← ht, List.getElem?_take_of_lt (by omega), Array.getElem?_toList]
    rw [e]
    have := H.val i hi
    rw [List.getD_eq_getElem?_getD, List.getElem?_eq_getElem (by rw [H.len]; exact hi)] at this
    rw [List.getElem?_eq_getElem (by rw [H.len]; exact hi)]
    simpa using this
end

end Go.Proofs.Ytliggcbiiaegeac

/-
  Lists of demands in memory; the best corner so far.
-/
namespace Go.Proofs.Ytliggcbiiaegeac
open Go.RowKit

def dcs (ps : List (Value × Dem)) : List Value := ps.flatMap fun p => [p.1, .bool p.2.up, .int .i64 p.2.bd]
def pd0 : Value × Dem := (undef, dem0)

theorem dcs_len (ps : List (Value × Dem)) : (dcs ps).length = ps.length * 3 := by
  induction ps with
  | nil => rfl
  | cons p ps ih =>
    show ([p.1, .bool p.2.up, .int .i64 p.2.bd] ++ dcs ps).length = _
    rw [List.length_append, ih, List.length_cons]
    simp only [List.length_cons, List.length_nil]
    omega

theorem dcs_snoc (ps : List (Value × Dem)) (p : Value × Dem) : dcs (ps ++ [p]) = dcs ps ++ [p.1, .bool p.2.up, .int .i64 p.2.bd] := by
  simp [dcs]

theorem dcs_get : ∀ (ps : List (Value × Dem)) (i : Nat), i < ps.length → (dcs ps)[i * 3]? = some (ps.getD i pd0).1 ∧ (dcs ps)[i * 3 + 1]? = some (.bool (ps.getD i pd0).2.up) ∧ (dcs ps)[i * 3 + 2]? = some (.int .i64 (ps.getD i pd0).2.bd)
  | [], i, h => by simp at h
  | p :: ps, 0, _ => ⟨rfl, rfl, rfl⟩
  | p :: ps, i + 1, h => by
    have h' : i < ps.length := by simpa using h
    have := dcs_get ps i h'
    have e : dcs (p :: ps) = [p.1, .bool p.2.up, .int .i64 p.2.bd] ++ dcs ps := rfl
    rw [e]
    rw [List.getElem?_append_right (by simp; omega), List.getElem?_append_right (by simp; omega), List.getElem?_append_right (by simp; omega)]
    simp only [List.length_cons, List.length_nil]
    rw [show (i + 1) * 3 - (0 + 1 + 1 + 1) = i * 3 by omega, show (i + 1) * 3 + 1 - (0 + 1 + 1 + 1) = i * 3 + 1 by omega, show (i + 1) * 3 + 2 - (0 + 1 + 1 + 1) = i * 3 + 2 by omega]
    exact this

structure DP (w : World) (v : Value) (ps : List (Value × Dem)) : Prop where
  sl : ∃ a cap, v = .slice a ps.length cap ∧ (ps.length = 0 ∨ ∃ b o, a = some ⟨b, o, none⟩ ∧ ∀ j u, (dcs ps)[j]? = some u → w.cell? ⟨b, o + j, none⟩ = some u)
  each : ∀ p ∈ ps, IntsAt w p.1 p.2.pl

theorem DP.below {w w' : World} {v : Value} {ps : List (Value × Dem)} (h : DP w v ps) (hb : Below w.heap.size w w') : DP w' v ps := by
  obtain ⟨⟨a, cap, e, hc⟩, he⟩ := h
  refine ⟨⟨a, cap, e, ?_⟩, fun p hp => (he p hp).below hb⟩
  rcases hc with h0 | ⟨b, o, ea, hc⟩
  · exact Or.inl h0
  · exact Or.inr ⟨b, o, ea, fun j u hj => (hb.cell (p := ⟨b, o + j, none⟩) (World.block_lt_of_cell? w _ (hc j u hj))).trans (hc j u hj)⟩

theorem dp_own {w : World} {B : Nat} {v : Value} {ps : List (Value × Dem)} (h : w.ownsRow B 174 3 v ps.length (dcs ps)) (he : ∀ p ∈ ps, IntsAt w p.1 p.2.pl) : DP w v ps := by
  refine ⟨?_, he⟩
  rcases h.2 with ⟨rfl, h2⟩ | ⟨g, cap, cur, rfl, hb', hc, hn, -, -, ht⟩
  · exact ⟨none, 0, by rw [h2], Or.inl h2⟩
  · refine ⟨_, cap, rfl, Or.inr ⟨g, 0, rfl, fun j u hj => ?_⟩⟩
    have hjl : j < ps.length * 3 := by
      have := (List.getElem?_eq_some_iff.1 hj).1
      rw [dcs_len] at this
      exact this
    rw [cell_of_row _ _ _ _ _ _ hc, Nat.zero_add, ← hj, ← ht, List.getElem?_take_of_lt hjl, Array.getElem?_toList]

theorem dcs_one {w : World} {v : Value} {ps : List (Value × Dem)} (h : DP w v ps) : ∀ u ∈ dcs ps, u.oneCell' = true := by
  intro u hu
  obtain ⟨p, hp, hm⟩ := List.mem_flatMap.1 hu
  obtain ⟨a, cap, e, -⟩ := h.each p hp
  simp only [List.mem_cons, List.not_mem_nil, or_false] at hm
  rcases hm with rfl | rfl | rfl
  · rw [e]; rfl
  · rfl
  · rfl

theorem map_snd_get (ps : List (Value × Dem)) (i : Nat) : (ps.map Prod.snd).getD i dem0 = (ps.getD i pd0).2 := by
  rw [List.getD_eq_getElem?_getD, List.getElem?_map, List.getD_eq_getElem?_getD]
  cases ps[i]? <;> rfl

/-- the best corner so far: none, or a point of the polyhedron -/
def BestAt (w : World) (n : Nat) (all : List Dem) (v : Value) : Option (Nat → Rat) → Prop
  | none => ∃ a cap, v = .slice a 0 cap
  | some b => IR w v (prs n b) ∧ InP n all b ∧ Parts n b

theorem IR.below' {w w' : World} {v : Value} {l : List (Int × Int)} (h : IR w v l) (hb : Below w.heap.size w w') : IR w' v l := by
  obtain ⟨a, cap, e, h⟩ := h
  refine ⟨a, cap, e, ?_⟩
  rcases h with h0 | ⟨b, o, ea, hc⟩
  · exact Or.inl h0
  · exact Or.inr ⟨b, o, ea, fun j hj => ⟨(hb.cell (p := ⟨b, o + j * 2, none⟩) (World.block_lt_of_cell? w _ (hc j hj).1)).trans (hc j hj).1, (hb.cell (p := ⟨b, o + j * 2 + 1, none⟩) (World.block_lt_of_cell? w _ (hc j hj).2)).trans (hc j hj).2⟩⟩

theorem BestAt.below {w w' : World} {n : Nat} {all : List Dem} {v : Value} {b : Option (Nat → Rat)} (h : BestAt w n all v b) (hb : Below w.heap.size w w') : BestAt w' n all v b := by
  cases b with
  | none => exact h
  | some b => exact ⟨h.1.below' hb, h.2⟩

theorem BestAt.len {w : World} {n : Nat} {all : List Dem} {v : Value} {b : Option (Nat → Rat)} (h : BestAt w n all v b) : ∃ a cap, v = .slice a (if b.isNone then 0 else n) cap := by
  cases b with
  | none => exact h
  | some b =>
    obtain ⟨⟨a, cap, e, -⟩, -⟩ := h
    rw [prs_length] at e
    exact ⟨a, cap, e⟩

end Go.Proofs.Ytliggcbiiaegeac

/-
  Plain mathematics of spec.CoverOf: its demands say 'a cover' | 'a packing'.
-/
namespace Go.Proofs.Ytliggcbiiaegeac
open Go.RowKit

def unitsD (n : Nat) : List Dem := (List.range n).map fun i => ⟨[i], false, 0⟩
def rowsD (L : List (List Nat)) : List Dem := L.map fun l => ⟨l, false, 1⟩
def capsD (L : List (List Nat)) : List Dem := (L.filter fun l => !l.isEmpty).map fun l => ⟨l, true, 1⟩
def coverD (bag : List Int) (es : List (List Int)) : List Dem := rowsD (coverL bag es) ++ unitsD es.length
def packD (bag : List Int) (es : List (List Int)) : List Dem := capsD (packL bag es) ++ unitsD bag.length

theorem unit_at {n i : Nat} (hi : i < n) (b : Bool) (z : Int) (x : Nat → Rat) : (Dem.dm ⟨[i], b, z⟩).at n x = x i := by
  show Cov.sm n (fun j => (if j ∈ [i] then 1 else 0) * x j) = x i
  rw [Cov.sm_single hi (fun j _ hne => by rw [if_neg (fun h => hne (List.mem_singleton.1 h))]; grind), if_pos (List.mem_singleton.2 rfl)]
  grind

theorem unitsD_meets {n : Nat} {x : Nat → Rat} : (∀ D ∈ unitsD n, D.dm.meets n x) ↔ ∀ i, i < n → 0 ≤ x i := by
  constructor
  · intro h i hi
    have := h ⟨[i], false, 0⟩ (List.mem_map.2 ⟨i, List.mem_range.2 hi, rfl⟩)
    have e := unit_at hi false 0 x
    unfold Cov.Dm.meets at this
    rw [e] at this
    exact this
  · intro h D hD
    obtain ⟨i, hi, rfl⟩ := List.mem_map.1 hD
    have hi := List.mem_range.1 hi
    unfold Cov.Dm.meets
    rw [unit_at hi]
    exact h i hi

theorem getD_of_mem {L : List (List Nat)} {l : List Nat} (h : l ∈ L) : ∃ r, r < L.length ∧ L.getD r [] = l := mem_getD' h

theorem inP_cover {bag : List Int} {es : List (List Int)} {x : Nat → Rat} : InP es.length (coverD bag es) x ↔ Cov.Cover bag.length es.length (inc (coverL bag es)) x := by
  unfold InP coverD Cov.Cover
  rw [show (∀ D ∈ rowsD (coverL bag es) ++ unitsD es.length, D.dm.meets es.length x) ↔ (∀ D ∈ rowsD (coverL bag es), D.dm.meets es.length x) ∧ (∀ D ∈ unitsD es.length, D.dm.meets es.length x) from
    ⟨fun h => ⟨fun D hD => h D (List.mem_append.2 (Or.inl hD)), fun D hD => h D (List.mem_append.2 (Or.inr hD))⟩, fun h D hD => (List.mem_append.1 hD).elim (h.1 D) (h.2 D)⟩, unitsD_meets, and_comm]
  refine and_congr Iff.rfl ?_
  constructor
  · intro h r hr
    rw [← coverL_len bag es] at hr
    exact h ⟨(coverL bag es).getD r [], false, 1⟩ (List.mem_map.2 ⟨_, getD_mem' hr, rfl⟩)
  · intro h D hD
    obtain ⟨l, hl, rfl⟩ := List.mem_map.1 hD
    obtain ⟨r, hr, rfl⟩ := getD_of_mem hl
    rw [coverL_len] at hr
    exact h r hr

theorem inP_pack {bag : List Int} {es : List (List Int)} {x : Nat → Rat} : InP bag.length (packD bag es) x ↔ Cov.Pack es.length bag.length (inc (packL bag es)) x := by
  unfold InP packD Cov.Pack
  rw [show (∀ D ∈ capsD (packL bag es) ++ unitsD bag.length, D.dm.meets bag.length x) ↔ (∀ D ∈ capsD (packL bag es), D.dm.meets bag.length x) ∧ (∀ D ∈ unitsD bag.length, D.dm.meets bag.length x) from
    ⟨fun h => ⟨fun D hD => h D (List.mem_append.2 (Or.inl hD)), fun D hD => h D (List.mem_append.2 (Or.inr hD))⟩, fun h D hD => (List.mem_append.1 hD).elim (h.1 D) (h.2 D)⟩, unitsD_meets, and_comm]
  refine and_congr Iff.rfl ?_
  constructor
  · intro h r hr
    rw [← packL_len bag es] at hr
    by_cases he : (packL bag es).getD r [] = []
    · have : Cov.sm bag.length (fun e => inc (packL bag es) r e * x e) = 0 := Cov.sm_zero (fun i _ => by
        unfold inc
        rw [he, if_neg (by simp)]; grind)
      rw [this]
      decide
    · exact h ⟨(packL bag es).getD r [], true, 1⟩ (List.mem_map.2 ⟨_, List.mem_filter.2 ⟨getD_mem' hr, by simpa using he⟩, rfl⟩)
  · intro h D hD
    obtain ⟨l, hl, rfl⟩ := List.mem_map.1 hD
    obtain ⟨r, hr, rfl⟩ := getD_of_mem (List.mem_filter.1 hl).1
    rw [packL_len] at hr
    exact h r hr

theorem star_cover {bag : List Int} {es : List (List Int)} {x : Nat → Rat} (h : CoverBest bag.length es.length (inc (coverL bag es)) x) : Star es.length false (coverD bag es) x :=
  ⟨inP_cover.2 h.1, fun y hy => h.2 y (inP_cover.1 hy)⟩
theorem star_pack {bag : List Int} {es : List (List Int)} {x : Nat → Rat} (h : PackBest es.length bag.length (inc (packL bag es)) x) : Star bag.length true (packD bag es) x :=
  ⟨inP_pack.2 h.1, fun y hy => h.2 y (inP_pack.1 hy)⟩

theorem plN_nodup (p : Nat → Bool) (k : Nat) : (plN p k).Nodup := List.Pairwise.filter _ List.nodup_range

theorem coverD_ok {bag : List Int} {es : List (List Int)} (he : es.length ≤ 7) : ∀ D ∈ coverD bag es, DemOk es.length D := by
  intro D hD
  rcases List.mem_append.1 hD with h | h
  · obtain ⟨l, hl, rfl⟩ := List.mem_map.1 h
    obtain ⟨v, _, rfl⟩ := List.mem_map.1 hl
    exact ⟨plN_nodup _ _, fun i hi => (plN_mem.1 hi).1, Nat.le_trans (plN_len _ _) he, Or.inr rfl⟩
  · obtain ⟨i, hi, rfl⟩ := List.mem_map.1 h
    exact ⟨by simp, fun j hj => by rw [List.mem_singleton.1 hj]; exact List.mem_range.1 hi, by simp, Or.inl rfl⟩

theorem packD_ok {bag : List Int} {es : List (List Int)} (he : bag.length ≤ 6) : ∀ D ∈ packD bag es, DemOk bag.length D := by
  intro D hD
  rcases List.mem_append.1 hD with h | h
  · obtain ⟨l, hl, rfl⟩ := List.mem_map.1 h
    obtain ⟨v, _, rfl⟩ := List.mem_map.1 (List.mem_filter.1 hl).1
    exact ⟨plN_nodup _ _, fun i hi => (plN_mem.1 hi).1, Nat.le_trans (plN_len _ _) (by omega), Or.inr rfl⟩
  · obtain ⟨i, hi, rfl⟩ := List.mem_map.1 h
    exact ⟨by simp, fun j hj => by rw [List.mem_singleton.1 hj]; exact List.mem_range.1 hi, by simp, Or.inl rfl⟩

theorem coverD_len (bag : List Int) (es : List (List Int)) : (coverD bag es).length = bag.length + es.length := by
  simp [coverD, rowsD, unitsD, coverL_len]
theorem packD_len (bag : List Int) (es : List (List Int)) : (packD bag es).length ≤ es.length + bag.length := by
  have := List.length_filter_le (fun l : List Nat => !l.isEmpty) (packL bag es)
  rw [packL_len] at this
  simp only [packD, capsD, unitsD, List.length_append, List.length_map, List.length_range]
  omega

theorem prs_congr {n : Nat} {x y : Nat → Rat} (h : ∀ i, i < n → x i = y i) : prs n x = prs n y := by
  unfold prs
  exact List.map_congr_left (fun i hi => by rw [h i (List.mem_range.1 hi)])

theorem sm_none {n : Nat} {x : Nat → Rat} (h : ∀ i, i < n → 0 ≤ x i) (hs : Cov.sm n x ≤ 0) : ∀ i, i < n → x i = 0 := by
  have key : ∀ k, k ≤ n → 0 ≤ Cov.sm k x := by
    intro k hk
    induction k with
    | zero => exact Rat.le_refl
    | succ k ih =>
      have h1 := ih (by omega)
      have h2 := h k (by omega)
      show 0 ≤ Cov.sm k x + x k
      grind
  have : ∀ k, k ≤ n → Cov.sm k x ≤ 0 → ∀ i, i < k → x i = 0 := by
    intro k hk
    induction k with
    | zero => intro _ i hi; omega
    | succ k ih =>
      intro hs i hi
      have h1 := key k (by omega)
      have h2 := h k (by omega)
      have h3 : Cov.sm k x + x k ≤ 0 := hs
      by_cases e : i = k
      · subst e; grind
      · exact ih (by omega) (by grind) i (by omega)
  exact this n (Nat.le_refl _) hs

theorem cover_none {u : Nat} {M : Nat → Nat → Rat} {x : Nat → Rat} (h : CoverBest 0 u M x) : ∀ i, i < u → x i = 0 := by
  have h1 := h.2 (fun _ => 0) ⟨fun _ _ => Rat.le_refl, fun r hr => by omega⟩
  have e : Cov.sm u (fun _ => (0 : Rat)) = 0 := Cov.sm_zero (fun _ _ => rfl)
  refine sm_none h.1.1 ?_
  rcases h1 with h1 | ⟨h1, _⟩
  · rw [e] at h1; grind
  · rw [e] at h1; grind

end Go.Proofs.Ytliggcbiiaegeac

/-
  The width of a bag by the kept parts of the edges alone.
-/
namespace Go.Proofs.Ytliggcbiiaegeac
open Go.RowKit

/-- what an edge has of a bag -/
def partL (bag e : List Int) : List Int := e.filter fun v => decide (v ∈ bag)
def subB (a b : List Int) : Bool := a.all fun x => decide (x ∈ b)
/-- edge j makes edge i unneeded -/
def overB (bag : List Int) (es : List (List Int)) (i j : Nat) : Bool :=
  decide (j ≠ i) && subB (partL bag (es.getD i [])) (partL bag (es.getD j [])) && (decide ((partL bag (es.getD i [])).length < (partL bag (es.getD j [])).length) || decide (j < i))
def needB (bag : List Int) (es : List (List Int)) (i : Nat) : Bool :=
  decide (0 < (partL bag (es.getD i [])).length) && (List.range es.length).all fun j => !overB bag es i j
def keptI (bag : List Int) (es : List (List Int)) : List Nat := (List.range es.length).filter (needB bag es)
def partsL (bag : List Int) (es : List (List Int)) : List (List Int) := (keptI bag es).map fun i => partL bag (es.getD i [])

theorem subB_iff {a b : List Int} : subB a b = true ↔ ∀ x ∈ a, x ∈ b := by simp [subB]
theorem part_mem {bag e : List Int} {x : Int} : x ∈ partL bag e ↔ x ∈ e ∧ x ∈ bag := by simp [partL]

theorem exists_top {P : Nat → Prop} {f : Nat → Nat} {N : Nat} (hN : ∀ i, P i → f i ≤ N) {i : Nat} (hi : P i) : ∃ j, P j ∧ ∀ k, P k → f k ≤ f j := by
  refine Classical.byContradiction fun hno => ?_
  have step : ∀ n, ∃ j, P j ∧ n ≤ f j := by
    intro n
    induction n with
    | zero => exact ⟨i, hi, Nat.zero_le _⟩
    | succ n ih =>
      obtain ⟨j, hj, hn⟩ := ih
      refine Classical.byContradiction fun h2 => hno ⟨j, hj, fun k hk => ?_⟩
      refine Classical.byContradiction fun h3 => h2 ⟨k, hk, by omega⟩
  obtain ⟨j, hj, hn⟩ := step (N + 1)
  have := hN j hj
  omega
theorem exists_low {P : Nat → Prop} {i : Nat} (hi : P i) : ∃ j, P j ∧ ∀ k, P k → j ≤ k := by
  refine Classical.byContradiction fun hno => ?_
  have step : ∀ n k, k < n → ¬ P k := by
    intro n
    induction n with
    | zero => intro k hk; omega
    | succ n ih =>
      intro k hk hp
      by_cases e : k < n
      · exact ih k e hp
      · refine hno ⟨k, hp, fun m hm => ?_⟩
        refine Classical.byContradiction fun h3 => ih m (by omega) hm
  exact step (i + 1) i (by omega) hi

theorem nodup_sub_len {a b : List Int} (ha : a.Nodup) (h : ∀ x ∈ a, x ∈ b) : a.length ≤ b.length := by
  induction a generalizing b with
  | nil => simp
  | cons x a ih =>
    have hx : x ∈ b := h x (List.mem_cons_self)
    rw [List.nodup_cons] at ha
    have h2 := ih (b := b.erase x) ha.2 (fun y hy => by
      have : y ≠ x := fun e => ha.1 (e ▸ hy)
      exact (List.mem_erase_of_ne this).2 (h y (List.mem_cons_of_mem _ hy)))
    rw [List.length_erase_of_mem hx] at h2
    have : 0 < b.length := List.length_pos_of_mem hx
    simp only [List.length_cons]
    omega

/-- each edge's part lies in a kept one -/
theorem kept_over {bag : List Int} {es : List (List Int)} (hn : ∀ i, i < es.length → (es.getD i []).Nodup) {i : Nat} (hi : i < es.length) (h0 : 0 < (partL bag (es.getD i [])).length) :
    ∃ j, j < es.length ∧ needB bag es j = true ∧ subB (partL bag (es.getD i [])) (partL bag (es.getD j [])) = true := by
  have hpn : ∀ j, j < es.length → (partL bag (es.getD j [])).Nodup := fun j hj => List.Pairwise.filter _ (hn j hj)
  obtain ⟨t, ⟨ht, hts⟩, htop⟩ := exists_top (P := fun j => j < es.length ∧ subB (partL bag (es.getD i [])) (partL bag (es.getD j [])) = true) (f := fun j => (partL bag (es.getD j [])).length) (N := (es.map List.length).sum)
    (fun j hj => by
      have h1 : (partL bag (es.getD j [])).length ≤ (es.getD j []).length := List.length_filter_le _ _
      have h2 : (es.getD j []).length ≤ (es.map List.length).sum := by
        have : es.getD j [] ∈ es := by
          rw [List.getD_eq_getElem?_getD, List.getElem?_eq_getElem hj.1]; exact List.getElem_mem hj.1
        have hm : (es.getD j []).length ∈ es.map List.length := List.mem_map_of_mem this
        clear h1
        generalize es.map List.length = L at hm
        generalize (es.getD j []).length = y at hm
        induction L with
        | nil => cases hm
        | cons z L ih =>
          rcases List.mem_cons.1 hm with rfl | h
          · simp
          · have := ih h; simp; omega
      omega) (i := i) ⟨hi, subB_iff.2 (fun x hx => hx)⟩
  obtain ⟨j, ⟨hj, hjs, hjt⟩, hlow⟩ := exists_low (P := fun j => j < es.length ∧ subB (partL bag (es.getD i [])) (partL bag (es.getD j [])) = true ∧ (partL bag (es.getD t [])).length ≤ (partL bag (es.getD j [])).length) (i := t) ⟨ht, hts, Nat.le_refl _⟩
  refine ⟨j, hj, ?_, hjs⟩
  unfold needB
  rw [Bool.and_eq_true, decide_eq_true_eq, List.all_eq_true]
  have h1 := htop i ⟨hi, subB_iff.2 (fun x hx => hx)⟩
  refine ⟨by omega, fun k hk => ?_⟩
  have hk' : k < es.length := by simpa using hk
  rw [Bool.not_eq_true']
  refine Bool.eq_false_iff.2 fun ho => ?_
  unfold overB at ho
  rw [Bool.and_eq_true, Bool.and_eq_true, Bool.or_eq_true, decide_eq_true_eq, decide_eq_true_eq, decide_eq_true_eq] at ho
  obtain ⟨⟨hne, hs⟩, hl⟩ := ho
  have hsk : subB (partL bag (es.getD i [])) (partL bag (es.getD k [])) = true := subB_iff.2 (fun x hx => subB_iff.1 hs x (subB_iff.1 hjs x hx))
  have h2 := htop k ⟨hk', hsk⟩
  have h3 := nodup_sub_len (hpn j hj) (subB_iff.1 hs)
  have h4 := hlow k
  rcases hl with hl | hl
  · omega
  · have := h4 ⟨hk', hsk, by omega⟩
    omega

theorem partsL_get {bag : List Int} {es : List (List Int)} {p : Nat} (h : p < (keptI bag es).length) : (partsL bag es).getD p [] = partL bag (es.getD ((keptI bag es).getD p 0) []) := by
  unfold partsL
  rw [List.getD_eq_getElem?_getD, List.getElem?_map, List.getD_eq_getElem?_getD (l := keptI bag es), List.getElem?_eq_getElem h]; rfl
theorem kept_get {bag : List Int} {es : List (List Int)} {p : Nat} (h : p < (keptI bag es).length) : (keptI bag es).getD p 0 < es.length ∧ needB bag es ((keptI bag es).getD p 0) = true := by
  have : (keptI bag es).getD p 0 ∈ keptI bag es := by
    rw [List.getD_eq_getElem?_getD, List.getElem?_eq_getElem h]; exact List.getElem_mem h
  have h2 := List.mem_filter.1 this
  exact ⟨by simpa using h2.1, h2.2⟩
theorem kept_find {bag : List Int} {es : List (List Int)} {j : Nat} (hj : j < es.length) (hn : needB bag es j = true) : ∃ p, p < (keptI bag es).length ∧ (keptI bag es).getD p 0 = j := by
  have : j ∈ keptI bag es := List.mem_filter.2 ⟨by simpa using hj, hn⟩
  obtain ⟨p, hp, e⟩ := List.getElem_of_mem this
  exact ⟨p, hp, by rw [List.getD_eq_getElem?_getD, List.getElem?_eq_getElem hp]; exact e⟩
theorem partsL_length (bag : List Int) (es : List (List Int)) : (partsL bag es).length = (keptI bag es).length := by simp [partsL]
theorem keptI_le (bag : List Int) (es : List (List Int)) : (keptI bag es).length ≤ es.length := by
  unfold keptI
  exact Nat.le_trans (List.length_filter_le _ _) (by simp)

theorem inc_coverL {bag : List Int} {es : List (List Int)} {r e : Nat} (hr : r < bag.length) (he : e < es.length) : inc (coverL bag es) r e = if bag.getD r 0 ∈ es.getD e [] then 1 else 0 := by
  unfold inc coverL
  have h1 : (bag.map fun x => plN (fun i => decide (x ∈ es.getD i [])) es.length).getD r [] = plN (fun i => decide (bag.getD r 0 ∈ es.getD i [])) es.length := by
    rw [List.getD_eq_getElem?_getD, List.getElem?_map, List.getD_eq_getElem?_getD (l := bag), List.getElem?_eq_getElem hr]; rfl
  rw [h1]
  unfold plN
  by_cases hm : bag.getD r 0 ∈ es.getD e []
  · rw [if_pos hm, if_pos (List.mem_filter.2 ⟨by simpa using he, by simpa using hm⟩)]
  · rw [if_neg hm, if_neg (fun h => hm (by simpa using (List.mem_filter.1 h).2))]

theorem bag_get_mem {bag : List Int} {r : Nat} (hr : r < bag.length) : bag.getD r 0 ∈ bag := by
  rw [List.getD_eq_getElem?_getD, List.getElem?_eq_getElem hr]; exact List.getElem_mem hr

/-- the least sum is the same over the kept parts -/
theorem width_parts {bag : List Int} {es : List (List Int)} (hn : ∀ i, i < es.length → (es.getD i []).Nodup) {x y : Nat → Rat} (hx : CoverBest bag.length es.length (inc (coverL bag es)) x)
    (hy : CoverBest bag.length (partsL bag es).length (inc (coverL bag (partsL bag es))) y) : Cov.sm es.length x = Cov.sm (partsL bag es).length y := by
  have hup : ∀ e, ∃ p, e < es.length → 0 < (partL bag (es.getD e [])).length → p < (keptI bag es).length ∧ subB (partL bag (es.getD e [])) (partL bag (es.getD ((keptI bag es).getD p 0) [])) = true := by
    intro e
    by_cases h : e < es.length ∧ 0 < (partL bag (es.getD e [])).length
    · obtain ⟨j, h1, h2, h3⟩ := kept_over hn h.1 h.2
      obtain ⟨p, h4, h5⟩ := kept_find h1 h2
      exact ⟨p, fun _ _ => ⟨h4, by rw [h5]; exact h3⟩⟩
    · exact ⟨0, fun h1 h2 => absurd ⟨h1, h2⟩ h⟩
  obtain ⟨up, hup⟩ : ∃ up : Nat → Nat, ∀ e, e < es.length → 0 < (partL bag (es.getD e [])).length → up e < (keptI bag es).length ∧ subB (partL bag (es.getD e [])) (partL bag (es.getD ((keptI bag es).getD (up e) 0) [])) = true :=
    ⟨fun e => Classical.choose (hup e), fun e => Classical.choose_spec (hup e)⟩
  have hl := partsL_length bag es
  refine Cov.kept_sum (m := bag.length) (rep := fun p => (keptI bag es).getD p 0) (up := up) (nz := fun e => decide (0 < (partL bag (es.getD e [])).length)) ?_ ?_ ?_ ?_ hx.1 hx.2 hy.1 hy.2
  · intro r hr p hp
    rw [hl] at hp
    have hk := kept_get hp
    rw [inc_coverL hr (by rw [hl]; exact hp), inc_coverL hr hk.1, partsL_get hp]
    have := bag_get_mem hr
    by_cases hm : bag.getD r 0 ∈ es.getD ((keptI bag es).getD p 0) []
    · rw [if_pos hm, if_pos (part_mem.2 ⟨hm, this⟩)]
    · rw [if_neg hm, if_neg (fun h => hm (part_mem.1 h).1)]
  · intro p hp
    rw [hl] at hp
    exact (kept_get hp).1
  · intro e he hz r hr
    rw [inc_coverL hr he, if_neg]
    intro hm
    have h1 : bag.getD r 0 ∈ partL bag (es.getD e []) := part_mem.2 ⟨hm, bag_get_mem hr⟩
    have h2 := List.length_pos_of_mem h1
    have hz' := of_decide_eq_false hz
    omega
  · intro e he hz
    have h0 : 0 < (partL bag (es.getD e [])).length := by simpa using hz
    obtain ⟨h1, h2⟩ := hup e he h0
    refine ⟨by rw [hl]; exact h1, fun r hr => ?_⟩
    rw [inc_coverL hr he, inc_coverL hr (kept_get h1).1]
    by_cases hm : bag.getD r 0 ∈ es.getD e []
    · have := (part_mem.1 (subB_iff.1 h2 _ (part_mem.2 ⟨hm, bag_get_mem hr⟩))).1
      rw [if_pos hm, if_pos this]; exact Rat.le_refl
    · rw [if_neg hm]
      split
      · decide
      · exact Rat.le_refl

/-- a least cover exists, with small parts -/
theorem coverBest_exists {bag : List Int} {es : List (List Int)} (hb : bag.length ≤ 7) (hc : ∀ r, r < bag.length → ∃ e, e < es.length ∧ bag.getD r 0 ∈ es.getD e []) : ∃ x, CoverBest bag.length es.length (inc (coverL bag es)) x ∧ Parts es.length x := by
  obtain ⟨bar, s, h1, h2, h3⟩ := Cov.least_cover (m := bag.length) (u := es.length) (M := inc (coverL bag es)) (fun r _ e _ => inc_nonneg _ r e) (fun r hr => by
    obtain ⟨e, he, hm⟩ := hc r hr
    exact ⟨e, he, by rw [inc_coverL hr he, if_pos hm]⟩)
  exact ⟨_, ⟨h2, h3⟩, parts_xb h1 hb (fun j _ r _ => whole_cover _ _ _ _ _) _⟩

/-- the parts cover the bag where the edges do -/
theorem parts_cover {bag : List Int} {es : List (List Int)} (hn : ∀ i, i < es.length → (es.getD i []).Nodup) (hc : ∀ r, r < bag.length → ∃ e, e < es.length ∧ bag.getD r 0 ∈ es.getD e []) :
    ∀ r, r < bag.length → ∃ e, e < (partsL bag es).length ∧ bag.getD r 0 ∈ (partsL bag es).getD e [] := by
  intro r hr
  obtain ⟨e, he, hm⟩ := hc r hr
  have h1 : bag.getD r 0 ∈ partL bag (es.getD e []) := part_mem.2 ⟨hm, bag_get_mem hr⟩
  obtain ⟨j, h2, h3, h4⟩ := kept_over hn he (List.length_pos_of_mem h1)
  obtain ⟨p, h5, h6⟩ := kept_find h2 h3
  exact ⟨p, by rw [partsL_length]; exact h5, by rw [partsL_get h5, h6]; exact subB_iff.1 h4 _ h1⟩

end Go.Proofs.Ytliggcbiiaegeac

/-
  The width of a bag; impl.greatestOf.
-/
namespace Go.Proofs.Ytliggcbiiaegeac
open Go.RowKit

/-- the width of a bag: the least sum of a cover -/
noncomputable def wdR (es : List (List Int)) (bag : List Int) : Rat := Cov.sm es.length (Classical.epsilon fun x => CoverBest bag.length es.length (inc (coverL bag es)) x)

theorem wdR_eq {bag : List Int} {es : List (List Int)} {x : Nat → Rat} (h : CoverBest bag.length es.length (inc (coverL bag es)) x) : Cov.sm es.length x = wdR es bag := by
  have k : CoverBest bag.length es.length (inc (coverL bag es)) (Classical.epsilon fun x => CoverBest bag.length es.length (inc (coverL bag es)) x) := Classical.epsilon_spec (p := fun x => CoverBest bag.length es.length (inc (coverL bag es)) x) ⟨x, h⟩
  exact Cov.sm_congr (Cov.key_inj (Cov.Lex.antisymm (h.2 _ k.1) (k.2 x h.1)))

/-- the greatest of the first n, at least 0 -/
noncomputable def mostN (f : Nat → Rat) : Nat → Rat
  | 0 => 0
  | n + 1 => if mostN f n < f n then f n else mostN f n

theorem mostN_sm {f : Nat → Rat} {B : Nat} (hB : 1 ≤ B) : ∀ {n : Nat}, (∀ i, i < n → Sm B (f i)) → Sm B (mostN f n)
  | 0, _ => ⟨by show (0 : Rat).num.natAbs ≤ B; simp, by show (0 : Rat).den ≤ B; simpa using hB⟩
  | n + 1, h => by
    show Sm B (if mostN f n < f n then f n else mostN f n)
    split
    · exact h n (by omega)
    · exact mostN_sm hB (fun i hi => h i (by omega))

theorem cmpR_gt (p q : Rat) (w : World) (hp : Sm 1000000 p) (hq : Sm 1000000 q) (h : q < p) :
    Calls Try.prog 143 #[.agg #[.int .i64 p.num, .int .i64 p.den], .agg #[.int .i64 q.num, .int .i64 q.den]] w fun e w' => e = .returned (.int .i64 1) ∧ Below w.heap.size w w' :=
  (iCmp_yes _ _ _ _ w (okR_of hp) (okR_of hq)).mono (by
    rintro e w' ⟨rfl, hb⟩
    have h1 := (Rat.lt_iff _ _).1 h
    rw [RatM.sgn_gt _ (by omega)]
    exact ⟨rfl, hb⟩)
theorem cmpR_le (p q : Rat) (w : World) (hp : Sm 1000000 p) (hq : Sm 1000000 q) (h : ¬ q < p) :
    Calls Try.prog 143 #[.agg #[.int .i64 p.num, .int .i64 p.den], .agg #[.int .i64 q.num, .int .i64 q.den]] w fun e w' => ∃ s : Int, e = .returned (.int .i64 s) ∧ ¬ (0 < s) ∧ Below w.heap.size w w' :=
  (iCmp_yes _ _ _ _ w (okR_of hp) (okR_of hq)).mono (by
    rintro e w' ⟨rfl, hb⟩
    have h1 : ¬ _ := fun h2 => h ((Rat.lt_iff _ _).2 h2)
    refine ⟨_, rfl, ?_, hb⟩
    unfold RatM.sgn
    split <;> (try split) <;> omega)

set_option maxHeartbeats 4000000 in
set_option maxRecDepth 1000000 in
theorem greatestOf_calls (w : World) (v : Value) (n : Nat) (f : Nat → Rat) (h : IR w v (prs n f)) (hn : n ≤ 1000) (hf : ∀ i, i < n → Sm 1000000 (f i)) :
    Calls Try.prog 110 #[v] w fun e w' => e = .returned (.agg #[.int .i64 (mostN f n).num, .int .i64 (mostN f n).den]) ∧ Below w.heap.size w w' := by
  obtain ⟨a, cap, rfl, hc⟩ := h
  rw [prs_length] at hc ⊢
  have HC : Hid (n = 0 ∨ ∃ b o, a = some ⟨b, o, none⟩ ∧ ∀ j, j < n → w.cell? ⟨b, o + j * 2, none⟩ = some (.int .i64 (f j).num) ∧ w.cell? ⟨b, o + j * 2 + 1, none⟩ = some (.int .i64 (f j).den)) := by
    rcases hc with h0 | ⟨b, o, e, hcell⟩
    · exact Or.inl h0
    · refine Or.inr ⟨b, o, e, fun j hj => ?_⟩
      have := hcell j hj
      rw [prs_get hj] at this
      exact this
  have HF := hid hf
  have HM : Hid (∀ k, k ≤ n → Sm 1000000 (mostN f k)) := hid fun k hk => mostN_sm (by omega) (fun i hi => hf i (by omega))
  have HS1 : Hid (∀ k, mostN f k < f k → mostN f (k + 1) = f k) := hid fun k hk => by show (if _ then _ else _) = _; rw [if_pos hk]
  have HS2 : Hid (∀ k, ¬ mostN f k < f k → mostN f (k + 1) = mostN f k) := hid fun k hk => by show (if _ then _ else _) = _; rw [if_neg hk]
  have H0 : Hid (mostN f 0 = 0) := hid rfl
  clear hc hf
  generalize mostN f = MN at *
  go_enter Try.func110, Try.ntmps110
  go_wp2
  have hbb : Below w.heap.size w ((w.alloc (.cells #[.int .i64 0, .int .i64 0] 49)).alloc (.cells #[.int .i64 0, .int .i64 1] 49)) := ((Below.refl _ _).alloc (Nat.le_refl _) _).alloc (by simp) _
  have t1 : Two ((w.alloc (.cells #[.int .i64 0, .int .i64 0] 49)).alloc (.cells #[.int .i64 0, .int .i64 1] 49)) w.heap.size 0 0 :=
    ⟨by rw [World.cell?_alloc_past _ _ _ (by simp), World.cell?_alloc_at _ _ _ _ rfl]; rfl, by rw [World.cell?_alloc_past _ _ _ (by simp), World.cell?_alloc_at _ _ _ _ rfl]; rfl, by rw [World.frozen?_alloc_past _ _ _ (by simp), World.frozen?_alloc_at _ _ _ _ rfl], by rw [World.frozen?_alloc_past _ _ _ (by simp), World.frozen?_alloc_at _ _ _ _ rfl]⟩
  have t2 : Two ((w.alloc (.cells #[.int .i64 0, .int .i64 0] 49)).alloc (.cells #[.int .i64 0, .int .i64 1] 49)) (w.heap.size + 1) 0 1 :=
    ⟨by rw [World.cell?_alloc_at _ _ _ _ (by simp)]; rfl, by rw [World.cell?_alloc_at _ _ _ _ (by simp)]; rfl, World.frozen?_alloc_at _ _ _ _ (by simp), World.frozen?_alloc_at _ _ _ _ (by simp)⟩
  have T1 := hid t1
  have T2 := hid t2
  have HBB := hid hbb
  clear t1 t2 hbb
  go_loopw [9] (fun t wr => ∃ k : Nat, k ≤ n ∧ t = .int .i64 k ∧ w.heap.size + 1 < wr.heap.size ∧ Hid (Below w.heap.size w wr ∧ Two wr w.heap.size 0 0 ∧ Two wr (w.heap.size + 1) (MN k).num (MN k).den)) (fun t _ => n - (intOf t).toNat)
  case atStart => exact ⟨0, Nat.zero_le _, rfl, by simp, hid ⟨HBB.out, T1.out, by rw [H0.out]; exact T2.out⟩⟩
  case round =>
    clear T1 T2 HBB
    obtain ⟨k, hk, rfl, hsz, hH⟩ := hrel
    by_cases hkn : k < n
    · have i1 : (k : Int) < (n : Int) := by omega
      rcases HC.out with h0 | ⟨b, o, rfl, hcell⟩
      · omega
      · obtain ⟨hnx, hT1, hT2⟩ := hH.out
        obtain ⟨d1, d2⟩ := hcell k hkn
        have c1 := (hnx.cell (p := ⟨b, o + k * 2, none⟩) (World.block_lt_of_cell? w _ d1)).trans d1
        have c2 := (hnx.cell (p := ⟨b, o + k * 2 + 1, none⟩) (World.block_lt_of_cell? w _ d2)).trans d2
        have c3 := hT2.1
        have c4 := hT2.2.1
        have HH := hid (And.intro hnx (And.intro hT1 hT2))
        have HBA : Hid (∀ ob, Below wr.heap.size wr (wr.alloc ob)) := hid fun ob => (Below.refl _ _).alloc (Nat.le_refl _) ob
        have HFK := hid (HF.out k hkn)
        have HMK := hid (HM.out k hk)
        have hs1 := HS1.out k
        have hs2 := HS2.out k
        clear hcell d1 d2 hnx hT1 hT2 hH
        have z1 : ∀ x y : Value, (wr.alloc (.cells #[x, y] 49)).cell? ⟨wr.heap.size, 0, none⟩ = some x := fun x y => by rw [World.cell?_alloc_at _ _ _ _ rfl]; rfl
        have z2 : ∀ x y : Value, (wr.alloc (.cells #[x, y] 49)).cell? ⟨wr.heap.size, 1, none⟩ = some y := fun x y => by rw [World.cell?_alloc_at _ _ _ _ rfl]; rfl
        have Z1 := hid z1
        have Z2 := hid z2
        clear z1 z2
        by_cases hlt : MN k < f k
        · have HE := hid (hs1 hlt)
          have HK : Hid (∀ w, _) := hid (fun w => cmpR_gt (f k) (MN k) w HFK.out HMK.out hlt)
          clear hs1 hs2 hlt
          generalize hx : (f k).num = x at *
          generalize hy : ((f k).den : Int) = y at *
          have HX := hid hx
          have HY := hid hy
          clear hx hy
          generalize (MN k).num = x0 at *
          generalize ((MN k).den : Int) = y0 at *
          go_wp2_with fail
          refine (HK.out _).mono ?_
          rintro e w2 ⟨rfl, hb2⟩
          have hb3 := bt (HBA.out _) hb2
          have q1 := HH.out.2.1.below (by omega) hb3
          have q2 := HH.out.2.2.below (by omega) hb3
          have q3 := bt HH.out.1 hb3
          have q4 := hb3.size
          have f1 := bclp hb2 (Z1.out _ _)
          have f2 := bclp hb2 (Z2.out _ _)
          have e1 := q2.1
          have e2 := q2.2.1
          have e3 := q2.2.2.1
          have e4 := q2.2.2.2
          have HQ := hid (And.intro q1 (And.intro q2 q3))
          clear hb2 hb3 q1 q2 q3 Z1 Z2
          go_wp2_with fail
          go_roundw
          case rel => exact ⟨k + 1, by omega, by go_num, by simp [World.setCell]; omega, hid ⟨(HQ.out.2.2.setCell (by show w.heap.size ≤ w.heap.size + 1; omega) _).setCell (by show w.heap.size ≤ w.heap.size + 1; omega) _, HQ.out.1.other (by omega) _ _, by rw [HE.out, HX.out, HY.out]; exact HQ.out.2.1.set _ _⟩⟩
          case measure => simp [intOf]; omega
        · have HE := hid (hs2 hlt)
          have HK : Hid (∀ w, _) := hid (fun w => cmpR_le (f k) (MN k) w HFK.out HMK.out hlt)
          clear hs1 hs2 hlt
          generalize (f k).num = x at *
          generalize ((f k).den : Int) = y at *
          generalize hx : (MN k).num = x0 at *
          generalize hy : ((MN k).den : Int) = y0 at *
          have HX := hid hx
          have HY := hid hy
          clear hx hy
          go_wp2_with fail
          refine (HK.out _).mono ?_
          rintro e w2 ⟨s, rfl, hs, hb2⟩
          have hb3 := bt (HBA.out _) hb2
          have q1 := HH.out.2.1.below (by omega) hb3
          have q2 := HH.out.2.2.below (by omega) hb3
          have q3 := bt HH.out.1 hb3
          have q4 := hb3.size
          have HQ := hid (And.intro q1 (And.intro q2 q3))
          clear hb2 hb3 q1 q2 q3 Z1 Z2
          go_wp2_with fail
          go_roundw
          case rel => exact ⟨k + 1, by omega, by go_num, by omega, hid ⟨HQ.out.2.2, HQ.out.1, by rw [HE.out, HX.out, HY.out]; exact HQ.out.2.1⟩⟩
          case measure => simp [intOf]; omega
    · obtain rfl : k = n := by omega
      have i1 : ¬ ((k : Int) < (k : Int)) := by omega
      obtain ⟨hnx, hT1, hT2⟩ := hH.out
      have c1 := hT1.1
      have c2 := hT1.2.1
      have c3 := hT1.2.2.1
      have c4 := hT1.2.2.2
      have e1 := hT2.1
      have e2 := hT2.2.1
      obtain ⟨x, hx⟩ : ∃ t, t = (MN k).num := ⟨_, rfl⟩
      obtain ⟨y, hy⟩ : ∃ t : Int, t = (MN k).den := ⟨_, rfl⟩
      rw [← hx] at e1
      rw [← hy] at e2
      have HX := hid hx
      have HY := hid hy
      have HQ := hid (And.intro hnx (hT1.set x y))
      clear hH hT1 hT2 hx hy hnx
      go_wp2
      have r1 := HQ.out.2.1
      have r2 := HQ.out.2.2.1
      refine bodyPost_ret (v := .agg #[.int .i64 x, .int .i64 y]) (by simp [results, Try.results110, go_sem, r1, r2]) rfl ⟨by rw [HX.out, HY.out], (HQ.out.1.setCell (Nat.le_refl _) _).setCell (Nat.le_refl _) _⟩

end Go.Proofs.Ytliggcbiiaegeac
