import Derived.Deep.CutBlock
import Derived.Deep.LoopGhost
import Derived.Deep.RegionHeld3
import Derived.Deep.RegionHeldLaw
import Derived.Test.YtnbbbbfamlmfpaaGreatJn23
import Derived.Test.YtnbbbbfamlmfpaaGreatJn29
/-
  spec.l5Next: what may follow a prefix.
-/
namespace Go.Proofs.YtnbbbbfamlmfpaaGreat
open Go.RowKit

/-- sides in memory -/
def SdAt (W : World) (b o : Nat) (s : SdM) : Prop := ∃ a0 c0 a1 c1, W.cell? ⟨b, o, none⟩ = some (.slice a0 s.vars.length c0) ∧ W.cell? ⟨b, o + 1, none⟩ = some (.slice a1 s.rows.length c1) ∧ IS W (.slice a0 s.vars.length c0) s.vars ∧ ISSc W (.slice a1 s.rows.length c1) s.rows
def ISds (W : World) (v : Value) (ss : List SdM) : Prop := ∃ a cap, v = .slice a ss.length cap ∧ (ss.length = 0 ∨ ∃ b o, a = some ⟨b, o, none⟩ ∧ ∀ j, j < ss.length → SdAt W b (o + j * 2) (ss.getD j noSd))
theorem SdAt.below {W W' : World} {b o : Nat} {s : SdM} (h : SdAt W b o s) (hb : Below W.heap.size W W') : SdAt W' b o s := by
  obtain ⟨a0, c0, a1, c1, h1, h2, h3, h4⟩ := h
  exact ⟨a0, c0, a1, c1, (hb.cell (World.block_lt_of_cell? W _ h1)).trans h1, (hb.cell (World.block_lt_of_cell? W _ h2)).trans h2, h3.below hb, h4.below hb⟩
/-- the first side that has the place -/
def fstK (o : List Int) (ss : List SdM) (n : Nat) : Nat := ss.findIdx fun s => hasO o s.vars n
theorem fstK_lt {o : List Int} {ss : List SdM} {n : Nat} (h : ∃ s ∈ ss, hasO o s.vars n = true) : fstK o ss n < ss.length := List.findIdx_lt_length_of_exists h
theorem fstK_at {o : List Int} {ss : List SdM} {n : Nat} (h : fstK o ss n < ss.length) : hasO o (ss.getD (fstK o ss n) noSd).vars n = true := by
  have := List.findIdx_getElem (w := h)
  rw [List.getD_eq_getElem?_getD, List.getElem?_eq_getElem h]
  exact this
theorem fstK_no {o : List Int} {ss : List SdM} {n j : Nat} (h : j < fstK o ss n) (hj : j < ss.length) : hasO o (ss.getD j noSd).vars n = false := by
  have := List.not_of_lt_findIdx h
  rw [List.getD_eq_getElem?_getD, List.getElem?_eq_getElem hj]
  exact this
/-- whether the first j sides but the first one that has the place allow x -/
def allT (o : List Int) (ss : List SdM) (p : List Int) (x : Int) (j : Nat) : Bool := (List.range j).all fun t => decide (t = fstK o ss p.length) || !hasO o (ss.getD t noSd).vars p.length || begB (ss.getD t noSd).rows (prt (hasO o (ss.getD t noSd).vars) p ++ [x])
theorem allT_succ (o : List Int) (ss : List SdM) (p : List Int) (x : Int) (j : Nat) : allT o ss p x (j + 1) = (allT o ss p x j && (decide (j = fstK o ss p.length) || !hasO o (ss.getD j noSd).vars p.length || begB (ss.getD j noSd).rows (prt (hasO o (ss.getD j noSd).vars) p ++ [x]))) := by
  unfold allT
  rw [List.range_succ, List.all_append]
  simp
/-- the values of the first side's run, those that the others allow -/
theorem nxt_run {o : List Int} {ss : List SdM} (hok : ∀ s ∈ ss, s.Ok) {p : List Int} (hH : Hld (ss.map (sdO o)) p) (hf : fstK o ss p.length < ss.length) (hcnt : ∀ s ∈ ss, hasO o s.vars p.length = true → (prt (hasO o s.vars) p).length < s.vars.length) :
    nxtS (ss.map (sdO o)) p = (VA (ss.getD (fstK o ss p.length) noSd).rows (prt (hasO o (ss.getD (fstK o ss p.length) noSd).vars) p) (kA (ss.getD (fstK o ss p.length) noSd).rows (prt (hasO o (ss.getD (fstK o ss p.length) noSd).vars) p)) (nA (ss.getD (fstK o ss p.length) noSd).rows (prt (hasO o (ss.getD (fstK o ss p.length) noSd).vars) p))).filter fun x => allT o ss p x ss.length := by
  have hgm : ∀ j, j < ss.length → ss.getD j noSd ∈ ss := fun j hj => by rw [List.getD_eq_getElem?_getD, List.getElem?_eq_getElem hj]; exact List.getElem_mem hj
  have hm := hgm _ hf
  have hh := fstK_at hf
  have hok2 : ∀ s ∈ ss.map (sdO o), s.Ok := fun s hs => by
    obtain ⟨t, ht, rfl⟩ := List.mem_map.1 hs
    exact sdO_ok (hok t ht)
  rw [nxtS_by hok2 (List.mem_map_of_mem hm) hH hh]
  unfold nxtBy
  have hc := hcnt _ hm hh
  have e : (sdO o (ss.getD (fstK o ss p.length) noSd)).N (prt (sdO o (ss.getD (fstK o ss p.length) noSd)).H p) = VA (ss.getD (fstK o ss p.length) noSd).rows (prt (hasO o (ss.getD (fstK o ss p.length) noSd).vars) p) (kA (ss.getD (fstK o ss p.length) noSd).rows (prt (hasO o (ss.getD (fstK o ss p.length) noSd).vars) p)) (nA (ss.getD (fstK o ss p.length) noSd).rows (prt (hasO o (ss.getD (fstK o ss p.length) noSd).vars) p)) := if_pos hc
  rw [e]
  refine List.filter_congr fun x hx => ?_
  rw [← e] at hx
  rw [Bool.eq_iff_iff, mayB_iff]
  unfold allT
  rw [List.all_eq_true]
  constructor
  · intro h t ht
    have ht2 := List.mem_range.1 ht
    by_cases e1 : t = fstK o ss p.length
    · simp [e1]
    · cases hb : hasO o (ss.getD t noSd).vars p.length
      · simp
      · have h1 := h _ (List.mem_map_of_mem (hgm t ht2)) hb
        rw [(hok2 _ (List.mem_map_of_mem (hgm t ht2))).tm.mem _ (hH _ (List.mem_map_of_mem (hgm t ht2)))] at h1
        rcases h1 with h1 | h1
        · simp at h1
        · have h2 : begB (ss.getD t noSd).rows (prt (hasO o (ss.getD t noSd).vars) p ++ [x]) = true := begB_iff.2 h1
          rw [h2, Bool.or_true]
  · intro h s hs hH2
    obtain ⟨q, hq, rfl⟩ := List.mem_map.1 hs
    obtain ⟨t, ht, rfl⟩ := List.getElem_of_mem hq
    have hg : ss.getD t noSd = ss[t] := by rw [List.getD_eq_getElem?_getD, List.getElem?_eq_getElem ht]; rfl
    rw [← hg] at hs hH2 ⊢
    by_cases e1 : t = fstK o ss p.length
    · rw [e1]; exact hx
    · have h1 := h t (List.mem_range.2 ht)
      have hH3 : hasO o (ss.getD t noSd).vars p.length = true := hH2
      rw [decide_eq_false e1, hH3] at h1
      have h2 : begB (ss.getD t noSd).rows (prt (hasO o (ss.getD t noSd).vars) p ++ [x]) = true := by simpa using h1
      exact ((hok2 _ hs).tm.mem _ (hH _ hs) x).2 (Or.inr (begB_iff.1 h2))

end Go.Proofs.YtnbbbbfamlmfpaaGreat
