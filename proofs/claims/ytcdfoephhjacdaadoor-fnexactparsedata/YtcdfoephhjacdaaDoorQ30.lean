import Derived.Deep.AppendLies
import Derived.Deep.Cut
import Derived.Lib.Split
import Derived.Test.YtcdfoephhjacdaaDoorQ15
import Derived.Test.YtcdfoephhjacdaaDoorQ21
/-
  A text cut at a byte, read from the left.
-/
namespace Go.Proofs.YtcdfoephhjacdaaDoor

def spl (c : UInt8) : List UInt8 → List (List UInt8)
  | [] => [[]]
  | x :: r => if x = c then [] :: spl c r else (x :: (spl c r).headD []) :: (spl c r).tail
theorem spl_none {c : UInt8} : ∀ {a : List UInt8}, (∀ x ∈ a, x ≠ c) → spl c a = [a]
  | [], _ => rfl
  | x :: r, h => by
    rw [spl, if_neg (h x (List.mem_cons_self ..)), spl_none fun y hy => h y (List.mem_cons_of_mem _ hy)]
    rfl
theorem spl_cut {c : UInt8} (r : List UInt8) : ∀ {a : List UInt8}, (∀ x ∈ a, x ≠ c) → spl c (a ++ c :: r) = a :: spl c r
  | [], _ => by rw [List.nil_append, spl, if_pos rfl]
  | x :: a, h => by
    rw [List.cons_append, spl, if_neg (h x (List.mem_cons_self ..)), spl_cut r fun y hy => h y (List.mem_cons_of_mem _ hy)]
    rfl

/-- the pieces ahead of place i, and where the last one begins -/
def sP (c : UInt8) (l : List UInt8) : Nat → List (List UInt8) × Nat
  | 0 => ([], 0)
  | i + 1 => if l.getD i 0 = c then ((sP c l i).1 ++ [(l.take i).drop (sP c l i).2], i + 1) else sP c l i

theorem sP_inv (c : UInt8) (l : List UInt8) : ∀ i, i ≤ l.length → (sP c l i).2 ≤ i ∧ (∀ x ∈ (l.take i).drop (sP c l i).2, x ≠ c) ∧ spl c l = (sP c l i).1 ++ spl c (l.drop (sP c l i).2)
  | 0, _ => ⟨Nat.le_refl _, fun x hx => by simp [sP] at hx, rfl⟩
  | i + 1, hi => by
    obtain ⟨h1, h2, h3⟩ := sP_inv c l i (by omega)
    have hlt : i < l.length := by omega
    have hg : l.getD i 0 = l[i] := by rw [List.getD_eq_getElem?_getD, List.getElem?_eq_getElem hlt]; rfl
    have ht : l.take (i + 1) = l.take i ++ [l[i]] := by rw [List.take_add_one, List.getElem?_eq_getElem hlt]; rfl
    rw [sP]
    by_cases e : l.getD i 0 = c
    · rw [if_pos e]
      refine ⟨Nat.le_refl _, fun x hx => ?_, ?_⟩
      · dsimp only at hx
        rw [List.drop_eq_nil_of_le (by rw [List.length_take]; omega)] at hx
        cases hx
      · dsimp only
        have hs : l.drop (sP c l i).2 = (l.take i).drop (sP c l i).2 ++ c :: l.drop (i + 1) := by
          have : l = l.take i ++ (c :: l.drop (i + 1)) := by
            rw [← e, hg, List.getElem_cons_drop, List.take_append_drop]
          have hf : ∀ f, f ≤ i → l.drop f = (l.take i).drop f ++ c :: l.drop (i + 1) := fun f hf => by
            have h9 := congrArg (List.drop f) this
            rwa [List.drop_append_of_le_length (by rw [List.length_take]; omega)] at h9
          exact hf _ h1
        rw [h3, hs, spl_cut _ h2, List.append_assoc]
        rfl
    · rw [if_neg e]
      refine ⟨by omega, fun x hx => ?_, h3⟩
      rw [ht, List.drop_append_of_le_length (by rw [List.length_take]; omega)] at hx
      rcases List.mem_append.1 hx with hx | hx
      · exact h2 x hx
      · rw [List.mem_singleton.1 hx, ← hg]; exact e
theorem sP_spl (c : UInt8) (l : List UInt8) : spl c l = (sP c l l.length).1 ++ [l.drop (sP c l l.length).2] := by
  obtain ⟨h1, h2, h3⟩ := sP_inv c l l.length (Nat.le_refl _)
  rw [List.take_length] at h2
  rw [h3, spl_none h2]

end Go.Proofs.YtcdfoephhjacdaaDoor

/-
  spec.l2Split.
-/
namespace Go.Proofs.YtcdfoephhjacdaaDoor
open Go.RowKit

theorem Tryd.infoSp : (Tryd.prog.info? 9).map (fun i => (i.zero, i.size, i.bytes)) = some (some (.string ⟨#[]⟩), 1, 16) := by kernel_rfl
theorem new1_cellS (w : World) (v : Value) (t : TypeId) : ∀ j u, [v][j]? = some u → (w.alloc (.cells #[v] t)).cell? ((⟨w.heap.size, 0, none⟩ : Addr).add j) = some u := by
  intro j u hj
  match j, hj with
  | 0, hj => simp at hj; subst hj; simp [Addr.add]
def tx (l : List UInt8) : Value := .string ⟨l.toArray⟩
theorem sP_len (c : UInt8) (l : List UInt8) : ∀ i, (sP c l i).1.length ≤ i
  | 0 => Nat.le_refl _
  | i + 1 => by
    have := sP_len c l i
    rw [sP]
    by_cases e : l.getD i 0 = c
    · rw [if_pos e, List.length_append, List.length_singleton]; omega
    · rw [if_neg e]; omega
theorem ext_mid (s : ByteArray) (f i : Nat) : s.extract f i = ⟨((s.data.toList.take i).drop f).toArray⟩ := by
  obtain ⟨⟨l⟩⟩ := s
  apply ByteArray.ext
  simp [List.drop_take]

set_option maxHeartbeats 2000000 in
set_option maxRecDepth 1000000 in
theorem l2Split_calls (w : World) (s : ByteArray) (c : UInt8) (hs : s.size ≤ 100000000) :
    Calls Tryd.prog 15 #[.string s, .int .u8 (c.toNat : Int)] w fun e w' => ∃ v, e = .returned v ∧ w'.ownsRow w.heap.size 9 1 v (spl c s.data.toList).length ((spl c s.data.toList).map tx) ∧ Below w.heap.size w w' := by
  obtain ⟨iT, hi, hz0, hz1, hz2⟩ := info_parts Tryd.infoSp
  have hlen : s.data.toList.length = s.size := by simp
  have HP : Hid (∀ i, i < s.size → s.data.toList.getD i 0 = c → sP c s.data.toList (i + 1) = ((sP c s.data.toList i).1 ++ [(s.data.toList.take i).drop (sP c s.data.toList i).2], i + 1)) := hid fun i hi h => by rw [sP, if_pos h]
  have HQ : Hid (∀ i, i < s.size → s.data.toList.getD i 0 ≠ c → sP c s.data.toList (i + 1) = sP c s.data.toList i) := hid fun i hi h => by rw [sP, if_neg h]
  have HL : Hid (∀ i, i ≤ s.size → (sP c s.data.toList i).2 ≤ i ∧ (sP c s.data.toList i).1.length ≤ i) := hid fun i hi => ⟨(sP_inv c s.data.toList i (by omega)).1, sP_len c _ i⟩
  have HE : Hid (spl c s.data.toList = (sP c s.data.toList s.size).1 ++ [(s.data.toList.take s.size).drop (sP c s.data.toList s.size).2]) := hid (by rw [← hlen, List.take_length]; exact sP_spl c _)
  have HAT : Hid (∀ i (h : i < s.size), (((s[i]'h).toNat : Int) == (c.toNat : Int)) = decide (s.data.toList.getD i 0 = c)) := hid fun i h => by
    have h1 : ((s[i]'h).toNat : Int) = ((s.data.toList.getD i 0).toNat : Int) := by rw [← byteAt_eq s i h]; rfl
    rw [h1]
    by_cases e : s.data.toList.getD i 0 = c
    · rw [e]; simp
    · rw [decide_eq_false e]
      simp only [beq_eq_false_iff_ne, ne_eq]
      intro h2
      exact e (UInt8.toNat_inj.1 (by omega))
  have HX : Hid (∀ f i, (Value.string (s.extract f i)) = tx ((s.data.toList.take i).drop f)) := hid fun f i => by rw [ext_mid]; rfl
  clear hlen
  obtain ⟨n, hn⟩ : ∃ n, n = s.size := ⟨_, rfl⟩
  rw [← hn] at HP HQ HL HE
  go_enter Tryd.func15, Tryd.ntmps15
  go_wp2_with fail
  go_loopw [5, 6, 7] (fun v u t wr => ∃ (i f : Nat) (vs : Value), i ≤ n ∧ f ≤ i ∧ t = .int .i64 i ∧ u = .int .i64 f ∧ vs = v ∧ Hid (Below w.heap.size w wr ∧ f = (sP c s.data.toList i).2 ∧ wr.ownsRow w.heap.size 9 1 vs (sP c s.data.toList i).1.length ((sP c s.data.toList i).1.map tx))) (fun _ _ t _ => n - (intOf t).toNat)
  case atStart => exact ⟨0, 0, _, Nat.zero_le _, Nat.le_refl _, rfl, rfl, rfl, hid ⟨(Below.refl _ _).alloc (Nat.le_refl _) _, rfl, World.ownsRow_made w #[] 0 (Nat.le_refl _) (by decide) rfl⟩⟩
  case round =>
    obtain ⟨i, f, vs, hin, hfi, rfl, rfl, rfl, HH⟩ := hrel
    by_cases hlt : i < n
    · have j1 : (i : Int) < (s.size : Int) := by omega
      have his : i < s.size := by omega
      have hAT := HAT.out i his
      have hL := (HL.out i (by omega)).2
      have hsz := HH.out.1.size
      by_cases e : s.data.toList.getD i 0 = c
      · rw [decide_eq_true e] at hAT
        have HS := hid (HP.out i hlt e)
        have HXi := hid (HX.out f i)
        have i5 : (f : Int) ≤ (i : Int) := by omega
        have i6 : (i : Int) ≤ (s.size : Int) := by omega
        clear e HP HQ HL HE HAT HX
        generalize wr = Wt at *
        go_wp2_with (first | (at_builtin; refine wpList_append_lies _ rfl _ _ 30 rfl w.heap.size 9 iT (.string ⟨#[]⟩) 1 16 Tryd.underlying30 hi hz0 hz1 hz2 rfl (by decide) vs _ _ rfl (HH.out.2.2.alloc _) ⟨_, 0, none⟩ 1 1 [.string (s.extract f i)] rfl rfl (new1_cellS _ _ _) (fun u hu => by simp at hu; subst hu; rfl) (by decide) (by unfold maxLen; omega) (by omega) (by simp; omega) _ rfl ?_; intro g8 cp8 w8 hown8 hgrow8 hat8 hlt8) | fail)
        have HN2 : Hid (Below w.heap.size w w8 ∧ i + 1 = (sP c s.data.toList (i + 1)).2 ∧ w8.ownsRow w.heap.size 9 1 (.slice (some ⟨g8, 0, none⟩) ((sP c s.data.toList i).1.length + 1) cp8) (sP c s.data.toList (i + 1)).1.length ((sP c s.data.toList (i + 1)).1.map tx)) := hid ⟨(HH.out.1.alloc hsz _).grown hgrow8 (by simp; omega) (fun j hj => (HH.out.2.2.lt j hj).1), by rw [HS.out], by rw [HS.out, List.map_append, List.length_append, List.map_singleton, ← HH.out.2.1, ← HXi.out]; exact hown8⟩
        clear hown8 hgrow8 hat8 hlt8
        go_wp2_with fail
        go_roundw
        case rel => exact ⟨i + 1, i + 1, _, by omega, Nat.le_refl _, by go_num, by go_num, rfl, HN2⟩
        case measure => simp [intOf]; omega
      · rw [decide_eq_false e] at hAT
        have HS := hid (HQ.out i hlt e)
        clear e HP HQ HL HE HAT HX
        go_wp2_with fail
        go_roundw
        case rel => exact ⟨i + 1, f, vs, by omega, by omega, by go_num, rfl, rfl, hid (by rw [HS.out]; exact HH.out)⟩
        case measure => simp [intOf]; omega
    · obtain rfl : i = n := by omega
      subst hn
      have j1 : ¬ ((s.size : Int) < (s.size : Int)) := by omega
      have hL := (HL.out s.size (by omega)).2
      have hsz := HH.out.1.size
      have HXi := hid (HX.out f s.size)
      have i5 : (f : Int) ≤ (s.size : Int) := by omega
      clear HP HQ HL HAT HX
      generalize wr = Wt at *
      go_wp2_with (first | (at_builtin; refine wpList_append_lies _ rfl _ _ 30 rfl w.heap.size 9 iT (.string ⟨#[]⟩) 1 16 Tryd.underlying30 hi hz0 hz1 hz2 rfl (by decide) vs _ _ rfl (HH.out.2.2.alloc _) ⟨_, 0, none⟩ 1 1 [.string (s.extract f s.size)] rfl rfl (new1_cellS _ _ _) (fun u hu => by simp at hu; subst hu; rfl) (by decide) (by unfold maxLen; omega) (by omega) (by simp; omega) _ rfl ?_; intro g8 cp8 w8 hown8 hgrow8 hat8 hlt8) | fail)
      have HN2 : Hid (Below w.heap.size w w8 ∧ w8.ownsRow w.heap.size 9 1 (.slice (some ⟨g8, 0, none⟩) ((sP c s.data.toList s.size).1.length + 1) cp8) (spl c s.data.toList).length ((spl c s.data.toList).map tx)) := hid ⟨(HH.out.1.alloc hsz _).grown hgrow8 (by simp; omega) (fun j hj => (HH.out.2.2.lt j hj).1), by rw [HE.out, List.map_append, List.length_append, List.map_singleton, ← HH.out.2.1, ← HXi.out]; exact hown8⟩
      clear hown8 hgrow8 hat8 hlt8
      go_wp2_with fail
      go_ret
      exact ⟨.slice (some ⟨g8, 0, none⟩) ((sP c s.data.toList s.size).1.length + 1) cp8, rfl, HN2.out.2, HN2.out.1⟩

end Go.Proofs.YtcdfoephhjacdaaDoor
