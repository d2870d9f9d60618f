import Derived.BigQuiet
import Derived.Deep.QuietTactic
import Derived.Test.YtcdfoephhjacdaaGreatDoorR03
import Derived.Test.YtcdfoephhjacdaaGreatDoorR06
import Derived.Test.YtcdfoephhjacdaaGreatDoorR12
import Derived.Test.YtcdfoephhjacdaaGreatDoorR30
/-
  What the lines up to now have given: impl.reading in memory.
-/
namespace Go.Proofs.YtcdfoephhjacdaaGreatDoor
open Go.RowKit Go.Maps

/-- a relation while its rows still come -/
structure RdV where
  nm : ByteArray
  ar : Nat
  rs : List (T3 × Int)
def noRd : RdV := ⟨⟨#[]⟩, 0, []⟩

/-- the reading in memory -/
structure RdI (W : World) (B R : Nat) (st : List RdV) (vR : Value) (bP : Nat) (rb mb : Nat → Nat) (DD : Nat → DataW Unit) : Prop where
  blk : W.heap[R]? = some (.cells #[vR, .map (some bP)] 62 (0, 0))
  own : W.ownsRow B 98 1 vR st.length ((List.range st.length).map fun i => .pointer (some ⟨rb i, 0, none⟩))
  num : PlcM W bP (st.map RdV.nm)
  rel : ∀ i, i < st.length → W.heap[rb i]? = some (.cells #[.string (st.getD i noRd).nm, .int .i64 ((st.getD i noRd).ar : Int), .map (some (mb i))] 137 (0, 0))
  tps : ∀ i, i < st.length → Tps W (mb i) (st.getD i noRd).rs (DD i)
  lo : B ≤ R ∧ B ≤ bP ∧ ∀ i, i < st.length → B ≤ rb i ∧ B ≤ mb i
  ne : ∀ i, i < st.length → mb i ≠ bP ∧ ∀ j, j < st.length → j ≠ i → mb i ≠ mb j

section
variable {W W' : World} {B R bP : Nat} {st : List RdV} {vR : Value} {rb mb : Nat → Nat} {DD : Nat → DataW Unit}
theorem heap_lt {W : World} {k : Nat} {o : Obj} (h : W.heap[k]? = some o) : k < W.heap.size := (Array.getElem?_eq_some_iff.1 h).1
theorem PlcM.blk {W : World} {b : Nat} {L : List ByteArray} (h : PlcM W b L) : ∃ es c, W.heap[b]? = some (.map es c) := by
  obtain ⟨D, ⟨es, c, hb, -⟩, -⟩ := h
  exact ⟨es, c, hb⟩
theorem PlcM.keep {W W' : World} {b : Nat} {L : List ByteArray} (h : PlcM W b L) (hb : W'.heap[b]? = W.heap[b]?) : PlcM W' b L := by
  obtain ⟨D, ⟨es, c, h0, h1⟩, h2⟩ := h
  exact ⟨D, ⟨es, c, hb.trans h0, h1⟩, h2⟩
theorem Tps.blk {W : World} {b : Nat} {rs : List (T3 × Int)} {D : DataW Unit} (h : Tps W b rs D) : ∃ es c, W.heap[b]? = some (.map es c) := by
  obtain ⟨es, c, hb, -⟩ := h.own
  exact ⟨es, c, hb⟩
theorem Tps.keep {W W' : World} {b : Nat} {rs : List (T3 × Int)} {D : DataW Unit} (h : Tps W b rs D) (hb : W'.heap[b]? = W.heap[b]?) : Tps W' b rs D := by
  obtain ⟨es, c, h0, h1⟩ := h.own
  exact ⟨⟨es, c, hb.trans h0, h1⟩, h.has, h.size, h.val, h.all, h.nd⟩
theorem own_keepH {W W' : World} {B n s : Nat} {e : TypeId} {v : Value} {xs : List Value} (h : W.ownsRow B e s v n xs) (hk : ∀ g : Nat, (∃ cur : Array Value, W.heap[g]? = some (Obj.cells cur e (0, 0))) → W'.heap[g]? = W.heap[g]?) : W'.ownsRow B e s v n xs :=
  own_move h fun g hg => hk g (own_typ h hg)

/-- all blocks but one map's stand -/
theorem RdI.keep (h : RdI W B R st vR bP rb mb DD) (hk : ∀ k, k < W.heap.size → W'.heap[k]? = W.heap[k]?) : RdI W' B R st vR bP rb mb DD := by
  obtain ⟨es, c, hp⟩ := h.num.blk
  refine ⟨(hk R (heap_lt h.blk)).trans h.blk, own_keepH h.own (fun g ⟨cur, hg⟩ => hk g (heap_lt hg)), h.num.keep (hk _ (heap_lt hp)), fun i hi => (hk _ (heap_lt (h.rel i hi))).trans (h.rel i hi), fun i hi => ?_, h.lo, h.ne⟩
  obtain ⟨es, c, ht⟩ := (h.tps i hi).blk
  exact (h.tps i hi).keep (hk _ (heap_lt ht))
theorem RdI.below (h : RdI W B R st vR bP rb mb DD) (hb : Below W.heap.size W W') : RdI W' B R st vR bP rb mb DD := h.keep fun k hk => hb.block k hk

theorem getD_set_same {α : Type} {l : List α} {i : Nat} {x d : α} (h : i < l.length) : (l.set i x).getD i d = x := by
  rw [List.getD_eq_getElem?_getD, List.getElem?_set_self h]; rfl
theorem getD_set_other {α : Type} {l : List α} {i j : Nat} {x d : α} (h : j ≠ i) : (l.set i x).getD j d = l.getD j d := by
  rw [List.getD_eq_getElem?_getD, List.getElem?_set_ne (Ne.symm h), ← List.getD_eq_getElem?_getD]

/-- a relation's rows are other ones -/
theorem RdI.put (h : RdI W B R st vR bP rb mb DD) {i : Nat} (hi : i < st.length) {rs' : List (T3 × Int)} {D' : DataW Unit} (hg : W.grownBy W' (some (mb i))) (ht : Tps W' (mb i) rs' D') :
    RdI W' B R (st.set i ⟨(st.getD i noRd).nm, (st.getD i noRd).ar, rs'⟩) vR bP rb mb (fun j => if j = i then D' else DD j) := by
  obtain ⟨es0, c0, hm⟩ := (h.tps i hi).blk
  have hk : ∀ k, k < W.heap.size → k ≠ mb i → W'.heap[k]? = W.heap[k]? := fun k hk hne => hg.block k hk (fun e => hne (Option.some.inj e))
  have hcell : ∀ {k : Nat} {cur : Array Value} {t : TypeId} {fr : Nat × Nat}, W.heap[k]? = some (.cells cur t fr) → W'.heap[k]? = W.heap[k]? := fun {k cur t fr} hc => hk k (heap_lt hc) (fun e => by rw [e, hm] at hc; cases hc)
  obtain ⟨es, c, hp⟩ := h.num.blk
  have hlen : (st.set i ⟨(st.getD i noRd).nm, (st.getD i noRd).ar, rs'⟩).length = st.length := List.length_set
  have hnm : (st.set i ⟨(st.getD i noRd).nm, (st.getD i noRd).ar, rs'⟩).map RdV.nm = st.map RdV.nm := by
    refine List.ext_getElem? fun j => ?_
    rw [List.getElem?_map, List.getElem?_map]
    by_cases e : j = i
    · subst e; rw [List.getElem?_set_self hi, List.getElem?_eq_getElem hi, Option.map_some, Option.map_some, List.getD_eq_getElem?_getD, List.getElem?_eq_getElem hi]; rfl
    · rw [List.getElem?_set_ne (Ne.symm e)]
  refine ⟨(hcell h.blk).trans h.blk, ?_, ?_, fun j hj => ?_, fun j hj => ?_, by rw [hlen]; exact h.lo, by rw [hlen]; exact h.ne⟩
  · rw [hlen]; exact own_keepH h.own (fun g ⟨cur, hg⟩ => hcell hg)
  · rw [hnm]; exact h.num.keep (hk _ (heap_lt hp) (Ne.symm (h.ne i hi).1))
  · rw [hlen] at hj
    refine (hcell (h.rel j hj)).trans ?_
    rw [h.rel j hj]
    by_cases e : j = i
    · subst e; rw [getD_set_same hi]
    · rw [getD_set_other e]
  · rw [hlen] at hj
    by_cases e : j = i
    · subst e; rw [getD_set_same hi, if_pos rfl]; exact ht
    · rw [getD_set_other e, if_neg e]
      obtain ⟨es, c, hx⟩ := (h.tps j hj).blk
      exact (h.tps j hj).keep (hk _ (heap_lt hx) (fun e2 => (h.ne i hi).2 j hj e e2.symm))
end

end Go.Proofs.YtcdfoephhjacdaaGreatDoor

/-
  One row more, or its new weight.
-/
namespace Go.Proofs.YtcdfoephhjacdaaGreatDoor
open Go.RowKit Go.Maps

def numF (f : List UInt8) : Nat := numN ⟨f.toArray⟩ 1000000
def okF (f : List UInt8) : Bool := numG ⟨f.toArray⟩ 1000000
def wtF (f : List UInt8) : Int := wtN ⟨f.toArray⟩
def okW (f : List UInt8) : Bool := wtG ⟨f.toArray⟩
theorem numN_le (s : ByteArray) (most : Nat) : numN s most ≤ most := by
  unfold numN
  cases h : rdN s.data.toList most with
  | none => simp
  | some n => rw [Option.getD_some]; exact (rdN_some.1 h).2
theorem wtN_in (s : ByteArray) : -1000000 ≤ wtN s ∧ wtN s ≤ 1000000 := by
  unfold wtN
  split
  · have := numN_le (cutM s) 1000000; omega
  · have := numN_le s 1000000; omega
/-- the value at place j of a row of n fields -/
def valF (fs : List (List UInt8)) (n j : Nat) : Int := if j < n then (numF (fs.getD j []) : Int) else 0
theorem valF_in (fs : List (List UInt8)) (n j : Nat) : 0 ≤ valF fs n j ∧ valF fs n j ≤ 1000000 := by
  unfold valF
  split
  · have := numN_le ⟨(fs.getD j []).toArray⟩ 1000000; unfold numF; omega
  · omega
def tupF (fs : List (List UInt8)) (n : Nat) : T3 := ⟨(valF fs n 0, valF fs n 1, valF fs n 2), valF_in _ _ _, valF_in _ _ _, valF_in _ _ _⟩
/-- the rows with one more, or with its new weight -/
def updT (rs : List (T3 × Int)) (x : T3) (v : Int) : List (T3 × Int) := if x ∈ rs.map Prod.fst then rs.map (fun p => if p.1 = x then (x, v) else p) else rs ++ [(x, v)]
theorem updT_keys (rs : List (T3 × Int)) (x : T3) (v : Int) : (updT rs x v).map Prod.fst = if x ∈ rs.map Prod.fst then rs.map Prod.fst else rs.map Prod.fst ++ [x] := by
  unfold updT
  split
  · rw [List.map_map]
    refine List.map_congr_left fun p _ => ?_
    simp only [Function.comp]
    split
    · rename_i h; exact h.symm
    · rfl
  · rw [List.map_append]; rfl
theorem updT_len (rs : List (T3 × Int)) (x : T3) (v : Int) : (updT rs x v).length = if x ∈ rs.map Prod.fst then rs.length else rs.length + 1 := by
  unfold updT
  split
  · rw [List.length_map]
  · rw [List.length_append]; rfl
theorem updT_mem {rs : List (T3 × Int)} {x : T3} {v : Int} {p : T3 × Int} (h : p ∈ updT rs x v) : (p.1 = x ∧ p.2 = v) ∨ (p.1 ≠ x ∧ p ∈ rs) := by
  unfold updT at h
  split at h
  · rw [List.mem_map] at h
    obtain ⟨q, hq, e⟩ := h
    split at e
    · subst e; exact Or.inl ⟨rfl, rfl⟩
    · rename_i hne; subst e; exact Or.inr ⟨hne, hq⟩
  · rename_i hno
    rw [List.mem_append, List.mem_singleton] at h
    rcases h with h | rfl
    · exact Or.inr ⟨fun e => hno (List.mem_map.2 ⟨p, h, e⟩), h⟩
    · exact Or.inl ⟨rfl, rfl⟩
theorem own_tight {w : World} {P : Program} {k : TypeId} {R : Value → Option (DataW Unit × List MemPlace)} {b n : Nat} {D : DataW Unit} (h : w.ownsMap P k R b n D) : w.ownsMap P k R b (Maps.size D) D := by
  obtain ⟨es, clock, hb, F, -, rfl⟩ := h
  exact ⟨es, clock, hb, F, by simp [Maps.size, length_sorted], rfl⟩

theorem Tps.put {W W' : World} {b : Nat} {rs : List (T3 × Int)} {D : DataW Unit} (h : Tps W b rs D) (x : T3) (v : Int) {n : Nat} (ho : W'.ownsMap Tryz.prog 139 (plainElem Tryz.prog 3) b n (D.put (kl x) (.lit (.int .i64 v)))) : Tps W' b (updT rs x v) (D.put (kl x) (.lit (.int .i64 v))) := by
  have hD := h.own.isMap
  have hT := h.own.tidy Tryz.lawTu
  have hk := kl_key x
  have hs : Maps.size (D.put (kl x) (.lit (.int .i64 v))) = (updT rs x v).length := by
    rw [size_put hT, h.has x, h.size, updT_len]
    by_cases e : x ∈ rs.map Prod.fst
    · rw [decide_eq_true e, if_pos rfl, if_pos e]
    · rw [decide_eq_false e, if_neg e]; rfl
  refine ⟨by rw [← hs]; exact own_tight ho, fun y => ?_, hs, fun p hp zd => ?_, fun l hl => ?_, ?_⟩
  · rw [updT_keys]
    by_cases e : y = x
    · subst e
      rw [has_put_same hD hk]
      split
      · rename_i hm; rw [decide_eq_true hm]
      · simp
    · rw [has_put_other (fun e2 => e (kl_inj e2)), h.has y]
      split
      · rfl
      · simp [e]
  · rcases updT_mem hp with ⟨e1, e2⟩ | ⟨e1, e2⟩
    · rw [e1, e2, atKey_put_same hD hk]
    · rw [atKey_put_other (fun e3 => e1 (kl_inj e3))]
      exact h.val p e2 zd
  · by_cases e : l = kl x
    · exact ⟨x, e.symm⟩
    · rw [has_put_other e] at hl
      exact h.all l hl
  · rw [updT_keys]
    split
    · exact h.nd
    · rename_i hno
      refine List.nodup_append.2 ⟨h.nd, by simp, fun a ha c hc => ?_⟩
      rw [List.mem_singleton] at hc
      subst hc
      exact fun e => hno (e ▸ ha)

/-- texts in a slice -/
def FS (W : World) (v : Value) (fs : List (List UInt8)) : Prop := ∃ a c, v = .slice a fs.length c ∧ fs.length ≤ c ∧ (fs.length = 0 ∨ ∃ b o, a = some ⟨b, o, none⟩ ∧ ∀ j, j < fs.length → W.cell? ⟨b, o + j, none⟩ = some (.string ⟨(fs.getD j []).toArray⟩))
theorem FS.below {W W' : World} {v : Value} {fs : List (List UInt8)} (h : FS W v fs) (hb : Below W.heap.size W W') : FS W' v fs := by
  obtain ⟨a, c, e, hc, h⟩ := h
  refine ⟨a, c, e, hc, ?_⟩
  rcases h with h | ⟨b, o, rfl, h⟩
  · exact Or.inl h
  · exact Or.inr ⟨b, o, rfl, fun j hj => (hb.cell (p := ⟨b, o + j, none⟩) (World.block_lt_of_cell? W _ (h j hj))).trans (h j hj)⟩

/-- what a row's fields come to -/
def stoA (ar : Nat) (rs : List (T3 × Int)) (fs : List (List UInt8)) : Bool := decide (fs.length = ar + 1) && (List.range ar).all (fun j => okF (fs.getD j [])) && okW (fs.getD ar []) && (decide (tupF fs ar ∈ rs.map Prod.fst) || !decide (rs.length = 2000))

/-- a tuple's box with the first i values -/
def BxF (W : World) (k : Nat) (fs : List (List UInt8)) (i : Nat) : Prop := W.heap[k]? = some (.cells #[.int .i64 (valF fs i 0), .int .i64 (valF fs i 1), .int .i64 (valF fs i 2)] 139 (0, 0))
theorem BxF.free {W : World} {k : Nat} {fs : List (List UInt8)} {i : Nat} (h : BxF W k fs i) (j : Nat) : W.frozen? ⟨k, j, none⟩ = false := by unfold World.frozen?; rw [show W.heap[k]? = _ from h]; simp
theorem BxF.cell {W : World} {k : Nat} {fs : List (List UInt8)} {i : Nat} (h : BxF W k fs i) {j : Nat} (hj : j < 3) : W.cell? ⟨k, j, none⟩ = some (.int .i64 (valF fs i j)) := by
  rw [cell_of_row _ _ _ _ _ _ h]
  obtain rfl | rfl | rfl : j = 0 ∨ j = 1 ∨ j = 2 := by omega
  all_goals rfl
theorem BxF.set {W : World} {k : Nat} {fs : List (List UInt8)} {i : Nat} (h : BxF W k fs i) (hi : i < 3) : BxF (W.setCell ⟨k, i, none⟩ (.int .i64 (numF (fs.getD i []) : Int))) k fs (i + 1) := by
  unfold BxF
  rw [heap_setCell_same _ _ _ _ _ _ h]
  have e : ∀ j, j < 3 → valF fs (i + 1) j = if j = i then (numF (fs.getD i []) : Int) else valF fs i j := fun j hj => by
    unfold valF
    by_cases e : j = i
    · subst e; rw [if_pos (by omega), if_pos rfl]
    · rw [if_neg e]
      by_cases e2 : j < i
      · rw [if_pos e2, if_pos (by omega)]
      · rw [if_neg e2, if_neg (by omega)]
  rw [e 0 (by omega), e 1 (by omega), e 2 (by omega)]
  obtain rfl | rfl | rfl : i = 0 ∨ i = 1 ∨ i = 2 := by omega
  all_goals rfl

end Go.Proofs.YtcdfoephhjacdaaGreatDoor

/-
  impl: (*readRelation).store.
-/
namespace Go.Proofs.YtcdfoephhjacdaaGreatDoor
open Go.RowKit Go.Maps

theorem lookOkT {W : World} {b : Nat} {rs : List (T3 × Int)} {D : DataW Unit} (h : Tps W b rs D) (x : T3) : ∃ c : Int, ∀ d : Nat, (Instr.lookup 135 (.map (some b)) (.agg #[.int .i64 x.a, .int .i64 x.b, .int .i64 x.c]) true).run Tryz.prog (W.drewN d) = .ok (.tuple #[.int .i64 c, .bool (decide (x ∈ rs.map Prod.fst))]) (W.drewN d) := by
  have key : ∀ d : Nat, ∃ c : Int, (Instr.lookup 135 (.map (some b)) (.agg #[.int .i64 x.a, .int .i64 x.b, .int .i64 x.c]) true).run Tryz.prog (W.drewN d) = .ok (.tuple #[.int .i64 c, .bool (decide (x ∈ rs.map Prod.fst))]) (W.drewN d) ∧ D.atKey (kl x) (.lit (.int .i64 0)) = .lit (.int .i64 c) := fun d => by
    have hd : Tps (W.drewN d) b rs D := h.keep rfl
    obtain ⟨v, ps, hrun, hv⟩ := hd.own.look_ok Tryz.lawTu Tryz.underMt (Tryz.zeroI2 _) (plainElem_int Tryz.underlying3 (by decide)) (key_t x)
    obtain ⟨c, rfl, hc, -⟩ := plainElem_int_inv Tryz.underlying3 hv
    rw [h.has x] at hrun
    simp only [Prod.mk.injEq] at hc
    exact ⟨c, hrun, hc.1⟩
  obtain ⟨c, -, hc⟩ := key 0
  refine ⟨c, fun d => ?_⟩
  obtain ⟨c', h1, h2⟩ := key d
  rw [hc] at h2
  simp only [DataW.lit.injEq, Lit.int.injEq, true_and] at h2
  rw [h2]
  exact h1

set_option maxHeartbeats 8000000 in
set_option maxRecDepth 1000000 in
theorem store_calls (w : World) (r b : Nat) (ar : Nat) (rs : List (T3 × Int)) (D : DataW Unit) (vf : Value) (fs : List (List UInt8))
    (h1 : w.cell? ⟨r, 1, none⟩ = some (.int .i64 ar)) (h2 : w.cell? ⟨r, 2, none⟩ = some (.map (some b))) (hT : Tps w b rs D) (hn : rs.length ≤ 2000) (har : 1 ≤ ar ∧ ar ≤ 3)
    (hf : FS w vf fs) (hfl : ∀ j, (fs.getD j []).length ≤ 1000000) :
    Calls Tryz.prog 40 #[.pointer (some ⟨r, 0, none⟩), vf] w fun e w' => e = .returned (.bool (stoA ar rs fs)) ∧ (stoA ar rs fs = false → Below w.heap.size w w') ∧ (stoA ar rs fs = true → w.grownBy w' (some b) ∧ ∃ D', Tps w' b (updT rs (tupF fs ar) (wtF (fs.getD ar []))) D') := by
  obtain ⟨a, c, rfl, hc, hcell⟩ := hf
  obtain ⟨n, hnn⟩ : ∃ n, n = fs.length := ⟨_, rfl⟩
  by_cases hlen : n = ar + 1
  · have HN := hid (And.intro hnn hlen)
    have HC : Hid (∃ b o, a = some ⟨b, o, none⟩ ∧ ∀ j, j < ar + 1 → w.cell? ⟨b, o + j, none⟩ = some (.string ⟨(fs.getD j []).toArray⟩)) := hid (by
      rcases hcell with h | ⟨b, o, e, h⟩
      · omega
      · exact ⟨b, o, e, fun j hj => h j (by omega)⟩)
    rw [← hnn] at hc ⊢
    rw [hlen] at hc ⊢
    clear hcell hnn hlen
    obtain ⟨bf, o, rfl, hcf⟩ := HC.out
    have HCF := hid hcf
    clear HC hcf
    have HFL := hid hfl
    have HT := hid hT
    have HA : Hid (stoA ar rs fs = ((List.range ar).all (fun j => okF (fs.getD j [])) && okW (fs.getD ar []) && (decide (tupF fs ar ∈ rs.map Prod.fst) || !decide (rs.length = 2000)))) := hid (by unfold stoA; rw [decide_eq_true (by rw [← HN.out.1, HN.out.2]), Bool.true_and])
    clear hfl hT
    have KN : Hid (∀ W j, Calls Tryz.prog 63 #[.string ⟨(fs.getD j []).toArray⟩, .int .i64 1000000] W fun e w' => e = .returned (.tuple #[.int .i64 (numF (fs.getD j []) : Int), .bool (okF (fs.getD j []))]) ∧ w' = W) := hid fun W j => readNumber_calls W ⟨(fs.getD j []).toArray⟩ 1000000 (by show (fs.getD j []).toArray.size ≤ _; rw [List.size_toArray]; have := HFL.out j; omega) (by decide)
    have KW : Hid (∀ W, Calls Tryz.prog 66 #[.string ⟨(fs.getD ar []).toArray⟩] W fun e w' => e = .returned (.tuple #[.int .i64 (wtF (fs.getD ar [])), .bool (okW (fs.getD ar []))]) ∧ w' = W) := hid fun W => readWeight_calls W ⟨(fs.getD ar []).toArray⟩ (by show (fs.getD ar []).toArray.size ≤ _; rw [List.size_toArray]; have := HFL.out ar; omega)
    have q1 : ((((ar + 1 : Nat) : Int)) != (ar : Int) + 1) = false := by simp
    have j1 : (0 : Int) ≤ (ar : Int) := by omega
    have j2 : (ar : Int) ≤ (c : Int) := by omega
    have HR0 := hid (And.intro h1 h2)
    go_enter Tryz.func40, Tryz.ntmps40
    go_upto_region 4 with fail
    have HB1 : Hid (Below w.heap.size w (w.alloc (.cells #[.int .i64 0, .int .i64 0, .int .i64 0] 139))) := hid ((Below.refl _ _).alloc (Nat.le_refl _) _)
    have HX1 : Hid (BxF (w.alloc (.cells #[.int .i64 0, .int .i64 0, .int .i64 0] 139)) w.heap.size fs 0) := hid (World.alloc_heap_new _ _)
    generalize w.alloc (.cells #[.int .i64 0, .int .i64 0, .int .i64 0] 139) = W1 at HB1 HX1 ⊢
    have c1 := bclR HB1.out h1
    clear h1 h2
    go_wp2_with fail
    clear c1
    go_loopw [29] (fun t wr => ∃ i : Nat, i ≤ ar ∧ t = .int .i64 i ∧ Hid (Below w.heap.size w wr ∧ BxF wr w.heap.size fs i ∧ ∀ j, j < i → okF (fs.getD j []) = true)) (fun t _ => ar - (intOf t).toNat)
    case atStart => exact ⟨0, Nat.zero_le _, rfl, hid ⟨HB1.out, HX1.out, fun j hj => by omega⟩⟩
    case round =>
      clear HB1 HX1
      obtain ⟨i, hia, rfl, HH⟩ := hrel
      obtain ⟨hB, hX, hok⟩ := HH.out
      have HB := hid hB
      have HX := hid hX
      have HO := hid hok
      clear HH hB hX hok
      by_cases hlt : i < ar
      · have i1 : (i : Int) < (ar : Int) := by omega
        have cf := bclR HB.out (HCF.out i (by omega))
        have KNi := hid (KN.out wr i)
        cases hg : okF (fs.getD i [])
        · have HF : Hid (stoA ar rs fs = false) := hid (by
            rw [HA.out]
            have : (List.range ar).all (fun j => okF (fs.getD j [])) = false := by
              rw [List.all_eq_false]
              exact ⟨i, List.mem_range.2 hlt, by rw [hg]; simp⟩
            rw [this]; rfl)
          rw [hg] at KNi
          generalize numF (fs.getD i []) = nv at *
          generalize fs.getD i [] = fi at *
          go_wp2_with (first | (go_at_call 63; refine KNi.out.mono ?_; rintro e w2 ⟨rfl, rfl⟩) | fail)
          rw [HF.out]
          go_ret
          exact ⟨rfl, fun _ => HB.out, fun h => absurd h (by simp)⟩
        · rw [hg] at KNi
          have HX2 := hid (HX.out.set (by omega : i < 3))
          have ff := HX.out.free i
          have cx := HX.out.cell (by omega : i < 3)
          have i3 : (i : Int) < 3 := by omega
          have HO2 : Hid (∀ j, j < i + 1 → okF (fs.getD j []) = true) := hid fun j hj => by
            by_cases e : j = i
            · rw [e]; exact hg
            · exact HO.out j (by omega)
          clear hg
          generalize numF (fs.getD i []) = nv at *
          generalize fs.getD i [] = fi at *
          go_wp2_with (first | (go_at_call 63; refine KNi.out.mono ?_; rintro e w2 ⟨rfl, rfl⟩) | fail)
          go_roundw
          case rel => exact ⟨i + 1, by omega, by go_num, hid ⟨HB.out.setCell (Nat.le_refl _) _, HX2.out, HO2.out⟩⟩
          case measure => simp [intOf]; omega
      · obtain rfl : i = ar := by omega
        have i1 : ¬ ((i : Int) < (i : Int)) := by omega
        have HAll : Hid ((List.range i).all (fun j => okF (fs.getD j [])) = true) := hid (by rw [List.all_eq_true]; intro j hj; exact HO.out j (List.mem_range.1 hj))
        have cf := bclR HB.out (HCF.out i (by omega))
        have r1 := bclR HB.out HR0.out.1
        have KWi := hid (KW.out wr)
        have x0 := HX.out.cell (by decide : 0 < 3)
        have x1 := HX.out.cell (by decide : 1 < 3)
        have x2 := HX.out.cell (by decide : 2 < 3)
        have r2 := bclR HB.out HR0.out.2
        have HTr := hid (HT.out.bel HB.out)
        obtain ⟨cc, hcc⟩ : ∃ cc : Int, ∀ d : Nat, (Instr.lookup 135 (.map (some b)) (.agg #[.int .i64 (valF fs i 0), .int .i64 (valF fs i 1), .int .i64 (valF fs i 2)]) true).run Tryz.prog (wr.drewN d) = .ok (.tuple #[.int .i64 cc, .bool (decide (tupF fs i ∈ rs.map Prod.fst))]) (wr.drewN d) := lookOkT HTr.out (tupF fs i)
        have hle : ∀ (d : Nat) (ty : TypeId), (Builtin.len_ #[135] ty #[.map (some b)]).run Tryz.prog (wr.drewN d) = .ok (.int .i64 (rs.length : Int)) (wr.drewN d) := fun d ty => by
          have := (HTr.out.bel (below_drewN (Below.refl _ _) d)).own.len Tryz.underMt ty
          rw [HTr.out.size] at this
          exact this
        have hup : ∀ d : Nat, ∃ w' : World, (Instr.mapUpdate 135 (.map (some b)) (.agg #[.int .i64 (valF fs i 0), .int .i64 (valF fs i 1), .int .i64 (valF fs i 2)]) (.int .i64 (wtF (fs.getD i [])))).run Tryz.prog (wr.drewN d).drew = .ok () w' ∧ w.grownBy w' (some b) ∧ ∃ D', Tps w' b (updT rs (tupF fs i) (wtF (fs.getD i []))) D' := fun d => by
          have hTd : Tps (wr.drewN d).drew b rs D := HTr.out.keep rfl
          have hw := wtN_in ⟨(fs.getD i []).toArray⟩
          obtain ⟨w', hr, ho, hg⟩ := hTd.own.update Tryz.lawTu Tryz.underMt (by unfold maxLen; omega) (key_t (tupF fs i)) (plainElem_int Tryz.underlying3 (WalkArith.wf_i64 (by unfold wtF; omega) : (Lit.int .i64 (wtF (fs.getD i []))).wf = true))
          refine ⟨w', hr, ?_, _, hTd.put _ _ ho⟩
          have hb := HB.out
          exact ⟨hg.os.trans hb.os, hg.tape.trans hb.tape, hg.output.trans hb.output, Nat.le_trans hb.size hg.size, fun k hk hne => (hg.block k (Nat.lt_of_lt_of_le hk hb.size) hne).trans (hb.block k hk)⟩
        have HUP := hid hup
        have HLE := hid hle
        have HCC := hid hcc
        clear hcc hle hup KN HCF HO HX KW HFL HN
        generalize valF fs i 0 = y0 at *
        generalize valF fs i 1 = y1 at *
        generalize valF fs i 2 = y2 at *
        cases hgw : okW (fs.getD i [])
        · have HF : Hid (stoA i rs fs = false) := hid (by rw [HA.out, hgw, Bool.and_false, Bool.false_and])
          rw [hgw] at KWi
          clear hgw HA
          have hcc := HCC.out
          generalize decide (tupF fs i ∈ rs.map Prod.fst) = kn at *
          generalize wtF (fs.getD i []) = wv at *
          generalize fs.getD i [] = fi at *
          go_upto_region 13 with (first | (go_at_call 66; refine KWi.out.mono ?_; rintro e w2 ⟨rfl, rfl⟩) | fail)
          go_quiet (fail)
          clear hcc HCC
          go_wp2_with fail
          go_ret
          exact ⟨by rw [HF.out]; rfl, fun _ => below_drewN HB.out _, fun h => absurd (HF.out.symm.trans h) (by decide)⟩
        · rw [hgw] at KWi
          have HA2 : Hid (stoA i rs fs = (decide (tupF fs i ∈ rs.map Prod.fst) || !decide (rs.length = 2000))) := hid (by rw [HA.out, hgw, HAll.out, Bool.and_true, Bool.true_and])
          clear hgw HA
          have hcc := HCC.out
          cases hkn : decide (tupF fs i ∈ rs.map Prod.fst)
          · rw [hkn] at HA2 hcc
            by_cases hfull : rs.length = 2000
            · have HF : Hid (stoA i rs fs = false) := hid (by rw [HA2.out, decide_eq_true hfull]; rfl)
              have q2 : ((rs.length : Int) == 2000) = true := by rw [hfull]; rfl
              clear hkn HA2 HUP
              generalize wtF (fs.getD i []) = wv at *
              generalize fs.getD i [] = fi at *
              go_upto_region 13 with (first | (go_at_call 66; refine KWi.out.mono ?_; rintro e w2 ⟨rfl, rfl⟩) | fail)
              go_quiet (fail)
              have hle := fun ty => HLE.out nq ty
              have r2' := bclR (below_drewN (Below.refl _ _) nq) r2
              clear hcc HCC HLE
              have HBq := hid (below_drewN HB.out nq)
              generalize w2.drewN nq = wq at *
              go_wp2_with fail
              go_ret
              exact ⟨by rw [HF.out]; rfl, fun _ => HBq.out, fun h => absurd (HF.out.symm.trans h) (by decide)⟩
            · have HF : Hid (stoA i rs fs = true) := hid (by rw [HA2.out, decide_eq_false hfull]; rfl)
              have q2 : ((rs.length : Int) == 2000) = false := by simp; omega
              clear hkn HA2
              generalize hwv : wtF (fs.getD i []) = wv at *
              have HWV := hid hwv
              clear hwv
              generalize hfi : fs.getD i [] = fi at *
              go_upto_region 13 with (first | (go_at_call 66; refine KWi.out.mono ?_; rintro e w2 ⟨rfl, rfl⟩) | fail)
              go_quiet (fail)
              have hle := fun ty => HLE.out nq ty
              have r2' := bclR (below_drewN (Below.refl _ _) nq) r2
              have x0' := bclR (below_drewN (Below.refl _ _) nq) x0
              have x1' := bclR (below_drewN (Below.refl _ _) nq) x1
              have x2' := bclR (below_drewN (Below.refl _ _) nq) x2
              obtain ⟨w', hrun, hgr⟩ := HUP.out nq
              have HGR := hid hgr
              clear hcc HCC HLE hgr HUP r2 x0 x1 x2
              generalize w2.drewN nq = wq at *
              go_upto_region 16 with fail
              clear hle
              go_region_law (first | fail)
              all_goals
                go_wp2_with fail
                go_ret
                exact ⟨by rw [HF.out]; rfl, fun h => absurd (HF.out.symm.trans h) (by decide), fun _ => by rw [← HWV.out, ← hfi] at HGR; exact HGR.out⟩
          · rw [hkn] at HA2 hcc
            have HF : Hid (stoA i rs fs = true) := hid (by rw [HA2.out]; rfl)
            clear hkn HA2
            generalize hwv : wtF (fs.getD i []) = wv at *
            have HWV := hid hwv
            clear hwv
            generalize hfi : fs.getD i [] = fi at *
            go_upto_region 13 with (first | (go_at_call 66; refine KWi.out.mono ?_; rintro e w2 ⟨rfl, rfl⟩) | fail)
            go_quiet (fail)
            have hle := fun ty => HLE.out nq ty
            have r2' := bclR (below_drewN (Below.refl _ _) nq) r2
            have x0' := bclR (below_drewN (Below.refl _ _) nq) x0
            have x1' := bclR (below_drewN (Below.refl _ _) nq) x1
            have x2' := bclR (below_drewN (Below.refl _ _) nq) x2
            obtain ⟨w', hrun, hgr⟩ := HUP.out nq
            have HGR := hid hgr
            clear hcc HCC HLE hgr HUP r2 x0 x1 x2
            generalize w2.drewN nq = wq at *
            go_upto_region 16 with fail
            clear hle
            go_region_law (first | fail)
            all_goals
              go_wp2_with fail
              go_ret
              exact ⟨by rw [HF.out]; rfl, fun h => absurd (HF.out.symm.trans h) (by decide), fun _ => by rw [← HWV.out, ← hfi] at HGR; exact HGR.out⟩
  · have HF : Hid (stoA ar rs fs = false) := hid (by unfold stoA; rw [decide_eq_false (by rw [← hnn]; exact hlen)]; rfl)
    have q1 : ((n : Int) != (ar : Int) + 1) = true := by simp; omega
    rw [← hnn]
    clear hcell hnn hT hn hfl
    go_enter Tryz.func40, Tryz.ntmps40
    go_wp2_with fail
    go_ret
    exact ⟨by rw [HF.out]; rfl, fun _ => Below.refl _ _, fun h => absurd (HF.out.symm.trans h) (by decide)⟩

end Go.Proofs.YtcdfoephhjacdaaGreatDoor
