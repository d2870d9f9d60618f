import Derived.Deep.Cut
import Derived.Test.YtcdfoephhjacdaaGreatDoorR03
import Derived.Test.YtcdfoephhjacdaaGreatDoorR06
import Derived.Test.YtcdfoephhjacdaaGreatDoorR07
import Derived.Test.YtcdfoephhjacdaaGreatDoorR10
import Derived.Test.YtcdfoephhjacdaaGreatDoorR12
/-
  The place of a relation of a name: spec.l2Rel.
-/
namespace Go.Proofs.YtcdfoephhjacdaaGreatDoor
open Go.RowKit

/-- z: the first place of a relation of the name s, or -1 -/
def RelIx (ds : List RelV) (s : ByteArray) (z : Int) : Prop :=
  (z = -1 ∧ ∀ i, i < ds.length → ((ds.getD i noRel).name.toList == s.toList) = false) ∨
  ∃ j : Nat, z = j ∧ j < ds.length ∧ ((ds.getD j noRel).name.toList == s.toList) = true ∧ ∀ i, i < j → ((ds.getD i noRel).name.toList == s.toList) = false

theorem RelIx.one {ds : List RelV} {s : ByteArray} {y z : Int} (h : RelIx ds s y) (k : RelIx ds s z) : y = z := by
  rcases h with ⟨e, h⟩ | ⟨j, e, hj, h1, h2⟩ <;> rcases k with ⟨e', k⟩ | ⟨j', e', hj', k1, k2⟩
  · rw [e, e']
  · rw [h j' hj'] at k1; cases k1
  · rw [k j hj] at h1; cases h1
  · rcases Nat.lt_trichotomy j j' with hl | hl | hl
    · rw [k2 j hl] at h1; cases h1
    · rw [e, e', hl]
    · rw [h2 j' hl] at k1; cases k1

set_option maxHeartbeats 4000000 in
set_option maxRecDepth 1000000 in
theorem l2Rel_calls (w : World) (v : Value) (ds : List RelV) (s : ByteArray) (h : IRelS w v ds) (hl : ds.length ≤ 1099511627776) :
    Calls Tryz.prog 16 #[.agg #[v], .string s] w fun e w' => ∃ z : Int, e = .returned (.int .i64 z) ∧ RelIx ds s z ∧ Below w.heap.size w w' := by
  have HB0 : Hid (Below w.heap.size w (w.alloc (.cells #[v] 25))) := hid ((Below.refl _ _).alloc (Nat.le_refl _) _)
  have HD0 : Hid ((w.alloc (.cells #[v] 25)).cell? ⟨w.heap.size, 0, none⟩ = some v) := hid (by simp [go_sem])
  have HI := hid (h.below HB0.out)
  obtain ⟨a, cap, rfl, -⟩ := h
  obtain ⟨a', cap', ee, hc⟩ := HI.out
  simp only [Value.slice.injEq] at ee
  obtain ⟨rfl, -, rfl⟩ := ee
  have HC := hid hc
  have HIX : Hid (∀ z, RelIx ds s z → RelIx ds s z) := hid (fun z h => h)
  obtain ⟨n, hn⟩ : ∃ n, n = ds.length := ⟨_, rfl⟩
  have HN := hid hn
  rw [← hn] at HC HB0 HD0 hl ⊢
  clear hc hn HI HIX
  go_enter Tryz.func16, Tryz.ntmps16
  go_upto_region 1 with fail
  generalize w.alloc (.cells #[.slice a n cap] 25) = W0 at *
  have c0 := HD0.out
  go_wp2_with fail
  clear c0 HD0
  go_loopw [10] (fun t wr => ∃ j : Nat, j ≤ n ∧ t = .int .i64 j ∧ Hid (Below W0.heap.size W0 wr ∧ ∀ i, i < j → ((ds.getD i noRel).name.toList == s.toList) = false)) (fun t _ => n - (intOf t).toNat)
  case atStart => exact ⟨0, Nat.zero_le _, rfl, hid ⟨Below.refl _ _, fun i hi => by omega⟩⟩
  case round =>
    obtain ⟨j, hj, rfl, HH⟩ := hrel
    by_cases hjn : j < n
    · have i1 : (j : Int) < (n : Int) := by omega
      rcases HC.out with h0 | ⟨b, o, rfl, hcell⟩
      · omega
      · obtain ⟨vr, vw, d0, d1, d2, d3, hir⟩ := hcell j hjn
        obtain ⟨ra, rc, er, -⟩ := hir.rows
        obtain ⟨wa, wc, ew, -⟩ := hir.ws
        subst er ew
        clear hir
        have e0 := bcl' HH.out.1 d0
        have e1 := bcl' HH.out.1 d1
        have e2 := bcl' HH.out.1 d2
        have e3 := bcl' HH.out.1 d3
        have HX : Hid (((ds.getD j noRel).name.toList == s.toList) = true → RelIx ds s j) := hid (fun h => Or.inr ⟨j, rfl, by rw [← HN.out]; exact hjn, h, HH.out.2⟩)
        have HY : Hid (((ds.getD j noRel).name.toList == s.toList) = false → ∀ i, i < j + 1 → ((ds.getD i noRel).name.toList == s.toList) = false) := hid (fun h i hi => by
          by_cases e : i = j
          · rw [e]; exact h
          · exact HH.out.2 i (by omega))
        have HW := hid HH.out.1
        clear hcell HH d0 d1 d2 d3
        generalize (ds.getD j noRel).rows.length = rn at *
        generalize (ds.getD j noRel).ws.length = wn at *
        generalize (ds.getD j noRel).ar = ar at *
        generalize (ds.getD j noRel).name = x at *
        cases hb : (x.toList == s.toList)
        · have HZ := hid (HY.out hb)
          clear HX HY
          go_wp2
          go_roundw
          case rel => exact ⟨j + 1, by omega, by go_num, hid ⟨HW.out.alloc HW.out.size _, HZ.out⟩⟩
          case measure => simp [intOf]; omega
        · have HZ := hid (HX.out hb)
          clear HX HY
          go_wp2
          go_ret
          exact ⟨_, rfl, HZ.out, bt HB0.out (HW.out.alloc HW.out.size _)⟩
    · obtain rfl : j = n := by omega
      have i1 : ¬ ((j : Int) < (j : Int)) := by omega
      have HZ : Hid (RelIx ds s (-1)) := hid (Or.inl ⟨rfl, fun i hi => HH.out.2 i (by rw [HN.out]; exact hi)⟩)
      go_wp2
      go_ret
      exact ⟨_, rfl, HZ.out, bt HB0.out HH.out.1⟩

end Go.Proofs.YtcdfoephhjacdaaGreatDoor

/-
  The data of the model in memory while its lines come.
-/
namespace Go.Proofs.YtcdfoephhjacdaaGreatDoor
open Go.RowKit

/-- the cells of a relation -/
def relS (d : RelV) (vr vw : Value) : List Value := [.string d.name, .int .i64 d.ar, vr, vw]

/-- rows made by the call, listed -/
structure RWs (W : World) (B : Nat) (v : Value) (us : List Value) (ls : List (List Int)) : Prop where
  own : W.ownsRow B 43 1 v ls.length us
  len : us.length = ls.length
  each : ∀ i, i < ls.length → W.ownsRow B 3 1 (us.getD i undef) (ls.getD i []).length ((ls.getD i []).map (Value.int .i64))

/-- the relations in memory -/
structure SQ (W : World) (B : Nat) (v : Value) (ds : List RelV) (vr vw : Nat → Value) (us : Nat → List Value) : Prop where
  own : W.ownsRow B 45 4 v ds.length ((List.range ds.length).flatMap fun i => relS (ds.getD i noRel) (vr i) (vw i))
  rw : ∀ i, i < ds.length → RWs W B (vr i) (us i) (ds.getD i noRel).rows
  ow : ∀ i, i < ds.length → W.ownsRow B 3 1 (vw i) (ds.getD i noRel).ws.length ((ds.getD i noRel).ws.map (Value.int .i64))
  eq : ∀ i, i < ds.length → (ds.getD i noRel).ws.length = (ds.getD i noRel).rows.length
  nil : ∀ i, i < ds.length → (ds.getD i noRel).rows = [] → vr i = .slice none 0 0 ∧ vw i = .slice none 0 0

section
variable {W W' : World} {B : Nat} {v : Value} {ds : List RelV} {vr vw : Nat → Value} {us : Nat → List Value}
theorem RWs.keep {vv : Value} {uu : List Value} {ls : List (List Int)} (h : RWs W B vv uu ls) (hk : ∀ (g : Nat) (cur : Array Value) (t : TypeId), (t = 3 ∨ t = 43) → W.heap[g]? = some (.cells cur t (0, 0)) → W'.heap[g]? = W.heap[g]?) : RWs W' B vv uu ls :=
  ⟨own_move h.own fun g hg => by obtain ⟨cur, hc⟩ := own_typ h.own hg; exact hk g cur _ (Or.inr rfl) hc, h.len, fun i hi => own_move (h.each i hi) fun g hg => by obtain ⟨cur, hc⟩ := own_typ (h.each i hi) hg; exact hk g cur _ (Or.inl rfl) hc⟩
theorem RWs.below {vv : Value} {uu : List Value} {ls : List (List Int)} (h : RWs W B vv uu ls) (hb : Below W.heap.size W W') : RWs W' B vv uu ls := ⟨own_below h.own hb, h.len, fun i hi => own_below (h.each i hi) hb⟩
theorem RWs.iss {vv : Value} {uu : List Value} {ls : List (List Int)} (h : RWs W B vv uu ls) : ISS W vv ls := by
  rcases h.own.2 with ⟨rfl, hn⟩ | ⟨g, cap, cur, rfl, -, hg, h1, h2, h3, h4⟩
  · exact ⟨none, 0, by rw [hn], Or.inl hn⟩
  · refine ⟨_, cap, rfl, Or.inr ⟨g, 0, rfl, fun j hj => ⟨uu.getD j undef, ?_, own_is (h.each j hj)⟩⟩⟩
    rw [Nat.zero_add, h.own.cellAt j (by omega), List.getD_eq_getElem?_getD, List.getElem?_eq_getElem (by have := h.len; omega)]
    rfl
theorem SQ.below (h : SQ W B v ds vr vw us) (hb : Below W.heap.size W W') : SQ W' B v ds vr vw us :=
  ⟨own_below h.own hb, fun i hi => (h.rw i hi).below hb, fun i hi => own_below (h.ow i hi) hb, h.eq, h.nil⟩
theorem flat4_len (f : Nat → List Value) (hf : ∀ i, (f i).length = 4) : ∀ n, ((List.range n).flatMap f).length = n * 4
  | 0 => rfl
  | n + 1 => by rw [List.range_succ, List.flatMap_append, List.length_append, flat4_len f hf n, List.flatMap_singleton, hf]; omega
theorem flat4 (f : Nat → List Value) (hf : ∀ i, (f i).length = 4) : ∀ n i j, i < n → j < 4 → ((List.range n).flatMap f)[i * 4 + j]? = (f i)[j]?
  | 0, i, j, hi, hj => absurd hi (Nat.not_lt_zero _)
  | n + 1, i, j, hi, hj => by
    rw [List.range_succ, List.flatMap_append, List.flatMap_singleton]
    by_cases e : i < n
    · rw [List.getElem?_append_left (by rw [flat4_len f hf]; omega)]
      exact flat4 f hf n i j e hj
    · obtain rfl : i = n := by omega
      rw [List.getElem?_append_right (by rw [flat4_len f hf]; omega), flat4_len f hf, show i * 4 + j - i * 4 = j by omega]
theorem flat4_eq (f : Nat → List Value) (hf : ∀ i, (f i).length = 4) {n : Nat} {xs : List Value} (hl : xs.length = n * 4) (h : ∀ i j, i < n → j < 4 → xs[i * 4 + j]? = (f i)[j]?) : xs = (List.range n).flatMap f := by
  refine List.ext_getElem? fun t => ?_
  by_cases ht : t < n * 4
  · have e : t = t / 4 * 4 + t % 4 := by omega
    rw [e, h (t / 4) (t % 4) (by omega) (by omega), flat4 f hf n (t / 4) (t % 4) (by omega) (by omega)]
  · rw [List.getElem?_eq_none (by omega), List.getElem?_eq_none (by rw [flat4_len f hf]; omega)]

theorem SQ.cells {g cap : Nat} (h : SQ W B (.slice (some ⟨g, 0, none⟩) ds.length cap) ds vr vw us) {i : Nat} (hi : i < ds.length) :
    W.cell? ⟨g, i * 4, none⟩ = some (.string (ds.getD i noRel).name) ∧ W.cell? ⟨g, i * 4 + 1, none⟩ = some (.int .i64 (ds.getD i noRel).ar) ∧ W.cell? ⟨g, i * 4 + 2, none⟩ = some (vr i) ∧ W.cell? ⟨g, i * 4 + 3, none⟩ = some (vw i) := by
  have hc : ∀ j, j < 4 → W.cell? ⟨g, i * 4 + j, none⟩ = (relS (ds.getD i noRel) (vr i) (vw i))[j]? := fun j hj => by
    rw [h.own.cellAt _ (by omega), flat4 _ (fun _ => rfl) _ i j hi hj]
  exact ⟨hc 0 (by decide), hc 1 (by decide), hc 2 (by decide), hc 3 (by decide)⟩
theorem SQ.irels (h : SQ W B v ds vr vw us) : IRelS W v ds := by
  rcases h.own.2 with ⟨rfl, hn⟩ | ⟨g, cap, cur, rfl, hx⟩
  · exact ⟨none, 0, by rw [hn], Or.inl hn⟩
  · refine ⟨_, cap, rfl, Or.inr ⟨g, 0, rfl, fun j hj => ?_⟩⟩
    obtain ⟨c0, c1, c2, c3⟩ := h.cells hj
    rw [Nat.zero_add]
    exact ⟨_, _, c0, c1, c2, c3, (h.rw j hj).iss, own_is (h.ow j hj)⟩
/-- a relation's rows and weights are other ones -/
theorem SQ.put {g cap i : Nat} {v1 v2 : Value} {uu : List Value} {ls : List (List Int)} {ws : List Int} (h : SQ W B (.slice (some ⟨g, 0, none⟩) ds.length cap) ds vr vw us) (hi : i < ds.length) (hr : RWs W B v1 uu ls) (hw : W.ownsRow B 3 1 v2 ws.length (ws.map (Value.int .i64))) (hl : ws.length = ls.length) (hne : ls ≠ []) :
    SQ ((W.setCell ⟨g, i * 4 + 2, none⟩ v1).setCell ⟨g, i * 4 + 3, none⟩ v2) B (.slice (some ⟨g, 0, none⟩) ds.length cap) (ds.set i ⟨(ds.getD i noRel).name, (ds.getD i noRel).ar, ls, ws⟩) (fun j => if j = i then v1 else vr j) (fun j => if j = i then v2 else vw j) (fun j => if j = i then uu else us j) := by
  obtain ⟨ho1, -⟩ := h.own.stored (i * 4 + 2) v1
  obtain ⟨ho2, -⟩ := ho1.stored (i * 4 + 3) v2
  have hlen : (ds.set i ⟨(ds.getD i noRel).name, (ds.getD i noRel).ar, ls, ws⟩).length = ds.length := List.length_set
  have hgs : (ds.set i ⟨(ds.getD i noRel).name, (ds.getD i noRel).ar, ls, ws⟩).getD i noRel = ⟨(ds.getD i noRel).name, (ds.getD i noRel).ar, ls, ws⟩ := by rw [List.getD_eq_getElem?_getD, List.getElem?_set_self hi]; rfl
  have hgo : ∀ j, j ≠ i → (ds.set i ⟨(ds.getD i noRel).name, (ds.getD i noRel).ar, ls, ws⟩).getD j noRel = ds.getD j noRel := fun j hj => by rw [List.getD_eq_getElem?_getD, List.getElem?_set_ne (Ne.symm hj), ← List.getD_eq_getElem?_getD]
  have hty : ∃ cur, W.heap[g]? = some (.cells cur 45 (0, 0)) := own_typ h.own rfl
  have hk : ∀ {n s : Nat} {e : TypeId} {u : Value} {xs : List Value}, W.ownsRow B e s u n xs → e ≠ 45 → ((W.setCell ⟨g, i * 4 + 2, none⟩ v1).setCell ⟨g, i * 4 + 3, none⟩ v2).ownsRow B e s u n xs := fun ho he => own_keepR (own_keepR ho hty he) (typ_set hty) he
  have hR : ∀ {vv : Value} {u2 : List Value} {l2 : List (List Int)}, RWs W B vv u2 l2 → RWs ((W.setCell ⟨g, i * 4 + 2, none⟩ v1).setCell ⟨g, i * 4 + 3, none⟩ v2) B vv u2 l2 := fun hx => ⟨hk hx.own (by decide), hx.len, fun j hj => hk (hx.each j hj) (by decide)⟩
  refine ⟨?_, fun j hj => ?_, fun j hj => ?_, fun j hj => ?_, fun j hj he => ?_⟩
  · rw [hlen]
    refine (flat4_eq (n := ds.length) (fun j => relS ((ds.set i ⟨(ds.getD i noRel).name, (ds.getD i noRel).ar, ls, ws⟩).getD j noRel) (if j = i then v1 else vr j) (if j = i then v2 else vw j)) (fun _ => rfl) (xs := (((List.range ds.length).flatMap fun i => relS (ds.getD i noRel) (vr i) (vw i)).set (i * 4 + 2) v1).set (i * 4 + 3) v2) (by rw [List.length_set, List.length_set]; exact flat4_len _ (fun _ => rfl) _) (fun a b ha hb => ?_)) ▸ ho2
    have hl4 := flat4_len (fun i => relS (ds.getD i noRel) (vr i) (vw i)) (fun _ => rfl) ds.length
    rw [List.getElem?_set, List.getElem?_set]
    by_cases e : a = i
    · subst e
      rw [hgs, if_pos rfl, if_pos rfl]
      obtain rfl | rfl | rfl | rfl : b = 0 ∨ b = 1 ∨ b = 2 ∨ b = 3 := by omega
      · rw [if_neg (by omega), if_neg (by omega), flat4 _ (fun _ => rfl) _ a 0 ha (by decide)]; rfl
      · rw [if_neg (by omega), if_neg (by omega), flat4 _ (fun _ => rfl) _ a 1 ha (by decide)]; rfl
      · rw [if_neg (by omega), if_pos rfl, if_pos (by omega)]; rfl
      · rw [if_pos rfl, if_pos (by rw [List.length_set]; omega)]; rfl
    · rw [hgo a e, if_neg e, if_neg e, if_neg (by omega), if_neg (by omega), flat4 _ (fun _ => rfl) _ a b ha hb]
  · rw [hlen] at hj
    by_cases e : j = i
    · subst e; rw [hgs, if_pos rfl, if_pos rfl]; exact hR hr
    · rw [hgo j e, if_neg e, if_neg e]; exact hR (h.rw j hj)
  · rw [hlen] at hj
    by_cases e : j = i
    · subst e; rw [hgs, if_pos rfl]; exact hk hw (by decide)
    · rw [hgo j e, if_neg e]; exact hk (h.ow j hj) (by decide)
  · rw [hlen] at hj
    by_cases e : j = i
    · subst e; rw [hgs]; exact hl
    · rw [hgo j e]; exact h.eq j hj
  · rw [hlen] at hj
    by_cases e : j = i
    · subst e; rw [hgs] at he; exact absurd he hne
    · rw [hgo j e] at he; rw [if_neg e, if_neg e]; exact h.nil j hj he
/-- one relation more -/
theorem SQ.add {w3 : World} {v' : Value} {nm : ByteArray} {ar : Int} {o : Obj} {p : Nat} (h : SQ W B v ds vr vw us) (hown : w3.ownsRow B 45 4 v' (ds.length + 1) (((List.range ds.length).flatMap fun i => relS (ds.getD i noRel) (vr i) (vw i)) ++ relS ⟨nm, ar, [], []⟩ (.slice none 0 0) (.slice none 0 0))) (hg : (W.alloc o).grownBy w3 v.ownBlock) (hp : ∃ cur, w3.heap[p]? = some (.cells cur 25 (0, 0))) :
    SQ (w3.setCell ⟨p, 0, none⟩ v') B v' (ds ++ [⟨nm, ar, [], []⟩]) (fun j => if j = ds.length then .slice none 0 0 else vr j) (fun j => if j = ds.length then .slice none 0 0 else vw j) (fun j => if j = ds.length then [] else us j) := by
  have hlen : (ds ++ [(⟨nm, ar, [], []⟩ : RelV)]).length = ds.length + 1 := by simp
  have hget : ∀ i, i < ds.length → (ds ++ [(⟨nm, ar, [], []⟩ : RelV)]).getD i noRel = ds.getD i noRel := fun i hi => by rw [List.getD_eq_getElem?_getD, List.getElem?_append_left hi, ← List.getD_eq_getElem?_getD]
  have hgetn : (ds ++ [(⟨nm, ar, [], []⟩ : RelV)]).getD ds.length noRel = ⟨nm, ar, [], []⟩ := by simp [List.getD_eq_getElem?_getD]
  have hk : ∀ {n s : Nat} {e : TypeId} {u : Value} {xs : List Value}, W.ownsRow B e s u n xs → e ≠ 45 → e ≠ 25 → (w3.setCell ⟨p, 0, none⟩ v').ownsRow B e s u n xs := fun {n s e u xs} ho he he2 => own_keepR (own_move ho fun g hgx => kept_of hg (ho.lt g hgx).2 (own_ne h.own (own_typ ho hgx) (Ne.symm he))) hp he2
  refine ⟨?_, fun j hj => ?_, fun j hj => ?_, fun j hj => ?_, fun j hj he => ?_⟩
  · rw [hlen]
    have e : ((List.range (ds.length + 1)).flatMap fun i => relS ((ds ++ [(⟨nm, ar, [], []⟩ : RelV)]).getD i noRel) (if i = ds.length then .slice none 0 0 else vr i) (if i = ds.length then .slice none 0 0 else vw i)) = ((List.range ds.length).flatMap fun i => relS (ds.getD i noRel) (vr i) (vw i)) ++ relS ⟨nm, ar, [], []⟩ (.slice none 0 0) (.slice none 0 0) := by
      rw [List.range_succ, List.flatMap_append]
      congr 1
      · rw [List.flatMap_def, List.flatMap_def]
        congr 1
        refine List.map_congr_left fun i hi => ?_
        have hi2 := List.mem_range.1 hi
        rw [hget i hi2, if_neg (by omega), if_neg (by omega)]
      · rw [List.flatMap_singleton, hgetn, if_pos rfl, if_pos rfl]
    rw [e]
    exact own_keepR hown hp (by decide)
  · rw [hlen] at hj
    by_cases e : j = ds.length
    · subst e; rw [hgetn, if_pos rfl, if_pos rfl]; exact ⟨World.ownsRow_nil _ _ _ _, rfl, fun i hi => absurd hi (Nat.not_lt_zero _)⟩
    · rw [hget j (by omega), if_neg e, if_neg e]
      have hx := h.rw j (by omega)
      exact ⟨hk hx.own (by decide) (by decide), hx.len, fun i hi => hk (hx.each i hi) (by decide) (by decide)⟩
  · rw [hlen] at hj
    by_cases e : j = ds.length
    · subst e; rw [hgetn, if_pos rfl]; exact World.ownsRow_nil _ _ _ _
    · rw [hget j (by omega), if_neg e]; exact hk (h.ow j (by omega)) (by decide) (by decide)
  · rw [hlen] at hj
    by_cases e : j = ds.length
    · subst e; rw [hgetn]; rfl
    · rw [hget j (by omega)]; exact h.eq j (by omega)
  · rw [hlen] at hj
    by_cases e : j = ds.length
    · subst e; rw [if_pos rfl, if_pos rfl]; exact ⟨rfl, rfl⟩
    · rw [hget j (by omega)] at he; rw [if_neg e, if_neg e]; exact h.nil j (by omega) he
end

end Go.Proofs.YtcdfoephhjacdaaGreatDoor
