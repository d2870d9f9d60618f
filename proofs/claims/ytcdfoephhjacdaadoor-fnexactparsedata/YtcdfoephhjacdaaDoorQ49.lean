import Derived.Test.YtcdfoephhjacdaaDoorQ46
import Derived.Test.YtcdfoephhjacdaaDoorQ48
/-
  A line: the program's state and the model's data step alike.
-/
namespace Go.Proofs.YtcdfoephhjacdaaDoor
open Go.RowKit

/-- what holds of all rows so far -/
def GoodS (st : List RdV) : Prop := ∀ i, i < st.length → GoodR (st.getD i noRd)
theorem goodS_nil : GoodS [] := fun _ hi => absurd hi (Nat.not_lt_zero _)

theorem drop1_getD {α : Type} (f : List α) (d : α) (j : Nat) : (f.drop 1).getD j d = f.getD (j + 1) d := by
  rw [List.getD_eq_getElem?_getD, List.getD_eq_getElem?_getD, List.getElem?_drop, Nat.add_comm]

theorem any_range {α : Type} (l : List α) (p : α → Bool) (d : α) : l.any p = (List.range l.length).any fun i => p (l.getD i d) := by
  rw [Bool.eq_iff_iff, List.any_eq_true, List.any_eq_true]
  constructor
  · rintro ⟨x, hx, hp⟩
    obtain ⟨i, hi, rfl⟩ := List.getElem_of_mem hx
    refine ⟨i, List.mem_range.2 hi, ?_⟩
    rw [List.getD_eq_getElem?_getD, List.getElem?_eq_getElem hi]
    exact hp
  · rintro ⟨i, hi, hp⟩
    rw [List.mem_range] at hi
    rw [List.getD_eq_getElem?_getD, List.getElem?_eq_getElem hi] at hp
    exact ⟨_, List.getElem_mem hi, hp⟩

theorem any_congr_mem {α : Type} {p q : α → Bool} : ∀ {l : List α}, (∀ x ∈ l, p x = q x) → l.any p = l.any q
  | [], _ => rfl
  | x :: r, h => by rw [List.any_cons, List.any_cons, h x (List.mem_cons_self ..), any_congr_mem fun y hy => h y (List.mem_cons_of_mem _ hy)]

theorem names_alike {st : List RdV} {ds : List RelV} (h : DsOf st ds) (s : ByteArray) : namS ds s = hasP (st.map RdV.nm) s := by
  unfold namS hasP
  rw [List.any_map, any_range ds _ noRel, any_range st _ noRd, h.1]
  refine any_congr_mem fun i hi => ?_
  rw [(h.2 i (List.mem_range.1 hi)).name]; rfl

theorem dec_alike {st : List RdV} {ds : List RelV} (h : DsOf st ds) (f : List (List UInt8)) : decS ds f = decA st (f.drop 1) := by
  unfold decS decA relName
  rw [names_alike h, drop1_getD, drop1_getD, h.1, List.length_drop]
  have e : decide (f.length - 1 = 2) = decide (f.length = 3) := by
    rw [decide_eq_decide]; omega
  rw [e]
  simp only [Nat.zero_add, Nat.reduceAdd]
  generalize decide (f.length = 3) = b1
  generalize nameB _ = b2
  generalize ((⟨(f.getD 1 []).toArray⟩ : ByteArray).toList == [114, 101, 108]) = b3
  generalize hasP _ _ = b4
  generalize decide (st.length = 50) = b5
  generalize numG _ 3 = b6
  generalize arityB _ = b7
  revert b1 b2 b3 b4 b5 b6 b7
  decide

theorem dsOf_dec {st : List RdV} {ds : List RelV} (h : DsOf st ds) (nm : ByteArray) (ar : Nat) : DsOf (st ++ [⟨nm, ar, []⟩]) (ds ++ [⟨nm, (ar : Int), [], []⟩]) := by
  refine ⟨by rw [List.length_append, List.length_append, h.1]; rfl, fun i hi => ?_⟩
  rw [List.length_append, List.length_singleton] at hi
  by_cases e : i < st.length
  · rw [List.getD_eq_getElem?_getD, List.getElem?_append_left e, List.getD_eq_getElem?_getD, List.getElem?_append_left (by rw [h.1]; exact e), ← List.getD_eq_getElem?_getD, ← List.getD_eq_getElem?_getD]
    exact h.2 i e
  · obtain rfl : i = st.length := by omega
    rw [List.getD_eq_getElem?_getD, List.getElem?_append_right (Nat.le_refl _), Nat.sub_self, List.getD_eq_getElem?_getD, List.getElem?_append_right (by rw [h.1]; exact Nat.le_refl _), h.1, Nat.sub_self]
    exact ⟨rfl, rfl, [], List.Perm.refl _, List.Pairwise.nil, rfl, rfl⟩

theorem ix_alike {st : List RdV} {ds : List RelV} (h : DsOf st ds) {s : ByteArray} {i : Nat} (hx : RelIx ds s i) : hasP (st.map RdV.nm) s = true ∧ plcP (st.map RdV.nm) s = i ∧ i < st.length := by
  rcases hx with ⟨e, -⟩ | ⟨j, e, hj, h1, h2⟩
  · omega
  · obtain rfl : i = j := by omega
    rw [h.1] at hj
    have hp : hasP (st.map RdV.nm) s = true := by
      rw [← names_alike h]
      unfold namS
      rw [any_range ds _ noRel, List.any_eq_true]
      exact ⟨i, List.mem_range.2 (by rw [h.1]; exact hj), h1⟩
    refine ⟨hp, ?_, hj⟩
    unfold plcP
    rw [List.findIdx_eq (by rw [List.length_map]; exact hj)]
    have nm : ∀ k (hk : k < st.length), (st.map RdV.nm)[k]'(by rw [List.length_map]; exact hk) = (ds.getD k noRel).name := fun k hk => by
      rw [List.getElem_map, (h.2 k hk).name, List.getD_eq_getElem?_getD, List.getElem?_eq_getElem hk]; rfl
    refine ⟨by rw [nm i hj]; exact h1, fun k hk => ?_⟩
    rw [nm k (by omega)]
    exact h2 k hk

theorem dsOk_of {st : List RdV} {ds : List RelV} (h : DsOf st ds) (hs : StOk st) : DsOk ds := by
  refine ⟨by rw [h.1]; exact hs.1, fun i hi => ?_⟩
  rw [h.1] at hi
  have hr := h.2 i hi
  obtain ⟨h1, h2, h3⟩ := hs.2 i hi
  obtain ⟨ss, hp, -, e1, -⟩ := hr.ex
  have hl : (ds.getD i noRel).rows.length = (st.getD i noRd).rs.length := by
    have := hp.length_eq
    rw [List.length_map] at this
    rw [e1]; unfold rowsT; rw [List.length_map, this]
  refine ⟨by omega, fun j hj => ?_, _, hr.ar, h2, h3⟩
  rw [e1] at hj ⊢
  unfold rowsT at hj ⊢
  rw [List.length_map] at hj
  rw [List.getD_eq_getElem?_getD, List.getElem?_map, List.getElem?_eq_getElem hj]
  show ((tl ss[j]).take _).length ≤ 1000
  rw [List.length_take]
  omega

theorem ztT_tup (fs : List (List UInt8)) (n : Nat) : ztT n (tupF fs n) :=
  ⟨fun h => by show valF fs n 1 = 0; unfold valF; rw [if_neg (by omega)], fun h => by show valF fs n 2 = 0; unfold valF; rw [if_neg (by omega)]⟩
theorem rowF_tup (f : List (List UInt8)) {n : Nat} (h1 : 1 ≤ n) (h3 : n ≤ 3) : (tl (tupF (f.drop 1) n)).take n = rowF f n := by
  unfold tl tupF rowF valF
  simp only [drop1_getD]
  obtain rfl | rfl | rfl : n = 1 ∨ n = 2 ∨ n = 3 := by omega
  all_goals rfl

theorem sto_alike {r : RdV} (hr : r.rs.length ≤ 2000) (f : List (List UInt8)) (v : Int) : stoA r.ar r.rs (f.drop 1) = (rowB r.ar f && decide ((updT r.rs (tupF (f.drop 1) r.ar) v).length ≤ 2000)) := by
  unfold stoA rowB
  rw [List.length_drop, drop1_getD, updT_len]
  have e1 : decide (f.length - 1 = r.ar + 1) = decide (f.length = r.ar + 2) := by rw [decide_eq_decide]; omega
  have e2 : ((List.range r.ar).all fun j => okF ((f.drop 1).getD j [])) = (List.range r.ar).all fun j => okF (f.getD (j + 1) []) := by
    congr 1
    funext j
    rw [drop1_getD]
  rw [e1, e2]
  congr 1
  by_cases hm : tupF (f.drop 1) r.ar ∈ r.rs.map Prod.fst
  · rw [decide_eq_true hm, if_pos hm, decide_eq_true hr]; rfl
  · rw [decide_eq_false hm, if_neg hm, Bool.false_or]
    by_cases e : r.rs.length = 2000
    · rw [decide_eq_true e, decide_eq_false (by omega)]; rfl
    · rw [decide_eq_false e, decide_eq_true (by omega)]; rfl

theorem goodR_upd {r : RdV} (h : GoodR r) {x : T3} (hx : ztT r.ar x) (v : Int) : GoodR ⟨r.nm, r.ar, updT r.rs x v⟩ := by
  obtain ⟨hn, hz, h1, h3⟩ := h
  refine ⟨?_, ?_, h1, h3⟩
  · show ((updT r.rs x v).map Prod.fst).Nodup
    rw [updT_keys]
    split
    · exact hn
    · rename_i hno
      refine List.nodup_append.2 ⟨hn, by simp, fun a ha c hc => ?_⟩
      rw [List.mem_singleton] at hc
      subst hc
      exact fun e => hno (e ▸ ha)
  · show ∀ y ∈ (updT r.rs x v).map Prod.fst, ztT r.ar y
    rw [updT_keys]
    split
    · exact hz
    · intro y hy
      rcases List.mem_append.1 hy with hy | hy
      · exact hz y hy
      · rw [List.mem_singleton] at hy; subst hy; exact hx

theorem takA_good {st st' : List RdV} {l : List UInt8} (hs : GoodS st) (h : takA st l = some st') : GoodS st' := by
  unfold takA at h
  split at h
  · cases h; exact hs
  · dsimp only at h
    split at h
    · split at h
      · rename_i hd
        cases h
        unfold decA at hd
        simp only [Bool.and_eq_true, decide_eq_true_eq, Bool.not_eq_true', decide_eq_false_iff_not] at hd
        obtain ⟨⟨⟨⟨⟨-, h50⟩, -⟩, -⟩, har⟩, -⟩ := hd
        unfold arityB at har
        simp only [Bool.and_eq_true, decide_eq_true_eq] at har
        intro i hi
        rw [List.length_append, List.length_singleton] at hi
        by_cases e : i < st.length
        · rw [List.getD_eq_getElem?_getD, List.getElem?_append_left e, ← List.getD_eq_getElem?_getD]
          exact hs i e
        · obtain rfl : i = st.length := by omega
          rw [List.getD_eq_getElem?_getD, List.getElem?_append_right (Nat.le_refl _), Nat.sub_self]
          exact ⟨List.Pairwise.nil, fun _ hx => (by cases hx), by show 1 ≤ numN _ 3; omega, by show numN _ 3 ≤ 3; omega⟩
      · cases h
    · split at h
      · rename_i hd
        cases h
        simp only [Bool.and_eq_true] at hd
        obtain ⟨hk, hsto⟩ := hd
        have hpl := (plcP_of hk).1
        rw [List.length_map] at hpl
        intro i hi
        rw [List.length_set] at hi
        generalize plcP (st.map RdV.nm) ⟨((spl 32 l).getD 0 []).toArray⟩ = p at *
        by_cases e : i = p
        · subst e
          rw [getD_set_same hpl]
          exact goodR_upd (hs i hpl) (ztT_tup _ _) _
        · rw [getD_set_other e]
          exact hs i hi
      · cases h
theorem prT_good {ls : List (List UInt8)} : ∀ {k : Nat} {st : List RdV}, prT ls k = some st → GoodS st
  | 0, st, h => by cases h; exact goodS_nil
  | k + 1, st, h => by
    rw [prT, Option.bind_eq_some_iff] at h
    obtain ⟨st0, h0, h1⟩ := h
    exact takA_good (prT_good h0) h1

/-- how spec.l2Line ends, in the program's words -/
def LnE (w : World) (B : Nat) (st : List RdV) (l : List UInt8) (e : Ending) (w' : World) : Prop :=
  ∃ v', e = .returned (.tuple #[.agg #[v'], .bool (takA st l).isSome]) ∧ SlV v' ∧ Below B w w' ∧ KeepU w w' ∧ ∀ st', takA st l = some st' → ∃ ds' vr vw us, SQ w' B v' ds' vr vw us ∧ DsOf st' ds'

theorem l2Line_calls (w : World) (B : Nat) (v : Value) (st : List RdV) (ds : List RelV) (vr vw : Nat → Value) (us : Nat → List Value) (h : SQ w B v ds vr vw us) (hB : B ≤ w.heap.size) (hof : DsOf st ds) (hok : StOk st) (hgood : GoodS st) (vf : Value) (l : List UInt8) (hm : mute l = false) (hl : l.length ≤ 60000) (hf : FS w vf (spl 32 l)) :
    Calls Tryd.prog 16 #[.agg #[v], vf] w (LnE w B st l) := by
  have h1 := spl_pos 32 l
  have h2 := spl_le 32 l
  have h3 := spl_len 32 l
  by_cases hr : (spl 32 l).getD 0 [] = [114, 101, 108]
  · refine (l2Line_rel w B v ds vr vw us h hB (by rw [hof.1]; exact hok.1) vf (spl 32 l) hf h1 (fun j => by have := h3 j; omega) hr).mono ?_
    rintro e w' ⟨v', rfl, hsl, hb, hk, hP⟩
    have et : takA st l = if decA st ((spl 32 l).drop 1) then some (st ++ [⟨⟨(((spl 32 l).drop 1).getD 0 []).toArray⟩, numN ⟨(((spl 32 l).drop 1).getD 1 []).toArray⟩ 3, []⟩]) else none := by
      unfold takA
      rw [if_neg (by rw [hm]; decide)]
      dsimp only
      rw [if_pos hr]
    rw [dec_alike hof] at hP ⊢
    rw [drop1_getD, drop1_getD] at et
    cases hd : decA st ((spl 32 l).drop 1)
    · rw [hd] at et
      simp only [Bool.false_eq_true, if_false] at et
      exact ⟨v', by rw [et]; rfl, hsl, hb, hk, fun st' hst => by rw [et] at hst; cases hst⟩
    · rw [hd] at et
      simp only [if_true] at et
      obtain ⟨vr', vw', us', hq⟩ := hP hd
      refine ⟨v', by rw [et]; rfl, hsl, hb, hk, fun st' hst => ?_⟩
      rw [et] at hst
      cases hst
      exact ⟨_, vr', vw', us', hq, dsOf_dec hof _ _⟩
  · refine (l2Line_row w B v ds vr vw us h hB (dsOk_of hof hok) vf (spl 32 l) hf h1 (by omega) (fun j => by have := h3 j; omega) hr).mono ?_
    rintro e w' ⟨v', ok, rfl, hsl, hb, hk, hP⟩
    have et : takA st l = if (hasP (st.map RdV.nm) ⟨((spl 32 l).getD 0 []).toArray⟩ && stoA (st.getD (plcP (st.map RdV.nm) ⟨((spl 32 l).getD 0 []).toArray⟩) noRd).ar (st.getD (plcP (st.map RdV.nm) ⟨((spl 32 l).getD 0 []).toArray⟩) noRd).rs ((spl 32 l).drop 1)) = true then some (st.set (plcP (st.map RdV.nm) ⟨((spl 32 l).getD 0 []).toArray⟩) ⟨(st.getD (plcP (st.map RdV.nm) ⟨((spl 32 l).getD 0 []).toArray⟩) noRd).nm, (st.getD (plcP (st.map RdV.nm) ⟨((spl 32 l).getD 0 []).toArray⟩) noRd).ar, updT (st.getD (plcP (st.map RdV.nm) ⟨((spl 32 l).getD 0 []).toArray⟩) noRd).rs (tupF ((spl 32 l).drop 1) (st.getD (plcP (st.map RdV.nm) ⟨((spl 32 l).getD 0 []).toArray⟩) noRd).ar) (wtF (((spl 32 l).drop 1).getD (st.getD (plcP (st.map RdV.nm) ⟨((spl 32 l).getD 0 []).toArray⟩) noRd).ar []))⟩) else none := by
      unfold takA
      rw [if_neg (by rw [hm]; decide)]
      dsimp only
      rw [if_neg hr]
    generalize (⟨((spl 32 l).getD 0 []).toArray⟩ : ByteArray) = s at *
    rcases hP with ⟨rfl, hno⟩ | ⟨i, ar, hx, har, hrow, k, there, hF, hok2, vr', vw', us', hq⟩
    · have en : takA st l = none := by
        rw [et]
        refine if_neg ?_
        rcases hno with hno | ⟨i, ar, hx, har, hrow⟩
        · rw [← names_alike hof, hno, Bool.false_and]; decide
        · obtain ⟨e1, e2, e3⟩ := ix_alike hof hx
          rw [e2, sto_alike (hok.2 i e3).1 _ 0]
          have ea : (st.getD i noRd).ar = ar := by
            have := (hof.2 i e3).ar
            omega
          rw [ea, hrow, Bool.false_and, Bool.and_false]; decide
      exact ⟨v', by rw [en]; rfl, hsl, hb, hk, fun st' hst => by rw [en] at hst; cases hst⟩
    · obtain ⟨e1, e2, e3⟩ := ix_alike hof hx
      have ea : (st.getD i noRd).ar = ar := by
        have := (hof.2 i e3).ar
        omega
      rw [e2, drop1_getD, sto_alike (hok.2 i e3).1 _ (wtF ((spl 32 l).getD (ar + 1) [])), ea, hrow, e1, Bool.true_and, Bool.true_and] at et
      subst ea
      have hg := hgood i e3
      rw [← rowF_tup (spl 32 l) hg.2.2.1 hg.2.2.2] at hF hok2 hq
      obtain ⟨-, p2, p3⟩ := relOf_put hg (hof.2 i e3) (ztT_tup ((spl 32 l).drop 1) (st.getD i noRd).ar) (wtF ((spl 32 l).getD ((st.getD i noRd).ar + 1) [])) hF
      rw [p2] at hok2
      have ei : (takA st l).isSome = ok := by
        rw [et, hok2]
        split
        · rename_i h4; rw [h4]; rfl
        · rename_i h4; rw [Bool.eq_false_iff.2 h4]; rfl
      refine ⟨v', by rw [ei], hsl, hb, hk, fun st' hst => ?_⟩
      rw [et] at hst
      split at hst
      · cases hst
        refine ⟨_, vr', vw', us', hq, by rw [List.length_set, List.length_set, hof.1], fun j hj => ?_⟩
        rw [List.length_set] at hj
        by_cases e : j = i
        · subst e
          rw [getD_set_same hj, getD_set_same (by rw [hof.1]; exact hj)]
          exact p3
        · rw [getD_set_other e, getD_set_other e]
          exact hof.2 j hj
      · cases hst

end Go.Proofs.YtcdfoephhjacdaaDoor
