import Derived.Maps.OwnOps
import Derived.Maps.OwnSet
import Derived.Maps.Views
import Derived.StringKeys
import Derived.Test.YtcdfoephhjacdaaDoorQ07
import Derived.Test.YtcdfoephhjacdaaDoorQ22
/-
  A map of names to their places.
-/
namespace Go.Proofs.YtcdfoephhjacdaaDoor
open Go.RowKit Go.Maps

def noTxP : ByteArray := ⟨#[]⟩
def hasP (L : List ByteArray) (s : ByteArray) : Bool := L.any fun x => x.toList == s.toList
theorem Tryd.lawPl : Keyed Tryd.prog 9 := string_keyed Tryd.underlying9
theorem Tryd.zeroPl (w : World) : (zeroValue 3).run Tryd.prog w = .ok (.int .i64 0) w := by kernel_rfl

theorem map_belP {w w' : World} {b n : Nat} {k : TypeId} {R : Value → Option (DataW Unit × List MemPlace)} {D : DataW Unit} (h : w.ownsMap Tryd.prog k R b n D) (hb : Below w.heap.size w w') : w'.ownsMap Tryd.prog k R b n D := by
  have hlt := h.lt
  obtain ⟨es, clock, hb', F, hs, hD⟩ := h
  exact ⟨es, clock, (hb.block b hlt).trans hb', F, hs, hD⟩

theorem beq_txP (a b : ByteArray) : (a.toList == b.toList) = decide (a = b) := by
  rw [ByteArray.toList_eq, ByteArray.toList_eq]
  by_cases h : a = b
  · subst h; simp
  · rw [decide_eq_false h]
    simp only [beq_eq_false_iff_ne, ne_eq]
    exact fun e => h (WideShapes.bytes_inj e)

theorem hasP_app (L : List ByteArray) (x s : ByteArray) : hasP (L ++ [x]) s = (hasP L s || decide (x = s)) := by
  unfold hasP
  rw [List.any_append]
  simp [beq_txP]

/-- block b holds the numbers of L -/
def PlcM (w : World) (b : Nat) (L : List ByteArray) : Prop := ∃ D : DataW Unit, w.ownsMap Tryd.prog 9 (plainElem Tryd.prog 3) b L.length D ∧ (∀ s : ByteArray, Maps.has D (.string s.data.toList) = hasP L s) ∧ Maps.size D = L.length ∧ ∀ i, i < L.length → ∀ zd, D.atKey (.string (L.getD i noTxP).data.toList) zd = .lit (.int .i64 (i : Int))

theorem PlcM.start (w : World) : PlcM (w.alloc (.map #[] 0)) w.heap.size [] := ⟨.map [], World.ownsMap_made _ _ _ _, fun _ => rfl, rfl, fun i hi => by simp at hi⟩

theorem getD_appP_lt {L : List ByteArray} {x : ByteArray} {i : Nat} (h : i < L.length) : (L ++ [x]).getD i noTxP = L.getD i noTxP := by
  rw [List.getD_eq_getElem?_getD, List.getD_eq_getElem?_getD, List.getElem?_append_left h]
theorem getD_appP_eq {L : List ByteArray} {x : ByteArray} : (L ++ [x]).getD L.length noTxP = x := by
  simp [List.getD_eq_getElem?_getD]

theorem hasP_get {L : List ByteArray} {i : Nat} (h : i < L.length) : hasP L (L.getD i noTxP) = true := by
  unfold hasP
  rw [List.any_eq_true]
  exact ⟨L.getD i noTxP, List.mem_of_getElem? (i := i) (by simp [List.getD_eq_getElem?_getD, h]), by simp⟩

theorem PlcM.bel {w w' : World} {b : Nat} {L : List ByteArray} (h : PlcM w b L) (hb : Below w.heap.size w w') : PlcM w' b L := by
  obtain ⟨D, h0, h1⟩ := h
  exact ⟨D, map_belP h0 hb, h1⟩

theorem PlcM.put {w' : World} {b : Nat} {L : List ByteArray} {x : ByteArray} {D : DataW Unit} (hD : IsMap D) (hT : Tidy D) (h1 : ∀ s : ByteArray, Maps.has D (.string s.data.toList) = hasP L s) (h2 : Maps.size D = L.length) (h3 : ∀ i, i < L.length → ∀ zd, D.atKey (.string (L.getD i noTxP).data.toList) zd = .lit (.int .i64 (i : Int)))
    (hx : hasP L x = false) (h' : w'.ownsMap Tryd.prog 9 (plainElem Tryd.prog 3) b (L.length + 1) (D.put (.string x.data.toList) (.lit (.int .i64 (L.length : Int))))) : PlcM w' b (L ++ [x]) := by
  have hk : WideAt.IsKeyLit (Lit.string x.data.toList) := by simp [WideAt.IsKeyLit]
  refine ⟨_, by rw [List.length_append]; exact h', fun s => ?_, ?_, fun i hi zd => ?_⟩
  · rw [hasP_app]
    by_cases e : x = s
    · subst e
      rw [has_put_same hD hk]; simp
    · rw [has_put_other (fun e2 => e (by simp only [Lit.string.injEq] at e2; exact (WideShapes.bytes_inj e2).symm)), h1 s, decide_eq_false e, Bool.or_false]
  · rw [size_put hT, h1 x, hx, if_neg (by decide), h2, List.length_append]; rfl
  · rw [List.length_append] at hi
    by_cases e : i < L.length
    · rw [getD_appP_lt e, atKey_put_other (fun e2 => by
        simp only [Lit.string.injEq] at e2
        have e3 := WideShapes.bytes_inj e2
        have := hasP_get e
        rw [e3, hx] at this; cases this)]
      exact h3 i e zd
    · have : i = L.length := by simp at hi; omega
      subst this
      rw [getD_appP_eq, atKey_put_same hD hk]


end Go.Proofs.YtcdfoephhjacdaaDoor

/-
  Data: impl.DataOK.
-/
namespace Go.Proofs.YtcdfoephhjacdaaDoor
open Go.RowKit Go.Maps

def noRel : RelV := ⟨⟨#[]⟩, 0, [], []⟩

/-- relation j of what lies at b, o -/
def RelAt (w : World) (b o : Nat) (r : RelV) : Prop := ∃ vr vw, w.cell? ⟨b, o, none⟩ = some (.string r.name) ∧ w.cell? ⟨b, o + 1, none⟩ = some (.int .i64 r.ar) ∧ w.cell? ⟨b, o + 2, none⟩ = some vr ∧ w.cell? ⟨b, o + 3, none⟩ = some vw ∧ IRel w vr vw r

theorem RelAt.below {w w' : World} {b o : Nat} {r : RelV} (h : RelAt w b o r) (hb : Below w.heap.size w w') : RelAt w' b o r := by
  obtain ⟨vr, vw, h0, h1, h2, h3, h4⟩ := h
  have hlt := World.block_lt_of_cell? w _ h0
  exact ⟨vr, vw, (hb.cell (p := ⟨b, o, none⟩) hlt).trans h0, (hb.cell (p := ⟨b, o + 1, none⟩) hlt).trans h1, (hb.cell (p := ⟨b, o + 2, none⟩) hlt).trans h2, (hb.cell (p := ⟨b, o + 3, none⟩) hlt).trans h3, h4.below hb⟩

/-- relations that can be read -/
def IRelS (w : World) (v : Value) (ds : List RelV) : Prop := ∃ a cap, v = .slice a ds.length cap ∧ (ds.length = 0 ∨ ∃ b o, a = some ⟨b, o, none⟩ ∧ ∀ j, j < ds.length → RelAt w b (o + j * 4) (ds.getD j noRel))

theorem IRelS.below {w w' : World} {v : Value} {ds : List RelV} (h : IRelS w v ds) (hb : Below w.heap.size w w') : IRelS w' v ds := by
  obtain ⟨a, cap, rfl, h⟩ := h
  refine ⟨a, cap, rfl, ?_⟩
  rcases h with h | ⟨b, o, rfl, h⟩
  · exact Or.inl h
  · exact Or.inr ⟨b, o, rfl, fun j hj => (h j hj).below hb⟩

def OkRels (ds : List RelV) : Prop := ds.length ≤ 1099511627776 ∧ ∀ j, OkRel (ds.getD j noRel)

def namedB (ds : List RelV) (i : Nat) (s : ByteArray) : Bool := (List.range i).any fun j => decide ((ds.getD j noRel).name = s)
def relAtB (ds : List RelV) (i : Nat) : Bool := relB (ds.getD i noRel) && !namedB ds i (ds.getD i noRel).name
def dataB (ds : List RelV) : Bool := decide (ds.length ≤ 50) && (List.range ds.length).all (relAtB ds)

theorem dataB_true {ds : List RelV} (h0 : ds.length ≤ 50) (h : ∀ i, i < ds.length → relAtB ds i = true) : dataB ds = true := by
  unfold dataB
  rw [decide_eq_true h0, Bool.true_and, List.all_eq_true]
  intro i hi
  exact h i (by simpa using hi)
theorem dataB_false {ds : List RelV} {i : Nat} (hi : i < ds.length) (h : relAtB ds i = false) : dataB ds = false := by
  unfold dataB
  rw [show (List.range ds.length).all (relAtB ds) = false from List.all_eq_false.2 ⟨i, by simpa using hi, by rw [h]; decide⟩, Bool.and_false]
theorem dataB_long {ds : List RelV} (h : 50 < ds.length) : dataB ds = false := by
  unfold dataB
  rw [decide_eq_false (by omega), Bool.false_and]

theorem named_succ (ds : List RelV) (i : Nat) (s : ByteArray) : namedB ds (i + 1) s = (namedB ds i s || decide ((ds.getD i noRel).name = s)) := by
  unfold namedB
  rw [List.range_succ, List.any_append]
  simp

theorem Tryd.lawS : Keyed Tryd.prog 9 := string_keyed Tryd.underlying9
theorem Tryd.zeroI (w : World) : (zeroValue 3).run Tryd.prog w = .ok (.int .i64 0) w := by kernel_rfl

theorem map_below {w w' : World} {b n : Nat} {k : TypeId} {R : Value → Option (DataW Unit × List MemPlace)} {D : DataW Unit} (h : w.ownsMap Tryd.prog k R b n D) (hb : Below w.heap.size w w') : w'.ownsMap Tryd.prog k R b n D := by
  have hlt := h.lt
  obtain ⟨es, clock, hb', F, hs, hD⟩ := h
  exact ⟨es, clock, (hb.block b hlt).trans hb', F, hs, hD⟩

/-- what the map of names holds behind k relations -/
def Held (w : World) (b k : Nat) (ds : List RelV) : Prop := ∃ D : DataW Unit, w.ownsMap Tryd.prog 9 (plainElem Tryd.prog 3) b k D ∧ ∀ s : ByteArray, Maps.has D (.string s.data.toList) = namedB ds k s

theorem Held.start (w : World) (ds : List RelV) : Held (w.alloc (.map #[] 0)) w.heap.size 0 ds := ⟨.map [], World.ownsMap_made _ _ _ _, fun _ => rfl⟩

theorem held_put {D : DataW Unit} {k : Nat} {ds : List RelV} {d : DataW Unit} (hm : IsMap D) (h : ∀ s : ByteArray, Maps.has D (.string s.data.toList) = namedB ds k s) :
    ∀ s : ByteArray, Maps.has (D.put (.string (ds.getD k noRel).name.data.toList) d) (.string s.data.toList) = namedB ds (k + 1) s := fun s => by
  rw [named_succ]
  by_cases e : (ds.getD k noRel).name = s
  · subst e
    rw [has_put_same hm (by simp [WideAt.IsKeyLit])]
    simp
  · rw [has_put_other (fun e2 => e (by simp only [Lit.string.injEq] at e2; exact (WideShapes.bytes_inj e2).symm)), h s, decide_eq_false e, Bool.or_false]

end Go.Proofs.YtcdfoephhjacdaaDoor
