import Derived.Deep.CutBlock
import Derived.Deep.LoopGhost
import Derived.Deep.RegionHeld3
import Derived.Test.YtcdfoephhjacdaaGreatDoorR14
import Derived.Test.YtcdfoephhjacdaaGreatDoorR16
import Derived.Test.YtcdfoephhjacdaaGreatDoorR20
/-
  spec.DrawChecked; what l2DrawData and l3DrawQuery do are premises.
-/
namespace Go.Proofs.YtcdfoephhjacdaaGreatDoor
open Go.RowKit

/-- what l2DrawData does (drawData_calls) -/
def DrwDC : Prop := ∀ (w : World) (g : Nat) (a : Option Addr) (L : Nat → Int) (n cap : Nat) (s0 : CSt), RdF w g a L n cap s0 → n ≤ 1048576 → s0.1 ≤ 1000000 →
    Calls Tryz.prog 14 #[.pointer (some ⟨g, 0, none⟩)] w fun e w' => ∃ v vr vw us, e = .returned (.agg #[v]) ∧ Dr w w' g a L n cap (drawD L n s0).2 ∧ SQ w' w.heap.size v (drawD L n s0).1 vr vw us ∧ ApD (drawD L n s0).1.length vw us
/-- how DrawChecked ends, the data's lists with their blocks -/
def DrwEA (w : World) (ds : List RelV) (q : QV) (e : Ending) (w' : World) : Prop := ∃ (a0 : Option Addr) (c0 gh ch : Nat) (a1 : Option Addr) (c1 : Nat) (vr vw : Nat → Value) (us : Nat → List Value), e = .returned (.tuple #[.agg #[.slice a0 ds.length c0], .agg #[.string q.name, .slice (some ⟨gh, 0, none⟩) q.head.length ch, .int .i64 q.ring, .slice a1 q.atoms.length c1]]) ∧ Below w.heap.size w w' ∧ SQ w' w.heap.size (.slice a0 ds.length c0) ds vr vw us ∧ ApD ds.length vw us ∧ IQ w' (.slice (some ⟨gh, 0, none⟩) q.head.length ch) (.slice a1 q.atoms.length c1) q ∧ gh < w'.heap.size ∧ q.head.length ≤ ch
def DrwCA : Prop := ∀ (w : World) (a : Option Addr) (n cap : Nat) (L : Nat → Int), n ≤ 1048576 → Cod w a L n → Calls Tryz.prog 5 #[.slice a n cap] w (DrwEA w (dsC L n) (qC L n))
theorem DrwEA.plain {w : World} {ds : List RelV} {q : QV} {e : Ending} {w' : World} (h : DrwEA w ds q e w') : DrwE w ds q e w' := by
  obtain ⟨a0, c0, gh, ch, a1, c1, vr, vw, us, h1, h2, h3, -, h5, h6, h7⟩ := h
  exact ⟨a0, c0, gh, ch, a1, c1, h1, h2, h3.irels, h5, h6, h7⟩
/-- what l3DrawQuery does -/
def DrwQC : Prop := ∀ (w : World) (g : Nat) (a : Option Addr) (L : Nat → Int) (n cap : Nat) (s0 : CSt) (m : Nat) (ds : List RelV) (v : Value), RdF w g a L n cap s0 → n ≤ 1048576 → s0.1 ≤ 1000000 → DatG m ds → 0 < m → m ≤ 4 → IRelS w v ds → (∀ w', Kc g w w' → IRelS w' v ds) →
    Calls Tryz.prog 15 #[.pointer (some ⟨g, 0, none⟩), .agg #[v]] w fun e w' => ∃ a1 c1 a2 c2, e = .returned (.agg #[.string (drawQ L n ds s0).1.name, .slice a1 (drawQ L n ds s0).1.head.length c1, .int .i64 (drawQ L n ds s0).1.ring, .slice a2 (drawQ L n ds s0).1.atoms.length c2]) ∧ (drawQ L n ds s0).1.atoms.length ≤ c2 ∧ Kc g w w' ∧ (∀ w'', (∀ b, w.heap.size ≤ b → b < w'.heap.size → w''.heap[b]? = w'.heap[b]?) → IQ w'' (.slice a1 (drawQ L n ds s0).1.head.length c1) (.slice a2 (drawQ L n ds s0).1.atoms.length c2) (drawQ L n ds s0).1) ∧ ∀ a ∈ (drawQ L n ds s0).1.atoms, ∃ z : Nat, z < ds.length ∧ a.1 = (ds.getD z noRel).name

theorem IAt.take {w : World} {a : Option Addr} {k cap : Nat} {l : List AtomV} (h : IAt w (.slice a l.length cap) l) (hk : k ≤ l.length) (cap' : Nat) : IAt w (.slice a k cap') (l.take k) := by
  obtain ⟨a', cp, e, hc⟩ := h
  simp only [Value.slice.injEq] at e
  obtain ⟨rfl, -, -⟩ := e
  have hl : (l.take k).length = k := by rw [List.length_take]; omega
  refine ⟨a, cap', by rw [hl], ?_⟩
  rw [hl]
  rcases hc with h0 | ⟨b, o, rfl, hc⟩
  · exact Or.inl (by omega)
  · refine Or.inr ⟨b, o, rfl, fun j hj => ?_⟩
    have e : (l.take k).getD j noAt = l.getD j noAt := by rw [List.getD_eq_getElem?_getD, List.getElem?_take_of_lt hj, ← List.getD_eq_getElem?_getD]
    rw [e]
    exact hc j (by omega)
theorem prodQ_lt {m : Nat} {ds : List RelV} (hd : DatG m ds) (ats : List AtomV) {i : Nat} (h : prodQ ds ats i ≤ 30000) : prodQ ds ats (i + 1) ≤ 450000 := by
  show prodQ ds ats i * (rwsQ ds (ats.getD i noAt).1 + 1) ≤ _
  have := rwsQ_le hd (ats.getD i noAt).1
  exact Nat.le_trans (Nat.mul_le_mul h (show rwsQ ds (ats.getD i noAt).1 + 1 ≤ 15 by omega)) (by decide)
/-- where the cut is -/
theorem cutK_at {ds : List RelV} {ats : List AtomV} {i : Nat} (hi : i < ats.length) (hno : ∀ j, j < i → ¬ 30000 < prodQ ds ats (j + 1)) (h : 30000 < prodQ ds ats (i + 1)) : cutK ds ats = i := by
  unfold cutK
  rw [List.findIdx_eq (by rw [List.length_range]; exact hi)]
  refine ⟨by rw [List.getElem_range, decide_eq_true_eq]; exact h, fun j hj => ?_⟩
  rw [List.getElem_range, decide_eq_false_iff_not]
  exact hno j hj
theorem cutK_end {ds : List RelV} {ats : List AtomV} (hno : ∀ j, j < ats.length → ¬ 30000 < prodQ ds ats (j + 1)) : cutK ds ats = ats.length := by
  unfold cutK
  have h : (List.range ats.length).findIdx (fun i => decide (30000 < prodQ ds ats (i + 1))) = (List.range ats.length).length := by
    rw [List.findIdx_eq_length]
    intro j hj
    rw [decide_eq_false_iff_not]
    exact hno j (List.mem_range.1 hj)
  rw [h, List.length_range]
/-- the place that l2Rel finds -/
theorem rel_ix {ds : List RelV} {nm : ByteArray} {z : Int} (h : RelIx ds nm z) (he : ∃ j : Nat, j < ds.length ∧ nm = (ds.getD j noRel).name) : ∃ k : Nat, z = k ∧ k < ds.length ∧ (ds.getD k noRel).rows.length = rwsQ ds nm := by
  rcases h with ⟨-, h⟩ | ⟨k, rfl, hk, h1, h2⟩
  · obtain ⟨j, hj, rfl⟩ := he
    have := h j hj
    simp at this
  · refine ⟨k, rfl, hk, ?_⟩
    have e : ds.findIdx (fun r => r.name.toList == nm.toList) = k := by
      rw [List.findIdx_eq hk]
      have hg : ∀ i (hi : i < ds.length), ds[i] = ds.getD i noRel := fun i hi => by rw [List.getD_eq_getElem?_getD, List.getElem?_eq_getElem hi]; rfl
      refine ⟨by rw [hg k hk]; exact h1, fun i hi => ?_⟩
      rw [hg i (by omega)]
      exact h2 i hi
    unfold rwsQ
    rw [e]
theorem filter_take {α : Type} (p : α → Bool) (l : List α) (d : α) {i : Nat} (h : i < l.length) : (l.take (i + 1)).filter p = (l.take i).filter p ++ (if p (l.getD i d) then [l.getD i d] else []) := by
  rw [List.take_add_one, List.getElem?_eq_getElem h, List.filter_append, List.getD_eq_getElem?_getD, List.getElem?_eq_getElem h]
  show _ ++ [l[i]].filter p = _ ++ (if p l[i] then [l[i]] else [])
  cases e : p l[i] <;> simp [e]
theorem cod_start {W : World} {a : Option Addr} {L : Nat → Int} {n cap : Nat} (hB : Cod W a L n) : RdF (W.alloc (.cells #[.slice a n cap, .int .i64 0, .int .i64 0] 50)) W.heap.size a L n cap (0, 0) := by
  have hup : ∀ {b o : Nat} {v : Value}, W.cell? ⟨b, o, none⟩ = some v → (W.alloc (.cells #[.slice a n cap, .int .i64 0, .int .i64 0] 50)).cell? ⟨b, o, none⟩ = some v := fun {b o v} hc => (((Below.refl W.heap.size W).alloc (Nat.le_refl _) _).cell (p := ⟨b, o, none⟩) (World.block_lt_of_cell? W _ hc)).trans hc
  refine ⟨⟨by simp, by simp, by simp, by simp, by simp, fun j hj => ?_, by decide⟩, fun j hj b o e => ?_⟩
  · obtain ⟨b, o, e, hc, hx⟩ := hB j hj
    have hlt' : b < W.heap.size := World.block_lt_of_cell? W _ hc
    exact ⟨b, o, L j, e, by omega, hup hc, hx⟩
  · obtain ⟨b', o', e', hc, -⟩ := hB j hj
    rw [e] at e'
    cases e'
    exact hup hc

theorem okq_gen {q : QV} (h1 : q.name.size ≤ 1048576) (h5 : ∀ x ∈ q.head, nameB x = true) (ha : AtsG q.atoms) (hh : q.head.length ≤ 15) : OkQ q := by
  have hs : shapeB ⟨⟨#[113]⟩, q.head, 0, q.atoms⟩ = true := by
    unfold shapeB
    simp only [Bool.and_eq_true, decide_eq_true_eq, List.all_eq_true]
    exact ⟨⟨⟨⟨⟨by decide, by decide⟩, by decide⟩, ha.pos⟩, h5⟩, fun a h => (ha.ok a h).1⟩
  have := okq_of hs ha hh
  exact ⟨h1, this.len, this.head, this.alen, this.atoms⟩
theorem boxq_cells {W : World} {p : Nat} {x0 x1 x2 x3 : Value} {t : TypeId} (h : W.heap[p]? = some (.cells #[x0, x1, x2, x3] t (0, 0))) : W.cell? ⟨p, 0, none⟩ = some x0 ∧ W.cell? ⟨p, 1, none⟩ = some x1 ∧ W.cell? ⟨p, 2, none⟩ = some x2 ∧ W.cell? ⟨p, 3, none⟩ = some x3 ∧ W.frozen? ⟨p, 0, none⟩ = false ∧ W.frozen? ⟨p, 1, none⟩ = false ∧ W.frozen? ⟨p, 2, none⟩ = false ∧ W.frozen? ⟨p, 3, none⟩ = false := by
  have hf : ∀ o, W.frozen? ⟨p, o, none⟩ = false := fun o => by unfold World.frozen?; rw [show W.heap[p]? = _ from h]; simp
  refine ⟨?_, ?_, ?_, ?_, hf 0, hf 1, hf 2, hf 3⟩ <;> (rw [cell_of_row _ _ _ _ _ _ h]; rfl)
theorem upcF {X Y : World} {b o : Nat} {v : Value} (hb : Below X.heap.size X Y) (hc : X.cell? ⟨b, o, none⟩ = some v) : Y.cell? ⟨b, o, none⟩ = some v := (hb.cell (p := ⟨b, o, none⟩) (World.block_lt_of_cell? X _ hc)).trans hc
theorem one_newF (w1 : World) (x : Value) : Below w1.heap.size w1 (w1.alloc (.cells #[x] 25)) ∧ (w1.alloc (.cells #[x] 25)).cell? ⟨w1.heap.size, 0, none⟩ = some x :=
  ⟨(Below.refl _ _).alloc (Nat.le_refl _) _, by rw [World.cell?_alloc_at _ _ _ _ rfl]; rfl⟩

theorem SQ.baseC {W : World} {B B' : Nat} {v : Value} {ds : List RelV} {vr vw : Nat → Value} {us : Nat → List Value} (h : SQ W B v ds vr vw us) (hB : B' ≤ B) : SQ W B' v ds vr vw us :=
  ⟨own_base h.own hB, fun i hi => ⟨own_base (h.rw i hi).own hB, (h.rw i hi).len, fun j hj => own_base ((h.rw i hi).each j hj) hB⟩, fun i hi => own_base (h.ow i hi) hB, h.eq, h.nil⟩
theorem SQ.agree {W W' : World} {B : Nat} {v : Value} {ds : List RelV} {vr vw : Nat → Value} {us : Nat → List Value} (h : SQ W B v ds vr vw us) (hk : ∀ b, B ≤ b → b < W.heap.size → W'.heap[b]? = W.heap[b]?) : SQ W' B v ds vr vw us :=
  have mv : ∀ {e : TypeId} {s : Nat} {x : Value} {k : Nat} {xs : List Value}, W.ownsRow B e s x k xs → W'.ownsRow B e s x k xs := fun hx => own_move hx fun g hg => hk g (hx.lt g hg).1 (hx.lt g hg).2
  ⟨mv h.own, fun i hi => ⟨mv (h.rw i hi).own, (h.rw i hi).len, fun j hj => mv ((h.rw i hi).each j hj)⟩, fun i hi => mv (h.ow i hi), h.eq, h.nil⟩

end Go.Proofs.YtcdfoephhjacdaaGreatDoor

/-
  A query in the drawing: the boxes, the atoms, the names used.
-/
namespace Go.Proofs.YtcdfoephhjacdaaGreatDoor
open Go.RowKit

def vnC : Array Value := #[.string ⟨#[120]⟩, .string ⟨#[121]⟩, .string ⟨#[122]⟩, .string ⟨#[119]⟩, .string ⟨#[117, 95, 49]⟩, .string ⟨#[84]⟩]
theorem vnC_at : ∀ i : Nat, i < 6 → vnC[i]? = some (.string (vnQ.getD i noB))
  | 0, _ => rfl
  | 1, _ => rfl
  | 2, _ => rfl
  | 3, _ => rfl
  | 4, _ => rfl
  | 5, _ => rfl
  | i + 6, h => by omega

/-- all that lay there stands, but the reader's block g and lists of texts behind pn -/
structure Kt (g pn : Nat) (a b : World) : Prop where
  size : a.heap.size ≤ b.heap.size
  block : ∀ x, x < a.heap.size → x ≠ g → (pn < x → ∀ cur f, a.heap[x]? ≠ some (.cells cur 9 f)) → b.heap[x]? = a.heap[x]?
section
variable {g pn : Nat} {a b c : World}
theorem Kt.refl (g pn : Nat) (a : World) : Kt g pn a a := ⟨Nat.le_refl _, fun _ _ _ _ => rfl⟩
theorem Kt.kc (h : Kt g pn a b) (k : Kc g b c) : Kt g pn a c := ⟨Nat.le_trans h.size k.size, fun x hx hg hs => (k.block x (Nat.lt_of_lt_of_le hx h.size) hg).trans (h.block x hx hg hs)⟩
theorem Kt.up (h : Kt g pn a b) (k : Below a.heap.size b c) : Kt g pn a c := ⟨Nat.le_trans h.size k.size, fun x hx hg hs => (k.block x hx).trans (h.block x hx hg hs)⟩
theorem Kt.al (h : Kt g pn a b) (o : Obj) : Kt g pn a (b.alloc o) := h.up ((Below.refl _ _).alloc h.size o)
theorem Kt.nw {p o : Nat} {v : Value} (h : Kt g pn a b) (hp : a.heap.size ≤ p) : Kt g pn a (b.setCell ⟨p, o, none⟩ v) := h.up ((Below.refl _ _).setCell hp v)
theorem Kt.usd {n : Nat} {vu : Value} {xs : List Value} {o : Obj} (h : Kt g pn a b) (ho : b.ownsRow (pn + 1) 9 1 vu n xs) (hg : (b.alloc o).grownBy c vu.ownBlock) : Kt g pn a c :=
  ⟨Nat.le_trans h.size (Nat.le_trans (by simp) hg.size), fun x hx hxg hs => by
    have e := h.block x hx hxg hs
    refine (kept_of hg (Nat.lt_of_lt_of_le hx h.size) fun e2 => ?_).trans e
    obtain ⟨cur, hc⟩ := own_typ ho e2.symm
    have := (ho.lt x e2.symm).1
    rw [e] at hc
    exact hs (by omega) cur _ hc⟩
theorem Kt.heap {x : Nat} {cur : Array Value} {t : TypeId} {f : Nat × Nat} (h : Kt g pn a b) (hx : a.heap[x]? = some (.cells cur t f)) (hg : x ≠ g) (ht : t ≠ 9) : b.heap[x]? = some (.cells cur t f) :=
  (h.block x (heap_ltF hx) hg fun _ cur' f' e => by rw [hx] at e; cases e; exact ht rfl).trans hx
theorem Kt.own {B n s : Nat} {e : TypeId} {v : Value} {xs : List Value} (h : Kt g pn a b) (ho : a.ownsRow B e s v n xs) (hg : g < B) (ht : e ≠ 9) : b.ownsRow B e s v n xs :=
  own_move ho fun c hc => by
    obtain ⟨cur, hh⟩ := own_typ ho hc
    exact (h.heap hh (by have := (ho.lt c hc).1; omega) ht).trans hh.symm
end

/-- the boxes, the names to draw from, the atoms -/
structure QA (w W : World) (p pn : Nat) (v : Value) (rg : Int) (x y : Value) (us : List UV) : Prop where
  b3 : W.heap[w.heap.size]? = some (.cells #[v] 25 (0, 0))
  b4 : W.heap[w.heap.size + 1]? = some (.cells #[.string ⟨#[]⟩, .slice none 0 0, .int .i64 0, .slice none 0 0] 29 (0, 0))
  b5 : W.heap[p]? = some (.cells #[.string ⟨#[113]⟩, x, .int .i64 rg, y] 29 (0, 0))
  nm : W.heap[pn]? = some (.cells vnC 9 (0, 0))
  own : W.ownsRow (pn + 1) 55 2 y us.length (us.flatMap atc)
  tms : ∀ u ∈ us, W.ownsRow (pn + 1) 89 2 u.2.1 u.2.2.length (u.2.2.flatMap tmc)
  hp : w.heap.size + 2 ≤ p
  hpn : p < pn
section
variable {w W W' : World} {p pn g : Nat} {v : Value} {rg : Int} {x y : Value} {us : List UV}
theorem QA.lt (h : QA w W p pn v rg x y us) : pn < W.heap.size := heap_ltF h.nm
theorem QA.kt (h : QA w W p pn v rg x y us) (k : Kt g pn W W') (hg : g < w.heap.size) : QA w W' p pn v rg x y us :=
  have hp := h.hp
  have hpn := h.hpn
  ⟨k.heap h.b3 (by omega) (by decide), k.heap h.b4 (by omega) (by decide), k.heap h.b5 (by omega) (by decide), (k.block pn h.lt (by omega) fun hh => absurd hh (Nat.lt_irrefl _)).trans h.nm, k.own h.own (by omega) (by decide), fun u hu => k.own (h.tms u hu) (by omega) (by decide), hp, hpn⟩
theorem QA.kc (h : QA w W p pn v rg x y us) (k : Kc g W W') (hg : g < w.heap.size) : QA w W' p pn v rg x y us := h.kt ((Kt.refl g pn W).kc k) hg
theorem QA.bel (h : QA w W p pn v rg x y us) (k : Below W.heap.size W W') (hg : g < w.heap.size) : QA w W' p pn v rg x y us := h.kt ((Kt.refl g pn W).up k) hg
theorem QA.name (h : QA w W p pn v rg x y us) {i : Nat} (hi : i < 6) : W.cell? ⟨pn, i, none⟩ = some (.string (vnQ.getD i noB)) := by
  rw [cell_of_row _ _ _ _ _ _ h.nm]; exact vnC_at i hi
theorem QA.c3 (h : QA w W p pn v rg x y us) : W.cell? ⟨w.heap.size, 0, none⟩ = some v := by rw [cell_of_row _ _ _ _ _ _ h.b3]; rfl
theorem QA.c5 (h : QA w W p pn v rg x y us) : W.cell? ⟨p, 0, none⟩ = some (.string ⟨#[113]⟩) ∧ W.cell? ⟨p, 1, none⟩ = some x ∧ W.cell? ⟨p, 2, none⟩ = some (.int .i64 rg) ∧ W.cell? ⟨p, 3, none⟩ = some y ∧ ∀ o, W.frozen? ⟨p, o, none⟩ = false := by
  refine ⟨?_, ?_, ?_, ?_, fun o => ?_⟩
  · rw [cell_of_row _ _ _ _ _ _ h.b5]; rfl
  · rw [cell_of_row _ _ _ _ _ _ h.b5]; rfl
  · rw [cell_of_row _ _ _ _ _ _ h.b5]; rfl
  · rw [cell_of_row _ _ _ _ _ _ h.b5]; rfl
  · unfold World.frozen?; rw [show W.heap[p]? = _ from h.b5]; simp
/-- an atom more: W1 is where its terms lie, w3 where the list has grown -/
theorem QA.push {w3 : World} {o : Obj} {y' : Value} {u : UV} (h : QA w W p pn v rg x y us) (ht : W.ownsRow (pn + 1) 89 2 u.2.1 u.2.2.length (u.2.2.flatMap tmc)) (hg : (W.alloc o).grownBy w3 y.ownBlock) (hown : w3.ownsRow (pn + 1) 55 2 y' (us.length + 1) (us.flatMap atc ++ atc u)) :
    QA w (w3.setCell ⟨p, 3, none⟩ y') p pn v rg x y' (us ++ [u]) := by
  have hp := h.hp
  have hpn := h.hpn
  have hk : ∀ {b : Nat} {ob : Obj}, W.heap[b]? = some ob → b ≤ pn → w3.heap[b]? = some ob := fun {b ob} hb hle => (kept_of hg (heap_ltF hb) (fun e => by have := (h.own.lt b e.symm).1; omega)).trans hb
  have mv : ∀ {n : Nat} {u : Value} {xs : List Value}, W.ownsRow (pn + 1) 89 2 u n xs → (w3.setCell ⟨p, 3, none⟩ y').ownsRow (pn + 1) 89 2 u n xs := fun {n u xs} ho => own_setN (own_move ho fun c hc => kept_of hg (ho.lt c hc).2 (own_ne h.own (own_typ ho hc) (by decide))) (by omega)
  refine ⟨?_, ?_, ?_, ?_, ?_, fun a ha => ?_, hp, hpn⟩
  · rw [Below.heap_setCell _ _ _ _ (show w.heap.size ≠ p by omega)]; exact hk h.b3 (by omega)
  · rw [Below.heap_setCell _ _ _ _ (show w.heap.size + 1 ≠ p by omega)]; exact hk h.b4 (by omega)
  · rw [heap_setCell_same _ _ _ _ _ _ (hk h.b5 (by omega))]; rfl
  · rw [Below.heap_setCell _ _ _ _ (show pn ≠ p by omega)]; exact hk h.nm (by omega)
  · rw [List.length_append, List.length_singleton, List.flatMap_append, List.flatMap_cons, List.flatMap_nil, List.append_nil]
    exact own_setN hown (by omega)
  · rw [List.mem_append, List.mem_singleton] at ha
    rcases ha with ha | rfl
    · exact mv (h.tms a ha)
    · exact mv ht
end
/-- a list of texts grows, or a box p is stored: the used names stand -/
theorem usd_kt {g pn n : Nat} {a b : World} {v : Value} {xs : List Value} (h : a.ownsRow (pn + 1) 9 1 v n xs) (k : Kc g a b) (hg : g ≤ pn) : b.ownsRow (pn + 1) 9 1 v n xs := own_kcF h k (by omega)
theorem usd_push {W w3 : World} {p pn n m : Nat} {y y' v : Value} {o : Obj} {xs ys : List Value} (h : W.ownsRow (pn + 1) 9 1 v n xs) (hy : W.ownsRow (pn + 1) 55 2 y m ys) (hg : (W.alloc o).grownBy w3 y.ownBlock) (hp : p ≤ pn) : (w3.setCell ⟨p, 3, none⟩ y').ownsRow (pn + 1) 9 1 v n xs :=
  own_setN (own_move h fun c hc => kept_of hg (h.lt c hc).2 (own_ne hy (own_typ h hc) (by decide))) (by omega)

theorem ringQ_at (L : Nat → Int) (n : Nat) (nm : ByteArray) (m : Nat) (s : CSt) : ∀ i, (ringQ L n nm m i s).2.1 ≤ s.1 + i
  | 0 => Nat.le_refl _
  | i + 1 => by
    have h1 := ringQ_at L n nm m s i
    have h2 := pkF_at L n 3 (ringQ L n nm m i s).2
    show (pkF L n 3 (ringQ L n nm m i s).2).2.1 ≤ _
    omega
theorem varQ1_at (L : Nat → Int) (n k j : Nat) (used : List ByteArray) (s : CSt) : (varQ1 L n k j used s).2.1 ≤ s.1 + 2 := by
  have h1 := pkF_at L n k s
  have h2 := pkF_at L n 3 (pkF L n k s).2
  unfold varQ1
  dsimp only
  split
  · show (pkF L n 3 (pkF L n k s).2).2.1 ≤ _; omega
  · show (pkF L n k s).2.1 ≤ _; omega
theorem varQ_at (L : Nat → Int) (n k j : Nat) (last : Bool) (used : List ByteArray) (s : CSt) : (varQ L n k j last used s).2.1 ≤ s.1 + 3 := by
  have h1 := varQ1_at L n k j used s
  have h2 := pkF_at L n 3 (varQ1 L n k j used s).2
  unfold varQ
  dsimp only
  split
  · show (pkF L n 3 (varQ1 L n k j used s).2).2.1 ≤ _; omega
  · omega
theorem termsQ_at (L : Nat → Int) (n k ar : Nat) (la : Bool) (used : List ByteArray) (s : CSt) : ∀ j, (termsQ L n k ar la j used s).2.2.1 ≤ s.1 + j * 5 ∧ (termsQ L n k ar la j used s).2.1.length ≤ used.length + j
  | 0 => ⟨Nat.le_refl _, Nat.le_refl _⟩
  | j + 1 => by
    obtain ⟨h1, h0⟩ := termsQ_at L n k ar la used s j
    rw [termsQ]
    dsimp only
    generalize termsQ L n k ar la j used s = p at *
    have h2 := pkF_at L n 14 p.2.2
    have h3 := pkF_at L n 3 (pkF L n 14 p.2.2).2
    have h4 := varQ_at L n k j (la && decide (j + 1 = ar)) p.2.1 (pkF L n 14 p.2.2).2
    split
    · exact ⟨by show (pkF L n 3 (pkF L n 14 p.2.2).2).2.1 ≤ _; omega, by show p.2.1.length ≤ _; omega⟩
    · exact ⟨by show (varQ L n k j (la && decide (j + 1 = ar)) p.2.1 (pkF L n 14 p.2.2).2).2.1 ≤ _; omega, by show (p.2.1 ++ [_]).length ≤ _; rw [List.length_append, List.length_singleton]; omega⟩
theorem atomsQ_at {m : Nat} {ds : List RelV} (hd : DatG m ds) (hm : 0 < m) (L : Nat → Int) (n k cnt : Nat) (used : List ByteArray) (s : CSt) : ∀ i, (atomsQ L n ds k cnt i used s).2.2.1 ≤ s.1 + i * 16 ∧ (atomsQ L n ds k cnt i used s).2.1.length ≤ used.length + i * 3
  | 0 => ⟨Nat.le_refl _, Nat.le_refl _⟩
  | i + 1 => by
    obtain ⟨h1, h0⟩ := atomsQ_at hd hm L n k cnt used s i
    rw [atomsQ]
    dsimp only
    generalize atomsQ L n ds k cnt i used s = p at *
    have hz := pk_lt L n ds.length p.2.2 (by have := hd.len; omega)
    obtain ⟨r1, r2, r3⟩ := rel_parts (hd.rel (pkF L n ds.length p.2.2).1 (by have := hd.len; omega))
    have h2 := pkF_at L n ds.length p.2.2
    have h3 : (ds.getD (pkF L n ds.length p.2.2).1 noRel).ar.toNat ≤ 3 := by omega
    generalize (ds.getD (pkF L n ds.length p.2.2).1 noRel).ar.toNat = ar at *
    obtain ⟨h4, h5⟩ := termsQ_at L n k ar (decide (i + 1 = cnt)) p.2.1 (pkF L n ds.length p.2.2).2 ar
    exact ⟨by omega, by omega⟩
theorem hdQ_at (L : Nat → Int) (n : Nat) (vs : List ByteArray) (s : CSt) : ∀ i, (hdQ L n vs i s).2.1 ≤ s.1 + i ∧ (hdQ L n vs i s).1.length ≤ i
  | 0 => ⟨Nat.le_refl _, Nat.le_refl _⟩
  | i + 1 => by
    obtain ⟨h1, h0⟩ := hdQ_at L n vs s i
    have h2 := pkF_at L n 5 (hdQ L n vs i s).2
    refine ⟨by show (pkF L n 5 (hdQ L n vs i s).2).2.1 ≤ _; omega, ?_⟩
    show (if _ then _ else _ : List ByteArray).length ≤ _
    split
    · rw [List.length_cons]; omega
    · omega

theorem preQ_at {m : Nat} {ds : List RelV} (hd : DatG m ds) (hm : 0 < m) (L : Nat → Int) (n c : Nat) (s : CSt) (hc : c ≤ 4) : (preQ L n ds c s).2.1 ≤ 4 ∧ (preQ L n ds c s).2.2.1 ≤ s.1 + 10 ∧ (preQ L n ds c s).1.length ≤ 4 := by
  have h1 := pkF_at L n 4 s
  have h2 := pkF_at L n 2 (pkF L n 4 s).2
  have l2 := pk_lt L n 2 (pkF L n 4 s).2 (by omega)
  unfold preQ
  dsimp only
  split
  · have h3 := ringQ_at L n (ds.getD 0 noRel).name (3 + (pkF L n 2 (pkF L n 4 s).2).1) (pkF L n 2 (pkF L n 4 s).2).2 (3 + (pkF L n 2 (pkF L n 4 s).2).1)
    have h4 := (ringQ_ok L n (ds.getD 0 noRel).name (by have := hd.rel 0 (by omega); exact (rel_parts this).1) (3 + (pkF L n 2 (pkF L n 4 s).2).1) (by omega) (by omega) (pkF L n 2 (pkF L n 4 s).2).2 (3 + (pkF L n 2 (pkF L n 4 s).2).1) (by omega)).1
    generalize ringQ L n (ds.getD 0 noRel).name (3 + (pkF L n 2 (pkF L n 4 s).2).1) (3 + (pkF L n 2 (pkF L n 4 s).2).1) (pkF L n 2 (pkF L n 4 s).2).2 = R at *
    have h5 := pkF_at L n 2 R.2
    have l5 := pk_lt L n 2 R.2 (by omega)
    exact ⟨by show (pkF L n 2 R.2).1 ≤ 4; omega, by show (pkF L n 2 R.2).2.1 ≤ _; omega, by show R.1.length ≤ 4; omega⟩
  · exact ⟨by show c ≤ 4; omega, by show (pkF L n 4 s).2.1 ≤ _; omega, by show ([] : List AtomV).length ≤ 4; simp⟩

end Go.Proofs.YtcdfoephhjacdaaGreatDoor
