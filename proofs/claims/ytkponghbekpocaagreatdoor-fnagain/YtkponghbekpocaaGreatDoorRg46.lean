import Derived.Deep.CutBlock
import Derived.Deep.LoopGhost
import Derived.Deep.RegionHeld3
import Derived.Test.YtkponghbekpocaaGreatDoorRg19
import Derived.Test.YtkponghbekpocaaGreatDoorRg38
import Derived.Test.YtkponghbekpocaaGreatDoorRg41
/-
  A query in the drawing: the boxes, the atoms, the names used.
-/
namespace Go.Proofs.YtkponghbekpocaaGreatDoor
open Go.RowKit

def vnC : Array Value := #[.string ⟨#[120]⟩, .string ⟨#[121]⟩, .string ⟨#[122]⟩, .string ⟨#[119]⟩, .string ⟨#[117, 95, 49]⟩, .string ⟨#[84]⟩]
theorem vnC_at : ∀ i : Nat, i < 6 → vnC[i]? = some (.string (vnQ.getD i noB))
  | 0, _ => rfl
  | 1, _ => rfl
  | 2, _ => rfl
  | 3, _ => rfl
  | 4, _ => rfl
  | 5, _ => rfl
  | i + 6, h => by omega

/-- all that lay there stands, but the reader's block g and lists of texts behind pn -/
structure Kt (g pn : Nat) (a b : World) : Prop where
  size : a.heap.size ≤ b.heap.size
  block : ∀ x, x < a.heap.size → x ≠ g → (pn < x → ∀ cur f, a.heap[x]? ≠ some (.cells cur 9 f)) → b.heap[x]? = a.heap[x]?
section
variable {g pn : Nat} {a b c : World}
theorem Kt.refl (g pn : Nat) (a : World) : Kt g pn a a := ⟨Nat.le_refl _, fun _ _ _ _ => rfl⟩
theorem Kt.kc (h : Kt g pn a b) (k : Kc g b c) : Kt g pn a c := ⟨Nat.le_trans h.size k.size, fun x hx hg hs => (k.block x (Nat.lt_of_lt_of_le hx h.size) hg).trans (h.block x hx hg hs)⟩
theorem Kt.up (h : Kt g pn a b) (k : Below a.heap.size b c) : Kt g pn a c := ⟨Nat.le_trans h.size k.size, fun x hx hg hs => (k.block x hx).trans (h.block x hx hg hs)⟩
theorem Kt.al (h : Kt g pn a b) (o : Obj) : Kt g pn a (b.alloc o) := h.up ((Below.refl _ _).alloc h.size o)
theorem Kt.nw {p o : Nat} {v : Value} (h : Kt g pn a b) (hp : a.heap.size ≤ p) : Kt g pn a (b.setCell ⟨p, o, none⟩ v) := h.up ((Below.refl _ _).setCell hp v)
theorem Kt.usd {n : Nat} {vu : Value} {xs : List Value} {o : Obj} (h : Kt g pn a b) (ho : b.ownsRow (pn + 1) 9 1 vu n xs) (hg : (b.alloc o).grownBy c vu.ownBlock) : Kt g pn a c :=
  ⟨Nat.le_trans h.size (Nat.le_trans (by simp) hg.size), fun x hx hxg hs => by
    have e := h.block x hx hxg hs
    refine (kept_of hg (Nat.lt_of_lt_of_le hx h.size) fun e2 => ?_).trans e
    obtain ⟨cur, hc⟩ := own_typ ho e2.symm
    have := (ho.lt x e2.symm).1
    rw [e] at hc
    exact hs (by omega) cur _ hc⟩
theorem Kt.heap {x : Nat} {cur : Array Value} {t : TypeId} {f : Nat × Nat} (h : Kt g pn a b) (hx : a.heap[x]? = some (.cells cur t f)) (hg : x ≠ g) (ht : t ≠ 9) : b.heap[x]? = some (.cells cur t f) :=
  (h.block x (heap_ltF hx) hg fun _ cur' f' e => by rw [hx] at e; cases e; exact ht rfl).trans hx
theorem Kt.own {B n s : Nat} {e : TypeId} {v : Value} {xs : List Value} (h : Kt g pn a b) (ho : a.ownsRow B e s v n xs) (hg : g < B) (ht : e ≠ 9) : b.ownsRow B e s v n xs :=
  own_move ho fun c hc => by
    obtain ⟨cur, hh⟩ := own_typ ho hc
    exact (h.heap hh (by have := (ho.lt c hc).1; omega) ht).trans hh.symm
end

/-- the boxes, the names to draw from, the atoms -/
structure QA (w W : World) (p pn : Nat) (v : Value) (rg : Int) (x y : Value) (us : List UV) : Prop where
  b3 : W.heap[w.heap.size]? = some (.cells #[v] 25 (0, 0))
  b4 : W.heap[w.heap.size + 1]? = some (.cells #[.string ⟨#[]⟩, .slice none 0 0, .int .i64 0, .slice none 0 0] 29 (0, 0))
  b5 : W.heap[p]? = some (.cells #[.string ⟨#[113]⟩, x, .int .i64 rg, y] 29 (0, 0))
  nm : W.heap[pn]? = some (.cells vnC 9 (0, 0))
  own : W.ownsRow (pn + 1) 55 2 y us.length (us.flatMap atc)
  tms : ∀ u ∈ us, W.ownsRow (pn + 1) 89 2 u.2.1 u.2.2.length (u.2.2.flatMap tmc)
  hp : w.heap.size + 2 ≤ p
  hpn : p < pn
section
variable {w W W' : World} {p pn g : Nat} {v : Value} {rg : Int} {x y : Value} {us : List UV}
theorem QA.lt (h : QA w W p pn v rg x y us) : pn < W.heap.size := heap_ltF h.nm
theorem QA.kt (h : QA w W p pn v rg x y us) (k : Kt g pn W W') (hg : g < w.heap.size) : QA w W' p pn v rg x y us :=
  have hp := h.hp
  have hpn := h.hpn
  ⟨k.heap h.b3 (by omega) (by decide), k.heap h.b4 (by omega) (by decide), k.heap h.b5 (by omega) (by decide), (k.block pn h.lt (by omega) fun hh => absurd hh (Nat.lt_irrefl _)).trans h.nm, k.own h.own (by omega) (by decide), fun u hu => k.own (h.tms u hu) (by omega) (by decide), hp, hpn⟩
theorem QA.kc (h : QA w W p pn v rg x y us) (k : Kc g W W') (hg : g < w.heap.size) : QA w W' p pn v rg x y us := h.kt ((Kt.refl g pn W).kc k) hg
theorem QA.bel (h : QA w W p pn v rg x y us) (k : Below W.heap.size W W') (hg : g < w.heap.size) : QA w W' p pn v rg x y us := h.kt ((Kt.refl g pn W).up k) hg
theorem QA.name (h : QA w W p pn v rg x y us) {i : Nat} (hi : i < 6) : W.cell? ⟨pn, i, none⟩ = some (.string (vnQ.getD i noB)) := by
  rw [cell_of_row _ _ _ _ _ _ h.nm]; exact vnC_at i hi
theorem QA.c3 (h : QA w W p pn v rg x y us) : W.cell? ⟨w.heap.size, 0, none⟩ = some v := by rw [cell_of_row _ _ _ _ _ _ h.b3]; rfl
theorem QA.c5 (h : QA w W p pn v rg x y us) : W.cell? ⟨p, 0, none⟩ = some (.string ⟨#[113]⟩) ∧ W.cell? ⟨p, 1, none⟩ = some x ∧ W.cell? ⟨p, 2, none⟩ = some (.int .i64 rg) ∧ W.cell? ⟨p, 3, none⟩ = some y ∧ ∀ o, W.frozen? ⟨p, o, none⟩ = false := by
  refine ⟨?_, ?_, ?_, ?_, fun o => ?_⟩
  · rw [cell_of_row _ _ _ _ _ _ h.b5]; rfl
  · rw [cell_of_row _ _ _ _ _ _ h.b5]; rfl
  · rw [cell_of_row _ _ _ _ _ _ h.b5]; rfl
  · rw [cell_of_row _ _ _ _ _ _ h.b5]; rfl
  · unfold World.frozen?; rw [show W.heap[p]? = _ from h.b5]; simp
/-- an atom more: W1 is where its terms lie, w3 where the list has grown -/
theorem QA.push {w3 : World} {o : Obj} {y' : Value} {u : UV} (h : QA w W p pn v rg x y us) (ht : W.ownsRow (pn + 1) 89 2 u.2.1 u.2.2.length (u.2.2.flatMap tmc)) (hg : (W.alloc o).grownBy w3 y.ownBlock) (hown : w3.ownsRow (pn + 1) 55 2 y' (us.length + 1) (us.flatMap atc ++ atc u)) :
    QA w (w3.setCell ⟨p, 3, none⟩ y') p pn v rg x y' (us ++ [u]) := by
  have hp := h.hp
  have hpn := h.hpn
  have hk : ∀ {b : Nat} {ob : Obj}, W.heap[b]? = some ob → b ≤ pn → w3.heap[b]? = some ob := fun {b ob} hb hle => (kept_of hg (heap_ltF hb) (fun e => by have := (h.own.lt b e.symm).1; omega)).trans hb
  have mv : ∀ {n : Nat} {u : Value} {xs : List Value}, W.ownsRow (pn + 1) 89 2 u n xs → (w3.setCell ⟨p, 3, none⟩ y').ownsRow (pn + 1) 89 2 u n xs := fun {n u xs} ho => own_setN (own_move ho fun c hc => kept_of hg (ho.lt c hc).2 (own_ne h.own (own_typ ho hc) (by decide))) (by omega)
  refine ⟨?_, ?_, ?_, ?_, ?_, fun a ha => ?_, hp, hpn⟩
  · rw [Below.heap_setCell _ _ _ _ (show w.heap.size ≠ p by omega)]; exact hk h.b3 (by omega)
  · rw [Below.heap_setCell _ _ _ _ (show w.heap.size + 1 ≠ p by omega)]; exact hk h.b4 (by omega)
  · rw [heap_setCell_same _ _ _ _ _ _ (hk h.b5 (by omega))]; rfl
  · rw [Below.heap_setCell _ _ _ _ (show pn ≠ p by omega)]; exact hk h.nm (by omega)
  · rw [List.length_append, List.length_singleton, List.flatMap_append, List.flatMap_cons, List.flatMap_nil, List.append_nil]
    exact own_setN hown (by omega)
  · rw [List.mem_append, List.mem_singleton] at ha
    rcases ha with ha | rfl
    · exact mv (h.tms a ha)
    · exact mv ht
end
/-- a list of texts grows, or a box p is stored: the used names stand -/
theorem usd_kt {g pn n : Nat} {a b : World} {v : Value} {xs : List Value} (h : a.ownsRow (pn + 1) 9 1 v n xs) (k : Kc g a b) (hg : g ≤ pn) : b.ownsRow (pn + 1) 9 1 v n xs := own_kcF h k (by omega)
theorem usd_push {W w3 : World} {p pn n m : Nat} {y y' v : Value} {o : Obj} {xs ys : List Value} (h : W.ownsRow (pn + 1) 9 1 v n xs) (hy : W.ownsRow (pn + 1) 55 2 y m ys) (hg : (W.alloc o).grownBy w3 y.ownBlock) (hp : p ≤ pn) : (w3.setCell ⟨p, 3, none⟩ y').ownsRow (pn + 1) 9 1 v n xs :=
  own_setN (own_move h fun c hc => kept_of hg (h.lt c hc).2 (own_ne hy (own_typ h hc) (by decide))) (by omega)

theorem ringQ_at (L : Nat → Int) (n : Nat) (nm : ByteArray) (m : Nat) (s : CSt) : ∀ i, (ringQ L n nm m i s).2.1 ≤ s.1 + i
  | 0 => Nat.le_refl _
  | i + 1 => by
    have h1 := ringQ_at L n nm m s i
    have h2 := pkF_at L n 3 (ringQ L n nm m i s).2
    show (pkF L n 3 (ringQ L n nm m i s).2).2.1 ≤ _
    omega
theorem varQ1_at (L : Nat → Int) (n k j : Nat) (used : List ByteArray) (s : CSt) : (varQ1 L n k j used s).2.1 ≤ s.1 + 2 := by
  have h1 := pkF_at L n k s
  have h2 := pkF_at L n 3 (pkF L n k s).2
  unfold varQ1
  dsimp only
  split
  · show (pkF L n 3 (pkF L n k s).2).2.1 ≤ _; omega
  · show (pkF L n k s).2.1 ≤ _; omega
theorem varQ_at (L : Nat → Int) (n k j : Nat) (last : Bool) (used : List ByteArray) (s : CSt) : (varQ L n k j last used s).2.1 ≤ s.1 + 3 := by
  have h1 := varQ1_at L n k j used s
  have h2 := pkF_at L n 3 (varQ1 L n k j used s).2
  unfold varQ
  dsimp only
  split
  · show (pkF L n 3 (varQ1 L n k j used s).2).2.1 ≤ _; omega
  · omega
theorem termsQ_at (L : Nat → Int) (n k ar : Nat) (la : Bool) (used : List ByteArray) (s : CSt) : ∀ j, (termsQ L n k ar la j used s).2.2.1 ≤ s.1 + j * 5 ∧ (termsQ L n k ar la j used s).2.1.length ≤ used.length + j
  | 0 => ⟨Nat.le_refl _, Nat.le_refl _⟩
  | j + 1 => by
    obtain ⟨h1, h0⟩ := termsQ_at L n k ar la used s j
    rw [termsQ]
    dsimp only
    generalize termsQ L n k ar la j used s = p at *
    have h2 := pkF_at L n 14 p.2.2
    have h3 := pkF_at L n 3 (pkF L n 14 p.2.2).2
    have h4 := varQ_at L n k j (la && decide (j + 1 = ar)) p.2.1 (pkF L n 14 p.2.2).2
    split
    · exact ⟨by show (pkF L n 3 (pkF L n 14 p.2.2).2).2.1 ≤ _; omega, by show p.2.1.length ≤ _; omega⟩
    · exact ⟨by show (varQ L n k j (la && decide (j + 1 = ar)) p.2.1 (pkF L n 14 p.2.2).2).2.1 ≤ _; omega, by show (p.2.1 ++ [_]).length ≤ _; rw [List.length_append, List.length_singleton]; omega⟩
theorem atomsQ_at {m : Nat} {ds : List RelV} (hd : DatG m ds) (hm : 0 < m) (L : Nat → Int) (n k cnt : Nat) (used : List ByteArray) (s : CSt) : ∀ i, (atomsQ L n ds k cnt i used s).2.2.1 ≤ s.1 + i * 16 ∧ (atomsQ L n ds k cnt i used s).2.1.length ≤ used.length + i * 3
  | 0 => ⟨Nat.le_refl _, Nat.le_refl _⟩
  | i + 1 => by
    obtain ⟨h1, h0⟩ := atomsQ_at hd hm L n k cnt used s i
    rw [atomsQ]
    dsimp only
    generalize atomsQ L n ds k cnt i used s = p at *
    have hz := pk_lt L n ds.length p.2.2 (by have := hd.len; omega)
    obtain ⟨r1, r2, r3⟩ := rel_parts (hd.rel (pkF L n ds.length p.2.2).1 (by have := hd.len; omega))
    have h2 := pkF_at L n ds.length p.2.2
    have h3 : (ds.getD (pkF L n ds.length p.2.2).1 noRel).ar.toNat ≤ 3 := by omega
    generalize (ds.getD (pkF L n ds.length p.2.2).1 noRel).ar.toNat = ar at *
    obtain ⟨h4, h5⟩ := termsQ_at L n k ar (decide (i + 1 = cnt)) p.2.1 (pkF L n ds.length p.2.2).2 ar
    exact ⟨by omega, by omega⟩
theorem hdQ_at (L : Nat → Int) (n : Nat) (vs : List ByteArray) (s : CSt) : ∀ i, (hdQ L n vs i s).2.1 ≤ s.1 + i ∧ (hdQ L n vs i s).1.length ≤ i
  | 0 => ⟨Nat.le_refl _, Nat.le_refl _⟩
  | i + 1 => by
    obtain ⟨h1, h0⟩ := hdQ_at L n vs s i
    have h2 := pkF_at L n 5 (hdQ L n vs i s).2
    refine ⟨by show (pkF L n 5 (hdQ L n vs i s).2).2.1 ≤ _; omega, ?_⟩
    show (if _ then _ else _ : List ByteArray).length ≤ _
    split
    · rw [List.length_cons]; omega
    · omega

theorem preQ_at {m : Nat} {ds : List RelV} (hd : DatG m ds) (hm : 0 < m) (L : Nat → Int) (n c : Nat) (s : CSt) (hc : c ≤ 4) : (preQ L n ds c s).2.1 ≤ 4 ∧ (preQ L n ds c s).2.2.1 ≤ s.1 + 10 ∧ (preQ L n ds c s).1.length ≤ 4 := by
  have h1 := pkF_at L n 4 s
  have h2 := pkF_at L n 2 (pkF L n 4 s).2
  have l2 := pk_lt L n 2 (pkF L n 4 s).2 (by omega)
  unfold preQ
  dsimp only
  split
  · have h3 := ringQ_at L n (ds.getD 0 noRel).name (3 + (pkF L n 2 (pkF L n 4 s).2).1) (pkF L n 2 (pkF L n 4 s).2).2 (3 + (pkF L n 2 (pkF L n 4 s).2).1)
    have h4 := (ringQ_ok L n (ds.getD 0 noRel).name (by have := hd.rel 0 (by omega); exact (rel_parts this).1) (3 + (pkF L n 2 (pkF L n 4 s).2).1) (by omega) (by omega) (pkF L n 2 (pkF L n 4 s).2).2 (3 + (pkF L n 2 (pkF L n 4 s).2).1) (by omega)).1
    generalize ringQ L n (ds.getD 0 noRel).name (3 + (pkF L n 2 (pkF L n 4 s).2).1) (3 + (pkF L n 2 (pkF L n 4 s).2).1) (pkF L n 2 (pkF L n 4 s).2).2 = R at *
    have h5 := pkF_at L n 2 R.2
    have l5 := pk_lt L n 2 R.2 (by omega)
    exact ⟨by show (pkF L n 2 R.2).1 ≤ 4; omega, by show (pkF L n 2 R.2).2.1 ≤ _; omega, by show R.1.length ≤ 4; omega⟩
  · exact ⟨by show c ≤ 4; omega, by show (pkF L n 4 s).2.1 ≤ _; omega, by show ([] : List AtomV).length ≤ 4; simp⟩

end Go.Proofs.YtkponghbekpocaaGreatDoor
