import Derived.Laws.OwnMore
import Derived.Lib.OwnKind
import Derived.OneCell
import Derived.Test.YtnmcgbfhgmmcpaaW07
import Derived.Test.YtnmcgbfhgmmcpaaW65
/-
  A list of rows of ints, all made anew, none empty: what the drawing of patterns holds.
-/
namespace Go.Proofs.Ytnmcgbfhgmmcpaa
open Go.RowKit

theorem own_kc {g B n s : Nat} {e : TypeId} {w w' : World} {v : Value} {xs : List Value} (h : w.ownsRow B e s v n xs) (hk : Kc g w w') (hg : g < B) : w'.ownsRow B e s v n xs := by
  have hlt := h.lt
  obtain ⟨h1, h2⟩ := h
  refine ⟨h1, ?_⟩
  rcases h2 with h2 | ⟨c, cap, cur, rfl, hb, hc, hr⟩
  · exact Or.inl h2
  · exact Or.inr ⟨c, cap, cur, rfl, hb, (hk.block c (hlt c rfl).2 (by omega)).trans hc, hr⟩

theorem own_bel {B n s : Nat} {e : TypeId} {w w' : World} {v : Value} {xs : List Value} (h : w.ownsRow B e s v n xs) (hk : Below w.heap.size w w') : w'.ownsRow B e s v n xs := by
  have hlt := h.lt
  obtain ⟨h1, h2⟩ := h
  refine ⟨h1, ?_⟩
  rcases h2 with h2 | ⟨c, cap, cur, rfl, hb, hc, hr⟩
  · exact Or.inl h2
  · exact Or.inr ⟨c, cap, cur, rfl, hb, (hk.block c (hlt c rfl).2).trans hc, hr⟩

/-- a row of ints of its own, not empty -/
def Row1 (w : World) (B : Nat) (u : Value) : Prop := ∃ l : List Int, 0 < l.length ∧ l.length ≤ 8 ∧ w.ownsRow B 3 1 u l.length (l.map (Value.int .i64))

structure Pat (B : Nat) (w : World) (v : Value) (E : List Value) : Prop where
  own : w.ownsRow B 23 1 v E.length E
  rows : ∀ u, u ∈ E → Row1 w B u

theorem Row1.kc {g B : Nat} {w w' : World} {u : Value} (h : Row1 w B u) (hk : Kc g w w') (hg : g < B) : Row1 w' B u := by
  obtain ⟨l, h1, h2, h3⟩ := h
  exact ⟨l, h1, h2, own_kc h3 hk hg⟩
theorem Row1.bel {B : Nat} {w w' : World} {u : Value} (h : Row1 w B u) (hk : Below w.heap.size w w') : Row1 w' B u := by
  obtain ⟨l, h1, h2, h3⟩ := h
  exact ⟨l, h1, h2, own_bel h3 hk⟩
theorem Pat.kc {g B : Nat} {w w' : World} {v : Value} {E : List Value} (h : Pat B w v E) (hk : Kc g w w') (hg : g < B) : Pat B w' v E :=
  ⟨own_kc h.own hk hg, fun u hu => (h.rows u hu).kc hk hg⟩
theorem Pat.bel {B : Nat} {w w' : World} {v : Value} {E : List Value} (h : Pat B w v E) (hk : Below w.heap.size w w') : Pat B w' v E :=
  ⟨own_bel h.own hk, fun u hu => (h.rows u hu).bel hk⟩

theorem kinds_ne {w : World} {B B' n n' s s' : Nat} {e e' : TypeId} {v v' : Value} {xs xs' : List Value} (h : w.ownsRow B e s v n xs) (h' : w.ownsRow B' e' s' v' n' xs') (hne : e ≠ e') : v.ownBlock = none ∨ v.ownBlock ≠ v'.ownBlock := by
  cases hv : v.ownBlock with
  | none => exact Or.inl rfl
  | some g =>
    refine Or.inr (fun e1 => ?_)
    obtain ⟨c, f, h1⟩ := Lib.ownsRow_kind h g hv
    obtain ⟨c', f', h2⟩ := Lib.ownsRow_kind h' g e1.symm
    rw [h1] at h2
    simp only [Option.some.injEq, Obj.cells.injEq] at h2
    exact hne h2.2.1

theorem types_ne : 3 ≠ 23 := by decide

theorem Pat.push {B : Nat} {w w1 : World} {o : Obj} {v v' u : Value} {E : List Value} (h : Pat B w v E) (hown : w1.ownsRow B 23 1 v' (E.length + 1) (E ++ [u])) (hg : (w.alloc o).grownBy w1 v.ownBlock) (hu : Row1 w B u) : Pat B w1 v' (E ++ [u]) := by
  refine ⟨by rw [List.length_append]; exact hown, fun x hx => ?_⟩
  have hx1 : Row1 w B x := by
    rcases List.mem_append.1 hx with hx | hx
    · exact h.rows x hx
    · simp only [List.mem_singleton] at hx
      rw [hx]; exact hu
  obtain ⟨l, h1, h2, h3⟩ := hx1
  exact ⟨l, h1, h2, (h3.alloc o).kept hg (kinds_ne (h3.alloc o) (h.own.alloc o) types_ne)⟩

theorem Pat.put {B g n cap j : Nat} {w : World} {u : Value} {E : List Value} (h : Pat B w (.slice (some ⟨g, 0, none⟩) n cap) E) (hn : n = E.length) (hj : j < n) (hu : Row1 w B u) : Pat B (w.setCell ⟨g, j, none⟩ u) (.slice (some ⟨g, 0, none⟩) n cap) (E.set j u) := by
  subst hn
  refine ⟨by rw [List.length_set]; exact (h.own.stored j u).1, fun x hx => ?_⟩
  have hx1 : Row1 w B x := by
    rcases List.mem_or_eq_of_mem_set hx with hx | hx
    · exact h.rows x hx
    · rw [hx]; exact hu
  obtain ⟨l, h1, h2, h3⟩ := hx1
  refine ⟨l, h1, h2, ownsRow_setCell_other h3 (fun e => ?_) u⟩
  rcases kinds_ne h3 h.own types_ne with e1 | e1
  · rw [e1] at e; cases e
  · exact e1 e

/-- all that is held while a pattern is drawn -/
structure Drawn (W : World) (g : Nat) (a : Option Addr) (n cap k : Nat) (w : World) (v : Value) (E : List Value) : Prop where
  pat : Pat W.heap.size w v E
  cur : Rdr w g a n cap k
  kc : Kc g W w
  gl : g < W.heap.size
  bl : ∀ b o, a = some ⟨b, o, none⟩ → 0 < n → b < W.heap.size

theorem Drawn.mono {W w : World} {g n cap k l : Nat} {a : Option Addr} {v : Value} {E : List Value} (h : Drawn W g a n cap k w v E) (hl : k ≤ l) : Drawn W g a n cap l w v E :=
  ⟨h.pat, h.cur.mono hl, h.kc, h.gl, h.bl⟩
theorem Drawn.turn {W w w' : World} {g n cap k l : Nat} {a : Option Addr} {v : Value} {E : List Value} (h : Drawn W g a n cap k w v E) (hk : Kc g w w') (hc : Rdr w' g a n cap l) : Drawn W g a n cap l w' v E :=
  ⟨h.pat.kc hk h.gl, hc, h.kc.trans hk, h.gl, h.bl⟩
theorem Drawn.bel {W w w' : World} {g n cap k : Nat} {a : Option Addr} {v : Value} {E : List Value} (h : Drawn W g a n cap k w v E) (hb : Below w.heap.size w w') : Drawn W g a n cap k w' v E :=
  ⟨h.pat.bel hb, h.cur.below hb, h.kc.below (hb.mono h.kc.size), h.gl, h.bl⟩
theorem Drawn.push {W w w1 : World} {g n cap k : Nat} {a : Option Addr} {o : Obj} {v v' u : Value} {E : List Value} (h : Drawn W g a n cap k w v E) (hown : w1.ownsRow W.heap.size 23 1 v' (E.length + 1) (E ++ [u])) (hg : (w.alloc o).grownBy w1 v.ownBlock) (hu : Row1 w W.heap.size u) : Drawn W g a n cap k w1 v' (E ++ [u]) := by
  have hs := h.kc.size
  have hb : Below W.heap.size w w1 := ((Below.refl _ w).alloc hs o).grown hg (by simp; omega) (fun j hj => (h.pat.own.lt j hj).1)
  exact ⟨h.pat.push hown hg hu, h.cur.above hb h.gl h.bl, h.kc.below hb, h.gl, h.bl⟩
theorem Drawn.put {W w : World} {g n cap k G c j : Nat} {a : Option Addr} {u : Value} {E : List Value} (h : Drawn W g a n cap k w (.slice (some ⟨G, 0, none⟩) E.length c) E) (hG : W.heap.size ≤ G) (hj : j < E.length) (hu : Row1 w W.heap.size u) : Drawn W g a n cap k (w.setCell ⟨G, j, none⟩ u) (.slice (some ⟨G, 0, none⟩) E.length c) (E.set j u) := by
  have hb : Below W.heap.size w (w.setCell ⟨G, j, none⟩ u) := below_set _ hG _ _
  exact ⟨h.pat.put rfl hj hu, h.cur.above hb h.gl h.bl, h.kc.below hb, h.gl, h.bl⟩

theorem lit_row (w : World) (B : Nat) (l : List Int) (hB : B ≤ w.heap.size) (h0 : 0 < l.length) (h8 : l.length ≤ 8) : Row1 (w.alloc (.cells (l.map (Value.int .i64)).toArray 3)) B (.slice (some ⟨w.heap.size, 0, none⟩) l.length l.length) := by
  refine ⟨l, h0, h8, ?_⟩
  have := World.ownsRow_lit (e := 3) (size := 1) w (l.map (Value.int .i64)).toArray l.length hB (by unfold maxLen; omega) (by simp)
  simpa using this

theorem own_le {w : World} {B C n s : Nat} {e : TypeId} {v : Value} {xs : List Value} (h : w.ownsRow C e s v n xs) (hB : B ≤ C) : w.ownsRow B e s v n xs := by
  refine ⟨h.1, ?_⟩
  rcases h.2 with h0 | ⟨c, cp, cur, h1, h2, h3⟩
  · exact Or.inl h0
  · exact Or.inr ⟨c, cp, cur, h1, by omega, h3⟩

theorem plc_pos {s : Nat → Bool} {q : Nat} (h : ∃ j, j < q ∧ s j = true) : 0 < (plc s q).length := by
  obtain ⟨j, h1, h2⟩ := h
  refine List.length_pos_of_mem (a := Int.ofNat j) ?_
  unfold plc
  exact List.mem_map.2 ⟨j, List.mem_filter.2 ⟨List.mem_range.2 h1, h2⟩, rfl⟩

theorem set_row {w : World} {B C : Nat} {v : Value} {s : Nat → Bool} {q : Nat} (h : w.ownsRow C 3 1 v (plc s q).length ((plc s q).map (Value.int .i64))) (hB : B ≤ C) (hq : q ≤ 8) (hs : ∃ j, j < q ∧ s j = true) : Row1 w B v := by
  have := plc_le s q
  exact ⟨plc s q, plc_pos hs, by omega, own_le h hB⟩

theorem Pat.slice {B : Nat} {w : World} {v : Value} {E : List Value} (h : Pat B w v E) : ∃ b p, v = .slice b E.length p := by
  rcases h.own.2 with ⟨h3, h4⟩ | ⟨g, cp, cur, hv, hb, hc, hr⟩
  · exact ⟨none, 0, by rw [h3, h4]⟩
  · exact ⟨_, _, hv⟩

theorem Try.infoRow : (Try.prog.info? 23).map (fun i => (i.zero, i.size, i.bytes)) = some (some (.slice none 0 0), 1, 24) := by kernel_rfl

theorem Row1.is {B : Nat} {w : World} {u : Value} (h : Row1 w B u) : ∃ l : List Int, 0 < l.length ∧ l.length ≤ 8 ∧ IS w u l := by
  obtain ⟨l, h1, h2, h3⟩ := h
  rcases h3.2 with ⟨rfl, h4⟩ | ⟨g, cp, cur, rfl, hb, hc, hr⟩
  · omega
  · refine ⟨l, h1, h2, _, cp, rfl, Or.inr ⟨g, 0, rfl, fun j hj => ?_⟩⟩
    have := h3.cellAt j (by omega)
    rw [Nat.zero_add, this, List.getElem?_map, List.getElem?_eq_getElem hj]
    simp [List.getD_eq_getElem?_getD, hj]

theorem lit1_is (w : World) (x : Int) : IS (w.alloc (.cells #[.int .i64 x] 3)) (.slice (some ⟨w.heap.size, 0, none⟩) 1 1) [x] := by
  refine ⟨_, 1, rfl, Or.inr ⟨w.heap.size, 0, rfl, fun j hj => ?_⟩⟩
  have : j = 0 := by simp at hj; exact hj
  subst this
  simp

theorem ints_one (l : List Int) : ∀ u ∈ l.map (Value.int .i64), u.oneCell' = true := by
  intro u hu
  obtain ⟨x, _, rfl⟩ := List.mem_map.1 hu
  rfl

theorem Row1.form {B : Nat} {w : World} {u : Value} (h : Row1 w B u) : ∃ g l c, u = .slice (some ⟨g, 0, none⟩) l c := by
  obtain ⟨l, h1, h2, h3⟩ := h
  rcases h3.2 with ⟨_, h4⟩ | ⟨g, cp, cur, hv, _⟩
  · omega
  · exact ⟨g, _, cp, hv⟩

theorem Pat.form {B : Nat} {w : World} {v : Value} {E : List Value} (h : Pat B w v E) (hE : 0 < E.length) : ∃ g cap, v = .slice (some ⟨g, 0, none⟩) E.length cap ∧ B ≤ g ∧ g < w.heap.size := by
  have hlt := h.own.lt
  rcases h.own.2 with ⟨_, h4⟩ | ⟨g, cp, cur, hv, hb, hc, hr⟩
  · omega
  · exact ⟨g, cp, hv, hb, (hlt g (by rw [hv]; rfl)).2⟩

theorem Pat.cell {B g cap : Nat} {w : World} {E : List Value} (h : Pat B w (.slice (some ⟨g, 0, none⟩) E.length cap) E) {j : Nat} (hj : j < E.length) : w.cell? ⟨g, j, none⟩ = some (E.getD j (.slice none 0 0)) ∧ w.frozen? ⟨g, j, none⟩ = false ∧ Row1 w B (E.getD j (.slice none 0 0)) := by
  have e : E[j]? = some (E.getD j (.slice none 0 0)) := by simp [List.getD_eq_getElem?_getD, hj]
  refine ⟨(h.own.cellAt j (by omega)).trans e, h.own.frozenAt j, h.rows _ ?_⟩
  exact List.mem_of_getElem? e

end Go.Proofs.Ytnmcgbfhgmmcpaa

/-
  A pattern and a bag, all made anew; and what is handed out.
-/
namespace Go.Proofs.Ytnmcgbfhgmmcpaa
open Go.RowKit

theorem Row1.block {B : Nat} {w : World} {u : Value} (h : Row1 w B u) : ∃ b, u.ownBlock = some b ∧ B ≤ b ∧ b < w.heap.size := by
  obtain ⟨l, h1, h2, h3⟩ := h
  have hlt := h3.lt
  rcases h3.2 with ⟨_, h4⟩ | ⟨g, cp, cur, hv, _⟩
  · omega
  · have e : u.ownBlock = some g := by rw [hv]; rfl
    exact ⟨g, e, hlt g e⟩

/-- a pattern and a bag, in blocks of their own -/
structure St (W : World) (g : Nat) (a : Option Addr) (n cap k : Nat) (w : World) (vB vE : Value) (E : List Value) : Prop where
  dr : Drawn W g a n cap k w vE E
  bag : Row1 w W.heap.size vB
  apart : ∀ u, u ∈ E → u.ownBlock ≠ vB.ownBlock

theorem St.mono {W w : World} {g n cap k l : Nat} {a : Option Addr} {vB vE : Value} {E : List Value} (h : St W g a n cap k w vB vE E) (hl : k ≤ l) : St W g a n cap l w vB vE E := ⟨h.dr.mono hl, h.bag, h.apart⟩
theorem St.turn {W w w' : World} {g n cap k l : Nat} {a : Option Addr} {vB vE : Value} {E : List Value} (h : St W g a n cap k w vB vE E) (hk : Kc g w w') (hc : Rdr w' g a n cap l) : St W g a n cap l w' vB vE E :=
  ⟨h.dr.turn hk hc, h.bag.kc hk h.dr.gl, h.apart⟩
theorem St.bel {W w w' : World} {g n cap k : Nat} {a : Option Addr} {vB vE : Value} {E : List Value} (h : St W g a n cap k w vB vE E) (hb : Below w.heap.size w w') : St W g a n cap k w' vB vE E :=
  ⟨h.dr.bel hb, h.bag.bel hb, h.apart⟩

theorem Pat.fresh {B : Nat} {w : World} {v vB : Value} {E : List Value} (h : Pat B w v E) (hB : ∀ c, vB.ownBlock = some c → w.heap.size ≤ c) : ∀ u, u ∈ E → u.ownBlock ≠ vB.ownBlock := by
  intro u hu e
  obtain ⟨b, h1, _, h3⟩ := (h.rows u hu).block
  have := hB b (by rw [← e]; exact h1)
  omega

theorem St.newbag {W w w' : World} {g n cap k0 k C : Nat} {a : Option Addr} {vB vE : Value} {E : List Value} {l : List Int} (h : Drawn W g a n cap k0 w vE E) (hd : Drawn W g a n cap k w' vE E) (hC : w.heap.size ≤ C) (hr : w'.ownsRow C 3 1 vB l.length (l.map (Value.int .i64))) (h0 : 0 < l.length) (h8 : l.length ≤ 8) : St W g a n cap k w' vB vE E :=
  ⟨hd, ⟨l, h0, h8, own_le hr (Nat.le_trans h.kc.size hC)⟩, h.pat.fresh (fun c hc => by have := (hr.lt c hc).1; omega)⟩

theorem St.push {W w w1 : World} {g n cap k : Nat} {a : Option Addr} {o : Obj} {vB v v' u : Value} {E : List Value} (h : St W g a n cap k w vB v E) (hown : w1.ownsRow W.heap.size 23 1 v' (E.length + 1) (E ++ [u])) (hg : (w.alloc o).grownBy w1 v.ownBlock) (hu : Row1 w W.heap.size u) (hne : u.ownBlock ≠ vB.ownBlock) : St W g a n cap k w1 vB v' (E ++ [u]) := by
  refine ⟨h.dr.push hown hg hu, ?_, fun x hx => ?_⟩
  · obtain ⟨l, h1, h2, h3⟩ := h.bag
    exact ⟨l, h1, h2, (h3.alloc o).kept hg (kinds_ne (h3.alloc o) (h.dr.pat.own.alloc o) types_ne)⟩
  · rcases List.mem_append.1 hx with hx | hx
    · exact h.apart x hx
    · simp only [List.mem_singleton] at hx
      rw [hx]; exact hne

/-- a new list of the same rows, one ahead -/
theorem St.ahead {W w w1 : World} {g n cap k C : Nat} {a : Option Addr} {vB v v' u : Value} {E : List Value} (h : St W g a n cap k w vB v E) (hb : Below w.heap.size w w1) (hC : w.heap.size ≤ C) (hown : w1.ownsRow C 23 1 v' (1 + E.length) ([u] ++ E)) (hu : Row1 w W.heap.size u) (hne : u.ownBlock ≠ vB.ownBlock) : St W g a n cap k w1 vB v' (u :: E) := by
  have hd := h.bel hb
  have hs := h.dr.kc.size
  refine ⟨⟨⟨?_, fun x hx => ?_⟩, hd.dr.cur, hd.dr.kc, hd.dr.gl, hd.dr.bl⟩, hd.bag, fun x hx => ?_⟩
  · rw [List.length_cons, Nat.add_comm]
    exact own_le hown (by omega)
  · rcases List.mem_cons.1 hx with hx | hx
    · rw [hx]; exact hu.bel hb
    · exact hd.dr.pat.rows x hx
  · rcases List.mem_cons.1 hx with hx | hx
    · rw [hx]; exact hne
    · exact h.apart x hx

/-- rows that are read only -/
theorem rows_iss {w : World} {v : Value} {a : Option Addr} {n cp : Nat} (hv : v = .slice a n cp) (M : Nat) (h : n = 0 ∨ ∃ b o, a = some ⟨b, o, none⟩ ∧ ∀ j, j < n → ∃ u l, w.cell? ⟨b, o + j, none⟩ = some u ∧ IS w u l ∧ l.length ≤ M) : ∃ es : List (List Int), ISS w v es ∧ es.length = n ∧ ∀ j, (es.getD j []).length ≤ M := by
  rcases h with h | ⟨b, o, ha, h⟩
  · exact ⟨[], ⟨a, cp, by rw [hv, h]; rfl, Or.inl rfl⟩, by rw [h]; rfl, fun j => by simp⟩
  · have h' : ∀ j, ∃ l : List Int, j < n → (∃ u, w.cell? ⟨b, o + j, none⟩ = some u ∧ IS w u l) ∧ l.length ≤ M := fun j => by
      by_cases hj : j < n
      · obtain ⟨u, l, h1, h2, h3⟩ := h j hj
        exact ⟨l, fun _ => ⟨⟨u, h1, h2⟩, h3⟩⟩
      · exact ⟨[], fun h => absurd h hj⟩
    have hf := fun j => Classical.choose_spec (h' j)
    have hget : ∀ j, j < n → (((List.range n).map fun j => Classical.choose (h' j)).getD j []) = Classical.choose (h' j) := fun j hj => by
      rw [List.getD_eq_getElem?_getD, List.getElem?_map, List.getElem?_range hj]; rfl
    refine ⟨(List.range n).map fun j => Classical.choose (h' j), ⟨a, cp, by rw [hv]; simp, Or.inr ⟨b, o, ha, fun j hj => ?_⟩⟩, by simp, fun j => ?_⟩
    · have hj' : j < n := by simpa using hj
      obtain ⟨⟨u, h1, h2⟩, _⟩ := hf j hj'
      exact ⟨u, h1, by rw [hget j hj']; exact h2⟩
    · by_cases hj : j < n
      · rw [hget j hj]; exact (hf j hj).2
      · rw [List.getD_eq_getElem?_getD, List.getElem?_eq_none (by simp; omega)]; simp

theorem Pat.iss {B : Nat} {w : World} {v : Value} {E : List Value} (h : Pat B w v E) : ∃ es : List (List Int), ISS w v es ∧ es.length = E.length ∧ ∀ j, (es.getD j []).length ≤ 20 := by
  obtain ⟨b, p, e⟩ := h.slice
  refine rows_iss e 20 ?_
  rcases Nat.eq_zero_or_pos E.length with h0 | h0
  · exact Or.inl h0
  · obtain ⟨g, cap, e', _⟩ := h.form h0
    rw [e] at e'
    simp only [Value.slice.injEq] at e'
    refine Or.inr ⟨g, 0, e'.1, fun j hj => ?_⟩
    have hp : Pat B w (.slice (some ⟨g, 0, none⟩) E.length p) E := by rw [← e'.1, ← e]; exact h
    obtain ⟨c1, _, hr⟩ := hp.cell hj
    obtain ⟨l, _, h2, h3⟩ := hr.is
    exact ⟨_, l, by rw [Nat.zero_add]; exact c1, h3, by omega⟩

/-- what is handed out: a bag and edges, short -/
def Out (w : World) (vB vE : Value) : Prop := ∃ (bag : List Int) (es : List (List Int)), IS w vB bag ∧ ISS w vE es ∧ bag.length ≤ 20 ∧ es.length ≤ 20 ∧ ∀ j, (es.getD j []).length ≤ 20

theorem Row1.out {B : Nat} {w : World} {u : Value} (h : Row1 w B u) : ∃ l : List Int, IS w u l ∧ l.length ≤ 20 := by
  obtain ⟨l, _, h2, h3⟩ := h.is
  exact ⟨l, h3, by omega⟩

theorem row_is {B : Nat} {w : World} {u : Value} {l : List Int} (h : w.ownsRow B 3 1 u l.length (l.map (Value.int .i64))) : IS w u l := by
  rcases h.2 with ⟨rfl, h4⟩ | ⟨g, cp, cur, rfl, hb, hc, hr⟩
  · exact ⟨none, 0, by rw [h4], Or.inl h4⟩
  · refine ⟨_, cp, rfl, Or.inr ⟨g, 0, rfl, fun j hj => ?_⟩⟩
    have := h.cellAt j (by omega)
    rw [Nat.zero_add, this, List.getElem?_map, List.getElem?_eq_getElem hj]
    simp [List.getD_eq_getElem?_getD, hj]

theorem St.out {W w : World} {g n cap k : Nat} {a : Option Addr} {vB vE : Value} {E : List Value} (h : St W g a n cap k w vB vE E) (hE : E.length ≤ 20) : Out w vB vE := by
  obtain ⟨l, h1, h2⟩ := h.bag.out
  obtain ⟨es, h3, h4, h5⟩ := h.dr.pat.iss
  exact ⟨l, es, h1, h3, h2, by omega, h5⟩

end Go.Proofs.Ytnmcgbfhgmmcpaa

/-
  What the last steps of the drawing of bags and edges do.
-/
namespace Go.Proofs.Ytnmcgbfhgmmcpaa
open Go.RowKit

theorem Row1.one {B : Nat} {w : World} {u : Value} (h : Row1 w B u) : u.oneCell' = true := by
  obtain ⟨g, l, c, e⟩ := h.form
  rw [e]; rfl

theorem lit_row' (w : World) (B x : Nat) (l : List Int) (hx : x = w.heap.size) (hB : B ≤ w.heap.size) (h0 : 0 < l.length) (h8 : l.length ≤ 8) : Row1 (w.alloc (.cells (l.map (Value.int .i64)).toArray 3)) B (.slice (some ⟨x, 0, none⟩) l.length l.length) := by
  subst hx; exact lit_row w B l hB h0 h8

theorem al {w : World} (o : Obj) : Below w.heap.size w (w.alloc o) := (Below.refl _ _).alloc (Nat.le_refl _) o

theorem pat_lit {B x : Nat} {w : World} (E : List Value) (hx : x = w.heap.size) (hB : B ≤ w.heap.size) (h : ∀ u, u ∈ E → Row1 w B u) (hl : E.length ≤ 8) : Pat B (w.alloc (.cells E.toArray 23)) (.slice (some ⟨x, 0, none⟩) E.length E.length) E := by
  subst hx
  refine ⟨?_, fun u hu => (h u hu).bel (al _)⟩
  have := World.ownsRow_lit (e := 23) (size := 1) w E.toArray E.length hB (by unfold maxLen; omega) (by simp)
  simpa using this

theorem lits4 {W w : World} {g n cap k : Nat} {a : Option Addr} {v : Value} {E : List Value} (h : Drawn W g a n cap k w v E) :
    ∃ E4 : List Value, E4.length = 4 ∧ St W g a n cap k ((((((w.alloc (.cells #[.int .i64 0, .int .i64 1, .int .i64 2, .int .i64 3] 3)).alloc (.cells #[.int .i64 0, .int .i64 1, .int .i64 2] 3)).alloc (.cells #[.int .i64 0, .int .i64 1, .int .i64 3] 3)).alloc (.cells #[.int .i64 0, .int .i64 2, .int .i64 3] 3)).alloc (.cells #[.int .i64 1, .int .i64 2, .int .i64 3] 3)).alloc (.cells #[.slice (some ⟨w.heap.size + 1, 0, none⟩) 3 3, .slice (some ⟨w.heap.size + 1 + 1, 0, none⟩) 3 3, .slice (some ⟨w.heap.size + 1 + 1 + 1, 0, none⟩) 3 3, .slice (some ⟨w.heap.size + 1 + 1 + 1 + 1, 0, none⟩) 3 3] 23))
      (.slice (some ⟨w.heap.size, 0, none⟩) 4 4) (.slice (some ⟨w.heap.size + 1 + 1 + 1 + 1 + 1, 0, none⟩) 4 4) E4 := by
  have hs := h.kc.size
  have r0 := lit_row' w W.heap.size w.heap.size [0, 1, 2, 3] rfl hs (by decide) (by decide)
  have r1 := lit_row' (w.alloc (.cells #[.int .i64 0, .int .i64 1, .int .i64 2, .int .i64 3] 3)) W.heap.size (w.heap.size + 1) [0, 1, 2] (by simp) (by simp; omega) (by decide) (by decide)
  have r2 := lit_row' ((w.alloc (.cells #[.int .i64 0, .int .i64 1, .int .i64 2, .int .i64 3] 3)).alloc (.cells #[.int .i64 0, .int .i64 1, .int .i64 2] 3)) W.heap.size (w.heap.size + 1 + 1) [0, 1, 3] (by simp) (by simp; omega) (by decide) (by decide)
  have r3 := lit_row' (((w.alloc (.cells #[.int .i64 0, .int .i64 1, .int .i64 2, .int .i64 3] 3)).alloc (.cells #[.int .i64 0, .int .i64 1, .int .i64 2] 3)).alloc (.cells #[.int .i64 0, .int .i64 1, .int .i64 3] 3)) W.heap.size (w.heap.size + 1 + 1 + 1) [0, 2, 3] (by simp) (by simp; omega) (by decide) (by decide)
  have r4 := lit_row' ((((w.alloc (.cells #[.int .i64 0, .int .i64 1, .int .i64 2, .int .i64 3] 3)).alloc (.cells #[.int .i64 0, .int .i64 1, .int .i64 2] 3)).alloc (.cells #[.int .i64 0, .int .i64 1, .int .i64 3] 3)).alloc (.cells #[.int .i64 0, .int .i64 2, .int .i64 3] 3)) W.heap.size (w.heap.size + 1 + 1 + 1 + 1) [1, 2, 3] (by simp) (by simp; omega) (by decide) (by decide)
  have hd := ((((h.bel (al (.cells #[.int .i64 0, .int .i64 1, .int .i64 2, .int .i64 3] 3))).bel (al (.cells #[.int .i64 0, .int .i64 1, .int .i64 2] 3))).bel (al (.cells #[.int .i64 0, .int .i64 1, .int .i64 3] 3))).bel (al (.cells #[.int .i64 0, .int .i64 2, .int .i64 3] 3))).bel (al (.cells #[.int .i64 1, .int .i64 2, .int .i64 3] 3))
  refine ⟨[.slice (some ⟨w.heap.size + 1, 0, none⟩) 3 3, .slice (some ⟨w.heap.size + 1 + 1, 0, none⟩) 3 3, .slice (some ⟨w.heap.size + 1 + 1 + 1, 0, none⟩) 3 3, .slice (some ⟨w.heap.size + 1 + 1 + 1 + 1, 0, none⟩) 3 3], rfl, ⟨⟨?_, (hd.bel (al _)).cur, (hd.bel (al _)).kc, h.gl, h.bl⟩, ?_, ?_⟩⟩
  · refine pat_lit _ (by simp) (by simp; omega) (fun u hu => ?_) (by simp)
    simp only [List.mem_cons, List.not_mem_nil, or_false] at hu
    rcases hu with rfl | rfl | rfl | rfl
    · exact ((r1.bel (al _)).bel (al _)).bel (al _)
    · exact (r2.bel (al _)).bel (al _)
    · exact r3.bel (al _)
    · exact r4
  · exact ((((r0.bel (al _)).bel (al _)).bel (al _)).bel (al _)).bel (al _)
  · intro u hu
    simp only [List.mem_cons, List.not_mem_nil, or_false] at hu
    rcases hu with rfl | rfl | rfl | rfl <;> simp [Value.ownBlock] <;> omega

theorem lits5 {W w : World} {g n cap k : Nat} {a : Option Addr} {v : Value} {E : List Value} (h : Drawn W g a n cap k w v E) :
    ∃ E5 : List Value, E5.length = 5 ∧ St W g a n cap k (((((((w.alloc (.cells #[.int .i64 0, .int .i64 1, .int .i64 2, .int .i64 3, .int .i64 4, .int .i64 5] 3)).alloc (.cells #[.int .i64 0, .int .i64 1, .int .i64 2] 3)).alloc (.cells #[.int .i64 2, .int .i64 3] 3)).alloc (.cells #[.int .i64 3, .int .i64 4, .int .i64 5] 3)).alloc (.cells #[.int .i64 0, .int .i64 5] 3)).alloc (.cells #[.int .i64 1, .int .i64 4] 3)).alloc (.cells #[.slice (some ⟨w.heap.size + 1, 0, none⟩) 3 3, .slice (some ⟨w.heap.size + 1 + 1, 0, none⟩) 2 2, .slice (some ⟨w.heap.size + 1 + 1 + 1, 0, none⟩) 3 3, .slice (some ⟨w.heap.size + 1 + 1 + 1 + 1, 0, none⟩) 2 2, .slice (some ⟨w.heap.size + 1 + 1 + 1 + 1 + 1, 0, none⟩) 2 2] 23))
      (.slice (some ⟨w.heap.size, 0, none⟩) 6 6) (.slice (some ⟨w.heap.size + 1 + 1 + 1 + 1 + 1 + 1, 0, none⟩) 5 5) E5 := by
  have hs := h.kc.size
  have r0 := lit_row' w W.heap.size w.heap.size [0, 1, 2, 3, 4, 5] rfl hs (by decide) (by decide)
  have hd0 := h.bel (al (.cells #[.int .i64 0, .int .i64 1, .int .i64 2, .int .i64 3, .int .i64 4, .int .i64 5] 3))
  have r1 := lit_row' _ W.heap.size (w.heap.size + 1) [0, 1, 2] (by simp) hd0.kc.size (by decide) (by decide)
  have hd1 := hd0.bel (al (.cells #[.int .i64 0, .int .i64 1, .int .i64 2] 3))
  have r2 := lit_row' _ W.heap.size (w.heap.size + 1 + 1) [2, 3] (by simp) hd1.kc.size (by decide) (by decide)
  have hd2 := hd1.bel (al (.cells #[.int .i64 2, .int .i64 3] 3))
  have r3 := lit_row' _ W.heap.size (w.heap.size + 1 + 1 + 1) [3, 4, 5] (by simp) hd2.kc.size (by decide) (by decide)
  have hd3 := hd2.bel (al (.cells #[.int .i64 3, .int .i64 4, .int .i64 5] 3))
  have r4 := lit_row' _ W.heap.size (w.heap.size + 1 + 1 + 1 + 1) [0, 5] (by simp) hd3.kc.size (by decide) (by decide)
  have hd4 := hd3.bel (al (.cells #[.int .i64 0, .int .i64 5] 3))
  have r5 := lit_row' _ W.heap.size (w.heap.size + 1 + 1 + 1 + 1 + 1) [1, 4] (by simp) hd4.kc.size (by decide) (by decide)
  have hd := hd4.bel (al (.cells #[.int .i64 1, .int .i64 4] 3))
  refine ⟨[.slice (some ⟨w.heap.size + 1, 0, none⟩) 3 3, .slice (some ⟨w.heap.size + 1 + 1, 0, none⟩) 2 2, .slice (some ⟨w.heap.size + 1 + 1 + 1, 0, none⟩) 3 3, .slice (some ⟨w.heap.size + 1 + 1 + 1 + 1, 0, none⟩) 2 2, .slice (some ⟨w.heap.size + 1 + 1 + 1 + 1 + 1, 0, none⟩) 2 2], rfl, ⟨⟨?_, (hd.bel (al _)).cur, (hd.bel (al _)).kc, h.gl, h.bl⟩, ?_, ?_⟩⟩
  · refine pat_lit _ (by simp) hd.kc.size (fun u hu => ?_) (by simp)
    simp only [List.mem_cons, List.not_mem_nil, or_false] at hu
    rcases hu with rfl | rfl | rfl | rfl | rfl
    · exact (((r1.bel (al _)).bel (al _)).bel (al _)).bel (al _)
    · exact ((r2.bel (al _)).bel (al _)).bel (al _)
    · exact (r3.bel (al _)).bel (al _)
    · exact r4.bel (al _)
    · exact r5
  · exact (((((r0.bel (al _)).bel (al _)).bel (al _)).bel (al _)).bel (al _)).bel (al _)
  · intro u hu
    simp only [List.mem_cons, List.not_mem_nil, or_false] at hu
    rcases hu with rfl | rfl | rfl | rfl | rfl <;> simp [Value.ownBlock] <;> omega

/-- one more in the bag -/
theorem St.bagpush {W w w1 : World} {g n cap k : Nat} {a : Option Addr} {o : Obj} {vB vE v' : Value} {E : List Value} {l : List Int} {x : Int} (h : St W g a n cap k w vB vE E) (hE : E.length ≤ 20) (hl : l.length ≤ 8) (hB : w.ownsRow W.heap.size 3 1 vB l.length (l.map (Value.int .i64))) (hown : w1.ownsRow W.heap.size 3 1 v' (l.length + 1) (l.map (Value.int .i64) ++ [.int .i64 x])) (hg : (w.alloc o).grownBy w1 vB.ownBlock) : Out w1 v' vE ∧ Kc g W w1 := by
  have hs := h.dr.kc.size
  have hp : Pat W.heap.size w1 vE E := by
    refine ⟨(h.dr.pat.own.alloc o).kept hg (kinds_ne (h.dr.pat.own.alloc o) (hB.alloc o) (Ne.symm types_ne)), fun u hu => ?_⟩
    obtain ⟨l', h1, h2, h3⟩ := h.dr.pat.rows u hu
    exact ⟨l', h1, h2, (h3.alloc o).kept hg (Or.inr (h.apart u hu))⟩
  have hb : Below W.heap.size w w1 := ((Below.refl _ w).alloc hs o).grown hg (by simp; omega) (fun j hj => (hB.lt j hj).1)
  obtain ⟨es, h3, h4, h5⟩ := hp.iss
  refine ⟨⟨l ++ [x], es, row_is (by simpa using hown), h3, by simp; omega, by omega, h5⟩, h.dr.kc.below hb⟩

theorem own_set {w : World} {B n s G j : Nat} {e : TypeId} {v u : Value} {xs : List Value} (h : w.ownsRow B e s v n xs) {B' n' s' c' : Nat} {e' : TypeId} {xs' : List Value} (h' : w.ownsRow B' e' s' (.slice (some ⟨G, 0, none⟩) n' c') n' xs') (hne : e ≠ e') : (w.setCell ⟨G, j, none⟩ u).ownsRow B e s v n xs := by
  refine ownsRow_setCell_other h (fun e0 => ?_) u
  rcases kinds_ne h h' hne with e1 | e1
  · rw [e1] at e0; cases e0
  · exact e1 e0

/-- another first edge -/
theorem St.output {W w : World} {g n cap k G c C : Nat} {a : Option Addr} {vB u : Value} {E : List Value} {l : List Int} (h : St W g a n cap k w vB (.slice (some ⟨G, 0, none⟩) E.length c) E) (hG : W.heap.size ≤ G) (h0 : 0 < E.length) (hE : E.length ≤ 20) (hu : w.ownsRow C 3 1 u l.length (l.map (Value.int .i64))) (hl : l.length ≤ 20) : Out (w.setCell ⟨G, 0, none⟩ u) vB (.slice (some ⟨G, 0, none⟩) E.length c) ∧ Kc g W (w.setCell ⟨G, 0, none⟩ u) := by
  have hb : Below W.heap.size w (w.setCell ⟨G, 0, none⟩ u) := below_set _ hG _ _
  obtain ⟨lb, hb1, hb2, hb3⟩ := h.bag
  have hown := (h.dr.pat.own.stored 0 u).1
  obtain ⟨es, h3, h4, h5⟩ := rows_iss (w := w.setCell ⟨G, 0, none⟩ u) (v := .slice (some ⟨G, 0, none⟩) E.length c) rfl 20 (Or.inr ⟨G, 0, rfl, fun j hj => by
    have e1 := hown.cellAt j (by omega)
    rw [Nat.zero_add]
    by_cases hj0 : j = 0
    · subst hj0
      exact ⟨u, l, by rw [e1]; simp [h0], row_is (own_set hu h.dr.pat.own types_ne), hl⟩
    · obtain ⟨l', h1, h2, h3⟩ := h.dr.pat.rows (E.getD j (.slice none 0 0)) (by
        refine List.mem_of_getElem? (i := j) ?_
        simp [List.getD_eq_getElem?_getD, hj])
      refine ⟨E.getD j (.slice none 0 0), l', ?_, row_is (own_set h3 h.dr.pat.own types_ne), by omega⟩
      rw [e1, List.getElem?_set_ne (fun e => hj0 e.symm)]
      simp [List.getD_eq_getElem?_getD, hj]⟩)
  exact ⟨⟨lb, es, row_is (own_set hb3 h.dr.pat.own types_ne), h3, by omega, by omega, h5⟩, h.dr.kc.below hb⟩

/-- all edges but the first -/
theorem St.tail {W w : World} {g n cap k G c c' : Nat} {a : Option Addr} {vB : Value} {E : List Value} (h : St W g a n cap k w vB (.slice (some ⟨G, 0, none⟩) E.length c) E) (hE : E.length ≤ 20) {m : Nat} (hm : E.length = m + 1) : Out w vB (.slice (some ⟨G, 1, none⟩) m c') := by
  obtain ⟨l, h1, h2⟩ := h.bag.out
  obtain ⟨es, h3, h4, h5⟩ := rows_iss (w := w) (v := .slice (some ⟨G, 1, none⟩) m c') rfl 20 (Or.inr ⟨G, 1, rfl, fun j hj => by
    obtain ⟨c1, _, hr⟩ := h.dr.pat.cell (j := 1 + j) (by omega)
    obtain ⟨l', _, h2, h3⟩ := hr.is
    exact ⟨_, l', c1, h3, by omega⟩⟩)
  exact ⟨l, es, h1, h3, h2, by omega, h5⟩

/-- another bag -/
theorem Drawn.out {W w : World} {g n cap k C : Nat} {a : Option Addr} {vB vE : Value} {E : List Value} {l : List Int} (h : Drawn W g a n cap k w vE E) (hE : E.length ≤ 20) (hB : w.ownsRow C 3 1 vB l.length (l.map (Value.int .i64))) (hl : l.length ≤ 20) : Out w vB vE := by
  obtain ⟨es, h3, h4, h5⟩ := h.pat.iss
  exact ⟨l, es, row_is hB, h3, hl, by omega, h5⟩

end Go.Proofs.Ytnmcgbfhgmmcpaa
