import Derived.Test.YtoikfjhgeceimabSj28
/-
  impl: (trie).has.
-/
namespace Go.Proofs.Ytoikfjhgeceimab
open Go.RowKit Meet

theorem node_calls {w : World} {B : Nat} {D : List Int → Prop} {N : List Int → List Int} {f : List Int → Nat} {g0 g1 : List Int → Value} {rows : List (List Int)} (hM : TM rows D N) (hT : TR w B D N N f g0 g1) (hK : ∀ p, D p → (N p).length ≤ 1000000) {p : List Int} (hp : D p) (h0 : 0 < (N p).length) (x : Int) :
    Calls Try.prog 133 #[.pointer (some ⟨f p, 0, none⟩), .int .i64 x] w fun e w' => e = .returned (.pointer (if x ∈ N p then some ⟨f (p ++ [x]), 0, none⟩ else none)) ∧ Below w.heap.size w w' := by
  obtain ⟨ga, ca, ea, -⟩ := own_at (hT.o0 p hp) h0
  obtain ⟨gb, cb, eb, -⟩ := own_at (hT.o1 p hp) h0
  have hca : (N p).length ≤ ca := by
    rcases (hT.o0 p hp).2 with ⟨-, h2⟩ | ⟨g, cap, cur, e, -, -, hn, -⟩
    · omega
    · rw [ea] at e
      simp only [Value.slice.injEq] at e
      omega
  refine under_calls w (f p) ga ca gb cb (N p) (fun y => f (p ++ [y])) x (by rw [hT.c0 hp, ea]) (by rw [hT.c1 hp, eb]) (fun j hj => ?_) (fun j hj => ?_) h0 (hK p hp) hca (asc_of (hM.asc p hp))
  · obtain ⟨g, c, e, h1⟩ := own_at (hT.o0 p hp) hj
    rw [ea] at e
    simp only [Value.slice.injEq, Option.some.injEq, Addr.mk.injEq] at e
    rw [e.1.1, h1, List.getElem?_map, List.getElem?_eq_getElem hj, List.getD_eq_getElem?_getD, List.getElem?_eq_getElem hj]
    rfl
  · obtain ⟨g, c, e, h1⟩ := own_at (hT.o1 p hp) hj
    rw [eb] at e
    simp only [Value.slice.injEq, Option.some.injEq, Addr.mk.injEq] at e
    rw [e.1.1, h1, List.getElem?_map, List.getElem?_eq_getElem hj, List.getD_eq_getElem?_getD, List.getElem?_eq_getElem hj]
    rfl

/-- the node behind some values, if there is one -/
def Nd (D : List Int → Prop) (f : List Int → Nat) (p : List Int) (c : Option Addr) : Prop := D p ∧ c = some ⟨f p, 0, none⟩ ∨ ¬ D p ∧ c = none

set_option maxHeartbeats 2000000 in
set_option maxRecDepth 1000000 in
theorem has_calls (w : World) (B : Nat) (D : List Int → Prop) (N : List Int → List Int) (f : List Int → Nat) (g0 g1 : List Int → Value) (rows : List (List Int)) (L : Nat) (vr : Value) (q : List Int) (hM : TM rows D N) (hT : TR w B D N N f g0 g1) (hK : ∀ p, D p → (N p).length ≤ 1000000)
    (hl : ∀ r ∈ rows, r.length = L) (hn : rows ≠ []) (hr : IS w vr q) (hq : q.length = L) (hL : L ≤ 1000) :
    Calls Try.prog 99 #[.pointer (some ⟨f [], 0, none⟩), vr] w fun e w' => e = .returned (.bool (decide (q ∈ rows))) ∧ Below w.heap.size w w' := by
  obtain ⟨ar, cr, rfl, hc⟩ := hr
  have HC : Hid (∀ W, Below w.heap.size w W → ∀ j, j < q.length → ∃ (b o : Nat), ar = some ⟨b, o, none⟩ ∧ W.cell? ⟨b, o + j, none⟩ = some (.int .i64 (q.getD j 0))) := hid fun W hW j hj => by
    rcases hc with h0 | ⟨b, o, rfl, h⟩
    · omega
    · exact ⟨b, o, rfl, (hW.cell (World.block_lt_of_cell? w _ (h j hj))).trans (h j hj)⟩
  have KU : Hid (∀ W j, Below w.heap.size w W → j < q.length → D (q.take j) → Calls Try.prog 133 #[.pointer (some ⟨f (q.take j), 0, none⟩), .int .i64 (q.getD j 0)] W fun e w' => ∃ c, e = .returned (.pointer c) ∧ Nd D f (q.take (j + 1)) c ∧ Below W.heap.size W w') := hid fun W j hW hj hd => by
    refine (node_calls hM (hT.below hW) hK hd (hM.more hl hn (by rw [List.length_take]; omega) hd) (q.getD j 0)).mono ?_
    rintro e w' ⟨rfl, hb⟩
    refine ⟨_, rfl, ?_, hb⟩
    unfold Nd
    rw [take_snoc hj, ← hM.mem _ hd]
    by_cases hx : q.getD j 0 ∈ N (q.take j)
    · exact Or.inl ⟨hx, by rw [if_pos hx]⟩
    · exact Or.inr ⟨hx, by rw [if_neg hx]⟩
  have HN : Hid (∀ j, ¬ D (q.take j) → decide (q ∈ rows) = false) := hid fun j hj => decide_eq_false fun hm => hj (hM.pre ((hM.row hl hn hq).2 hm) (List.take_prefix _ _))
  have HE : Hid (∀ c, Nd D f (q.take q.length) c → c.isSome = decide (q ∈ rows)) := hid fun c hc => by
    rw [List.take_length] at hc
    rcases hc with ⟨h1, rfl⟩ | ⟨h1, rfl⟩
    · rw [decide_eq_true ((hM.row hl hn hq).1 h1)]; rfl
    · rw [decide_eq_false (fun hm => h1 ((hM.row hl hn hq).2 hm))]; rfl
  have HS : Hid (Nd D f (q.take 0) (some ⟨f [], 0, none⟩)) := hid (Or.inl ⟨hM.root, rfl⟩)
  generalize decide (q ∈ rows) = ans at *
  have hn' : q.length ≤ 1000 := by omega
  clear hM hT hK hl hn hc hq hL
  obtain ⟨n, hnn⟩ : ∃ n, n = q.length := ⟨_, rfl⟩
  rw [← hnn] at HC KU HE hn' ⊢
  clear hnn
  generalize f [] = fr at *
  go_enter Try.func99, Try.ntmps99
  go_wp2_with fail
  go_loopw [0, 9] (fun u t wr => ∃ (j : Nat) (c : Option Addr), j ≤ n ∧ t = .int .i64 j ∧ u = .pointer c ∧ Hid (Nd D f (q.take j) c ∧ Below w.heap.size w wr)) (fun _ t _ => n - (intOf t).toNat)
  case atStart => exact ⟨0, _, Nat.zero_le _, rfl, rfl, hid ⟨HS.out, Below.refl _ _⟩⟩
  case round =>
    clear HS
    obtain ⟨j, c, hj, rfl, rfl, HT⟩ := hrel
    by_cases hjn : j < n
    · have i1 : (j : Int) < (n : Int) := by omega
      obtain ⟨b, o, ea, e1⟩ := HC.out wr HT.out.2 j hjn
      subst ea
      rcases HT.out.1 with ⟨hd, hcc⟩ | ⟨hd, hcc⟩
      · subst hcc
        have KU1 := hid (KU.out wr j HT.out.2 hjn hd)
        have HB := hid HT.out.2
        clear HT KU HC hd HN HE
        generalize q.getD j 0 = x at *
        generalize f (q.take j) = fj at *
        go_wp2_with fail
        refine KU1.out.mono ?_
        rintro e w2 ⟨c2, rfl, hN2, hb2⟩
        have HN2 := hid (And.intro hN2 (bt HB.out hb2))
        clear hN2 hb2 KU1
        go_wp2_with fail
        go_roundw
        case rel => exact ⟨j + 1, _, by omega, by go_num, rfl, HN2⟩
        case measure => simp [intOf]; omega
      · subst hcc
        have hans := HN.out j hd
        subst hans
        clear KU HC hd HN HE
        generalize q.getD j 0 = x at *
        go_wp2_with fail
        go_ret
        exact ⟨rfl, HT.out.2⟩
    · obtain rfl : j = n := by omega
      have i1 : ¬ ((j : Int) < (j : Int)) := by omega
      have hans := HE.out c HT.out.1
      subst hans
      have HB := hid HT.out.2
      clear HT HE HN KU HC
      cases c with
      | none =>
        go_wp2_with fail
        go_ret
        exact ⟨rfl, HB.out⟩
      | some a =>
        go_wp2_with fail
        go_ret
        exact ⟨rfl, HB.out⟩

end Go.Proofs.Ytoikfjhgeceimab
