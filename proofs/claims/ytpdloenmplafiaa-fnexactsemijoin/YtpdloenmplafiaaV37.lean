import Derived.Test.YtpdloenmplafiaaV36
/-
  impl: (trie).under.
-/
namespace Go.Proofs.Ytpdloenmplafiaa
open Go.RowKit Meet

set_option maxHeartbeats 2000000 in
set_option maxRecDepth 1000000 in
theorem under_calls (w : World) (tb fb cap gb cb : Nat) (l : List Int) (k : Int → Nat) (x : Int) (hv : w.cell? ⟨tb, 0, none⟩ = some (.slice (some ⟨fb, 0, none⟩) l.length cap)) (hb : w.cell? ⟨tb, 1, none⟩ = some (.slice (some ⟨gb, 0, none⟩) l.length cb))
    (ho : ∀ j, j < l.length → w.cell? ⟨fb, j, none⟩ = some (.int .i64 (l.getD j 0))) (hp : ∀ j, j < l.length → w.cell? ⟨gb, j, none⟩ = some (.pointer (some ⟨k (l.getD j 0), 0, none⟩)))
    (h0 : 0 < l.length) (hl : l.length ≤ 1000000) (hcl : l.length ≤ cap) (ha : Asc l) :
    Calls Try.prog 125 #[.pointer (some ⟨tb, 0, none⟩), .int .i64 x] w fun e w' => e = .returned (.pointer (if x ∈ l then some ⟨k x, 0, none⟩ else none)) ∧ Below w.heap.size w w' := by
  obtain ⟨W1, hW1⟩ : ∃ W1, W1 = w.alloc (.cells #[.pointer (some ⟨tb, 0, none⟩), .int .i64 0] 191) := ⟨_, rfl⟩
  have hB1 : Below w.heap.size w W1 := by rw [hW1]; exact (Below.refl _ _).alloc (Nat.le_refl _) _
  have hc : ∀ {a : Addr} {v : Value}, w.cell? a = some v → W1.cell? a = some v := fun {a v} h => (hB1.cell (World.block_lt_of_cell? w _ h)).trans h
  have C1 : Cq W1 w.heap.size 0 tb fb cap (.slice (some ⟨gb, 0, none⟩) l.length cb) l 0 := ⟨by rw [hW1, World.cell?_alloc_at _ _ _ _ rfl]; rfl, by rw [hW1, World.cell?_alloc_at _ _ _ _ rfl]; rfl, by rw [hW1]; unfold World.frozen?; rw [heap_alloc_new]; simp, hc hv, hc hb, fun j hj => hc (ho j hj)⟩
  have KS := hid (seekq_calls W1 w.heap.size 0 tb fb cap _ l 0 x C1 (by omega) hcl h0 ha)
  rw [List.drop_zero, Nat.zero_add, Nat.zero_add] at KS
  obtain ⟨q, hq⟩ : ∃ q, q = bsQ l x := ⟨_, rfl⟩
  have hs1 := hB1.size
  have hq1 := (bsQ_spec (up_of_asc ha) x).1
  have H2 : Hid (∀ d, Cq ((W1.drewN d).setCell ⟨w.heap.size, 1, none⟩ (.int .i64 q)) w.heap.size 0 tb fb cap (.slice (some ⟨gb, 0, none⟩) l.length cb) l q ∧ Below w.heap.size w ((W1.drewN d).setCell ⟨w.heap.size, 1, none⟩ (.int .i64 q)) ∧ ∀ j, j < l.length → ((W1.drewN d).setCell ⟨w.heap.size, 1, none⟩ (.int .i64 q)).cell? ⟨gb, j, none⟩ = some (.pointer (some ⟨k (l.getD j 0), 0, none⟩))) := hid fun d => by
    have hB2 : Below w.heap.size w ((W1.drewN d).setCell ⟨w.heap.size, 1, none⟩ (.int .i64 q)) := (below_drewN hB1 d).setCell (Nat.le_refl _) _
    have hc2 : ∀ {a : Addr} {v : Value}, w.cell? a = some v → ((W1.drewN d).setCell ⟨w.heap.size, 1, none⟩ (.int .i64 q)).cell? a = some v := fun {a v} h => (hB2.cell (World.block_lt_of_cell? w _ h)).trans h
    have hh : ((W1.drewN d).setCell ⟨w.heap.size, 1, none⟩ (.int .i64 q)).heap[w.heap.size]? = some (.cells #[.pointer (some ⟨tb, 0, none⟩), .int .i64 q] 191 (0, 0)) := by
      rw [heap_setCell_same (W1.drewN d) w.heap.size 1 #[.pointer (some ⟨tb, 0, none⟩), .int .i64 0] 191 _ (by rw [hW1]; exact heap_alloc_new _ _)]
      rfl
    refine ⟨⟨?_, ?_, ?_, hc2 hv, hc2 hb, fun j hj => hc2 (ho j hj)⟩, hB2, fun j hj => hc2 (hp j hj)⟩
    · rw [cell_of_row _ _ _ _ _ _ hh]; rfl
    · rw [cell_of_row _ _ _ _ _ _ hh]; rfl
    · unfold World.frozen?; rw [hh]; simp
  clear C1 hc hB1 hs1 hv hb ho hp
  rw [← hq] at KS hq1
  have KE : Hid (∀ W, Cq W w.heap.size 0 tb fb cap (.slice (some ⟨gb, 0, none⟩) l.length cb) l q → Calls Try.prog 157 #[.pointer (some ⟨w.heap.size, 0, none⟩)] W fun e w' => e = .returned (.bool (decide (q = l.length))) ∧ ∃ d, w' = W.drewN d) := hid fun W hW => endedq_calls W _ _ _ _ _ _ _ _ hW
  by_cases hlt : q < l.length
  · have KV : Hid (∀ W, Cq W w.heap.size 0 tb fb cap (.slice (some ⟨gb, 0, none⟩) l.length cb) l q → Calls Try.prog 158 #[.pointer (some ⟨w.heap.size, 0, none⟩)] W fun e w' => e = .returned (.int .i64 (l.getD q 0)) ∧ ∃ d, w' = W.drewN d) := hid fun W hW => valueq_calls W _ _ _ _ _ _ _ _ hW hlt
    have KB : Hid (∀ W, Cq W w.heap.size 0 tb fb cap (.slice (some ⟨gb, 0, none⟩) l.length cb) l q → W.cell? ⟨gb, q, none⟩ = some (.pointer (some ⟨k (l.getD q 0), 0, none⟩)) → Calls Try.prog 159 #[.pointer (some ⟨w.heap.size, 0, none⟩)] W fun e w' => e = .returned (.pointer (some ⟨k (l.getD q 0), 0, none⟩)) ∧ ∃ d, w' = W.drewN d) := hid fun W hW hy => belowq_calls W _ _ _ _ _ _ _ _ _ _ _ hW hlt hy
    rw [decide_eq_false (by omega)] at KE
    have HX : Hid ((if x ∈ l then some (⟨k x, 0, none⟩ : Addr) else none) = if l.getD q 0 = x then some ⟨k x, 0, none⟩ else none) := hid (by
      by_cases hx : x ∈ l
      · have := (bs_hit ha hx).2
        rw [← hq] at this
        rw [if_pos hx, if_pos this]
      · have := bs_miss hx (by rw [← hq]; exact hlt)
        rw [← hq] at this
        rw [if_neg hx, if_neg this])
    rw [HX.out]
    have HP : Hid (∀ d, ((W1.drewN d).setCell ⟨w.heap.size, 1, none⟩ (.int .i64 q)).cell? ⟨gb, q, none⟩ = some (.pointer (some ⟨k (l.getD q 0), 0, none⟩))) := hid fun d => (H2.out d).2.2 q hlt
    clear HX ha hq hq1 h0 hl hcl hlt
    generalize l.getD q 0 = y at *
    by_cases e : y = x
    · subst e
      rw [if_pos rfl]
      go_enter Try.func125, Try.ntmps125
      go_upto_region 2 with fail
      rw [← hW1]
      clear hW1
      go_wp2_with fail
      refine KS.out.mono ?_
      rintro e w2 ⟨⟨v, rfl⟩, d, hw2⟩
      obtain ⟨HC2, HB2, -⟩ := H2.out d
      have hP := HP.out d
      rw [← hw2] at HC2 HB2 hP
      have KE2 := hid (KE.out w2 HC2)
      clear H2 HP hw2 KS KE
      go_wp2_with fail
      refine KE2.out.mono ?_
      rintro e w3 ⟨rfl, d3, rfl⟩
      have KV3 := hid (KV.out _ (HC2.drewN d3))
      clear KE2 KV
      go_wp2_with fail
      refine KV3.out.mono ?_
      rintro e w4 ⟨rfl, d4, rfl⟩
      have KB4 := hid (KB.out _ (HC2.drewN (d3 + d4)) hP)
      clear KV3 KB
      go_wp2_with fail
      refine KB4.out.mono ?_
      rintro e w5 ⟨rfl, d5, rfl⟩
      go_wp2_with fail
      go_ret
      exact ⟨rfl, below_drewN HB2 _⟩
    · rw [if_neg e]
      go_enter Try.func125, Try.ntmps125
      go_upto_region 2 with fail
      rw [← hW1]
      clear hW1
      go_wp2_with fail
      refine KS.out.mono ?_
      rintro e w2 ⟨⟨v, rfl⟩, d, hw2⟩
      obtain ⟨HC2, HB2, -⟩ := H2.out d
      rw [← hw2] at HC2 HB2
      have KE2 := hid (KE.out w2 HC2)
      clear H2 HP hw2 KS KE
      go_wp2_with fail
      refine KE2.out.mono ?_
      rintro e w3 ⟨rfl, d3, rfl⟩
      have KV3 := hid (KV.out _ (HC2.drewN d3))
      clear KE2 KV
      go_wp2_with fail
      refine KV3.out.mono ?_
      rintro e w4 ⟨rfl, d4, rfl⟩
      go_wp2_with fail
      go_ret
      exact ⟨rfl, below_drewN HB2 _⟩
  · have hx : x ∉ l := fun hx => by have := (bs_hit ha hx).1; omega
    rw [if_neg hx]
    rw [decide_eq_true (by omega)] at KE
    clear ha hq h0 hl hcl hx
    go_enter Try.func125, Try.ntmps125
    go_upto_region 2 with fail
    rw [← hW1]
    clear hW1
    go_wp2_with fail
    refine KS.out.mono ?_
    rintro e w2 ⟨⟨v, rfl⟩, d, hw2⟩
    obtain ⟨HC2, HB2, -⟩ := H2.out d
    rw [← hw2] at HC2 HB2
    have KE2 := hid (KE.out w2 HC2)
    clear H2 hw2 KS KE
    go_wp2_with fail
    refine KE2.out.mono ?_
    rintro e w3 ⟨rfl, d3, rfl⟩
    go_wp2_with fail
    go_ret
    exact ⟨rfl, below_drewN HB2 _⟩

end Go.Proofs.Ytpdloenmplafiaa

/-
  impl: (trie).has.
-/
namespace Go.Proofs.Ytpdloenmplafiaa
open Go.RowKit Meet

theorem node_calls {w : World} {B : Nat} {D : List Int → Prop} {N : List Int → List Int} {f : List Int → Nat} {g0 g1 : List Int → Value} {rows : List (List Int)} (hM : TM rows D N) (hT : TR w B D N N f g0 g1) (hK : ∀ p, D p → (N p).length ≤ 1000000) {p : List Int} (hp : D p) (h0 : 0 < (N p).length) (x : Int) :
    Calls Try.prog 125 #[.pointer (some ⟨f p, 0, none⟩), .int .i64 x] w fun e w' => e = .returned (.pointer (if x ∈ N p then some ⟨f (p ++ [x]), 0, none⟩ else none)) ∧ Below w.heap.size w w' := by
  obtain ⟨ga, ca, ea, -⟩ := own_at (hT.o0 p hp) h0
  obtain ⟨gb, cb, eb, -⟩ := own_at (hT.o1 p hp) h0
  have hca : (N p).length ≤ ca := by
    rcases (hT.o0 p hp).2 with ⟨-, h2⟩ | ⟨g, cap, cur, e, -, -, hn, -⟩
    · omega
    · rw [ea] at e
      simp only [Value.slice.injEq] at e
      omega
  refine under_calls w (f p) ga ca gb cb (N p) (fun y => f (p ++ [y])) x (by rw [hT.c0 hp, ea]) (by rw [hT.c1 hp, eb]) (fun j hj => ?_) (fun j hj => ?_) h0 (hK p hp) hca (asc_of (hM.asc p hp))
  · obtain ⟨g, c, e, h1⟩ := own_at (hT.o0 p hp) hj
    rw [ea] at e
    simp only [Value.slice.injEq, Option.some.injEq, Addr.mk.injEq] at e
    rw [e.1.1, h1, List.getElem?_map, List.getElem?_eq_getElem hj, List.getD_eq_getElem?_getD, List.getElem?_eq_getElem hj]
    rfl
  · obtain ⟨g, c, e, h1⟩ := own_at (hT.o1 p hp) hj
    rw [eb] at e
    simp only [Value.slice.injEq, Option.some.injEq, Addr.mk.injEq] at e
    rw [e.1.1, h1, List.getElem?_map, List.getElem?_eq_getElem hj, List.getD_eq_getElem?_getD, List.getElem?_eq_getElem hj]
    rfl

/-- the node behind some values, if there is one -/
def Nd (D : List Int → Prop) (f : List Int → Nat) (p : List Int) (c : Option Addr) : Prop := D p ∧ c = some ⟨f p, 0, none⟩ ∨ ¬ D p ∧ c = none

set_option maxHeartbeats 2000000 in
set_option maxRecDepth 1000000 in
theorem has_calls (w : World) (B : Nat) (D : List Int → Prop) (N : List Int → List Int) (f : List Int → Nat) (g0 g1 : List Int → Value) (rows : List (List Int)) (L : Nat) (vr : Value) (q : List Int) (hM : TM rows D N) (hT : TR w B D N N f g0 g1) (hK : ∀ p, D p → (N p).length ≤ 1000000)
    (hl : ∀ r ∈ rows, r.length = L) (hn : rows ≠ []) (hr : IS w vr q) (hq : q.length = L) (hL : L ≤ 1000) :
    Calls Try.prog 83 #[.pointer (some ⟨f [], 0, none⟩), vr] w fun e w' => e = .returned (.bool (decide (q ∈ rows))) ∧ Below w.heap.size w w' := by
  obtain ⟨ar, cr, rfl, hc⟩ := hr
  have HC : Hid (∀ W, Below w.heap.size w W → ∀ j, j < q.length → ∃ (b o : Nat), ar = some ⟨b, o, none⟩ ∧ W.cell? ⟨b, o + j, none⟩ = some (.int .i64 (q.getD j 0))) := hid fun W hW j hj => by
    rcases hc with h0 | ⟨b, o, rfl, h⟩
    · omega
    · exact ⟨b, o, rfl, (hW.cell (World.block_lt_of_cell? w _ (h j hj))).trans (h j hj)⟩
  have KU : Hid (∀ W j, Below w.heap.size w W → j < q.length → D (q.take j) → Calls Try.prog 125 #[.pointer (some ⟨f (q.take j), 0, none⟩), .int .i64 (q.getD j 0)] W fun e w' => ∃ c, e = .returned (.pointer c) ∧ Nd D f (q.take (j + 1)) c ∧ Below W.heap.size W w') := hid fun W j hW hj hd => by
    refine (node_calls hM (hT.below hW) hK hd (hM.more hl hn (by rw [List.length_take]; omega) hd) (q.getD j 0)).mono ?_
    rintro e w' ⟨rfl, hb⟩
    refine ⟨_, rfl, ?_, hb⟩
    unfold Nd
    rw [take_snoc hj, ← hM.mem _ hd]
    by_cases hx : q.getD j 0 ∈ N (q.take j)
    · exact Or.inl ⟨hx, by rw [if_pos hx]⟩
    · exact Or.inr ⟨hx, by rw [if_neg hx]⟩
  have HN : Hid (∀ j, ¬ D (q.take j) → decide (q ∈ rows) = false) := hid fun j hj => decide_eq_false fun hm => hj (hM.pre ((hM.row hl hn hq).2 hm) (List.take_prefix _ _))
  have HE : Hid (∀ c, Nd D f (q.take q.length) c → c.isSome = decide (q ∈ rows)) := hid fun c hc => by
    rw [List.take_length] at hc
    rcases hc with ⟨h1, rfl⟩ | ⟨h1, rfl⟩
    · rw [decide_eq_true ((hM.row hl hn hq).1 h1)]; rfl
    · rw [decide_eq_false (fun hm => h1 ((hM.row hl hn hq).2 hm))]; rfl
  have HS : Hid (Nd D f (q.take 0) (some ⟨f [], 0, none⟩)) := hid (Or.inl ⟨hM.root, rfl⟩)
  generalize decide (q ∈ rows) = ans at *
  have hn' : q.length ≤ 1000 := by omega
  clear hM hT hK hl hn hc hq hL
  obtain ⟨n, hnn⟩ : ∃ n, n = q.length := ⟨_, rfl⟩
  rw [← hnn] at HC KU HE hn' ⊢
  clear hnn
  generalize f [] = fr at *
  go_enter Try.func83, Try.ntmps83
  go_wp2_with fail
  go_loopw [0, 9] (fun u t wr => ∃ (j : Nat) (c : Option Addr), j ≤ n ∧ t = .int .i64 j ∧ u = .pointer c ∧ Hid (Nd D f (q.take j) c ∧ Below w.heap.size w wr)) (fun _ t _ => n - (intOf t).toNat)
  case atStart => exact ⟨0, _, Nat.zero_le _, rfl, rfl, hid ⟨HS.out, Below.refl _ _⟩⟩
  case round =>
    clear HS
    obtain ⟨j, c, hj, rfl, rfl, HT⟩ := hrel
    by_cases hjn : j < n
    · have i1 : (j : Int) < (n : Int) := by omega
      obtain ⟨b, o, ea, e1⟩ := HC.out wr HT.out.2 j hjn
      subst ea
      rcases HT.out.1 with ⟨hd, hcc⟩ | ⟨hd, hcc⟩
      · subst hcc
        have KU1 := hid (KU.out wr j HT.out.2 hjn hd)
        have HB := hid HT.out.2
        clear HT KU HC hd HN HE
        generalize q.getD j 0 = x at *
        generalize f (q.take j) = fj at *
        go_wp2_with fail
        refine KU1.out.mono ?_
        rintro e w2 ⟨c2, rfl, hN2, hb2⟩
        have HN2 := hid (And.intro hN2 (bt HB.out hb2))
        clear hN2 hb2 KU1
        go_wp2_with fail
        go_roundw
        case rel => exact ⟨j + 1, _, by omega, by go_num, rfl, HN2⟩
        case measure => simp [intOf]; omega
      · subst hcc
        have hans := HN.out j hd
        subst hans
        clear KU HC hd HN HE
        generalize q.getD j 0 = x at *
        go_wp2_with fail
        go_ret
        exact ⟨rfl, HT.out.2⟩
    · obtain rfl : j = n := by omega
      have i1 : ¬ ((j : Int) < (j : Int)) := by omega
      have hans := HE.out c HT.out.1
      subst hans
      have HB := hid HT.out.2
      clear HT HE HN KU HC
      cases c with
      | none =>
        go_wp2_with fail
        go_ret
        exact ⟨rfl, HB.out⟩
      | some a =>
        go_wp2_with fail
        go_ret
        exact ⟨rfl, HB.out⟩

end Go.Proofs.Ytpdloenmplafiaa
