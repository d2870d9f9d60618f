import Derived.Maps.OwnOps
import Derived.Maps.OwnSet
import Derived.Maps.Views
import Derived.StringKeys
import Derived.Test.YtegcpplkcahkhaaGreatB09
import Derived.Test.YtegcpplkcahkhaaGreatB10
/-
  Data: impl.DataOK.
-/
namespace Go.Proofs.YtegcpplkcahkhaaGreat
open Go.RowKit Go.Maps

def noRel : RelV := ⟨⟨#[]⟩, 0, [], []⟩

/-- relation j of what lies at b, o -/
def RelAt (w : World) (b o : Nat) (r : RelV) : Prop := ∃ vr vw, w.cell? ⟨b, o, none⟩ = some (.string r.name) ∧ w.cell? ⟨b, o + 1, none⟩ = some (.int .i64 r.ar) ∧ w.cell? ⟨b, o + 2, none⟩ = some vr ∧ w.cell? ⟨b, o + 3, none⟩ = some vw ∧ IRel w vr vw r

theorem RelAt.below {w w' : World} {b o : Nat} {r : RelV} (h : RelAt w b o r) (hb : Below w.heap.size w w') : RelAt w' b o r := by
  obtain ⟨vr, vw, h0, h1, h2, h3, h4⟩ := h
  have hlt := World.block_lt_of_cell? w _ h0
  exact ⟨vr, vw, (hb.cell (p := ⟨b, o, none⟩) hlt).trans h0, (hb.cell (p := ⟨b, o + 1, none⟩) hlt).trans h1, (hb.cell (p := ⟨b, o + 2, none⟩) hlt).trans h2, (hb.cell (p := ⟨b, o + 3, none⟩) hlt).trans h3, h4.below hb⟩

/-- relations that can be read -/
def IRelS (w : World) (v : Value) (ds : List RelV) : Prop := ∃ a cap, v = .slice a ds.length cap ∧ (ds.length = 0 ∨ ∃ b o, a = some ⟨b, o, none⟩ ∧ ∀ j, j < ds.length → RelAt w b (o + j * 4) (ds.getD j noRel))

theorem IRelS.below {w w' : World} {v : Value} {ds : List RelV} (h : IRelS w v ds) (hb : Below w.heap.size w w') : IRelS w' v ds := by
  obtain ⟨a, cap, rfl, h⟩ := h
  refine ⟨a, cap, rfl, ?_⟩
  rcases h with h | ⟨b, o, rfl, h⟩
  · exact Or.inl h
  · exact Or.inr ⟨b, o, rfl, fun j hj => (h j hj).below hb⟩

def OkRels (ds : List RelV) : Prop := ds.length ≤ 1099511627776 ∧ ∀ j, OkRel (ds.getD j noRel)

def namedB (ds : List RelV) (i : Nat) (s : ByteArray) : Bool := (List.range i).any fun j => decide ((ds.getD j noRel).name = s)
def relAtB (ds : List RelV) (i : Nat) : Bool := relB (ds.getD i noRel) && !namedB ds i (ds.getD i noRel).name
def dataB (ds : List RelV) : Bool := decide (ds.length ≤ 50) && (List.range ds.length).all (relAtB ds)

theorem dataB_true {ds : List RelV} (h0 : ds.length ≤ 50) (h : ∀ i, i < ds.length → relAtB ds i = true) : dataB ds = true := by
  unfold dataB
  rw [decide_eq_true h0, Bool.true_and, List.all_eq_true]
  intro i hi
  exact h i (by simpa using hi)
theorem dataB_false {ds : List RelV} {i : Nat} (hi : i < ds.length) (h : relAtB ds i = false) : dataB ds = false := by
  unfold dataB
  rw [show (List.range ds.length).all (relAtB ds) = false from List.all_eq_false.2 ⟨i, by simpa using hi, by rw [h]; decide⟩, Bool.and_false]
theorem dataB_long {ds : List RelV} (h : 50 < ds.length) : dataB ds = false := by
  unfold dataB
  rw [decide_eq_false (by omega), Bool.false_and]

theorem named_succ (ds : List RelV) (i : Nat) (s : ByteArray) : namedB ds (i + 1) s = (namedB ds i s || decide ((ds.getD i noRel).name = s)) := by
  unfold namedB
  rw [List.range_succ, List.any_append]
  simp

theorem Tryz.lawS : Keyed Tryz.prog 9 := string_keyed Tryz.underlying9
theorem Tryz.zeroI (w : World) : (zeroValue 3).run Tryz.prog w = .ok (.int .i64 0) w := by kernel_rfl

theorem map_below {w w' : World} {b n : Nat} {k : TypeId} {R : Value → Option (DataW Unit × List MemPlace)} {D : DataW Unit} (h : w.ownsMap Tryz.prog k R b n D) (hb : Below w.heap.size w w') : w'.ownsMap Tryz.prog k R b n D := by
  have hlt := h.lt
  obtain ⟨es, clock, hb', F, hs, hD⟩ := h
  exact ⟨es, clock, (hb.block b hlt).trans hb', F, hs, hD⟩

/-- what the map of names holds behind k relations -/
def Held (w : World) (b k : Nat) (ds : List RelV) : Prop := ∃ D : DataW Unit, w.ownsMap Tryz.prog 9 (plainElem Tryz.prog 3) b k D ∧ ∀ s : ByteArray, Maps.has D (.string s.data.toList) = namedB ds k s

theorem Held.start (w : World) (ds : List RelV) : Held (w.alloc (.map #[] 0)) w.heap.size 0 ds := ⟨.map [], World.ownsMap_made _ _ _ _, fun _ => rfl⟩

theorem held_put {D : DataW Unit} {k : Nat} {ds : List RelV} {d : DataW Unit} (hm : IsMap D) (h : ∀ s : ByteArray, Maps.has D (.string s.data.toList) = namedB ds k s) :
    ∀ s : ByteArray, Maps.has (D.put (.string (ds.getD k noRel).name.data.toList) d) (.string s.data.toList) = namedB ds (k + 1) s := fun s => by
  rw [named_succ]
  by_cases e : (ds.getD k noRel).name = s
  · subst e
    rw [has_put_same hm (by simp [WideAt.IsKeyLit])]
    simp
  · rw [has_put_other (fun e2 => e (by simp only [Lit.string.injEq] at e2; exact (WideShapes.bytes_inj e2).symm)), h s, decide_eq_false e, Bool.or_false]

set_option maxHeartbeats 4000000 in
set_option maxRecDepth 1000000 in
theorem dataOK_calls (w : World) (v : Value) (ds : List RelV) (h : IRelS w v ds) (hr : OkRels ds) :
    Calls Tryz.prog 52 #[.agg #[v]] w fun e w' => e = .returned (.bool (dataB ds)) ∧ Below w.heap.size w w' := by
  have HB0 : Hid (Below w.heap.size w (w.alloc (.cells #[v] 35))) := hid ((Below.refl _ _).alloc (Nat.le_refl _) _)
  have HI := hid h
  have HR := hid hr.2
  have hr1 := hr.1
  obtain ⟨a, cap, rfl, hc⟩ := h
  have HC := hid hc
  obtain ⟨n, hn⟩ : ∃ n, n = ds.length := ⟨_, rfl⟩
  obtain ⟨res, hres⟩ : ∃ r, r = dataB ds := ⟨_, rfl⟩
  rw [← hres]
  have HL : Hid (50 < n → res = false) := hid (fun h => hres.trans (dataB_long (by rw [← hn]; exact h)))
  have HT : Hid (n ≤ 50 → (∀ i, i < n → relAtB ds i = true) → res = true) := hid (fun h1 h2 => hres.trans (dataB_true (by rw [← hn]; exact h1) (by rw [← hn]; exact h2)))
  have HF : Hid (∀ i, i < n → relAtB ds i = false → res = false) := hid (fun i h1 h2 => hres.trans (dataB_false (by rw [← hn]; exact h1) h2))
  rw [← hn] at HC HB0 hr1 ⊢
  clear hc hn hres hr HI
  have hmm := @run_makeMap Tryz.prog
  by_cases h50 : 50 < n
  · have hf := hid (HL.out h50)
    have i1 : (50 : Int) < (n : Int) := by omega
    go_enter Tryz.func52, Tryz.ntmps52
    go_wp2
    go_ret
    exact ⟨ret_bool (by rw [hf.out]), HB0.out⟩
  have i1 : ¬ ((50 : Int) < (n : Int)) := by omega
  go_enter Tryz.func52, Tryz.ntmps52
  go_wp2
  go_loopw [16] (fun t wr => ∃ k : Nat, k ≤ n ∧ t = .int .i64 k ∧ Hid (Below w.heap.size w wr ∧ Held wr (w.heap.size + 1) k ds ∧ ∀ i, i < k → relAtB ds i = true)) (fun t _ => n - (intOf t).toNat)
  case atStart => exact ⟨0, Nat.zero_le _, rfl, hid ⟨HB0.out.alloc (by simp) _, by have := Held.start (w.alloc (.cells #[.slice a n cap] 35)) ds; simpa using this, fun i hi => by omega⟩⟩
  case round =>
    obtain ⟨k, hk, rfl, hH⟩ := hrel
    obtain ⟨hnx, ⟨D, hown, hhas⟩, hok⟩ := hH.out
    have hns := hnx.size
    by_cases hkn : k < n
    · have j1 : (k : Int) < (n : Int) := by omega
      rcases HC.out with h0 | ⟨b, o, rfl, hrel⟩
      · omega
      · obtain ⟨vr, vw, c0, c1, c2, c3, hir⟩ := (hrel k hkn).below hnx
        have hokr := HR.out k
        have hh := hhas (ds.getD k noRel).name
        have HP := hid (fun d => held_put (d := d) hown.isMap hhas)
        have hat : relAtB ds k = (relB (ds.getD k noRel) && !namedB ds k (ds.getD k noRel).name) := rfl
        have hsz := hokr.name
        have K1 := hid (isRelation_calls (wr.alloc (.cells #[.string (ds.getD k noRel).name, .int .i64 (ds.getD k noRel).ar, vr, vw] 65)) vr vw (ds.getD k noRel) (hir.below ((Below.refl _ _).alloc (Nat.le_refl _) _)) hokr)
        have HBr : Hid (Below w.heap.size w (wr.alloc (.cells #[.string (ds.getD k noRel).name, .int .i64 (ds.getD k noRel).ar, vr, vw] 65))) := hid (hnx.alloc hns _)
        obtain ⟨a1, k1, rfl, -⟩ := hir.rows
        obtain ⟨a2, k2, rfl, -⟩ := hir.ws
        have HOK := hid hok
        clear hH hrel hir hokr hhas hok
        have hfin := HF.out k hkn
        rw [hat] at hfin
        have hnxt : (relB (ds.getD k noRel) && !namedB ds k (ds.getD k noRel).name) = true → Hid (∀ i, i < k + 1 → relAtB ds i = true) := fun e => hid (fun i hi => by
          by_cases e2 : i = k
          · rw [e2, hat]; exact e
          · exact HOK.out i (by omega))
        clear hat
        generalize namedB ds k (ds.getD k noRel).name = y at *
        generalize relB (ds.getD k noRel) = z at *
        generalize (ds.getD k noRel).rows.length = n1 at *
        generalize (ds.getD k noRel).ws.length = n2 at *
        generalize (ds.getD k noRel).ar = ar at *
        generalize (ds.getD k noRel).name = nm at *
        cases y
        · cases z
          · have hf := hid (hfin rfl)
            clear hfin hnxt HP
            go_wp2_with (first | (at_lookup; refine wpList_lookup_own_ok_int _ rfl _ _ 76 rfl 9 3 .i64 Tryz.lawS Tryz.underlying76 Tryz.underlying3 (Tryz.zeroI _) (w.heap.size + 1) k D rfl (hown.alloc _) _ _ rfl (WideMaps.keyOf_string_mk Tryz.underlying9 hsz) ?_; intro cL hatk hwc; rw [hh]))
            refine K1.out.mono ?_
            rintro e w2 ⟨rfl, hb2⟩
            have HB2 := hid (bt HBr.out hb2)
            clear hb2
            go_wp2
            go_ret
            exact ⟨ret_bool (by rw [hf.out]), HB2.out⟩
          · have hf := hnxt rfl
            clear hfin hnxt
            go_wp2_with (first | (at_lookup; refine wpList_lookup_own_ok_int _ rfl _ _ 76 rfl 9 3 .i64 Tryz.lawS Tryz.underlying76 Tryz.underlying3 (Tryz.zeroI _) (w.heap.size + 1) k D rfl (hown.alloc _) _ _ rfl (WideMaps.keyOf_string_mk Tryz.underlying9 hsz) ?_; intro cL hatk hwc; rw [hh]))
            refine K1.out.mono ?_
            rintro e w2 ⟨rfl, hb2⟩
            have HB2 := hid (bt HBr.out hb2)
            have c5 : w2.cell? ⟨wr.heap.size, 0, none⟩ = some (.string nm) := by
              rw [hb2.cell (p := ⟨wr.heap.size, 0, none⟩) (by simp)]; simp [go_sem]
            have hown2 := map_below (hown.alloc (.cells #[.string nm, .int .i64 ar, .slice a1 n1 k1, .slice a2 n2 k2] 65)) hb2
            have hns2 := HB2.out.size
            clear hb2 hown hh
            go_wp2_with (first | (at_mapUpdate; refine wpList_mapUpdate_own _ rfl _ _ _ 76 rfl 9 3 Tryz.lawS Tryz.underlying76 _ (w.heap.size + 1) k _ rfl hown2 (by unfold maxLen; omega) _ _ _ rfl rfl (WideMaps.keyOf_string_mk Tryz.underlying9 hsz) _ [] (plainElem_int Tryz.underlying3 (WalkArith.wf_i64 (by omega))) ?_))
            intro w3 hown3 hgrow3
            have HB3 : Hid (Below w.heap.size w w3) := hid (HB2.out.grown hgrow3 hns2 (fun j hj => by cases hj; omega))
            have HH3 : Hid (Held w3 (w.heap.size + 1) (k + 1) ds) := hid ⟨_, hown3, HP.out _⟩
            clear hown3 hgrow3 hown2
            go_wp2
            go_roundw
            case rel => exact ⟨k + 1, by omega, by go_num, hid ⟨HB3.out, HH3.out, hf.out⟩⟩
            case measure => simp [intOf]; omega
        · have hf := hid (hfin (by simp))
          clear hfin hnxt HP K1
          go_wp2_with (first | (at_lookup; refine wpList_lookup_own_ok_int _ rfl _ _ 76 rfl 9 3 .i64 Tryz.lawS Tryz.underlying76 Tryz.underlying3 (Tryz.zeroI _) (w.heap.size + 1) k D rfl (hown.alloc _) _ _ rfl (WideMaps.keyOf_string_mk Tryz.underlying9 hsz) ?_; intro cL hatk hwc; rw [hh]))
          go_ret
          exact ⟨ret_bool (by rw [hf.out]), HBr.out⟩
    · obtain rfl : k = n := by omega
      have j1 : ¬ ((k : Int) < (k : Int)) := by omega
      have hf := hid (HT.out (by omega) hok)
      have HNX := hid hnx
      clear hH hok hnx hown hhas
      go_wp2
      go_ret
      exact ⟨ret_bool (by rw [hf.out]), HNX.out⟩

end Go.Proofs.YtegcpplkcahkhaaGreat

/-
  Copies of relations: laws.toRelation.
-/
namespace Go.Proofs.YtegcpplkcahkhaaGreat
open Go.RowKit

/-- a relation's two lists in blocks of the copy's own -/
def OwnRel (w : World) (B : Nat) (ur uw : Value) (r : RelV) : Prop := ∃ g1 g2 f, ur = .slice (some ⟨g1, 0, none⟩) r.rows.length r.rows.length ∧ uw = .slice (some ⟨g2, 0, none⟩) r.ws.length r.ws.length ∧ Half w g1 r.rows.length r.rows.length r.rows f ∧ OwnI w g2 r.ws ∧ B ≤ g1 ∧ g1 < g2

theorem OwnRel.irel {w : World} {B : Nat} {ur uw : Value} {r : RelV} (h : OwnRel w B ur uw r) : IRel w ur uw r := by
  obtain ⟨g1, g2, f, rfl, rfl, h1, h2, _, _⟩ := h
  exact ⟨h1.iss rfl, h2.is⟩
theorem OwnRel.below {w w' : World} {B : Nat} {ur uw : Value} {r : RelV} (h : OwnRel w B ur uw r) (hb : Below w.heap.size w w') : OwnRel w' B ur uw r := by
  obtain ⟨g1, g2, f, rfl, rfl, h1, h2, h3, h4⟩ := h
  exact ⟨g1, g2, f, rfl, rfl, h1.below (Nat.lt_trans h4 h2.lt) hb, h2.below hb, h3, h4⟩
theorem OwnRel.set {w : World} {B c o : Nat} {ur uw v : Value} {r : RelV} (h : OwnRel w B ur uw r) (hc : c < B) : OwnRel (w.setCell ⟨c, o, none⟩ v) B ur uw r := by
  obtain ⟨g1, g2, f, rfl, rfl, h1, h2, h3, h4⟩ := h
  exact ⟨g1, g2, f, rfl, rfl, h1.set (by omega), h2.set (by omega), h3, h4⟩
theorem OwnRel.mono {w : World} {B B' : Nat} {ur uw : Value} {r : RelV} (h : OwnRel w B ur uw r) (hc : B' ≤ B) : OwnRel w B' ur uw r := by
  obtain ⟨g1, g2, f, rfl, rfl, h1, h2, h3, h4⟩ := h
  exact ⟨g1, g2, f, rfl, rfl, h1, h2, Nat.le_trans hc h3, h4⟩

set_option maxHeartbeats 4000000 in
set_option maxRecDepth 1000000 in
theorem toRelation_calls (w : World) (v1 v2 : Value) (r : RelV) (h : IRel w v1 v2 r) (hr : OkRel r) :
    Calls Tryz.prog 50 #[.agg #[.string r.name, .int .i64 r.ar, v1, v2]] w fun e w' => ∃ ur uw, e = .returned (.agg #[.string r.name, .int .i64 r.ar, ur, uw]) ∧ OwnRel w' (w.heap.size + 3) ur uw r ∧ Below w.heap.size w w' := by
  have H1 := hid h.rows
  have H2 := hid h.ws
  have HR := hid hr.rows
  have hw := hr.ws
  obtain ⟨a1, k1, rfl, -⟩ := h.rows
  obtain ⟨a2, k2, rfl, -⟩ := h.ws
  clear h hr
  unfold OwnRel
  generalize r.rows = rows at *
  generalize r.ws = ws at *
  generalize r.name = nm at *
  generalize r.ar = ar at *
  have HT0 := hid (TB4.start w 88 65 65 (.string nm) (.int .i64 ar) (.slice a1 rows.length k1) (.slice a2 ws.length k2) (.string ⟨#[]⟩) (.int .i64 0) (.slice none 0 0) (.slice none 0 0) (.string nm) (.int .i64 ar) (.slice none 0 0) (.slice none 0 0))
  go_enter Tryz.func50, Tryz.ntmps50
  go_wp2_with fail
  refine (toIntSS_calls _ _ rows (H1.out.below HT0.out.below) HR.out).mono ?_
  rintro e w2 ⟨rfl, ⟨f, ho1⟩, hlt1, hb0⟩
  have HT1 := hid (HT0.out.step hb0)
  have y1 := HT1.out.a3
  have y2 := HT1.out.o2
  have y3 := HT1.out.fo2
  have HO1 : Hid (Half w2 (w.heap.size + 1 + 1 + 1) rows.length rows.length rows f) := hid (by simpa using ho1)
  have HL1 : Hid (w.heap.size + 1 + 1 + 1 < w2.heap.size) := hid (by simpa using hlt1)
  clear ho1 hb0 hlt1
  go_wp2_with fail
  have HT2 := hid (HT1.out.set2 (.slice (some ⟨w.heap.size + 1 + 1 + 1, 0, none⟩) rows.length rows.length))
  refine (toIntS_calls _ _ ws (H2.out.below HT2.out.below) hw).mono ?_
  rintro e w3 ⟨rfl, ho2, hb1⟩
  have HT3 := hid (HT2.out.step hb1)
  have z0 := HT3.out.o0
  have z1 := HT3.out.o1
  have z2 := HT3.out.o2
  have z3 := HT3.out.o3
  have z4 := HT3.out.fo3
  have z5 := HT3.out.r0
  have z6 := HT3.out.r1
  have z7 := HT3.out.r2
  have z8 := HT3.out.r3
  have z9 := HT3.out.fr0
  have z10 := HT3.out.fr1
  have z11 := HT3.out.fr2
  have z12 := HT3.out.fr3
  have hsz : (w2.setCell ⟨w.heap.size + 1 + 1, 2, none⟩ (.slice (some ⟨w.heap.size + 1 + 1 + 1, 0, none⟩) rows.length rows.length)).heap.size = w2.heap.size := by simp [World.setCell]
  have HO3 : Hid (Half w3 (w.heap.size + 1 + 1 + 1) rows.length rows.length rows f) := hid ((HO1.out.set (by omega)).below (by rw [hsz]; exact HL1.out) hb1)
  have hg : w.heap.size + 1 + 1 + 1 < (w2.setCell ⟨w.heap.size + 1 + 1, 2, none⟩ (.slice (some ⟨w.heap.size + 1 + 1 + 1, 0, none⟩) rows.length rows.length)).heap.size := by rw [hsz]; exact HL1.out
  have HO4 := hid ho2
  generalize (w2.setCell ⟨w.heap.size + 1 + 1, 2, none⟩ (.slice (some ⟨w.heap.size + 1 + 1 + 1, 0, none⟩) rows.length rows.length)).heap.size = g2 at *
  clear ho2 hb1 hsz y1 y2 y3 HO1 HL1
  go_wp2
  refine bodyPost_ret (v := .agg #[.string nm, .int .i64 ar, .slice (some ⟨w.heap.size + 1 + 1 + 1, 0, none⟩) rows.length rows.length, .slice (some ⟨g2, 0, none⟩) ws.length ws.length]) (by simp [results, Tryz.results50, go_sem, z5, z6, z7, z8]) rfl
    ⟨_, _, rfl, ⟨_, _, f, rfl, rfl, (((((HO3.out.set (by omega)).set (by omega)).set (by omega)).set (by omega)).set (by omega)), (((((HO4.out.set (by omega)).set (by omega)).set (by omega)).set (by omega)).set (by omega)), by omega, hg⟩,
    ((((HT3.out.below.setCell (by show w.heap.size ≤ w.heap.size + 1 + 1; omega) _).setCell (by show w.heap.size ≤ w.heap.size + 1; omega) _).setCell (by show w.heap.size ≤ w.heap.size + 1; omega) _).setCell (by show w.heap.size ≤ w.heap.size + 1; omega) _).setCell (by show w.heap.size ≤ w.heap.size + 1; omega) _⟩

end Go.Proofs.YtegcpplkcahkhaaGreat
