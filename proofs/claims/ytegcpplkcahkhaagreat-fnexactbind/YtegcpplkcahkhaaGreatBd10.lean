import Derived.Maps.OwnOps
import Derived.Maps.OwnSet
import Derived.Maps.Views
import Derived.StringKeys
import Derived.Test.YtegcpplkcahkhaaGreatBd02
import Derived.Test.YtegcpplkcahkhaaGreatBd09
/-
  Data: impl.DataOK.
-/
namespace Go.Proofs.YtegcpplkcahkhaaGreat
open Go.RowKit Go.Maps

def noRel : RelV := ⟨⟨#[]⟩, 0, [], []⟩

/-- relation j of what lies at b, o -/
def RelAt (w : World) (b o : Nat) (r : RelV) : Prop := ∃ vr vw, w.cell? ⟨b, o, none⟩ = some (.string r.name) ∧ w.cell? ⟨b, o + 1, none⟩ = some (.int .i64 r.ar) ∧ w.cell? ⟨b, o + 2, none⟩ = some vr ∧ w.cell? ⟨b, o + 3, none⟩ = some vw ∧ IRel w vr vw r

theorem RelAt.below {w w' : World} {b o : Nat} {r : RelV} (h : RelAt w b o r) (hb : Below w.heap.size w w') : RelAt w' b o r := by
  obtain ⟨vr, vw, h0, h1, h2, h3, h4⟩ := h
  have hlt := World.block_lt_of_cell? w _ h0
  exact ⟨vr, vw, (hb.cell (p := ⟨b, o, none⟩) hlt).trans h0, (hb.cell (p := ⟨b, o + 1, none⟩) hlt).trans h1, (hb.cell (p := ⟨b, o + 2, none⟩) hlt).trans h2, (hb.cell (p := ⟨b, o + 3, none⟩) hlt).trans h3, h4.below hb⟩

/-- relations that can be read -/
def IRelS (w : World) (v : Value) (ds : List RelV) : Prop := ∃ a cap, v = .slice a ds.length cap ∧ (ds.length = 0 ∨ ∃ b o, a = some ⟨b, o, none⟩ ∧ ∀ j, j < ds.length → RelAt w b (o + j * 4) (ds.getD j noRel))

theorem IRelS.below {w w' : World} {v : Value} {ds : List RelV} (h : IRelS w v ds) (hb : Below w.heap.size w w') : IRelS w' v ds := by
  obtain ⟨a, cap, rfl, h⟩ := h
  refine ⟨a, cap, rfl, ?_⟩
  rcases h with h | ⟨b, o, rfl, h⟩
  · exact Or.inl h
  · exact Or.inr ⟨b, o, rfl, fun j hj => (h j hj).below hb⟩

def OkRels (ds : List RelV) : Prop := ds.length ≤ 1099511627776 ∧ ∀ j, OkRel (ds.getD j noRel)

def namedB (ds : List RelV) (i : Nat) (s : ByteArray) : Bool := (List.range i).any fun j => decide ((ds.getD j noRel).name = s)
def relAtB (ds : List RelV) (i : Nat) : Bool := relB (ds.getD i noRel) && !namedB ds i (ds.getD i noRel).name
def dataB (ds : List RelV) : Bool := decide (ds.length ≤ 50) && (List.range ds.length).all (relAtB ds)

theorem dataB_true {ds : List RelV} (h0 : ds.length ≤ 50) (h : ∀ i, i < ds.length → relAtB ds i = true) : dataB ds = true := by
  unfold dataB
  rw [decide_eq_true h0, Bool.true_and, List.all_eq_true]
  intro i hi
  exact h i (by simpa using hi)
theorem dataB_false {ds : List RelV} {i : Nat} (hi : i < ds.length) (h : relAtB ds i = false) : dataB ds = false := by
  unfold dataB
  rw [show (List.range ds.length).all (relAtB ds) = false from List.all_eq_false.2 ⟨i, by simpa using hi, by rw [h]; decide⟩, Bool.and_false]
theorem dataB_long {ds : List RelV} (h : 50 < ds.length) : dataB ds = false := by
  unfold dataB
  rw [decide_eq_false (by omega), Bool.false_and]

theorem named_succ (ds : List RelV) (i : Nat) (s : ByteArray) : namedB ds (i + 1) s = (namedB ds i s || decide ((ds.getD i noRel).name = s)) := by
  unfold namedB
  rw [List.range_succ, List.any_append]
  simp

theorem Tryz.lawS : Keyed Tryz.prog 9 := string_keyed Tryz.underlying9
theorem Tryz.zeroI (w : World) : (zeroValue 3).run Tryz.prog w = .ok (.int .i64 0) w := by kernel_rfl

theorem map_below {w w' : World} {b n : Nat} {k : TypeId} {R : Value → Option (DataW Unit × List MemPlace)} {D : DataW Unit} (h : w.ownsMap Tryz.prog k R b n D) (hb : Below w.heap.size w w') : w'.ownsMap Tryz.prog k R b n D := by
  have hlt := h.lt
  obtain ⟨es, clock, hb', F, hs, hD⟩ := h
  exact ⟨es, clock, (hb.block b hlt).trans hb', F, hs, hD⟩

/-- what the map of names holds behind k relations -/
def Held (w : World) (b k : Nat) (ds : List RelV) : Prop := ∃ D : DataW Unit, w.ownsMap Tryz.prog 9 (plainElem Tryz.prog 3) b k D ∧ ∀ s : ByteArray, Maps.has D (.string s.data.toList) = namedB ds k s

theorem Held.start (w : World) (ds : List RelV) : Held (w.alloc (.map #[] 0)) w.heap.size 0 ds := ⟨.map [], World.ownsMap_made _ _ _ _, fun _ => rfl⟩

theorem held_put {D : DataW Unit} {k : Nat} {ds : List RelV} {d : DataW Unit} (hm : IsMap D) (h : ∀ s : ByteArray, Maps.has D (.string s.data.toList) = namedB ds k s) :
    ∀ s : ByteArray, Maps.has (D.put (.string (ds.getD k noRel).name.data.toList) d) (.string s.data.toList) = namedB ds (k + 1) s := fun s => by
  rw [named_succ]
  by_cases e : (ds.getD k noRel).name = s
  · subst e
    rw [has_put_same hm (by simp [WideAt.IsKeyLit])]
    simp
  · rw [has_put_other (fun e2 => e (by simp only [Lit.string.injEq] at e2; exact (WideShapes.bytes_inj e2).symm)), h s, decide_eq_false e, Bool.or_false]

set_option maxHeartbeats 4000000 in
set_option maxRecDepth 1000000 in
theorem dataOK_calls (w : World) (v : Value) (ds : List RelV) (h : IRelS w v ds) (hr : OkRels ds) :
    Calls Tryz.prog 52 #[.agg #[v]] w fun e w' => e = .returned (.bool (dataB ds)) ∧ Below w.heap.size w w' := by
  have HB0 : Hid (Below w.heap.size w (w.alloc (.cells #[v] 35))) := hid ((Below.refl _ _).alloc (Nat.le_refl _) _)
  have HI := hid h
  have HR := hid hr.2
  have hr1 := hr.1
  obtain ⟨a, cap, rfl, hc⟩ := h
  have HC := hid hc
  obtain ⟨n, hn⟩ : ∃ n, n = ds.length := ⟨_, rfl⟩
  obtain ⟨res, hres⟩ : ∃ r, r = dataB ds := ⟨_, rfl⟩
  rw [← hres]
  have HL : Hid (50 < n → res = false) := hid (fun h => hres.trans (dataB_long (by rw [← hn]; exact h)))
  have HT : Hid (n ≤ 50 → (∀ i, i < n → relAtB ds i = true) → res = true) := hid (fun h1 h2 => hres.trans (dataB_true (by rw [← hn]; exact h1) (by rw [← hn]; exact h2)))
  have HF : Hid (∀ i, i < n → relAtB ds i = false → res = false) := hid (fun i h1 h2 => hres.trans (dataB_false (by rw [← hn]; exact h1) h2))
  rw [← hn] at HC HB0 hr1 ⊢
  clear hc hn hres hr HI
  have hmm := @run_makeMap Tryz.prog
  by_cases h50 : 50 < n
  · have hf := hid (HL.out h50)
    have i1 : (50 : Int) < (n : Int) := by omega
    go_enter Tryz.func52, Tryz.ntmps52
    go_wp2
    go_ret
    exact ⟨ret_bool (by rw [hf.out]), HB0.out⟩
  have i1 : ¬ ((50 : Int) < (n : Int)) := by omega
  go_enter Tryz.func52, Tryz.ntmps52
  go_wp2
  go_loopw [16] (fun t wr => ∃ k : Nat, k ≤ n ∧ t = .int .i64 k ∧ Hid (Below w.heap.size w wr ∧ Held wr (w.heap.size + 1) k ds ∧ ∀ i, i < k → relAtB ds i = true)) (fun t _ => n - (intOf t).toNat)
  case atStart => exact ⟨0, Nat.zero_le _, rfl, hid ⟨HB0.out.alloc (by simp) _, by have := Held.start (w.alloc (.cells #[.slice a n cap] 35)) ds; simpa using this, fun i hi => by omega⟩⟩
  case round =>
    obtain ⟨k, hk, rfl, hH⟩ := hrel
    obtain ⟨hnx, ⟨D, hown, hhas⟩, hok⟩ := hH.out
    have hns := hnx.size
    by_cases hkn : k < n
    · have j1 : (k : Int) < (n : Int) := by omega
      rcases HC.out with h0 | ⟨b, o, rfl, hrel⟩
      · omega
      · obtain ⟨vr, vw, c0, c1, c2, c3, hir⟩ := (hrel k hkn).below hnx
        have hokr := HR.out k
        have hh := hhas (ds.getD k noRel).name
        have HP := hid (fun d => held_put (d := d) hown.isMap hhas)
        have hat : relAtB ds k = (relB (ds.getD k noRel) && !namedB ds k (ds.getD k noRel).name) := rfl
        have hsz := hokr.name
        have K1 := hid (isRelation_calls (wr.alloc (.cells #[.string (ds.getD k noRel).name, .int .i64 (ds.getD k noRel).ar, vr, vw] 65)) vr vw (ds.getD k noRel) (hir.below ((Below.refl _ _).alloc (Nat.le_refl _) _)) hokr)
        have HBr : Hid (Below w.heap.size w (wr.alloc (.cells #[.string (ds.getD k noRel).name, .int .i64 (ds.getD k noRel).ar, vr, vw] 65))) := hid (hnx.alloc hns _)
        obtain ⟨a1, k1, rfl, -⟩ := hir.rows
        obtain ⟨a2, k2, rfl, -⟩ := hir.ws
        have HOK := hid hok
        clear hH hrel hir hokr hhas hok
        have hfin := HF.out k hkn
        rw [hat] at hfin
        have hnxt : (relB (ds.getD k noRel) && !namedB ds k (ds.getD k noRel).name) = true → Hid (∀ i, i < k + 1 → relAtB ds i = true) := fun e => hid (fun i hi => by
          by_cases e2 : i = k
          · rw [e2, hat]; exact e
          · exact HOK.out i (by omega))
        clear hat
        generalize namedB ds k (ds.getD k noRel).name = y at *
        generalize relB (ds.getD k noRel) = z at *
        generalize (ds.getD k noRel).rows.length = n1 at *
        generalize (ds.getD k noRel).ws.length = n2 at *
        generalize (ds.getD k noRel).ar = ar at *
        generalize (ds.getD k noRel).name = nm at *
        cases y
        · cases z
          · have hf := hid (hfin rfl)
            clear hfin hnxt HP
            go_wp2_with (first | (at_lookup; refine wpList_lookup_own_ok_int _ rfl _ _ 76 rfl 9 3 .i64 Tryz.lawS Tryz.underlying76 Tryz.underlying3 (Tryz.zeroI _) (w.heap.size + 1) k D rfl (hown.alloc _) _ _ rfl (WideMaps.keyOf_string_mk Tryz.underlying9 hsz) ?_; intro cL hatk hwc; rw [hh]))
            refine K1.out.mono ?_
            rintro e w2 ⟨rfl, hb2⟩
            have HB2 := hid (bt HBr.out hb2)
            clear hb2
            go_wp2
            go_ret
            exact ⟨ret_bool (by rw [hf.out]), HB2.out⟩
          · have hf := hnxt rfl
            clear hfin hnxt
            go_wp2_with (first | (at_lookup; refine wpList_lookup_own_ok_int _ rfl _ _ 76 rfl 9 3 .i64 Tryz.lawS Tryz.underlying76 Tryz.underlying3 (Tryz.zeroI _) (w.heap.size + 1) k D rfl (hown.alloc _) _ _ rfl (WideMaps.keyOf_string_mk Tryz.underlying9 hsz) ?_; intro cL hatk hwc; rw [hh]))
            refine K1.out.mono ?_
            rintro e w2 ⟨rfl, hb2⟩
            have HB2 := hid (bt HBr.out hb2)
            have c5 : w2.cell? ⟨wr.heap.size, 0, none⟩ = some (.string nm) := by
              rw [hb2.cell (p := ⟨wr.heap.size, 0, none⟩) (by simp)]; simp [go_sem]
            have hown2 := map_below (hown.alloc (.cells #[.string nm, .int .i64 ar, .slice a1 n1 k1, .slice a2 n2 k2] 65)) hb2
            have hns2 := HB2.out.size
            clear hb2 hown hh
            go_wp2_with (first | (at_mapUpdate; refine wpList_mapUpdate_own _ rfl _ _ _ 76 rfl 9 3 Tryz.lawS Tryz.underlying76 _ (w.heap.size + 1) k _ rfl hown2 (by unfold maxLen; omega) _ _ _ rfl rfl (WideMaps.keyOf_string_mk Tryz.underlying9 hsz) _ [] (plainElem_int Tryz.underlying3 (WalkArith.wf_i64 (by omega))) ?_))
            intro w3 hown3 hgrow3
            have HB3 : Hid (Below w.heap.size w w3) := hid (HB2.out.grown hgrow3 hns2 (fun j hj => by cases hj; omega))
            have HH3 : Hid (Held w3 (w.heap.size + 1) (k + 1) ds) := hid ⟨_, hown3, HP.out _⟩
            clear hown3 hgrow3 hown2
            go_wp2
            go_roundw
            case rel => exact ⟨k + 1, by omega, by go_num, hid ⟨HB3.out, HH3.out, hf.out⟩⟩
            case measure => simp [intOf]; omega
        · have hf := hid (hfin (by simp))
          clear hfin hnxt HP K1
          go_wp2_with (first | (at_lookup; refine wpList_lookup_own_ok_int _ rfl _ _ 76 rfl 9 3 .i64 Tryz.lawS Tryz.underlying76 Tryz.underlying3 (Tryz.zeroI _) (w.heap.size + 1) k D rfl (hown.alloc _) _ _ rfl (WideMaps.keyOf_string_mk Tryz.underlying9 hsz) ?_; intro cL hatk hwc; rw [hh]))
          go_ret
          exact ⟨ret_bool (by rw [hf.out]), HBr.out⟩
    · obtain rfl : k = n := by omega
      have j1 : ¬ ((k : Int) < (k : Int)) := by omega
      have hf := hid (HT.out (by omega) hok)
      have HNX := hid hnx
      clear hH hok hnx hown hhas
      go_wp2
      go_ret
      exact ⟨ret_bool (by rw [hf.out]), HNX.out⟩

end Go.Proofs.YtegcpplkcahkhaaGreat

/-
  Copies of relations: laws.toRelation.
-/
namespace Go.Proofs.YtegcpplkcahkhaaGreat
open Go.RowKit

/-- a relation's two lists in blocks of the copy's own -/
def OwnRel (w : World) (B : Nat) (ur uw : Value) (r : RelV) : Prop := ∃ g1 g2 f, ur = .slice (some ⟨g1, 0, none⟩) r.rows.length r.rows.length ∧ uw = .slice (some ⟨g2, 0, none⟩) r.ws.length r.ws.length ∧ Half w g1 r.rows.length r.rows.length r.rows f ∧ OwnI w g2 r.ws ∧ B ≤ g1 ∧ g1 < g2

theorem OwnRel.irel {w : World} {B : Nat} {ur uw : Value} {r : RelV} (h : OwnRel w B ur uw r) : IRel w ur uw r := by
  obtain ⟨g1, g2, f, rfl, rfl, h1, h2, _, _⟩ := h
  exact ⟨h1.iss rfl, h2.is⟩
theorem OwnRel.below {w w' : World} {B : Nat} {ur uw : Value} {r : RelV} (h : OwnRel w B ur uw r) (hb : Below w.heap.size w w') : OwnRel w' B ur uw r := by
  obtain ⟨g1, g2, f, rfl, rfl, h1, h2, h3, h4⟩ := h
  exact ⟨g1, g2, f, rfl, rfl, h1.below (Nat.lt_trans h4 h2.lt) hb, h2.below hb, h3, h4⟩
theorem OwnRel.set {w : World} {B c o : Nat} {ur uw v : Value} {r : RelV} (h : OwnRel w B ur uw r) (hc : c < B) : OwnRel (w.setCell ⟨c, o, none⟩ v) B ur uw r := by
  obtain ⟨g1, g2, f, rfl, rfl, h1, h2, h3, h4⟩ := h
  exact ⟨g1, g2, f, rfl, rfl, h1.set (by omega), h2.set (by omega), h3, h4⟩
theorem OwnRel.mono {w : World} {B B' : Nat} {ur uw : Value} {r : RelV} (h : OwnRel w B ur uw r) (hc : B' ≤ B) : OwnRel w B' ur uw r := by
  obtain ⟨g1, g2, f, rfl, rfl, h1, h2, h3, h4⟩ := h
  exact ⟨g1, g2, f, rfl, rfl, h1, h2, Nat.le_trans hc h3, h4⟩

set_option maxHeartbeats 4000000 in
set_option maxRecDepth 1000000 in
theorem toRelation_calls (w : World) (v1 v2 : Value) (r : RelV) (h : IRel w v1 v2 r) (hr : OkRel r) :
    Calls Tryz.prog 50 #[.agg #[.string r.name, .int .i64 r.ar, v1, v2]] w fun e w' => ∃ ur uw, e = .returned (.agg #[.string r.name, .int .i64 r.ar, ur, uw]) ∧ OwnRel w' (w.heap.size + 3) ur uw r ∧ Below w.heap.size w w' := by
  have H1 := hid h.rows
  have H2 := hid h.ws
  have HR := hid hr.rows
  have hw := hr.ws
  obtain ⟨a1, k1, rfl, -⟩ := h.rows
  obtain ⟨a2, k2, rfl, -⟩ := h.ws
  clear h hr
  unfold OwnRel
  generalize r.rows = rows at *
  generalize r.ws = ws at *
  generalize r.name = nm at *
  generalize r.ar = ar at *
  have HT0 := hid (TB4.start w 88 65 65 (.string nm) (.int .i64 ar) (.slice a1 rows.length k1) (.slice a2 ws.length k2) (.string ⟨#[]⟩) (.int .i64 0) (.slice none 0 0) (.slice none 0 0) (.string nm) (.int .i64 ar) (.slice none 0 0) (.slice none 0 0))
  go_enter Tryz.func50, Tryz.ntmps50
  go_wp2_with fail
  refine (toIntSS_calls _ _ rows (H1.out.below HT0.out.below) HR.out).mono ?_
  rintro e w2 ⟨rfl, ⟨f, ho1⟩, hlt1, hb0⟩
  have HT1 := hid (HT0.out.step hb0)
  have y1 := HT1.out.a3
  have y2 := HT1.out.o2
  have y3 := HT1.out.fo2
  have HO1 : Hid (Half w2 (w.heap.size + 1 + 1 + 1) rows.length rows.length rows f) := hid (by simpa using ho1)
  have HL1 : Hid (w.heap.size + 1 + 1 + 1 < w2.heap.size) := hid (by simpa using hlt1)
  clear ho1 hb0 hlt1
  go_wp2_with fail
  have HT2 := hid (HT1.out.set2 (.slice (some ⟨w.heap.size + 1 + 1 + 1, 0, none⟩) rows.length rows.length))
  refine (toIntS_calls _ _ ws (H2.out.below HT2.out.below) hw).mono ?_
  rintro e w3 ⟨rfl, ho2, hb1⟩
  have HT3 := hid (HT2.out.step hb1)
  have z0 := HT3.out.o0
  have z1 := HT3.out.o1
  have z2 := HT3.out.o2
  have z3 := HT3.out.o3
  have z4 := HT3.out.fo3
  have z5 := HT3.out.r0
  have z6 := HT3.out.r1
  have z7 := HT3.out.r2
  have z8 := HT3.out.r3
  have z9 := HT3.out.fr0
  have z10 := HT3.out.fr1
  have z11 := HT3.out.fr2
  have z12 := HT3.out.fr3
  have hsz : (w2.setCell ⟨w.heap.size + 1 + 1, 2, none⟩ (.slice (some ⟨w.heap.size + 1 + 1 + 1, 0, none⟩) rows.length rows.length)).heap.size = w2.heap.size := by simp [World.setCell]
  have HO3 : Hid (Half w3 (w.heap.size + 1 + 1 + 1) rows.length rows.length rows f) := hid ((HO1.out.set (by omega)).below (by rw [hsz]; exact HL1.out) hb1)
  have hg : w.heap.size + 1 + 1 + 1 < (w2.setCell ⟨w.heap.size + 1 + 1, 2, none⟩ (.slice (some ⟨w.heap.size + 1 + 1 + 1, 0, none⟩) rows.length rows.length)).heap.size := by rw [hsz]; exact HL1.out
  have HO4 := hid ho2
  generalize (w2.setCell ⟨w.heap.size + 1 + 1, 2, none⟩ (.slice (some ⟨w.heap.size + 1 + 1 + 1, 0, none⟩) rows.length rows.length)).heap.size = g2 at *
  clear ho2 hb1 hsz y1 y2 y3 HO1 HL1
  go_wp2
  refine bodyPost_ret (v := .agg #[.string nm, .int .i64 ar, .slice (some ⟨w.heap.size + 1 + 1 + 1, 0, none⟩) rows.length rows.length, .slice (some ⟨g2, 0, none⟩) ws.length ws.length]) (by simp [results, Tryz.results50, go_sem, z5, z6, z7, z8]) rfl
    ⟨_, _, rfl, ⟨_, _, f, rfl, rfl, (((((HO3.out.set (by omega)).set (by omega)).set (by omega)).set (by omega)).set (by omega)), (((((HO4.out.set (by omega)).set (by omega)).set (by omega)).set (by omega)).set (by omega)), by omega, hg⟩,
    ((((HT3.out.below.setCell (by show w.heap.size ≤ w.heap.size + 1 + 1; omega) _).setCell (by show w.heap.size ≤ w.heap.size + 1; omega) _).setCell (by show w.heap.size ≤ w.heap.size + 1; omega) _).setCell (by show w.heap.size ≤ w.heap.size + 1; omega) _).setCell (by show w.heap.size ≤ w.heap.size + 1; omega) _⟩

end Go.Proofs.YtegcpplkcahkhaaGreat

/-
  Copies of relations: laws.toRelationS, laws.toData.
-/
namespace Go.Proofs.YtegcpplkcahkhaaGreat
open Go.RowKit

theorem Tryz.infoRel : (Tryz.prog.info? 65).map (fun i => (i.zero, i.size, i.bytes)) = some (some (.agg #[.string ⟨#[]⟩, .int .i64 0, .slice none 0 0, .slice none 0 0]), 4, 72) := by kernel_rfl

/-- relation i of the copy in block g -/
def RelCopy (W : World) (g i : Nat) (r : RelV) : Prop := ∃ ur uw, W.cell? ⟨g, i * 4, none⟩ = some (.string r.name) ∧ W.cell? ⟨g, i * 4 + 1, none⟩ = some (.int .i64 r.ar) ∧ W.cell? ⟨g, i * 4 + 2, none⟩ = some ur ∧ W.cell? ⟨g, i * 4 + 3, none⟩ = some uw ∧ OwnRel W (g + 1) ur uw r

theorem RelCopy.below {W W' : World} {g i : Nat} {r : RelV} (h : RelCopy W g i r) (hb : Below W.heap.size W W') : RelCopy W' g i r := by
  obtain ⟨ur, uw, h0, h1, h2, h3, h4⟩ := h
  have hlt := World.block_lt_of_cell? W _ h0
  exact ⟨ur, uw, (hb.cell (p := ⟨g, i * 4, none⟩) hlt).trans h0, (hb.cell (p := ⟨g, i * 4 + 1, none⟩) hlt).trans h1, (hb.cell (p := ⟨g, i * 4 + 2, none⟩) hlt).trans h2, (hb.cell (p := ⟨g, i * 4 + 3, none⟩) hlt).trans h3, h4.below hb⟩

theorem RelCopy.at {W : World} {g i : Nat} {r : RelV} (h : RelCopy W g i r) : RelAt W g (0 + i * 4) r := by
  obtain ⟨ur, uw, h0, h1, h2, h3, h4⟩ := h
  rw [Nat.zero_add]
  exact ⟨ur, uw, h0, h1, h2, h3, h4.irel⟩

theorem RelCopy.set {W : World} {g i q : Nat} {r : RelV} {v : Value} (h : RelCopy W g i r) (hq : q < i * 4 ∨ i * 4 + 3 < q) : RelCopy (W.setCell ⟨g, q, none⟩ v) g i r := by
  obtain ⟨ur, uw, h0, h1, h2, h3, h4⟩ := h
  exact ⟨ur, uw, (World.cell?_setCell_other _ _ _ _ (by intro e; simp only [Addr.mk.injEq] at e; omega)).trans h0, (World.cell?_setCell_other _ _ _ _ (by intro e; simp only [Addr.mk.injEq] at e; omega)).trans h1,
    (World.cell?_setCell_other _ _ _ _ (by intro e; simp only [Addr.mk.injEq] at e; omega)).trans h2, (World.cell?_setCell_other _ _ _ _ (by intro e; simp only [Addr.mk.injEq] at e; omega)).trans h3, h4.set (by omega)⟩

/-- the first j of n relations have been laid -/
structure HalfR (W : World) (g n j : Nat) (ds : List RelV) : Prop where
  any : ∀ q, q < n * 4 → ∃ u, W.cell? ⟨g, q, none⟩ = some u
  free : ∀ q, q < n * 4 → W.frozen? ⟨g, q, none⟩ = false
  copy : ∀ i, i < j → RelCopy W g i (ds.getD i noRel)

theorem HalfR.below {W W' : World} {g n j : Nat} {ds : List RelV} (h : HalfR W g n j ds) (hg : g < W.heap.size) (hb : Below W.heap.size W W') : HalfR W' g n j ds :=
  ⟨fun q hq => by obtain ⟨u, hu⟩ := h.any q hq; exact ⟨u, (hb.cell (p := ⟨g, q, none⟩) hg).trans hu⟩, fun q hq => (hb.frozen (p := ⟨g, q, none⟩) hg).trans (h.free q hq), fun i hi => (h.copy i hi).below hb⟩

theorem cell_set_any {W : World} {g q q' : Nat} {v : Value} (h : ∃ u, W.cell? ⟨g, q, none⟩ = some u) : ∃ u, (W.setCell ⟨g, q', none⟩ v).cell? ⟨g, q, none⟩ = some u := by
  obtain ⟨u, hu⟩ := h
  by_cases e : q = q'
  · subst e; exact ⟨v, World.cell?_setCell_same _ _ _ hu⟩
  · exact ⟨u, (World.cell?_setCell_other _ _ _ _ (by intro e2; simp only [Addr.mk.injEq] at e2; omega)).trans hu⟩

theorem HalfR.step {W : World} {g n j : Nat} {ds : List RelV} {ur uw : Value} (h : HalfR W g n j ds) (hj : j < n) (ho : OwnRel W (g + 1) ur uw (ds.getD j noRel)) :
    HalfR ((((W.setCell ⟨g, j * 4, none⟩ (.string (ds.getD j noRel).name)).setCell ⟨g, j * 4 + 1, none⟩ (.int .i64 (ds.getD j noRel).ar)).setCell ⟨g, j * 4 + 2, none⟩ ur).setCell ⟨g, j * 4 + 3, none⟩ uw) g n (j + 1) ds where
  any q hq := cell_set_any (cell_set_any (cell_set_any (cell_set_any (h.any q hq))))
  free q hq := by rw [World.frozen?_setCell, World.frozen?_setCell, World.frozen?_setCell, World.frozen?_setCell]; exact h.free q hq
  copy i hi := by
    by_cases e : i = j
    · subst e
      obtain ⟨u0, c0⟩ := h.any (i * 4) (by omega)
      obtain ⟨u1, c1⟩ := h.any (i * 4 + 1) (by omega)
      obtain ⟨u2, c2⟩ := h.any (i * 4 + 2) (by omega)
      obtain ⟨u3, c3⟩ := h.any (i * 4 + 3) (by omega)
      have ne : ∀ (X : World) (a b : Nat) (v : Value), a ≠ b → (X.setCell ⟨g, b, none⟩ v).cell? ⟨g, a, none⟩ = X.cell? ⟨g, a, none⟩ := fun X a b v hab => World.cell?_setCell_other _ _ _ _ (by intro e2; simp only [Addr.mk.injEq] at e2; omega)
      refine ⟨ur, uw, ?_, ?_, ?_, ?_, (((ho.set (by omega)).set (by omega)).set (by omega)).set (by omega)⟩
      · rw [ne _ _ _ _ (by omega), ne _ _ _ _ (by omega), ne _ _ _ _ (by omega)]; exact World.cell?_setCell_same _ _ _ c0
      · rw [ne _ _ _ _ (by omega), ne _ _ _ _ (by omega)]; exact World.cell?_setCell_same _ _ _ ((ne _ _ _ _ (by omega)).trans c1)
      · rw [ne _ _ _ _ (by omega)]; exact World.cell?_setCell_same _ _ _ ((ne _ _ _ _ (by omega)).trans ((ne _ _ _ _ (by omega)).trans c2))
      · exact World.cell?_setCell_same _ _ _ ((ne _ _ _ _ (by omega)).trans ((ne _ _ _ _ (by omega)).trans ((ne _ _ _ _ (by omega)).trans c3)))
    · exact ((((h.copy i (by omega)).set (by omega)).set (by omega)).set (by omega)).set (by omega)

set_option maxHeartbeats 4000000 in
set_option maxRecDepth 1000000 in
theorem toRelationS_calls (w : World) (v : Value) (ds : List RelV) (h : IRelS w v ds) (hr : OkRels ds) (hn0 : ds.length ≤ 1048576) :
    Calls Tryz.prog 26 #[v] w fun e w' => e = .returned (.slice (some ⟨w.heap.size, 0, none⟩) ds.length ds.length) ∧ HalfR w' w.heap.size ds.length ds.length ds ∧ w.heap.size < w'.heap.size ∧ Below w.heap.size w w' := by
  obtain ⟨i0, hi, hz0, hz1, hz2⟩ := info_parts Tryz.infoRel
  have HR := hid hr.2
  obtain ⟨a, cap, rfl, hc⟩ := h
  obtain ⟨n, hn⟩ : ∃ n, n = ds.length := ⟨_, rfl⟩
  have HC := hid hc
  rw [← hn] at HC hn0 ⊢
  clear hc hr hn
  go_enter Tryz.func26, Tryz.ntmps26
  go_wp2_with (at_make; refine wpList_make_full _ rfl _ _ 33 rfl w.heap.size 65 i0 (.agg #[.string ⟨#[]⟩, .int .i64 0, .slice none 0 0, .slice none 0 0]) 4 Tryz.underlying33 hi hz0 hz1 _ _ _ _ n rfl rfl rfl rfl ?b2 ?b3 (Nat.le_refl _) ?_)
  case b2 => rw [hz2]; omega
  case b3 => unfold maxLen; omega
  intro w0 hown0 hgrow0
  have hb0 : Below w.heap.size w w0 := (Below.refl _ _).grown hgrow0 (Nat.le_refl _) (fun j hj => by cases hj)
  have hlt0 : w.heap.size < w0.heap.size := (hown0.lt _ rfl).2
  have hH0 : HalfR w0 w.heap.size n 0 ds := ⟨fun q hq => by
      rw [hown0.cellAt q hq]
      exact ⟨_, List.getElem?_eq_getElem (by rw [hown0.1]; exact hq)⟩, fun q _ => hown0.frozenAt q, fun i hi => by omega⟩
  have HH0 := hid (And.intro hb0 (And.intro hlt0 hH0))
  clear hown0 hgrow0 hb0 hlt0 hH0
  go_wp2
  go_loopw [4] (fun t wr => ∃ j : Nat, j ≤ n ∧ t = .int .i64 j ∧ Hid (Below w.heap.size w wr ∧ w.heap.size < wr.heap.size ∧ HalfR wr w.heap.size n j ds)) (fun t _ => n - (intOf t).toNat)
  case atStart => exact ⟨0, Nat.zero_le _, rfl, HH0⟩
  case round =>
    clear HH0
    obtain ⟨j, hj, rfl, hH⟩ := hrel
    obtain ⟨hnx, hlt, hhr⟩ := hH.out
    by_cases hjn : j < n
    · have i1 : (j : Int) < (n : Int) := by omega
      rcases HC.out with h0 | ⟨b, o, rfl, hrel⟩
      · omega
      · obtain ⟨vr, vw, c0, c1, c2, c3, hir⟩ := (hrel j hjn).below hnx
        have K1 := hid (toRelation_calls wr vr vw (ds.getD j noRel) hir (HR.out j))
        have HNX := hid hnx
        have HHR := hid hhr
        obtain ⟨a1, k1, rfl, -⟩ := hir.rows
        obtain ⟨a2, k2, rfl, -⟩ := hir.ws
        have HST : Hid (∀ W ur uw, Below wr.heap.size wr W → OwnRel W (wr.heap.size + 3) ur uw (ds.getD j noRel) → HalfR ((((W.setCell ⟨w.heap.size, j * 4, none⟩ (.string (ds.getD j noRel).name)).setCell ⟨w.heap.size, j * 4 + 1, none⟩ (.int .i64 (ds.getD j noRel).ar)).setCell ⟨w.heap.size, j * 4 + 2, none⟩ ur).setCell ⟨w.heap.size, j * 4 + 3, none⟩ uw) w.heap.size n (j + 1) ds) := hid (fun W ur uw hb ho =>
          (HHR.out.below hlt hb).step hjn (ho.mono (by omega)))
        clear hH hnx hhr hir hrel
        generalize (ds.getD j noRel).rows.length = n1 at *
        generalize (ds.getD j noRel).ws.length = n2 at *
        obtain ⟨nm, hnm⟩ : ∃ x, x = (ds.getD j noRel).name := ⟨_, rfl⟩
        obtain ⟨ar, har⟩ : ∃ x, x = (ds.getD j noRel).ar := ⟨_, rfl⟩
        rw [← hnm] at c0 K1 HST
        rw [← har] at c1 K1 HST
        clear hnm har
        go_wp2_with fail
        refine K1.out.mono ?_
        rintro e w2 ⟨ur, uw, rfl, ho, hb⟩
        have hHR2 := HHR.out.below hlt hb
        obtain ⟨u0, d0⟩ := hHR2.any (j * 4) (by omega)
        obtain ⟨u1, d1⟩ := hHR2.any (j * 4 + 1) (by omega)
        obtain ⟨u2, d2⟩ := hHR2.any (j * 4 + 2) (by omega)
        obtain ⟨u3, d3⟩ := hHR2.any (j * 4 + 3) (by omega)
        have f0 := hHR2.free (j * 4) (by omega)
        have f1 := hHR2.free (j * 4 + 1) (by omega)
        have f2 := hHR2.free (j * 4 + 2) (by omega)
        have f3 := hHR2.free (j * 4 + 3) (by omega)
        have HF := hid (HST.out w2 ur uw hb ho)
        have HB2 := hid (bt HNX.out hb)
        have hs2 := hb.size
        obtain ⟨g1, g2, ff, rfl, rfl, -⟩ := ho
        clear hHR2 hb HST K1
        generalize (ds.getD j noRel).rows.length = m1 at *
        generalize (ds.getD j noRel).ws.length = m2 at *
        go_wp2
        go_roundw
        case rel => exact ⟨j + 1, by omega, by go_num, hid ⟨(((HB2.out.setCell (Nat.le_refl _) _).setCell (Nat.le_refl _) _).setCell (Nat.le_refl _) _).setCell (Nat.le_refl _) _, by simp [World.setCell]; omega, HF.out⟩⟩
        case measure => simp [intOf]; omega
    · obtain rfl : j = n := by omega
      have i1 : ¬ ((j : Int) < (j : Int)) := by omega
      have HX := hid (And.intro hhr (And.intro hlt hnx))
      clear hH hnx hhr
      go_wp2
      go_ret
      exact ⟨rfl, HX.out⟩

end Go.Proofs.YtegcpplkcahkhaaGreat
