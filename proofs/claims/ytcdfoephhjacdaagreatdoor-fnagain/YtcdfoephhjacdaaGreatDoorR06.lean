import Derived.Maps.OwnOps
import Derived.Maps.OwnSet
import Derived.Maps.Views
import Derived.StringKeys
import Derived.Test.YtcdfoephhjacdaaGreatDoorR00
import Derived.Test.YtcdfoephhjacdaaGreatDoorR02
/-
  Relations: impl.isRelation.
-/
namespace Go.Proofs.YtcdfoephhjacdaaGreatDoor
open Go.RowKit

structure RelV where
  name : ByteArray
  ar : Int
  rows : List (List Int)
  ws : List Int

def relB (r : RelV) : Bool := relName r.name && arityB r.ar && decide (r.rows.length ≤ 2000) && rowsB r.rows r.ar && (r.rows.all fun l => l.all valB) && decide (r.ws.length = r.rows.length) && r.ws.all wtB

structure IRel (w : World) (vr vw : Value) (r : RelV) : Prop where
  rows : ISS w vr r.rows
  ws : IS w vw r.ws

theorem IRel.below {w w' : World} {vr vw : Value} {r : RelV} (h : IRel w vr vw r) (hb : Below w.heap.size w w') : IRel w' vr vw r := ⟨h.rows.below hb, h.ws.below hb⟩

/-- what a copy may be made of -/
structure OkRel (r : RelV) : Prop where
  name : r.name.size ≤ 9223372036854775807
  rows : Short r.rows
  ws : r.ws.length ≤ 1099511627776

set_option maxHeartbeats 4000000 in
set_option maxRecDepth 1000000 in
theorem isRelation_calls (w : World) (vr vw : Value) (r : RelV) (h : IRel w vr vw r) (hr : OkRel r) :
    Calls Tryz.prog 42 #[.agg #[.string r.name, .int .i64 r.ar, vr, vw]] w fun e w' => e = .returned (.bool (relB r)) ∧ Below w.heap.size w w' := by
  have HB : Hid (Below w.heap.size w (w.alloc (.cells #[.string r.name, .int .i64 r.ar, vr, vw] 45))) := hid ((Below.refl _ _).alloc (Nat.le_refl _) _)
  have K1 := hid (isRelationName_calls (w.alloc (.cells #[.string r.name, .int .i64 r.ar, vr, vw] 45)) r.name hr.name)
  have K2 := hid (isArity_calls (w.alloc (.cells #[.string r.name, .int .i64 r.ar, vr, vw] 45)) r.ar)
  have K4 := hid (areSortedRows_calls (w.alloc (.cells #[.string r.name, .int .i64 r.ar, vr, vw] 45)) vr r.rows r.ar (h.rows.below HB.out) hr.rows)
  have K5 := hid (areValues_calls (w.alloc (.cells #[.string r.name, .int .i64 r.ar, vr, vw] 45)) vr r.rows (h.rows.below HB.out) hr.rows)
  have K7 := hid (areWeights_calls (w.alloc (.cells #[.string r.name, .int .i64 r.ar, vr, vw] 45)) vw r.ws (h.ws.below HB.out) hr.ws)
  have hr1 := hr.rows.1
  have hr2 := hr.ws
  obtain ⟨a1, k1, rfl, -⟩ := h.rows
  obtain ⟨a2, k2, rfl, -⟩ := h.ws
  clear h hr
  unfold relB
  generalize relName r.name = b1 at *
  generalize arityB r.ar = b2 at *
  generalize rowsB r.rows r.ar = b4 at *
  generalize (r.rows.all fun l => l.all valB) = b5 at *
  generalize r.ws.all wtB = b7 at *
  generalize r.rows.length = n at *
  generalize r.ws.length = m at *
  generalize r.name = nm at *
  generalize r.ar = ar at *
  cases b1
  case false =>
    clear K2 K4 K5 K7
    go_enter Tryz.func42, Tryz.ntmps42
    go_wp2_with (first | (go_at_call 65; refine K1.out.mono ?_; rintro e w' ⟨rfl, hw'⟩; subst w'))
    go_ret
    exact ⟨ret_bool (by simp), HB.out⟩
  cases b2
  case false =>
    clear K4 K5 K7
    go_enter Tryz.func42, Tryz.ntmps42
    go_wp2_with (first | (go_at_call 65; refine K1.out.mono ?_; rintro e w' ⟨rfl, hw'⟩; subst w') | (go_at_call 64; refine K2.out.mono ?_; rintro e w' ⟨rfl, hw'⟩; subst w'))
    go_ret
    exact ⟨ret_bool (by simp), HB.out⟩
  by_cases h3 : 2000 < n
  · have i3 : ¬ ((n : Int) ≤ 2000) := by omega
    have d3 : ¬ (n ≤ 2000) := by omega
    clear K4 K5 K7
    go_enter Tryz.func42, Tryz.ntmps42
    go_wp2_with (first | (go_at_call 65; refine K1.out.mono ?_; rintro e w' ⟨rfl, hw'⟩; subst w') | (go_at_call 64; refine K2.out.mono ?_; rintro e w' ⟨rfl, hw'⟩; subst w'))
    go_ret
    exact ⟨ret_bool (by simp), HB.out⟩
  have i3 : (n : Int) ≤ 2000 := by omega
  have d3 : n ≤ 2000 := by omega
  cases b4
  case false =>
    clear K5 K7
    go_enter Tryz.func42, Tryz.ntmps42
    go_wp2_with (first | (go_at_call 65; refine K1.out.mono ?_; rintro e w' ⟨rfl, hw'⟩; subst w') | (go_at_call 64; refine K2.out.mono ?_; rintro e w' ⟨rfl, hw'⟩; subst w') | (go_at_call 71; refine K4.out.mono ?_; rintro e w' ⟨rfl, hw'⟩; subst w'))
    go_ret
    exact ⟨ret_bool (by simp), HB.out⟩
  cases b5
  case false =>
    clear K7
    go_enter Tryz.func42, Tryz.ntmps42
    go_wp2_with (first | (go_at_call 65; refine K1.out.mono ?_; rintro e w' ⟨rfl, hw'⟩; subst w') | (go_at_call 64; refine K2.out.mono ?_; rintro e w' ⟨rfl, hw'⟩; subst w') | (go_at_call 71; refine K4.out.mono ?_; rintro e w' ⟨rfl, hw'⟩; subst w') | (go_at_call 72; refine K5.out.mono ?_; rintro e w' ⟨rfl, hw'⟩; subst w'))
    go_ret
    exact ⟨ret_bool (by simp), HB.out⟩
  by_cases h6 : m = n
  · subst h6
    go_enter Tryz.func42, Tryz.ntmps42
    go_wp2_with (first | (go_at_call 65; refine K1.out.mono ?_; rintro e w' ⟨rfl, hw'⟩; subst w') | (go_at_call 64; refine K2.out.mono ?_; rintro e w' ⟨rfl, hw'⟩; subst w') | (go_at_call 71; refine K4.out.mono ?_; rintro e w' ⟨rfl, hw'⟩; subst w') | (go_at_call 72; refine K5.out.mono ?_; rintro e w' ⟨rfl, hw'⟩; subst w') | (go_at_call 73; refine K7.out.mono ?_; rintro e w' ⟨rfl, hw'⟩; subst w'))
    go_ret
    exact ⟨ret_bool (by simp [d3]), HB.out⟩
  · have i6 : ¬ ((m : Int) = (n : Int)) := by omega
    have i7 : ((m : Int) == (n : Int)) = false := by simp; omega
    clear K7
    go_enter Tryz.func42, Tryz.ntmps42
    go_wp2_with (first | (go_at_call 65; refine K1.out.mono ?_; rintro e w' ⟨rfl, hw'⟩; subst w') | (go_at_call 64; refine K2.out.mono ?_; rintro e w' ⟨rfl, hw'⟩; subst w') | (go_at_call 71; refine K4.out.mono ?_; rintro e w' ⟨rfl, hw'⟩; subst w') | (go_at_call 72; refine K5.out.mono ?_; rintro e w' ⟨rfl, hw'⟩; subst w'))
    go_ret
    exact ⟨ret_bool (by simp [h6]), HB.out⟩

end Go.Proofs.YtcdfoephhjacdaaGreatDoor

/-
  Data: impl.DataOK.
-/
namespace Go.Proofs.YtcdfoephhjacdaaGreatDoor
open Go.RowKit Go.Maps

def noRel : RelV := ⟨⟨#[]⟩, 0, [], []⟩

/-- relation j of what lies at b, o -/
def RelAt (w : World) (b o : Nat) (r : RelV) : Prop := ∃ vr vw, w.cell? ⟨b, o, none⟩ = some (.string r.name) ∧ w.cell? ⟨b, o + 1, none⟩ = some (.int .i64 r.ar) ∧ w.cell? ⟨b, o + 2, none⟩ = some vr ∧ w.cell? ⟨b, o + 3, none⟩ = some vw ∧ IRel w vr vw r

theorem RelAt.below {w w' : World} {b o : Nat} {r : RelV} (h : RelAt w b o r) (hb : Below w.heap.size w w') : RelAt w' b o r := by
  obtain ⟨vr, vw, h0, h1, h2, h3, h4⟩ := h
  have hlt := World.block_lt_of_cell? w _ h0
  exact ⟨vr, vw, (hb.cell (p := ⟨b, o, none⟩) hlt).trans h0, (hb.cell (p := ⟨b, o + 1, none⟩) hlt).trans h1, (hb.cell (p := ⟨b, o + 2, none⟩) hlt).trans h2, (hb.cell (p := ⟨b, o + 3, none⟩) hlt).trans h3, h4.below hb⟩

/-- relations that can be read -/
def IRelS (w : World) (v : Value) (ds : List RelV) : Prop := ∃ a cap, v = .slice a ds.length cap ∧ (ds.length = 0 ∨ ∃ b o, a = some ⟨b, o, none⟩ ∧ ∀ j, j < ds.length → RelAt w b (o + j * 4) (ds.getD j noRel))

theorem IRelS.below {w w' : World} {v : Value} {ds : List RelV} (h : IRelS w v ds) (hb : Below w.heap.size w w') : IRelS w' v ds := by
  obtain ⟨a, cap, rfl, h⟩ := h
  refine ⟨a, cap, rfl, ?_⟩
  rcases h with h | ⟨b, o, rfl, h⟩
  · exact Or.inl h
  · exact Or.inr ⟨b, o, rfl, fun j hj => (h j hj).below hb⟩

def OkRels (ds : List RelV) : Prop := ds.length ≤ 1099511627776 ∧ ∀ j, OkRel (ds.getD j noRel)

def namedB (ds : List RelV) (i : Nat) (s : ByteArray) : Bool := (List.range i).any fun j => decide ((ds.getD j noRel).name = s)
def relAtB (ds : List RelV) (i : Nat) : Bool := relB (ds.getD i noRel) && !namedB ds i (ds.getD i noRel).name
def dataB (ds : List RelV) : Bool := decide (ds.length ≤ 50) && (List.range ds.length).all (relAtB ds)

theorem dataB_true {ds : List RelV} (h0 : ds.length ≤ 50) (h : ∀ i, i < ds.length → relAtB ds i = true) : dataB ds = true := by
  unfold dataB
  rw [decide_eq_true h0, Bool.true_and, List.all_eq_true]
  intro i hi
  exact h i (by simpa using hi)
theorem dataB_false {ds : List RelV} {i : Nat} (hi : i < ds.length) (h : relAtB ds i = false) : dataB ds = false := by
  unfold dataB
  rw [show (List.range ds.length).all (relAtB ds) = false from List.all_eq_false.2 ⟨i, by simpa using hi, by rw [h]; decide⟩, Bool.and_false]
theorem dataB_long {ds : List RelV} (h : 50 < ds.length) : dataB ds = false := by
  unfold dataB
  rw [decide_eq_false (by omega), Bool.false_and]

theorem named_succ (ds : List RelV) (i : Nat) (s : ByteArray) : namedB ds (i + 1) s = (namedB ds i s || decide ((ds.getD i noRel).name = s)) := by
  unfold namedB
  rw [List.range_succ, List.any_append]
  simp

theorem Tryz.lawS : Keyed Tryz.prog 9 := string_keyed Tryz.underlying9
theorem Tryz.zeroI (w : World) : (zeroValue 3).run Tryz.prog w = .ok (.int .i64 0) w := by kernel_rfl

theorem map_below {w w' : World} {b n : Nat} {k : TypeId} {R : Value → Option (DataW Unit × List MemPlace)} {D : DataW Unit} (h : w.ownsMap Tryz.prog k R b n D) (hb : Below w.heap.size w w') : w'.ownsMap Tryz.prog k R b n D := by
  have hlt := h.lt
  obtain ⟨es, clock, hb', F, hs, hD⟩ := h
  exact ⟨es, clock, (hb.block b hlt).trans hb', F, hs, hD⟩

/-- what the map of names holds behind k relations -/
def Held (w : World) (b k : Nat) (ds : List RelV) : Prop := ∃ D : DataW Unit, w.ownsMap Tryz.prog 9 (plainElem Tryz.prog 3) b k D ∧ ∀ s : ByteArray, Maps.has D (.string s.data.toList) = namedB ds k s

theorem Held.start (w : World) (ds : List RelV) : Held (w.alloc (.map #[] 0)) w.heap.size 0 ds := ⟨.map [], World.ownsMap_made _ _ _ _, fun _ => rfl⟩

theorem held_put {D : DataW Unit} {k : Nat} {ds : List RelV} {d : DataW Unit} (hm : IsMap D) (h : ∀ s : ByteArray, Maps.has D (.string s.data.toList) = namedB ds k s) :
    ∀ s : ByteArray, Maps.has (D.put (.string (ds.getD k noRel).name.data.toList) d) (.string s.data.toList) = namedB ds (k + 1) s := fun s => by
  rw [named_succ]
  by_cases e : (ds.getD k noRel).name = s
  · subst e
    rw [has_put_same hm (by simp [WideAt.IsKeyLit])]
    simp
  · rw [has_put_other (fun e2 => e (by simp only [Lit.string.injEq] at e2; exact (WideShapes.bytes_inj e2).symm)), h s, decide_eq_false e, Bool.or_false]

set_option maxHeartbeats 4000000 in
set_option maxRecDepth 1000000 in
theorem dataOK_calls (w : World) (v : Value) (ds : List RelV) (h : IRelS w v ds) (hr : OkRels ds) :
    Calls Tryz.prog 22 #[.agg #[v]] w fun e w' => e = .returned (.bool (dataB ds)) ∧ Below w.heap.size w w' := by
  have HB0 : Hid (Below w.heap.size w (w.alloc (.cells #[v] 25))) := hid ((Below.refl _ _).alloc (Nat.le_refl _) _)
  have HI := hid h
  have HR := hid hr.2
  have hr1 := hr.1
  obtain ⟨a, cap, rfl, hc⟩ := h
  have HC := hid hc
  obtain ⟨n, hn⟩ : ∃ n, n = ds.length := ⟨_, rfl⟩
  obtain ⟨res, hres⟩ : ∃ r, r = dataB ds := ⟨_, rfl⟩
  rw [← hres]
  have HL : Hid (50 < n → res = false) := hid (fun h => hres.trans (dataB_long (by rw [← hn]; exact h)))
  have HT : Hid (n ≤ 50 → (∀ i, i < n → relAtB ds i = true) → res = true) := hid (fun h1 h2 => hres.trans (dataB_true (by rw [← hn]; exact h1) (by rw [← hn]; exact h2)))
  have HF : Hid (∀ i, i < n → relAtB ds i = false → res = false) := hid (fun i h1 h2 => hres.trans (dataB_false (by rw [← hn]; exact h1) h2))
  rw [← hn] at HC HB0 hr1 ⊢
  clear hc hn hres hr HI
  have hmm := @run_makeMap Tryz.prog
  by_cases h50 : 50 < n
  · have hf := hid (HL.out h50)
    have i1 : (50 : Int) < (n : Int) := by omega
    go_enter Tryz.func22, Tryz.ntmps22
    go_wp2
    go_ret
    exact ⟨ret_bool (by rw [hf.out]), HB0.out⟩
  have i1 : ¬ ((50 : Int) < (n : Int)) := by omega
  go_enter Tryz.func22, Tryz.ntmps22
  go_wp2
  go_loopw [16] (fun t wr => ∃ k : Nat, k ≤ n ∧ t = .int .i64 k ∧ Hid (Below w.heap.size w wr ∧ Held wr (w.heap.size + 1) k ds ∧ ∀ i, i < k → relAtB ds i = true)) (fun t _ => n - (intOf t).toNat)
  case atStart => exact ⟨0, Nat.zero_le _, rfl, hid ⟨HB0.out.alloc (by simp) _, by have := Held.start (w.alloc (.cells #[.slice a n cap] 25)) ds; simpa using this, fun i hi => by omega⟩⟩
  case round =>
    obtain ⟨k, hk, rfl, hH⟩ := hrel
    obtain ⟨hnx, ⟨D, hown, hhas⟩, hok⟩ := hH.out
    have hns := hnx.size
    by_cases hkn : k < n
    · have j1 : (k : Int) < (n : Int) := by omega
      rcases HC.out with h0 | ⟨b, o, rfl, hrel⟩
      · omega
      · obtain ⟨vr, vw, c0, c1, c2, c3, hir⟩ := (hrel k hkn).below hnx
        have hokr := HR.out k
        have hh := hhas (ds.getD k noRel).name
        have HP := hid (fun d => held_put (d := d) hown.isMap hhas)
        have hat : relAtB ds k = (relB (ds.getD k noRel) && !namedB ds k (ds.getD k noRel).name) := rfl
        have hsz := hokr.name
        have K1 := hid (isRelation_calls (wr.alloc (.cells #[.string (ds.getD k noRel).name, .int .i64 (ds.getD k noRel).ar, vr, vw] 45)) vr vw (ds.getD k noRel) (hir.below ((Below.refl _ _).alloc (Nat.le_refl _) _)) hokr)
        have HBr : Hid (Below w.heap.size w (wr.alloc (.cells #[.string (ds.getD k noRel).name, .int .i64 (ds.getD k noRel).ar, vr, vw] 45))) := hid (hnx.alloc hns _)
        obtain ⟨a1, k1, rfl, -⟩ := hir.rows
        obtain ⟨a2, k2, rfl, -⟩ := hir.ws
        have HOK := hid hok
        clear hH hrel hir hokr hhas hok
        have hfin := HF.out k hkn
        rw [hat] at hfin
        have hnxt : (relB (ds.getD k noRel) && !namedB ds k (ds.getD k noRel).name) = true → Hid (∀ i, i < k + 1 → relAtB ds i = true) := fun e => hid (fun i hi => by
          by_cases e2 : i = k
          · rw [e2, hat]; exact e
          · exact HOK.out i (by omega))
        clear hat
        generalize namedB ds k (ds.getD k noRel).name = y at *
        generalize relB (ds.getD k noRel) = z at *
        generalize (ds.getD k noRel).rows.length = n1 at *
        generalize (ds.getD k noRel).ws.length = n2 at *
        generalize (ds.getD k noRel).ar = ar at *
        generalize (ds.getD k noRel).name = nm at *
        cases y
        · cases z
          · have hf := hid (hfin rfl)
            clear hfin hnxt HP
            go_wp2_with (first | (at_lookup; refine wpList_lookup_own_ok_int _ rfl _ _ 59 rfl 9 3 .i64 Tryz.lawS Tryz.underlying59 Tryz.underlying3 (Tryz.zeroI _) (w.heap.size + 1) k D rfl (hown.alloc _) _ _ rfl (WideMaps.keyOf_string_mk Tryz.underlying9 hsz) ?_; intro cL hatk hwc; rw [hh]))
            refine K1.out.mono ?_
            rintro e w2 ⟨rfl, hb2⟩
            have HB2 := hid (bt HBr.out hb2)
            clear hb2
            go_wp2
            go_ret
            exact ⟨ret_bool (by rw [hf.out]), HB2.out⟩
          · have hf := hnxt rfl
            clear hfin hnxt
            go_wp2_with (first | (at_lookup; refine wpList_lookup_own_ok_int _ rfl _ _ 59 rfl 9 3 .i64 Tryz.lawS Tryz.underlying59 Tryz.underlying3 (Tryz.zeroI _) (w.heap.size + 1) k D rfl (hown.alloc _) _ _ rfl (WideMaps.keyOf_string_mk Tryz.underlying9 hsz) ?_; intro cL hatk hwc; rw [hh]))
            refine K1.out.mono ?_
            rintro e w2 ⟨rfl, hb2⟩
            have HB2 := hid (bt HBr.out hb2)
            have c5 : w2.cell? ⟨wr.heap.size, 0, none⟩ = some (.string nm) := by
              rw [hb2.cell (p := ⟨wr.heap.size, 0, none⟩) (by simp)]; simp [go_sem]
            have hown2 := map_below (hown.alloc (.cells #[.string nm, .int .i64 ar, .slice a1 n1 k1, .slice a2 n2 k2] 45)) hb2
            have hns2 := HB2.out.size
            clear hb2 hown hh
            go_wp2_with (first | (at_mapUpdate; refine wpList_mapUpdate_own _ rfl _ _ _ 59 rfl 9 3 Tryz.lawS Tryz.underlying59 _ (w.heap.size + 1) k _ rfl hown2 (by unfold maxLen; omega) _ _ _ rfl rfl (WideMaps.keyOf_string_mk Tryz.underlying9 hsz) _ [] (plainElem_int Tryz.underlying3 (WalkArith.wf_i64 (by omega))) ?_))
            intro w3 hown3 hgrow3
            have HB3 : Hid (Below w.heap.size w w3) := hid (HB2.out.grown hgrow3 hns2 (fun j hj => by cases hj; omega))
            have HH3 : Hid (Held w3 (w.heap.size + 1) (k + 1) ds) := hid ⟨_, hown3, HP.out _⟩
            clear hown3 hgrow3 hown2
            go_wp2
            go_roundw
            case rel => exact ⟨k + 1, by omega, by go_num, hid ⟨HB3.out, HH3.out, hf.out⟩⟩
            case measure => simp [intOf]; omega
        · have hf := hid (hfin (by simp))
          clear hfin hnxt HP K1
          go_wp2_with (first | (at_lookup; refine wpList_lookup_own_ok_int _ rfl _ _ 59 rfl 9 3 .i64 Tryz.lawS Tryz.underlying59 Tryz.underlying3 (Tryz.zeroI _) (w.heap.size + 1) k D rfl (hown.alloc _) _ _ rfl (WideMaps.keyOf_string_mk Tryz.underlying9 hsz) ?_; intro cL hatk hwc; rw [hh]))
          go_ret
          exact ⟨ret_bool (by rw [hf.out]), HBr.out⟩
    · obtain rfl : k = n := by omega
      have j1 : ¬ ((k : Int) < (k : Int)) := by omega
      have hf := hid (HT.out (by omega) hok)
      have HNX := hid hnx
      clear hH hok hnx hown hhas
      go_wp2
      go_ret
      exact ⟨ret_bool (by rw [hf.out]), HNX.out⟩

end Go.Proofs.YtcdfoephhjacdaaGreatDoor

/-
  spec.DataOK.
-/
namespace Go.Proofs.YtcdfoephhjacdaaGreatDoor
open Go.RowKit

structure RB (w : World) (dB rB : Nat) (vd v0 v1 v2 v3 : Value) (W : World) : Prop where
  d0 : W.cell? ⟨dB, 0, none⟩ = some vd
  r0 : W.cell? ⟨rB, 0, none⟩ = some v0
  r1 : W.cell? ⟨rB, 1, none⟩ = some v1
  r2 : W.cell? ⟨rB, 2, none⟩ = some v2
  r3 : W.cell? ⟨rB, 3, none⟩ = some v3
  dl : dB < W.heap.size
  rl : rB < W.heap.size
  below : Below dB w W

theorem RB.step {w W W' : World} {dB rB : Nat} {vd v0 v1 v2 v3 : Value} (h : RB w dB rB vd v0 v1 v2 v3 W) (hb : Below W.heap.size W W') : RB w dB rB vd v0 v1 v2 v3 W' where
  d0 := (hb.cell (p := ⟨dB, 0, none⟩) h.dl).trans h.d0
  r0 := (hb.cell (p := ⟨rB, 0, none⟩) h.rl).trans h.r0
  r1 := (hb.cell (p := ⟨rB, 1, none⟩) h.rl).trans h.r1
  r2 := (hb.cell (p := ⟨rB, 2, none⟩) h.rl).trans h.r2
  r3 := (hb.cell (p := ⟨rB, 3, none⟩) h.rl).trans h.r3
  dl := Nat.lt_of_lt_of_le h.dl hb.size
  rl := Nat.lt_of_lt_of_le h.rl hb.size
  below := h.below.trans (hb.mono (Nat.le_of_lt h.dl))

theorem RB.drewN {w W : World} {dB rB : Nat} {vd v0 v1 v2 v3 : Value} (h : RB w dB rB vd v0 v1 v2 v3 W) (d : Nat) : RB w dB rB vd v0 v1 v2 v3 (W.drewN d) := h.step (below_drewN (Below.refl _ _) d)

end Go.Proofs.YtcdfoephhjacdaaGreatDoor

/-
  A map of names to their places.
-/
namespace Go.Proofs.YtcdfoephhjacdaaGreatDoor
open Go.RowKit Go.Maps

def noTxP : ByteArray := ⟨#[]⟩
def hasP (L : List ByteArray) (s : ByteArray) : Bool := L.any fun x => x.toList == s.toList
theorem Tryz.lawPl : Keyed Tryz.prog 9 := string_keyed Tryz.underlying9
theorem Tryz.zeroPl (w : World) : (zeroValue 3).run Tryz.prog w = .ok (.int .i64 0) w := by kernel_rfl

theorem map_belP {w w' : World} {b n : Nat} {k : TypeId} {R : Value → Option (DataW Unit × List MemPlace)} {D : DataW Unit} (h : w.ownsMap Tryz.prog k R b n D) (hb : Below w.heap.size w w') : w'.ownsMap Tryz.prog k R b n D := by
  have hlt := h.lt
  obtain ⟨es, clock, hb', F, hs, hD⟩ := h
  exact ⟨es, clock, (hb.block b hlt).trans hb', F, hs, hD⟩

theorem beq_txP (a b : ByteArray) : (a.toList == b.toList) = decide (a = b) := by
  rw [ByteArray.toList_eq, ByteArray.toList_eq]
  by_cases h : a = b
  · subst h; simp
  · rw [decide_eq_false h]
    simp only [beq_eq_false_iff_ne, ne_eq]
    exact fun e => h (WideShapes.bytes_inj e)

theorem hasP_app (L : List ByteArray) (x s : ByteArray) : hasP (L ++ [x]) s = (hasP L s || decide (x = s)) := by
  unfold hasP
  rw [List.any_append]
  simp [beq_txP]

/-- block b holds the numbers of L -/
def PlcM (w : World) (b : Nat) (L : List ByteArray) : Prop := ∃ D : DataW Unit, w.ownsMap Tryz.prog 9 (plainElem Tryz.prog 3) b L.length D ∧ (∀ s : ByteArray, Maps.has D (.string s.data.toList) = hasP L s) ∧ Maps.size D = L.length ∧ ∀ i, i < L.length → ∀ zd, D.atKey (.string (L.getD i noTxP).data.toList) zd = .lit (.int .i64 (i : Int))

theorem PlcM.start (w : World) : PlcM (w.alloc (.map #[] 0)) w.heap.size [] := ⟨.map [], World.ownsMap_made _ _ _ _, fun _ => rfl, rfl, fun i hi => by simp at hi⟩

theorem getD_appP_lt {L : List ByteArray} {x : ByteArray} {i : Nat} (h : i < L.length) : (L ++ [x]).getD i noTxP = L.getD i noTxP := by
  rw [List.getD_eq_getElem?_getD, List.getD_eq_getElem?_getD, List.getElem?_append_left h]
theorem getD_appP_eq {L : List ByteArray} {x : ByteArray} : (L ++ [x]).getD L.length noTxP = x := by
  simp [List.getD_eq_getElem?_getD]

theorem hasP_get {L : List ByteArray} {i : Nat} (h : i < L.length) : hasP L (L.getD i noTxP) = true := by
  unfold hasP
  rw [List.any_eq_true]
  exact ⟨L.getD i noTxP, List.mem_of_getElem? (i := i) (by simp [List.getD_eq_getElem?_getD, h]), by simp⟩

theorem PlcM.bel {w w' : World} {b : Nat} {L : List ByteArray} (h : PlcM w b L) (hb : Below w.heap.size w w') : PlcM w' b L := by
  obtain ⟨D, h0, h1⟩ := h
  exact ⟨D, map_belP h0 hb, h1⟩

theorem PlcM.put {w' : World} {b : Nat} {L : List ByteArray} {x : ByteArray} {D : DataW Unit} (hD : IsMap D) (hT : Tidy D) (h1 : ∀ s : ByteArray, Maps.has D (.string s.data.toList) = hasP L s) (h2 : Maps.size D = L.length) (h3 : ∀ i, i < L.length → ∀ zd, D.atKey (.string (L.getD i noTxP).data.toList) zd = .lit (.int .i64 (i : Int)))
    (hx : hasP L x = false) (h' : w'.ownsMap Tryz.prog 9 (plainElem Tryz.prog 3) b (L.length + 1) (D.put (.string x.data.toList) (.lit (.int .i64 (L.length : Int))))) : PlcM w' b (L ++ [x]) := by
  have hk : WideAt.IsKeyLit (Lit.string x.data.toList) := by simp [WideAt.IsKeyLit]
  refine ⟨_, by rw [List.length_append]; exact h', fun s => ?_, ?_, fun i hi zd => ?_⟩
  · rw [hasP_app]
    by_cases e : x = s
    · subst e
      rw [has_put_same hD hk]; simp
    · rw [has_put_other (fun e2 => e (by simp only [Lit.string.injEq] at e2; exact (WideShapes.bytes_inj e2).symm)), h1 s, decide_eq_false e, Bool.or_false]
  · rw [size_put hT, h1 x, hx, if_neg (by decide), h2, List.length_append]; rfl
  · rw [List.length_append] at hi
    by_cases e : i < L.length
    · rw [getD_appP_lt e, atKey_put_other (fun e2 => by
        simp only [Lit.string.injEq] at e2
        have e3 := WideShapes.bytes_inj e2
        have := hasP_get e
        rw [e3, hx] at this; cases this)]
      exact h3 i e zd
    · have : i = L.length := by simp at hi; omega
      subst this
      rw [getD_appP_eq, atKey_put_same hD hk]


end Go.Proofs.YtcdfoephhjacdaaGreatDoor

/-
  Copies of relations: laws.toRelation.
-/
namespace Go.Proofs.YtcdfoephhjacdaaGreatDoor
open Go.RowKit

/-- a relation's two lists in blocks of the copy's own -/
def OwnRel (w : World) (B : Nat) (ur uw : Value) (r : RelV) : Prop := ∃ g1 g2 f, ur = .slice (some ⟨g1, 0, none⟩) r.rows.length r.rows.length ∧ uw = .slice (some ⟨g2, 0, none⟩) r.ws.length r.ws.length ∧ Half w g1 r.rows.length r.rows.length r.rows f ∧ OwnI w g2 r.ws ∧ B ≤ g1 ∧ g1 < g2

theorem OwnRel.irel {w : World} {B : Nat} {ur uw : Value} {r : RelV} (h : OwnRel w B ur uw r) : IRel w ur uw r := by
  obtain ⟨g1, g2, f, rfl, rfl, h1, h2, _, _⟩ := h
  exact ⟨h1.iss rfl, h2.is⟩
theorem OwnRel.below {w w' : World} {B : Nat} {ur uw : Value} {r : RelV} (h : OwnRel w B ur uw r) (hb : Below w.heap.size w w') : OwnRel w' B ur uw r := by
  obtain ⟨g1, g2, f, rfl, rfl, h1, h2, h3, h4⟩ := h
  exact ⟨g1, g2, f, rfl, rfl, h1.below (Nat.lt_trans h4 h2.lt) hb, h2.below hb, h3, h4⟩
theorem OwnRel.set {w : World} {B c o : Nat} {ur uw v : Value} {r : RelV} (h : OwnRel w B ur uw r) (hc : c < B) : OwnRel (w.setCell ⟨c, o, none⟩ v) B ur uw r := by
  obtain ⟨g1, g2, f, rfl, rfl, h1, h2, h3, h4⟩ := h
  exact ⟨g1, g2, f, rfl, rfl, h1.set (by omega), h2.set (by omega), h3, h4⟩
theorem OwnRel.mono {w : World} {B B' : Nat} {ur uw : Value} {r : RelV} (h : OwnRel w B ur uw r) (hc : B' ≤ B) : OwnRel w B' ur uw r := by
  obtain ⟨g1, g2, f, rfl, rfl, h1, h2, h3, h4⟩ := h
  exact ⟨g1, g2, f, rfl, rfl, h1, h2, Nat.le_trans hc h3, h4⟩

end Go.Proofs.YtcdfoephhjacdaaGreatDoor

/-
  Copies of relations: laws.toRelationS, laws.toData.
-/
namespace Go.Proofs.YtcdfoephhjacdaaGreatDoor
open Go.RowKit

/-- relation i of the copy in block g -/
def RelCopy (W : World) (g i : Nat) (r : RelV) : Prop := ∃ ur uw, W.cell? ⟨g, i * 4, none⟩ = some (.string r.name) ∧ W.cell? ⟨g, i * 4 + 1, none⟩ = some (.int .i64 r.ar) ∧ W.cell? ⟨g, i * 4 + 2, none⟩ = some ur ∧ W.cell? ⟨g, i * 4 + 3, none⟩ = some uw ∧ OwnRel W (g + 1) ur uw r

theorem RelCopy.below {W W' : World} {g i : Nat} {r : RelV} (h : RelCopy W g i r) (hb : Below W.heap.size W W') : RelCopy W' g i r := by
  obtain ⟨ur, uw, h0, h1, h2, h3, h4⟩ := h
  have hlt := World.block_lt_of_cell? W _ h0
  exact ⟨ur, uw, (hb.cell (p := ⟨g, i * 4, none⟩) hlt).trans h0, (hb.cell (p := ⟨g, i * 4 + 1, none⟩) hlt).trans h1, (hb.cell (p := ⟨g, i * 4 + 2, none⟩) hlt).trans h2, (hb.cell (p := ⟨g, i * 4 + 3, none⟩) hlt).trans h3, h4.below hb⟩

theorem RelCopy.at {W : World} {g i : Nat} {r : RelV} (h : RelCopy W g i r) : RelAt W g (0 + i * 4) r := by
  obtain ⟨ur, uw, h0, h1, h2, h3, h4⟩ := h
  rw [Nat.zero_add]
  exact ⟨ur, uw, h0, h1, h2, h3, h4.irel⟩

theorem RelCopy.set {W : World} {g i q : Nat} {r : RelV} {v : Value} (h : RelCopy W g i r) (hq : q < i * 4 ∨ i * 4 + 3 < q) : RelCopy (W.setCell ⟨g, q, none⟩ v) g i r := by
  obtain ⟨ur, uw, h0, h1, h2, h3, h4⟩ := h
  exact ⟨ur, uw, (World.cell?_setCell_other _ _ _ _ (by intro e; simp only [Addr.mk.injEq] at e; omega)).trans h0, (World.cell?_setCell_other _ _ _ _ (by intro e; simp only [Addr.mk.injEq] at e; omega)).trans h1,
    (World.cell?_setCell_other _ _ _ _ (by intro e; simp only [Addr.mk.injEq] at e; omega)).trans h2, (World.cell?_setCell_other _ _ _ _ (by intro e; simp only [Addr.mk.injEq] at e; omega)).trans h3, h4.set (by omega)⟩

/-- the first j of n relations have been laid -/
structure HalfR (W : World) (g n j : Nat) (ds : List RelV) : Prop where
  any : ∀ q, q < n * 4 → ∃ u, W.cell? ⟨g, q, none⟩ = some u
  free : ∀ q, q < n * 4 → W.frozen? ⟨g, q, none⟩ = false
  copy : ∀ i, i < j → RelCopy W g i (ds.getD i noRel)

theorem HalfR.below {W W' : World} {g n j : Nat} {ds : List RelV} (h : HalfR W g n j ds) (hg : g < W.heap.size) (hb : Below W.heap.size W W') : HalfR W' g n j ds :=
  ⟨fun q hq => by obtain ⟨u, hu⟩ := h.any q hq; exact ⟨u, (hb.cell (p := ⟨g, q, none⟩) hg).trans hu⟩, fun q hq => (hb.frozen (p := ⟨g, q, none⟩) hg).trans (h.free q hq), fun i hi => (h.copy i hi).below hb⟩

theorem cell_set_any {W : World} {g q q' : Nat} {v : Value} (h : ∃ u, W.cell? ⟨g, q, none⟩ = some u) : ∃ u, (W.setCell ⟨g, q', none⟩ v).cell? ⟨g, q, none⟩ = some u := by
  obtain ⟨u, hu⟩ := h
  by_cases e : q = q'
  · subst e; exact ⟨v, World.cell?_setCell_same _ _ _ hu⟩
  · exact ⟨u, (World.cell?_setCell_other _ _ _ _ (by intro e2; simp only [Addr.mk.injEq] at e2; omega)).trans hu⟩

theorem HalfR.step {W : World} {g n j : Nat} {ds : List RelV} {ur uw : Value} (h : HalfR W g n j ds) (hj : j < n) (ho : OwnRel W (g + 1) ur uw (ds.getD j noRel)) :
    HalfR ((((W.setCell ⟨g, j * 4, none⟩ (.string (ds.getD j noRel).name)).setCell ⟨g, j * 4 + 1, none⟩ (.int .i64 (ds.getD j noRel).ar)).setCell ⟨g, j * 4 + 2, none⟩ ur).setCell ⟨g, j * 4 + 3, none⟩ uw) g n (j + 1) ds where
  any q hq := cell_set_any (cell_set_any (cell_set_any (cell_set_any (h.any q hq))))
  free q hq := by rw [World.frozen?_setCell, World.frozen?_setCell, World.frozen?_setCell, World.frozen?_setCell]; exact h.free q hq
  copy i hi := by
    by_cases e : i = j
    · subst e
      obtain ⟨u0, c0⟩ := h.any (i * 4) (by omega)
      obtain ⟨u1, c1⟩ := h.any (i * 4 + 1) (by omega)
      obtain ⟨u2, c2⟩ := h.any (i * 4 + 2) (by omega)
      obtain ⟨u3, c3⟩ := h.any (i * 4 + 3) (by omega)
      have ne : ∀ (X : World) (a b : Nat) (v : Value), a ≠ b → (X.setCell ⟨g, b, none⟩ v).cell? ⟨g, a, none⟩ = X.cell? ⟨g, a, none⟩ := fun X a b v hab => World.cell?_setCell_other _ _ _ _ (by intro e2; simp only [Addr.mk.injEq] at e2; omega)
      refine ⟨ur, uw, ?_, ?_, ?_, ?_, (((ho.set (by omega)).set (by omega)).set (by omega)).set (by omega)⟩
      · rw [ne _ _ _ _ (by omega), ne _ _ _ _ (by omega), ne _ _ _ _ (by omega)]; exact World.cell?_setCell_same _ _ _ c0
      · rw [ne _ _ _ _ (by omega), ne _ _ _ _ (by omega)]; exact World.cell?_setCell_same _ _ _ ((ne _ _ _ _ (by omega)).trans c1)
      · rw [ne _ _ _ _ (by omega)]; exact World.cell?_setCell_same _ _ _ ((ne _ _ _ _ (by omega)).trans ((ne _ _ _ _ (by omega)).trans c2))
      · exact World.cell?_setCell_same _ _ _ ((ne _ _ _ _ (by omega)).trans ((ne _ _ _ _ (by omega)).trans ((ne _ _ _ _ (by omega)).trans c3)))
    · exact ((((h.copy i (by omega)).set (by omega)).set (by omega)).set (by omega)).set (by omega)

end Go.Proofs.YtcdfoephhjacdaaGreatDoor

/-
  laws.FnExactTableOK, walked.
-/
namespace Go.Proofs.YtcdfoephhjacdaaGreatDoor
open Go.RowKit

/-- a box of three cells at block s -/
structure B3 (s : Nat) (v0 v1 v2 : Value) (W : World) : Prop where
  c0 : W.cell? ⟨s, 0, none⟩ = some v0
  c1 : W.cell? ⟨s, 1, none⟩ = some v1
  c2 : W.cell? ⟨s, 2, none⟩ = some v2
  lt : s < W.heap.size

theorem B3.step {s : Nat} {v0 v1 v2 : Value} {W W' : World} (h : B3 s v0 v1 v2 W) (hb : Below W.heap.size W W') : B3 s v0 v1 v2 W' :=
  ⟨(hb.cell (p := ⟨s, 0, none⟩) h.lt).trans h.c0, (hb.cell (p := ⟨s, 1, none⟩) h.lt).trans h.c1, (hb.cell (p := ⟨s, 2, none⟩) h.lt).trans h.c2, Nat.lt_of_lt_of_le h.lt hb.size⟩
theorem B3.start (w : World) (v0 v1 v2 : Value) (t : TypeId) : B3 w.heap.size v0 v1 v2 (w.alloc (.cells #[v0, v1, v2] t)) :=
  ⟨by simp [go_sem], by simp [go_sem], by simp [go_sem], by simp⟩
theorem B3.alloc {s : Nat} {v0 v1 v2 : Value} {W : World} (h : B3 s v0 v1 v2 W) (o : Obj) : B3 s v0 v1 v2 (W.alloc o) := h.step ((Below.refl _ _).alloc (Nat.le_refl _) _)

end Go.Proofs.YtcdfoephhjacdaaGreatDoor

/-
  laws.toData, szRelation, szRelationS, szData.
-/
namespace Go.Proofs.YtcdfoephhjacdaaGreatDoor
open Go.RowKit

structure TB1 (w : World) (s : Nat) (v0 z0 o0 : Value) (W : World) : Prop where
  a0 : W.cell? ⟨s, 0, none⟩ = some v0
  r0 : W.cell? ⟨s + 1, 0, none⟩ = some z0
  o0 : W.cell? ⟨s + 1 + 1, 0, none⟩ = some o0
  fr0 : W.frozen? ⟨s + 1, 0, none⟩ = false
  fo0 : W.frozen? ⟨s + 1 + 1, 0, none⟩ = false
  sz : s + 3 ≤ W.heap.size
  below : Below s w W

theorem TB1.step {w W W' : World} {s : Nat} {v0 z0 o0 : Value} (h : TB1 w s v0 z0 o0 W) (hb : Below W.heap.size W W') : TB1 w s v0 z0 o0 W' where
  a0 := (hb.cell (p := ⟨s, 0, none⟩) (by have := h.sz; show s < _; omega)).trans h.a0
  r0 := (hb.cell (p := ⟨s + 1, 0, none⟩) (by have := h.sz; show s + 1 < _; omega)).trans h.r0
  o0 := (hb.cell (p := ⟨s + 1 + 1, 0, none⟩) (by have := h.sz; show s + 1 + 1 < _; omega)).trans h.o0
  fr0 := (hb.frozen (p := ⟨s + 1, 0, none⟩) (by have := h.sz; show s + 1 < _; omega)).trans h.fr0
  fo0 := (hb.frozen (p := ⟨s + 1 + 1, 0, none⟩) (by have := h.sz; show s + 1 + 1 < _; omega)).trans h.fo0
  sz := Nat.le_trans h.sz hb.size
  below := h.below.trans (hb.mono (by have := h.sz; omega))

theorem TB1.set0 {w W : World} {s : Nat} {v0 z0 o0 : Value} (h : TB1 w s v0 z0 o0 W) (u : Value) : TB1 w s v0 z0 u (W.setCell ⟨s + 1 + 1, 0, none⟩ u) where
  a0 := (World.cell?_setCell_other _ _ _ _ (by intro e; simp only [Addr.mk.injEq] at e; omega)).trans h.a0
  r0 := (World.cell?_setCell_other _ _ _ _ (by intro e; simp only [Addr.mk.injEq] at e; omega)).trans h.r0
  o0 := World.cell?_setCell_same _ _ _ h.o0
  fr0 := (World.frozen?_setCell _ _ _ _).trans h.fr0
  fo0 := (World.frozen?_setCell _ _ _ _).trans h.fo0
  sz := by have := h.sz; simpa [World.setCell] using this
  below := h.below.setCell (by show s ≤ s + 1 + 1; omega) _

theorem TB1.start (w : World) (t t' t'' : TypeId) (v0 z0 o0 : Value) : TB1 w w.heap.size v0 z0 o0 (((w.alloc (.cells #[v0] t)).alloc (.cells #[z0] t')).alloc (.cells #[o0] t'')) where
  a0 := by simp [go_sem]
  r0 := by simp [go_sem]
  o0 := by simp [go_sem]
  fr0 := by simp [go_sem]
  fo0 := by simp [go_sem]
  sz := by simp
  below := (((Below.refl _ _).alloc (Nat.le_refl _) _).alloc (by simp) _).alloc (by simp; omega) _

theorem HalfR.set {W : World} {g n j c o : Nat} {ds : List RelV} {v : Value} (h : HalfR W g n j ds) (hc : c < g) : HalfR (W.setCell ⟨c, o, none⟩ v) g n j ds where
  any q hq := by
    obtain ⟨u, hu⟩ := h.any q hq
    exact ⟨u, (World.cell?_setCell_other _ _ _ _ (by intro e; simp only [Addr.mk.injEq] at e; omega)).trans hu⟩
  free q hq := by rw [World.frozen?_setCell]; exact h.free q hq
  copy i hi := by
    obtain ⟨ur, uw, h0, h1, h2, h3, h4⟩ := h.copy i hi
    exact ⟨ur, uw, (World.cell?_setCell_other _ _ _ _ (by intro e; simp only [Addr.mk.injEq] at e; omega)).trans h0, (World.cell?_setCell_other _ _ _ _ (by intro e; simp only [Addr.mk.injEq] at e; omega)).trans h1,
      (World.cell?_setCell_other _ _ _ _ (by intro e; simp only [Addr.mk.injEq] at e; omega)).trans h2, (World.cell?_setCell_other _ _ _ _ (by intro e; simp only [Addr.mk.injEq] at e; omega)).trans h3, h4.set (by omega)⟩

theorem HalfR.irels {W : World} {g : Nat} {ds : List RelV} (h : HalfR W g ds.length ds.length ds) : IRelS W (.slice (some ⟨g, 0, none⟩) ds.length ds.length) ds :=
  ⟨_, _, rfl, Or.inr ⟨g, 0, rfl, fun j hj => (h.copy j hj).at⟩⟩

end Go.Proofs.YtcdfoephhjacdaaGreatDoor
