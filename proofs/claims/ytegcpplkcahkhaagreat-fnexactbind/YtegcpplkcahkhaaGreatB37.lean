import Derived.Deep.RegionHeld3
import Derived.Laws.Tables
import Derived.Lib.BufferWrite
import Derived.Lib.UnsafeStr
import Derived.Maps.OwnOps
import Derived.Maps.OwnSet
import Derived.Maps.Views
import Derived.StringKeys
import Derived.Test.YtegcpplkcahkhaaGreatB23
import Derived.Test.YtegcpplkcahkhaaGreatB24
import Derived.Test.YtegcpplkcahkhaaGreatB36
/-
  strings.Clone: the same text.
-/
namespace Go.Proofs.YtegcpplkcahkhaaGreat
open Go.RowKit

theorem Tryz.cellsU8 : Tryz.prog.cellsOf 5 = 1 := by kernel_rfl
theorem Tryz.sizeU8 : (Tryz.prog.info? 5).map (·.size) = some 1 := by kernel_rfl

/-- the row that a text is copied into, and what it holds then -/
theorem copied_row (w : World) (s : ByteArray) : ∃ Y : Array Value,
    (Builtin.copy_ #[142, 9] 3 #[.slice (some ⟨w.heap.size, 0, none⟩) s.size s.size, .string s]).run Tryz.prog (w.alloc (.cells (madeCells #[.int .u8 0] s.size) 5)) = .ok (goInt s.size) ((w.alloc (.cells (madeCells #[.int .u8 0] s.size) 5)).setRow w.heap.size Y) ∧
    Y.size = s.size ∧ Y.toList = Lib.byteCells s.data.toList ∧ ((w.alloc (.cells (madeCells #[.int .u8 0] s.size) 5)).setRow w.heap.size Y).heap[w.heap.size]? = some (.cells Y 5 (0, 0)) := by
  have hl : (madeCells #[Value.int .u8 0] s.size).size = s.size := by rw [size_madeCells]
  refine ⟨_, Lib.run_copy_row_string (P := Tryz.prog) _ 142 9 3 5 w.heap.size 0 s.size s.size s _ 5 Tryz.underlying142 Tryz.sizeU8 (heap_alloc_new w _) (Nat.le_refl _) (by omega), ?_, ?_, setRow_heap _ _ _ _ 5 (0, 0) (heap_alloc_new w _)⟩
  · simp [Lib.byteCells_length, hl]
  · simp [hl]

end Go.Proofs.YtegcpplkcahkhaaGreat

/-
  impl.variableNumbers: each variable's number is its place.
-/
namespace Go.Proofs.YtegcpplkcahkhaaGreat
open Go.RowKit Go.Maps

theorem Tryz.lawT : Keyed Tryz.prog 9 := string_keyed Tryz.underlying9
theorem Tryz.zeroN (w : World) : (zeroValue 3).run Tryz.prog w = .ok (.int .i64 0) w := by kernel_rfl

theorem map_bel {w w' : World} {b n : Nat} {k : TypeId} {R : Value → Option (DataW Unit × List MemPlace)} {D : DataW Unit} (h : w.ownsMap Tryz.prog k R b n D) (hb : Below w.heap.size w w') : w'.ownsMap Tryz.prog k R b n D := by
  have hlt := h.lt
  obtain ⟨es, clock, hb', F, hs, hD⟩ := h
  exact ⟨es, clock, (hb.block b hlt).trans hb', F, hs, hD⟩

theorem beq_tx (a b : ByteArray) : (a.toList == b.toList) = decide (a = b) := by
  rw [ByteArray.toList_eq, ByteArray.toList_eq]
  by_cases h : a = b
  · subst h; simp
  · rw [decide_eq_false h]
    simp only [beq_eq_false_iff_ne, ne_eq]
    exact fun e => h (WideShapes.bytes_inj e)

theorem hasT_app (L : List ByteArray) (x s : ByteArray) : hasT (L ++ [x]) s = (hasT L s || decide (x = s)) := by
  unfold hasT
  rw [List.any_append]
  simp [beq_tx]

/-- block b holds the numbers of L -/
def Numb (w : World) (b : Nat) (L : List ByteArray) : Prop := ∃ D : DataW Unit, w.ownsMap Tryz.prog 9 (plainElem Tryz.prog 3) b L.length D ∧ (∀ s : ByteArray, Maps.has D (.string s.data.toList) = hasT L s) ∧ Maps.size D = L.length ∧ ∀ i, i < L.length → ∀ zd, D.atKey (.string (L.getD i noTx).data.toList) zd = .lit (.int .i64 (i : Int))

theorem Numb.start (w : World) : Numb (w.alloc (.map #[] 0)) w.heap.size [] := ⟨.map [], World.ownsMap_made _ _ _ _, fun _ => rfl, rfl, fun i hi => by simp at hi⟩

theorem getD_app_lt {L : List ByteArray} {x : ByteArray} {i : Nat} (h : i < L.length) : (L ++ [x]).getD i noTx = L.getD i noTx := by
  rw [List.getD_eq_getElem?_getD, List.getD_eq_getElem?_getD, List.getElem?_append_left h]
theorem getD_app_eq {L : List ByteArray} {x : ByteArray} : (L ++ [x]).getD L.length noTx = x := by
  simp [List.getD_eq_getElem?_getD]

theorem hasT_get {L : List ByteArray} {i : Nat} (h : i < L.length) : hasT L (L.getD i noTx) = true := by
  unfold hasT
  rw [List.any_eq_true]
  exact ⟨L.getD i noTx, List.mem_of_getElem? (i := i) (by simp [List.getD_eq_getElem?_getD, h]), by simp⟩

theorem Numb.bel {w w' : World} {b : Nat} {L : List ByteArray} (h : Numb w b L) (hb : Below w.heap.size w w') : Numb w' b L := by
  obtain ⟨D, h0, h1⟩ := h
  exact ⟨D, map_bel h0 hb, h1⟩

theorem Numb.put {w' : World} {b : Nat} {L : List ByteArray} {x : ByteArray} {D : DataW Unit} (hD : IsMap D) (hT : Tidy D) (h1 : ∀ s : ByteArray, Maps.has D (.string s.data.toList) = hasT L s) (h2 : Maps.size D = L.length) (h3 : ∀ i, i < L.length → ∀ zd, D.atKey (.string (L.getD i noTx).data.toList) zd = .lit (.int .i64 (i : Int)))
    (hx : hasT L x = false) (h' : w'.ownsMap Tryz.prog 9 (plainElem Tryz.prog 3) b (L.length + 1) (D.put (.string x.data.toList) (.lit (.int .i64 (L.length : Int))))) : Numb w' b (L ++ [x]) := by
  have hk : WideAt.IsKeyLit (Lit.string x.data.toList) := by simp [WideAt.IsKeyLit]
  refine ⟨_, by rw [List.length_append]; exact h', fun s => ?_, ?_, fun i hi zd => ?_⟩
  · rw [hasT_app]
    by_cases e : x = s
    · subst e
      rw [has_put_same hD hk]; simp
    · rw [has_put_other (fun e2 => e (by simp only [Lit.string.injEq] at e2; exact (WideShapes.bytes_inj e2).symm)), h1 s, decide_eq_false e, Bool.or_false]
  · rw [size_put hT, h1 x, hx, if_neg (by decide), h2, List.length_append]; rfl
  · rw [List.length_append] at hi
    by_cases e : i < L.length
    · rw [getD_app_lt e, atKey_put_other (fun e2 => by
        simp only [Lit.string.injEq] at e2
        have e3 := WideShapes.bytes_inj e2
        have := hasT_get e
        rw [e3, hx] at this; cases this)]
      exact h3 i e zd
    · have : i = L.length := by simp at hi; omega
      subst this
      rw [getD_app_eq, atKey_put_same hD hk]

set_option maxHeartbeats 8000000 in
set_option maxRecDepth 1000000 in
theorem variableNumbers_calls (w : World) (vh va : Value) (q : QV) (h : IQ w vh va q) (hq : OkQ q) :
    Calls Tryz.prog 30 #[.agg #[.string q.name, vh, .int .i64 q.ring, va]] w fun e w' => ∃ b, e = .returned (.map (some b)) ∧ Numb w' b (VL q.atoms q.atoms.length) ∧ w.heap.size < b ∧ b < w'.heap.size ∧ Below w.heap.size w w' := by
  have hmm := @run_makeMap Tryz.prog
  have hal := hq.alen
  have HK : Hid (∀ j, j < q.atoms.length → (q.atoms.getD j noAt).2.length ≤ 1048576) := hid (fun j hj => (hq.atoms j hj).len)
  have HTX : Hid (∀ j, j < q.atoms.length → ∀ p, p < (q.atoms.getD j noAt).2.length → ((q.atoms.getD j noAt).2.getD p noTm).1.size ≤ 1048576) := hid (fun j hj => (hq.atoms j hj).tx)
  have HI := hid h.atoms
  obtain ⟨a1, k1, e1, -⟩ := h.head
  obtain ⟨a2, k2, e2, -⟩ := h.atoms
  subst e1 e2
  clear h hq
  obtain ⟨W1, hW1⟩ : ∃ W, W = w.alloc (.cells #[.string q.name, .slice a1 q.head.length k1, .int .i64 q.ring, .slice a2 q.atoms.length k2] 39) := ⟨_, rfl⟩
  have c3 : W1.cell? ⟨w.heap.size, 3, none⟩ = some (.slice a2 q.atoms.length k2) := by rw [hW1, World.cell?_alloc_at _ _ _ _ rfl]; rfl
  have HB1 : Hid (Below w.heap.size w W1) := hid (by rw [hW1]; exact (Below.refl _ _).alloc (Nat.le_refl _) _)
  have hs1 : w.heap.size < W1.heap.size := by rw [hW1]; simp
  have hIA := HI.out.below HB1.out
  generalize q.name = nm at *
  generalize q.ring = rg at *
  generalize q.head.length = hn at *
  generalize q.atoms = ats at *
  obtain ⟨n, hn'⟩ : ∃ n, n = ats.length := ⟨_, rfl⟩
  have HN := hid hn'
  obtain ⟨a2', k2', ee, hcell⟩ := hIA
  simp only [Value.slice.injEq] at ee
  obtain ⟨rfl, -, -⟩ := ee
  have HC := hid hcell
  rw [← hn'] at HC HK HTX hal c3 hW1 ⊢
  have HVL : Hid (∀ i, i ≤ n → (VL ats i).length ≤ i * 1048576) := hid (fun i hi => VL_len ats (by rw [← hn']; exact HK.out) i (by omega))
  clear hcell hn' HI
  go_enter Tryz.func30, Tryz.ntmps30
  go_upto_region 1 with fail
  rw [← hW1]
  clear hW1
  have c3a : ∀ o', (W1.alloc o').cell? ⟨w.heap.size, 3, none⟩ = some (.slice a2 n k2) := fun o' => bcl' ((Below.refl _ _).alloc (Nat.le_refl _) o') c3
  go_wp2
  go_loopw [14] (fun t wr => ∃ i : Nat, i ≤ n ∧ t = .int .i64 i ∧ Hid (Below W1.heap.size W1 wr ∧ Numb wr W1.heap.size (VL ats i))) (fun t _ => n - (intOf t).toNat)
  case atStart => exact ⟨0, Nat.zero_le _, rfl, hid ⟨(Below.refl _ _).alloc (Nat.le_refl _) _, Numb.start W1⟩⟩
  case round =>
    clear c3 c3a
    obtain ⟨i, hin, rfl, HH⟩ := hrel
    by_cases hlt : i < n
    · have i1 : (i : Int) < (n : Int) := by omega
      rcases HC.out with h0 | ⟨b, o, rfl, hrel⟩
      · omega
      · obtain ⟨u, d0, d1, hit⟩ := hrel i hlt
        have e0 := bcl' HH.out.1 d0
        have e1 := bcl' HH.out.1 d1
        obtain ⟨ua, uc, eu, hterm⟩ := hit
        subst eu
        have hm := HK.out i hlt
        have hvl := HVL.out i (by omega)
        obtain ⟨m, hm'⟩ : ∃ m, m = (ats.getD i noAt).2.length := ⟨_, rfl⟩
        have HT := hid hterm
        rw [← hm'] at HT e1 hm
        have HM := hid hm'
        clear hrel d0 d1 hterm hm'
        generalize (ats.getD i noAt).1 = rel at *
        generalize wr = Wr at *
        go_upto_region 5 with fail
        have HW : Hid (Below W1.heap.size W1 (Wr.alloc (.cells #[.string rel, .slice ua m uc] 56)) ∧ Numb (Wr.alloc (.cells #[.string rel, .slice ua m uc] 56)) W1.heap.size (VT ats i 0)) := hid ⟨HH.out.1.alloc HH.out.1.size _, by rw [VT_zero]; exact HH.out.2.bel ((Below.refl _ _).alloc (Nat.le_refl _) _)⟩
        have f1 : (Wr.alloc (.cells #[.string rel, .slice ua m uc] 56)).cell? ⟨Wr.heap.size, 1, none⟩ = some (.slice ua m uc) := by rw [World.cell?_alloc_at _ _ _ _ rfl]; rfl
        clear HH e0 e1
        generalize Wr.alloc (.cells #[.string rel, .slice ua m uc] 56) = Ws at *
        go_wp2_with fail
        clear f1
        go_loopw [21] (fun t wr => ∃ p : Nat, p ≤ m ∧ t = .int .i64 p ∧ Hid (Below W1.heap.size W1 wr ∧ Numb wr W1.heap.size (VT ats i p))) (fun t _ => m - (intOf t).toNat)
        case atStart => exact ⟨0, Nat.zero_le _, rfl, HW⟩
        case round =>
          clear HW
          obtain ⟨p, hpm, rfl, HG⟩ := hrel
          by_cases hlp : p < m
          · have i2 : (p : Int) < (m : Int) := by omega
            rcases HT.out with h0 | ⟨tb, to, rfl, hts⟩
            · omega
            · obtain ⟨g0', g1'⟩ := hts p hlp
              have g0 := bcl' HG.out.1 g0'
              have g1 := bcl' HG.out.1 g1'
              have hvt := VT_len ats i p
              have hsz := HG.out.1.size
              have HS : Hid (VT ats i (p + 1) = addV (VT ats i p) ((ats.getD i noAt).2.getD p noTm)) := hid (VT_succ ats i (by rw [← HM.out]; exact hlp))
              unfold addV at HS
              obtain ⟨D, hown, hhas, hsize, hat⟩ := HG.out.2
              have hxs : ((ats.getD i noAt).2.getD p noTm).1.size ≤ 9223372036854775807 := by have := HTX.out i hlt p (by rw [← HM.out]; exact hlp); omega
              have hh := hhas ((ats.getD i noAt).2.getD p noTm).1
              have HPUT : Hid (∀ w' : World, hasT (VT ats i p) ((ats.getD i noAt).2.getD p noTm).1 = false → w'.ownsMap Tryz.prog 9 (plainElem Tryz.prog 3) W1.heap.size ((VT ats i p).length + 1) (D.put (.string ((ats.getD i noAt).2.getD p noTm).1.data.toList) (.lit (.int .i64 ((VT ats i p).length : Int)))) → Numb w' W1.heap.size (VT ats i p ++ [((ats.getD i noAt).2.getD p noTm).1])) := hid (fun w' hx h' => Numb.put hown.isMap (hown.tidy Tryz.lawT) hhas hsize hat hx h')
              have hszD := hsize
              clear hts g0' g1' hhas hat hsize
              generalize (ats.getD i noAt).2.getD p noTm = t at *
              generalize t.1 = x at *
              generalize t.2 = y at *
              generalize VT ats i p = L at *
              cases hhas : hasT L x
              · rw [hhas] at HS hh
                cases hem : x.toList.isEmpty
                · rw [hem] at HS
                  rw [if_neg (by decide)] at HS
                  have hem2 : (!x.toList.isEmpty) = true := by rw [hem]; rfl
                  go_wp2_with (first | (at_lookup; refine wpList_lookup_own_ok_int _ rfl _ _ 76 rfl 9 3 .i64 Tryz.lawT Tryz.underlying76 Tryz.underlying3 (Tryz.zeroN _) W1.heap.size L.length D rfl (hown.alloc _) _ _ rfl (WideMaps.keyOf_string_mk Tryz.underlying9 hxs) ?_; intro cL hatk hwc; rw [hh]) | (at_len; refine wpList_len_own _ rfl _ 76 rfl 9 3 Tryz.underlying76 _ W1.heap.size L.length D rfl (hown.alloc _) ?_; rw [hszD]) | (at_mapUpdate; refine wpList_mapUpdate_own _ rfl _ _ _ 76 rfl 9 3 Tryz.lawT Tryz.underlying76 _ W1.heap.size L.length _ rfl (hown.alloc _) (by unfold maxLen; omega) _ _ _ rfl rfl (WideMaps.keyOf_string_mk Tryz.underlying9 hxs) _ [] (plainElem_int Tryz.underlying3 (WalkArith.wf_i64 (by omega))) ?_) | fail)
                  intro w3 hown3 hgrow3
                  have HN2 : Hid (Below W1.heap.size W1 w3 ∧ Numb w3 W1.heap.size (VT ats i (p + 1))) := hid ⟨(HG.out.1.alloc hsz _).grown hgrow3 (by simp; omega) (fun j hj => by cases hj; omega), by rw [HS.out]; exact HPUT.out w3 hhas hown3⟩
                  clear hown3 hgrow3 hown
                  go_wp2
                  go_roundw
                  case rel => exact ⟨p + 1, by omega, by go_num, HN2⟩
                  case measure => simp [intOf]; omega
                · rw [hem] at HS
                  rw [if_pos (by decide)] at HS
                  have hem2 : (!x.toList.isEmpty) = false := by rw [hem]; rfl
                  go_wp2_with (first | (at_lookup; refine wpList_lookup_own_ok_int _ rfl _ _ 76 rfl 9 3 .i64 Tryz.lawT Tryz.underlying76 Tryz.underlying3 (Tryz.zeroN _) W1.heap.size L.length D rfl (hown.alloc _) _ _ rfl (WideMaps.keyOf_string_mk Tryz.underlying9 hxs) ?_; intro cL hatk hwc; rw [hh]) | fail)
                  go_roundw
                  case rel => exact ⟨p + 1, by omega, by go_num, hid ⟨HG.out.1.alloc hsz _, by rw [HS.out]; exact HG.out.2.bel ((Below.refl _ _).alloc (Nat.le_refl _) _)⟩⟩
                  case measure => simp [intOf]; omega
              · rw [hhas] at HS hh
                rw [Bool.or_true, if_pos rfl] at HS
                go_wp2_with (first | (at_lookup; refine wpList_lookup_own_ok_int _ rfl _ _ 76 rfl 9 3 .i64 Tryz.lawT Tryz.underlying76 Tryz.underlying3 (Tryz.zeroN _) W1.heap.size L.length D rfl (hown.alloc _) _ _ rfl (WideMaps.keyOf_string_mk Tryz.underlying9 hxs) ?_; intro cL hatk hwc; rw [hh]) | fail)
                go_roundw
                case rel => exact ⟨p + 1, by omega, by go_num, hid ⟨HG.out.1.alloc hsz _, by rw [HS.out]; exact HG.out.2.bel ((Below.refl _ _).alloc (Nat.le_refl _) _)⟩⟩
                case measure => simp [intOf]; omega
          · obtain rfl : p = m := by omega
            have i2 : ¬ ((p : Int) < (p : Int)) := by omega
            have HE : Hid (VL ats (i + 1) = VT ats i p) := hid (by rw [HM.out]; exact VL_succ ats (by rw [← HN.out]; exact hlt))
            go_wp2
            go_roundw
            case rel => exact ⟨i + 1, by omega, by go_num, hid ⟨HG.out.1, by rw [HE.out]; exact HG.out.2⟩⟩
            case measure => simp [intOf]; omega
    · obtain rfl : i = n := by omega
      have i1 : ¬ ((i : Int) < (i : Int)) := by omega
      go_wp2
      go_ret
      obtain ⟨D, hown, h5⟩ := HH.out.2
      exact ⟨_, rfl, ⟨D, hown, h5⟩, by omega, hown.lt, HB1.out.trans (HH.out.1.mono (by omega))⟩

end Go.Proofs.YtegcpplkcahkhaaGreat

/-
  impl.checkAtoms.
-/
namespace Go.Proofs.YtegcpplkcahkhaaGreat
open Go.RowKit

/-- a fault, as an error -/
def faultV (c p : Int) : Value := .iface 101 (.agg #[.int .i64 c, .int .i64 p])
def atomsV (ds : List RelV) (ats : List AtomV) : Value :=
  match (List.range ats.length).find? (fun i => decide (atomCode ds (ats.getD i noAt) ≠ 0)) with
  | some i => faultV (atomCode ds (ats.getD i noAt)) i
  | none => .nilIface
theorem atomsV_bad {ds : List RelV} {ats : List AtomV} {i : Nat} (hi : i < ats.length) (hb : ∀ j, j < i → atomCode ds (ats.getD j noAt) = 0) (hc : atomCode ds (ats.getD i noAt) ≠ 0) : atomsV ds ats = faultV (atomCode ds (ats.getD i noAt)) i := by
  unfold atomsV
  rw [find_range_some hi (by simpa using hc) (fun j hj => by simpa using hb j hj)]
theorem atomsV_ok {ds : List RelV} {ats : List AtomV} (hb : ∀ j, j < ats.length → atomCode ds (ats.getD j noAt) = 0) : atomsV ds ats = .nilIface := by
  unfold atomsV
  rw [find_range_none (fun j hj => by simpa using hb j hj)]

set_option maxHeartbeats 20000000 in
set_option maxRecDepth 1000000 in
theorem checkAtoms_calls (w : World) (v va : Value) (ds : List RelV) (ats : List AtomV) (h : IRelS w v ds) (hdl : ds.length ≤ 1099511627776) (hi : IAt w va ats) (hal : ats.length ≤ 1048576) :
    Calls Tryz.prog 54 #[.agg #[v], va] w fun e w' => e = .returned (atomsV ds ats) ∧ Below w.heap.size w w' := by
  have h' := h
  obtain ⟨a3, k3, rfl, -⟩ := h'
  have hi' := hi
  obtain ⟨a2, k2, rfl, -⟩ := hi'
  have HBW : Hid (Below w.heap.size w (w.alloc (.cells #[.slice a3 ds.length k3] 35))) := hid ((Below.refl _ _).alloc (Nat.le_refl _) _)
  have d0 : (w.alloc (.cells #[.slice a3 ds.length k3] 35)).cell? ⟨w.heap.size, 0, none⟩ = some (.slice a3 ds.length k3) := by rw [World.cell?_alloc_at _ _ _ _ rfl]; rfl
  obtain ⟨W0, hW0⟩ : ∃ W, W = w.alloc (.cells #[.slice a3 ds.length k3] 35) := ⟨_, rfl⟩
  rw [← hW0] at HBW d0
  have HD := hid (h.below HBW.out)
  have HA := hid (hi.below HBW.out)
  have KL : Hid (∀ W s, Below W0.heap.size W0 W → Calls Tryz.prog 31 #[.agg #[.slice a3 ds.length k3], .string s] W fun e w' => ∃ z : Int, e = .returned (.int .i64 z) ∧ RelIx ds s z ∧ Below W.heap.size W w') := hid (fun W s hb => relationPlace_calls W _ ds s (HD.out.below hb) hdl)
  have HPA : Hid (∀ i, i < ats.length → (∀ j, j < i → atomCode ds (ats.getD j noAt) = 0) → atomCode ds (ats.getD i noAt) ≠ 0 → atomsV ds ats = faultV (atomCode ds (ats.getD i noAt)) i) := hid (fun i hi hb hc => atomsV_bad hi hb hc)
  have HPO : Hid ((∀ j, j < ats.length → atomCode ds (ats.getD j noAt) = 0) → atomsV ds ats = .nilIface) := hid (fun hb => atomsV_ok hb)
  obtain ⟨ax, kx, ee, hca⟩ := HA.out
  simp only [Value.slice.injEq] at ee
  obtain ⟨rfl, -, -⟩ := ee
  have HCA := hid hca
  obtain ⟨ay, ky, ee, hcd⟩ := HD.out
  simp only [Value.slice.injEq] at ee
  obtain ⟨rfl, -, -⟩ := ee
  have HCD := hid hcd
  clear hca hcd h hi HA HD
  obtain ⟨RV, hRV⟩ : ∃ r, r = atomsV ds ats := ⟨_, rfl⟩
  rw [← hRV] at HPA HPO ⊢
  clear hRV
  go_enter Tryz.func54, Tryz.ntmps54
  go_upto_region 1 with fail
  rw [← hW0]
  clear hW0
  obtain ⟨an, han⟩ : ∃ n, n = ats.length := ⟨_, rfl⟩
  obtain ⟨dn, hdn⟩ : ∃ n, n = ds.length := ⟨_, rfl⟩
  have HDN := hid hdn
  rw [← han] at HPA HPO HCA hal ⊢
  rw [← hdn] at KL HCD d0 hdl ⊢
  clear han hdn
  go_wp2_with fail
  go_loopw [10] (fun t wr => ∃ i : Nat, i ≤ an ∧ t = .int .i64 i ∧ Hid (Below W0.heap.size W0 wr ∧ ∀ p, p < i → atomCode ds (ats.getD p noAt) = 0)) (fun t _ => an - (intOf t).toNat)
  case atStart => exact ⟨0, Nat.zero_le _, rfl, hid ⟨Below.refl _ _, fun p hp => by omega⟩⟩
  case round =>
    obtain ⟨i, hin, rfl, HH⟩ := hrel
    by_cases hlt : i < an
    · have i2 : (i : Int) < (an : Int) := by omega
      rcases HCA.out with h0 | ⟨b, o, rfl, hat⟩
      · omega
      · obtain ⟨u, g0, g1, hit⟩ := hat i hlt
        obtain ⟨ua, uc, eu, -⟩ := hit
        subst eu
        have e0 := bcl' HH.out.1 g0
        have e1 := bcl' HH.out.1 g1
        have HPI := hid (HPA.out i hlt HH.out.2)
        have HNX : Hid (atomCode ds (ats.getD i noAt) = 0 → ∀ p, p < i + 1 → atomCode ds (ats.getD p noAt) = 0) := hid (fun h p hp => by
          by_cases e : p = i
          · rw [e]; exact h
          · exact HH.out.2 p (by omega))
        have HNO : Hid (RelIx ds (ats.getD i noAt).1 (-1) → atomCode ds (ats.getD i noAt) = 4) := hid RelIx.code_no
        have HYE : Hid (∀ j : Nat, RelIx ds (ats.getD i noAt).1 (j : Int) → j < dn ∧ atomCode ds (ats.getD i noAt) = if (ds.getD j noRel).ar = ((ats.getD i noAt).2.length : Int) then 0 else 5) := hid (fun j h => by rw [HDN.out]; exact RelIx.code_yes h)
        have HW : Hid (Below W0.heap.size W0 (wr.alloc (.cells #[.string (ats.getD i noAt).1, .slice ua (ats.getD i noAt).2.length uc] 56))) := hid (HH.out.1.alloc HH.out.1.size _)
        have f1 : (wr.alloc (.cells #[.string (ats.getD i noAt).1, .slice ua (ats.getD i noAt).2.length uc] 56)).cell? ⟨wr.heap.size, 0, none⟩ = some (.string (ats.getD i noAt).1) := by rw [World.cell?_alloc_at _ _ _ _ rfl]; rfl
        have f2 : (wr.alloc (.cells #[.string (ats.getD i noAt).1, .slice ua (ats.getD i noAt).2.length uc] 56)).cell? ⟨wr.heap.size, 1, none⟩ = some (.slice ua (ats.getD i noAt).2.length uc) := by rw [World.cell?_alloc_at _ _ _ _ rfl]; rfl
        have dd := bcl' HW.out d0
        clear hat g0 g1 HH HPA
        generalize atomCode ds (ats.getD i noAt) = ac at *
        generalize ats.getD i noAt = at1 at *
        generalize at1.2.length = tn at *
        generalize at1.1 = nm at *
        go_upto_region 4 with fail
        clear e0 e1
        generalize wr.alloc (.cells #[.string nm, .slice ua tn uc] 56) = Wr at *
        generalize wr.heap.size = B3 at *
        go_wp2_with fail
        refine (KL.out Wr nm HW.out).mono ?_
        rintro e w3 ⟨z, rfl, hz, hb3⟩
        have HB3 := hid (bt HW.out hb3)
        have f2' := bcl' hb3 f2
        clear f1 f2 dd hb3 HW
        by_cases hz0 : z < 0
        · obtain rfl : z = -1 := by
            rcases hz with ⟨e, -⟩ | ⟨j, e, -⟩
            · exact e
            · omega
          have hc := HNO.out hz
          subst hc
          have HR := hid (HPI.out (by decide))
          clear HPI HNX HNO HYE hz
          go_wp2_with fail
          go_ret
          exact ⟨by rw [HR.out]; rfl, bt HBW.out HB3.out⟩
        · obtain ⟨j, rfl⟩ : ∃ j : Nat, z = j := ⟨z.toNat, by omega⟩
          obtain ⟨hjd, hc⟩ := HYE.out j hz
          have i3 : (j : Int) < (dn : Int) := by omega
          rcases HCD.out with h0 | ⟨b', o', rfl, hre⟩
          · omega
          · obtain ⟨vr, vw, -, g1, -⟩ := hre j hjd
            have r1 := bcl' HB3.out g1
            have dd := bcl' HB3.out d0
            clear hre g1 HNO HYE hz
            generalize (ds.getD j noRel).ar = ar at *
            by_cases hart : ar = (tn : Int)
            · subst hart
              rw [if_pos rfl] at hc
              have HN := hid (HNX.out hc)
              clear HNX HPI hc
              go_wp2_with fail
              go_quiet (fail)
              go_wp2_with fail
              go_roundw
              case rel => exact ⟨i + 1, by omega, by go_num, hid ⟨below_drewN HB3.out _, HN.out⟩⟩
              case measure => simp [intOf]; omega
            · rw [if_neg hart] at hc
              subst hc
              have HR := hid (HPI.out (by decide))
              clear HNX HPI
              go_wp2_with fail
              go_quiet (fail)
              go_wp2_with fail
              go_ret
              exact ⟨by rw [HR.out]; rfl, below_drewN (bt HBW.out HB3.out) _⟩
    · obtain rfl : i = an := by omega
      have i2 : ¬ ((i : Int) < (i : Int)) := by omega
      have HR := hid (HPO.out HH.out.2)
      have HB := hid HH.out.1
      clear HH HPA HPO
      go_wp2_with fail
      go_ret
      exact ⟨by rw [HR.out]; rfl, bt HBW.out HB.out⟩

end Go.Proofs.YtegcpplkcahkhaaGreat

/-
  impl.checkHead.
-/
namespace Go.Proofs.YtegcpplkcahkhaaGreat
open Go.RowKit

def badH (VV hd : List ByteArray) (j : Nat) : Bool := !hasT VV (hd.getD j noTx) || hasT (hd.take j) (hd.getD j noTx)
def headV (VV hd : List ByteArray) : Value :=
  match (List.range hd.length).find? (badH VV hd) with
  | some j => faultV 7 j
  | none => .nilIface
theorem headV_bad {VV hd : List ByteArray} {j : Nat} (hj : j < hd.length) (hb : ∀ i, i < j → badH VV hd i = false) (hc : badH VV hd j = true) : headV VV hd = faultV 7 j := by
  unfold headV
  rw [find_range_some hj hc hb]
theorem headV_ok {VV hd : List ByteArray} (hb : ∀ i, i < hd.length → badH VV hd i = false) : headV VV hd = .nilIface := by
  unfold headV
  rw [find_range_none hb]

theorem ISt_take {w : World} {a : Option Addr} {cap : Nat} {L : List ByteArray} {k : Nat} (hk : k ≤ L.length) (h : L.length = 0 ∨ ∃ b o, a = some ⟨b, o, none⟩ ∧ ∀ j, j < L.length → w.cell? ⟨b, o + j, none⟩ = some (.string (L.getD j noTx))) : ISt w (.slice a k cap) (L.take k) := by
  have hl : (L.take k).length = k := by simp; omega
  refine ⟨a, cap, by rw [hl], ?_⟩
  rcases h with h | ⟨b, o, rfl, h⟩
  · left; omega
  · right
    refine ⟨b, o, rfl, fun j hj => ?_⟩
    rw [hl] at hj
    rw [h j (by omega), List.getD_eq_getElem?_getD, List.getD_eq_getElem?_getD, List.getElem?_take_of_lt hj]

set_option maxHeartbeats 20000000 in
set_option maxRecDepth 1000000 in
theorem checkHead_calls (w : World) (v : Value) (hd VV : List ByteArray) (mb : Nat) (h : ISt w v hd) (hcap : ∀ a n cap, v = .slice a n cap → n ≤ cap) (hhl : hd.length ≤ 1048576) (hhs : ∀ j, j < hd.length → (hd.getD j noTx).size ≤ 1048576) (hm : Numb w mb VV) :
    Calls Tryz.prog 55 #[v, .map (some mb)] w fun e w' => e = .returned (headV VV hd) ∧ w' = w := by
  obtain ⟨a, cap, rfl, hc⟩ := h
  have hcp := hcap _ _ _ rfl
  obtain ⟨D, hown, hhas, hsize, -⟩ := hm
  have HC := hid hc
  have HHA := hid hhas
  have HHS := hid hhs
  have HPB : Hid (∀ j, j < hd.length → (∀ i, i < j → badH VV hd i = false) → badH VV hd j = true → headV VV hd = faultV 7 j) := hid (fun j hj hb hc => headV_bad hj hb hc)
  have HPO : Hid ((∀ i, i < hd.length → badH VV hd i = false) → headV VV hd = .nilIface) := hid headV_ok
  obtain ⟨RV, hRV⟩ : ∃ r, r = headV VV hd := ⟨_, rfl⟩
  rw [← hRV] at HPB HPO ⊢
  have HTK : Hid (∀ k, k ≤ hd.length → ISt w (.slice a k cap) (hd.take k)) := hid (fun k hk => ISt_take hk HC.out)
  obtain ⟨n, hn⟩ : ∃ n, n = hd.length := ⟨_, rfl⟩
  rw [← hn] at HC HPB HPO HTK HHS hhl hcp ⊢
  clear hRV hn hc hhas hhs hcap
  go_enter Tryz.func55, Tryz.ntmps55
  go_wp2_with fail
  go_loopw [11] (fun t wr => ∃ j : Nat, j ≤ n ∧ t = .int .i64 j ∧ wr = w ∧ Hid (∀ i, i < j → badH VV hd i = false)) (fun t _ => n - (intOf t).toNat)
  case atStart => exact ⟨0, Nat.zero_le _, rfl, rfl, hid (fun i hi => by omega)⟩
  case round =>
    obtain ⟨j, hj, rfl, hw, HH⟩ := hrel
    subst hw
    by_cases hjn : j < n
    · have i1 : (j : Int) < (n : Int) := by omega
      rcases HC.out with h0 | ⟨b, o, rfl, hcell⟩
      · omega
      · have c1 := hcell j hjn
        have hxs : (hd.getD j noTx).size ≤ 9223372036854775807 := by have := HHS.out j hjn; omega
        have hh := HHA.out (hd.getD j noTx)
        have HPJ := hid (HPB.out j hjn HH.out)
        have HNX : Hid (badH VV hd j = false → ∀ i, i < j + 1 → badH VV hd i = false) := hid (fun h i hi => by
          by_cases e : i = j
          · rw [e]; exact h
          · exact HH.out i (by omega))
        have HBJ : Hid (badH VV hd j = (!hasT VV (hd.getD j noTx) || hasT (hd.take j) (hd.getD j noTx))) := hid rfl
        have K := hid (containsT_calls wr _ _ (hd.getD j noTx) (HTK.out j (by omega)) (by simp; omega))
        have j1 : (0 : Int) ≤ (j : Int) := by omega
        have j2 : (j : Int) ≤ (cap : Int) := by omega
        have j3 : j ≤ cap := by omega
        clear hcell HH
        generalize hasT (hd.take j) (hd.getD j noTx) = b2 at *
        generalize badH VV hd j = bj at *
        generalize hd.getD j noTx = x at *
        cases hhas : hasT VV x
        · rw [hhas] at HBJ hh
          have HR := hid (HPJ.out HBJ.out)
          clear HPJ HNX HBJ
          go_wp2_with (first | (at_lookup; refine wpList_lookup_own_ok_int _ rfl _ _ 76 rfl 9 3 .i64 Tryz.lawT Tryz.underlying76 Tryz.underlying3 (Tryz.zeroN _) mb VV.length D rfl hown _ _ rfl (WideMaps.keyOf_string_mk Tryz.underlying9 hxs) ?_; intro cL hatk hwc; rw [hh]) | fail)
          go_ret
          exact ⟨by rw [HR.out]; rfl, rfl⟩
        · rw [hhas] at HBJ hh
          go_wp2_with (first | (at_lookup; refine wpList_lookup_own_ok_int _ rfl _ _ 76 rfl 9 3 .i64 Tryz.lawT Tryz.underlying76 Tryz.underlying3 (Tryz.zeroN _) mb VV.length D rfl hown _ _ rfl (WideMaps.keyOf_string_mk Tryz.underlying9 hxs) ?_; intro cL hatk hwc; rw [hh]) | fail)
          refine K.out.mono ?_
          rintro e w' ⟨rfl, hw'⟩
          subst w'
          cases b2
          · have HN := hid (HNX.out HBJ.out)
            clear HPJ HNX HBJ
            go_wp2_with fail
            go_roundw
            case rel => exact ⟨j + 1, by omega, by go_num, by trivial, HN⟩
            case measure => simp [intOf]; omega
          · have HR := hid (HPJ.out HBJ.out)
            clear HPJ HNX HBJ
            go_wp2_with fail
            go_ret
            exact ⟨by rw [HR.out]; rfl, rfl⟩
    · obtain rfl : j = n := by omega
      have i1 : ¬ ((j : Int) < (j : Int)) := by omega
      have HR := hid (HPO.out HH.out)
      go_wp2_with fail
      go_ret
      exact ⟨by rw [HR.out]; rfl, rfl⟩

end Go.Proofs.YtegcpplkcahkhaaGreat
