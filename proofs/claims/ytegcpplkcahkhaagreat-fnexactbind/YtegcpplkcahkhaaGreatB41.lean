import Derived.Deep.AppendLies
import Derived.Laws.MakeOwn
import Derived.Shelf.SlSortCmp.NoneTotal
import Derived.Test.YtegcpplkcahkhaaGreatB33
import Derived.Test.YtegcpplkcahkhaaGreatB35
import Derived.Test.YtegcpplkcahkhaaGreatB40
/-
  impl.sortedRows.
-/
namespace Go.Proofs.YtegcpplkcahkhaaGreat
open Go.RowKit Go.Shelf Go.Lib Go.Sort

theorem sortWAny_calls (w : World) (B : Nat) (v : Value) (es : List WtV) (h : WQ w B v es) (hM : ∀ e ∈ es, e.2.1.length ≤ 1099511627776) (hn : es.length ≤ 1000000) :
    Calls Tryz.prog 88 #[v, .func (.func 89) #[] #[]] w fun e w' => e = .returned (.tuple #[]) ∧ ∃ es' : List WtV, es'.Perm es ∧ (es'.Pairwise fun a b => ¬ cmpL b.2.1 a.2.1 < 0) ∧ WQ w' B v es' ∧ Below B w w' := by
  rcases h.own.2 with ⟨rfl, hz⟩ | ⟨g, cap, cur, rfl, hr⟩
  · obtain rfl : es = [] := List.eq_nil_of_length_eq_zero hz
    have cN := AnyF.slices_SortFunc_none Tryz.sortW none 0 (.func (.func 89) #[] #[]) w
    change Calls Tryz.prog 88 _ _ _ at cN
    refine cN.mono ?_
    rintro e w' ⟨rfl, rfl⟩
    exact ⟨rfl, [], List.Perm.refl _, List.Pairwise.nil, h, Below.refl _ _⟩
  · exact sortW_calls w B g cap es h hM hn

theorem Pt.al {w W : World} {v1 v2 : Value} {n1 n2 : Nat} {xs ys : List Value} (h : Pt w W v1 v2 n1 n2 xs ys) (o : Obj) : Pt w (W.alloc o) v1 v2 n1 n2 xs ys :=
  ⟨h.bel.alloc h.bel.size _, h.own1.alloc _, h.own2.alloc _⟩

def wus (es : List WtV) : List Value := es.map fun e => e.1
def wls (es : List WtV) : List (List Int) := es.map fun e => e.2.1
def wws (es : List WtV) : List Int := es.map fun e => e.2.2
def noWt : WtV := (undef, [], 0)
theorem wus_succ {es : List WtV} {p : Nat} (h : p < es.length) : (wus es).take (p + 1) = (wus es).take p ++ [(es.getD p noWt).1] := by
  rw [List.take_add_one, wus, List.getElem?_map, List.getElem?_eq_getElem h, List.getD_eq_getElem?_getD, List.getElem?_eq_getElem h]; rfl
theorem wws_succ {es : List WtV} {p : Nat} (h : p < es.length) : ((wws es).take (p + 1)).map (Value.int .i64) = ((wws es).take p).map (Value.int .i64) ++ [.int .i64 (es.getD p noWt).2.2] := by
  rw [List.take_add_one, wws, List.getElem?_map, List.getElem?_eq_getElem h, List.getD_eq_getElem?_getD, List.getElem?_eq_getElem h, List.map_append]; rfl
theorem wt_mem {es : List WtV} {p : Nat} (h : p < es.length) : es.getD p noWt ∈ es := by
  rw [List.getD_eq_getElem?_getD, List.getElem?_eq_getElem h]; exact List.getElem_mem _

theorem WQ.cells {W : World} {B : Nat} {a : Option Addr} {n cap : Nat} {es : List WtV} (h : WQ W B (.slice a n cap) es) {p : Nat} (hp : p < es.length) : ∃ b o, a = some ⟨b, o, none⟩ ∧ W.cell? ⟨b, o + p * 2, none⟩ = some (es.getD p noWt).1 ∧ W.cell? ⟨b, o + p * 2 + 1, none⟩ = some (.int .i64 (es.getD p noWt).2.2) := by
  have hl := h.own.1
  rcases h.own.2 with ⟨-, hz⟩ | ⟨g, cap', cur, e, hb', hc, h1, h2, h3, h4⟩
  · omega
  · simp only [Value.slice.injEq] at e
    obtain ⟨rfl, -, -⟩ := e
    have key : ∀ t, t < es.length * 2 → W.cell? ⟨g, t, none⟩ = (es.flatMap wc)[t]? := fun t ht => by
      rw [cell_of_row _ _ _ _ _ _ hc, ← h4, List.getElem?_take_of_lt ht, Array.getElem?_toList]
    have hw : ∀ x : WtV, (wc x).length = 2 := fun _ => rfl
    refine ⟨g, 0, rfl, ?_, ?_⟩
    · rw [Nat.zero_add, key _ (by omega), get_wc wc hw, show p * 2 / 2 = p by omega, show p * 2 % 2 = 0 by omega, List.getElem?_eq_getElem hp, List.getD_eq_getElem?_getD, List.getElem?_eq_getElem hp]; rfl
    · rw [Nat.zero_add, key _ (by omega), get_wc wc hw, show (p * 2 + 1) / 2 = p by omega, show (p * 2 + 1) % 2 = 1 by omega, List.getElem?_eq_getElem hp, List.getD_eq_getElem?_getD, List.getElem?_eq_getElem hp]; rfl

/-- how impl.sortedRows ends -/
def SrtE (w : World) (B : Nat) (es : List WtV) (e : Ending) (w' : World) : Prop := ∃ es' vR vW, e = .returned (.tuple #[vR, vW]) ∧ es'.Perm es ∧ (es'.Pairwise fun a b => ¬ cmpL b.2.1 a.2.1 < 0) ∧ RQ w' B vR (wus es') (wls es') ∧ w'.ownsRow B 3 1 vW (wws es').length ((wws es').map (Value.int .i64)) ∧ (∀ i, i < es'.length → ApW ((wus es').getD i undef) vW) ∧ Below B w w'

theorem srt_end {w W1 w' : World} {B : Nat} {v vR vW : Value} {es es' : List WtV} (hp : es'.Perm es) (hs : es'.Pairwise fun a b => ¬ cmpL b.2.1 a.2.1 < 0) (hq : WQ W1 B v es') (hb : Below B w W1) (hB : B ≤ W1.heap.size) (hP : Pt W1 w' vR vW es'.length es'.length ((wus es').take es'.length) (((wws es').take es'.length).map (Value.int .i64))) : SrtE w B es (.returned (.tuple #[vR, vW])) w' := by
  have e1 : (wus es').take es'.length = wus es' := by rw [show es'.length = (wus es').length by simp [wus], List.take_length]
  have e2 : (wws es').take es'.length = wws es' := by rw [show es'.length = (wws es').length by simp [wws], List.take_length]
  have l1 : (wls es').length = es'.length := by simp [wls]
  have l2 : (wws es').length = es'.length := by simp [wws]
  have g1 : ∀ i, i < es'.length → (wus es').getD i undef = (es'.getD i noWt).1 := fun i hi => by rw [List.getD_eq_getElem?_getD, wus, List.getElem?_map, List.getElem?_eq_getElem hi, List.getD_eq_getElem?_getD, List.getElem?_eq_getElem hi]; rfl
  have g2 : ∀ i, i < es'.length → (wls es').getD i [] = (es'.getD i noWt).2.1 := fun i hi => by rw [List.getD_eq_getElem?_getD, wls, List.getElem?_map, List.getElem?_eq_getElem hi, List.getD_eq_getElem?_getD, List.getElem?_eq_getElem hi]; rfl
  have hP1 := hP.own1
  have hP2 := hP.own2
  rw [e1] at hP1
  rw [e2] at hP2
  refine ⟨es', vR, vW, rfl, hp, hs, ⟨?_, by rw [l1]; simp [wus], fun i hi => ?_, fun i j hij hj g => ?_⟩, ?_, fun i hi g hg => ?_, hb.trans (hP.bel.mono hB)⟩
  · rw [l1]; exact own_base hP1 hB
  · rw [l1] at hi
    rw [g1 i hi, g2 i hi]
    exact own_below (hq.each _ (wt_mem hi)) hP.bel
  · rw [l1] at hj
    rw [g1 i (by omega), g1 j hj]
    have := List.pairwise_iff_getElem.1 hq.ap i j (by omega) hj hij g
    rw [List.getD_eq_getElem?_getD, List.getElem?_eq_getElem (by omega : i < es'.length), List.getD_eq_getElem?_getD, List.getElem?_eq_getElem hj]
    exact this
  · rw [l2]; exact own_base hP2 hB
  · rw [g1 i hi] at hg
    have h1 := (hq.each _ (wt_mem hi)).lt g hg
    intro h2
    have h3 := hP2.lt g h2
    omega

theorem Tryz.infoSR : (Tryz.prog.info? 57).map (fun i => (i.zero, i.size, i.bytes)) = some (some (.slice none 0 0), 1, 24) := by kernel_rfl
theorem Tryz.infoSI : (Tryz.prog.info? 3).map (fun i => (i.zero, i.size, i.bytes)) = some (some (.int .i64 0), 1, 8) := by kernel_rfl

set_option maxHeartbeats 8000000 in
set_option maxRecDepth 1000000 in
theorem sortedRows_calls (w : World) (B : Nat) (v : Value) (es : List WtV) (h : WQ w B v es) (hM : ∀ e ∈ es, e.2.1.length ≤ 1099511627776) (hn : es.length ≤ 20000) (hB : B ≤ w.heap.size) :
    Calls Tryz.prog 63 #[v] w (SrtE w B es) := by
  obtain ⟨iS, hj, hy0, hy1, hy2⟩ := info_parts Tryz.infoSR
  obtain ⟨iT, hi, hz0, hz1, hz2⟩ := info_parts Tryz.infoSI
  have KS := hid (sortWAny_calls w B v es h hM (by omega))
  obtain ⟨a, cap, rfl⟩ := own_shapeW h.own
  have HM := hid hM
  clear h hM
  obtain ⟨n, hnn⟩ : ∃ n, n = es.length := ⟨_, rfl⟩
  have HN := hid hnn
  rw [← hnn] at hn KS ⊢
  clear hnn
  go_enter Tryz.func63, Tryz.ntmps63
  go_upto_region 2 with (first | (go_at_call 88; refine KS.out.mono ?_; rintro e W1 ⟨rfl, es', hp, hs, hq, hb⟩) | fail)
  have hl' : es'.length = n := by rw [HN.out]; exact hp.length_eq
  have HE : Hid (∀ w' vR vW, Pt W1 w' vR vW n n ((wus es').take n) (((wws es').take n).map (Value.int .i64)) → SrtE w B es (.returned (.tuple #[vR, vW])) w') := hid fun w' vR vW hP => srt_end hp (hs.imp fun h => Int.not_lt.2 h) hq hb (Nat.le_trans hB hb.size) (by rw [hl']; exact hP)
  have HQ : Hid (∀ W, Below W1.heap.size W1 W → ∀ p, p < n → ∃ b o, a = some ⟨b, o, none⟩ ∧ W.cell? ⟨b, o + p * 2, none⟩ = some (es'.getD p noWt).1 ∧ W.cell? ⟨b, o + p * 2 + 1, none⟩ = some (.int .i64 (es'.getD p noWt).2.2)) := hid fun W hW p hp => by
    obtain ⟨b, o, e, h1, h2⟩ := hq.cells (p := p) (by omega)
    exact ⟨b, o, e, bclT hW h1, bclT hW h2⟩
  have HSh : Hid (∀ p, p < n → ∃ ax lx cx, (es'.getD p noWt).1 = .slice ax lx cx) := hid fun p hp => by
    obtain ⟨ax, cx, e⟩ := own_shapeW (hq.each _ (wt_mem (p := p) (by omega)))
    exact ⟨ax, _, cx, e⟩
  have HS1 : Hid (∀ p, p < n → (wus es').take (p + 1) = (wus es').take p ++ [(es'.getD p noWt).1]) := hid fun p hp => wus_succ (by omega)
  have HS2 : Hid (∀ p, p < n → ((wws es').take (p + 1)).map (Value.int .i64) = ((wws es').take p).map (Value.int .i64) ++ [.int .i64 (es'.getD p noWt).2.2]) := hid fun p hp => wws_succ (by omega)
  clear hp hs hq hb KS HM HN hB
  have m1 : ∀ W : World, Sem.run Tryz.prog (Instr.makeSlice 58 (.int .i64 0) (.int .i64 (n : Int))) W = .ok (.slice (some ⟨W.heap.size, 0, none⟩) 0 n) (W.alloc (.cells (madeCells (Value.slice none 0 0).cells (n * 1)) 57)) := fun W => by
    have := run_makeSlice (P := Tryz.prog) W 58 57 iS _ Tryz.underlying58 hj hy0 .i64 .i64 0 (n : Int) (by omega) (by omega) (by rw [hy1]; omega) (by rw [hy2]; omega) (by omega)
    rw [hy1] at this
    simpa using this
  have m2 : ∀ W : World, Sem.run Tryz.prog (Instr.makeSlice 57 (.int .i64 0) (.int .i64 (n : Int))) W = .ok (.slice (some ⟨W.heap.size, 0, none⟩) 0 n) (W.alloc (.cells (madeCells (Value.int .i64 0).cells (n * 1)) 3)) := fun W => by
    have := run_makeSlice (P := Tryz.prog) W 57 3 iT _ Tryz.underlying57 hi hz0 .i64 .i64 0 (n : Int) (by omega) (by omega) (by rw [hz1]; omega) (by rw [hz2]; omega) (by omega)
    rw [hz1] at this
    simpa using this
  have s1 : (madeCells (Value.slice none 0 0).cells (n * 1)).size = n * 1 := size_madeCells _ _
  have s2 : (madeCells (Value.int .i64 0).cells (n * 1)).size = n * 1 := size_madeCells _ _
  generalize madeCells (Value.slice none 0 0).cells (n * 1) = M1 at *
  generalize madeCells (Value.int .i64 0).cells (n * 1) = M2 at *
  have hmx : n ≤ maxLen := by unfold maxLen; omega
  have HA : Hid (Pt W1 (((W1.alloc (.cells M1 57)).alloc (.cells M2 3))) (.slice (some ⟨W1.heap.size, 0, none⟩) 0 n) (.slice (some ⟨W1.heap.size + 1, 0, none⟩) 0 n) 0 0 [] []) := hid ⟨((Below.refl _ _).alloc (Nat.le_refl _) _).alloc (by simp) _, (World.ownsRow_made W1 M1 n (Nat.le_refl _) hmx s1).alloc _, by
    have := World.ownsRow_made (base := W1.heap.size) (e := 3) (size := 1) (W1.alloc (.cells M1 57)) M2 n (by simp) hmx s2
    rw [World.size_alloc] at this
    exact this⟩
  have HB2 : Hid (Pt W1 (((W1.alloc (.cells M2 3)).alloc (.cells M1 57))) (.slice (some ⟨W1.heap.size + 1, 0, none⟩) 0 n) (.slice (some ⟨W1.heap.size, 0, none⟩) 0 n) 0 0 [] []) := hid ⟨((Below.refl _ _).alloc (Nat.le_refl _) _).alloc (by simp) _, by
    have := World.ownsRow_made (base := W1.heap.size) (e := 57) (size := 1) (W1.alloc (.cells M2 3)) M1 n (by simp) hmx s1
    rw [World.size_alloc] at this
    exact this, (World.ownsRow_made W1 M2 n (Nat.le_refl _) hmx s2).alloc _⟩
  go_cut [4, 5] from 10 to 16 (fun x y wx => ∃ vR vW, vR = x ∧ vW = y ∧ Hid (Pt W1 wx vR vW 0 0 [] []))
  case first =>
    go_region_law (first | fail)
    all_goals
      go_wp2_with fail
      go_meet
      first
        | exact ⟨_, _, rfl, rfl, hid HA.out.drew⟩
        | exact ⟨_, _, rfl, rfl, hid HB2.out.drew⟩
  case rest =>
    obtain ⟨vR0, vW0, rfl, rfl, HP0⟩ := hcut
    clear HA HB2 m1 m2 s1 s2
    go_wp2_with fail
    go_loopw [4, 5, 18] (fun x y t wr => ∃ (p : Nat) (vR vW : Value), p ≤ n ∧ t = .int .i64 p ∧ vR = x ∧ vW = y ∧ Hid (Pt W1 wr vR vW p p ((wus es').take p) (((wws es').take p).map (Value.int .i64)))) (fun _ _ t _ => n - (intOf t).toNat)
    case atStart => exact ⟨0, _, _, Nat.zero_le _, rfl, rfl, rfl, HP0⟩
    case round =>
      clear HP0
      obtain ⟨p, vR, vW, hpn, rfl, rfl, rfl, HP⟩ := hrel
      by_cases hlp : p < n
      · have i1 : (p : Int) < (n : Int) := by omega
        obtain ⟨b, o, ea, g0, g1⟩ := HQ.out wr HP.out.bel p hlp
        subst ea
        obtain ⟨ax, lx, cx, ex⟩ := HSh.out p hlp
        have HS1p := hid (HS1.out p hlp)
        have HS2p := hid (HS2.out p hlp)
        rw [ex] at g0 HS1p
        generalize (es'.getD p noWt).2.2 = kx at *
        have hsz := HP.out.bel.size
        go_upto_region 6 with fail
        obtain ⟨W5, hW5⟩ : ∃ W5, W5 = wr.alloc (.cells #[.slice ax lx cx, .int .i64 kx] 118) := ⟨_, rfl⟩
        have t0 : W5.cell? ⟨wr.heap.size, 0, none⟩ = some (.slice ax lx cx) := by rw [hW5, World.cell?_alloc_at _ _ _ _ rfl]; rfl
        have t1 : W5.cell? ⟨wr.heap.size, 1, none⟩ = some (.int .i64 kx) := by rw [hW5, World.cell?_alloc_at _ _ _ _ rfl]; rfl
        have HT5 : Hid (∃ cur, W5.heap[wr.heap.size]? = some (.cells cur 118 (0, 0))) := hid ⟨_, by rw [hW5]; exact heap_alloc_new _ _⟩
        have hs5 : W1.heap.size ≤ W5.heap.size := by rw [hW5]; simp; omega
        have hlt5 : wr.heap.size < W5.heap.size := by rw [hW5]; simp
        have HP5 : Hid (Pt W1 W5 vR vW p p ((wus es').take p) (((wws es').take p).map (Value.int .i64))) := hid (by rw [hW5]; exact HP.out.al _)
        rw [← hW5]
        clear hW5 HP g0 g1
        generalize wr.heap.size = bx at *
        go_upto_region 7 with (first | (at_builtin; refine wpList_append_lies _ rfl _ _ 58 rfl W1.heap.size 57 iS (.slice none 0 0) 1 24 Tryz.underlying58 hj hy0 hy1 hy2 rfl (by decide) vR _ _ rfl (HP5.out.own1.alloc _) ⟨_, 0, none⟩ 1 1 [.slice ax lx cx] rfl rfl (new1_cell _ _ _) (fun u hu => by simp at hu; subst hu; rfl) (by decide) (by unfold maxLen; omega) (by omega) (by simp; omega) _ rfl ?_; intro g8 cp8 w8 hown8 hgrow8 hat8 hlt8) | fail)
        have HP8 : Hid (Pt W1 w8 (.slice (some ⟨g8, 0, none⟩) (p + 1) cp8) vW (p + 1) p ((wus es').take (p + 1)) (((wws es').take p).map (Value.int .i64))) := hid (by rw [HS1p.out]; exact (HP5.out.al _).one hown8 hgrow8)
        have t1' : w8.cell? ⟨bx, 1, none⟩ = some (.int .i64 kx) := (World.cell?_of_block (w := W5) (a := ⟨bx, 1, none⟩) (kept_of hgrow8 hlt5 (own_ne HP5.out.own1 HT5.out (by decide)))).trans t1
        have hs8 := HP8.out.bel.size
        clear hown8 hgrow8 hat8 hlt8 t0 t1 HP5 HT5 hs5 hlt5
        go_wp2_with (first | (at_builtin; refine wpList_append_lies _ rfl _ _ 57 rfl W1.heap.size 3 iT (.int .i64 0) 1 8 Tryz.underlying57 hi hz0 hz1 hz2 rfl (by decide) vW _ _ rfl (HP8.out.own2.alloc _) ⟨_, 0, none⟩ 1 1 [.int .i64 kx] rfl rfl (new1_cell _ _ _) (fun u hu => by simp at hu; subst hu; rfl) (by decide) (by unfold maxLen; omega) (by omega) (by simp; omega) _ rfl ?_; intro g9 cp9 w9 hown9 hgrow9 hat9 hlt9) | fail)
        have HP9 : Hid (Pt W1 w9 (.slice (some ⟨g8, 0, none⟩) (p + 1) cp8) (.slice (some ⟨g9, 0, none⟩) (p + 1) cp9) (p + 1) (p + 1) ((wus es').take (p + 1)) (((wws es').take (p + 1)).map (Value.int .i64))) := hid (by rw [HS2p.out]; exact (HP8.out.al _).two hown9 hgrow9)
        clear hown9 hgrow9 hat9 hlt9 t1' HP8
        go_wp2_with fail
        go_roundw
        case rel => exact ⟨p + 1, _, _, by omega, by go_num, rfl, rfl, HP9⟩
        case measure => simp [intOf]; omega
      · obtain rfl : p = n := by omega
        have i1 : ¬ ((p : Int) < (p : Int)) := by omega
        have HF := hid (HE.out wr vR vW HP.out)
        clear HP HE HQ
        go_wp2_with fail
        refine bodyPost_ret (v := .tuple #[vR, vW]) (by simp [results, Tryz.results63, go_sem]) rfl ?_
        exact HF.out

end Go.Proofs.YtegcpplkcahkhaaGreat

/-
  Rows with their weights that were found so far.
-/
namespace Go.Proofs.YtegcpplkcahkhaaGreat
open Go.RowKit Go.Shelf Go.Lib Go.Sort

/-- what was found so far -/
def WF (W : World) (B : Nat) (v : Value) (l : List (List Int × Int)) : Prop := ∃ es : List WtV, WQ W B v es ∧ es.map (fun e => e.2) = l
theorem WF.nil (W : World) (B : Nat) : WF W B (.slice none 0 0) [] := ⟨[], ⟨World.ownsRow_nil _ _ _ _, fun e he => by simp at he, List.Pairwise.nil⟩, rfl⟩
theorem WF.below {W W' : World} {B : Nat} {v : Value} {l : List (List Int × Int)} (h : WF W B v l) (hb : Below W.heap.size W W') : WF W' B v l := by
  obtain ⟨es, hq, e⟩ := h
  exact ⟨es, ⟨own_below hq.own hb, fun x hx => own_below (hq.each x hx) hb, hq.ap⟩, e⟩
theorem WF.row {W0 : World} {B : Nat} {v : Value} {l : List (List Int × Int)} (h : WF W0 B v l) (hB : B ≤ W0.heap.size) : ∃ xs, W0.ownsRow B 118 2 v l.length xs ∧ ∀ (W : World) (u : Value) (row : List Int) (wt : Int) (o : Obj) (w3 : World) (v' : Value), Below W0.heap.size W0 W → W.ownsRow W0.heap.size 3 1 u row.length (row.map (Value.int .i64)) → (W.alloc o).grownBy w3 v.ownBlock → w3.ownsRow B 118 2 v' (l.length + 1) (xs ++ [u, .int .i64 wt]) → WF w3 B v' (l ++ [(row, wt)]) := by
  obtain ⟨es, hq, rfl⟩ := h
  rw [List.length_map]
  refine ⟨es.flatMap wc, hq.own, fun W u row wt o w3 v' hb hu hg hown => ?_⟩
  have hint : ∀ {x : Value} {k B' : Nat} {xs : List Value}, W.ownsRow B' 3 1 x k xs → w3.ownsRow B' 3 1 x k xs := fun hx =>
    own_move hx fun g hgx => kept_of hg (hx.lt g hgx).2 (own_ne (own_below hq.own hb) (own_typ hx hgx) (by decide))
  refine ⟨es ++ [(u, row, wt)], ⟨?_, fun e he => ?_, ?_⟩, by rw [List.map_append]; rfl⟩
  · rw [List.length_append, List.flatMap_append]
    exact hown
  · rcases List.mem_append.1 he with he | he
    · exact hint (own_below (hq.each e he) hb)
    · rw [List.mem_singleton.1 he]; exact own_base (hint hu) hB
  · refine List.pairwise_append.2 ⟨hq.ap, List.pairwise_singleton _ _, fun x hx y hy g h1 h2 => ?_⟩
    rw [List.mem_singleton.1 hy] at h2
    have h3 := ((hq.each x hx).lt g h1).2
    have h4 := (hu.lt g h2).1
    omega

theorem new2_cellB (w : World) (x y : Value) (t : TypeId) : ∀ j u, [x, y][j]? = some u → (w.alloc (.cells #[x, y] t)).cell? ((⟨w.heap.size, 0, none⟩ : Addr).add j) = some u := by
  intro j u hj
  have e : (⟨w.heap.size, 0, none⟩ : Addr).add j = ⟨w.heap.size, j, none⟩ := by unfold Addr.add; by_cases h0 : j = 0 <;> simp [h0]
  rw [e, World.cell?_alloc_at _ _ _ _ rfl]
  match j, hj with
  | 0, hj => simpa using hj
  | 1, hj => simpa using hj
  | j + 2, hj => simp at hj
theorem Tryz.infoWt : (Tryz.prog.info? 118).map (fun i => (i.zero, i.size, i.bytes)) = some (some (.agg #[.slice none 0 0, .int .i64 0]), 2, 32) := by kernel_rfl

end Go.Proofs.YtegcpplkcahkhaaGreat
