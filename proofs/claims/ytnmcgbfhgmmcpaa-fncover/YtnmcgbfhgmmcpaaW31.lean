import Derived.Deep.AppendLies
import Derived.Laws.AppendOwnNone
import Derived.Test.YtnmcgbfhgmmcpaaW28
import Derived.Test.YtnmcgbfhgmmcpaaW30
/-
  spec.l1Corner: one demand more or not; the whole.
-/
namespace Go.Proofs.Ytnmcgbfhgmmcpaa
open Go.RowKit

theorem step_append_none {P : Program} {w : World} {ops : Array Oper} {o : Oper} {a : Act} {K : Act → World → Prop} {Q : Exit → Act → World → Prop} {E : Prop} (hgd : o.guard = none) (s x : Operand) (t : TypeId)
    (ho : o.op = .call { callee := .builtin .append, args := #[s, x], argTypes := #[t, t] })
    (base : Nat) (e : TypeId) (i : TypeInfo) (size : Nat) (ht : P.underlying t = some (.slice e)) (hi : P.info? e = some i)
    (v : Value) (n : Nat) (xs : List Value) (hs : a.eval s = v) (hown : w.ownsRow base e size v n xs) (hx : a.eval x = .slice none 0 0)
    (h : K (a.put o.dst v) w) : if Region.wanted o (yielded ops a.tmps) = true then Oper.wp P o a w K Q else E := by
  have hw : Region.wanted o (yielded ops a.tmps) = true := by simp [Region.wanted, hgd]
  rw [if_pos hw]
  have hrun := run_append_owned_none (P := P) (w := w) base t o.type e i size ht hi v n xs hown
  unfold Oper.wp
  simp [execOp, ho, resolve, invoke, builtin, hs, hx, hrun, Result.andThen]
  exact h

theorem addr_add (b o j : Nat) : (⟨b, o, none⟩ : Addr).add j = ⟨b, o + j, none⟩ := by
  unfold Addr.add; split <;> simp_all

theorem new3_cell (w : World) (x y z : Value) (t : TypeId) : ∀ j u, [x, y, z][j]? = some u → (w.alloc (.cells #[x, y, z] t)).cell? ((⟨w.heap.size, 0, none⟩ : Addr).add j) = some u := by
  intro j u hj
  match j, hj with
  | 0, hj => simp at hj; subst hj; simp [Addr.add]
  | 1, hj => simp at hj; subst hj; simp [Addr.add]
  | 2, hj => simp at hj; subst hj; simp [Addr.add]

theorem Try.infoDem : (Try.prog.info? 71).map (fun i => (i.zero, i.size, i.bytes)) = some (some (.agg #[.slice none 0 0, .bool false, .int .i64 0]), 3, 40) := by kernel_rfl

def eD : Obj := .cells #[] 71
def dD (u : Value) (d : Dem) : Obj := .cells #[u, .bool d.up, .int .i64 d.bd] 71

section
variable {w : World} {u : Value} {d : Dem}
theorem own_e1 : (w.alloc eD).ownsRow w.heap.size 71 3 (.slice (some ⟨w.heap.size, 0, none⟩) 0 0) 0 [] := World.ownsRow_made w #[] 0 (Nat.le_refl _) (by decide) rfl
theorem own_e2 : ((w.alloc eD).alloc (dD u d)).ownsRow w.heap.size 71 3 (.slice (some ⟨w.heap.size, 0, none⟩) 0 0) 0 [] := own_e1.alloc _
theorem own_e3 : ((w.alloc (dD u d)).alloc eD).ownsRow w.heap.size 71 3 (.slice (some ⟨w.heap.size + 1, 0, none⟩) 0 0) 0 [] := by
  have := World.ownsRow_made (base := w.heap.size) (e := 71) (size := 3) (w.alloc (dD u d)) #[] 0 (by simp) (by decide) rfl
  rw [show (w.alloc (dD u d)).heap.size = w.heap.size + 1 by simp] at this
  exact this
theorem new_e3 : ∀ j x, [u, .bool d.up, .int .i64 d.bd][j]? = some x → ((w.alloc (dD u d)).alloc eD).cell? ((⟨w.heap.size, 0, none⟩ : Addr).add j) = some x := fun j x hj => by
  have := new3_cell w u (.bool d.up) (.int .i64 d.bd) 71 j x hj
  rw [addr_add] at this ⊢
  rw [World.cell?_alloc_past _ _ _ (by simp)]
  exact this
theorem new_e2 : ∀ j x, [u, .bool d.up, .int .i64 d.bd][j]? = some x → ((w.alloc eD).alloc (dD u d)).cell? ((⟨w.heap.size + 1, 0, none⟩ : Addr).add j) = some x := by
  have := new3_cell (w.alloc eD) u (.bool d.up) (.int .i64 d.bd) 71
  rw [show (w.alloc eD).heap.size = w.heap.size + 1 by simp] at this
  exact this
end

theorem ownB {y a b k : Nat} (h : (Value.slice (some ⟨y, 0, none⟩) a b).ownBlock = some k) : y = k := by
  simpa [Value.ownBlock] using h

theorem grown_new {W w3 : World} {x y z : Value} {s g k : Nat} (hn : ∀ j u, [x, y, z][j]? = some u → W.cell? ((⟨s, 0, none⟩ : Addr).add j) = some u) (hs : s < W.heap.size) (hne : s ≠ g) (hg : W.drew.grownBy w3 (Value.slice (some ⟨g, 0, none⟩) 0 k).ownBlock) : ∀ j u, [x, y, z][j]? = some u → w3.cell? ((⟨s, 0, none⟩ : Addr).add j) = some u := by
  intro j u hj
  have h1 := hn j u hj
  rw [addr_add] at h1 ⊢
  exact (World.cell?_of_block (w := W) (a := ⟨s, 0 + j, none⟩) (hg.block _ hs (by simpa [Value.ownBlock] using hne))).trans h1

/-- the demand that is drawn in -/
theorem dp_snoc {w w2 : World} {B : Nat} {v : Value} {cps : List (Value × Dem)} {p : Value × Dem} (hc : ∀ q ∈ cps, IntsAt w q.1 q.2.pl) (hp : IntsAt w p.1 p.2.pl) (hb : Below w.heap.size w w2) (hown : w2.ownsRow B 71 3 v (cps.length + 1) (dcs cps ++ [p.1, .bool p.2.up, .int .i64 p.2.bd])) : DP w2 v (cps ++ [p]) := by
  refine dp_own (B := B) (by rw [dcs_snoc, List.length_append]; exact hown) (fun q hq => ?_)
  rcases List.mem_append.1 hq with h | h
  · exact (hc q h).below hb
  · rw [List.mem_singleton.1 h]; exact hp.below hb

set_option maxHeartbeats 4000000 in
set_option maxRecDepth 100000 in
theorem l1Corner_step (n : Nat) (most : Bool) (aps : List (Value × Dem)) (xs : Nat → Rat) (hn : n ≤ 7) (hal : aps.length ≤ 100) (haok : ∀ p ∈ aps, DemOk n p.2)
    (w : World) (k : Nat) (va vc vb : Value) (cps : List (Value × Dem)) (best : Option (Nat → Rat)) (ha : DP w va aps) (hc : DP w vc cps) (hcn : cps = [] → vc = .slice none 0 0) (hcl : cps.length < n) (hcok : ∀ p ∈ cps, DemOk n p.2) (hb : BestAt w n (aps.map Prod.snd) vb best) (hgo : k + n - cps.length ≤ aps.length)
    (hrec : ∀ (w : World) (vc vb : Value) (cps : List (Value × Dem)) (best : Option (Nat → Rat)), DP w va aps → DP w vc cps → (cps = [] → vc = .slice none 0 0) → cps.length ≤ n → (∀ p ∈ cps, DemOk n p.2) → BestAt w n (aps.map Prod.snd) vb best →
      Calls Try.prog 39 #[.int .i64 n, va, .int .i64 ((k : Int) + 1), vc, vb, .bool most] w fun e w' => CornerIs n (aps.map Prod.snd) xs (k + 1) (cps.map Prod.snd) best e w' ∧ Below w.heap.size w w') :
    Calls Try.prog 39 #[.int .i64 n, va, .int .i64 k, vc, vb, .bool most] w fun e w' => CornerIs n (aps.map Prod.snd) xs k (cps.map Prod.snd) best e w' ∧ Below w.heap.size w w' := by
  obtain ⟨i0, hi, hz0, hz1, hz2⟩ := info_parts Try.infoDem
  have hka : k < aps.length := by omega
  obtain ⟨pk, hpk⟩ : ∃ p, p = aps.getD k pd0 := ⟨_, rfl⟩
  have hpm : pk ∈ aps := by rw [hpk]; exact getD_mem' hka
  have HST : Hid (Compl n (aps.map Prod.snd) xs k (cps.map Prod.snd) → Compl n (aps.map Prod.snd) xs (k + 1) ((cps ++ [pk]).map Prod.snd) ∨ Compl n (aps.map Prod.snd) xs (k + 1) (cps.map Prod.snd)) := hid (fun h => by
    have := compl_step (by rw [List.length_map]; exact hka) h
    rw [map_snd_get, ← hpk] at this
    rw [List.map_append]
    exact this)
  obtain ⟨ab, lb, cb, rfl, HLB⟩ := hb.form
  have HA := hid ha
  have HC := hid hc
  have HCN := hid hcn
  have HBst := hid hb
  have HREC := hid hrec
  have HCOK : Hid (∀ p ∈ cps ++ [pk], DemOk n p.2) := hid (fun p hp => by
    rcases List.mem_append.1 hp with h | h
    · exact hcok p h
    · rw [List.mem_singleton.1 h]; exact haok pk hpm)
  have HCO := hid hcok
  have HCE := hid hc.each
  have HPE := hid (ha.each pk hpm)
  obtain ⟨⟨av, cv, rfl, hccell⟩, _⟩ := hc
  obtain ⟨⟨aa, ca, rfl, hacell⟩, _⟩ := ha
  have hcs' : ∃ b o, aa = some ⟨b, o, none⟩ ∧ w.cell? ⟨b, o + k * 3, none⟩ = some pk.1 ∧ w.cell? ⟨b, o + k * 3 + 1, none⟩ = some (.bool pk.2.up) ∧ w.cell? ⟨b, o + k * 3 + 2, none⟩ = some (.int .i64 pk.2.bd) := by
    rcases hacell with h0 | ⟨b, o, e, hcs⟩
    · omega
    · obtain ⟨h1, h2, h3⟩ := dcs_get aps k hka
      rw [← hpk] at h1 h2 h3
      exact ⟨b, o, e, hcs _ _ h1, hcs _ _ h2, hcs _ _ h3⟩
  obtain ⟨b, o, rfl, e1, e2, e3⟩ := hcs'
  have FX : Hid (∀ W, Below w.heap.size w W → W.cell? ⟨b, o + k * 3, none⟩ = some pk.1 ∧ W.cell? ⟨b, o + k * 3 + 1, none⟩ = some (.bool pk.2.up) ∧ W.cell? ⟨b, o + k * 3 + 2, none⟩ = some (.int .i64 pk.2.bd)) := hid (fun W hW => ⟨(hW.cell (p := ⟨b, o + k * 3, none⟩) (World.block_lt_of_cell? w _ e1)).trans e1, (hW.cell (p := ⟨b, o + k * 3 + 1, none⟩) (World.block_lt_of_cell? w _ e2)).trans e2, (hW.cell (p := ⟨b, o + k * 3 + 2, none⟩) (World.block_lt_of_cell? w _ e3)).trans e3⟩)
  have HONE := hid (dcs_one HC.out)
  obtain ⟨u, d⟩ := pk
  obtain ⟨au, cu, hau, _⟩ := HPE.out
  simp only at hau
  have HUO : Hid (∀ x ∈ [u, .bool d.up, .int .i64 d.bd], x.oneCell' = true) := hid (fun x hx => by
    simp only [List.mem_cons, List.not_mem_nil, or_false] at hx
    rcases hx with rfl | rfl | rfl
    · rw [hau]; rfl
    · rfl
    · rfl)
  subst hau
  generalize d.pl.length = lu at *
  have HLD := hid (dcs_len cps)
  clear hpk hpm hrec hcok haok hb hacell hcn
  generalize hm : aps.length = m at *
  generalize hq : cps.length = q at *
  have i1 : ¬ ((q : Int) = (n : Int)) := by omega
  have i2 : ((q : Int) == (n : Int)) = false := by simp; omega
  have i3 : ¬ ((m : Int) < (k : Int) + (n : Int) - (q : Int)) := by omega
  have i4 : (k : Int) < (m : Int) := by omega
  have HM := hid hm
  have HQ := hid hq
  clear hm hq
  go_enter Try.func39, Try.ntmps39
  go_upto_region 16 with fail
  go_cut [17] (fun v wx => Hid (Below w.heap.size w wx ∧ DP wx v (cps ++ [((.slice au lu cu : Value), d)])))
  case first =>
    have b1 : Below w.heap.size w (w.alloc eD) := (Below.refl _ _).alloc (Nat.le_refl _) _
    have b2 : Below w.heap.size w ((w.alloc eD).alloc (dD (.slice au lu cu) d)) := b1.alloc b1.size _
    have o1 := own_e1 (w := w)
    have o2 := own_e2 (w := w) (u := .slice au lu cu) (d := d)
    have n2 := new_e2 (w := w) (u := .slice au lu cu) (d := d)
    have b4 : Below w.heap.size w (w.alloc (dD (.slice au lu cu) d)) := (Below.refl _ _).alloc (Nat.le_refl _) _
    have b3 : Below w.heap.size w ((w.alloc (dD (.slice au lu cu) d)).alloc eD) := b4.alloc b4.size _
    have o3 := own_e3 (w := w) (u := .slice au lu cu) (d := d)
    have n3 := new_e3 (w := w) (u := .slice au lu cu) (d := d)
    have hs3 : ((w.alloc (dD (.slice au lu cu) d)).alloc eD).heap.size = w.heap.size + 2 := by simp
    have hle3 : w.heap.size ≤ ((w.alloc (dD (.slice au lu cu) d)).alloc eD).heap.size := b3.size
    have hs2 : ((w.alloc eD).alloc (dD (.slice au lu cu) d)).heap.size = w.heap.size + 2 := by simp
    have hle1 : w.heap.size ≤ (w.alloc eD).heap.size := b1.size
    have hle2 : w.heap.size ≤ ((w.alloc eD).alloc (dD (.slice au lu cu) d)).heap.size := b2.size
    obtain ⟨p1, p2, p3⟩ := FX.out _ b1
    by_cases hq0 : q = 0
    · subst hq0
      have hnil : cps = [] := List.length_eq_zero_iff.1 HQ.out
      have hv := HCN.out hnil
      simp only [Value.slice.injEq] at hv
      obtain ⟨rfl, -, rfl⟩ := hv
      have HNIL := hid hnil
      clear hccell
      unfold eD dD at *
      go_region_law (first
        | (refine step_append_none (by rfl) _ _ _ (by rfl) w.heap.size 71 i0 3 Try.underlying69 hi _ 0 [] (by rfl) o1 (by rfl) ?_)
        | (refine step_append_none (by rfl) _ _ _ (by rfl) w.heap.size 71 i0 3 Try.underlying69 hi _ 0 [] (by rfl) o2 (by rfl) ?_)
        | (refine step_append_none (by rfl) _ _ _ (by rfl) w.heap.size 71 i0 3 Try.underlying69 hi _ 0 [] (by rfl) o3 (by rfl) ?_)
        | (refine step_append_lies _ (by rfl) _ _ _ (by rfl) w.heap.size 71 i0 (.agg #[.slice none 0 0, .bool false, .int .i64 0]) 3 40 Try.underlying69 hi hz0 hz1 hz2 rfl (by decide) _ 0 [] (by rfl) o2 ⟨w.heap.size + 1, 0, none⟩ 1 1 [.slice au lu cu, .bool d.up, .int .i64 d.bd] (by rfl) (by rfl) n2 HUO.out (by decide) (by decide) (by decide) hle2 _ rfl ?_; intro g3 cp3 w3 hown3 hgrow3 hat3 hlt3; have hb3 : Below w.heap.size w w3 := b2.drew.grown hgrow3 hle2 (fun k e => by have := ownB e; omega))
        | (refine step_append_lies _ (by rfl) _ _ _ (by rfl) w.heap.size 71 i0 (.agg #[.slice none 0 0, .bool false, .int .i64 0]) 3 40 Try.underlying69 hi hz0 hz1 hz2 rfl (by decide) _ 0 [] (by rfl) o3 ⟨w.heap.size, 0, none⟩ 1 1 [.slice au lu cu, .bool d.up, .int .i64 d.bd] (by rfl) (by rfl) n3 HUO.out (by decide) (by decide) (by decide) hle3 _ rfl ?_; intro g3 cp3 w3 hown3 hgrow3 hat3 hlt3; have hb3 : Below w.heap.size w w3 := b3.drew.grown hgrow3 hle3 (fun k e => by have := ownB e; omega))
        | fail)
      all_goals
        go_wp2_with fail
        go_meet
        refine hid ⟨hb3, dp_snoc HCE.out HPE.out hb3 (B := w.heap.size) ?_⟩
        rw [HNIL.out]
        exact hown3
    · have hq1 : 0 < q := by omega
      have hcs' : ∃ b2 o2, av = some ⟨b2, o2, none⟩ ∧ ∀ j u, (dcs cps)[j]? = some u → w.cell? ⟨b2, o2 + j, none⟩ = some u := by
        rcases hccell with h0 | h
        · omega
        · exact h
      obtain ⟨bc, oc, rfl, hcs⟩ := hcs'
      have hq7 : q ≤ 7 := by omega
      have hsrc : ∀ j u, (dcs cps)[j]? = some u → ((w.alloc eD).alloc (dD (.slice au lu cu) d)).cell? ((⟨bc, oc, none⟩ : Addr).add j) = some u := fun j u hj => by
        have h1 := hcs j u hj
        rw [addr_add]
        exact (b2.cell (p := ⟨bc, oc + j, none⟩) (World.block_lt_of_cell? w _ h1)).trans h1
      have hsr1 : ∀ j u, (dcs cps)[j]? = some u → (w.alloc eD).cell? ((⟨bc, oc, none⟩ : Addr).add j) = some u := fun j u hj => by
        have h1 := hcs j u hj
        rw [addr_add]
        exact (b1.cell (p := ⟨bc, oc + j, none⟩) (World.block_lt_of_cell? w _ h1)).trans h1
      have hld := HLD.out
      have hsr3 : ∀ j u, (dcs cps)[j]? = some u → ((w.alloc (dD (.slice au lu cu) d)).alloc eD).cell? ((⟨bc, oc, none⟩ : Addr).add j) = some u := fun j u hj => by
        have h1 := hcs j u hj
        rw [addr_add]
        exact (b3.cell (p := ⟨bc, oc + j, none⟩) (World.block_lt_of_cell? w _ h1)).trans h1
      have hbe3 : ∀ w3, ((w.alloc (dD (.slice au lu cu) d)).alloc eD).drew.grownBy w3 (Value.slice (some ⟨w.heap.size + 1, 0, none⟩) 0 0).ownBlock → Below w.heap.size w w3 := fun w3 h => b3.drew.grown h hle3 (fun k e => by have := ownB e; omega)
      have hbe1 : ∀ w3, (w.alloc eD).drew.grownBy w3 (Value.slice (some ⟨w.heap.size, 0, none⟩) 0 0).ownBlock → Below w.heap.size w w3 := fun w3 h => b1.drew.grown h hle1 (fun k e => by have := ownB e; omega)
      have hbe2 : ∀ w3, ((w.alloc eD).alloc (dD (.slice au lu cu) d)).drew.grownBy w3 (Value.slice (some ⟨w.heap.size, 0, none⟩) 0 0).ownBlock → Below w.heap.size w w3 := fun w3 h => b2.drew.grown h hle2 (fun k e => by have := ownB e; omega)
      clear hccell hcs
      unfold eD dD at *
      go_region_law (first
        | (refine step_append_lies _ (by rfl) _ _ _ (by rfl) w.heap.size 71 i0 (.agg #[.slice none 0 0, .bool false, .int .i64 0]) 3 40 Try.underlying69 hi hz0 hz1 hz2 rfl (by decide) _ 0 [] (by rfl) o1 ⟨bc, oc, none⟩ q cv (dcs cps) (by rfl) hld hsr1 HONE.out hq1 (by unfold maxLen; omega) (by omega) hle1 _ rfl ?_; intro g3 cp3 w3 hown3 hgrow3 hat3 hlt3; simp only [Nat.zero_add, List.nil_append] at hown3; have hb3 := hbe1 w3 hgrow3; obtain ⟨r1, r2, r3⟩ := FX.out w3 hb3)
        | (refine step_append_lies _ (by rfl) _ _ _ (by rfl) w.heap.size 71 i0 (.agg #[.slice none 0 0, .bool false, .int .i64 0]) 3 40 Try.underlying69 hi hz0 hz1 hz2 rfl (by decide) _ 0 [] (by rfl) o2 ⟨bc, oc, none⟩ q cv (dcs cps) (by rfl) hld hsrc HONE.out hq1 (by unfold maxLen; omega) (by omega) hle2 _ rfl ?_; intro g3 cp3 w3 hown3 hgrow3 hat3 hlt3; simp only [Nat.zero_add, List.nil_append] at hown3; have hb3 := hbe2 w3 hgrow3; have nB := grown_new n2 (by rw [hs2]; omega) (by omega) hgrow3)
        | (refine step_append_lies _ (by rfl) _ _ _ (by rfl) w.heap.size 71 i0 (.agg #[.slice none 0 0, .bool false, .int .i64 0]) 3 40 Try.underlying69 hi hz0 hz1 hz2 rfl (by decide) _ 0 [] (by rfl) o3 ⟨bc, oc, none⟩ q cv (dcs cps) (by rfl) hld hsr3 HONE.out hq1 (by unfold maxLen; omega) (by omega) hle3 _ rfl ?_; intro g3 cp3 w3 hown3 hgrow3 hat3 hlt3; simp only [Nat.zero_add, List.nil_append] at hown3; have hb3 := hbe3 w3 hgrow3; have nC := grown_new n3 (by rw [hs3]; omega) (by omega) hgrow3)
        | (refine step_append_lies _ (by rfl) _ _ _ (by rfl) w.heap.size 71 i0 (.agg #[.slice none 0 0, .bool false, .int .i64 0]) 3 40 Try.underlying69 hi hz0 hz1 hz2 rfl (by decide) _ _ _ (by rfl) (hown3.alloc _) ⟨w3.heap.size, 0, none⟩ 1 1 [.slice au lu cu, .bool d.up, .int .i64 d.bd] (by rfl) (by rfl) (new3_cell w3 _ _ _ _) HUO.out (by decide) (by unfold maxLen; omega) (by omega) (Nat.le_trans hb3.size (by simp)) _ rfl ?_; intro g4 cp4 w4 hown4 hgrow4 hat4 hlt4; have hb4 : Below w.heap.size w w4 := (hb3.alloc hb3.size _).grown hgrow4 (Nat.le_trans hb3.size (by simp)) (fun k e => (hown3.lt k e).1))
        | (refine step_append_lies _ (by rfl) _ _ _ (by rfl) w.heap.size 71 i0 (.agg #[.slice none 0 0, .bool false, .int .i64 0]) 3 40 Try.underlying69 hi hz0 hz1 hz2 rfl (by decide) _ _ _ (by rfl) hown3 ⟨w.heap.size + 1, 0, none⟩ 1 1 [.slice au lu cu, .bool d.up, .int .i64 d.bd] (by rfl) (by rfl) nB HUO.out (by decide) (by unfold maxLen; omega) (by omega) hb3.size _ rfl ?_; intro g4 cp4 w4 hown4 hgrow4 hat4 hlt4; have hb4 : Below w.heap.size w w4 := hb3.grown hgrow4 hb3.size (fun k e => (hown3.lt k e).1))
        | (refine step_append_lies _ (by rfl) _ _ _ (by rfl) w.heap.size 71 i0 (.agg #[.slice none 0 0, .bool false, .int .i64 0]) 3 40 Try.underlying69 hi hz0 hz1 hz2 rfl (by decide) _ _ _ (by rfl) hown3 ⟨w.heap.size, 0, none⟩ 1 1 [.slice au lu cu, .bool d.up, .int .i64 d.bd] (by rfl) (by rfl) nC HUO.out (by decide) (by unfold maxLen; omega) (by omega) hb3.size _ rfl ?_; intro g4 cp4 w4 hown4 hgrow4 hat4 hlt4; have hb4 : Below w.heap.size w w4 := hb3.grown hgrow4 hb3.size (fun k e => (hown3.lt k e).1))
        | fail)
      all_goals
        go_wp2_with fail
        go_meet
        refine hid ⟨hb4, dp_snoc HCE.out HPE.out hb4 (B := w.heap.size) ?_⟩
        rw [HQ.out]
        simpa using hown4
  case rest =>
    have HX := hcut
    obtain ⟨⟨a5, c5, e5, -⟩, -⟩ := HX.out.2
    rw [List.length_append, HQ.out] at e5
    simp only [List.length_cons, List.length_nil, Nat.zero_add] at e5
    subst e5
    have K1 : Hid (Calls Try.prog 39 #[.int .i64 n, .slice (some ⟨b, o, none⟩) m ca, .int .i64 ((k : Int) + 1), .slice a5 (q + 1) c5, .slice ab lb cb, .bool most] wc fun e w' => CornerIs n (aps.map Prod.snd) xs (k + 1) ((cps ++ [((.slice au lu cu : Value), d)]).map Prod.snd) best e w' ∧ Below wc.heap.size wc w') :=
      hid (HREC.out wc _ _ _ best (HA.out.below HX.out.1) HX.out.2 (fun h => by simp at h) (by rw [List.length_append, HQ.out]; simp; omega) HCOK.out (HBst.out.below HX.out.1))
    go_upto_region 18 with (first | (go_at_call 39; refine K1.out.mono ?_; rintro e w1 ⟨⟨v1, best1, rfl, hbe1, hst1⟩, hb1⟩))
    have hW1 := bt HX.out.1 hb1
    have K2 : Hid (Calls Try.prog 39 #[.int .i64 n, .slice (some ⟨b, o, none⟩) m ca, .int .i64 ((k : Int) + 1), .slice av q cv, v1, .bool most] w1 fun e w' => CornerIs n (aps.map Prod.snd) xs (k + 1) (cps.map Prod.snd) best1 e w' ∧ Below w1.heap.size w1 w') :=
      hid (HREC.out w1 _ _ _ best1 (HA.out.below hW1) (HC.out.below hW1) HCN.out (by rw [HQ.out]; omega) HCO.out hbe1)
    have HS1 := hid hst1
    have HW1 := hid hW1
    clear hst1 hb1 hbe1 hW1
    go_wp2_with (first | (go_at_call 39; refine K2.out.mono ?_; rintro e w2 ⟨⟨v2, best2, rfl, hbe2, hst2⟩, hb2⟩))
    go_ret
    refine ⟨⟨_, best2, rfl, hbe2, fun h => hst2 ?_⟩, bt HW1.out hb2⟩
    rcases h with h | h
    · exact Or.inl (HS1.out (Or.inl h))
    · rcases HST.out h with h1 | h1
      · exact Or.inl (HS1.out (Or.inr h1))
      · exact Or.inr h1

theorem l1Corner_calls (n : Nat) (most : Bool) (aps : List (Value × Dem)) (xs : Nat → Rat) (hn1 : 1 ≤ n) (hn : n ≤ 7) (hal : aps.length ≤ 100) (haok : ∀ p ∈ aps, DemOk n p.2) (hS : Star n most (aps.map Prod.snd) xs) (va : Value) :
    ∀ (f : Nat) (w : World) (k : Nat) (vc vb : Value) (cps : List (Value × Dem)) (best : Option (Nat → Rat)), aps.length - k ≤ f → k ≤ aps.length → DP w va aps → DP w vc cps → (cps = [] → vc = .slice none 0 0) → cps.length ≤ n → (∀ p ∈ cps, DemOk n p.2) → BestAt w n (aps.map Prod.snd) vb best →
      Calls Try.prog 39 #[.int .i64 n, va, .int .i64 (k : Nat), vc, vb, .bool most] w fun e w' => CornerIs n (aps.map Prod.snd) xs k (cps.map Prod.snd) best e w' ∧ Below w.heap.size w w'
  | f, w, k, vc, vb, cps, best, hf, hk, ha, hc, hcn, hcl, hcok, hb => by
    by_cases h1 : cps.length = n
    · exact l1Corner_leaf n most aps xs hn1 hn hal haok hS w k va vc vb cps best ha hc h1 hcok hb
    · by_cases h2 : aps.length < k + n - cps.length
      · exact l1Corner_stop n most aps xs hn hal w k hk va vc vb cps best ha hc (by omega) hb h2
      · match f, hf with
        | 0, hf => omega
        | f + 1, hf =>
          refine l1Corner_step n most aps xs hn hal haok w k va vc vb cps best ha hc hcn (by omega) hcok hb (by omega) (fun w vc vb cps best ha hc hcn hcl hcok hb => ?_)
          have := l1Corner_calls n most aps xs hn1 hn hal haok hS va f w (k + 1) vc vb cps best (by omega) (by omega) ha hc hcn hcl hcok hb
          rw [show ((k + 1 : Nat) : Int) = (k : Int) + 1 by omega] at this
          exact this

end Go.Proofs.Ytnmcgbfhgmmcpaa

/-
  Lists of demands that grow: for spec.CoverOf.
-/
namespace Go.Proofs.Ytnmcgbfhgmmcpaa
open Go.RowKit

def ivals (l : List Nat) : List Value := (l.map Int.ofNat).map (Value.int .i64)

/-- demands in a slice that grows, their places in rows of their own -/
structure DL (W : World) (B : Nat) (v : Value) (ps : List (Value × Dem)) : Prop where
  own : W.ownsRow B 71 3 v ps.length (dcs ps)
  each : ∀ p ∈ ps, W.ownsRow B 3 1 p.1 p.2.pl.length (ivals p.2.pl)

theorem own_ints {W : World} {B : Nat} {v : Value} {l : List Nat} (h : W.ownsRow B 3 1 v l.length (ivals l)) : IntsAt W v l := by
  have he : W.ownsRow B 3 1 v (l.map Int.ofNat).length ((l.map Int.ofNat).map (Value.int .i64)) := by rw [List.length_map]; exact h
  obtain ⟨a, cp, e, hi2⟩ := own_is he
  rw [List.length_map] at e hi2
  refine ⟨a, cp, e, fun j hj => ?_⟩
  rcases hi2 with h0 | ⟨b, o, ea, hcell⟩
  · omega
  · refine ⟨b, o, ea, (hcell j hj).trans ?_⟩
    rw [List.getD_eq_getElem?_getD, List.getElem?_map, List.getD_eq_getElem?_getD, List.getElem?_eq_getElem hj]
    rfl

section
variable {W W' w3 : World} {B : Nat} {v v' u : Value} {ps qs : List (Value × Dem)} {p : Value × Dem} {o : Obj}

theorem DL.below (h : DL W B v ps) (hb : Below W.heap.size W W') : DL W' B v ps := ⟨own_below h.own hb, fun p hp => own_below (h.each p hp) hb⟩
theorem DL.dp (h : DL W B v ps) : DP W v ps := dp_own h.own (fun p hp => own_ints (h.each p hp))
theorem DL.nil (W : World) : DL (W.alloc eD) W.heap.size (.slice (some ⟨W.heap.size, 0, none⟩) 0 0) [] := ⟨own_e1, fun p hp => by cases hp⟩
theorem DL.base {B' : Nat} (h : DL W B v ps) (hB : B' ≤ B) : DL W B' v ps := ⟨own_base h.own hB, fun p hp => own_base (h.each p hp) hB⟩

theorem grown_keep (hg : (W.alloc o).grownBy w3 v.ownBlock) {b : Nat} (hb : b < W.heap.size) (hne : some b ≠ v.ownBlock) : w3.heap[b]? = W.heap[b]? :=
  (hg.block b (by simp; omega) hne).trans (Below.heap_alloc _ _ _ hb)

theorem DL.step (h : DL W B v ps) (hp : W.ownsRow B 3 1 p.1 p.2.pl.length (ivals p.2.pl)) (hown : w3.ownsRow B 71 3 v' (ps.length + 1) (dcs ps ++ [p.1, .bool p.2.up, .int .i64 p.2.bd])) (hg : (W.alloc o).grownBy w3 v.ownBlock) : DL w3 B v' (ps ++ [p]) := by
  have hint : ∀ {x : Value} {k : Nat} {xs : List Value}, W.ownsRow B 3 1 x k xs → w3.ownsRow B 3 1 x k xs := fun hx =>
    own_move hx (fun g hgx => grown_keep hg ((hx.lt g hgx).2) (fun e => own_ne h.own (own_typ hx hgx) (by decide) e))
  refine ⟨by rw [dcs_snoc, List.length_append]; exact hown, fun q hq => ?_⟩
  rcases List.mem_append.1 hq with h1 | h1
  · exact hint (h.each q h1)
  · rw [List.mem_singleton.1 h1]; exact hint hp

theorem DL.other (h : DL W B u qs) {n : Nat} {xs : List Value} (hv : W.ownsRow B 71 3 v n xs) (hne : ∀ g, u.ownBlock = some g → v.ownBlock ≠ some g) (hg : (W.alloc o).grownBy w3 v.ownBlock) : DL w3 B u qs := by
  refine ⟨own_move h.own (fun g hgx => grown_keep hg ((h.own.lt g hgx).2) (fun e => hne g hgx e.symm)), fun q hq => ?_⟩
  have hx := h.each q hq
  exact own_move hx (fun g hgx => grown_keep hg ((hx.lt g hgx).2) (fun e => own_ne hv (own_typ hx hgx) (by decide) e))

theorem apart_step {g cp n : Nat} (h : DL W B u qs) (hne : ∀ g, u.ownBlock = some g → v.ownBlock ≠ some g) (hat : v.ownBlock = some g ∨ g = (W.alloc o).heap.size) : ∀ k, u.ownBlock = some k → (Value.slice (some ⟨g, 0, none⟩) n cp).ownBlock ≠ some k := by
  intro k hk e
  have e2 := ownB e
  subst e2
  rcases hat with h1 | h1
  · exact hne g hk h1
  · have := (h.own.lt g hk).2
    simp at h1
    omega
end

theorem map_snoc_take {α β : Type} (f : α → β) (l : List α) (d : α) {k : Nat} (h : k < l.length) : (l.take (k + 1)).map f = (l.take k).map f ++ [f (l.getD k d)] := by
  rw [List.take_add_one, List.getElem?_eq_getElem h, List.map_append, List.getD_eq_getElem?_getD, List.getElem?_eq_getElem h]
  rfl

theorem plc_ivals (p : Nat → Bool) (k : Nat) : (plc p k).map (Value.int .i64) = ivals (plN p k) := rfl
theorem plc_len (p : Nat → Bool) (k : Nat) : (plc p k).length = (plN p k).length := by rw [plc_plN, List.length_map]

theorem no_cover {bag : List Int} {es : List (List Int)} {k : Nat} (hk : k < bag.length) (h : plN (fun i => decide (bag.getD k 0 ∈ es.getD i [])) es.length = []) : coverB bag es = false := by
  cases hc : coverB bag es
  · rfl
  · exfalso
    obtain ⟨e, he, hm⟩ := coverB_at hc hk
    have : e ∈ plN (fun i => decide (bag.getD k 0 ∈ es.getD i [])) es.length := plN_mem.2 ⟨he, decide_eq_true hm⟩
    rw [h] at this
    cases this

theorem take_all_snoc (l : List (List Int)) (f : List Int → Bool) {k : Nat} (h : k < l.length) : (l.take (k + 1)).all f = ((l.take k).all f && f (l.getD k [])) := by
  rw [List.take_add_one, List.getElem?_eq_getElem h, List.all_append, List.getD_eq_getElem?_getD, List.getElem?_eq_getElem h]
  simp

theorem ISS.get {w : World} {v : Value} {es : List (List Int)} (h : ISS w v es) {a : Option Addr} {n cap : Nat} (hv : v = .slice a n cap) {j : Nat} (hj : j < es.length) : ∃ b o u, a = some ⟨b, o, none⟩ ∧ w.cell? ⟨b, o + j, none⟩ = some u ∧ IS w u (es.getD j []) := by
  obtain ⟨a', cap', e, hc⟩ := h
  rw [hv] at e
  simp only [Value.slice.injEq] at e
  obtain ⟨rfl, -, -⟩ := e
  rcases hc with h0 | ⟨b, o, ea, hc⟩
  · omega
  · obtain ⟨u, h1, h2⟩ := hc j hj
    exact ⟨b, o, u, ea, h1, h2⟩

end Go.Proofs.Ytnmcgbfhgmmcpaa

/-
  spec.l1Corner from the start; a demand in a block of its own while its places are gathered.
-/
namespace Go.Proofs.Ytnmcgbfhgmmcpaa
open Go.RowKit

theorem corner_best (n : Nat) (most : Bool) (aps : List (Value × Dem)) (x : Nat → Rat) (hn1 : 1 ≤ n) (hn : n ≤ 7) (hal : aps.length ≤ 100) (haok : ∀ D ∈ aps.map Prod.snd, DemOk n D) (hS : Star n most (aps.map Prod.snd) x) (va : Value) (w : World) (ha : DP w va aps) :
    Calls Try.prog 39 #[.int .i64 n, va, .int .i64 0, .slice none 0 0, .slice none 0 0, .bool most] w fun e w' => ∃ v, e = .returned v ∧ IR w' v (prs n x) ∧ Below w.heap.size w w' := by
  have := l1Corner_calls n most aps x hn1 hn hal (fun p hp => haok _ (List.mem_map.2 ⟨p, hp, rfl⟩)) hS va aps.length w 0 (.slice none 0 0) (.slice none 0 0) [] none (by omega) (by omega) ha ⟨⟨none, 0, rfl, Or.inl rfl⟩, fun p hp => by cases hp⟩ (fun _ => rfl) (by simp) (fun p hp => by cases hp) ⟨none, 0, rfl⟩
  refine this.mono ?_
  rintro e w' ⟨⟨v, best', rfl, hbe, hst⟩, hb⟩
  have h1 := hst (Or.inr (compl_start hS))
  cases best' with
  | none => exact absurd h1 id
  | some b => exact ⟨v, rfl, by rw [← prs_congr h1]; exact hbe.1, hb⟩

theorem Parts.congr {n : Nat} {x y : Nat → Rat} (h : Parts n x) (e : ∀ i, i < n → x i = y i) : Parts n y := by
  obtain ⟨D, h0, hD, hw⟩ := h
  exact ⟨D, h0, hD, fun j hj => by rw [← e j hj]; exact hw j hj⟩

/-- a demand in block gd -/
structure AT (W : World) (gd : Nat) (v : Value) (up : Bool) : Prop where
  typ : ∃ cur, W.heap[gd]? = some (.cells cur 71 (0, 0))
  arr : ArrAt W gd 3 (f3 v (.bool up) (.int .i64 1))

section
variable {W W' w1 : World} {gd : Nat} {v v' : Value} {up : Bool}
theorem AT.new (W : World) (v : Value) (up : Bool) : AT (W.alloc (.cells #[v, .bool up, .int .i64 1] 71)) W.heap.size v up := ⟨⟨_, heap_alloc_new _ _⟩, arrAt_alloc W 3 (f3 v (.bool up) (.int .i64 1)) 71⟩
theorem AT.move (h : AT W gd v up) (e : W'.heap[gd]? = W.heap[gd]?) : AT W' gd v up := ⟨by rw [e]; exact h.typ, h.arr.move e⟩
theorem AT.lt (h : AT W gd v up) : gd < W.heap.size := lt_of_typ h.typ
theorem AT.set (h : AT W gd v up) (v' : Value) : AT (W.setCell ⟨gd, 0, none⟩ v') gd v' up := by
  refine ⟨typ_set h.typ, ?_⟩
  have := h.arr.set (i := 0) (by omega) v'
  refine ⟨fun j hj => ?_, this.free⟩
  rw [this.cell j hj]
  match j, hj with
  | 0, _ => rfl
  | 1, _ => rfl
  | 2, _ => rfl

/-- one place more -/
theorem AT.grow {o : Obj} {B n k : Nat} {xs ys : List Value} (h : AT W gd v up) (hown : W.ownsRow B 3 1 v n xs) (hown' : w1.ownsRow B 3 1 v' k ys) (hg : (W.alloc o).grownBy w1 v.ownBlock) :
    (w1.cell? ⟨gd, 0, none⟩ = some v ∧ w1.frozen? ⟨gd, 0, none⟩ = false) ∧ AT (w1.setCell ⟨gd, 0, none⟩ v') gd v' up ∧ (w1.setCell ⟨gd, 0, none⟩ v').ownsRow B 3 1 v' k ys := by
  have hk : w1.heap[gd]? = W.heap[gd]? := grown_keep hg h.lt (own_ne hown h.typ (by decide))
  have h1 := h.move hk
  refine ⟨⟨h1.arr.cell 0 (by omega), h1.arr.free 0 (by omega)⟩, h1.set v', ?_⟩
  exact own_move hown' (fun g hgx => Below.heap_setCell _ _ _ _ (fun e => own_ne hown' h1.typ (by decide) (by rw [hgx]; exact congrArg some e.symm)))
end

theorem cover_rows {bag : List Int} {es : List (List Int)} (h : ∀ i, i < bag.length → (coverL bag es).getD i [] ≠ []) : coverB bag es = true := by
  unfold coverB
  refine List.all_eq_true.2 (fun x hx => ?_)
  obtain ⟨k, hk, e⟩ := mem_getD' (d := 0) hx
  have h1 := h k hk
  rw [coverL_get bag es hk, e] at h1
  obtain ⟨i, hi⟩ := List.exists_mem_of_ne_nil _ h1
  obtain ⟨h2, h3⟩ := plN_mem.1 hi
  exact List.any_eq_true.2 ⟨es.getD i [], getD_mem' h2, h3⟩

theorem rowsD_succ {bag : List Int} {es : List (List Int)} {k : Nat} (hk : k < bag.length) : rowsD ((coverL bag es).take (k + 1)) = rowsD ((coverL bag es).take k) ++ [⟨plN (fun i => decide (bag.getD k 0 ∈ es.getD i [])) es.length, false, 1⟩] := by
  unfold rowsD
  rw [map_snoc_take _ _ [] (by rw [coverL_len]; exact hk), coverL_get bag es hk]
theorem unitsD_succ (k : Nat) : unitsD (k + 1) = unitsD k ++ [⟨[k], false, 0⟩] := by
  unfold unitsD
  rw [List.range_succ, List.map_append]; rfl
theorem capsD_hit {bag : List Int} {es : List (List Int)} {k : Nat} (hk : k < es.length) (h : plN (fun i => decide (bag.getD i 0 ∈ es.getD k [])) bag.length ≠ []) : capsD ((packL bag es).take (k + 1)) = capsD ((packL bag es).take k) ++ [⟨plN (fun i => decide (bag.getD i 0 ∈ es.getD k [])) bag.length, true, 1⟩] := by
  unfold capsD
  rw [List.take_add_one, List.getElem?_eq_getElem (by rw [packL_len]; exact hk), List.filter_append, List.map_append]
  have e : (packL bag es)[k]'(by rw [packL_len]; exact hk) = plN (fun i => decide (bag.getD i 0 ∈ es.getD k [])) bag.length := by
    rw [← packL_get bag es hk, List.getD_eq_getElem?_getD, List.getElem?_eq_getElem (by rw [packL_len]; exact hk)]; rfl
  simp only [Option.toList_some]
  rw [e]
  generalize plN (fun i => decide (bag.getD i 0 ∈ es.getD k [])) bag.length = q at h
  cases q with
  | nil => exact absurd rfl h
  | cons a q => rfl
theorem capsD_miss {bag : List Int} {es : List (List Int)} {k : Nat} (hk : k < es.length) (h : plN (fun i => decide (bag.getD i 0 ∈ es.getD k [])) bag.length = []) : capsD ((packL bag es).take (k + 1)) = capsD ((packL bag es).take k) := by
  unfold capsD
  rw [List.take_add_one, List.getElem?_eq_getElem (by rw [packL_len]; exact hk), List.filter_append, List.map_append]
  have e : (packL bag es)[k]'(by rw [packL_len]; exact hk) = plN (fun i => decide (bag.getD i 0 ∈ es.getD k [])) bag.length := by
    rw [← packL_get bag es hk, List.getD_eq_getElem?_getD, List.getElem?_eq_getElem (by rw [packL_len]; exact hk)]; rfl
  simp only [Option.toList_some]
  rw [e, h]
  simp

theorem zs_prs {n : Nat} {x : Nat → Rat} (h : ∀ i, i < n → x i = 0) : zs n = rcs (prs n x) := by
  rw [prs_congr (y := fun _ => 0) h]
  clear h
  induction n with
  | zero => rfl
  | succ n ih => rw [zs_succ, rcs_prs_succ, ih]; rfl

end Go.Proofs.Ytnmcgbfhgmmcpaa
