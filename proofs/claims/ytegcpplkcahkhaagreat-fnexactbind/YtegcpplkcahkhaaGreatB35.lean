import Derived.Deep.AppendLies
import Derived.Deep.Cut
import Derived.Deep.CutRange
import Derived.Deep.RegionHeld3
import Derived.Deep.RegionHeldLaw
import Derived.Deep.RegionLaw
import Derived.Laws.OwnMore
import Derived.Test.YtegcpplkcahkhaaGreatProg
import Derived.Test.YtegcpplkcahkhaaGreatB08
import Derived.Test.YtegcpplkcahkhaaGreatB34
/-
  spec.l2Find.
-/
namespace Go.Proofs.YtegcpplkcahkhaaGreat
open Go.RowKit

/-- the place of a row among sorted ones, and whether it stands there -/
def FndA (ls : List (List Int)) (row : List Int) (k : Nat) (there : Bool) : Prop :=
  k ≤ ls.length ∧ (∀ i, i < k → cmpL (ls.getD i []) row < 0) ∧ (k < ls.length → ¬ cmpL (ls.getD k []) row < 0) ∧ (there = true ↔ k < ls.length ∧ cmpL (ls.getD k []) row = 0)
/-- how spec.l2Find ends -/
def FndE (w : World) (ls : List (List Int)) (row : List Int) (e : Ending) (w' : World) : Prop := ∃ (k : Nat) (b : Bool), e = .returned (.tuple #[.int .i64 k, .bool b]) ∧ FndA ls row k b ∧ ∃ q, w' = w.drewN q

set_option maxHeartbeats 2000000 in
set_option maxRecDepth 1000000 in
theorem l2Find_calls (w : World) (vr v : Value) (ls : List (List Int)) (row : List Int) (h : ISS w vr ls) (hr : IS w v row) (hl : ls.length ≤ 1099511627776) (hs : ∀ j, j < ls.length → (ls.getD j []).length ≤ 1099511627776) (hl2 : row.length ≤ 1099511627776) :
    Calls Tryz.prog 49 #[vr, v] w (FndE w ls row) := by
  obtain ⟨a, cap, rfl, hc⟩ := h
  have HC : Hid (∀ d j, j < ls.length → ∃ b o u, a = some ⟨b, o, none⟩ ∧ (w.drewN d).cell? ⟨b, o + j, none⟩ = some u ∧ Calls Tryz.prog 76 #[u, v] (w.drewN d) fun e w' => e = .returned (.int .i64 (cmpL (ls.getD j []) row)) ∧ ∃ q, w' = w.drewN q) := hid fun d j hj => by
    rcases hc with h0 | ⟨b, o, rfl, hh⟩
    · omega
    · obtain ⟨u, h1, h2⟩ := hh j hj
      exact ⟨b, o, u, rfl, h1, (l2Compare_calls (w.drewN d) u v _ row h2 hr (hs j hj) hl2).mono fun e w' ⟨e1, q, e2⟩ => ⟨e1, d + q, by rw [e2]; unfold World.drewN; simp [Nat.add_assoc]⟩⟩
  have HF : Hid (∀ k b, k ≤ ls.length → (∀ i, i < k → cmpL (ls.getD i []) row < 0) → (k < ls.length → ¬ cmpL (ls.getD k []) row < 0) → (b = true ↔ k < ls.length ∧ cmpL (ls.getD k []) row = 0) → FndA ls row k b) := hid fun k b h1 h2 h3 h4 => ⟨h1, h2, h3, h4⟩
  obtain ⟨av, cv, ev, -⟩ := hr
  subst ev
  clear hc hs
  obtain ⟨n, hn⟩ : ∃ n, n = ls.length := ⟨_, rfl⟩
  rw [← hn] at HC HF hl ⊢
  clear hn
  generalize row.length = rl at *
  go_enter Tryz.func49, Tryz.ntmps49
  go_wp2_with fail
  go_loopw [6] (fun t wr => ∃ j : Nat, j ≤ n ∧ t = .int .i64 j ∧ Hid ((∀ i, i < j → cmpL (ls.getD i []) row < 0) ∧ ∃ d, wr = w.drewN d)) (fun t _ => n - (intOf t).toNat)
  case atStart => exact ⟨0, Nat.zero_le _, rfl, hid ⟨fun i hi => by omega, 0, rfl⟩⟩
  case round =>
    obtain ⟨j, hj, rfl, HH⟩ := hrel
    obtain ⟨hlt, d, rfl⟩ := HH.out
    by_cases hjn : j < n
    · have j1 : (j : Int) < (n : Int) := by omega
      obtain ⟨b, o, u, ea, c1, K⟩ := HC.out d j hjn
      subst ea
      have HK := hid K
      by_cases hneg : cmpL (ls.getD j []) row < 0
      · have nxt : Hid (∀ i, i < j + 1 → cmpL (ls.getD i []) row < 0) := hid fun i hi => by
          by_cases e : i = j
          · rw [e]; exact hneg
          · exact hlt i (by omega)
        clear K HC HF HH hlt
        generalize cmpL (ls.getD j []) row = z at *
        go_wp2_with (first | (go_at_call 76; refine HK.out.mono ?_; rintro e w2 ⟨rfl, d2, rfl⟩) | fail)
        go_roundw
        case rel => exact ⟨j + 1, by omega, by go_num, hid ⟨nxt.out, _, rfl⟩⟩
        case measure => simp [intOf]; omega
      · have HF2 : Hid (FndA ls row j (cmpL (ls.getD j []) row == 0)) := hid (HF.out j _ (by omega) hlt (fun _ => by omega) (by simp [hjn]))
        have HK2 : Hid (∀ d2, (w.drewN d2).cell? ⟨b, o + j, none⟩ = some u ∧ Calls Tryz.prog 76 #[u, .slice av rl cv] (w.drewN d2) fun e w' => e = .returned (.int .i64 (cmpL (ls.getD j []) row)) ∧ ∃ q, w' = w.drewN q) := hid fun d2 => by
          obtain ⟨b', o', u', e', c', K'⟩ := HC.out d2 j hjn
          simp only [Option.some.injEq, Addr.mk.injEq, and_true] at e'
          obtain ⟨rfl, rfl⟩ := e'
          have : u' = u := Option.some.inj (c'.symm.trans c1)
          subst this
          exact ⟨c', K'⟩
        clear K HC HF HH hlt
        generalize cmpL (ls.getD j []) row = z at *
        go_wp2_with (first | (go_at_call 76; refine HK.out.mono ?_; rintro e w2 ⟨rfl, d2, rfl⟩; have c2 := (HK2.out d2).1; clear HK) | (go_at_call 76; refine (HK2.out d2).2.mono ?_; rintro e w3 ⟨rfl, d3, rfl⟩) | fail)
        go_ret2
        exact ⟨_, _, rfl, HF2.out, _, rfl⟩
    · obtain rfl : j = n := by omega
      have j1 : ¬ ((j : Int) < (j : Int)) := by omega
      have HF2 : Hid (FndA ls row j false) := hid (HF.out j _ (Nat.le_refl _) hlt (fun h => absurd h hjn) (by simp))
      clear HC HF HH hlt
      go_wp2_with fail
      go_ret2
      exact ⟨_, _, rfl, HF2.out, _, rfl⟩

end Go.Proofs.YtegcpplkcahkhaaGreat

/-
  append of a part of a slice, which may be nothing.
-/
namespace Go.Proofs.YtegcpplkcahkhaaGreat

section
variable {P : Program} (w : World)
/-- what is appended: nothing, or cells that lie somewhere -/
def Part (w : World) (size : Nat) (vx : Value) (m : Nat) (news : List Value) : Prop :=
  (vx = .slice none 0 0 ∧ m = 0 ∧ news = []) ∨ ∃ ad c, vx = .slice (some ad) m c ∧ news.length = m * size ∧ ∀ j u, news[j]? = some u → w.cell? (ad.add j) = some u

theorem run_append_part (base : Nat) (t ty e : TypeId) (i : TypeInfo) (z : Value) (size bytes : Nat) (ht : P.underlying t = some (.slice e)) (hi : P.info? e = some i) (hz : i.zero = some z)
    (hsize : i.size = size) (hby : i.bytes = bytes) (hzs : z.cells.size = size) (hsz : 0 < size)
    (v : Value) (n : Nat) (xs : List Value) (hown : w.ownsRow base e size v n xs)
    (vx : Value) (m : Nat) (news : List Value) (hp : Part w size vx m news) (h1 : ∀ u ∈ news, u.oneCell' = true)
    (h63 : n + m ≤ maxLen) (hbytes : (n + m) * bytes ≤ 140737488355328) (hbase : base ≤ w.heap.size) :
    ∃ v' w', (Builtin.append_ #[t, t] ty #[v, vx]).run P w = .ok v' w' ∧ w'.ownsRow base e size v' (n + m) (xs ++ news) ∧ w.grownBy w' v.ownBlock := by
  rcases hp with ⟨rfl, rfl, rfl⟩ | ⟨ad, c, rfl, hl, hc⟩
  · exact ⟨v, w, run_append_owned_none w base t ty e i size ht hi v n xs hown, by simpa using hown, ⟨rfl, rfl, rfl, Nat.le_refl _, fun _ _ _ => rfl⟩⟩
  · obtain ⟨v', w', hr, h2, h3, _⟩ := run_append_own (P := P) w base t ty e i z size bytes ht hi hz hsize hby hzs hsz v n xs hown ad m c news hl hc h1 h63 hbytes hbase
    exact ⟨v', w', hr, h2, h3⟩

theorem wp_append_part {o : Oper} {a : Act} {K : Act → World → Prop} {Q : Exit → Act → World → Prop} (s x : Operand) (t : TypeId)
    (ho : o.op = .call { callee := .builtin .append, args := #[s, x], argTypes := #[t, t] })
    (base : Nat) (e : TypeId) (i : TypeInfo) (z : Value) (size bytes : Nat) (ht : P.underlying t = some (.slice e)) (hi : P.info? e = some i) (hz : i.zero = some z)
    (hsize : i.size = size) (hby : i.bytes = bytes) (hzs : z.cells.size = size) (hsz : 0 < size)
    (v : Value) (n : Nat) (xs : List Value) (hs : a.eval s = v) (hown : w.ownsRow base e size v n xs)
    (vx : Value) (m : Nat) (news : List Value) (hx : a.eval x = vx) (hp : Part w size vx m news) (h1 : ∀ u ∈ news, u.oneCell' = true)
    (h63 : n + m ≤ maxLen) (hbytes : (n + m) * bytes ≤ 140737488355328) (hbase : base ≤ w.heap.size)
    (h : ∀ v' w', w'.ownsRow base e size v' (n + m) (xs ++ news) → w.grownBy w' v.ownBlock → K (a.put o.dst v') w') : o.wp P a w K Q := by
  obtain ⟨v', w', hr, h2, h3⟩ := run_append_part (P := P) w base t o.type e i z size bytes ht hi hz hsize hby hzs hsz v n xs hown vx m news hp h1 h63 hbytes hbase
  unfold Oper.wp execOp
  simp only [ho, resolve, invoke, builtin, Sem.run_bind, Sem.run_pure, Result.andThen_ok, List.map_toArray, List.map_cons, List.map_nil, hs, hx, hr]
  exact h v' w' h2 h3

theorem wpList_append_part {ops : Array Oper} {rest : List Oper} {o : Oper} {a : Act} {Q : Exit → Act → World → Prop} (hgd : o.guard = none) (s x : Operand) (t : TypeId)
    (ho : o.op = .call { callee := .builtin .append, args := #[s, x], argTypes := #[t, t] })
    (base : Nat) (e : TypeId) (i : TypeInfo) (z : Value) (size bytes : Nat) (ht : P.underlying t = some (.slice e)) (hi : P.info? e = some i) (hz : i.zero = some z)
    (hsize : i.size = size) (hby : i.bytes = bytes) (hzs : z.cells.size = size) (hsz : 0 < size)
    (v : Value) (n : Nat) (xs : List Value) (hs : a.eval s = v) (hown : w.ownsRow base e size v n xs)
    (vx : Value) (m : Nat) (news : List Value) (hx : a.eval x = vx) (hp : Part w size vx m news) (h1 : ∀ u ∈ news, u.oneCell' = true)
    (h63 : n + m ≤ maxLen) (hbytes : (n + m) * bytes ≤ 140737488355328) (hbase : base ≤ w.heap.size)
    (h : ∀ v' w', w'.ownsRow base e size v' (n + m) (xs ++ news) → w.grownBy w' v.ownBlock → wpList P ops Q rest (a.put o.dst v') w') : wpList P ops Q (o :: rest) a w :=
  wpList_plain hgd fun _ hK => wp_append_part w s x t ho base e i z size bytes ht hi hz hsize hby hzs hsz v n xs hs hown vx m news hx hp h1 h63 hbytes hbase fun v' w' h2 h3 => hK _ _ (h v' w' h2 h3)

theorem step_append_part {ops : Array Oper} {o : Oper} {a : Act} {K : Act → World → Prop} {Q : Exit → Act → World → Prop} {E : Prop} (hgd : o.guard = none) (s x : Operand) (t : TypeId)
    (ho : o.op = .call { callee := .builtin .append, args := #[s, x], argTypes := #[t, t] })
    (base : Nat) (e : TypeId) (i : TypeInfo) (z : Value) (size bytes : Nat) (ht : P.underlying t = some (.slice e)) (hi : P.info? e = some i) (hz : i.zero = some z)
    (hsize : i.size = size) (hby : i.bytes = bytes) (hzs : z.cells.size = size) (hsz : 0 < size)
    (v : Value) (n : Nat) (xs : List Value) (hs : a.eval s = v) (hown : w.ownsRow base e size v n xs)
    (vx : Value) (m : Nat) (news : List Value) (hx : a.eval x = vx) (hp : Part w size vx m news) (h1 : ∀ u ∈ news, u.oneCell' = true)
    (h63 : n + m ≤ maxLen) (hbytes : (n + m) * bytes ≤ 140737488355328) (hbase : base ≤ w.heap.size)
    (h : ∀ v' w', w'.ownsRow base e size v' (n + m) (xs ++ news) → w.grownBy w' v.ownBlock → K (a.put o.dst v') w') :
    if Region.wanted o (yielded ops a.tmps) = true then Oper.wp P o a w K Q else E := by
  have hw : Region.wanted o (yielded ops a.tmps) = true := by simp [Region.wanted, hgd]
  rw [if_pos hw]
  exact wp_append_part w s x t ho base e i z size bytes ht hi hz hsize hby hzs hsz v n xs hs hown vx m news hx hp h1 h63 hbytes hbase h
end

end Go.Proofs.YtegcpplkcahkhaaGreat

/-
  spec.l2Put.
-/
namespace Go.Proofs.YtegcpplkcahkhaaGreat
open Go.RowKit

theorem Tryz.infoRw : (Tryz.prog.info? 57).map (fun i => (i.zero, i.size, i.bytes)) = some (some (.slice none 0 0), 1, 24) := by kernel_rfl
theorem Tryz.infoIw : (Tryz.prog.info? 3).map (fun i => (i.zero, i.size, i.bytes)) = some (some (.int .i64 0), 1, 8) := by kernel_rfl

/-- the place from which on the old rows follow -/
def afterK (k : Nat) (there : Bool) : Nat := if there then k + 1 else k
/-- a list with one element put in, or anew -/
def putL {α : Type} (l : List α) (k : Nat) (there : Bool) (x : α) : List α := (l.take k ++ [x]) ++ l.drop (afterK k there)

/-- what l2Put has made so far -/
structure Pt (w : World) (W : World) (v1 v2 : Value) (n1 n2 : Nat) (xs ys : List Value) : Prop where
  bel : Below w.heap.size w W
  own1 : W.ownsRow w.heap.size 57 1 v1 n1 xs
  own2 : W.ownsRow w.heap.size 3 1 v2 n2 ys
theorem Pt.drew {w W : World} {v1 v2 : Value} {n1 n2 : Nat} {xs ys : List Value} (h : Pt w W v1 v2 n1 n2 xs ys) : Pt w W.drew v1 v2 n1 n2 xs ys := ⟨h.bel.drew, h.own1, h.own2⟩
theorem own_apart {W : World} {B : Nat} {e1 e2 : TypeId} {v1 v2 : Value} {n1 n2 : Nat} {xs ys : List Value} (h1 : W.ownsRow B e1 1 v1 n1 xs) (h2 : W.ownsRow B e2 1 v2 n2 ys) (hne : e1 ≠ e2) : v1.ownBlock = none ∨ v1.ownBlock ≠ v2.ownBlock := by
  rcases h1.2 with ⟨rfl, -⟩ | ⟨g, cap, cur, rfl, -, hg, -⟩
  · exact Or.inl rfl
  · refine Or.inr fun e => ?_
    rcases h2.2 with ⟨rfl, -⟩ | ⟨g', cap', cur', rfl, -, hg', -⟩
    · cases e
    · simp only [Value.ownBlock, Option.some.injEq] at e
      subst e
      rw [hg] at hg'
      simp only [Option.some.injEq, Obj.cells.injEq] at hg'
      exact hne hg'.2.1
theorem Pt.one {w W W' : World} {v1 v2 v' : Value} {n1 n2 n' : Nat} {xs ys zs : List Value} (h : Pt w W v1 v2 n1 n2 xs ys) (ho : W'.ownsRow w.heap.size 57 1 v' n' zs) (hg : W.grownBy W' v1.ownBlock) : Pt w W' v' v2 n' n2 zs ys :=
  ⟨h.bel.grown hg h.bel.size (fun k e => (h.own1.lt k e).1), ho, h.own2.kept hg (own_apart h.own2 h.own1 (by decide))⟩
theorem Pt.two {w W W' : World} {v1 v2 v' : Value} {n1 n2 n' : Nat} {xs ys zs : List Value} (h : Pt w W v1 v2 n1 n2 xs ys) (ho : W'.ownsRow w.heap.size 3 1 v' n' zs) (hg : W.grownBy W' v2.ownBlock) : Pt w W' v1 v' n1 n' xs zs :=
  ⟨h.bel.grown hg h.bel.size (fun k e => (h.own2.lt k e).1), h.own1.kept hg (own_apart h.own1 h.own2 (by decide)), ho⟩
theorem part_of {w W : World} {g o m c : Nat} {news : List Value} (hb : Below w.heap.size w W) (hl : news.length = m) (h : ∀ j u, news[j]? = some u → w.cell? ⟨g, o + j, none⟩ = some u) : Part W 1 (.slice (some ⟨g, o, none⟩) m c) m news := by
  refine Or.inr ⟨_, _, rfl, by omega, fun j u hj => ?_⟩
  have e : (⟨g, o, none⟩ : Addr).add j = ⟨g, o + j, none⟩ := by unfold Addr.add; split <;> simp_all
  rw [e]
  have := h j u hj
  exact (hb.cell (p := ⟨g, o + j, none⟩) (World.block_lt_of_cell? w _ this)).trans this

/-- how spec.l2Put ends -/
def PutE (w : World) (us : List Value) (ls : List (List Int)) (ws row : List Int) (vr : Value) (wt : Int) (e : Ending) (w' : World) : Prop := ∃ k there v1 v2, FndA ls row k there ∧ e = .returned (.tuple #[v1, v2]) ∧ Pt w w' v1 v2 (putL us k there vr).length (putL us k there vr).length (putL us k there vr) ((putL ws k there wt).map (Value.int .i64))
theorem putL_len {α : Type} (l : List α) {k : Nat} (there : Bool) (x : α) (h : k ≤ l.length) : (putL l k there x).length = k + 1 + (l.length - afterK k there) := by
  unfold putL
  rw [List.length_append, List.length_append, List.length_take, List.length_drop, List.length_singleton]
  omega

set_option maxHeartbeats 8000000 in
set_option maxRecDepth 1000000 in
theorem l2Put_more (w : World) (g1 n c1 g2 c2 : Nat) (vr : Value) (us : List Value) (ls : List (List Int)) (ws row : List Int) (wt : Int)
    (hn : n = ls.length) (hun : us.length = ls.length) (hwn : ws.length = ls.length) (hc1 : n ≤ c1) (hc2 : n ≤ c2) (hln : n ≤ 2000)
    (hR : ISS w (.slice (some ⟨g1, 0, none⟩) n c1) ls) (hs : ∀ j, j < ls.length → (ls.getD j []).length ≤ 1099511627776) (hu : ∀ j u, us[j]? = some u → w.cell? ⟨g1, j, none⟩ = some u) (hu1 : ∀ u ∈ us, u.oneCell' = true)
    (hw : ∀ j u, (ws.map (Value.int .i64))[j]? = some u → w.cell? ⟨g2, j, none⟩ = some u) (hr : IS w vr row) (hr1 : vr.oneCell' = true) (hrl : row.length ≤ 1099511627776) :
    Calls Tryz.prog 25 #[.slice (some ⟨g1, 0, none⟩) n c1, .slice (some ⟨g2, 0, none⟩) n c2, vr, .int .i64 wt] w (PutE w us ls ws row vr wt) := by
  obtain ⟨i0, hi, hz0, hz1, hz2⟩ := info_parts Tryz.infoRw
  obtain ⟨i1, hi1, hy0, hy1, hy2⟩ := info_parts Tryz.infoIw
  have K := hid (l2Find_calls w _ vr ls row hR hr (by omega) hs hrl)
  obtain ⟨av, cv, rfl, -⟩ := hr
  have HU := hid hu
  have HU1 := hid hu1
  have HW := hid hw
  have HN := hid (And.intro hn (And.intro hun hwn))
  clear hR hu hu1 hw hs hn hun hwn
  generalize row.length = rl at *
  go_enter Tryz.func25, Tryz.ntmps25
  go_upto_region 2 with (first | (go_at_call 49; refine K.out.mono ?_; rintro e w1 ⟨k, there, rfl, hF, d, rfl⟩) | fail)
  have hk : k ≤ n := by rw [HN.out.1]; exact hF.1
  have HF := hid hF
  have hkn : (k : Int) ≤ (c1 : Int) := by omega
  have hkn2 : (k : Int) ≤ (c2 : Int) := by omega
  have HB0 : Hid (Below w.heap.size w (w.drewN d)) := hid (below_drewN (Below.refl _ _) d)
  generalize w.drewN d = W1 at HB0 ⊢
  clear hF K
  have hO1 : (W1.alloc (.cells #[] 57)).ownsRow w.heap.size 57 1 (.slice (some ⟨W1.heap.size, 0, none⟩) 0 0) 0 [] := World.ownsRow_made W1 #[] 0 HB0.out.size (by decide) rfl
  have hB2 : Below w.heap.size w (W1.alloc (.cells #[] 57)) := HB0.out.alloc HB0.out.size _
  have hP1 : Part (W1.alloc (.cells #[] 57)) 1 (.slice (some ⟨g1, 0, none⟩) k c1) k (us.take k) := part_of hB2 (by rw [List.length_take]; have := HN.out; omega) (fun j u hj => by
    rw [Nat.zero_add]
    rw [List.getElem?_take] at hj
    split at hj
    · exact HU.out j u hj
    · cases hj)
  have HO1 := hid (And.intro hO1 hP1)
  have HB2 := hid hB2
  clear hO1 hP1 hB2
  go_upto_region 3 with (first | (at_builtin; refine wpList_append_part _ rfl _ _ 58 rfl w.heap.size 57 i0 (.slice none 0 0) 1 24 Tryz.underlying58 hi hz0 hz1 hz2 rfl (by decide) _ 0 [] rfl HO1.out.1 _ k (us.take k) rfl HO1.out.2 (fun u hu' => HU1.out u (List.mem_of_mem_take hu')) (by unfold maxLen; omega) (by omega) HB2.out.size ?_; intro v3 w3 hown3 hgrow3) | fail)
  have HB3 : Hid (Below w.heap.size w w3) := hid (HB2.out.grown hgrow3 HB2.out.size (fun q e => (HO1.out.1.lt q e).1))
  have HV3 : Hid (w3.ownsRow w.heap.size 57 1 v3 k (us.take k)) := hid (by simpa using hown3)
  clear hown3 hgrow3 HO1 HB2 HB0
  have HP3 : Hid (Part (w3.alloc (.cells #[.slice av rl cv] 57)) 1 (.slice (some ⟨w3.heap.size, 0, none⟩) 1 1) 1 [.slice av rl cv]) := hid (Or.inr ⟨_, _, rfl, rfl, new1_cellS _ _ _⟩)
  go_upto_region 4 with (first | (at_builtin; refine wpList_append_part _ rfl _ _ 58 rfl w.heap.size 57 i0 (.slice none 0 0) 1 24 Tryz.underlying58 hi hz0 hz1 hz2 rfl (by decide) _ k (us.take k) rfl (HV3.out.alloc _) _ 1 [.slice av rl cv] rfl HP3.out (fun u hu' => by simp at hu'; subst hu'; rfl) (by unfold maxLen; omega) (by omega) (by have := HB3.out.size; simp; omega) ?_; intro v4 w4 hown4 hgrow4) | fail)
  have HB4 : Hid (Below w.heap.size w w4) := hid ((HB3.out.alloc HB3.out.size _).grown hgrow4 (by have := HB3.out.size; simp; omega) (fun q e => (HV3.out.lt q e).1))
  have HV4 := hid hown4
  clear hown4 hgrow4 HV3 HB3 HP3
  have hO5 : (w4.alloc (.cells #[] 3)).ownsRow w.heap.size 3 1 (.slice (some ⟨w4.heap.size, 0, none⟩) 0 0) 0 [] := World.ownsRow_made w4 #[] 0 HB4.out.size (by decide) rfl
  have HP5 : Hid (Pt w (w4.alloc (.cells #[] 3)) v4 (.slice (some ⟨w4.heap.size, 0, none⟩) 0 0) (k + 1) 0 (us.take k ++ [.slice av rl cv]) []) := hid ⟨HB4.out.alloc HB4.out.size _, HV4.out.alloc _, hO5⟩
  have HQ5 : Hid (Part (w4.alloc (.cells #[] 3)) 1 (.slice (some ⟨g2, 0, none⟩) k c2) k ((ws.take k).map (Value.int .i64))) := hid (part_of HP5.out.bel (by rw [List.length_map, List.length_take]; have := HN.out; omega) (fun j u hj => by
    rw [Nat.zero_add]
    rw [List.map_take, List.getElem?_take] at hj
    split at hj
    · exact HW.out j u hj
    · cases hj))
  clear hO5 HV4 HB4
  go_upto_region 5 with (first | (at_builtin; refine wpList_append_part _ rfl _ _ 57 rfl w.heap.size 3 i1 (.int .i64 0) 1 8 Tryz.underlying57 hi1 hy0 hy1 hy2 rfl (by decide) _ 0 [] rfl HP5.out.own2 _ k ((ws.take k).map (Value.int .i64)) rfl HQ5.out (fun u hu' => by rw [List.mem_map] at hu'; obtain ⟨y, -, rfl⟩ := hu'; rfl) (by unfold maxLen; omega) (by omega) HP5.out.bel.size ?_; intro v6 w6 hown6 hgrow6) | fail)
  have HP6 := hid (HP5.out.two hown6 hgrow6)
  clear hown6 hgrow6 HP5 HQ5
  have HQ6 : Hid (Part (w6.alloc (.cells #[.int .i64 wt] 3)) 1 (.slice (some ⟨w6.heap.size, 0, none⟩) 1 1) 1 [.int .i64 wt]) := hid (Or.inr ⟨_, _, rfl, rfl, new1_cellS _ _ _⟩)
  go_upto_region 6 with (first | (at_builtin; refine wpList_append_part _ rfl _ _ 57 rfl w.heap.size 3 i1 (.int .i64 0) 1 8 Tryz.underlying57 hi1 hy0 hy1 hy2 rfl (by decide) _ (0 + k) ([] ++ (ws.take k).map (Value.int .i64)) rfl (HP6.out.own2.alloc _) _ 1 [.int .i64 wt] rfl HQ6.out (fun u hu' => by simp at hu'; subst hu'; rfl) (by unfold maxLen; omega) (by omega) (by have := HP6.out.bel.size; simp; omega) ?_; intro v7 w7 hown7 hgrow7) | fail)
  have HP7 : Hid (Pt w w7 v4 v7 (k + 1) (k + 1) (us.take k ++ [.slice av rl cv]) ((ws.take k ++ [wt]).map (Value.int .i64))) := hid (by
    have h1 : Pt w (w6.alloc (.cells #[.int .i64 wt] 3)) v4 v6 (k + 1) (0 + k) (us.take k ++ [.slice av rl cv]) ([] ++ (ws.take k).map (Value.int .i64)) := ⟨HP6.out.bel.alloc HP6.out.bel.size _, HP6.out.own1.alloc _, HP6.out.own2.alloc _⟩
    have h2 := h1.two hown7 hgrow7
    simpa [Nat.zero_add, List.map_append] using h2)
  clear hown7 hgrow7 HP6 HQ6
  have HPd : Hid (Pt w w7.drew v4 v7 (k + 1) (k + 1) (us.take k ++ [.slice av rl cv]) ((ws.take k ++ [wt]).map (Value.int .i64))) := hid HP7.out.drew
  have HQr : Hid (∀ m, m ≤ n → ∀ W, Below w.heap.size w W → Part W 1 (.slice (if c1 = m then some ⟨g1, 0, none⟩ else some ⟨g1, m, none⟩) (n - m) (c1 - m)) (n - m) (us.drop m)) := hid fun m hm W hW => by
    have hnn := HN.out
    split
    · exact part_of hW (by rw [List.length_drop]; omega) (fun j u hj => by
        rw [List.getElem?_eq_none (by rw [List.length_drop]; omega)] at hj; cases hj)
    · exact part_of hW (by rw [List.length_drop]; omega) (fun j u hj => by
        rw [List.getElem?_drop] at hj
        exact HU.out _ u hj)
  have HQw : Hid (∀ m, m ≤ n → ∀ W, Below w.heap.size w W → Part W 1 (.slice (if c2 = m then some ⟨g2, 0, none⟩ else some ⟨g2, m, none⟩) (n - m) (c2 - m)) (n - m) ((ws.drop m).map (Value.int .i64))) := hid fun m hm W hW => by
    have hnn := HN.out
    split
    · exact part_of hW (by rw [List.length_map, List.length_drop]; omega) (fun j u hj => by
        rw [List.getElem?_eq_none (by rw [List.length_map, List.length_drop]; omega)] at hj; cases hj)
    · exact part_of hW (by rw [List.length_map, List.length_drop]; omega) (fun j u hj => by
        rw [List.map_drop, List.getElem?_drop] at hj
        exact HW.out _ u hj)
  have hone : ∀ u ∈ us, u.oneCell' = true := HU1.out
  have H1 := hid hone
  clear hone HU HU1 HW HP7
  cases hth : there
  · subst hth
    have hm : k ≤ n := hk
    have j1 : (k : Int) ≤ (n : Int) := by omega
    go_upto_region 8 with fail
    go_region_held_law (fun W => Below w.heap.size w W)
      (first | exact HP9.out.bel | exact HPr.out.bel | exact HPd.out.bel | exact HP9.out.bel.drew | exact HPr.out.bel.drew | exact HPd.out.bel.drew | fail)
      (first
      | (refine step_append_part _ (by rfl) _ _ 58 (by rfl) w.heap.size 57 i0 (.slice none 0 0) 1 24 Tryz.underlying58 hi hz0 hz1 hz2 rfl (by decide) _ (k + 1) (us.take k ++ [.slice av rl cv]) (by rfl) HPd.out.own1 _ (n - k) (us.drop k) (by rfl) (HQr.out k hm _ HPd.out.bel) (fun u hu' => H1.out u (List.mem_of_mem_drop hu')) (by unfold maxLen; omega) (by omega) HPd.out.bel.size ?_; intro v8 w8 hown8 hgrow8; have HPr := hid (HPd.out.one hown8 hgrow8))
      | (refine step_append_part _ (by rfl) _ _ 57 (by rfl) w.heap.size 3 i1 (.int .i64 0) 1 8 Tryz.underlying57 hi1 hy0 hy1 hy2 rfl (by decide) _ (k + 1) ((ws.take k ++ [wt]).map (Value.int .i64)) (by rfl) HPr.out.own2 _ (n - k) ((ws.drop k).map (Value.int .i64)) (by rfl) (HQw.out k hm _ HPr.out.bel) (fun u hu' => by rw [List.mem_map] at hu'; obtain ⟨y, -, rfl⟩ := hu'; rfl) (by unfold maxLen; omega) (by omega) HPr.out.bel.size ?_; intro v9 w9 hown9 hgrow9; have HP9 := hid (HPr.out.two hown9 hgrow9))
      | fail)
    all_goals go_wp2_with fail
    all_goals
      go_ret2
      refine ⟨k, false, v8, v9, HF.out, rfl, ?_⟩
      have hP := HP9.out
      have hL : (putL us k false (.slice av rl cv)).length = k + 1 + (n - k) := by rw [putL_len us false _ (by have := HN.out; omega)]; have := HN.out; unfold afterK; simp; omega
      rw [hL]
      rw [← List.map_append] at hP
      exact hP
  · subst hth
    obtain ⟨m, hmk⟩ : ∃ m, m = k + 1 := ⟨_, rfl⟩
    have hm : m ≤ n := by have h1 := (HF.out.2.2.2.1 rfl).1; have := HN.out; omega
    have he : (k : Int) + 1 = (m : Int) := by omega
    have j1 : (m : Int) ≤ (n : Int) := by omega
    have j2 : (m : Int) ≤ (c1 : Int) := by omega
    have j3 : (m : Int) ≤ (c2 : Int) := by omega
    have HMK := hid hmk
    clear hmk
    go_upto_region 8 with fail
    go_region_held_law (fun W => Below w.heap.size w W)
      (first | exact HP9.out.bel | exact HPr.out.bel | exact HPd.out.bel | exact HP9.out.bel.drew | exact HPr.out.bel.drew | exact HPd.out.bel.drew | fail)
      (first
      | (refine step_append_part _ (by rfl) _ _ 58 (by rfl) w.heap.size 57 i0 (.slice none 0 0) 1 24 Tryz.underlying58 hi hz0 hz1 hz2 rfl (by decide) _ (k + 1) (us.take k ++ [.slice av rl cv]) (by rfl) HPd.out.own1 _ (n - m) (us.drop m) (by rfl) (HQr.out m hm _ HPd.out.bel) (fun u hu' => H1.out u (List.mem_of_mem_drop hu')) (by unfold maxLen; omega) (by omega) HPd.out.bel.size ?_; intro v8 w8 hown8 hgrow8; have HPr := hid (HPd.out.one hown8 hgrow8))
      | (refine step_append_part _ (by rfl) _ _ 57 (by rfl) w.heap.size 3 i1 (.int .i64 0) 1 8 Tryz.underlying57 hi1 hy0 hy1 hy2 rfl (by decide) _ (k + 1) ((ws.take k ++ [wt]).map (Value.int .i64)) (by rfl) HPr.out.own2 _ (n - m) ((ws.drop m).map (Value.int .i64)) (by rfl) (HQw.out m hm _ HPr.out.bel) (fun u hu' => by rw [List.mem_map] at hu'; obtain ⟨y, -, rfl⟩ := hu'; rfl) (by unfold maxLen; omega) (by omega) HPr.out.bel.size ?_; intro v9 w9 hown9 hgrow9; have HP9 := hid (HPr.out.two hown9 hgrow9))
      | fail)
    all_goals go_wp2_with fail
    all_goals
      go_ret2
      refine ⟨k, true, v8, v9, HF.out, rfl, ?_⟩
      have hP := HP9.out
      rw [HMK.out] at hP
      have hL : (putL us k true (.slice av rl cv)).length = k + 1 + (n - (k + 1)) := by rw [putL_len us true _ (by have := HN.out; omega)]; have := HN.out; unfold afterK; simp; omega
      rw [hL]
      rw [← List.map_append] at hP
      exact hP

end Go.Proofs.YtegcpplkcahkhaaGreat

/-
  spec.l2Put: the first row.
-/
namespace Go.Proofs.YtegcpplkcahkhaaGreat
open Go.RowKit

set_option maxHeartbeats 8000000 in
set_option maxRecDepth 1000000 in
theorem l2Put_first (w : World) (vr : Value) (row : List Int) (wt : Int) (hr : IS w vr row) (hrl : row.length ≤ 1099511627776) :
    Calls Tryz.prog 25 #[.slice none 0 0, .slice none 0 0, vr, .int .i64 wt] w (PutE w [] [] [] row vr wt) := by
  obtain ⟨i0, hi, hz0, hz1, hz2⟩ := info_parts Tryz.infoRw
  obtain ⟨i1, hi1, hy0, hy1, hy2⟩ := info_parts Tryz.infoIw
  have K := hid (l2Find_calls w (.slice none 0 0) vr [] row ⟨none, 0, rfl, Or.inl rfl⟩ hr (by simp) (fun j hj => by simp at hj) hrl)
  obtain ⟨av, cv, rfl, -⟩ := hr
  generalize row.length = rl at *
  go_enter Tryz.func25, Tryz.ntmps25
  go_upto_region 2 with (first | (go_at_call 49; refine K.out.mono ?_; rintro e w1 ⟨k, there, rfl, hF, d, rfl⟩) | fail)
  have hk0 : k = 0 := by have := hF.1; simp at this; exact this
  subst hk0
  have hth : there = false := by
    cases there
    · rfl
    · have := (hF.2.2.2.1 rfl).1; simp at this
  subst hth
  have HF := hid hF
  have HB0 : Hid (Below w.heap.size w (w.drewN d)) := hid (below_drewN (Below.refl _ _) d)
  generalize w.drewN d = W1 at HB0 ⊢
  clear hF K
  have HB2 : Hid (Below w.heap.size w (W1.alloc (.cells #[] 57))) := hid (HB0.out.alloc HB0.out.size _)
  have HO1 : Hid ((W1.alloc (.cells #[] 57)).ownsRow w.heap.size 57 1 (.slice (some ⟨W1.heap.size, 0, none⟩) 0 0) 0 []) := hid (World.ownsRow_made W1 #[] 0 HB0.out.size (by decide) rfl)
  have HNo : Hid (∀ W, Part W 1 (.slice none 0 0) 0 []) := hid fun W => Or.inl ⟨rfl, rfl, rfl⟩
  go_upto_region 3 with (first | (at_builtin; refine wpList_append_part _ rfl _ _ 58 rfl w.heap.size 57 i0 (.slice none 0 0) 1 24 Tryz.underlying58 hi hz0 hz1 hz2 rfl (by decide) _ 0 [] rfl HO1.out _ 0 [] rfl (HNo.out _) (fun u hu' => by simp at hu') (by unfold maxLen; omega) (by omega) HB2.out.size ?_; intro v3 w3 hown3 hgrow3) | fail)
  have HB3 : Hid (Below w.heap.size w w3) := hid (HB2.out.grown hgrow3 HB2.out.size (fun q e => (HO1.out.lt q e).1))
  have HV3 : Hid (w3.ownsRow w.heap.size 57 1 v3 0 []) := hid (by simpa using hown3)
  clear hown3 hgrow3 HO1 HB2 HB0
  have HP3 : Hid (Part (w3.alloc (.cells #[.slice av rl cv] 57)) 1 (.slice (some ⟨w3.heap.size, 0, none⟩) 1 1) 1 [.slice av rl cv]) := hid (Or.inr ⟨_, _, rfl, rfl, new1_cellS _ _ _⟩)
  go_upto_region 4 with (first | (at_builtin; refine wpList_append_part _ rfl _ _ 58 rfl w.heap.size 57 i0 (.slice none 0 0) 1 24 Tryz.underlying58 hi hz0 hz1 hz2 rfl (by decide) _ 0 [] rfl (HV3.out.alloc _) _ 1 [.slice av rl cv] rfl HP3.out (fun u hu' => by simp at hu'; subst hu'; rfl) (by unfold maxLen; omega) (by omega) (by have := HB3.out.size; simp; omega) ?_; intro v4 w4 hown4 hgrow4) | fail)
  have HB4 : Hid (Below w.heap.size w w4) := hid ((HB3.out.alloc HB3.out.size _).grown hgrow4 (by have := HB3.out.size; simp; omega) (fun q e => (HV3.out.lt q e).1))
  have HV4 := hid hown4
  clear hown4 hgrow4 HV3 HB3 HP3
  have hO5 : (w4.alloc (.cells #[] 3)).ownsRow w.heap.size 3 1 (.slice (some ⟨w4.heap.size, 0, none⟩) 0 0) 0 [] := World.ownsRow_made w4 #[] 0 HB4.out.size (by decide) rfl
  have HP5 : Hid (Pt w (w4.alloc (.cells #[] 3)) v4 (.slice (some ⟨w4.heap.size, 0, none⟩) 0 0) 1 0 [.slice av rl cv] []) := hid ⟨HB4.out.alloc HB4.out.size _, by simpa using HV4.out.alloc _, hO5⟩
  clear hO5 HV4 HB4
  go_upto_region 5 with (first | (at_builtin; refine wpList_append_part _ rfl _ _ 57 rfl w.heap.size 3 i1 (.int .i64 0) 1 8 Tryz.underlying57 hi1 hy0 hy1 hy2 rfl (by decide) _ 0 [] rfl HP5.out.own2 _ 0 [] rfl (HNo.out _) (fun u hu' => by simp at hu') (by unfold maxLen; omega) (by omega) HP5.out.bel.size ?_; intro v6 w6 hown6 hgrow6) | fail)
  have HP6 := hid (HP5.out.two hown6 hgrow6)
  clear hown6 hgrow6 HP5
  have HQ6 : Hid (Part (w6.alloc (.cells #[.int .i64 wt] 3)) 1 (.slice (some ⟨w6.heap.size, 0, none⟩) 1 1) 1 [.int .i64 wt]) := hid (Or.inr ⟨_, _, rfl, rfl, new1_cellS _ _ _⟩)
  go_upto_region 6 with (first | (at_builtin; refine wpList_append_part _ rfl _ _ 57 rfl w.heap.size 3 i1 (.int .i64 0) 1 8 Tryz.underlying57 hi1 hy0 hy1 hy2 rfl (by decide) _ (0 + 0) ([] ++ []) rfl (HP6.out.own2.alloc _) _ 1 [.int .i64 wt] rfl HQ6.out (fun u hu' => by simp at hu'; subst hu'; rfl) (by unfold maxLen; omega) (by omega) (by have := HP6.out.bel.size; simp; omega) ?_; intro v7 w7 hown7 hgrow7) | fail)
  have HP7 : Hid (Pt w w7 v4 v7 1 1 [.slice av rl cv] [.int .i64 wt]) := hid (by
    have h1 : Pt w (w6.alloc (.cells #[.int .i64 wt] 3)) v4 v6 1 (0 + 0) [.slice av rl cv] ([] ++ []) := ⟨HP6.out.bel.alloc HP6.out.bel.size _, HP6.out.own1.alloc _, HP6.out.own2.alloc _⟩
    have h2 := h1.two hown7 hgrow7
    simpa using h2)
  clear hown7 hgrow7 HP6 HQ6
  have HPd : Hid (Pt w w7.drew v4 v7 1 1 [.slice av rl cv] [.int .i64 wt]) := hid HP7.out.drew
  clear HP7
  go_upto_region 8 with fail
  go_region_held_law (fun W => Below w.heap.size w W)
      (first | exact HP9.out.bel | exact HPr.out.bel | exact HPd.out.bel | exact HP9.out.bel.drew | exact HPr.out.bel.drew | exact HPd.out.bel.drew | fail)
      (first
      | (refine step_append_part _ (by rfl) _ _ 58 (by rfl) w.heap.size 57 i0 (.slice none 0 0) 1 24 Tryz.underlying58 hi hz0 hz1 hz2 rfl (by decide) _ 1 [.slice av rl cv] (by rfl) HPd.out.own1 _ 0 [] (by rfl) (HNo.out _) (fun u hu' => by simp at hu') (by unfold maxLen; omega) (by omega) HPd.out.bel.size ?_; intro v8 w8 hown8 hgrow8; have HPr := hid (HPd.out.one hown8 hgrow8))
      | (refine step_append_part _ (by rfl) _ _ 57 (by rfl) w.heap.size 3 i1 (.int .i64 0) 1 8 Tryz.underlying57 hi1 hy0 hy1 hy2 rfl (by decide) _ 1 [.int .i64 wt] (by rfl) HPr.out.own2 _ 0 [] (by rfl) (HNo.out _) (fun u hu' => by simp at hu') (by unfold maxLen; omega) (by omega) HPr.out.bel.size ?_; intro v9 w9 hown9 hgrow9; have HP9 := hid (HPr.out.two hown9 hgrow9))
      | fail)
  all_goals go_wp2_with fail
  all_goals
    rename_i dd hh
    simp only [List.getElem_toArray, List.getElem_cons_succ, List.getElem_cons_zero, Option.some.injEq] at hh
    subst hh
    go_ret2
    refine ⟨0, false, v8, v9, HF.out, rfl, ?_⟩
    exact HP9.out

end Go.Proofs.YtegcpplkcahkhaaGreat
