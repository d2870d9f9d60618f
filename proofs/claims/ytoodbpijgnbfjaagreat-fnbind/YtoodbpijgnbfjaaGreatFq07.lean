import Derived.BigQuiet
import Derived.Deep.AppendLies
import Derived.Deep.CutRange
import Derived.Deep.QuietTactic
import Derived.Deep.RegionLaw
import Derived.Deep.RegionWith
import Derived.Test.YtoodbpijgnbfjaaGreatFq00
import Derived.Test.YtoodbpijgnbfjaaGreatFq02
import Derived.Test.YtoodbpijgnbfjaaGreatFq05
import Derived.Test.YtoodbpijgnbfjaaGreatFq06
namespace Go.Proofs.YtoodbpijgnbfjaaGreat
open Go.RowKit

theorem Tryz.infoIS : (Tryz.prog.info? 33).map (fun i => (i.zero, i.size, i.bytes)) = some (some (.slice none 0 0), 1, 24) := by kernel_rfl

theorem own_typ {w : World} {B n s g : Nat} {e : TypeId} {v : Value} {xs : List Value} (h : w.ownsRow B e s v n xs) (hg : v.ownBlock = some g) : ∃ cur, w.heap[g]? = some (.cells cur e (0, 0)) := by
  rcases h.2 with ⟨rfl, _⟩ | ⟨g', cap, cur, rfl, _, hc, _⟩
  · simp [Value.ownBlock] at hg
  · simp only [Value.ownBlock, Option.some.injEq] at hg
    subst hg
    exact ⟨cur, hc⟩

theorem own_base {w : World} {B B' n s : Nat} {e : TypeId} {v : Value} {xs : List Value} (h : w.ownsRow B e s v n xs) (hB : B' ≤ B) : w.ownsRow B' e s v n xs := by
  obtain ⟨h1, h2⟩ := h
  refine ⟨h1, ?_⟩
  rcases h2 with h2 | ⟨g, cap, cur, hv, hg, hr⟩
  · exact Or.inl h2
  · exact Or.inr ⟨g, cap, cur, hv, Nat.le_trans hB hg, hr⟩

end Go.Proofs.YtoodbpijgnbfjaaGreat

namespace Go.Proofs.YtoodbpijgnbfjaaGreat
open Go.RowKit

def CapOK (v : Value) : Prop := ∃ a n c, v = .slice a n c ∧ n ≤ c
def ISc (w : World) (v : Value) (l : List Int) : Prop := IS w v l ∧ CapOK v
theorem ISc.below {w w' : World} {v : Value} {l : List Int} (h : ISc w v l) (hb : Below w.heap.size w w') : ISc w' v l := ⟨h.1.below hb, h.2⟩
theorem own_cap {w : World} {B n s : Nat} {e : TypeId} {v : Value} {xs : List Value} (h : w.ownsRow B e s v n xs) : CapOK v := by
  rcases h.2 with ⟨rfl, hn⟩ | ⟨g, cap, cur, rfl, -, -, hn, -⟩
  · exact ⟨_, _, _, rfl, Nat.le_refl _⟩
  · exact ⟨_, _, _, rfl, hn⟩
def ISSc (w : World) (v : Value) (ls : List (List Int)) : Prop := ∃ a cap, v = .slice a ls.length cap ∧ (ls.length = 0 ∨ ∃ b o, a = some ⟨b, o, none⟩ ∧ ∀ j, j < ls.length → ∃ u, w.cell? ⟨b, o + j, none⟩ = some u ∧ ISc w u (ls.getD j []))
theorem ISSc.iss {w : World} {v : Value} {ls : List (List Int)} (h : ISSc w v ls) : ISS w v ls := by
  obtain ⟨a, cap, rfl, h1⟩ := h
  refine ⟨a, cap, rfl, ?_⟩
  rcases h1 with h1 | ⟨b, o, rfl, h1⟩
  · exact Or.inl h1
  · exact Or.inr ⟨b, o, rfl, fun j hj => by obtain ⟨u, h2, h3⟩ := h1 j hj; exact ⟨u, h2, h3.1⟩⟩
structure RS (W0 W : World) (v : Value) (us : List Value) (ls : List (List Int)) : Prop where
  sl : ∃ a cap, v = .slice a ls.length cap ∧ ls.length ≤ cap ∧ (ls.length = 0 ∨ ∃ b o, a = some ⟨b, o, none⟩ ∧ ∀ j, j < ls.length → W.cell? ⟨b, o + j, none⟩ = some (us.getD j undef))
  len : us.length = ls.length
  each : ∀ i, i < ls.length → ISc W0 (us.getD i undef) (ls.getD i [])
theorem RS.issc {W0 W : World} {v : Value} {us : List Value} {ls : List (List Int)} (h : RS W0 W v us ls) (hb : Below W0.heap.size W0 W) : ISSc W v ls := by
  obtain ⟨⟨a, cap, rfl, hc, h1⟩, h2, h3⟩ := h
  refine ⟨a, cap, rfl, ?_⟩
  rcases h1 with h1 | ⟨b, o, rfl, h1⟩
  · exact Or.inl h1
  · exact Or.inr ⟨b, o, rfl, fun j hj => ⟨_, h1 j hj, (h3 j hj).below hb⟩⟩
theorem RS.iss {W0 W : World} {v : Value} {us : List Value} {ls : List (List Int)} (h : RS W0 W v us ls) (hb : Below W0.heap.size W0 W) : ISS W v ls := (h.issc hb).iss
theorem getD_take {α : Type} {l : List α} {n i : Nat} {d : α} (h : i < n) : (l.take n).getD i d = l.getD i d := by
  rw [List.getD_eq_getElem?_getD, List.getElem?_take_of_lt h, ← List.getD_eq_getElem?_getD]
theorem getD_drop {α : Type} {l : List α} {n i : Nat} {d : α} : (l.drop n).getD i d = l.getD (n + i) d := by
  rw [List.getD_eq_getElem?_getD, List.getElem?_drop, ← List.getD_eq_getElem?_getD]
end Go.Proofs.YtoodbpijgnbfjaaGreat

namespace Go.Proofs.YtoodbpijgnbfjaaGreat
open Go.RowKit

end Go.Proofs.YtoodbpijgnbfjaaGreat

namespace Go.Proofs.YtoodbpijgnbfjaaGreat
open Go.RowKit

def vlF : List Int → List Int → Int → Int
  | [], _, _ => 0
  | x :: vs, r, v => if x = v then r.getD 0 0 else vlF vs (r.drop 1) v
def prjR (vs vars row : List Int) : List Int := vars.map (vlF vs row)
theorem prjR_len (vs vars row : List Int) : (prjR vs vars row).length = vars.length := by simp [prjR]
end Go.Proofs.YtoodbpijgnbfjaaGreat

namespace Go.Proofs.YtoodbpijgnbfjaaGreat
open Go.RowKit

theorem kept_of {W w3 : World} {v : Value} {o : Obj} {b : Nat} (hg : (W.alloc o).grownBy w3 v.ownBlock) (hb : b < W.heap.size) (hne : some b ≠ v.ownBlock) : w3.heap[b]? = W.heap[b]? :=
  (hg.block b (by simp; omega) hne).trans (Below.heap_alloc _ _ _ hb)

structure RQ (W : World) (B : Nat) (v : Value) (us : List Value) (ls : List (List Int)) : Prop where
  own : W.ownsRow B 33 1 v ls.length us
  len : us.length = ls.length
  each : ∀ i, i < ls.length → W.ownsRow B 3 1 (us.getD i undef) (ls.getD i []).length ((ls.getD i []).map (Value.int .i64))
  ap : ∀ i j, i < j → j < ls.length → ∀ g, (us.getD i undef).ownBlock = some g → (us.getD j undef).ownBlock ≠ some g
section
variable {W W' w3 : World} {B B' : Nat} {v v' u : Value} {us : List Value} {ls : List (List Int)} {l : List Int} {o : Obj}
theorem RQ.below (h : RQ W B v us ls) (hb : Below W.heap.size W W') : RQ W' B v us ls := ⟨own_below h.own hb, h.len, fun i hi => own_below (h.each i hi) hb, h.ap⟩
theorem RQ.base (h : RQ W B v us ls) (hB : B' ≤ B) : RQ W B' v us ls := ⟨own_base h.own hB, h.len, fun i hi => own_base (h.each i hi) hB, h.ap⟩
theorem RQ.step (h : RQ W B v us ls) (hu : W.ownsRow B 3 1 u l.length (l.map (Value.int .i64))) (hn : ∀ i, i < ls.length → ∀ g, (us.getD i undef).ownBlock = some g → u.ownBlock ≠ some g)
    (hown : w3.ownsRow B 33 1 v' (ls.length + 1) (us ++ [u])) (hg : (W.alloc o).grownBy w3 v.ownBlock) : RQ w3 B v' (us ++ [u]) (ls ++ [l]) := by
  have hint : ∀ {x : Value} {k : Nat} {xs : List Value}, W.ownsRow B 3 1 x k xs → w3.ownsRow B 3 1 x k xs := fun hx =>
    own_move hx fun g hgx => kept_of hg (hx.lt g hgx).2 (own_ne h.own (own_typ hx hgx) (by decide))
  have hl := h.len
  have e1 : ∀ i, i < ls.length → (us ++ [u]).getD i undef = us.getD i undef := fun i hi => by rw [List.getD_eq_getElem?_getD, List.getElem?_append_left (by omega), ← List.getD_eq_getElem?_getD]
  have e2 : (us ++ [u]).getD ls.length undef = u := by rw [List.getD_eq_getElem?_getD, List.getElem?_append_right (by omega), show ls.length - us.length = 0 by omega]; rfl
  have f1 : ∀ i, i < ls.length → (ls ++ [l]).getD i [] = ls.getD i [] := fun i hi => by rw [List.getD_eq_getElem?_getD, List.getElem?_append_left hi, ← List.getD_eq_getElem?_getD]
  have f2 : (ls ++ [l]).getD ls.length [] = l := by rw [List.getD_eq_getElem?_getD, List.getElem?_append_right (Nat.le_refl _), Nat.sub_self]; rfl
  refine ⟨by rw [List.length_append]; exact hown, by simp [hl], fun i hi => ?_, fun i j hij hj g => ?_⟩
  · rw [List.length_append, List.length_singleton] at hi
    by_cases e : i < ls.length
    · rw [e1 i e, f1 i e]; exact hint (h.each i e)
    · obtain rfl : i = ls.length := by omega
      rw [e2, f2]; exact hint hu
  · rw [List.length_append, List.length_singleton] at hj
    rw [e1 i (by omega)]
    by_cases e : j < ls.length
    · rw [e1 j e]; exact h.ap i j hij e g
    · obtain rfl : j = ls.length := by omega
      rw [e2]; exact hn i (by omega) g
theorem RQ.get (h : RQ W B v us ls) {i : Nat} (hi : i < ls.length) : ∃ g cap, v = .slice (some ⟨g, 0, none⟩) ls.length cap ∧ ls.length ≤ cap ∧ W.cell? ⟨g, i, none⟩ = some (us.getD i undef) := by
  rcases h.own.2 with ⟨-, h2⟩ | ⟨g, cap, cur, rfl, hb', hc, hn, -, -, ht⟩
  · omega
  · refine ⟨g, cap, rfl, hn, ?_⟩
    have hlen := h.len
    rw [cell_of_row _ _ _ _ _ _ hc, List.getD_eq_getElem?_getD, List.getElem?_eq_getElem (by omega), Option.getD_some, ← List.getElem?_eq_getElem (by omega : i < us.length), ← ht, List.getElem?_take_of_lt (by omega), Array.getElem?_toList]
theorem RQ.rs (h : RQ W B v us ls) : RS W W v us ls := by
  refine ⟨?_, h.len, fun i hi => ⟨own_is (h.each i hi), own_cap (h.each i hi)⟩⟩
  rcases h.own.2 with ⟨rfl, hn⟩ | ⟨g, cap, cur, rfl, hb', hc, hn, -⟩
  · exact ⟨none, 0, by rw [hn], by omega, Or.inl hn⟩
  · refine ⟨_, cap, rfl, hn, Or.inr ⟨g, 0, rfl, fun j hj => ?_⟩⟩
    obtain ⟨g', cap', e, -, hc'⟩ := h.get hj
    simp only [Value.slice.injEq, Option.some.injEq, Addr.mk.injEq] at e
    obtain ⟨⟨rfl, -⟩, -⟩ := e
    rw [Nat.zero_add]; exact hc'
end

def atP (row places : List Int) : List Int := places.map fun p => row.getD p.toNat 0
theorem atP_len (row places : List Int) : (atP row places).length = places.length := by simp [atP]

set_option maxHeartbeats 2000000 in
set_option maxRecDepth 1000000 in
theorem valuesAt_calls (w : World) (vr vp : Value) (row places : List Int) (hr : IS w vr row) (hp : IS w vp places) (hlp : places.length ≤ 1000) (hin : ∀ p ∈ places, 0 ≤ p ∧ p < row.length) :
    Calls Tryz.prog 50 #[vr, vp] w fun e w' => ∃ v, e = .returned v ∧ w'.ownsRow w.heap.size 3 1 v (atP row places).length ((atP row places).map (Value.int .i64)) ∧ Below w.heap.size w w' := by
  obtain ⟨i0, hi, hz0, hz1, hz2⟩ := info_parts Tryz.infoInt
  obtain ⟨ar, capr, rfl, hcr⟩ := hr
  obtain ⟨ap, capp, rfl, hcp⟩ := hp
  have HC : Hid (∀ W, Below w.heap.size w W → ∀ j, j < places.length → ∃ (b o q br oo : Nat), ap = some ⟨b, o, none⟩ ∧ ar = some ⟨br, oo, none⟩ ∧ q < row.length ∧ W.cell? ⟨b, o + j, none⟩ = some (.int .i64 (q : Int)) ∧ W.cell? ⟨br, oo + q, none⟩ = some (.int .i64 (row.getD q 0)) ∧ places.getD j 0 = (q : Int)) := hid fun W hW j hj => by
    have hm : places.getD j 0 ∈ places := by rw [List.getD_eq_getElem?_getD, List.getElem?_eq_getElem hj]; exact List.getElem_mem _
    obtain ⟨h0, h1⟩ := hin _ hm
    have e : places.getD j 0 = ((places.getD j 0).toNat : Int) := by omega
    rcases hcp with h2 | ⟨b, o, rfl, h2⟩
    · omega
    · rcases hcr with h3 | ⟨br, oo, rfl, h3⟩
      · omega
      · refine ⟨b, o, (places.getD j 0).toNat, br, oo, rfl, rfl, by omega, ?_, ?_, e⟩
        · rw [← e]; exact (hW.cell (World.block_lt_of_cell? w _ (h2 j hj))).trans (h2 j hj)
        · exact (hW.cell (World.block_lt_of_cell? w _ (h3 _ (by omega)))).trans (h3 _ (by omega))
  have HP : Hid (∀ j q, j < places.length → places.getD j 0 = ((q : Nat) : Int) → (atP row (places.take (j + 1))).map (Value.int .i64) = (atP row (places.take j)).map (Value.int .i64) ++ [.int .i64 (row.getD q 0)]) := hid fun j q hj e => by
    unfold atP
    rw [List.take_add_one, List.getElem?_eq_getElem hj, List.map_append, List.map_append]
    rw [List.getD_eq_getElem?_getD, List.getElem?_eq_getElem hj] at e
    simp only [Option.getD_some] at e
    simp [e]
  have HP0 : Hid ((atP row (places.take 0)).map (Value.int .i64) = []) := hid rfl
  have HPn : Hid (atP row (places.take places.length) = atP row places) := hid (by rw [List.take_length])
  rw [atP_len]
  clear hcr hcp hin
  obtain ⟨n, hn⟩ : ∃ n, n = places.length := ⟨_, rfl⟩
  obtain ⟨nr, hnr⟩ : ∃ nr, nr = row.length := ⟨_, rfl⟩
  rw [← hn] at HC HP HPn hlp ⊢
  rw [← hnr] at HC ⊢
  clear hn hnr
  go_enter Tryz.func50, Tryz.ntmps50
  go_wp2_with (at_make; refine wpList_make_own _ rfl _ _ 33 rfl w.heap.size 3 i0 (.int .i64 0) 1 Tryz.underlying33 hi hz0 hz1 _ _ _ n rfl rfl rfl ?b2 ?b3 (Nat.le_refl _) ?_)
  case b2 => rw [hz2]; omega
  case b3 => unfold maxLen; omega
  intro w0 hown0 hgrow0
  have HS0 : Hid (w0.ownsRow w.heap.size 3 1 (.slice (some ⟨w.heap.size, 0, none⟩) 0 n) 0 [] ∧ Below w.heap.size w w0) := hid ⟨hown0, (Below.refl _ _).grown hgrow0 (Nat.le_refl _) (fun j hj => by cases hj)⟩
  clear hgrow0 hown0
  go_wp2_with fail
  go_loopw [5, 13] (fun u t wr => ∃ (j : Nat) (vo : Value), j ≤ n ∧ t = .int .i64 j ∧ vo = u ∧ Hid (wr.ownsRow w.heap.size 3 1 vo j ((atP row (places.take j)).map (Value.int .i64)) ∧ Below w.heap.size w wr)) (fun _ t _ => n - (intOf t).toNat)
  case atStart => exact ⟨0, _, Nat.zero_le _, rfl, rfl, hid ⟨by rw [HP0.out]; exact HS0.out.1, HS0.out.2⟩⟩
  case round =>
    clear HS0 HP0
    obtain ⟨j, vo, hj, rfl, rfl, HT⟩ := hrel
    by_cases hjn : j < n
    · have i1 : (j : Int) < (n : Int) := by omega
      obtain ⟨b, o, q, br, oo, ea, eb, hq, e1, e2, e3⟩ := HC.out wr HT.out.2 j hjn
      subst ea eb
      have i2 : (q : Int) < (nr : Int) := by omega
      have HPj := hid (HP.out j q hjn e3)
      have hs3 := HT.out.2.size
      clear e3
      generalize row.getD q 0 = y at *
      go_wp2_with (first | (at_builtin; refine wpList_append_lies _ rfl _ _ 33 rfl w.heap.size 3 i0 (.int .i64 0) 1 8 Tryz.underlying33 hi hz0 hz1 hz2 rfl (by decide) vo _ _ rfl (HT.out.1.alloc _) ⟨_, 0, none⟩ 1 1 [.int .i64 y] rfl rfl (new1_cell _ _ _) (fun u hu => by simp at hu; subst hu; rfl) (by decide) (by unfold maxLen; omega) (by omega) (by simp; omega) _ rfl ?_; intro g3 cp3 w4 hown4 hgrow4 hat4 hlt4) | fail)
      go_roundw
      case rel => exact ⟨j + 1, _, by omega, by go_num, rfl, hid ⟨by rw [HPj.out]; exact hown4, (HT.out.2.alloc hs3 _).grown hgrow4 (by simp; omega) (fun q hq => (HT.out.1.lt q hq).1)⟩⟩
      case measure => simp [intOf]; omega
    · obtain rfl : j = n := by omega
      have i1 : ¬ ((j : Int) < (j : Int)) := by omega
      go_wp2_with fail
      go_ret
      have h2 := HT.out.1
      rw [HPn.out] at h2
      exact ⟨_, rfl, h2, HT.out.2⟩

end Go.Proofs.YtoodbpijgnbfjaaGreat

namespace Go.Proofs.YtoodbpijgnbfjaaGreat
open Go.RowKit

def ApW (u v : Value) : Prop := ∀ g, u.ownBlock = some g → v.ownBlock ≠ some g
theorem own_shapeW {w : World} {B n s : Nat} {e : TypeId} {v : Value} {xs : List Value} (h : w.ownsRow B e s v n xs) : ∃ a cap, v = .slice a n cap := by
  rcases h.2 with ⟨rfl, h2⟩ | ⟨g, cap, cur, rfl, -⟩
  · exact ⟨none, 0, by rw [h2]⟩
  · exact ⟨_, cap, rfl⟩

structure TW (W : World) (B : Nat) (v0 v1 v2 : Value) (us : List Value) (vs : List Int) (rows : List (List Int)) (ws : List Int) : Prop where
  o0 : W.ownsRow B 3 1 v0 vs.length (vs.map (Value.int .i64))
  rq : RQ W B v1 us rows
  o2 : W.ownsRow B 3 1 v2 ws.length (ws.map (Value.int .i64))
  a02 : ApW v0 v2
  a0 : ∀ i, i < rows.length → ApW (us.getD i undef) v0
  a2 : ∀ i, i < rows.length → ApW (us.getD i undef) v2
theorem TW.below {W W' : World} {B : Nat} {v0 v1 v2 : Value} {us : List Value} {vs ws : List Int} {rows : List (List Int)} (h : TW W B v0 v1 v2 us vs rows ws) (hb : Below W.heap.size W W') : TW W' B v0 v1 v2 us vs rows ws :=
  ⟨own_below h.o0 hb, h.rq.below hb, own_below h.o2 hb, h.a02, h.a0, h.a2⟩
theorem TW.base {W : World} {B B' : Nat} {v0 v1 v2 : Value} {us : List Value} {vs ws : List Int} {rows : List (List Int)} (h : TW W B v0 v1 v2 us vs rows ws) (hB : B' ≤ B) : TW W B' v0 v1 v2 us vs rows ws :=
  ⟨own_base h.o0 hB, h.rq.base hB, own_base h.o2 hB, h.a02, h.a0, h.a2⟩

structure TbR where
  v0 : Value
  v1 : Value
  v2 : Value
  us : List Value
  vs : List Int
  rows : List (List Int)
  ws : List Int
def noTb : TbR := ⟨undef, undef, undef, [], [], [], []⟩
def tcs (t : TbR) : List Value := [t.v0, t.v1, t.v2]
def bls (t : TbR) : List Value := t.v0 :: t.v2 :: t.us
def TWr (W : World) (B : Nat) (t : TbR) : Prop := TW W B t.v0 t.v1 t.v2 t.us t.vs t.rows t.ws

theorem TWr.lt {W : World} {B : Nat} {t : TbR} (h : TWr W B t) {x : Value} (hx : x ∈ bls t) {g : Nat} (hg : x.ownBlock = some g) : B ≤ g ∧ g < W.heap.size := by
  rcases List.mem_cons.1 hx with rfl | hx
  · exact h.o0.lt g hg
  · rcases List.mem_cons.1 hx with rfl | hx
    · exact h.o2.lt g hg
    · obtain ⟨i, hi, rfl⟩ := List.getElem_of_mem hx
      have hi' : i < t.rows.length := by rw [← h.rq.len]; exact hi
      have := (h.rq.each i hi').lt g (by rw [List.getD_eq_getElem?_getD, List.getElem?_eq_getElem hi]; exact hg)
      exact this

structure TBs (W : World) (B : Nat) (v : Value) (tl : List TbR) : Prop where
  own : W.ownsRow B 71 3 v tl.length (tl.flatMap tcs)
  each : ∀ t ∈ tl, TWr W B t
  ap : tl.Pairwise fun s t => ∀ x ∈ bls s, ∀ y ∈ bls t, ApW x y
theorem TBs.below {W W' : World} {B : Nat} {v : Value} {tl : List TbR} (h : TBs W B v tl) (hb : Below W.heap.size W W') : TBs W' B v tl :=
  ⟨own_below h.own hb, fun t ht => TW.below (h.each t ht) hb, h.ap⟩
theorem TBs.base {W : World} {B B' : Nat} {v : Value} {tl : List TbR} (h : TBs W B v tl) (hB : B' ≤ B) : TBs W B' v tl :=
  ⟨own_base h.own hB, fun t ht => TW.base (h.each t ht) hB, h.ap⟩
theorem TW.grownT {W w3 : World} {B B' n : Nat} {v : Value} {xs : List Value} {o : Obj} {t : TbR} (h : TWr W B t) (ho : W.ownsRow B' 71 3 v n xs) (hg : (W.alloc o).grownBy w3 v.ownBlock) : TWr w3 B t := by
  have hint : ∀ {x : Value} {k B' : Nat} {xs : List Value}, W.ownsRow B' 3 1 x k xs → w3.ownsRow B' 3 1 x k xs := fun hx =>
    own_move hx fun g hgx => kept_of hg (hx.lt g hgx).2 (own_ne ho (own_typ hx hgx) (by decide))
  have hsl : ∀ {x : Value} {k B' : Nat} {xs : List Value}, W.ownsRow B' 33 1 x k xs → w3.ownsRow B' 33 1 x k xs := fun hx =>
    own_move hx fun g hgx => kept_of hg (hx.lt g hgx).2 (own_ne ho (own_typ hx hgx) (by decide))
  exact ⟨hint h.o0, ⟨hsl h.rq.own, h.rq.len, fun i hi => hint (h.rq.each i hi), h.rq.ap⟩, hint h.o2, h.a02, h.a0, h.a2⟩
theorem TBs.row {W0 : World} {B : Nat} {v : Value} {tl : List TbR} (h : TBs W0 B v tl) (hB : B ≤ W0.heap.size) : ∀ (W : World) (t : TbR) (o : Obj) (w3 : World) (v' : Value), Below W0.heap.size W0 W → TWr W W0.heap.size t → (W.alloc o).grownBy w3 v.ownBlock → w3.ownsRow B 71 3 v' (tl.length + 1) (tl.flatMap tcs ++ [t.v0, t.v1, t.v2]) → TBs w3 B v' (tl ++ [t]) := by
  intro W t o w3 v' hb ht hg hown
  have ho := own_below h.own hb
  refine ⟨?_, fun s hs => ?_, ?_⟩
  · rw [List.length_append, List.flatMap_append]; exact hown
  · rcases List.mem_append.1 hs with hs | hs
    · exact TW.grownT (TW.below (h.each s hs) hb) ho hg
    · rw [List.mem_singleton.1 hs]; exact TW.base (TW.grownT ht ho hg) hB
  · refine List.pairwise_append.2 ⟨h.ap, List.pairwise_singleton _ _, fun s hs t' ht' x hx y hy g h1 h2 => ?_⟩
    rw [List.mem_singleton.1 ht'] at hy
    have h3 := ((h.each s hs).lt hx h1).2
    have h4 := (ht.lt hy h2).1
    omega

theorem new3_cellT (w : World) (x y z : Value) (t : TypeId) : ∀ j u, [x, y, z][j]? = some u → (w.alloc (.cells #[x, y, z] t)).cell? ((⟨w.heap.size, 0, none⟩ : Addr).add j) = some u := by
  intro j u hj
  have e : (⟨w.heap.size, 0, none⟩ : Addr).add j = ⟨w.heap.size, j, none⟩ := by unfold Addr.add; by_cases h0 : j = 0 <;> simp [h0]
  rw [e, World.cell?_alloc_at _ _ _ _ rfl]
  match j, hj with
  | 0, hj => simpa using hj
  | 1, hj => simpa using hj
  | 2, hj => simpa using hj
  | j + 3, hj => simp at hj
theorem Tryz.infoTb : (Tryz.prog.info? 71).map (fun i => (i.zero, i.size, i.bytes)) = some (some (.agg #[.slice none 0 0, .slice none 0 0, .slice none 0 0]), 3, 72) := by kernel_rfl
theorem tl_last {tl : List TbR} {t : TbR} {j : Nat} (hj : j < (tl ++ [t]).length) (P : Nat → TbR → Prop) (h : ∀ j, j < tl.length → P j (tl.getD j noTb)) (ht : P tl.length t) : P j ((tl ++ [t]).getD j noTb) := by
  rw [List.length_append, List.length_singleton] at hj
  by_cases e : j < tl.length
  · rw [List.getD_eq_getElem?_getD, List.getElem?_append_left e, ← List.getD_eq_getElem?_getD]; exact h j e
  · obtain rfl : j = tl.length := by omega
    rw [List.getD_eq_getElem?_getD, List.getElem?_append_right (Nat.le_refl _), Nat.sub_self]; exact ht

def tvB (t : TbR) : TbV := ⟨t.vs, t.rows, t.ws⟩
theorem TBs.its {W : World} {B : Nat} {v : Value} {tl : List TbR} (h : TBs W B v tl) : ITs W v (tl.map tvB) := by
  obtain ⟨a, cap, e, hc⟩ := own3 tcs (fun _ => rfl) noTb h.own
  refine ⟨a, cap, by rw [List.length_map]; exact e, ?_⟩
  rcases hc with h0 | ⟨g, ea, -, hc⟩
  · exact Or.inl (by rw [List.length_map]; exact h0)
  · refine Or.inr ⟨g, 0, ea, fun j hj => ?_⟩
    rw [List.length_map] at hj
    have ht : TWr W B (tl.getD j noTb) := h.each _ (by rw [List.getD_eq_getElem?_getD, List.getElem?_eq_getElem hj]; exact List.getElem_mem _)
    have eg : (tl.map tvB).getD j noTv = tvB (tl.getD j noTb) := by
      rw [List.getD_eq_getElem?_getD, List.getD_eq_getElem?_getD, List.getElem?_map, List.getElem?_eq_getElem hj]; rfl
    rw [eg, Nat.zero_add]
    exact ⟨_, _, _, hc j 0 hj (by omega), hc j 1 hj (by omega), hc j 2 hj (by omega), own_is ht.o0, ht.rq.rs.iss (Below.refl _ _), own_is ht.o2⟩
end Go.Proofs.YtoodbpijgnbfjaaGreat

namespace Go.Proofs.YtoodbpijgnbfjaaGreat
open Go.RowKit

end Go.Proofs.YtoodbpijgnbfjaaGreat

namespace Go.Proofs.YtoodbpijgnbfjaaGreat
open Go.RowKit

theorem own_shapeR {w : World} {B n s : Nat} {e : TypeId} {v : Value} {xs : List Value} (h : w.ownsRow B e s v n xs) : ∃ a cap, v = .slice a n cap := by
  rcases h.2 with ⟨rfl, hn⟩ | ⟨g, cap, cur, rfl, _⟩
  · exact ⟨none, 0, by rw [hn]⟩
  · exact ⟨_, cap, rfl⟩
structure RX (W : World) (p : Nat) (v0 v1 v2 v3 : Value) : Prop where
  blk : W.heap[p]? = some (.cells #[v0, v1, v2, v3] 53 (0, 0))
section
variable {W W' w3 : World} {p : Nat} {v0 v1 v2 v3 : Value}
theorem RX.lt (h : RX W p v0 v1 v2 v3) : p < W.heap.size := by
  rcases Nat.lt_or_ge p W.heap.size with h1 | h1
  · exact h1
  · have := h.blk; rw [Array.getElem?_eq_none h1] at this; cases this
theorem RX.below (h : RX W p v0 v1 v2 v3) (hb : Below W.heap.size W W') : RX W' p v0 v1 v2 v3 := ⟨(hb.block p h.lt).trans h.blk⟩
theorem RX.c0 (h : RX W p v0 v1 v2 v3) : W.cell? ⟨p, 0, none⟩ = some v0 := by rw [cell_of_row _ _ _ _ _ _ h.blk]; rfl
theorem RX.c1 (h : RX W p v0 v1 v2 v3) : W.cell? ⟨p, 1, none⟩ = some v1 := by rw [cell_of_row _ _ _ _ _ _ h.blk]; rfl
theorem RX.c2 (h : RX W p v0 v1 v2 v3) : W.cell? ⟨p, 2, none⟩ = some v2 := by rw [cell_of_row _ _ _ _ _ _ h.blk]; rfl
theorem RX.c3 (h : RX W p v0 v1 v2 v3) : W.cell? ⟨p, 3, none⟩ = some v3 := by rw [cell_of_row _ _ _ _ _ _ h.blk]; rfl
theorem RX.free (h : RX W p v0 v1 v2 v3) (j : Nat) : W.frozen? ⟨p, j, none⟩ = false := by unfold World.frozen?; rw [h.blk]; simp
theorem RX.made (W : World) (v0 v1 v2 v3 : Value) : RX (W.alloc (.cells #[v0, v1, v2, v3] 53)) W.heap.size v0 v1 v2 v3 := ⟨heap_alloc_new _ _⟩
theorem RX.set2 (h : RX W p v0 v1 v2 v3) (y : Value) : RX (W.setCell ⟨p, 2, none⟩ y) p v0 v1 y v3 := ⟨by rw [heap_setCell_same _ _ _ _ _ _ h.blk]; rfl⟩
theorem RX.set3 (h : RX W p v0 v1 v2 v3) (y : Value) : RX (W.setCell ⟨p, 3, none⟩ y) p v0 v1 v2 y := ⟨by rw [heap_setCell_same _ _ _ _ _ _ h.blk]; rfl⟩
end

section
variable {W W' w3 : World} {B q p n : Nat} {nm : ByteArray} {ar : Int} {v2 v3 vS v' u : Value} {us cs : List Value} {ws l : List Int} {rows : List (List Int)} {o : Obj} {x : Int}
end

end Go.Proofs.YtoodbpijgnbfjaaGreat

namespace Go.Proofs.YtoodbpijgnbfjaaGreat
open Go.RowKit

end Go.Proofs.YtoodbpijgnbfjaaGreat

namespace Go.Proofs.YtoodbpijgnbfjaaGreat
open Go.RowKit

structure TR (W : World) (B : Nat) (D : List Int → Prop) (N0 N1 : List Int → List Int) (f : List Int → Nat) (g0 g1 : List Int → Value) : Prop where
  blk : ∀ p, D p → W.heap[f p]? = some (.cells #[g0 p, g1 p] 144 (0, 0))
  low : ∀ p, D p → B ≤ f p
  o0 : ∀ p, D p → W.ownsRow B 3 1 (g0 p) (N0 p).length ((N0 p).map (Value.int .i64))
  o1 : ∀ p, D p → W.ownsRow B 96 1 (g1 p) (N1 p).length ((N1 p).map fun x => .pointer (some ⟨f (p ++ [x]), 0, none⟩))
  inj : ∀ p q, D p → D q → f p = f q → p = q
  a0 : ∀ p q, D p → D q → p ≠ q → ∀ g, (g0 p).ownBlock = some g → (g0 q).ownBlock ≠ some g
  a1 : ∀ p q, D p → D q → p ≠ q → ∀ g, (g1 p).ownBlock = some g → (g1 q).ownBlock ≠ some g

section
variable {W W' w1 : World} {B : Nat} {D : List Int → Prop} {N0 N1 : List Int → List Int} {f : List Int → Nat} {g0 g1 : List Int → Value} {p0 : List Int} {x : Int} {v' : Value} {o : Obj}
theorem TR.lt (h : TR W B D N0 N1 f g0 g1) {p : List Int} (hp : D p) : f p < W.heap.size := by
  rcases Nat.lt_or_ge (f p) W.heap.size with h1 | h1
  · exact h1
  · have := h.blk p hp; rw [Array.getElem?_eq_none h1] at this; cases this
theorem TR.typ (h : TR W B D N0 N1 f g0 g1) {p : List Int} (hp : D p) : ∃ cur, W.heap[f p]? = some (.cells cur 144 (0, 0)) := ⟨_, h.blk p hp⟩
theorem TR.below (h : TR W B D N0 N1 f g0 g1) (hb : Below W.heap.size W W') : TR W' B D N0 N1 f g0 g1 :=
  ⟨fun p hp => (hb.block _ (h.lt hp)).trans (h.blk p hp), h.low, fun p hp => own_below (h.o0 p hp) hb, fun p hp => own_below (h.o1 p hp) hb, h.inj, h.a0, h.a1⟩
theorem TR.c0 (h : TR W B D N0 N1 f g0 g1) {p : List Int} (hp : D p) : W.cell? ⟨f p, 0, none⟩ = some (g0 p) := by rw [cell_of_row _ _ _ _ _ _ (h.blk p hp)]; rfl
theorem TR.c1 (h : TR W B D N0 N1 f g0 g1) {p : List Int} (hp : D p) : W.cell? ⟨f p, 1, none⟩ = some (g1 p) := by rw [cell_of_row _ _ _ _ _ _ (h.blk p hp)]; rfl
theorem TR.kept0 (h : TR W B D N0 N1 f g0 g1) (hp0 : D p0) (hg : (W.alloc o).grownBy w1 (g0 p0).ownBlock) {p : List Int} (hp : D p) : w1.heap[f p]? = some (.cells #[g0 p, g1 p] 144 (0, 0)) :=
  (kept_of hg (h.lt hp) (own_ne (h.o0 p0 hp0) (h.typ hp) (by decide))).trans (h.blk p hp)
theorem kept1 {o' : Obj} (hg : ((W.alloc o').alloc o).grownBy w1 (g1 p0).ownBlock) {b : Nat} (hb : b < W.heap.size) (hne : some b ≠ (g1 p0).ownBlock) : w1.heap[b]? = W.heap[b]? :=
  (kept_of hg (by simp; omega) hne).trans (Below.heap_alloc _ _ _ hb)

def updV (g : List Int → Value) (p : List Int) (v : Value) : List Int → Value := fun q => if q = p then v else g q

theorem TR.vals (h : TR W B D N0 N1 f g0 g1) (hp0 : D p0) (hown : w1.ownsRow B 3 1 v' ((N0 p0).length + 1) ((N0 p0).map (Value.int .i64) ++ [.int .i64 x])) (hg : (W.alloc o).grownBy w1 (g0 p0).ownBlock) (hat : ∀ g, v'.ownBlock = some g → (g0 p0).ownBlock = some g ∨ W.heap.size ≤ g) :
    TR (w1.setCell ⟨f p0, 0, none⟩ v') B D (fun q => if q = p0 then N0 p0 ++ [x] else N0 q) N1 f (updV g0 p0 v') g1 := by
  have far : ∀ b, b ≠ f p0 → (w1.setCell ⟨f p0, 0, none⟩ v').heap[b]? = w1.heap[b]? := fun b hb => Below.heap_setCell _ _ _ _ (by exact hb)
  have hk := fun p hp => h.kept0 (p := p) hp0 hg hp
  refine ⟨fun p hp => ?_, h.low, fun p hp => ?_, fun p hp => ?_, h.inj, fun p q hp hq hne g => ?_, h.a1⟩
  · by_cases e : p = p0
    · subst e
      rw [heap_setCell_same _ _ _ _ _ _ (hk p hp)]
      simp [updV]
    · rw [far _ (fun e2 => e (h.inj p p0 hp hp0 e2)), hk p hp]
      simp [updV, e]
  · by_cases e : p = p0
    · subst e
      simp only [updV, if_true, List.length_append, List.length_singleton, List.map_append, List.map_cons, List.map_nil]
      exact own_move hown fun g hg' => far g (fun e2 => own_ne hown ⟨_, hk p hp⟩ (by decide) (by rw [← e2]; exact hg'.symm))
    · simp only [updV, if_neg e]
      exact own_move (h.o0 p hp) fun g hg' => (far g (fun e2 => own_ne (h.o0 p hp) (h.typ hp0) (by decide) (by rw [← e2]; exact hg'.symm))).trans (kept_of hg ((h.o0 p hp).lt g hg').2 (fun e2 => h.a0 p p0 hp hp0 e g hg' e2.symm))
  · exact own_move (h.o1 p hp) fun g hg' => (far g (fun e2 => own_ne (h.o1 p hp) (h.typ hp0) (by decide) (by rw [← e2]; exact hg'.symm))).trans (kept_of hg ((h.o1 p hp).lt g hg').2 (own_ne (h.o0 p0 hp0) (own_typ (h.o1 p hp) hg') (by decide)))
  · unfold updV
    by_cases e : p = p0
    · subst e
      rw [if_pos rfl, if_neg (fun e2 => hne e2.symm)]
      intro h1 h2
      rcases hat g h1 with h3 | h3
      · exact h.a0 p q hp hq hne g h3 h2
      · have := ((h.o0 q hq).lt g h2).2; omega
    · rw [if_neg e]
      by_cases e2 : q = p0
      · subst e2
        rw [if_pos rfl]
        intro h1 h2
        rcases hat g h2 with h3 | h3
        · exact h.a0 p q hp hq hne g h1 h3
        · have := ((h.o0 p hp).lt g h1).2; omega
      · rw [if_neg e2]
        exact h.a0 p q hp hq hne g

theorem TR.belw (h : TR W B D N0 N1 f g0 g1) (hp0 : D p0) (hno : ¬ D (p0 ++ [x])) (hx : x ∉ N1 p0) (hB : B ≤ W.heap.size) {N0' : List Int → List Int} (hN : ∀ q, D q → N0' q = N0 q) (hN2 : N0' (p0 ++ [x]) = [])
    (hown : w1.ownsRow B 96 1 v' ((N1 p0).length + 1) (((N1 p0).map fun x => .pointer (some ⟨f (p0 ++ [x]), 0, none⟩)) ++ [.pointer (some ⟨W.heap.size, 0, none⟩)]))
    (hg : ((W.alloc (.cells #[.slice none 0 0, .slice none 0 0] 144)).alloc o).grownBy w1 (g1 p0).ownBlock) (hat : ∀ g, v'.ownBlock = some g → (g1 p0).ownBlock = some g ∨ W.heap.size ≤ g) :
    TR (w1.setCell ⟨f p0, 1, none⟩ v') B (addD D (p0 ++ [x])) N0' (addN N1 p0 x) (fun q => if q = p0 ++ [x] then W.heap.size else f q) (updV g0 (p0 ++ [x]) (.slice none 0 0)) (updV (updV g1 p0 v') (p0 ++ [x]) (.slice none 0 0)) := by
  have far : ∀ b, b ≠ f p0 → (w1.setCell ⟨f p0, 1, none⟩ v').heap[b]? = w1.heap[b]? := fun b hb => Below.heap_setCell _ _ _ _ (by exact hb)
  have hlt0 := h.lt hp0
  have hkf : ∀ p, D p → w1.heap[f p]? = some (.cells #[g0 p, g1 p] 144 (0, 0)) := fun p hp => (kept1 hg (h.lt hp) (own_ne (h.o1 p0 hp0) (h.typ hp) (by decide))).trans (h.blk p hp)
  have hnew : w1.heap[W.heap.size]? = some (.cells #[.slice none 0 0, .slice none 0 0] 144 (0, 0)) := by
    rw [kept_of hg (by simp) (fun e => by have := ((h.o1 p0 hp0).lt _ e.symm).2; omega)]
    exact heap_alloc_new _ _
  have hne0 : p0 ≠ p0 ++ [x] := fun e => snoc_ne p0 x e.symm
  have hnd : ∀ p, D p → p ≠ p0 ++ [x] := fun p hp e => hno (e ▸ hp)
  refine ⟨fun p hp => ?_, fun p hp => ?_, fun p hp => ?_, fun p hp => ?_, fun p q hp hq e => ?_, fun p q hp hq hne g => ?_, fun p q hp hq hne g => ?_⟩
  · rcases hp with hp | rfl
    · simp only [updV, if_neg (hnd p hp)]
      by_cases e : p = p0
      · subst e
        rw [heap_setCell_same _ _ _ _ _ _ (hkf p hp)]
        simp
      · rw [far _ (fun e2 => e (h.inj p p0 hp hp0 e2)), hkf p hp, if_neg e]
    · simp only [updV, if_true]
      rw [far _ (by omega), hnew]
  · rcases hp with hp | rfl
    · simp only [if_neg (hnd p hp)]; exact h.low p hp
    · simp only [if_true]; exact hB
  · rcases hp with hp | rfl
    · simp only [updV, if_neg (hnd p hp), hN p hp]
      exact own_move (h.o0 p hp) fun g hg' => (far g (fun e2 => own_ne (h.o0 p hp) (h.typ hp0) (by decide) (by rw [← e2]; exact hg'.symm))).trans (kept1 hg ((h.o0 p hp).lt g hg').2 (own_ne (h.o1 p0 hp0) (own_typ (h.o0 p hp) hg') (by decide)))
    · simp only [updV, if_true, hN2]
      exact World.ownsRow_nil _ _ _ _
  · rcases hp with hp | rfl
    · by_cases e : p = p0
      · subst e
        have em : ((N1 p ++ [x]).map fun y => Value.pointer (some ⟨if p ++ [y] = p ++ [x] then W.heap.size else f (p ++ [y]), 0, none⟩)) = ((N1 p).map fun x => .pointer (some ⟨f (p ++ [x]), 0, none⟩)) ++ [.pointer (some ⟨W.heap.size, 0, none⟩)] := by
          rw [List.map_append]
          congr 1
          · refine List.map_congr_left fun y hy => ?_
            rw [if_neg (fun e => hx (by rw [← (snoc_inj e).2]; exact hy))]
          · simp
        simp only [updV, if_neg hne0, if_true, addN, em, List.length_append, List.length_singleton]
        exact own_move hown fun g hg' => far g (fun e2 => own_ne hown ⟨_, hkf p hp⟩ (by decide) (by rw [← e2]; exact hg'.symm))
      · have em : ((N1 p).map fun y => Value.pointer (some ⟨if p ++ [y] = p0 ++ [x] then W.heap.size else f (p ++ [y]), 0, none⟩)) = ((N1 p).map fun x => .pointer (some ⟨f (p ++ [x]), 0, none⟩)) :=
          List.map_congr_left fun y hy => by rw [if_neg (fun e2 => e (snoc_inj e2).1)]
        simp only [updV, if_neg e, if_neg (hnd p hp), addN, em]
        exact own_move (h.o1 p hp) fun g hg' => (far g (fun e2 => own_ne (h.o1 p hp) (h.typ hp0) (by decide) (by rw [← e2]; exact hg'.symm))).trans (kept1 hg ((h.o1 p hp).lt g hg').2 (fun e2 => h.a1 p p0 hp hp0 e g hg' e2.symm))
    · simp only [updV, if_true, addN, if_neg (snoc_ne p0 x)]
      exact World.ownsRow_nil _ _ _ _
  · have key : ∀ q, D q → f q ≠ W.heap.size := fun q hq e => by have := h.lt hq; omega
    rcases hp with hp | rfl
    · rcases hq with hq | rfl
      · simp only [if_neg (hnd p hp), if_neg (hnd q hq)] at e
        exact h.inj p q hp hq e
      · simp only [if_neg (hnd p hp), if_true] at e
        exact absurd e (key p hp)
    · rcases hq with hq | rfl
      · simp only [if_neg (hnd q hq), if_true] at e
        exact absurd e.symm (key q hq)
      · rfl
  · unfold updV
    rcases hp with hp | rfl
    · rw [if_neg (hnd p hp)]
      rcases hq with hq | rfl
      · rw [if_neg (hnd q hq)]; exact h.a0 p q hp hq hne g
      · rw [if_pos rfl]; intro _ h2; simp [Value.ownBlock] at h2
    · rw [if_pos rfl]; intro h1; simp [Value.ownBlock] at h1
  · unfold updV
    rcases hp with hp | rfl
    · rw [if_neg (hnd p hp)]
      rcases hq with hq | rfl
      · rw [if_neg (hnd q hq)]
        by_cases e : p = p0
        · subst e
          rw [if_pos rfl, if_neg (fun e2 => hne e2.symm)]
          intro h1 h2
          rcases hat g h1 with h3 | h3
          · exact h.a1 p q hp hq hne g h3 h2
          · have := ((h.o1 q hq).lt g h2).2; omega
        · rw [if_neg e]
          by_cases e2 : q = p0
          · subst e2
            rw [if_pos rfl]
            intro h1 h2
            rcases hat g h2 with h3 | h3
            · exact h.a1 p q hp hq hne g h1 h3
            · have := ((h.o1 p hp).lt g h1).2; omega
          · rw [if_neg e2]
            exact h.a1 p q hp hq hne g
      · rw [if_pos rfl]; intro _ h2; simp [Value.ownBlock] at h2
    · rw [if_pos rfl]; intro h1; simp [Value.ownBlock] at h1

theorem TR.same (h : TR W B D N0 N1 f g0 g1) {N0' N1' : List Int → List Int} (e0 : ∀ p, D p → N0' p = N0 p) (e1 : ∀ p, D p → N1' p = N1 p) : TR W B D N0' N1' f g0 g1 :=
  ⟨h.blk, h.low, fun p hp => by rw [e0 p hp]; exact h.o0 p hp, fun p hp => by rw [e1 p hp]; exact h.o1 p hp, h.inj, h.a0, h.a1⟩

theorem own_at {W : World} {B n j : Nat} {e : TypeId} {v : Value} {xs : List Value} (h : W.ownsRow B e 1 v n xs) (hj : j < n) : ∃ g cap, v = .slice (some ⟨g, 0, none⟩) n cap ∧ W.cell? ⟨g, j, none⟩ = xs[j]? := by
  have hl := h.1
  rcases h.2 with ⟨-, h2⟩ | ⟨g, cap, cur, rfl, hb', hc, hn, -, -, ht⟩
  · omega
  · refine ⟨g, cap, rfl, ?_⟩
    rw [cell_of_row _ _ _ _ _ _ hc, ← ht, List.getElem?_take_of_lt (by omega), Array.getElem?_toList]
end

end Go.Proofs.YtoodbpijgnbfjaaGreat

namespace Go.Proofs.YtoodbpijgnbfjaaGreat
open Go.RowKit Meet

structure Cq (w : World) (c o tb fb cap : Nat) (v1 : Value) (l : List Int) (p : Nat) : Prop where
  ptr : w.cell? ⟨c, o, none⟩ = some (.pointer (some ⟨tb, 0, none⟩))
  pl : w.cell? ⟨c, o + 1, none⟩ = some (.int .i64 p)
  fz : w.frozen? ⟨c, o + 1, none⟩ = false
  val : w.cell? ⟨tb, 0, none⟩ = some (.slice (some ⟨fb, 0, none⟩) l.length cap)
  bel : w.cell? ⟨tb, 1, none⟩ = some v1
  own : ∀ j, j < l.length → w.cell? ⟨fb, j, none⟩ = some (.int .i64 (l.getD j 0))

theorem Cq.drewN {w : World} {c o tb fb cap p : Nat} {v1 : Value} {l : List Int} (h : Cq w c o tb fb cap v1 l p) (d : Nat) : Cq (w.drewN d) c o tb fb cap v1 l p := ⟨h.ptr, h.pl, h.fz, h.val, h.bel, h.own⟩

set_option maxHeartbeats 2000000 in
theorem endedq_calls (w : World) (c o tb fb cap : Nat) (v1 : Value) (l : List Int) (p : Nat) (h : Cq w c o tb fb cap v1 l p) :
    Calls Tryz.prog 90 #[.pointer (some ⟨c, o, none⟩)] w fun e w' => e = .returned (.bool (decide (p = l.length))) ∧ ∃ d, w' = w.drewN d := by
  have h1 := h.ptr
  have h2 := h.pl
  have h3 := h.val
  rw [← dec_len]
  generalize l.length = n at *
  clear h
  go_enter Tryz.func90, Tryz.ntmps90
  go_wp2_with fail
  go_quiet (fail)
  go_wp2
  go_ret
  exact ⟨ret_bool (by first | rfl | simp), _, rfl⟩

set_option maxHeartbeats 2000000 in
theorem valueq_calls (w : World) (c o tb fb cap : Nat) (v1 : Value) (l : List Int) (p : Nat) (h : Cq w c o tb fb cap v1 l p) (hp : p < l.length) :
    Calls Tryz.prog 91 #[.pointer (some ⟨c, o, none⟩)] w fun e w' => e = .returned (.int .i64 (l.getD p 0)) ∧ ∃ d, w' = w.drewN d := by
  have h1 := h.ptr
  have h2 := h.pl
  have h3 := h.val
  have h4 := h.own p hp
  have i1 : (p : Int) < (l.length : Int) := by omega
  generalize l.getD p 0 = x at *
  generalize l.length = n at *
  clear h
  go_enter Tryz.func91, Tryz.ntmps91
  go_wp2_with fail
  go_quiet (fail)
  go_wp2
  go_ret
  exact ⟨rfl, _, rfl⟩

set_option maxHeartbeats 2000000 in
theorem belowq_calls (w : World) (c o tb fb cap gb n cb : Nat) (l : List Int) (p : Nat) (y : Value) (h : Cq w c o tb fb cap (.slice (some ⟨gb, 0, none⟩) n cb) l p) (hp : p < n) (hy : w.cell? ⟨gb, p, none⟩ = some y) :
    Calls Tryz.prog 117 #[.pointer (some ⟨c, o, none⟩)] w fun e w' => e = .returned y ∧ ∃ d, w' = w.drewN d := by
  have h1 := h.ptr
  have h2 := h.pl
  have h3 := h.bel
  have i1 : (p : Int) < (n : Int) := by omega
  clear h
  go_enter Tryz.func117, Tryz.ntmps117
  go_wp2_with fail
  go_quiet (fail)
  go_wp2
  go_ret
  exact ⟨rfl, _, rfl⟩

theorem Cq.is_from {w : World} {c o tb fb k p : Nat} {v1 : Value} {l : List Int} (h : Cq w c o tb fb k v1 l p) (hp : p < l.length) (cap : Nat) : IS w (.slice (some ⟨fb, p, none⟩) (l.length - p) cap) (l.drop p) := by
  refine ⟨_, cap, by rw [List.length_drop], Or.inr ⟨fb, p, rfl, fun j hj => ?_⟩⟩
  rw [List.length_drop] at hj
  rw [h.own (p + j) (by omega), List.getD_eq_getElem?_getD, List.getD_eq_getElem?_getD, List.getElem?_drop]

set_option maxHeartbeats 2000000 in
set_option maxRecDepth 1000000 in
theorem seekq_calls (w : World) (c o tb fb cap : Nat) (v1 : Value) (l : List Int) (p : Nat) (g : Int) (h : Cq w c o tb fb cap v1 l p) (hl : l.length ≤ 1099511627776) (hcl : l.length ≤ cap) (hpl : p < l.length) (ha : Asc l) :
    Calls Tryz.prog 89 #[.pointer (some ⟨c, o, none⟩), .int .i64 g] w fun e w' => (∃ v, e = .returned v) ∧ ∃ d, w' = (w.drewN d).setCell ⟨c, o + 1, none⟩ (.int .i64 (p + bsQ (l.drop p) g : Nat)) := by
  have h1 := h.ptr
  have h2 := h.pl
  have h3 := h.val
  have h4 := h.fz
  have hq := (bsQ_spec (up_drop ha p) g).1
  rw [List.length_drop] at hq
  have HK : Hid (∀ q cap, Calls Tryz.prog 61 #[.slice (some ⟨fb, p, none⟩) (l.length - p) cap, .int .i64 g] (w.drewN q) fun e w' => e = .returned (.tuple #[.int .i64 (bsQ (l.drop p) g), .bool (bsF (l.drop p) g)]) ∧ ∃ d, w' = (w.drewN q).drewN d) := hid (fun q cap =>
    bsearch_calls (w.drewN q) _ (l.drop p) g ((h.drewN q).is_from hpl cap) (by rw [List.length_drop]; omega) (up_drop ha p))
  have i1 : (p : Int) ≤ (l.length : Int) := by omega
  generalize bsQ (l.drop p) g = k at *
  generalize bsF (l.drop p) g = kf at *
  generalize l.length = n at *
  clear h ha
  go_enter Tryz.func89, Tryz.ntmps89
  go_wp2_with fail
  go_quiet ((go_at_call 61; exact Calls.quiet_of (HK.out _ _)))
  go_wp2
  go_end0
  exact ⟨⟨_, rfl⟩, _, by rw [Int.natCast_add]⟩

theorem asc_of {l : List Int} (h : l.Pairwise (· < ·)) : Asc l := fun i j hij hj => by
  have := List.pairwise_iff_getElem.1 h i j (by omega) hj hij
  rw [List.getD_eq_getElem?_getD, List.getD_eq_getElem?_getD, List.getElem?_eq_getElem (by omega), List.getElem?_eq_getElem hj]
  exact this

theorem bs_hit {l : List Int} (ha : Asc l) {x : Int} (hx : x ∈ l) : bsQ l x < l.length ∧ l.getD (bsQ l x) 0 = x := by
  obtain ⟨h1, h2, h3⟩ := bsQ_spec (up_of_asc ha) x
  obtain ⟨j, hj, e⟩ := List.getElem_of_mem hx
  have ej : l.getD j 0 = x := by rw [List.getD_eq_getElem?_getD, List.getElem?_eq_getElem hj, e]; rfl
  have hq : bsQ l x ≤ j := by
    rcases Nat.lt_or_ge j (bsQ l x) with h | h
    · have := h2 j h; omega
    · exact h
  refine ⟨by omega, ?_⟩
  have h4 := h3 (bsQ l x) (Nat.le_refl _) (by omega)
  have h5 := up_of_asc ha (bsQ l x) j hq hj
  omega
theorem bs_miss {l : List Int} {x : Int} (hx : x ∉ l) (h : bsQ l x < l.length) : l.getD (bsQ l x) 0 ≠ x := fun e => hx (by
  rw [← e, List.getD_eq_getElem?_getD, List.getElem?_eq_getElem h]; exact List.getElem_mem _)

end Go.Proofs.YtoodbpijgnbfjaaGreat

namespace Go.Proofs.YtoodbpijgnbfjaaGreat
open Go.RowKit Meet

end Go.Proofs.YtoodbpijgnbfjaaGreat

namespace Go.Proofs.YtoodbpijgnbfjaaGreat
open Go.RowKit Meet

end Go.Proofs.YtoodbpijgnbfjaaGreat

namespace Go.Proofs.YtoodbpijgnbfjaaGreat
open Go.RowKit

def memV (m : Nat → Bool) : Value := .agg #[.bool (m 0), .bool (m 1), .bool (m 2), .bool (m 3), .bool (m 4), .bool (m 5)]
def memA (m : Nat → Bool) : Array Value := #[.bool (m 0), .bool (m 1), .bool (m 2), .bool (m 3), .bool (m 4), .bool (m 5)]

theorem memA_get (m : Nat → Bool) {v : Nat} (h : v < 6) : (memA m)[v]? = some (.bool (m v)) := by
  obtain rfl | rfl | rfl | rfl | rfl | rfl : v = 0 ∨ v = 1 ∨ v = 2 ∨ v = 3 ∨ v = 4 ∨ v = 5 := by omega
  all_goals rfl

theorem run_index_mem (m : Nat → Bool) {v : Nat} (h : v < 6) (w : World) : (Sem.run Tryz.prog (Instr.index 84 (.agg #[.bool (m 0), .bool (m 1), .bool (m 2), .bool (m 3), .bool (m 4), .bool (m 5)]) (.int .i64 v)) w) = .ok (.bool (m v)) w := by
  obtain rfl | rfl | rfl | rfl | rfl | rfl : v = 0 ∨ v = 1 ∨ v = 2 ∨ v = 3 ∨ v = 4 ∨ v = 5 := by omega
  all_goals kernel_rfl

set_option maxHeartbeats 4000000 in
set_option maxRecDepth 1000000 in
theorem list_calls (w : World) (m : Nat → Bool) :
    Calls Tryz.prog 35 #[memV m] w fun e w' => ∃ v, e = .returned v ∧ w'.ownsRow w.heap.size 3 1 v (plc m 6).length ((plc m 6).map (Value.int .i64)) ∧ Below w.heap.size w w' := by
  obtain ⟨i0, hi, hz0, hz1, hz2⟩ := info_parts Tryz.infoInt
  have HX : Hid (∀ (v : Nat) (W : World), v < 6 → (Sem.run Tryz.prog (Instr.index 84 (.agg #[.bool (m 0), .bool (m 1), .bool (m 2), .bool (m 3), .bool (m 4), .bool (m 5)]) (.int .i64 v)) W) = .ok (.bool (m v)) W) := hid fun v W h => run_index_mem m h W
  have HS0 : Hid (((w.alloc (.cells #[.bool (m 0), .bool (m 1), .bool (m 2), .bool (m 3), .bool (m 4), .bool (m 5)] 84)).alloc (.cells #[] 3)).ownsRow w.heap.size 3 1 (.slice (some ⟨w.heap.size + 1, 0, none⟩) 0 0) (plc m 0).length ((plc m 0).map (Value.int .i64))) := hid (by
    have h := World.ownsRow_made (w.alloc (.cells #[.bool (m 0), .bool (m 1), .bool (m 2), .bool (m 3), .bool (m 4), .bool (m 5)] 84)) (e := 3) (size := 1) #[] 0 (Nat.le_refl _) (by decide) rfl
    rw [World.size_alloc] at h
    exact own_base h (Nat.le_succ _))
  unfold memV
  go_enter Tryz.func35, Tryz.ntmps35
  go_wp2
  go_loopw [3, 8] (fun u t wr => ∃ v : Nat, v ≤ 6 ∧ t = .int .i64 v ∧ wr.ownsRow w.heap.size 3 1 u (plc m v).length ((plc m v).map (Value.int .i64)) ∧ Below w.heap.size w wr) (fun _ t _ => 6 - (intOf t).toNat)
  case atStart => exact ⟨0, Nat.zero_le _, rfl, HS0.out, ((Below.refl _ _).alloc (Nat.le_refl _) _).alloc (by simp) _⟩
  case round =>
    obtain ⟨v, hv, rfl, hown, hnx⟩ := hrel
    have hple := plc_le m v
    have hns := hnx.size
    by_cases hvk : v < 6
    · have i1 : (v : Int) < 6 := by omega
      have c1 := HX.out v wr hvk
      cases hR : m v
      · rw [hR] at c1
        have e1 := hid (plc_miss m v hR)
        clear hR
        go_wp2_with fail
        go_roundw
        case rel => exact ⟨v + 1, by omega, by go_num, by rw [e1.out]; exact hown, hnx⟩
        case measure => simp [intOf]; omega
      · rw [hR] at c1
        have e1 := hid (plc_hit m v hR)
        clear hR
        go_wp2_with (first
          | (at_builtin; refine wpList_append_own _ rfl _ _ 33 rfl w.heap.size 3 i0 (.int .i64 0) 1 8 Tryz.underlying33 hi hz0 hz1 hz2 rfl (by decide) _ _ _ rfl (hown.alloc _) ⟨wr.heap.size, 0, none⟩ 1 1 [.int .i64 v] rfl rfl ?c1 ?c2 ?c3 ?c4 ?c5 ?_)
          | fail)
        case c1 =>
          intro j u hj
          match j, hj with
          | 0, hj => simp at hj; subst hj; simp [Addr.add]
        case c2 => intro u hu; simp at hu; subst hu; rfl
        case c3 => unfold maxLen; omega
        case c4 => omega
        case c5 => simp; omega
        intro v' w1 hown' hgrow _
        have hb := own_grow hns hown hnx hgrow
        have hown2 : w1.ownsRow w.heap.size 3 1 v' (plc m (v + 1)).length ((plc m (v + 1)).map (Value.int .i64)) := by
          rw [e1.out]; simpa using hown'
        clear hown' hgrow hown
        go_wp2
        go_roundw
        case rel => exact ⟨v + 1, by omega, by go_num, hown2, hb⟩
        case measure => simp [intOf]; omega
    · obtain rfl : v = 6 := by omega
      go_wp2
      go_ret
      exact ⟨_, rfl, hown, hnx⟩

end Go.Proofs.YtoodbpijgnbfjaaGreat
