import Derived.Deep.LoopGhost
import Derived.Deep.OwnRows
import Derived.Test.YtnbbbbfamlmfpaaGreatJn04
import Derived.Test.YtnbbbbfamlmfpaaGreatJn48
/-
  spec.l1DrawSet: a set that is not empty.
-/
namespace Go.Proofs.YtnbbbbfamlmfpaaGreat
open Go.RowKit

/-- block g begins with n cells, none frozen -/
def BoolsAt (w : World) (g n : Nat) (s : Nat → Bool) : Prop := w.rowIs g 4 n (fun i => .bool (s i))

theorem BoolsAt.kept {w w' : World} {g n c : Nat} {s : Nat → Bool} (h : BoolsAt w g n s) (hk : Kc c w w') (hne : g ≠ c) : BoolsAt w' g n s := h.of_block (hk.block g h.lt hne)

theorem RdrAt.other {W W' : World} {g : Nat} {a : Option Addr} {n cap : Nat} {p sd : Int} (h : RdrAt W g a n cap p sd) (hg : W'.heap[g]? = W.heap[g]?) (hb : ∀ b o, a = some ⟨b, o, none⟩ → 0 < n → W'.heap[b]? = W.heap[b]?) : RdrAt W' g a n cap p sd where
  c0 := (World.cell?_of_block (w := W) (a := ⟨g, 0, none⟩) hg).trans h.c0
  c1 := (World.cell?_of_block (w := W) (a := ⟨g, 1, none⟩) hg).trans h.c1
  c2 := (World.cell?_of_block (w := W) (a := ⟨g, 2, none⟩) hg).trans h.c2
  f1 := (World.frozen?_of_block (w := W) (a := ⟨g, 1, none⟩) hg).trans h.f1
  f2 := (World.frozen?_of_block (w := W) (a := ⟨g, 2, none⟩) hg).trans h.f2
  bytes j hj := by
    obtain ⟨b, o, x, e, hne, hc, hx⟩ := h.bytes j hj
    exact ⟨b, o, x, e, hne, (World.cell?_of_block (w := W) (a := ⟨b, o + j, none⟩) (hb b o e (by omega))).trans hc, hx⟩
  seed := h.seed

theorem RdrAt.byteLt {W : World} {g : Nat} {a : Option Addr} {n cap : Nat} {p sd : Int} (h : RdrAt W g a n cap p sd) {b o : Nat} (e : a = some ⟨b, o, none⟩) (hn : 0 < n) : b < W.heap.size := by
  obtain ⟨b', o', x, e', _, hc, _⟩ := h.bytes 0 hn
  rw [e] at e'
  simp only [Option.some.injEq, Addr.mk.injEq] at e'
  obtain ⟨rfl, rfl, _⟩ := e'
  exact World.block_lt_of_cell? W _ hc

/-- what is made anew leaves the reader as it is -/
theorem Rdr.below {W W' : World} {g : Nat} {a : Option Addr} {n cap k : Nat} (h : Rdr W g a n cap k) (hb : Below W.heap.size W W') : Rdr W' g a n cap k := by
  obtain ⟨k', sd, h1, h2⟩ := h
  exact ⟨k', sd, h1, h2.other (hb.block g (World.block_lt_of_cell? W _ h2.c0)) (fun b o e hn => hb.block b (h2.byteLt e hn))⟩

theorem Kc.new {g : Nat} {w w' : World} (h : Kc g w w') {c : Nat} (hc : w.heap.size ≤ c) (o : Nat) (v : Value) : Kc g w (w'.setCell ⟨c, o, none⟩ v) :=
  ⟨h.os, h.tape, h.output, by simpa [World.setCell] using h.size, fun b hb hg => (Below.heap_setCell _ _ _ _ (by show b ≠ c; omega)).trans (h.block b hb hg)⟩
theorem Kc.below {g : Nat} {a b c : World} (h : Kc g a b) (k : Below a.heap.size b c) : Kc g a c :=
  ⟨k.os.trans h.os, k.tape.trans h.tape, k.output.trans h.output, Nat.le_trans h.size k.size, fun x hx hg => (k.block x hx).trans (h.block x hx hg)⟩
end Go.Proofs.YtnbbbbfamlmfpaaGreat

/-
  spec.l1Union.
-/
namespace Go.Proofs.YtnbbbbfamlmfpaaGreat
open Go.RowKit

set_option maxHeartbeats 2000000 in
set_option maxRecDepth 1000000 in
theorem union_calls (w : World) (va vb : Value) (la lb : List Int) (ha : IS w va la) (hb : IS w vb lb) (hla : la.length ≤ 1099511627776) (hlb : lb.length ≤ 1099511627776) :
    Calls Tryz.prog 31 #[va, vb] w fun e w' => ∃ v, e = .returned v ∧ w'.ownsRow w.heap.size 3 1 v (plc (fun i : Nat => decide ((i : Int) ∈ la) || decide ((i : Int) ∈ lb)) 6).length ((plc (fun i : Nat => decide ((i : Int) ∈ la) || decide ((i : Int) ∈ lb)) 6).map (Value.int .i64)) ∧ Below w.heap.size w w' := by
  obtain ⟨i0, hi, hz0, hz1, hz2⟩ := info_parts Tryz.infoInt
  obtain ⟨p, hp⟩ : ∃ p : Nat → Bool, p = fun i : Nat => decide ((i : Int) ∈ la) || decide ((i : Int) ∈ lb) := ⟨_, rfl⟩
  rw [← hp]
  have HP := hid hp
  have HA := hid ha
  have HB := hid hb
  clear hp ha hb
  go_enter Tryz.func31, Tryz.ntmps31
  go_wp2
  go_loopw [5, 6] (fun v t wr => ∃ k : Nat, k ≤ 6 ∧ t = .int .i64 k ∧ wr.ownsRow w.heap.size 3 1 v (plc p k).length ((plc p k).map (Value.int .i64)) ∧ Below w.heap.size w wr) (fun _ t _ => 6 - (intOf t).toNat)
  case atStart => exact ⟨0, Nat.zero_le _, rfl, World.ownsRow_made w #[] 0 (Nat.le_refl _) (by decide) rfl, (Below.refl _ _).alloc (Nat.le_refl _) _⟩
  case round =>
    obtain ⟨k, hk, rfl, hown, hnx⟩ := hrel
    have hple := plc_le p k
    have hns := hnx.size
    by_cases hkn : k < 6
    · have i1 : (k : Int) < 6 := by omega
      have KA := hid (l1Has_calls wr va la (k : Int) (HA.out.below hnx) hla)
      have KB := hid (l1Has_calls wr vb lb (k : Int) (HB.out.below hnx) hlb)
      have hpk : p k = (decide ((k : Int) ∈ la) || decide ((k : Int) ∈ lb)) := by rw [HP.out]
      generalize decide ((k : Int) ∈ la) = b1 at *
      generalize decide ((k : Int) ∈ lb) = b2 at *
      have HPK := hid hpk
      clear hpk
      cases b1
      · cases b2
        · have e1 := hid (plc_miss p k HPK.out)
          go_wp2_with fail
          refine KA.out.mono ?_
          rintro e w' ⟨rfl, hw'⟩
          subst w'
          go_wp2_with fail
          refine KB.out.mono ?_
          rintro e w' ⟨rfl, hw'⟩
          subst w'
          go_wp2
          go_roundw
          case rel => exact ⟨k + 1, by omega, by go_num, by rw [e1.out]; exact hown, hnx⟩
          case measure => simp [intOf]; omega
        · have e1 := hid (plc_hit p k HPK.out)
          go_wp2_with fail
          refine KA.out.mono ?_
          rintro e w' ⟨rfl, hw'⟩
          subst w'
          go_wp2_with fail
          refine KB.out.mono ?_
          rintro e w' ⟨rfl, hw'⟩
          subst w'
          go_wp2_with (first
            | (at_builtin; refine wpList_append_own _ rfl _ _ 23 rfl w.heap.size 3 i0 (.int .i64 0) 1 8 Tryz.underlying23 hi hz0 hz1 hz2 rfl (by decide) _ _ _ rfl (hown.alloc _) ⟨wr.heap.size, 0, none⟩ 1 1 [.int .i64 k] rfl rfl ?c1 ?c2 ?c3 ?c4 ?c5 ?_))
          case c1 =>
            intro j u hj
            match j, hj with
            | 0, hj => simp at hj; subst hj; simp [Addr.add]
          case c2 => intro u hu; simp at hu; subst hu; rfl
          case c3 => unfold maxLen; omega
          case c4 => omega
          case c5 => simp; omega
          intro v' w1 hown' hgrow _
          have hb := own_grow hns hown hnx hgrow
          have hown2 : w1.ownsRow w.heap.size 3 1 v' (plc p (k + 1)).length ((plc p (k + 1)).map (Value.int .i64)) := by
            rw [e1.out]; simpa using hown'
          clear hown' hgrow hown
          go_wp2
          go_roundw
          case rel => exact ⟨k + 1, by omega, by go_num, hown2, hb⟩
          case measure => simp [intOf]; omega
      · have e1 := hid (plc_hit p k (by rw [HPK.out]; rfl))
        go_wp2_with (first
          | (go_at_call 32; refine KA.out.mono ?_; rintro e w' ⟨rfl, hw'⟩; subst w')
          | (at_builtin; refine wpList_append_own _ rfl _ _ 23 rfl w.heap.size 3 i0 (.int .i64 0) 1 8 Tryz.underlying23 hi hz0 hz1 hz2 rfl (by decide) _ _ _ rfl (hown.alloc _) ⟨wr.heap.size, 0, none⟩ 1 1 [.int .i64 k] rfl rfl ?d1 ?d2 ?d3 ?d4 ?d5 ?_))
        case d1 =>
          intro j u hj
          match j, hj with
          | 0, hj => simp at hj; subst hj; simp [Addr.add]
        case d2 => intro u hu; simp at hu; subst hu; rfl
        case d3 => unfold maxLen; omega
        case d4 => omega
        case d5 => simp; omega
        intro v' w1 hown' hgrow _
        have hb := own_grow hns hown hnx hgrow
        have hown2 : w1.ownsRow w.heap.size 3 1 v' (plc p (k + 1)).length ((plc p (k + 1)).map (Value.int .i64)) := by
          rw [e1.out]; simpa using hown'
        clear hown' hgrow hown
        go_wp2
        go_roundw
        case rel => exact ⟨k + 1, by omega, by go_num, hown2, hb⟩
        case measure => simp [intOf]; omega
    · obtain rfl : k = 6 := by omega
      go_wp2
      go_ret
      exact ⟨_, rfl, hown, hnx⟩

end Go.Proofs.YtnbbbbfamlmfpaaGreat
