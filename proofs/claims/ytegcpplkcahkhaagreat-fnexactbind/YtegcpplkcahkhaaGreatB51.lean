import Derived.Test.YtegcpplkcahkhaaGreatB26
/-
  Marks on a copy: cells keep their kind, only the copy's own blocks are turned.
-/
namespace Go.Proofs.YtegcpplkcahkhaaGreat
open Go.RowKit

structure Fr (lo hi : Nat) (w w' : World) : Prop where
  os : w'.os = w.os
  tape : w'.tape = w.tape
  output : w'.output = w.output
  size : w.heap.size ≤ w'.heap.size
  block : ∀ b, b < w.heap.size → (b < lo ∨ hi ≤ b) → w'.heap[b]? = w.heap[b]?

theorem Fr.refl (lo hi : Nat) (w : World) : Fr lo hi w w := ⟨rfl, rfl, rfl, Nat.le_refl _, fun _ _ _ => rfl⟩
theorem Fr.trans {lo hi : Nat} {a b c : World} (h : Fr lo hi a b) (k : Fr lo hi b c) : Fr lo hi a c :=
  ⟨k.os.trans h.os, k.tape.trans h.tape, k.output.trans h.output, Nat.le_trans h.size k.size, fun x hx hg => (k.block x (Nat.lt_of_lt_of_le hx h.size) hg).trans (h.block x hx hg)⟩
theorem Fr.bel {lo hi : Nat} {a b c : World} (h : Fr lo hi a b) (k : Below b.heap.size b c) : Fr lo hi a c :=
  h.trans ⟨k.os, k.tape, k.output, k.size, fun x hx _ => k.block x hx⟩
theorem Fr.set {lo hi g o : Nat} {a b : World} {v : Value} (h : Fr lo hi a b) (h1 : lo ≤ g) (h2 : g < hi) : Fr lo hi a (b.setCell ⟨g, o, none⟩ v) :=
  h.trans ⟨rfl, rfl, rfl, by simp [World.setCell], fun x _ hg => Below.heap_setCell _ _ _ _ (by show x ≠ g; omega)⟩


/-- cells keep their kind; blocks below lo and from hi on are as they were -/
structure Mk (lo hi : Nat) (w w' : World) : Prop where
  fr : Fr lo hi w w'
  num : ∀ b q x, w.cell? ⟨b, q, none⟩ = some (.int .i64 x) → ∃ y, w'.cell? ⟨b, q, none⟩ = some (.int .i64 y)
  str : ∀ b q x, w.cell? ⟨b, q, none⟩ = some (.string x) → ∃ y, w'.cell? ⟨b, q, none⟩ = some (.string y)
  sl : ∀ b q a n c, w.cell? ⟨b, q, none⟩ = some (.slice a n c) → w'.cell? ⟨b, q, none⟩ = some (.slice a n c)
  froz : ∀ b q, b < w.heap.size → w.frozen? ⟨b, q, none⟩ = false → w'.frozen? ⟨b, q, none⟩ = false
section
variable {lo hi : Nat} {a b c : World}
theorem Mk.refl (lo hi : Nat) (a : World) : Mk lo hi a a := ⟨Fr.refl _ _ _, fun _ _ x h => ⟨x, h⟩, fun _ _ x h => ⟨x, h⟩, fun _ _ _ _ _ h => h, fun _ _ _ h => h⟩
theorem Mk.trans (h : Mk lo hi a b) (k : Mk lo hi b c) : Mk lo hi a c :=
  ⟨h.fr.trans k.fr, fun x q u e => by obtain ⟨y, e2⟩ := h.num x q u e; exact k.num x q y e2, fun x q u e => by obtain ⟨y, e2⟩ := h.str x q u e; exact k.str x q y e2, fun x q u n m e => k.sl x q u n m (h.sl x q u n m e), fun x q e f => k.froz x q (Nat.lt_of_lt_of_le e h.fr.size) (h.froz x q e f)⟩
theorem bclX {W W' : World} {x q : Nat} {u : Value} (h : Below W.heap.size W W') (e : W.cell? ⟨x, q, none⟩ = some u) : W'.cell? ⟨x, q, none⟩ = some u := (h.cell (p := ⟨x, q, none⟩) (World.block_lt_of_cell? W _ e)).trans e
theorem Mk.of_below (h : Below a.heap.size a b) : Mk lo hi a b :=
  ⟨(Fr.refl lo hi a).bel h, fun _ _ u e => ⟨u, bclX h e⟩, fun _ _ u e => ⟨u, bclX h e⟩, fun _ _ _ _ _ e => bclX h e, fun x q e f => (h.frozen (p := ⟨x, q, none⟩) e).trans f⟩
theorem Mk.setI {g o : Nat} {x y : Int} (h : a.cell? ⟨g, o, none⟩ = some (.int .i64 x)) (h1 : lo ≤ g) (h2 : g < hi) : Mk lo hi a (a.setCell ⟨g, o, none⟩ (.int .i64 y)) := by
  have ne : ∀ {b q : Nat} {u : Value}, a.cell? ⟨b, q, none⟩ = some u → (b = g ∧ q = o) ∨ (a.setCell ⟨g, o, none⟩ (.int .i64 y)).cell? ⟨b, q, none⟩ = some u := fun {b q u} e => by
    by_cases e2 : b = g ∧ q = o
    · exact Or.inl e2
    · exact Or.inr ((World.cell?_setCell_other _ _ _ _ (by intro e3; simp only [Addr.mk.injEq] at e3; exact e2 ⟨by omega, by omega⟩)).trans e)
  refine ⟨(Fr.refl lo hi a).set h1 h2, fun b q u e => ?_, fun b q u e => ?_, fun b q u n m e => ?_, fun b q _ f => by rw [World.frozen?_setCell]; exact f⟩
  · rcases ne e with ⟨rfl, rfl⟩ | e2
    · exact ⟨y, World.cell?_setCell_same _ _ _ h⟩
    · exact ⟨u, e2⟩
  · rcases ne e with ⟨rfl, rfl⟩ | e2
    · rw [h] at e; cases e
    · exact ⟨u, e2⟩
  · rcases ne e with ⟨rfl, rfl⟩ | e2
    · rw [h] at e; cases e
    · exact e2
theorem Mk.setS {g o : Nat} {x y : ByteArray} (h : a.cell? ⟨g, o, none⟩ = some (.string x)) (h1 : lo ≤ g) (h2 : g < hi) : Mk lo hi a (a.setCell ⟨g, o, none⟩ (.string y)) := by
  have ne : ∀ {b q : Nat} {u : Value}, a.cell? ⟨b, q, none⟩ = some u → (b = g ∧ q = o) ∨ (a.setCell ⟨g, o, none⟩ (.string y)).cell? ⟨b, q, none⟩ = some u := fun {b q u} e => by
    by_cases e2 : b = g ∧ q = o
    · exact Or.inl e2
    · exact Or.inr ((World.cell?_setCell_other _ _ _ _ (by intro e3; simp only [Addr.mk.injEq] at e3; exact e2 ⟨by omega, by omega⟩)).trans e)
  refine ⟨(Fr.refl lo hi a).set h1 h2, fun b q u e => ?_, fun b q u e => ?_, fun b q u n m e => ?_, fun b q _ f => by rw [World.frozen?_setCell]; exact f⟩
  · rcases ne e with ⟨rfl, rfl⟩ | e2
    · rw [h] at e; cases e
    · exact ⟨u, e2⟩
  · rcases ne e with ⟨rfl, rfl⟩ | e2
    · exact ⟨y, World.cell?_setCell_same _ _ _ h⟩
    · exact ⟨u, e2⟩
  · rcases ne e with ⟨rfl, rfl⟩ | e2
    · rw [h] at e; cases e
    · exact e2
end

/-- n numbers in block g -/
structure ShI (lo hi : Nat) (W : World) (g n : Nat) : Prop where
  lo : lo ≤ g
  hi : g < hi
  lt : g < W.heap.size
  cell : ∀ j, j < n → ∃ x, W.cell? ⟨g, j, none⟩ = some (.int .i64 x)
  free : ∀ j, j < n → W.frozen? ⟨g, j, none⟩ = false
theorem ShI.kp {lo hi : Nat} {W W' : World} {g n : Nat} (h : ShI lo hi W g n) (k : Mk lo hi W W') : ShI lo hi W' g n :=
  ⟨h.lo, h.hi, Nat.lt_of_lt_of_le h.lt k.fr.size, fun j hj => by obtain ⟨x, e⟩ := h.cell j hj; exact k.num _ _ _ e, fun j hj => k.froz _ _ h.lt (h.free j hj)⟩
theorem OwnI.sh {lo hi : Nat} {W : World} {g : Nat} {l : List Int} (h : OwnI W g l) (h1 : lo ≤ g) (h2 : g < hi) : ShI lo hi W g l.length := ⟨h1, h2, h.lt, fun j hj => ⟨_, h.cell j hj⟩, h.free⟩

set_option maxHeartbeats 1000000 in
set_option maxRecDepth 1000000 in
theorem markIntS_mk (w : World) (lo hi g n cap k : Nat) (h : ShI lo hi w g n) (hn : n ≤ 1048576) (hk : k ≤ 1099511627776) :
    Calls Tryz.prog 40 #[.slice (some ⟨g, 0, none⟩) n cap, .int .i64 (k : Int)] w fun e w' => e = .returned (.int .i64 ((k + n : Nat) : Int)) ∧ Mk lo hi w w' := by
  have HS := hid h
  clear h
  go_enter Tryz.func40, Tryz.ntmps40
  go_wp2
  go_loopw [1, 5] (fun u t wr => ∃ j : Nat, j ≤ n ∧ t = .int .i64 j ∧ u = .int .i64 ((k + j : Nat) : Int) ∧ Hid (Mk lo hi w wr)) (fun _ t _ => n - (intOf t).toNat)
  case atStart => exact ⟨0, Nat.zero_le _, rfl, rfl, hid (Mk.refl _ _ _)⟩
  case round =>
    obtain ⟨j, hj, rfl, rfl, HM⟩ := hrel
    by_cases hjn : j < n
    · have i1 : (j : Int) < (n : Int) := by omega
      have hS := HS.out.kp HM.out
      obtain ⟨x, c2⟩ := hS.cell j hjn
      have c3 := hS.free j hjn
      have HN : Hid (∀ y : Int, Mk lo hi w (wr.setCell ⟨g, j, none⟩ (.int .i64 y))) := hid fun y => HM.out.trans (Mk.setI c2 hS.lo hS.hi)
      clear hS HM
      go_wp2
      go_roundw
      case rel => exact ⟨j + 1, by omega, by go_num, by go_num, hid (HN.out _)⟩
      case measure => simp [intOf]; omega
    · obtain rfl : j = n := by omega
      have i1 : ¬ ((j : Int) < (j : Int)) := by omega
      go_wp2
      go_ret
      first | exact ⟨rfl, HM.out⟩ | exact HM.out

def sumN (ln : Nat → Nat) : Nat → Nat
  | 0 => 0
  | j + 1 => sumN ln j + ln j
theorem sumN_le (ln : Nat → Nat) : ∀ {i j : Nat}, i ≤ j → sumN ln i ≤ sumN ln j
  | i, 0, h => by
    have e : i = 0 := Nat.le_zero.1 h
    subst e
    exact Nat.le_refl _
  | i, j + 1, h => by
    by_cases e : i = j + 1
    · rw [e]; exact Nat.le_refl _
    · exact Nat.le_trans (sumN_le ln (i := i) (j := j) (by omega)) (Nat.le_add_right _ _)
theorem sumN_tot (ls : List (List Int)) : ∀ k, k ≤ ls.length → tot ls k = ls.length + sumN (fun i => (ls.getD i []).length) k
  | 0, _ => by rw [tot_zero]; rfl
  | k + 1, h => by rw [tot_succ ls k (by omega), sumN_tot ls k (by omega)]; show _ = ls.length + (sumN _ k + (ls.getD k []).length); omega

/-- n lists of numbers, their slices in block G -/
def ShSS (lo hi : Nat) (W : World) (G n : Nat) (ln : Nat → Nat) : Prop := ∀ j, j < n → ∃ c, W.cell? ⟨G, j, none⟩ = some (.slice (some ⟨c, 0, none⟩) (ln j) (ln j)) ∧ ShI lo hi W c (ln j)
theorem ShSS.kp {lo hi : Nat} {W W' : World} {G n : Nat} {ln : Nat → Nat} (h : ShSS lo hi W G n ln) (k : Mk lo hi W W') : ShSS lo hi W' G n ln := fun j hj => by
  obtain ⟨c, e, hc⟩ := h j hj
  exact ⟨c, k.sl _ _ _ _ _ e, hc.kp k⟩

set_option maxHeartbeats 1000000 in
set_option maxRecDepth 1000000 in
theorem markIntSS_mk (w : World) (lo hi G n cap k : Nat) (ln : Nat → Nat) (h : ShSS lo hi w G n ln) (hn : n ≤ 1048576) (hs : sumN ln n ≤ 1048576) (hk : k ≤ 99511627776) :
    Calls Tryz.prog 41 #[.slice (some ⟨G, 0, none⟩) n cap, .int .i64 (k : Int)] w fun e w' => e = .returned (.int .i64 ((k + sumN ln n : Nat) : Int)) ∧ Mk lo hi w w' := by
  have HS := hid h
  have HL : Hid (∀ i, i < n → sumN ln i + ln i ≤ 1048576) := hid fun i hi => Nat.le_trans (sumN_le ln (show i + 1 ≤ n from hi)) hs
  clear h hs
  go_enter Tryz.func41, Tryz.ntmps41
  go_wp2
  go_loopw [1, 5] (fun u t wr => ∃ j : Nat, j ≤ n ∧ t = .int .i64 j ∧ ∃ c : Nat, u = .int .i64 (c : Int) ∧ Hid (c = k + sumN ln j ∧ Mk lo hi w wr)) (fun _ t _ => n - (intOf t).toNat)
  case atStart => exact ⟨0, Nat.zero_le _, rfl, k, rfl, hid ⟨rfl, Mk.refl _ _ _⟩⟩
  case round =>
    obtain ⟨j, hj, rfl, c, rfl, HM⟩ := hrel
    by_cases hjn : j < n
    · have i1 : (j : Int) < (n : Int) := by omega
      obtain ⟨b, c2, hb⟩ := (HS.out.kp HM.out.2) j hjn
      have hL := HL.out j hjn
      have K := hid (markIntS_mk wr lo hi b (ln j) (ln j) c hb (by omega) (by rw [HM.out.1]; omega))
      have HE : Hid (c + ln j = k + sumN ln (j + 1)) := hid (by rw [HM.out.1]; show _ = k + (sumN ln j + ln j); omega)
      have HM2 := hid HM.out.2
      clear hb hL HM
      generalize ln j = m at *
      go_wp2_with fail
      refine K.out.mono ?_
      rintro e w2 ⟨rfl, hm⟩
      have HN := hid (HM2.out.trans hm)
      clear hm K c2
      go_wp2_with fail
      go_roundw
      case rel => exact ⟨j + 1, by omega, by go_num, _, rfl, hid ⟨HE.out, HN.out⟩⟩
      case measure => simp [intOf]; omega
    · obtain rfl : j = n := by omega
      have i1 : ¬ ((j : Int) < (j : Int)) := by omega
      go_wp2
      go_ret
      exact ⟨ret_int (by have := HM.out.1; omega), HM.out.2⟩


end Go.Proofs.YtegcpplkcahkhaaGreat
