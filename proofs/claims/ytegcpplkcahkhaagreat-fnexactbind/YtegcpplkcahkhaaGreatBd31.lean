import Derived.Deep.Cut
import Derived.Test.YtegcpplkcahkhaaGreatBd07
/-
  spec.l2Find.
-/
namespace Go.Proofs.YtegcpplkcahkhaaGreat
open Go.RowKit

/-- the place of a row among sorted ones, and whether it stands there -/
def FndA (ls : List (List Int)) (row : List Int) (k : Nat) (there : Bool) : Prop :=
  k ≤ ls.length ∧ (∀ i, i < k → cmpL (ls.getD i []) row < 0) ∧ (k < ls.length → ¬ cmpL (ls.getD k []) row < 0) ∧ (there = true ↔ k < ls.length ∧ cmpL (ls.getD k []) row = 0)
/-- how spec.l2Find ends -/
def FndE (w : World) (ls : List (List Int)) (row : List Int) (e : Ending) (w' : World) : Prop := ∃ (k : Nat) (b : Bool), e = .returned (.tuple #[.int .i64 k, .bool b]) ∧ FndA ls row k b ∧ ∃ q, w' = w.drewN q

set_option maxHeartbeats 2000000 in
set_option maxRecDepth 1000000 in
theorem l2Find_calls (w : World) (vr v : Value) (ls : List (List Int)) (row : List Int) (h : ISS w vr ls) (hr : IS w v row) (hl : ls.length ≤ 1099511627776) (hs : ∀ j, j < ls.length → (ls.getD j []).length ≤ 1099511627776) (hl2 : row.length ≤ 1099511627776) :
    Calls Tryz.prog 49 #[vr, v] w (FndE w ls row) := by
  obtain ⟨a, cap, rfl, hc⟩ := h
  have HC : Hid (∀ d j, j < ls.length → ∃ b o u, a = some ⟨b, o, none⟩ ∧ (w.drewN d).cell? ⟨b, o + j, none⟩ = some u ∧ Calls Tryz.prog 76 #[u, v] (w.drewN d) fun e w' => e = .returned (.int .i64 (cmpL (ls.getD j []) row)) ∧ ∃ q, w' = w.drewN q) := hid fun d j hj => by
    rcases hc with h0 | ⟨b, o, rfl, hh⟩
    · omega
    · obtain ⟨u, h1, h2⟩ := hh j hj
      exact ⟨b, o, u, rfl, h1, (l2Compare_calls (w.drewN d) u v _ row h2 hr (hs j hj) hl2).mono fun e w' ⟨e1, q, e2⟩ => ⟨e1, d + q, by rw [e2]; unfold World.drewN; simp [Nat.add_assoc]⟩⟩
  have HF : Hid (∀ k b, k ≤ ls.length → (∀ i, i < k → cmpL (ls.getD i []) row < 0) → (k < ls.length → ¬ cmpL (ls.getD k []) row < 0) → (b = true ↔ k < ls.length ∧ cmpL (ls.getD k []) row = 0) → FndA ls row k b) := hid fun k b h1 h2 h3 h4 => ⟨h1, h2, h3, h4⟩
  obtain ⟨av, cv, ev, -⟩ := hr
  subst ev
  clear hc hs
  obtain ⟨n, hn⟩ : ∃ n, n = ls.length := ⟨_, rfl⟩
  rw [← hn] at HC HF hl ⊢
  clear hn
  generalize row.length = rl at *
  go_enter Tryz.func49, Tryz.ntmps49
  go_wp2_with fail
  go_loopw [6] (fun t wr => ∃ j : Nat, j ≤ n ∧ t = .int .i64 j ∧ Hid ((∀ i, i < j → cmpL (ls.getD i []) row < 0) ∧ ∃ d, wr = w.drewN d)) (fun t _ => n - (intOf t).toNat)
  case atStart => exact ⟨0, Nat.zero_le _, rfl, hid ⟨fun i hi => by omega, 0, rfl⟩⟩
  case round =>
    obtain ⟨j, hj, rfl, HH⟩ := hrel
    obtain ⟨hlt, d, rfl⟩ := HH.out
    by_cases hjn : j < n
    · have j1 : (j : Int) < (n : Int) := by omega
      obtain ⟨b, o, u, ea, c1, K⟩ := HC.out d j hjn
      subst ea
      have HK := hid K
      by_cases hneg : cmpL (ls.getD j []) row < 0
      · have nxt : Hid (∀ i, i < j + 1 → cmpL (ls.getD i []) row < 0) := hid fun i hi => by
          by_cases e : i = j
          · rw [e]; exact hneg
          · exact hlt i (by omega)
        clear K HC HF HH hlt
        generalize cmpL (ls.getD j []) row = z at *
        go_wp2_with (first | (go_at_call 76; refine HK.out.mono ?_; rintro e w2 ⟨rfl, d2, rfl⟩) | fail)
        go_roundw
        case rel => exact ⟨j + 1, by omega, by go_num, hid ⟨nxt.out, _, rfl⟩⟩
        case measure => simp [intOf]; omega
      · have HF2 : Hid (FndA ls row j (cmpL (ls.getD j []) row == 0)) := hid (HF.out j _ (by omega) hlt (fun _ => by omega) (by simp [hjn]))
        have HK2 : Hid (∀ d2, (w.drewN d2).cell? ⟨b, o + j, none⟩ = some u ∧ Calls Tryz.prog 76 #[u, .slice av rl cv] (w.drewN d2) fun e w' => e = .returned (.int .i64 (cmpL (ls.getD j []) row)) ∧ ∃ q, w' = w.drewN q) := hid fun d2 => by
          obtain ⟨b', o', u', e', c', K'⟩ := HC.out d2 j hjn
          simp only [Option.some.injEq, Addr.mk.injEq, and_true] at e'
          obtain ⟨rfl, rfl⟩ := e'
          have : u' = u := Option.some.inj (c'.symm.trans c1)
          subst this
          exact ⟨c', K'⟩
        clear K HC HF HH hlt
        generalize cmpL (ls.getD j []) row = z at *
        go_wp2_with (first | (go_at_call 76; refine HK.out.mono ?_; rintro e w2 ⟨rfl, d2, rfl⟩; have c2 := (HK2.out d2).1; clear HK) | (go_at_call 76; refine (HK2.out d2).2.mono ?_; rintro e w3 ⟨rfl, d3, rfl⟩) | fail)
        go_ret2
        exact ⟨_, _, rfl, HF2.out, _, rfl⟩
    · obtain rfl : j = n := by omega
      have j1 : ¬ ((j : Int) < (j : Int)) := by omega
      have HF2 : Hid (FndA ls row j false) := hid (HF.out j _ (Nat.le_refl _) hlt (fun h => absurd h hjn) (by simp))
      clear HC HF HH hlt
      go_wp2_with fail
      go_ret2
      exact ⟨_, _, rfl, HF2.out, _, rfl⟩

end Go.Proofs.YtegcpplkcahkhaaGreat
