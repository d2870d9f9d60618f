import Derived.Test.YtpdloenmplafiaaPlaces2
/-
  laws.szIntSS: how many cells a slice of slices takes.
-/
namespace Go.Proofs.Ytpdloenmplafiaa
open Go.RowKit


def tot (ls : List (List Int)) (k : Nat) : Nat := ls.length + ((ls.take k).map List.length).sum

theorem tot_zero (ls : List (List Int)) : tot ls 0 = ls.length := by simp [tot]
theorem tot_succ (ls : List (List Int)) (k : Nat) (h : k < ls.length) : tot ls (k + 1) = tot ls k + (ls.getD k []).length := by
  unfold tot
  rw [List.take_add_one, List.getElem?_eq_getElem h, List.getD_eq_getElem?_getD, List.getElem?_eq_getElem h]
  simp only [Option.toList_some, List.map_append, List.map_cons, List.map_nil, List.sum_append, List.sum_cons, List.sum_nil, Option.getD_some]
  omega
theorem tot_le (ls : List (List Int)) : ∀ (d k : Nat), k + d = ls.length → tot ls k ≤ tot ls ls.length := by
  intro d
  induction d with
  | zero => intro k h; rw [show k = ls.length by omega]; exact Nat.le_refl _
  | succ d ih =>
    intro k h
    have h1 := ih (k + 1) (by omega)
    have h2 := tot_succ ls k (by omega)
    omega

/-- the bound that every slice keeps -/
def Fits (ls : List (List Int)) : Prop := ls.length ≤ 9223372036854775807 ∧ ∀ j, (ls.getD j []).length ≤ 9223372036854775807

theorem getD_le_tot (ls : List (List Int)) (j : Nat) : (ls.getD j []).length ≤ tot ls ls.length := by
  by_cases h : j < ls.length
  · have h1 := tot_succ ls j h
    have h2 := tot_le ls (ls.length - (j + 1)) (j + 1) (by omega)
    omega
  · rw [List.getD_eq_getElem?_getD, List.getElem?_eq_none (by omega)]; simp

theorem short_of_tot {ls : List (List Int)} (h : tot ls ls.length ≤ 1048576) : Short ls := by
  have h0 := tot_le ls ls.length 0 (by omega)
  rw [tot_zero] at h0
  exact ⟨by omega, fun j => by have := getD_le_tot ls j; omega⟩

def szSS (ls : List (List Int)) (left : Int) : Int := if left < tot ls ls.length then -1 else left - tot ls ls.length

set_option maxHeartbeats 2000000 in
set_option maxRecDepth 1000000 in
theorem szIntSS_calls (w : World) (ve : Value) (ls : List (List Int)) (left : Int) (h : ISS w ve ls) (hl : Fits ls) (h1 : 0 ≤ left) (h2 : left ≤ 1048576) :
    Calls Try.prog 8 #[ve, .int .i64 left] w fun e w' => e = .returned (.int .i64 (szSS ls left)) ∧ w' = w := by
  obtain ⟨a, cap, rfl, hc⟩ := h
  obtain ⟨hl1, hl2⟩ := hl
  obtain ⟨n, hn⟩ : ∃ n, n = ls.length := ⟨_, rfl⟩
  obtain ⟨res, hres⟩ : ∃ r, r = szSS ls left := ⟨_, rfl⟩
  rw [← hres]
  unfold szSS at hres
  rw [← hn] at hc hl1 hres ⊢
  have HR := hid hres
  have HC := hid hc
  have HN := hid hn
  have HL := hid hl2
  have HT : Hid (∀ k, k ≤ n → tot ls k ≤ tot ls n) := fun k hk => by
    have := tot_le ls (ls.length - k) k (by rw [← HN.out]; omega)
    rw [← HN.out] at this; exact this
  have HS : Hid (∀ k, k < n → tot ls (k + 1) = tot ls k + (ls.getD k []).length) := fun k hk => tot_succ ls k (by rw [← HN.out]; exact hk)
  have H0 : Hid (tot ls 0 = n) := (tot_zero ls).trans HN.out.symm
  clear hc hn hl2 hres
  by_cases hf : left < n
  · have hf1 : left - (n : Int) < 0 := by omega
    have hf2 : Hid (res = -1) := by
      have t0 := HT.out 0 (by omega)
      rw [H0.out] at t0
      exact HR.out.trans (if_pos (by omega))
    go_enter Try.func8, Try.ntmps8
    go_wp2
    go_ret
    exact ⟨ret_int hf2.out.symm, rfl⟩
  have hf1 : ¬ (left - (n : Int) < 0) := by omega
  go_enter Try.func8, Try.ntmps8
  go_wp2
  go_loop [1, 5] (fun u t => ∃ j : Nat, j ≤ n ∧ t = .int .i64 j ∧ ∃ c : Int, u = .int .i64 c ∧ 0 ≤ c ∧ c ≤ left ∧ Hid (c = left - tot ls j)) (fun _ t => n - (intOf t).toNat)
  case atStart => exact ⟨0, Nat.zero_le _, rfl, _, rfl, by omega, by omega, hid (by rw [H0.out])⟩
  case round =>
    obtain ⟨j, hj, rfl, c, rfl, hc0, hc1, hok⟩ := hrel
    by_cases hjn : j < n
    · have i1 : (j : Int) < (n : Int) := by omega
      rcases HC.out with h0 | ⟨b, o, rfl, hcell⟩
      · omega
      · obtain ⟨u, c1, hu⟩ := hcell j hjn
        have hs := HS.out j hjn
        have hm := HL.out j
        obtain ⟨a1, cap1, rfl, -⟩ := hu
        have ht := HT.out (j + 1) (by omega)
        have ho := hok.out
        have hr := HR.out
        clear hcell hok
        generalize (ls.getD j []).length = m at *
        have HK := hid (szIntS_calls w a1 m cap1 c hc0 (by omega) (by omega))
        by_cases hcm : c < m
        · have hf : Hid (res = -1) := hid (hr.trans (if_pos (by omega)))
          rw [if_pos hcm] at HK
          clear hs ht ho hr
          go_wp2_with (first | (go_at_call 43; refine HK.out.mono ?_; rintro e w' ⟨rfl, hw'⟩; subst w'))
          go_ret
          exact ⟨ret_int hf.out.symm, rfl⟩
        · have hf : Hid (c - m = left - tot ls (j + 1)) := hid (by omega)
          have hc2 : ¬ (c - (m : Int) < 0) := by omega
          rw [if_neg hcm] at HK
          clear hs ht ho hr
          go_wp2_with (first | (go_at_call 43; refine HK.out.mono ?_; rintro e w' ⟨rfl, hw'⟩; subst w'))
          go_round
          case rel => exact ⟨j + 1, by omega, by go_num, _, rfl, by omega, by omega, hf⟩
          case measure => simp [intOf]; omega
    · obtain rfl : j = n := by omega
      have ho := hok.out
      have hf : Hid (res = c) := HR.out.trans (by rw [if_neg (by omega)]; omega)
      have i1 : ¬ ((j : Int) < (j : Int)) := by omega
      clear hok ho
      go_wp2
      go_ret
      exact ⟨ret_int hf.out.symm, rfl⟩

end Go.Proofs.Ytpdloenmplafiaa
