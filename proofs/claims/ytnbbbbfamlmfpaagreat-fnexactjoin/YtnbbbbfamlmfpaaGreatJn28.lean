import Derived.BigQuiet
import Derived.Deep.CutBlock
import Derived.Deep.QuietTactic
import Derived.Test.YtnbbbbfamlmfpaaGreatJn12
import Derived.Test.YtnbbbbfamlmfpaaGreatJn13
/-
  spec.l5Part: what a prefix has for a side.
-/
namespace Go.Proofs.YtnbbbbfamlmfpaaGreat
open Go.RowKit

def hasO (o vars : List Int) (i : Nat) : Bool := decide (o.getD i 0 ∈ vars)
theorem prt_take (H : Nat → Bool) (p : List Int) {i : Nat} (hi : i < p.length) : prt H (p.take (i + 1)) = prt H (p.take i) ++ (if H i then [p.getD i 0] else []) := by
  have e : p.take (i + 1) = p.take i ++ [p.getD i 0] := take_snoc hi
  rw [e, prt_snoc, List.length_take, Nat.min_eq_left (by omega)]
set_option maxHeartbeats 4000000 in
set_option maxRecDepth 1000000 in
theorem l5Part_calls (w : World) (a0 a1 : Option Addr) (n1 c0 c1 : Nat) (vo vp : Value) (vars o p : List Int) (hv : IS w (.slice a0 vars.length c0) vars) (ho : IS w vo o) (hp : IS w vp p) (hl : p.length ≤ o.length) (hb : o.length ≤ 1000) (hbv : vars.length ≤ 1000) :
    Calls Tryz.prog 51 #[.agg #[.slice a0 vars.length c0, .slice a1 n1 c1], vo, vp] w fun e w' => ∃ g c, e = .returned (.slice (some ⟨g, 0, none⟩) (prt (hasO o vars) p).length c) ∧ w'.ownsRow w.heap.size 3 1 (.slice (some ⟨g, 0, none⟩) (prt (hasO o vars) p).length c) (prt (hasO o vars) p).length ((prt (hasO o vars) p).map (Value.int .i64)) ∧ Below w.heap.size w w' := by
  obtain ⟨i0, hi, hz0, hz1, hz2⟩ := info_parts Tryz.infoInt
  obtain ⟨ap, cp0, rfl, hcp⟩ := hp
  obtain ⟨ao, co, rfl, hco⟩ := ho
  obtain ⟨n, hn⟩ : ∃ n, n = p.length := ⟨_, rfl⟩
  obtain ⟨no, hno⟩ : ∃ no, no = o.length := ⟨_, rfl⟩
  have HN := hid hn
  obtain ⟨W1, hW1⟩ : ∃ W1, W1 = w.alloc (.cells #[.slice a0 vars.length c0, .slice a1 n1 c1] 79) := ⟨_, rfl⟩
  have hB1 : Below w.heap.size w W1 := by rw [hW1]; exact (Below.refl _ _).alloc (Nat.le_refl _) _
  have hs1 : W1.heap.size = w.heap.size + 1 := by rw [hW1]; simp
  have hbx : W1.cell? ⟨w.heap.size, 0, none⟩ = some (.slice a0 vars.length c0) := by rw [hW1, World.cell?_alloc_at _ _ _ _ rfl]; rfl
  have HV := hid (hv.below hB1)
  have HB1 := hid hB1
  have HCP : Hid (n = 0 ∨ ∃ b q, ap = some ⟨b, q, none⟩ ∧ ∀ j, j < n → W1.cell? ⟨b, q + j, none⟩ = some (.int .i64 (p.getD j 0))) := hid (by
    rw [hn]
    rcases hcp with h0 | ⟨b, q, rfl, h⟩
    · exact Or.inl h0
    · exact Or.inr ⟨b, q, rfl, fun j hj => (hB1.cell (World.block_lt_of_cell? w _ (h j hj))).trans (h j hj)⟩)
  have HCO : Hid (no = 0 ∨ ∃ b q, ao = some ⟨b, q, none⟩ ∧ ∀ j, j < no → W1.cell? ⟨b, q + j, none⟩ = some (.int .i64 (o.getD j 0))) := hid (by
    rw [hno]
    rcases hco with h0 | ⟨b, q, rfl, h⟩
    · exact Or.inl h0
    · exact Or.inr ⟨b, q, rfl, fun j hj => (hB1.cell (World.block_lt_of_cell? w _ (h j hj))).trans (h j hj)⟩)
  obtain ⟨PL, hPL⟩ : ∃ PL : Nat → List Int, PL = fun k => prt (hasO o vars) (p.take k) := ⟨_, rfl⟩
  have H0 : Hid (PL 0 = []) := hid (by rw [hPL]; rfl)
  have HS : Hid (∀ k, k < n → PL (k + 1) = PL k ++ (if hasO o vars k then [p.getD k 0] else [])) := hid (fun k hk => by rw [hPL]; exact prt_take _ p (by omega))
  have HE : Hid (PL n = prt (hasO o vars) p) := hid (by rw [hPL, hn]; show prt _ (p.take p.length) = _; rw [List.take_length])
  rw [← HE.out]
  rw [← hn, ← hno]
  have hnl : n ≤ no := by omega
  have hno1 : no ≤ 1000 := by omega
  have HS1 := hid hs1
  clear hPL hv hcp hco hB1 hl hb hn hno hs1
  go_enter Tryz.func51, Tryz.ntmps51
  go_upto_region 1 with fail
  rw [← hW1]
  clear hW1
  have b0 : Below W1.heap.size W1 (W1.alloc (.cells #[] 3)) := (Below.refl _ _).alloc (Nat.le_refl _) _
  have HB0 := hid b0
  clear b0
  go_upto_block 0 with fail
  go_wp2_with fail
  go_loopw [7, 13] (fun v t wr => ∃ k g cp lk : Nat, k ≤ n ∧ t = .int .i64 k ∧ v = .slice (some ⟨g, 0, none⟩) lk cp ∧ lk ≤ k ∧ Hid (lk = (PL k).length ∧ wr.ownsRow W1.heap.size 3 1 (.slice (some ⟨g, 0, none⟩) lk cp) lk ((PL k).map (Value.int .i64)) ∧ Below W1.heap.size W1 wr)) (fun _ t _ => n - (intOf t).toNat)
  case atStart => exact ⟨0, W1.heap.size, 0, 0, Nat.zero_le _, rfl, rfl, Nat.le_refl _, hid (by rw [H0.out]; exact ⟨rfl, World.ownsRow_made W1 #[] 0 (Nat.le_refl _) (by decide) rfl, HB0.out⟩)⟩
  case round =>
    clear HB0
    obtain ⟨k, g, cp, lk, hk, rfl, rfl, hlk, HT⟩ := hrel
    have hns := HT.out.2.2.size
    by_cases hkn : k < n
    · have i1 : (k : Int) < (n : Int) := by omega
      have i2 : (k : Int) < (no : Int) := by omega
      rcases HCP.out with h0 | ⟨b, q, rfl, hcell⟩
      · omega
      rcases HCO.out with h0 | ⟨bo, qo, rfl, hcelo⟩
      · omega
      have c1 : wr.cell? ⟨b, q + k, none⟩ = some (.int .i64 (p.getD k 0)) := (HT.out.2.2.cell (World.block_lt_of_cell? W1 _ (hcell k hkn))).trans (hcell k hkn)
      have c2 : wr.cell? ⟨bo, qo + k, none⟩ = some (.int .i64 (o.getD k 0)) := (HT.out.2.2.cell (World.block_lt_of_cell? W1 _ (hcelo k (by omega)))).trans (hcelo k (by omega))
      have c3 : wr.cell? ⟨w.heap.size, 0, none⟩ = some (.slice a0 vars.length c0) := (HT.out.2.2.cell (World.block_lt_of_cell? W1 _ hbx)).trans hbx
      have HK := hid (fun W (hW : Below W1.heap.size W1 W) => l1Has_calls W _ vars (o.getD k 0) (HV.out.below hW) (by omega))
      have e1 := HS.out k hkn
      have ey : decide (o.getD k 0 ∈ vars) = hasO o vars k := rfl
      rw [ey] at HK
      clear hcell hcelo ey
      generalize hasO o vars k = y at *
      generalize p.getD k 0 = x at *
      generalize o.getD k 0 = ov at *
      have HQ1 : Hid (∀ q, Below W1.heap.size W1 (wr.drewN q)) := hid fun q => below_drewN HT.out.2.2 q
      cases y
      · rw [if_neg (by decide), List.append_nil] at e1
        have HF : Hid (∀ d, lk = (PL (k + 1)).length ∧ (wr.drewN d).ownsRow W1.heap.size 3 1 (.slice (some ⟨g, 0, none⟩) lk cp) lk ((PL (k + 1)).map (Value.int .i64)) ∧ Below W1.heap.size W1 (wr.drewN d)) := hid (fun d => by rw [e1]; exact ⟨HT.out.1, HT.out.2.1, below_drewN HT.out.2.2 d⟩)
        clear e1 HT
        go_upto_region 5 with fail
        go_quiet (first | (go_at_call 32; exact Calls.quiet_of_same (HK.out _ (HQ1.out _))))
        go_wp2_with fail
        go_roundw
        case rel => exact ⟨k + 1, g, cp, lk, by omega, by go_num, rfl, by omega, hid (HF.out nq)⟩
        case measure => simp [intOf]; omega
      · rw [if_pos rfl] at e1
        have E1 := hid e1
        clear e1
        go_upto_region 5 with fail
        go_quiet (first | (go_at_call 32; exact Calls.quiet_of_same (HK.out _ (HQ1.out _))))
        have HOd : Hid ((wr.drewN nq).ownsRow W1.heap.size 3 1 (.slice (some ⟨g, 0, none⟩) lk cp) lk ((PL k).map (Value.int .i64))) := hid HT.out.2.1
        have HBd := hid (HQ1.out nq)
        have hsd : W1.heap.size ≤ (wr.drewN nq).heap.size := HBd.out.size
        generalize wr.drewN nq = wd at HOd HBd hsd ⊢
        go_wp2_with (first
          | (at_builtin; refine wpList_append_lies _ rfl _ _ 23 rfl W1.heap.size 3 i0 (.int .i64 0) 1 8 Tryz.underlying23 hi hz0 hz1 hz2 rfl (by decide) (.slice (some ⟨g, 0, none⟩) lk cp) _ _ rfl (HOd.out.alloc _) ⟨_, 0, none⟩ 1 1 [.int .i64 x] rfl rfl (new1_cell _ _ _) (fun u hu => by simp at hu; subst hu; rfl) (by decide) (by unfold maxLen; omega) (by omega) (by simp; omega) _ rfl ?_; intro g3 cp3 w3 hown3 hgrow3 hat3 hlt3) | fail)
        have HF : Hid (lk + 1 = (PL (k + 1)).length ∧ w3.ownsRow W1.heap.size 3 1 (.slice (some ⟨g3, 0, none⟩) (lk + 1) cp3) (lk + 1) ((PL (k + 1)).map (Value.int .i64)) ∧ Below W1.heap.size W1 w3) := hid (by
          rw [E1.out, List.length_append, List.length_singleton, List.map_append]
          exact ⟨by rw [HT.out.1], hown3, (HBd.out.alloc hsd _).grown hgrow3 (by simp; omega) (fun q hq => (HOd.out.lt q hq).1)⟩)
        clear hown3 hgrow3 hat3 hlt3 HT
        go_roundw
        case rel => exact ⟨k + 1, g3, cp3, lk + 1, by omega, by go_num, rfl, by omega, HF⟩
        case measure => simp [intOf]; omega
    · obtain rfl : k = n := by omega
      have i1 : ¬ ((k : Int) < (k : Int)) := by omega
      obtain ⟨h1, h3, h4⟩ := HT.out
      have HF : Hid (wr.ownsRow w.heap.size 3 1 (.slice (some ⟨g, 0, none⟩) (PL k).length cp) (PL k).length ((PL k).map (Value.int .i64)) ∧ Below w.heap.size w wr) := hid (by rw [← h1]; exact ⟨own_base h3 (by have := HS1.out; omega), HB1.out.trans (h4.mono (by have := HS1.out; omega))⟩)
      have H1 := hid h1
      clear h1 h3 h4 HT
      go_wp2_with fail
      go_ret
      exact ⟨g, cp, by rw [H1.out]; rfl, HF.out.1, HF.out.2⟩

end Go.Proofs.YtnbbbbfamlmfpaaGreat
