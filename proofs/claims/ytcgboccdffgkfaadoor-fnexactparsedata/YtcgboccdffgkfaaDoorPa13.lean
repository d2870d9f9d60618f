import Derived.Shelf.SlSortCmp.NoneTotal
import Derived.Test.YtcgboccdffgkfaaDoorPa12
/-
  slices.SortedFunc(maps.Keys(m), compareTuples).
-/
namespace Go.Proofs.YtcgboccdffgkfaaDoor
open Go.RowKit Go.Maps Go.Shelf Go.Lib Go.Sort

set_option maxHeartbeats 2000000 in
set_option maxRecDepth 1000000 in
theorem sortedT_calls (w : World) (Bm b : Nat) (rs : List (T3 × Int)) (D : DataW Unit) (hm : w.cell? ⟨Bm, 0, none⟩ = some (.map (some b))) (h : Tps w b rs D) (hn : rs.length ≤ 1000000) :
    Calls Tryd.prog 66 #[.func (.func 93) #[] #[.pointer (some ⟨Bm, 0, none⟩)], .func (.func 68) #[] #[]] w fun e w' => ∃ (v : Value) (ss : List T3), e = .returned v ∧ ss.Perm (rs.map Prod.fst) ∧ (ss.Pairwise fun a b => ¬ cmpL (tl b) (tl a) < 0) ∧ w'.ownsRow w.heap.size 102 3 v ss.length (ss.flatMap tc) ∧ Below w.heap.size w w' := by
  have eg : ∀ args w, (callFunc 93 args).run Tryd.prog w = .ok (.enter 93 args) w := enters_of Tryd.func93 (by kernel_rfl) rfl
  have hst := keysT_stops Fence.wide 8 trivial rfl (by decide) Bm b rs.length D w (World.block_lt_of_cell? w _ hm) hm h.own h.all
  have KC := callsIn_wide.1 (collectT_in Fence.wide 10 trivial trivial rfl (by decide) 93 #[.pointer (some ⟨Bm, 0, none⟩)] trivial eg _ (Maps.size D) (by rw [h.size]; exact hn) w hst)
  have hsz := h.size
  have hperm : ∀ ss : List T3, (ss.Nodup ∧ ∀ x, x ∈ ss ↔ Maps.has D (kl x) = true) → ss.Perm (rs.map Prod.fst) := fun ss hs => by
    refine (List.perm_ext_iff_of_nodup hs.1 h.nd).2 fun x => ?_
    rw [hs.2 x, h.has x, decide_eq_true_eq]
  have HK := hid KC
  have HP := hid hperm
  clear KC hst hperm h
  go_enter Tryd.func66, Tryd.ntmps66
  go_upto_region 2 with (first | (go_at_call 91; refine HK.out.mono ?_; rintro e w1 ⟨v, ss, rfl, hS, hlN, hrow, hnil, hb⟩) | fail)
  have hl2 : ss.length ≤ 1000000 := by omega
  have hpe := HP.out ss hS
  rcases hrow.2 with ⟨rfl, hz⟩ | ⟨gb, cap, cur, rfl, hbase, hgb, r1, r2, r3, r4⟩
  · have hss : ss = [] := List.eq_nil_of_length_eq_zero hz
    subst hss
    have cN := AnyF.slices_SortFunc_none Tryd.sortT none 0 (.func (.func 68) #[] #[]) w1
    change Calls Tryd.prog 92 _ _ _ at cN
    have HN := hid cN
    clear cN HK HP
    go_wp2_with (first | (go_at_call 92; refine HN.out.mono ?_; rintro e w' ⟨rfl, rfl⟩) | fail)
    go_ret
    exact ⟨.slice none 0 0, rfl, [], hpe, List.Pairwise.nil, hrow, hb⟩
  · have HN := hid (sortT_calls w1 w.heap.size gb cap ss hrow hl2)
    clear HK HP
    go_wp2_with (first | (go_at_call 92; refine HN.out.mono ?_; rintro e w' ⟨rfl, ss', hp', hpw, hown', hb'⟩) | fail)
    go_ret
    exact ⟨_, rfl, ss', hp'.trans hpe, hpw, by rw [hp'.length_eq]; exact hown', hb.trans hb'⟩

end Go.Proofs.YtcgboccdffgkfaaDoor
