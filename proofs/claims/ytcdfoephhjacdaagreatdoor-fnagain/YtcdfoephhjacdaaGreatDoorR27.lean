import Derived.Test.YtcdfoephhjacdaaGreatDoorR22
import Derived.Test.YtcdfoephhjacdaaGreatDoorR23
import Derived.Test.YtcdfoephhjacdaaGreatDoorR26
/-
  What spec.DrawChecked does, whole.
-/
namespace Go.Proofs.YtcdfoephhjacdaaGreatDoor
open Go.RowKit

theorem ringQ_nm (L : Nat → Int) (n : Nat) (nm : ByteArray) (m : Nat) (s : CSt) : ∀ i, ∀ a ∈ (ringQ L n nm m i s).1, a.1 = nm
  | 0, a, h => by simp [ringQ] at h
  | i + 1, a, h => by
    rw [ringQ] at h
    dsimp only at h
    rw [List.mem_append, List.mem_singleton] at h
    rcases h with h | rfl
    · exact ringQ_nm L n nm m s i a h
    · rfl
theorem atomsQ_nm {m : Nat} {ds : List RelV} (hd : DatG m ds) (hm : 0 < m) (L : Nat → Int) (n k cnt : Nat) (used : List ByteArray) (s : CSt) : ∀ i, ∀ a ∈ (atomsQ L n ds k cnt i used s).1, ∃ z : Nat, z < ds.length ∧ a.1 = (ds.getD z noRel).name
  | 0, a, h => by simp [atomsQ] at h
  | i + 1, a, h => by
    rw [atomsQ] at h
    dsimp only at h
    rw [List.mem_append, List.mem_singleton] at h
    rcases h with h | rfl
    · exact atomsQ_nm hd hm L n k cnt used s i a h
    · exact ⟨_, pk_lt L n ds.length _ (by have := hd.len; omega), rfl⟩
theorem atsQ_nm {m : Nat} {ds : List RelV} (hd : DatG m ds) (hm : 0 < m) (L : Nat → Int) (n : Nat) (s : CSt) : ∀ a ∈ (atsQ L n ds s).1, ∃ z : Nat, z < ds.length ∧ a.1 = (ds.getD z noRel).name := fun a h => by
  have hl := hd.len
  rw [atsQ] at h
  dsimp only at h
  rw [List.mem_append] at h
  rcases h with h | h
  · unfold preQ at h
    dsimp only at h
    split at h
    · exact ⟨0, by omega, ringQ_nm _ _ _ _ _ _ a h⟩
    · cases h
  · exact atomsQ_nm hd hm L n _ _ _ _ _ a h
theorem own_capF {W : World} {B n s : Nat} {e : TypeId} {a : Option Addr} {c : Nat} {xs : List Value} (h : W.ownsRow B e s (.slice a n c) n xs) : n ≤ c := by
  rcases h.2 with ⟨e1, hz⟩ | ⟨g, cap, cur, e1, -, -, hcap, -⟩
  · omega
  · simp only [Value.slice.injEq] at e1; omega

theorem drwDC : DrwDC := fun w g a L n cap s0 h hn hk => drawData_calls w g a L n cap s0 h hn hk
theorem drwQC : DrwQC := fun w g a L n cap s0 m ds v h hn hk hd hm hm4 hi hik => by
  refine (drawQuery_calls w g a L n cap s0 m ds v h hn hk hd hm hm4 hi hik).mono ?_
  rintro e w' ⟨hv, y, us, B, rfl, hD, hu, hB, h1, h2, h3⟩
  obtain ⟨p1, p2, p3, p4⟩ := drawQ_parts L n ds s0
  generalize (drawQ L n ds s0).1 = Q at *
  obtain ⟨a1, c1, e1⟩ := own_shapeR h1
  obtain ⟨a2, c2, e2⟩ := own_shapeR h2
  subst e1 e2
  have hul : us.length = Q.atoms.length := by rw [← hu, List.length_map]
  refine ⟨a1, c1, a2, c2, by rw [p2, hul], by rw [← hul]; exact own_capF h2, hD.kc, fun w'' hk => ?_, ?_⟩
  · have mv : ∀ {e : TypeId} {s : Nat} {x : Value} {k : Nat} {xs : List Value}, w'.ownsRow B e s x k xs → w''.ownsRow B e s x k xs := fun hx => own_move hx fun g hg => hk g (Nat.le_trans hB (hx.lt g hg).1) (hx.lt g hg).2
    have := iq_own (nm := Q.name) (r := Q.ring) (mv h1) (mv h2) (fun u hu' => mv (h3 u hu'))
    rw [hu, hul] at this
    cases Q
    exact this
  · rw [p1]
    exact atsQ_nm hd hm L n s0
theorem drwCA : DrwCA := drawChecked_calls drwDC drwQC
theorem drwC : DrwC := fun w a n cap L hn hc => (drwCA w a n cap L hn hc).mono fun _ _ h => h.plain

end Go.Proofs.YtcdfoephhjacdaaGreatDoor
