import Derived.Test.YtcdfoephhjacdaaGreatDoorR18
/-
  A query's reading, step by step: plain mathematics; a query in the making.
-/
namespace Go.Proofs.YtcdfoephhjacdaaGreatDoor
open Go.RowKit

def tkc {α : Type} (ts : List TkV) (c p : Nat) (F : Nat → Except Nat α) : Except Nat α := match tk ts [c] p with | .error e => .error e | .ok (_, p') => F p'
def fin5 (ts : List TkV) (nm : ByteArray) (hd : List ByteArray) (r : Int) (res : Except Nat (List AtomV × Nat)) : Except Nat QV := match res with | .error e => .error e | .ok (ats, p5) => if p5 < ts.length then .error p5 else .ok ⟨nm, hd, r, ats⟩
def c4 (ts : List TkV) (nm : ByteArray) (hd : List ByteArray) (r : Int) (p : Nat) : Except Nat QV := tkc ts 58 p fun p4 => fin5 ts nm hd r (atsF ts (ts.length + 1) p4 [])
def c41 (ts : List TkV) (nm : ByteArray) (hd : List ByteArray) (r : Int) (p : Nat) : Except Nat QV := tkc ts 41 p (c4 ts nm hd r)
def c3 (ts : List TkV) (nm : ByteArray) (res : Except Nat (List ByteArray × Nat × Nat)) : Except Nat QV := match res with | .error e => .error e | .ok (hd, r, p3) => c4 ts nm hd (r : Int) p3
def c2 (ts : List TkV) (nm : ByteArray) (p : Nat) : Except Nat QV := tkc ts 40 p fun p2 => c3 ts nm (headF ts p2)
def c1 (ts : List TkV) : Except Nat QV := match tk ts [97] 0 with | .error e => .error e | .ok (t, p1) => c2 ts t.nm p1
theorem qry_c1 (ts : List TkV) : qryF ts = c1 ts := by
  unfold qryF c1 c2 tkc c3 c4 tkc fin5
  rfl
theorem mem1 {a b : Nat} (h : a ∈ [b]) : a = b := by simpa using h
theorem tkc_yes {α : Type} {ts : List TkV} {c p : Nat} {F : Nat → Except Nat α} (h : tkB ts p false c = true) : tkc ts c p F = F (p + 1) := by
  obtain ⟨-, hp, hk⟩ := tkB_iff.1 h
  unfold tkc
  rw [tk_ok hp (by rw [hk]; simp)]
theorem tkc_no {α : Type} {ts : List TkV} {c p : Nat} {F : Nat → Except Nat α} (h : tkB ts p false c = false) : tkc ts c p F = .error p := by
  unfold tkc
  rw [tk_no (fun hp hm => by have := mem1 hm; rw [tkB_iff.2 ⟨rfl, hp, this⟩] at h; cases h)]
/-- how a reading stands: it failed at p, or goes on from p -/
def Std {α : Type} (R : Except Nat α) (F : Nat → Except Nat α) (p : Nat) (b : Bool) : Prop := R = if b then .error p else F p
theorem Std.want {α : Type} {ts : List TkV} {R : Except Nat α} {c p : Nat} {b : Bool} {F : Nat → Except Nat α} (h : Std R (fun p => tkc ts c p F) p b) : Std R F (if tkB ts p b c then p + 1 else p) (if tkB ts p b c then b else true) := by
  unfold Std at *
  cases b with
  | true => rw [show tkB ts p true c = false from rfl]; exact h
  | false =>
    cases ht : tkB ts p false c
    · rw [h]; exact tkc_no ht
    · rw [h]; exact tkc_yes ht
theorem Std.start (ts : List TkV) : Std (qryF ts) (c2 ts (if ntB ts 0 false 97 then (ts.getD 0 noTk).nm else ⟨#[]⟩)) (if ntB ts 0 false 97 then 1 else 0) (if ntB ts 0 false 97 then false else true) := by
  unfold Std
  rw [qry_c1]
  unfold c1
  cases hn : ntB ts 0 false 97
  · rw [tk_no (fun hp hm => by have := mem1 hm; rw [ntB_iff.2 ⟨rfl, hp, this⟩] at hn; cases hn)]; rfl
  · obtain ⟨-, hp, hk⟩ := ntB_iff.1 hn
    rw [tk_ok hp (by rw [hk]; simp)]; rfl

/-- inside the head, behind a name -/
def HdI (ts : List TkV) (R : Except Nat QV) (nm : ByteArray) (p : Nat) (b : Bool) (hd : List ByteArray) : Prop := if b then R = .error p else ∃ f, ts.length ≤ p + f ∧ R = c3 ts nm (hdF ts f p hd)
theorem HdI.first {ts : List TkV} {R : Except Nat QV} {nm : ByteArray} {p : Nat} {b : Bool} (h : Std R (fun p => c3 ts nm (headF ts p)) p b) (hk : kdN ts p = 110) : HdI ts R nm (if ntB ts p b 97 then p + 1 else p) (if ntB ts p b 97 then b else true) ([] ++ [if ntB ts p b 97 then (ts.getD p noTk).nm else ⟨#[]⟩]) := by
  cases b with
  | true => exact h
  | false =>
    have hn : ntB ts p false 97 = true := ntB_iff.2 ⟨rfl, kdN_name.1 hk⟩
    obtain ⟨-, hp, hk⟩ := ntB_iff.1 hn
    rw [hn]
    have e : R = c3 ts nm (headF ts p) := h
    refine ⟨ts.length + 1, by omega, ?_⟩
    rw [e]
    unfold headF
    rw [tk_ok hp (by rw [hk]; simp)]
    rfl
theorem HdI.none {ts : List TkV} {R : Except Nat QV} {nm : ByteArray} {p : Nat} {b : Bool} (h : Std R (fun p => c3 ts nm (headF ts p)) p b) (hk : ¬ kdN ts p = 110) : Std R (fun p => c3 ts nm (endF ts p [])) p b := by
  unfold Std at *
  cases b with
  | true => exact h
  | false =>
    rw [h]
    show c3 ts nm (headF ts p) = c3 ts nm (endF ts p [])
    unfold headF
    rw [tk_no (fun hp hm => hk (kdN_name.2 ⟨hp, mem1 hm⟩))]
theorem end_far {ts : List TkV} {p : Nat} {hd : List ByteArray} (h : ts.length ≤ p) : endF ts p hd = .error p := by
  unfold endF
  rw [tk_no (fun hp _ => by omega)]
theorem HdI.next {ts : List TkV} {R : Except Nat QV} {nm : ByteArray} {p : Nat} {b : Bool} {hd : List ByteArray} (h : HdI ts R nm p b hd) (ht : tkB ts p b 44 = true) : HdI ts R nm (if ntB ts (p + 1) b 97 then p + 1 + 1 else p + 1) (if ntB ts (p + 1) b 97 then b else true) (hd ++ [if ntB ts (p + 1) b 97 then (ts.getD (p + 1) noTk).nm else ⟨#[]⟩]) := by
  obtain ⟨rfl, hp, hk⟩ := tkB_iff.1 ht
  obtain ⟨f, hf, e⟩ := h
  cases f with
  | zero => omega
  | succ f =>
    rw [hdF, tk_ok hp (by rw [hk]; simp)] at e
    cases hn : ntB ts (p + 1) false 97
    · show R = .error (p + 1)
      rw [e]
      simp only
      rw [tk_no (fun hp hm => by have := mem1 hm; rw [ntB_iff.2 ⟨rfl, hp, this⟩] at hn; cases hn)]
      rfl
    · obtain ⟨-, hp2, hk2⟩ := ntB_iff.1 hn
      refine ⟨f, by show ts.length ≤ p + 1 + 1 + f; omega, ?_⟩
      rw [e]
      simp only
      rw [tk_ok hp2 (by rw [hk2]; simp)]
      rfl
theorem HdI.fin {ts : List TkV} {R : Except Nat QV} {nm : ByteArray} {p : Nat} {b : Bool} {hd : List ByteArray} (h : HdI ts R nm p b hd) (ht : tkB ts p b 44 = false) : Std R (fun p => c3 ts nm (endF ts p hd)) p b := by
  unfold Std
  cases b with
  | true => exact h
  | false =>
    obtain ⟨f, hf, e⟩ := h
    rw [e]
    cases f with
    | zero => show c3 ts nm (.error p) = c3 ts nm (endF ts p hd); rw [end_far (by omega)]
    | succ f =>
      rw [hdF, tk_no (fun hp hm => by have := mem1 hm; rw [tkB_iff.2 ⟨rfl, hp, this⟩] at ht; cases ht)]
      rfl

theorem Std.first' {ts : List TkV} {R : Except Nat QV} {nm : ByteArray} {p : Nat} {b : Bool} (h : Std R (fun p => c3 ts nm (headF ts p)) p b) (hk : kdN ts p = 110) : HdI ts R nm (if ntB ts p b 97 then p + 1 else p) (if ntB ts p b 97 then b else true) ([] ++ [if ntB ts p b 97 then (ts.getD p noTk).nm else ⟨#[]⟩]) := HdI.first h hk
theorem HdI.next' {ts : List TkV} {R : Except Nat QV} {nm : ByteArray} {p : Nat} {b : Bool} {hd : List ByteArray} (h : HdI ts R nm p b hd) (ht : tkB ts p b 44 = true) : HdI ts R nm (if ntB ts (p + 1) b 97 then p + 1 + 1 else p + 1) (if ntB ts (p + 1) b 97 then b else true) (hd ++ [if ntB ts (p + 1) b 97 then (ts.getD (p + 1) noTk).nm else ⟨#[]⟩]) ∧ p + 1 ≤ ts.length := ⟨h.next ht, (tkB_iff.1 ht).2.1⟩

/-- the ring's number of the token at p -/
def rgN (ts : List TkV) (p : Nat) : Nat := if kdN ts p = 110 then rngN (ts.getD p noTk).nm else 0
theorem Std.noring {ts : List TkV} {R : Except Nat QV} {nm : ByteArray} {p : Nat} {b : Bool} {hd : List ByteArray} (h : Std R (fun p => c3 ts nm (endF ts p hd)) p b) (ht : tkB ts p b 59 = false) : Std R (c41 ts nm hd 0) p b := by
  unfold Std at *
  cases b with
  | true => exact h
  | false =>
    rw [h]
    show c3 ts nm (endF ts p hd) = c41 ts nm hd 0 p
    unfold c41
    cases h41 : tkB ts p false 41
    · rw [tkc_no h41]
      unfold endF
      rw [tk_no (fun hp hm => by
        simp only [List.mem_cons, List.not_mem_nil, or_false] at hm
        rcases hm with hm | hm
        · rw [tkB_iff.2 ⟨rfl, hp, hm⟩] at ht; cases ht
        · rw [tkB_iff.2 ⟨rfl, hp, hm⟩] at h41; cases h41)]
      rfl
    · rw [tkc_yes h41]
      obtain ⟨-, hp, hk⟩ := tkB_iff.1 h41
      unfold endF
      rw [tk_ok hp (by rw [hk]; simp)]
      simp only
      rw [if_pos hk]
      rfl
theorem Std.ring {ts : List TkV} {R : Except Nat QV} {nm : ByteArray} {p : Nat} {b : Bool} {hd : List ByteArray} (h : Std R (fun p => c3 ts nm (endF ts p hd)) p b) (ht : tkB ts p b 59 = true) :
    (rgN ts (p + 1) = 0 → Std R (c41 ts nm hd 0) (p + 1) true) ∧ (rgN ts (p + 1) ≠ 0 → ntB ts (p + 1) b 97 = true ∧ Std R (c41 ts nm hd (rgN ts (p + 1) : Nat)) (p + 1 + 1) b) := by
  obtain ⟨rfl, hp, hk⟩ := tkB_iff.1 ht
  have e : R = c3 ts nm (endF ts p hd) := h
  unfold endF at e
  rw [tk_ok hp (by rw [hk]; simp)] at e
  simp only at e
  rw [if_neg (by rw [hk]; decide)] at e
  unfold rngF at e
  unfold rgN
  by_cases hkd : kdN ts (p + 1) = 110
  · obtain ⟨hp1, hk1⟩ := kdN_name.1 hkd
    rw [if_pos hkd]
    rw [tk_ok hp1 (by rw [hk1]; simp)] at e
    simp only at e
    refine ⟨fun h0 => ?_, fun h0 => ⟨ntB_iff.2 ⟨rfl, hp1, hk1⟩, ?_⟩⟩
    · rw [if_pos h0] at e
      exact e
    · rw [if_neg h0] at e
      show R = c41 ts nm hd _ (p + 1 + 1)
      rw [e]
      unfold c41
      cases h41 : tkB ts (p + 1 + 1) false 41
      · rw [tkc_no h41, tk_no (fun hp hm => by have := mem1 hm; rw [tkB_iff.2 ⟨rfl, hp, this⟩] at h41; cases h41)]
        rfl
      · obtain ⟨-, hp2, hk2⟩ := tkB_iff.1 h41
        rw [tkc_yes h41, tk_ok hp2 (by rw [hk2]; simp)]
        rfl
  · rw [if_neg hkd]
    refine ⟨fun _ => ?_, fun h0 => absurd rfl h0⟩
    rw [tk_no (fun hp hm => hkd (kdN_name.2 ⟨hp, mem1 hm⟩))] at e
    exact e

/-- behind an atom -/
def cntA (ts : List TkV) (f p : Nat) (acc : List AtomV) : Except Nat (List AtomV × Nat) :=
  match tk ts [44, 46] p with
  | .error e => .error e
  | .ok (u, p2) => if u.k = 44 then atsF ts f p2 acc else .ok (acc, p2)
theorem trm_pos (ts : List TkV) : ∀ (f p : Nat) (acc : List TermV) (l : List TermV) (p3 : Nat), trmF ts f p acc = .ok (l, p3) → p < p3 ∧ p3 ≤ ts.length
  | 0, p, acc, l, p3, h => by cases h
  | f + 1, p, acc, l, p3, h => by
    rw [trmF] at h
    by_cases h1 : p < ts.length ∧ (ts.getD p noTk).k ∈ [97, 48]
    · rw [tk_ok h1.1 h1.2] at h
      simp only at h
      by_cases h2 : p + 1 < ts.length ∧ (ts.getD (p + 1) noTk).k ∈ [44, 41]
      · rw [tk_ok h2.1 h2.2] at h
        simp only at h
        by_cases h3 : (ts.getD (p + 1) noTk).k = 44
        · rw [if_pos h3] at h
          have := trm_pos ts f _ _ _ _ h
          omega
        · rw [if_neg h3] at h
          have e := Except.ok.inj h
          have e2 : p + 1 + 1 = p3 := congrArg Prod.snd e
          omega
      · rw [show tk ts [44, 41] (p + 1) = .error (p + 1) from if_neg h2] at h
        cases h
    · rw [show tk ts [97, 48] p = .error p from if_neg h1] at h
      cases h
theorem atm_pos {ts : List TkV} {p p3 : Nat} {a : AtomV} (h : atmF ts p = .ok (a, p3)) : p < p3 ∧ p3 ≤ ts.length := by
  unfold atmF at h
  by_cases h1 : p < ts.length ∧ (ts.getD p noTk).k ∈ [97]
  · rw [tk_ok h1.1 h1.2] at h
    simp only at h
    by_cases h2 : p + 1 < ts.length ∧ (ts.getD (p + 1) noTk).k ∈ [40]
    · rw [tk_ok h2.1 h2.2] at h
      simp only at h
      cases ht : trmF ts (ts.length + 1) (p + 1 + 1) [] with
      | error e => rw [ht] at h; cases h
      | ok x =>
        obtain ⟨l, p4⟩ := x
        rw [ht] at h
        have := trm_pos ts _ _ _ _ _ ht
        have e := Except.ok.inj h
        have e2 : p4 = p3 := congrArg Prod.snd e
        omega
    · rw [show tk ts [40] (p + 1) = .error (p + 1) from if_neg h2] at h
      cases h
  · rw [show tk ts [97] p = .error p from if_neg h1] at h
    cases h
theorem atm_far {ts : List TkV} {p : Nat} (h : ts.length ≤ p) : atmF ts p = .error p := by
  unfold atmF
  rw [tk_no (fun hp _ => by omega)]
theorem trm_err (ts : List TkV) : ∀ (f p : Nat) (acc : List TermV) (e : Nat), p ≤ ts.length → trmF ts f p acc = .error e → e ≤ ts.length
  | 0, p, acc, e, hp, h => by rw [trmF] at h; have := Except.error.inj h; omega
  | f + 1, p, acc, e, hp, h => by
    rw [trmF] at h
    by_cases h1 : p < ts.length ∧ (ts.getD p noTk).k ∈ [97, 48]
    · rw [tk_ok h1.1 h1.2] at h
      simp only at h
      by_cases h2 : p + 1 < ts.length ∧ (ts.getD (p + 1) noTk).k ∈ [44, 41]
      · rw [tk_ok h2.1 h2.2] at h
        simp only at h
        by_cases h3 : (ts.getD (p + 1) noTk).k = 44
        · rw [if_pos h3] at h
          exact trm_err ts f _ _ _ (by omega) h
        · rw [if_neg h3] at h
          cases h
      · rw [show tk ts [44, 41] (p + 1) = .error (p + 1) from if_neg h2] at h
        have := Except.error.inj h; omega
    · rw [show tk ts [97, 48] p = .error p from if_neg h1] at h
      have := Except.error.inj h; omega
theorem atm_err {ts : List TkV} {p e : Nat} (hp : p ≤ ts.length) (h : atmF ts p = .error e) : e ≤ ts.length := by
  unfold atmF at h
  by_cases h1 : p < ts.length ∧ (ts.getD p noTk).k ∈ [97]
  · rw [tk_ok h1.1 h1.2] at h
    simp only at h
    by_cases h2 : p + 1 < ts.length ∧ (ts.getD (p + 1) noTk).k ∈ [40]
    · rw [tk_ok h2.1 h2.2] at h
      simp only at h
      cases ht : trmF ts (ts.length + 1) (p + 1 + 1) [] with
      | error e2 => rw [ht] at h; have := Except.error.inj h; have := trm_err ts _ _ _ _ (by omega) ht; omega
      | ok x => rw [ht] at h; cases h
    · rw [show tk ts [40] (p + 1) = .error (p + 1) from if_neg h2] at h
      have := Except.error.inj h; omega
  · rw [show tk ts [97] p = .error p from if_neg h1] at h
    have := Except.error.inj h; omega

/-- inside the atoms, behind one -/
def AsI (ts : List TkV) (R : Except Nat QV) (nm : ByteArray) (hd : List ByteArray) (r : Int) (p : Nat) (b : Bool) (acc : List AtomV) : Prop := if b then R = .error p else ∃ f, ts.length ≤ p + f ∧ R = fin5 ts nm hd r (cntA ts f p acc)
/-- ahead of one -/
def AsB (ts : List TkV) (R : Except Nat QV) (nm : ByteArray) (hd : List ByteArray) (r : Int) (p : Nat) (b : Bool) (acc : List AtomV) : Prop := if b then R = .error p else ∃ f, ts.length ≤ p + f ∧ R = fin5 ts nm hd r (atsF ts f p acc)
section
variable {ts : List TkV} {R : Except Nat QV} {nm : ByteArray} {hd : List ByteArray} {r : Int} {p : Nat} {b : Bool} {acc : List AtomV}
theorem AsB.start (h : Std R (fun p4 => fin5 ts nm hd r (atsF ts (ts.length + 1) p4 [])) p b) : AsB ts R nm hd r p b [] := by
  cases b with
  | true => exact h
  | false => exact ⟨ts.length + 1, by omega, h⟩
theorem AsB.atom {a : AtomV} (h : AsB ts R nm hd r p b acc) (ha : ∀ a' p', atmB ts p b = .ok (a', p') → a' = a) : AsI ts R nm hd r (aft (atmB ts p b)).1 (aft (atmB ts p b)).2 (acc ++ [a]) := by
  cases b with
  | true => exact h
  | false =>
    obtain ⟨f, hf, e⟩ := h
    have e0 : atmB ts p false = atmF ts p := rfl
    rw [e0] at ha ⊢
    cases f with
    | zero =>
      rw [atm_far (by omega)]
      show R = .error p
      rw [e]; rfl
    | succ f =>
      rw [atsF] at e
      cases hm : atmF ts p with
      | error e2 =>
        rw [hm] at e
        show R = .error e2
        rw [e]; rfl
      | ok x =>
        obtain ⟨a', p1⟩ := x
        have hp := atm_pos hm
        have := ha a' p1 hm
        subst this
        rw [hm] at e
        exact ⟨f, by show ts.length ≤ p1 + f; omega, e⟩
theorem AsI.next (h : AsI ts R nm hd r p b acc) (ht : tkB ts p b 44 = true) : AsB ts R nm hd r (p + 1) b acc := by
  obtain ⟨rfl, hp, hk⟩ := tkB_iff.1 ht
  obtain ⟨f, hf, e⟩ := h
  refine ⟨f, by omega, ?_⟩
  rw [e]
  unfold cntA
  rw [tk_ok hp (by rw [hk]; simp)]
  simp only
  rw [if_pos hk]
theorem AsI.fin (h : AsI ts R nm hd r p b acc) (ht : tkB ts p b 44 = false) : Std R (fun p => if p < ts.length then .error p else .ok ⟨nm, hd, r, acc⟩) (if tkB ts p b 46 then p + 1 else p) (if tkB ts p b 46 then b else true) := by
  unfold Std
  cases b with
  | true => rw [show tkB ts p true 46 = false from rfl]; exact h
  | false =>
    obtain ⟨f, hf, e⟩ := h
    rw [e]
    unfold cntA
    cases h46 : tkB ts p false 46
    · rw [tk_no (fun hp hm => by
        simp only [List.mem_cons, List.not_mem_nil, or_false] at hm
        rcases hm with hm | hm
        · rw [tkB_iff.2 ⟨rfl, hp, hm⟩] at ht; cases ht
        · rw [tkB_iff.2 ⟨rfl, hp, hm⟩] at h46; cases h46)]
      rfl
    · obtain ⟨-, hp, hk⟩ := tkB_iff.1 h46
      rw [tk_ok hp (by rw [hk]; simp)]
      simp only
      rw [if_neg (by rw [hk]; decide)]
      rfl
theorem aft_le (hp : p ≤ ts.length) : (aft (atmB ts p b)).1 ≤ ts.length := by
  cases b with
  | true => exact hp
  | false =>
    show (aft (atmF ts p)).1 ≤ ts.length
    cases hm : atmF ts p with
    | error e => exact atm_err hp hm
    | ok x => exact (atm_pos hm).2
theorem aft_ge : p ≤ (aft (atmB ts p b)).1 ∨ (aft (atmB ts p b)).2 = true := by
  cases b with
  | true => exact Or.inr rfl
  | false =>
    show p ≤ (aft (atmF ts p)).1 ∨ (aft (atmF ts p)).2 = true
    cases hm : atmF ts p with
    | error e => exact Or.inr rfl
    | ok x => exact Or.inl (Nat.le_of_lt (atm_pos hm).1)
end

/-- an atom in memory: its name, its terms' slice, its terms -/
abbrev UV := ByteArray × Value × List TermV
def atc (u : UV) : List Value := [.string u.1, u.2.1]
def uAt (u : UV) : AtomV := (u.1, u.2.2)
def Apr (a b : Value) : Prop := ∀ q, a.ownBlock = some q → b.ownBlock ≠ some q
/-- a query in the making: its block A -/
structure QyS (w0 W : World) (g A : Nat) (nm : ByteArray) (x : Value) (hd : List ByteArray) (r : Int) (y : Value) (us : List UV) : Prop where
  blk : W.heap[A]? = some (.cells #[.string nm, x, .int .i64 r, y] 29 (0, 0))
  own1 : W.ownsRow w0.heap.size 9 1 x hd.length (hd.map Value.string)
  own2 : W.ownsRow w0.heap.size 55 2 y us.length (us.flatMap atc)
  tms : ∀ u ∈ us, W.ownsRow w0.heap.size 89 2 u.2.1 u.2.2.length (u.2.2.flatMap tmc)
  ap : us.Pairwise fun u v => Apr u.2.1 v.2.1
  ex : Ex g w0 W
  hA : w0.heap.size ≤ A
  hg : g < w0.heap.size
theorem own_setT {W : World} {B n s r o : Nat} {e e' : TypeId} {cur : Array Value} {x y : Value} {xs : List Value} (h : W.ownsRow B e s x n xs) (hr : W.heap[r]? = some (.cells cur e' (0, 0))) (hne : e ≠ e') : (W.setCell ⟨r, o, none⟩ y).ownsRow B e s x n xs :=
  own_move h fun b hb => Below.heap_setCell _ _ _ _ (fun eq => own_ne h ⟨cur, hr⟩ hne (by rw [show r = b from eq.symm]; exact hb.symm))
section
variable {w0 W W' w3 : World} {g A : Nat} {nm : ByteArray} {x y : Value} {hd : List ByteArray} {r : Int} {us : List UV}
theorem QyS.c0 (h : QyS w0 W g A nm x hd r y us) : W.cell? ⟨A, 0, none⟩ = some (.string nm) := cell_of_row _ _ _ _ _ _ h.blk
theorem QyS.c1 (h : QyS w0 W g A nm x hd r y us) : W.cell? ⟨A, 1, none⟩ = some x := cell_of_row _ _ _ _ _ _ h.blk
theorem QyS.c2 (h : QyS w0 W g A nm x hd r y us) : W.cell? ⟨A, 2, none⟩ = some (.int .i64 r) := cell_of_row _ _ _ _ _ _ h.blk
theorem QyS.c3 (h : QyS w0 W g A nm x hd r y us) : W.cell? ⟨A, 3, none⟩ = some y := cell_of_row _ _ _ _ _ _ h.blk
theorem QyS.lt (h : QyS w0 W g A nm x hd r y us) : A < W.heap.size := World.block_lt_of_cell? W _ h.c0
theorem QyS.free (h : QyS w0 W g A nm x hd r y us) (q : Nat) : W.frozen? ⟨A, q, none⟩ = false := by
  unfold World.frozen?
  rw [h.blk]
  simp
theorem QyS.Ag (h : QyS w0 W g A nm x hd r y us) : A ≠ g := by have := h.hA; have := h.hg; omega
theorem own_ex {B n s : Nat} {e : TypeId} {v : Value} {xs : List Value} (h : W.ownsRow B e s v n xs) (he : Ex g W W') (hg : g < B) : W'.ownsRow B e s v n xs :=
  own_move h fun b hb => he.block b (h.lt b hb).2 (by have := (h.lt b hb).1; omega)
theorem QyS.next (h : QyS w0 W g A nm x hd r y us) (he : Ex g W W') : QyS w0 W' g A nm x hd r y us :=
  ⟨(he.block A h.lt h.Ag).trans h.blk, own_ex h.own1 he h.hg, own_ex h.own2 he h.hg, fun u hu => own_ex (h.tms u hu) he h.hg, h.ap, h.ex.trans he, h.hA, h.hg⟩
theorem QyS.bel1 {o : Obj} (h : QyS w0 W g A nm x hd r y us) (hg : (W.alloc o).grownBy w3 x.ownBlock) : Below w0.heap.size W w3 :=
  ((Below.refl w0.heap.size W).alloc h.ex.size o).grown hg (by have := h.ex.size; simp; omega) (fun b hb => (h.own1.lt b hb).1)
theorem QyS.bel2 {o : Obj} (h : QyS w0 W g A nm x hd r y us) (hg : (W.alloc o).grownBy w3 y.ownBlock) : Below w0.heap.size W w3 :=
  ((Below.refl w0.heap.size W).alloc h.ex.size o).grown hg (by have := h.ex.size; simp; omega) (fun b hb => (h.own2.lt b hb).1)
theorem QyS.blk1 {o : Obj} (h : QyS w0 W g A nm x hd r y us) (hg : (W.alloc o).grownBy w3 x.ownBlock) : w3.heap[A]? = some (.cells #[.string nm, x, .int .i64 r, y] 29 (0, 0)) :=
  (kept_of hg h.lt (own_ne h.own1 ⟨_, h.blk⟩ (by decide))).trans h.blk
theorem QyS.blk2 {o : Obj} (h : QyS w0 W g A nm x hd r y us) (hg : (W.alloc o).grownBy w3 y.ownBlock) : w3.heap[A]? = some (.cells #[.string nm, x, .int .i64 r, y] 29 (0, 0)) :=
  (kept_of hg h.lt (own_ne h.own2 ⟨_, h.blk⟩ (by decide))).trans h.blk
/-- rows of other kinds stand where one grows -/
theorem own_kept {o : Obj} {v u : Value} {B n s n' s' : Nat} {e e' : TypeId} {xs ys : List Value} (h : W.ownsRow B e s v n xs) (h' : W.ownsRow B e' s' u n' ys) (hne : e ≠ e') (hg : (W.alloc o).grownBy w3 u.ownBlock) : w3.ownsRow B e s v n xs :=
  own_move h fun b hb => kept_of hg (h.lt b hb).2 (fun eq => own_ne h' (own_typ h hb) (Ne.symm hne) eq)
theorem QyS.head {o : Obj} {x' : Value} {t : ByteArray} (h : QyS w0 W g A nm x hd r y us) (hg : (W.alloc o).grownBy w3 x.ownBlock) (hown : w3.ownsRow w0.heap.size 9 1 x' (hd.length + 1) (hd.map Value.string ++ [.string t])) : QyS w0 (w3.setCell ⟨A, 1, none⟩ x') g A nm x' (hd ++ [t]) r y us := by
  have hb := h.blk1 hg
  refine ⟨by rw [heap_setCell_same _ _ _ _ _ _ hb]; rfl, ?_, ?_, fun u hu => ?_, h.ap, ?_, h.hA, h.hg⟩
  · rw [List.length_append, List.length_singleton, List.map_append]
    exact own_setT hown hb (by decide)
  · exact own_setT (own_kept h.own2 h.own1 (by decide) hg) hb (by decide)
  · exact own_setT (own_kept (h.tms u hu) h.own1 (by decide) hg) hb (by decide)
  · exact (h.ex.belN (h.bel1 hg)).new h.hA
theorem QyS.ring (h : QyS w0 W g A nm x hd r y us) (r' : Int) : QyS w0 (W.setCell ⟨A, 2, none⟩ (.int .i64 r')) g A nm x hd r' y us :=
  ⟨by rw [heap_setCell_same _ _ _ _ _ _ h.blk]; rfl, own_setT h.own1 h.blk (by decide), own_setT h.own2 h.blk (by decide), fun u hu => own_setT (h.tms u hu) h.blk (by decide), h.ap, h.ex.new h.hA, h.hA, h.hg⟩
/-- what was made behind a world lies apart from what was there -/
theorem QyS.apart {W4 : World} {n : Nat} {v : Value} {xs : List Value} (h : QyS w0 W4 g A nm x hd r y us) (hn : W.ownsRow W4.heap.size 89 2 v n xs) : ∀ u ∈ us, Apr u.2.1 v := fun u hu q h1 h2 => by
  have := ((h.tms u hu).lt q h1).2
  have := (hn.lt q h2).1
  omega
theorem QyS.atom {o : Obj} {y' : Value} {u : UV} (h : QyS w0 W g A nm x hd r y us) (ht : W.ownsRow w0.heap.size 89 2 u.2.1 u.2.2.length (u.2.2.flatMap tmc)) (hap : ∀ v ∈ us, Apr v.2.1 u.2.1) (hg : (W.alloc o).grownBy w3 y.ownBlock) (hown : w3.ownsRow w0.heap.size 55 2 y' (us.length + 1) (us.flatMap atc ++ atc u)) : QyS w0 (w3.setCell ⟨A, 3, none⟩ y') g A nm x hd r y' (us ++ [u]) := by
  have hb := h.blk2 hg
  refine ⟨by rw [heap_setCell_same _ _ _ _ _ _ hb]; rfl, ?_, ?_, fun v hv => ?_, ?_, ?_, h.hA, h.hg⟩
  · exact own_setT (own_kept h.own1 h.own2 (by decide) hg) hb (by decide)
  · rw [List.length_append, List.length_singleton, List.flatMap_append, List.flatMap_cons, List.flatMap_nil, List.append_nil]
    exact own_setT hown hb (by decide)
  · rw [List.mem_append, List.mem_singleton] at hv
    rcases hv with hv | rfl
    · exact own_setT (own_kept (h.tms v hv) h.own2 (by decide) hg) hb (by decide)
    · exact own_setT (own_kept ht h.own2 (by decide) hg) hb (by decide)
  · rw [List.pairwise_append]
    exact ⟨h.ap, List.pairwise_singleton _ _, fun a ha b hb => by rw [List.mem_singleton] at hb; subst hb; exact hap a ha⟩
  · exact (h.ex.belN (h.bel2 hg)).new h.hA
end

end Go.Proofs.YtcdfoephhjacdaaGreatDoor
