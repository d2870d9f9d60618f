import Derived.Test.YtfjchjhakjghcaaDoorD21
import Derived.Test.YtfjchjhakjghcaaDoorD44
/-
  A query's text; spec.l3Join.
-/
namespace Go.Proofs.YtfjchjhakjghcaaDoor
open Go.RowKit

theorem digs_len2 : ∀ (k n : Nat), n < 10 ^ (k + 1) → (Lib.decDigits n).length ≤ k + 1
  | 0, n, h => by rw [Lib.decDigits, dif_pos (by omega)]; simp
  | k + 1, n, h => by
    rw [Lib.decDigits]
    by_cases h1 : n < 10
    · rw [dif_pos h1]; simp
    · rw [dif_neg h1, List.length_append, List.length_singleton]
      have := digs_len2 k (n / 10) (by rw [Nat.pow_succ] at h; omega)
      omega
theorem itoa_short (n : Int) (h0 : 0 ≤ n) (h1 : n ≤ 1000000) : (Lib.itoa n).length ≤ 30 := by
  unfold Lib.itoa
  rw [if_neg (by omega)]
  have := digs_len2 6 n.toNat (by omega)
  omega

def jn (l : List (List UInt8)) : List UInt8 := Lib.join l [44, 32]
def bts (x : ByteArray) : List UInt8 := x.data.toList
def termT (t : TermV) : List UInt8 := if t.1.toList.isEmpty then Lib.itoa t.2 else bts t.1
def atomT (a : AtomV) : List UInt8 := bts a.1 ++ [40] ++ jn (a.2.map termT) ++ [41]
def ringB (r : Int) : ByteArray := if r = 1 then ⟨#[99, 111, 117, 110, 116]⟩ else if r = 2 then ⟨#[115, 117, 109]⟩ else if r = 3 then ⟨#[109, 105, 110]⟩ else ⟨#[]⟩
def headT (q : QV) : List UInt8 := jn (q.head.map bts) ++ (if 0 < q.ring then [59, 32] ++ bts (ringB q.ring) else [])
def prqT (q : QV) : List UInt8 := if shapeB q then bts q.name ++ [40] ++ headT q ++ [41, 32, 58, 45, 32] ++ jn (q.atoms.map atomT) ++ [46] else []

theorem bts_len (x : ByteArray) : (bts x).length = x.size := by unfold bts; simp
theorem bts_mk (x : ByteArray) : (⟨(bts x).toArray⟩ : ByteArray) = x := by unfold bts; simp

theorem jtail_len (M : Nat) (l : List (List UInt8)) (h : ∀ x ∈ l, x.length ≤ M) : (Lib.joinTail [44, 32] l).length ≤ l.length * (M + 2) := by
  induction l with
  | nil => simp [Lib.joinTail]
  | cons x l ih =>
    have h1 := ih fun y hy => h y (List.mem_cons_of_mem _ hy)
    have h2 := h x (List.mem_cons_self ..)
    have e : Lib.joinTail [44, 32] (x :: l) = [44, 32] ++ x ++ Lib.joinTail [44, 32] l := by simp [Lib.joinTail]
    rw [e, List.length_append, List.length_append, List.length_cons (a := x), Nat.add_mul]
    simp only [List.length_cons, List.length_nil]
    omega
theorem jn_len (M : Nat) (l : List (List UInt8)) (h : ∀ x ∈ l, x.length ≤ M) : (jn l).length ≤ l.length * (M + 2) := by
  cases l with
  | nil => simp [jn, Lib.join_nil]
  | cons x l =>
    have h1 := jtail_len M l fun y hy => h y (List.mem_cons_of_mem _ hy)
    have h2 := h x (List.mem_cons_self ..)
    unfold jn
    rw [Lib.join_cons, List.length_append, List.length_cons, Nat.add_mul]
    omega
theorem jn_snoc (l : List (List UInt8)) (x : List UInt8) : jn (l ++ [x]) = if l = [] then x else jn l ++ [44, 32] ++ x := join_snoc l x [44, 32]

theorem termT_len {t : TermV} (h : termB t = true) : (termT t).length ≤ 30 := by
  unfold termB at h
  unfold termT
  by_cases e : t.1.toList.isEmpty = true
  · rw [if_pos e] at h ⊢
    simp only [Bool.and_eq_true, decide_eq_true_eq] at h
    exact itoa_short _ h.1 h.2
  · rw [if_neg e] at h ⊢
    unfold nameB at h
    simp only [Bool.and_eq_true, decide_eq_true_eq] at h
    rw [bts_len]
    exact h.1.1.1.2
theorem name_len {x : ByteArray} (h : nameB x = true) : x.size ≤ 30 := by
  unfold nameB at h
  simp only [Bool.and_eq_true, decide_eq_true_eq] at h
  exact h.1.1.2
theorem terms_len {a : AtomV} (h : atomB a = true) (hl : a.2.length ≤ 1048576) : (jn (a.2.map termT)).length ≤ 33554432 := by
  unfold atomB at h
  simp only [Bool.and_eq_true, decide_eq_true_eq] at h
  have := jn_len 30 (a.2.map termT) fun x hx => by
    obtain ⟨t, ht, rfl⟩ := List.mem_map.1 hx
    exact termT_len (List.all_eq_true.1 h.2 t ht)
  rw [List.length_map] at this
  omega
theorem atomT_len {a : AtomV} (h : atomB a = true) (hl : a.2.length ≤ 1048576) : (atomT a).length ≤ 33554464 := by
  have h1 := terms_len h hl
  unfold atomB at h
  simp only [Bool.and_eq_true, decide_eq_true_eq] at h
  have h2 := name_len h.1.1
  unfold atomT
  simp only [List.length_append, bts_len, List.length_cons, List.length_nil]
  omega

/-- what a query of good shape has -/
structure GQ (q : QV) : Prop where
  nm : q.name.size ≤ 30
  r0 : 0 ≤ q.ring
  r3 : q.ring ≤ 3
  hd : ∀ x ∈ q.head, x.size ≤ 30
  hl : q.head.length ≤ 1048576
  al : q.atoms.length ≤ 1048576
  at' : ∀ j, j < q.atoms.length → atomB (q.atoms.getD j noAt) = true ∧ (q.atoms.getD j noAt).2.length ≤ 1048576
theorem gq_of {q : QV} (h : shapeB q = true) (hq : OkQ q) : GQ q := by
  unfold shapeB at h
  simp only [Bool.and_eq_true, decide_eq_true_eq] at h
  obtain ⟨⟨⟨⟨⟨h1, h2⟩, h3⟩, h4⟩, h5⟩, h6⟩ := h
  refine ⟨name_len h1, h2, h3, fun x hx => name_len (List.all_eq_true.1 h5 x hx), hq.len, hq.alen, fun j hj => ⟨List.all_eq_true.1 h6 _ ?_, (hq.atoms j hj).len⟩⟩
  rw [List.getD_eq_getElem?_getD, List.getElem?_eq_getElem hj]; exact List.getElem_mem _

set_option maxHeartbeats 2000000 in
set_option maxRecDepth 1000000 in
theorem l3Join_calls (w : World) (v : Value) (l : List ByteArray) (h : ISt w v l) (hl : l.length ≤ 1048576) (hb : ∀ x ∈ l, x.size ≤ 33554464) :
    Calls Tryd.prog 32 #[v] w fun e w' => e = .returned (.string ⟨(jn (l.map bts)).toArray⟩) ∧ w' = w := by
  obtain ⟨a, cap, rfl, hc⟩ := h
  have HC : Hid (∀ j, j < l.length → ∃ b o, a = some ⟨b, o, none⟩ ∧ w.cell? ⟨b, o + j, none⟩ = some (.string ⟨(bts (l.getD j noTx)).toArray⟩)) := hid fun j hj => by
    rcases hc with h0 | ⟨b, o, rfl, h⟩
    · omega
    · exact ⟨b, o, rfl, by rw [bts_mk]; exact h j hj⟩
  have HI : Hid (∀ j, j < l.length → (bts (l.getD j noTx)).length ≤ 33554464) := hid fun j hj => by
    rw [bts_len]
    exact hb (l.getD j noTx) (by rw [List.getD_eq_getElem?_getD, List.getElem?_eq_getElem hj]; exact List.getElem_mem _)
  have HL : Hid (∀ j, (jn ((l.take j).map bts)).length ≤ 100000000000000) := hid fun j => by
    have := jn_len 33554464 ((l.take j).map bts) fun x hx => by
      obtain ⟨t, ht, rfl⟩ := List.mem_map.1 hx
      rw [bts_len]
      exact hb t (List.mem_of_mem_take ht)
    rw [List.length_map] at this
    have h2 : (l.take j).length ≤ 1048576 := by rw [List.length_take]; omega
    have h3 := Nat.mul_le_mul_right (33554464 + 2) h2
    omega
  have HS : Hid (∀ j, j < l.length → jn ((l.take (j + 1)).map bts) = if j = 0 then bts (l.getD j noTx) else jn ((l.take j).map bts) ++ [44, 32] ++ bts (l.getD j noTx)) := hid fun j hj => by
    rw [List.take_add_one, List.getElem?_eq_getElem hj, List.getD_eq_getElem?_getD, List.getElem?_eq_getElem hj, Option.toList_some, Option.getD_some, List.map_append, List.map_cons, List.map_nil, jn_snoc]
    by_cases e : j = 0
    · rw [if_pos e, if_pos (by rw [e]; rfl)]
    · rw [if_neg e, if_neg (fun h => by have := congrArg List.length h; rw [List.length_map, List.length_take, List.length_nil] at this; omega)]
  have HE : Hid (jn ((l.take l.length).map bts) = jn (l.map bts)) := hid (by rw [List.take_length])
  have H0 : Hid (jn ((l.take 0).map bts) = []) := hid rfl
  clear hc hb
  obtain ⟨n, hn⟩ : ∃ n, n = l.length := ⟨_, rfl⟩
  rw [← hn] at HC HI HS HE hl ⊢
  clear hn
  go_enter Tryd.func32, Tryd.ntmps32
  go_wp2_with fail
  go_loopw [3, 8] (fun u t wr => ∃ (j : Nat) (s : List UInt8), j ≤ n ∧ t = .int .i64 j ∧ u = .string ⟨s.toArray⟩ ∧ Hid (s = jn ((l.take j).map bts) ∧ wr = w)) (fun _ t _ => n - (intOf t).toNat)
  case atStart => exact ⟨0, [], Nat.zero_le _, rfl, rfl, hid ⟨H0.out.symm, rfl⟩⟩
  case round =>
    clear H0
    obtain ⟨j, s, hj, rfl, rfl, HT⟩ := hrel
    obtain ⟨hs, rfl⟩ := HT.out
    by_cases hjn : j < n
    · have i1 : (j : Int) < (n : Int) := by omega
      obtain ⟨b, o, ea, c1⟩ := HC.out j hjn
      subst ea
      have hx := HI.out j hjn
      have hsl : s.length ≤ 100000000000000 := by rw [hs]; exact HL.out j
      have HSj := hid (HS.out j hjn)
      have HS0 := hid hs
      clear HT hs HC HI HL HS HE
      generalize bts (l.getD j noTx) = it at *
      by_cases hj0 : j = 0
      · subst hj0
        rw [Nat.add_zero] at c1
        have hcc : ¬ (9223372036854775807 < s.length + it.length) := by omega
        go_wp2_with fail
        go_roundw
        case rel =>
          refine ⟨1, it, by omega, by go_num, ?_, hid ⟨?_, by trivial⟩⟩
          · rw [cat_bytes, HS0.out]; rfl
          · rw [HSj.out]; rfl
        case measure => simp [intOf]; omega
      · have i2 : (0 : Int) < (j : Int) := by omega
        have hcc1 : ¬ (9223372036854775807 < s.length + 2) := by omega
        have hcc : ¬ (9223372036854775807 < s.length + 2 + it.length) := by omega
        go_wp2_with fail
        go_roundw
        case rel =>
          refine ⟨j + 1, s ++ [44, 32] ++ it, by omega, by go_num, ?_, hid ⟨?_, by trivial⟩⟩
          · rw [← cat_bytes, ← cat_bytes]
          · rw [HSj.out, if_neg hj0, HS0.out]
        case measure => simp [intOf]; omega
    · obtain rfl : j = n := by omega
      have i1 : ¬ ((j : Int) < (j : Int)) := by omega
      have HF := hid (hs.trans HE.out)
      clear HT hs HC HI HL HS HE
      go_wp2_with fail
      go_ret
      exact ⟨by rw [← HF.out]; rfl, rfl⟩

end Go.Proofs.YtfjchjhakjghcaaDoor
