/- Mathematics of rings of names, no Go in sight: names, the place of one, right rings, who joins, is used, leaves; the hand's turn. -/
import Derived.WalkKit
namespace Go.Proofs.Ytmnjmghlkiljhaa.rg
open Go.RowKit
set_option linter.unusedVariables false

/-- a byte of a name -/
def nbB (c : UInt8) : Bool := (decide (97 ≤ (c.toNat : Int)) && decide ((c.toNat : Int) ≤ 122)) || (decide (48 ≤ (c.toNat : Int)) && decide ((c.toNat : Int) ≤ 57)) || ((c.toNat : Int) == 45)
/-- a name -/
def nameB (s : ByteArray) : Bool := s.data.toList.all nbB && (decide (1 ≤ (s.size : Int)) && decide ((s.size : Int) ≤ 12))
theorem nameB_size {s : ByteArray} (h : nameB s = true) : 1 ≤ s.size ∧ s.size ≤ 12 := by
  unfold nameB at h
  simp only [Bool.and_eq_true, decide_eq_true_eq] at h
  omega

/-- the place of a text; -1: it is not there -/
def posS (s : ByteArray) : List ByteArray → Int
  | [] => -1
  | x :: r => if x = s then 0 else if posS s r < 0 then -1 else posS s r + 1
theorem posS_cases (s : ByteArray) : ∀ N : List ByteArray, (s ∉ N ∧ posS s N = -1) ∨ ∃ i : Nat, ∃ h : i < N.length, N[i] = s ∧ s ∉ N.take i ∧ posS s N = i
  | [] => .inl ⟨by simp, rfl⟩
  | x :: r => by
    by_cases hx : x = s
    · exact .inr ⟨0, by simp, by simpa using hx, by simp, by simp [posS, hx]⟩
    · rcases posS_cases s r with ⟨h1, h2⟩ | ⟨i, hi, h1, h2, h3⟩
      · refine .inl ⟨?_, by simp [posS, hx, h2]⟩
        simp only [List.mem_cons, not_or]
        exact ⟨fun e => hx e.symm, h1⟩
      · refine .inr ⟨i + 1, by simpa using hi, by simpa using h1, ?_, ?_⟩
        · simp only [List.take_succ_cons, List.mem_cons, not_or]
          exact ⟨fun e => hx e.symm, h2⟩
        · simp only [posS, if_neg hx, h3]
          rw [if_neg (by omega)]
          omega
theorem posS_no {s : ByteArray} {N : List ByteArray} (h : s ∉ N) : posS s N = -1 := by
  rcases posS_cases s N with ⟨-, e⟩ | ⟨i, hi, e, -⟩
  · exact e
  · exact absurd (e ▸ List.getElem_mem hi) h
theorem posS_at {s : ByteArray} {N : List ByteArray} {i : Nat} (hi : i < N.length) (he : N[i] = s) (hn : s ∉ N.take i) : posS s N = i := by
  rcases posS_cases s N with ⟨h, -⟩ | ⟨j, hj, e, hnj, hp⟩
  · exact absurd (he ▸ List.getElem_mem hi) h
  · rw [hp]
    rcases Nat.lt_trichotomy i j with q | q | q
    · exact absurd (List.mem_iff_getElem.2 ⟨i, by simp; omega, by simpa using he⟩) hnj
    · rw [q]
    · exact absurd (List.mem_iff_getElem.2 ⟨j, by simp; omega, by simpa using e⟩) hn
theorem posS_bd (s : ByteArray) (N : List ByteArray) : -1 ≤ posS s N ∧ posS s N < N.length := by
  rcases posS_cases s N with ⟨-, h⟩ | ⟨i, hi, -, -, h⟩ <;> rw [h] <;> omega
theorem posS_mem {s : ByteArray} {N : List ByteArray} : s ∈ N ↔ 0 ≤ posS s N := by
  rcases posS_cases s N with ⟨h, e⟩ | ⟨i, hi, e, -, h⟩
  · rw [e]; exact ⟨fun q => absurd q h, fun q => by omega⟩
  · rw [h]; exact ⟨fun _ => by omega, fun _ => e ▸ List.getElem_mem hi⟩
/-- of the first i + 1 the last one is found at i just where it is not among those ahead of it -/
theorem posS_self {N : List ByteArray} {i : Nat} (hi : i < N.length) : posS N[i] N = i ↔ N[i] ∉ N.take i := by
  constructor
  · intro h hm
    rcases posS_cases N[i] N with ⟨q, -⟩ | ⟨j, hj, e, hn, hp⟩
    · exact q (List.getElem_mem hi)
    · have : j = i := by omega
      subst this
      exact hn hm
  · exact fun h => posS_at hi rfl h

/-- names, unlike, at most twenty -/
def NOk (N : List ByteArray) : Prop := (∀ s ∈ N, nameB s = true) ∧ N.Nodup ∧ N.length ≤ 20
instance (N : List ByteArray) : Decidable (NOk N) := by unfold NOk; exact inferInstance
def namesB (N : List ByteArray) : Bool := decide (NOk N)
/-- the first i of them are names, unlike -/
def Pre (N : List ByteArray) (i : Nat) : Prop := (∀ s ∈ N.take i, nameB s = true) ∧ (N.take i).Nodup
theorem pre_zero (N : List ByteArray) : Pre N 0 := ⟨by simp, by simp⟩
theorem pre_succ {N : List ByteArray} {i : Nat} (h : Pre N i) (hi : i < N.length) (h1 : nameB N[i] = true) (h2 : N[i] ∉ N.take i) : Pre N (i + 1) := by
  unfold Pre
  rw [List.take_succ_eq_append_getElem hi]
  refine ⟨fun s hs => ?_, ?_⟩
  · rcases List.mem_append.1 hs with q | q
    · exact h.1 s q
    · rw [List.mem_singleton.1 q]; exact h1
  · rw [List.nodup_append]
    refine ⟨h.2, by simp, fun a ha b hb e => ?_⟩
    rw [List.mem_singleton] at hb
    rw [e, hb] at ha
    exact h2 ha
theorem pre_not1 {N : List ByteArray} {i : Nat} (hi : i < N.length) (h1 : nameB N[i] = false) : namesB N = false := by
  unfold namesB
  refine decide_eq_false fun h => ?_
  have := h.1 N[i] (List.getElem_mem hi)
  rw [h1] at this
  cases this
theorem pre_not2 {N : List ByteArray} {i : Nat} (hi : i < N.length) (h2 : N[i] ∈ N.take i) : namesB N = false := by
  unfold namesB
  refine decide_eq_false fun h => ?_
  obtain ⟨j, hj, e⟩ := List.mem_iff_getElem.1 h2
  simp at hj e
  exact (List.pairwise_iff_getElem.1 h.2.1) j i (by omega) hi (by omega) e
theorem pre_all {N : List ByteArray} (h : Pre N N.length) : namesB N = decide ((N.length : Int) ≤ 20) := by
  unfold Pre at h
  rw [List.take_length] at h
  unfold namesB
  by_cases q : N.length ≤ 20
  · rw [decide_eq_true (show NOk N from ⟨h.1, h.2, q⟩), decide_eq_true (by omega)]
  · rw [decide_eq_false (show ¬ NOk N from fun z => q z.2.2), decide_eq_false (by omega)]
theorem names_long {N : List ByteArray} (h : 20 < N.length) : namesB N = false := decide_eq_false fun z => by have := z.2.2; omega

/-- a ring -/
structure Rg where
  N : List ByteArray
  U : List Bool
  A : Int
def Rg.zero : Rg := ⟨[], [], 0⟩
def atB (n : Nat) (A : Int) : Bool := decide (0 ≤ A) && decide (A < max (n : Int) 1)
def ringB (r : Rg) : Bool := namesB r.N && (r.U.length == r.N.length) && atB r.N.length r.A
structure ROk (r : Rg) : Prop where
  nm : ∀ s ∈ r.N, nameB s = true
  nd : r.N.Nodup
  le : r.N.length ≤ 20
  us : r.U.length = r.N.length
  a0 : 0 ≤ r.A
  a1 : r.A < max (r.N.length : Int) 1
theorem ringB_iff {r : Rg} : ringB r = true ↔ ROk r := by
  simp only [ringB, namesB, atB, Bool.and_eq_true, decide_eq_true_eq, beq_iff_eq]
  exact ⟨fun ⟨⟨⟨h1, h2, h3⟩, h4⟩, h5, h6⟩ => ⟨h1, h2, h3, h4, h5, h6⟩, fun ⟨h1, h2, h3, h4, h5, h6⟩ => ⟨⟨⟨h1, h2, h3⟩, h4⟩, h5, h6⟩⟩
theorem ringB_not {r : Rg} (h : ¬ ringB r = true) : ringB r = false := by simpa using h

/-- may a name join? -/
def mayB (r : Rg) (s : ByteArray) : Bool := nameB s && decide (posS s r.N < 0) && !(r.N.length == 20)
def joined (r : Rg) (s : ByteArray) : Rg := ⟨r.N ++ [s], r.U ++ [false], r.A⟩
def jnB (r : Rg) (s : ByteArray) : Bool := ringB r && mayB r s
def jnR (r : Rg) (s : ByteArray) : Rg := if ringB r = true then (if mayB r s = true then joined r s else r) else Rg.zero
def used (r : Rg) (s : ByteArray) : Rg := if 0 ≤ posS s r.N then ⟨r.N, r.U.set (posS s r.N).toNat true, r.A⟩ else r
def usR (r : Rg) (s : ByteArray) : Rg := if ringB r = true then used r s else Rg.zero
/-- without the one at a place -/
def left (r : Rg) (i : Nat) : Rg :=
  ⟨r.N.take i ++ r.N.drop (i + 1), r.U.take i ++ r.U.drop (i + 1), if (if (i : Int) < r.A then r.A - 1 else r.A) < (r.N.length : Int) - 1 then (if (i : Int) < r.A then r.A - 1 else r.A) else 0⟩
def lvB (r : Rg) (s : ByteArray) : Bool := ringB r && decide (0 ≤ posS s r.N)
def lvR (r : Rg) (s : ByteArray) : Rg := if ringB r = true then (if 0 ≤ posS s r.N then left r (posS s r.N).toNat else r) else Rg.zero

/-- the hand goes on over those that are used -/
def turn (n : Nat) : Nat → List Bool → Nat → List Bool × Nat
  | 0, U, a => (U, a)
  | f + 1, U, a => if U[a]? = some true then turn n f (U.set a false) ((a + 1) % n) else (U, a)
def turned (r : Rg) : List Bool × Nat := turn r.N.length (r.U.count true) r.U r.A.toNat
def tuR (r : Rg) : Rg := if ringB r = true then (if r.N.length = 0 then r else ⟨r.N, (turned r).1, ((turned r).2 : Int)⟩) else Rg.zero
def tuS (r : Rg) : ByteArray := if ringB r = true then (if r.N.length = 0 then ⟨#[]⟩ else (r.N[(turned r).2]?).getD ⟨#[]⟩) else ⟨#[]⟩

theorem count_set {U : List Bool} {a : Nat} (h : U[a]? = some true) : (U.set a false).count true + 1 = U.count true := by
  obtain ⟨ha, e⟩ := List.getElem?_eq_some_iff.1 h
  have h1 : U = U.take a ++ U[a] :: U.drop (a + 1) := by simp
  have h2 : U.set a false = U.take a ++ false :: U.drop (a + 1) := by rw [List.set_eq_take_append_cons_drop, if_pos ha]
  rw [h2]
  conv => rhs; rw [h1]
  rw [e]
  simp
  omega
theorem turn_step {n : Nat} {U : List Bool} {a : Nat} (h : U[a]? = some true) : turn n (U.count true) U a = turn n ((U.set a false).count true) (U.set a false) ((a + 1) % n) := by
  rw [← count_set h]
  simp only [turn, h, if_true]
theorem turn_stop {n f : Nat} {U : List Bool} {a : Nat} (h : U[a]? ≠ some true) : turn n f U a = (U, a) := by
  cases f with
  | zero => rfl
  | succ f => simp only [turn, if_neg h]
theorem left_us {r : Rg} (h : r.U.length = r.N.length) (i : Nat) : (left r i).U.length = (left r i).N.length := by unfold left; simp [h]
theorem turn_len (n : Nat) : ∀ (f : Nat) (U : List Bool) (a : Nat), (turn n f U a).1.length = U.length
  | 0, U, a => rfl
  | f + 1, U, a => by
    unfold turn
    split
    · rw [turn_len n f]; simp
    · rfl
end Go.Proofs.Ytmnjmghlkiljhaa.rg
