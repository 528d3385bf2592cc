/- Texts laid together: Rx0 Cx0 Cx1 CeOps Ro1 Ro9 Ro10 Ro2. -/
import Derived.Test.YtaabmkhckbndgaaGreatDoorRows
import Derived.WalkKit
import Derived.ProofKit
import Derived.OpenShut
import Derived.Below
import Derived.OwnWalk
import Derived.ArgAppend
import Derived.Deep.MidRow
import Derived.Deep.OwnRows
import Derived.Deep.RegionHeld3
import Derived.Deep.RegionLaw
import Derived.BigQuiet
import Derived.Laws.AppendOwnNone
import Derived.Lib.SliceRun
import Derived.Deep.Slices
import Derived.Lib.SmallJoins
import Derived.ShutString
import Derived.ChangeOld
/- Mathematics of rings of names, no Go in sight: names, the place of one, right rings, who joins, is used, leaves; the hand's turn. -/
namespace Go.Proofs.YtaabmkhckbndgaaGreatDoor.rg
open Go.RowKit
set_option linter.unusedVariables false

/-- a byte of a name -/
def nbB (c : UInt8) : Bool := (decide (97 ≤ (c.toNat : Int)) && decide ((c.toNat : Int) ≤ 122)) || (decide (48 ≤ (c.toNat : Int)) && decide ((c.toNat : Int) ≤ 57)) || ((c.toNat : Int) == 45)
/-- a name -/
def nameB (s : ByteArray) : Bool := s.data.toList.all nbB && (decide (1 ≤ (s.size : Int)) && decide ((s.size : Int) ≤ 12))
theorem nameB_size {s : ByteArray} (h : nameB s = true) : 1 ≤ s.size ∧ s.size ≤ 12 := by
  unfold nameB at h
  simp only [Bool.and_eq_true, decide_eq_true_eq] at h
  omega

/-- the place of a text; -1: it is not there -/
def posS (s : ByteArray) : List ByteArray → Int
  | [] => -1
  | x :: r => if x = s then 0 else if posS s r < 0 then -1 else posS s r + 1
theorem posS_cases (s : ByteArray) : ∀ N : List ByteArray, (s ∉ N ∧ posS s N = -1) ∨ ∃ i : Nat, ∃ h : i < N.length, N[i] = s ∧ s ∉ N.take i ∧ posS s N = i
  | [] => .inl ⟨by simp, rfl⟩
  | x :: r => by
    by_cases hx : x = s
    · exact .inr ⟨0, by simp, by simpa using hx, by simp, by simp [posS, hx]⟩
    · rcases posS_cases s r with ⟨h1, h2⟩ | ⟨i, hi, h1, h2, h3⟩
      · refine .inl ⟨?_, by simp [posS, hx, h2]⟩
        simp only [List.mem_cons, not_or]
        exact ⟨fun e => hx e.symm, h1⟩
      · refine .inr ⟨i + 1, by simpa using hi, by simpa using h1, ?_, ?_⟩
        · simp only [List.take_succ_cons, List.mem_cons, not_or]
          exact ⟨fun e => hx e.symm, h2⟩
        · simp only [posS, if_neg hx, h3]
          rw [if_neg (by omega)]
          omega
theorem posS_no {s : ByteArray} {N : List ByteArray} (h : s ∉ N) : posS s N = -1 := by
  rcases posS_cases s N with ⟨-, e⟩ | ⟨i, hi, e, -⟩
  · exact e
  · exact absurd (e ▸ List.getElem_mem hi) h
theorem posS_at {s : ByteArray} {N : List ByteArray} {i : Nat} (hi : i < N.length) (he : N[i] = s) (hn : s ∉ N.take i) : posS s N = i := by
  rcases posS_cases s N with ⟨h, -⟩ | ⟨j, hj, e, hnj, hp⟩
  · exact absurd (he ▸ List.getElem_mem hi) h
  · rw [hp]
    rcases Nat.lt_trichotomy i j with q | q | q
    · exact absurd (List.mem_iff_getElem.2 ⟨i, by simp; omega, by simpa using he⟩) hnj
    · rw [q]
    · exact absurd (List.mem_iff_getElem.2 ⟨j, by simp; omega, by simpa using e⟩) hn
theorem posS_bd (s : ByteArray) (N : List ByteArray) : -1 ≤ posS s N ∧ posS s N < N.length := by
  rcases posS_cases s N with ⟨-, h⟩ | ⟨i, hi, -, -, h⟩ <;> rw [h] <;> omega
theorem posS_mem {s : ByteArray} {N : List ByteArray} : s ∈ N ↔ 0 ≤ posS s N := by
  rcases posS_cases s N with ⟨h, e⟩ | ⟨i, hi, e, -, h⟩
  · rw [e]; exact ⟨fun q => absurd q h, fun q => by omega⟩
  · rw [h]; exact ⟨fun _ => by omega, fun _ => e ▸ List.getElem_mem hi⟩
/-- of the first i + 1 the last one is found at i just where it is not among those ahead of it -/
theorem posS_self {N : List ByteArray} {i : Nat} (hi : i < N.length) : posS N[i] N = i ↔ N[i] ∉ N.take i := by
  constructor
  · intro h hm
    rcases posS_cases N[i] N with ⟨q, -⟩ | ⟨j, hj, e, hn, hp⟩
    · exact q (List.getElem_mem hi)
    · have : j = i := by omega
      subst this
      exact hn hm
  · exact fun h => posS_at hi rfl h

/-- names, unlike, at most twenty -/
def NOk (N : List ByteArray) : Prop := (∀ s ∈ N, nameB s = true) ∧ N.Nodup ∧ N.length ≤ 20
instance (N : List ByteArray) : Decidable (NOk N) := by unfold NOk; exact inferInstance
def namesB (N : List ByteArray) : Bool := decide (NOk N)
/-- the first i of them are names, unlike -/
def Pre (N : List ByteArray) (i : Nat) : Prop := (∀ s ∈ N.take i, nameB s = true) ∧ (N.take i).Nodup
theorem pre_zero (N : List ByteArray) : Pre N 0 := ⟨by simp, by simp⟩
theorem pre_succ {N : List ByteArray} {i : Nat} (h : Pre N i) (hi : i < N.length) (h1 : nameB N[i] = true) (h2 : N[i] ∉ N.take i) : Pre N (i + 1) := by
  unfold Pre
  rw [List.take_succ_eq_append_getElem hi]
  refine ⟨fun s hs => ?_, ?_⟩
  · rcases List.mem_append.1 hs with q | q
    · exact h.1 s q
    · rw [List.mem_singleton.1 q]; exact h1
  · rw [List.nodup_append]
    refine ⟨h.2, by simp, fun a ha b hb e => ?_⟩
    rw [List.mem_singleton] at hb
    rw [e, hb] at ha
    exact h2 ha
theorem pre_not1 {N : List ByteArray} {i : Nat} (hi : i < N.length) (h1 : nameB N[i] = false) : namesB N = false := by
  unfold namesB
  refine decide_eq_false fun h => ?_
  have := h.1 N[i] (List.getElem_mem hi)
  rw [h1] at this
  cases this
theorem pre_not2 {N : List ByteArray} {i : Nat} (hi : i < N.length) (h2 : N[i] ∈ N.take i) : namesB N = false := by
  unfold namesB
  refine decide_eq_false fun h => ?_
  obtain ⟨j, hj, e⟩ := List.mem_iff_getElem.1 h2
  simp at hj e
  exact (List.pairwise_iff_getElem.1 h.2.1) j i (by omega) hi (by omega) e
theorem pre_all {N : List ByteArray} (h : Pre N N.length) : namesB N = decide ((N.length : Int) ≤ 20) := by
  unfold Pre at h
  rw [List.take_length] at h
  unfold namesB
  by_cases q : N.length ≤ 20
  · rw [decide_eq_true (show NOk N from ⟨h.1, h.2, q⟩), decide_eq_true (by omega)]
  · rw [decide_eq_false (show ¬ NOk N from fun z => q z.2.2), decide_eq_false (by omega)]
theorem names_long {N : List ByteArray} (h : 20 < N.length) : namesB N = false := decide_eq_false fun z => by have := z.2.2; omega

/-- a ring -/
structure Rg where
  N : List ByteArray
  U : List Bool
  A : Int
def Rg.zero : Rg := ⟨[], [], 0⟩
def atB (n : Nat) (A : Int) : Bool := decide (0 ≤ A) && decide (A < max (n : Int) 1)
def ringB (r : Rg) : Bool := namesB r.N && (r.U.length == r.N.length) && atB r.N.length r.A
structure ROk (r : Rg) : Prop where
  nm : ∀ s ∈ r.N, nameB s = true
  nd : r.N.Nodup
  le : r.N.length ≤ 20
  us : r.U.length = r.N.length
  a0 : 0 ≤ r.A
  a1 : r.A < max (r.N.length : Int) 1
theorem ringB_iff {r : Rg} : ringB r = true ↔ ROk r := by
  simp only [ringB, namesB, atB, Bool.and_eq_true, decide_eq_true_eq, beq_iff_eq]
  exact ⟨fun ⟨⟨⟨h1, h2, h3⟩, h4⟩, h5, h6⟩ => ⟨h1, h2, h3, h4, h5, h6⟩, fun ⟨h1, h2, h3, h4, h5, h6⟩ => ⟨⟨⟨h1, h2, h3⟩, h4⟩, h5, h6⟩⟩
theorem ringB_not {r : Rg} (h : ¬ ringB r = true) : ringB r = false := by simpa using h

/-- may a name join? -/
def mayB (r : Rg) (s : ByteArray) : Bool := nameB s && decide (posS s r.N < 0) && !(r.N.length == 20)
def joined (r : Rg) (s : ByteArray) : Rg := ⟨r.N ++ [s], r.U ++ [false], r.A⟩
def jnB (r : Rg) (s : ByteArray) : Bool := ringB r && mayB r s
def jnR (r : Rg) (s : ByteArray) : Rg := if ringB r = true then (if mayB r s = true then joined r s else r) else Rg.zero
def used (r : Rg) (s : ByteArray) : Rg := if 0 ≤ posS s r.N then ⟨r.N, r.U.set (posS s r.N).toNat true, r.A⟩ else r
def usR (r : Rg) (s : ByteArray) : Rg := if ringB r = true then used r s else Rg.zero
/-- without the one at a place -/
def left (r : Rg) (i : Nat) : Rg :=
  ⟨r.N.take i ++ r.N.drop (i + 1), r.U.take i ++ r.U.drop (i + 1), if (if (i : Int) < r.A then r.A - 1 else r.A) < (r.N.length : Int) - 1 then (if (i : Int) < r.A then r.A - 1 else r.A) else 0⟩
def lvB (r : Rg) (s : ByteArray) : Bool := ringB r && decide (0 ≤ posS s r.N)
def lvR (r : Rg) (s : ByteArray) : Rg := if ringB r = true then (if 0 ≤ posS s r.N then left r (posS s r.N).toNat else r) else Rg.zero

/-- the hand goes on over those that are used -/
def turn (n : Nat) : Nat → List Bool → Nat → List Bool × Nat
  | 0, U, a => (U, a)
  | f + 1, U, a => if U[a]? = some true then turn n f (U.set a false) ((a + 1) % n) else (U, a)
def turned (r : Rg) : List Bool × Nat := turn r.N.length (r.U.count true) r.U r.A.toNat
def tuR (r : Rg) : Rg := if ringB r = true then (if r.N.length = 0 then r else ⟨r.N, (turned r).1, ((turned r).2 : Int)⟩) else Rg.zero
def tuS (r : Rg) : ByteArray := if ringB r = true then (if r.N.length = 0 then ⟨#[]⟩ else (r.N[(turned r).2]?).getD ⟨#[]⟩) else ⟨#[]⟩

theorem count_set {U : List Bool} {a : Nat} (h : U[a]? = some true) : (U.set a false).count true + 1 = U.count true := by
  obtain ⟨ha, e⟩ := List.getElem?_eq_some_iff.1 h
  have h1 : U = U.take a ++ U[a] :: U.drop (a + 1) := by simp
  have h2 : U.set a false = U.take a ++ false :: U.drop (a + 1) := by rw [List.set_eq_take_append_cons_drop, if_pos ha]
  rw [h2]
  conv => rhs; rw [h1]
  rw [e]
  simp
  omega
theorem turn_step {n : Nat} {U : List Bool} {a : Nat} (h : U[a]? = some true) : turn n (U.count true) U a = turn n ((U.set a false).count true) (U.set a false) ((a + 1) % n) := by
  rw [← count_set h]
  simp only [turn, h, if_true]
theorem turn_stop {n f : Nat} {U : List Bool} {a : Nat} (h : U[a]? ≠ some true) : turn n f U a = (U, a) := by
  cases f with
  | zero => rfl
  | succ f => simp only [turn, if_neg h]
theorem left_us {r : Rg} (h : r.U.length = r.N.length) (i : Nat) : (left r i).U.length = (left r i).N.length := by unfold left; simp [h]
theorem turn_len (n : Nat) : ∀ (f : Nat) (U : List Bool) (a : Nat), (turn n f U a).1.length = U.length
  | 0, U, a => rfl
  | f + 1, U, a => by
    unfold turn
    split
    · rw [turn_len n f]; simp
    · rfl
end Go.Proofs.YtaabmkhckbndgaaGreatDoor.rg
/- Mathematics of numbers and words in bytes, no Go in sight: numbers are read from what they are shown as, and only from that; words with blanks between them. -/
namespace Go.Proofs.YtaabmkhckbndgaaGreatDoor.cm
open Go.RowKit
set_option linter.unusedVariables false

/-- a digit -/
def dg (d : Nat) : UInt8 := UInt8.ofNat (48 + d)
def isD (c : UInt8) : Bool := decide (48 ≤ c.toNat) && decide (c.toNat ≤ 57)
theorem isD_iff {c : UInt8} : isD c = true ↔ 48 ≤ c.toNat ∧ c.toNat ≤ 57 := by simp [isD]
theorem dg_nat {d : Nat} (h : d < 10) : (dg d).toNat = 48 + d := by
  unfold dg
  rw [UInt8.toNat_ofNat']
  omega
theorem dg_isD {d : Nat} (h : d < 10) : isD (dg d) = true := isD_iff.2 (by rw [dg_nat h]; omega)
theorem dg_of {c : UInt8} (h : isD c = true) : dg (c.toNat - 48) = c := by
  have h2 := isD_iff.1 h
  apply UInt8.toNat_inj.1
  rw [dg_nat (by omega)]
  omega
/-- what digits tell -/
def val (a : Nat) (l : List UInt8) : Nat := l.foldl (fun b c => b * 10 + (c.toNat - 48)) a
theorem val_nil (a : Nat) : val a [] = a := by unfold val; rw [List.foldl_nil]
theorem val_cons (a : Nat) (c : UInt8) (r : List UInt8) : val a (c :: r) = val (a * 10 + (c.toNat - 48)) r := by unfold val; rw [List.foldl_cons]
theorem val_snoc (c : UInt8) (a : Nat) (l : List UInt8) : val a (l ++ [c]) = val a l * 10 + (c.toNat - 48) := by
  unfold val
  rw [List.foldl_append, List.foldl_cons, List.foldl_nil]
/-- how a number is shown -/
def digs (n : Nat) : List UInt8 := if n < 10 then [dg n] else digs (n / 10) ++ [dg (n % 10)]
termination_by n
decreasing_by omega
theorem digs_small {n : Nat} (h : n < 10) : digs n = [dg n] := by rw [digs, if_pos h]
theorem digs_big {n : Nat} (h : ¬ n < 10) : digs n = digs (n / 10) ++ [dg (n % 10)] := by rw [digs, if_neg h]
theorem val_digs (n : Nat) : val 0 (digs n) = n := by
  induction n using Nat.strongRecOn with
  | _ n ih =>
    by_cases h : n < 10
    · rw [digs_small h]
      rw [val_cons, val_nil, dg_nat h]
      omega
    · rw [digs_big h, val_snoc, ih (n / 10) (by omega), dg_nat (Nat.mod_lt _ (by omega))]
      omega
theorem digs_all (n : Nat) : ∀ c ∈ digs n, isD c = true := by
  induction n using Nat.strongRecOn with
  | _ n ih =>
    by_cases h : n < 10
    · rw [digs_small h]
      intro c hc
      rw [List.mem_singleton.1 hc]
      exact dg_isD h
    · rw [digs_big h]
      intro c hc
      rcases List.mem_append.1 hc with q | q
      · exact ih (n / 10) (by omega) c q
      · rw [List.mem_singleton.1 q]
        exact dg_isD (Nat.mod_lt _ (by omega))
theorem digs_ne (n : Nat) : digs n ≠ [] := by
  by_cases h : n < 10
  · rw [digs_small h]; simp
  · rw [digs_big h]; simp
theorem digs_len : ∀ (k n : Nat), n < 10 ^ (k + 1) → (digs n).length ≤ k + 1
  | 0, n, h => by rw [digs_small (by simpa using h)]; simp
  | k + 1, n, h => by
    by_cases h2 : n < 10
    · rw [digs_small h2]; simp
    · rw [digs_big h2, List.length_append, List.length_singleton]
      have : n / 10 < 10 ^ (k + 1) := by rw [Nat.div_lt_iff_lt_mul (by omega)]; rw [Nat.pow_succ] at h; omega
      have := digs_len k (n / 10) this
      omega
/-- the first digit is no 0, but of 0 alone -/
theorem digs_head (n : Nat) : (digs n).head? = some 48 → (digs n).length = 1 := by
  induction n using Nat.strongRecOn with
  | _ n ih =>
    by_cases h : n < 10
    · rw [digs_small h]
      intro _
      rfl
    · rw [digs_big h]
      intro hh
      have h1 : (digs (n / 10)).head? = some 48 := by
        cases hd : digs (n / 10) with
        | nil => exact absurd hd (digs_ne _)
        | cons c r => rw [hd] at hh; simpa using hh
      have h2 := ih (n / 10) (by omega) h1
      have h3 : n / 10 < 10 := Classical.byContradiction fun h4 => by
        rw [digs_big h4, List.length_append, List.length_singleton] at h2
        have := List.length_pos_iff.2 (digs_ne (n / 10 / 10))
        omega
      rw [digs_small h3] at h1
      have h5 : dg (n / 10) = 48 := by simpa using h1
      have h6 := congrArg UInt8.toNat h5
      rw [dg_nat h3] at h6
      have h7 : (48 : UInt8).toNat = 48 := rfl
      omega
/-- digits as a number is shown: one to nine of them, no 0 ahead -/
def canon (s : List UInt8) : Bool := s.all isD && decide (1 ≤ s.length) && decide (s.length ≤ 9) && !(s.head? == some 48 && decide (1 < s.length))
theorem canon_iff {s : List UInt8} : canon s = true ↔ (∀ c ∈ s, isD c = true) ∧ 1 ≤ s.length ∧ s.length ≤ 9 ∧ (s.head? = some 48 → s.length = 1) := by
  simp only [canon, Bool.and_eq_true, List.all_eq_true, decide_eq_true_eq, Bool.not_eq_true', Bool.and_eq_false_iff, beq_eq_false_iff_ne, decide_eq_false_iff_not]
  constructor
  · rintro ⟨⟨⟨h1, h2⟩, h3⟩, h4⟩
    refine ⟨h1, h2, h3, fun h => ?_⟩
    rcases h4 with q | q
    · exact absurd h q
    · omega
  · rintro ⟨h1, h2, h3, h4⟩
    refine ⟨⟨⟨h1, h2⟩, h3⟩, ?_⟩
    by_cases h : s.head? = some 48
    · have := h4 h
      exact .inr (by omega)
    · exact .inl h
theorem canon_digs {n : Nat} (h : n ≤ 999999999) : canon (digs n) = true :=
  canon_iff.2 ⟨digs_all n, by have := List.length_pos_iff.2 (digs_ne n); omega, digs_len 8 n (by omega), digs_head n⟩
theorem val_pos {c : UInt8} (hc : isD c = true) (h48 : c ≠ 48) : ∀ (l : List UInt8) (a : Nat), 0 < a → 0 < val a l
  | [], a, h => by rw [val_nil]; exact h
  | d :: r, a, h => by rw [val_cons]; exact val_pos hc h48 r _ (by omega)
theorem digs_val {c : UInt8} (hc : isD c = true) (h48 : c ≠ 48) : ∀ (n : Nat) (l : List UInt8), l.length = n → (∀ d ∈ l, isD d = true) → digs (val 0 (c :: l)) = c :: l
  | 0, l, hl, h => by
    rw [List.eq_nil_of_length_eq_zero hl]
    have h2 := isD_iff.1 hc
    rw [val_cons, val_nil, Nat.zero_mul, Nat.zero_add, digs_small (by omega), dg_of hc]
  | n + 1, l, hl, h => by
    have hne : l ≠ [] := fun e => by rw [e] at hl; simp at hl
    have e : l = l.dropLast ++ [l.getLast hne] := (List.dropLast_concat_getLast hne).symm
    have hd := isD_iff.1 (h (l.getLast hne) (List.getLast_mem hne))
    have ih := digs_val hc h48 n l.dropLast (by rw [List.length_dropLast]; omega) (fun d hd => h d (List.dropLast_subset l hd))
    have hcd := isD_iff.1 hc
    have hc0 : 0 < c.toNat - 48 := by
      have : c.toNat ≠ 48 := fun e => h48 (UInt8.toNat_inj.1 e)
      omega
    have hp : 0 < val 0 (c :: l.dropLast) := by
      rw [val_cons, Nat.zero_mul, Nat.zero_add]
      exact val_pos hc h48 _ _ hc0
    rw [e, ← List.cons_append, val_snoc, digs_big (by omega), show (val 0 (c :: l.dropLast) * 10 + ((l.getLast hne).toNat - 48)) / 10 = val 0 (c :: l.dropLast) by omega, ih, show (val 0 (c :: l.dropLast) * 10 + ((l.getLast hne).toNat - 48)) % 10 = (l.getLast hne).toNat - 48 by omega, dg_of (h (l.getLast hne) (List.getLast_mem hne))]
/-- a number is read only from what it is shown as -/
theorem digs_canon {s : List UInt8} (h : canon s = true) : digs (val 0 s) = s := by
  obtain ⟨h1, h2, h3, h4⟩ := canon_iff.1 h
  cases s with
  | nil => simp at h2
  | cons c r =>
    by_cases h48 : c = 48
    · have hl := h4 (by rw [h48]; rfl)
      have hr : r = [] := List.eq_nil_of_length_eq_zero (by simpa using hl)
      rw [hr, h48]
      have e : val 0 [48] = 0 := by rw [val_cons, val_nil]; rfl
      rw [e, digs_small (by omega)]
      rfl
    · exact digs_val (h1 c (List.mem_cons_self ..)) h48 r.length r rfl (fun d hd => h1 d (List.mem_cons_of_mem _ hd))
theorem val_lt : ∀ (l : List UInt8) (a k : Nat), (∀ c ∈ l, isD c = true) → a < 10 ^ k → val a l < 10 ^ (k + l.length)
  | [], a, k, _, h => by rw [val_nil]; simpa using h
  | c :: r, a, k, hc, h => by
    have h2 := isD_iff.1 (hc c (List.mem_cons_self ..))
    have := val_lt r (a * 10 + (c.toNat - 48)) (k + 1) (fun d hd => hc d (List.mem_cons_of_mem _ hd)) (by rw [Nat.pow_succ]; omega)
    rw [val_cons, List.length_cons, show k + (r.length + 1) = k + 1 + r.length by omega]
    exact this
theorem val_canon {s : List UInt8} (h : canon s = true) : val 0 s ≤ 999999999 := by
  obtain ⟨h1, h2, h3, -⟩ := canon_iff.1 h
  have := val_lt s 0 0 h1 (by decide)
  have h9 : (10 : Nat) ^ (0 + s.length) ≤ 10 ^ 9 := Nat.pow_le_pow_right (by decide) (by omega)
  omega

/-! ### words -/
def splitL (x : UInt8) : List UInt8 → List (List UInt8)
  | [] => [[]]
  | c :: r => if c = x then [] :: splitL x r else match splitL x r with
    | [] => [[c]]
    | w :: ws => (c :: w) :: ws
theorem splitL_ne (x : UInt8) : ∀ s, splitL x s ≠ []
  | [] => by simp [splitL]
  | c :: r => by
    unfold splitL
    split
    · simp
    · split <;> simp
theorem splitL_yes {x c : UInt8} (h : c = x) (r : List UInt8) : splitL x (c :: r) = [] :: splitL x r := by simp [splitL, h]
theorem splitL_no {x c : UInt8} (h : c ≠ x) {r w : List UInt8} {ws : List (List UInt8)} (e : splitL x r = w :: ws) : splitL x (c :: r) = (c :: w) :: ws := by simp [splitL, h, e]
def wordsL : List (List UInt8) → List UInt8
  | [] => []
  | [w] => w
  | w :: v :: ws => w ++ 32 :: wordsL (v :: ws)
theorem wordsL_cons {w : List UInt8} {ws : List (List UInt8)} (h : ws ≠ []) : wordsL (w :: ws) = w ++ 32 :: wordsL ws := by
  cases ws with
  | nil => exact absurd rfl h
  | cons v r => rfl
theorem words_split : ∀ s : List UInt8, wordsL (splitL 32 s) = s
  | [] => rfl
  | c :: r => by
    have ih := words_split r
    by_cases h : c = 32
    · rw [splitL_yes h, wordsL_cons (splitL_ne _ _), ih, h]
      rfl
    · cases e : splitL 32 r with
      | nil => exact absurd e (splitL_ne _ _)
      | cons w ws =>
        rw [splitL_no h e]
        rw [e] at ih
        rw [← ih]
        cases ws with
        | nil => rfl
        | cons v r => rfl
theorem split_nob : ∀ (w : List UInt8), 32 ∉ w → splitL 32 w = [w]
  | [], _ => rfl
  | c :: r, h => by
    simp only [List.mem_cons, not_or] at h
    exact splitL_no (fun e => h.1 e.symm) (split_nob r h.2)
theorem split_app : ∀ (w s : List UInt8), 32 ∉ w → splitL 32 (w ++ 32 :: s) = w :: splitL 32 s
  | [], s, _ => splitL_yes rfl s
  | c :: r, s, h => by
    simp only [List.mem_cons, not_or] at h
    exact splitL_no (fun e => h.1 e.symm) (split_app r s h.2)
theorem split_words : ∀ (ws : List (List UInt8)), ws ≠ [] → (∀ w ∈ ws, 32 ∉ w) → splitL 32 (wordsL ws) = ws
  | [], h, _ => absurd rfl h
  | [w], _, h => split_nob w (h w (by simp))
  | w :: v :: ws, _, h => by
    rw [wordsL_cons (by simp), split_app _ _ (h w (by simp)), split_words (v :: ws) (by simp) (fun x hx => h x (List.mem_cons_of_mem _ hx))]
theorem wordsL_mem {x : UInt8} : ∀ (ws : List (List UInt8)), x ∈ wordsL ws → x = 32 ∨ ∃ w ∈ ws, x ∈ w
  | [], h => by simp [wordsL] at h
  | [w], h => .inr ⟨w, by simp, h⟩
  | w :: v :: ws, h => by
    rw [wordsL_cons (by simp)] at h
    rcases List.mem_append.1 h with q | q
    · exact .inr ⟨w, by simp, q⟩
    · rcases List.mem_cons.1 q with q | q
      · exact .inl q
      · rcases wordsL_mem (v :: ws) q with z | ⟨u, hu, hx⟩
        · exact .inl z
        · exact .inr ⟨u, List.mem_cons_of_mem _ hu, hx⟩
theorem wordsL_len : ∀ (ws : List (List UInt8)) (m : Nat), (∀ w ∈ ws, w.length ≤ m) → (wordsL ws).length ≤ ws.length * (m + 1)
  | [], m, _ => by simp [wordsL]
  | [w], m, h => by have := h w (by simp); simp [wordsL]; omega
  | w :: v :: ws, m, h => by
    have h1 := h w (by simp)
    have h2 := wordsL_len (v :: ws) m (fun x hx => h x (List.mem_cons_of_mem _ hx))
    rw [wordsL_cons (by simp), List.length_append, List.length_cons, List.length_cons, Nat.add_mul]
    omega
end Go.Proofs.YtaabmkhckbndgaaGreatDoor.cm
/- Mathematics of commands, no Go in sight: right ones, how they are shown, how a line is read. -/
namespace Go.Proofs.YtaabmkhckbndgaaGreatDoor.cm
open Go.RowKit
open Go.Proofs.YtaabmkhckbndgaaGreatDoor.rg (nameB nbB nameB_size)
set_option linter.unusedVariables false

/-- a command -/
structure Cm where
  V : Int
  N : ByteArray
  F : Int
  U : Int
  B : ByteArray
  C : Int
  D : Int
  Q : Bool
def emp : ByteArray := ⟨#[]⟩
def Cm.zero : Cm := ⟨0, emp, 0, 0, emp, 0, 0, false⟩
def sized (v : Int) : Bool := decide (3 ≤ v) && decide (v ≤ 8)
def full (v : Int) : Bool := (decide (3 ≤ v) && decide (v ≤ 5)) || decide (v = 8)
def stepV (v : Int) : Bool := decide (v = 9) || decide (v = 10)
/-- a right one -/
structure COk (c : Cm) : Prop where
  v0 : 1 ≤ c.V
  v1 : c.V ≤ 13
  q : c.Q = true → 3 ≤ c.V
  n0 : c.V = 13 → c.N = emp
  nm : c.V ≠ 13 → nameB c.N = true
  f : full c.V = false → c.F = 0
  u : full c.V = false → c.V ≠ 11 → c.U = 0
  b : sized c.V = false → c.B = emp
  c8 : c.V ≠ 8 → c.C = 0
  d : stepV c.V = false → c.D = 0
  c1 : c.V = 8 → 1 ≤ c.C ∧ c.C ≤ 1000000
  f1 : 0 ≤ c.F ∧ c.F ≤ 65535
  u1 : 0 ≤ c.U ∧ c.U ≤ 1000000
  b1 : c.B.size ≤ 64
  d1 : 0 ≤ c.D ∧ c.D ≤ 1000000
open Classical in
noncomputable def cmdB (c : Cm) : Bool := decide (COk c)
open Classical in
theorem cmdB_iff {c : Cm} : cmdB c = true ↔ COk c := by unfold cmdB; exact decide_eq_true_iff

/-! ### how it is shown -/
def verbs : List (List UInt8) := [[103, 101, 116], [103, 101, 116, 115], [115, 101, 116], [97, 100, 100], [114, 101, 112, 108, 97, 99, 101], [116, 97, 105, 108], [104, 101, 97, 100], [99, 97, 115], [117, 112], [100, 111, 119, 110], [116, 111, 117, 99, 104], [99, 117, 116], [99, 108, 101, 97, 114]]
def quiet : List UInt8 := [113, 117, 105, 101, 116]
def vw (v : Int) : List UInt8 := (verbs[(v - 1).toNat]?).getD []
def bs (s : ByteArray) : List UInt8 := s.data.toList
def tx (l : List UInt8) : ByteArray := ⟨l.toArray⟩
theorem bs_tx (l : List UInt8) : bs (tx l) = l := by simp [bs, tx]
theorem tx_bs (s : ByteArray) : tx (bs s) = s := by cases s; simp [bs, tx]
theorem bs_len (s : ByteArray) : (bs s).length = s.size := by cases s; simp [bs, ByteArray.size]
theorem tx_size (l : List UInt8) : (tx l).size = l.length := by simp [tx, ByteArray.size]
theorem bs_emp : bs emp = [] := rfl
theorem tx_nil : tx [] = emp := rfl
/-- the numbers of a command, k bytes behind it -/
def numsK (c : Cm) (k : Nat) : List Nat :=
  (if full c.V then [c.F.toNat, c.U.toNat] else []) ++ (if sized c.V then [k] else if c.V = 11 then [c.U.toNat] else if stepV c.V then [c.D.toNat] else []) ++ (if c.V = 8 then [c.C.toNat] else [])
def wordsK (c : Cm) (k : Nat) : List (List UInt8) :=
  vw c.V :: (if c.V = 13 then [] else [bs c.N]) ++ (numsK c k).map digs ++ (if c.Q then [quiet] else [])
def lineK (c : Cm) (k : Nat) : List UInt8 := wordsL (wordsK c k)
def showL (c : Cm) : List UInt8 := lineK c c.B.size ++ 10 :: (if sized c.V then bs c.B ++ [10] else [])

/-! ### how a line is read -/
def quietB (v : Int) (w : List (List UInt8)) : Bool := decide (1 < w.length) && (w.getLast? == some quiet) && decide (2 < v) && (decide (2 < w.length) || decide (v = 13))
def want (v : Int) : Nat := (if full v then 2 else 0) + (if sized v || decide (v = 11) || stepV v then 1 else 0) + (if v = 8 then 1 else 0)
def nth (n : List Nat) (i : Nat) : Int := ((n[i]?).getD 0 : Nat)
def build (v : Int) (q : Bool) (nm : ByteArray) (n : List Nat) : Cm :=
  if full v then ⟨v, nm, nth n 0, nth n 1, emp, if v = 8 then nth n 3 else 0, 0, q⟩
  else if sized v then ⟨v, nm, 0, 0, emp, 0, 0, q⟩
  else if v = 11 then ⟨v, nm, 0, nth n 0, emp, 0, 0, q⟩
  else if stepV v then ⟨v, nm, 0, 0, emp, 0, nth n 0, q⟩
  else ⟨v, nm, 0, 0, emp, 0, 0, q⟩
def sizeN (v : Int) (n : List Nat) : Nat := if full v then (n[2]?).getD 0 else if sized v then (n[0]?).getD 0 else 0
/-- the words but for the last quiet -/
def plainW (v : Int) (w : List (List UInt8)) : List (List UInt8) := if quietB v w then w.dropLast else w
def nameW (v : Int) (u : List (List UInt8)) : ByteArray := if v = 13 then emp else tx ((u[1]?).getD [])
def restW (v : Int) (u : List (List UInt8)) : List (List UInt8) := u.drop (if v = 13 then 1 else 2)
open Classical in
noncomputable def lineL (v : Int) (w : List (List UInt8)) : Option (Cm × Nat) :=
  if (v ≠ 13 ∧ (plainW v w).length < 2) ∨ ¬ (∀ x ∈ restW v (plainW v w), canon x = true) ∨ (restW v (plainW v w)).length ≠ want v then none
  else if sizeN v ((restW v (plainW v w)).map (val 0)) ≤ 64 ∧ COk (build v (quietB v w) (nameW v (plainW v w)) ((restW v (plainW v w)).map (val 0))) then
    some (build v (quietB v w) (nameW v (plainW v w)) ((restW v (plainW v w)).map (val 0)), sizeN v ((restW v (plainW v w)).map (val 0)))
  else none

theorem verb_cases {v : Int} (h0 : 1 ≤ v) (h1 : v ≤ 13) : v = 1 ∨ v = 2 ∨ v = 3 ∨ v = 4 ∨ v = 5 ∨ v = 6 ∨ v = 7 ∨ v = 8 ∨ v = 9 ∨ v = 10 ∨ v = 11 ∨ v = 12 ∨ v = 13 := by omega
theorem digs_quiet (n : Nat) : digs n ≠ quiet := fun e => by
  have h := digs_all n
  rw [e] at h
  have := h 113 (by simp [quiet])
  exact absurd this (by decide)
theorem map_val (l : List Nat) : (l.map digs).map (val 0) = l := by
  rw [List.map_map]
  have : (val 0 ∘ digs) = id := by funext n; exact val_digs n
  rw [this, List.map_id]
theorem map_digs {l : List (List UInt8)} (h : ∀ x ∈ l, canon x = true) : (l.map (val 0)).map digs = l := by
  rw [List.map_map]
  exact (List.map_congr_left (fun x hx => digs_canon (h x hx))).trans (List.map_id' l)
theorem len_key (a b s : Bool) (p r : Prop) [Decidable p] [Decidable r] (x1 x2 x3 x4 x5 x6 : Nat) :
    ((if a then [x1, x2] else []) ++ (if b then [x3] else if p then [x4] else if s then [x5] else []) ++ (if r then [x6] else [])).length = (if a then 2 else 0) + (if b || decide p || s then 1 else 0) + (if r then 1 else 0) := by
  by_cases hp : p <;> by_cases hr : r <;> cases a <;> cases b <;> cases s <;> simp [hp, hr]
theorem want_len (c : Cm) (k : Nat) : (numsK c k).length = want c.V := by
  unfold numsK want
  exact len_key _ _ _ _ _ _ _ _ _ _ _
theorem nums_small {c : Cm} (h : COk c) {k : Nat} (hk : k ≤ 64) : ∀ n ∈ numsK c k, n ≤ 1000000 := by
  have h1 := h.f1
  have h2 := h.u1
  have h3 := h.d1
  have h4 := h.c1
  intro n hn
  unfold numsK at hn
  rcases List.mem_append.1 hn with hn | hn
  · rcases List.mem_append.1 hn with hn | hn
    · split at hn
      · simp at hn
        omega
      · simp at hn
    · split at hn
      · simp at hn
        omega
      · split at hn
        · simp at hn
          omega
        · split at hn
          · simp at hn
            omega
          · simp at hn
  · split at hn
    · rename_i e
      have := h4 e
      simp at hn
      omega
    · simp at hn
/-- the words without the last quiet -/
def coreK (c : Cm) (k : Nat) : List (List UInt8) := vw c.V :: (if c.V = 13 then [] else [bs c.N]) ++ (numsK c k).map digs
theorem words_core (c : Cm) (k : Nat) : wordsK c k = coreK c k ++ (if c.Q then [quiet] else []) := rfl
theorem core_len (c : Cm) (k : Nat) : (coreK c k).length = 1 + (if c.V = 13 then 0 else 1) + want c.V := by
  unfold coreK
  rw [List.length_append, List.length_map, want_len]
  split <;> simp
theorem want_pos {v : Int} (h : want v = 0) (h0 : 3 ≤ v) (h1 : v ≤ 13) : v = 12 ∨ v = 13 := by
  unfold want sized stepV full at h
  have hc : v = 3 ∨ v = 4 ∨ v = 5 ∨ v = 6 ∨ v = 7 ∨ v = 8 ∨ v = 9 ∨ v = 10 ∨ v = 11 ∨ v = 12 ∨ v = 13 := by omega
  rcases hc with rfl | rfl | rfl | rfl | rfl | rfl | rfl | rfl | rfl | rfl | rfl <;> simp at h ⊢
theorem quiet_show {c : Cm} (h : COk c) (k : Nat) : quietB c.V (wordsK c k) = c.Q := by
  have hv0 := h.v0
  have hv1 := h.v1
  cases hq : c.Q with
  | true =>
    have h3 := h.q hq
    have e : wordsK c k = coreK c k ++ [quiet] := by rw [words_core, hq]; rfl
    have hl := core_len c k
    unfold quietB
    rw [e, List.length_append, List.length_singleton, List.getLast?_append, hl]
    by_cases h13 : c.V = 13
    · simp [h13]
      omega
    · simp [h13]
      omega
  | false =>
    have e : wordsK c k = coreK c k := by rw [words_core, hq]; simp
    have hl := core_len c k
    rw [e]
    by_cases h3 : 3 ≤ c.V
    · by_cases hw : want c.V = 0
      · have := want_pos hw h3 hv1
        unfold quietB
        rw [hl, hw]
        by_cases h13 : c.V = 13
        · simp [h13]
        · simp [h13]
      · have hne : numsK c k ≠ [] := fun e => hw (by rw [← want_len c k, e]; rfl)
        have hlast : (coreK c k).getLast? = some (digs ((numsK c k).getLast hne)) := by
          unfold coreK
          rw [List.getLast?_append, List.getLast?_map, List.getLast?_eq_some_getLast hne]
          rfl
        unfold quietB
        rw [hlast]
        have : (some (digs ((numsK c k).getLast hne)) == some quiet) = false := by
          simp only [beq_eq_false_iff_ne, ne_eq, Option.some.injEq]
          exact digs_quiet _
        rw [this]
        simp
    · unfold quietB
      rw [decide_eq_false (show ¬ 2 < c.V by omega)]
      simp
theorem plain_show {c : Cm} (h : COk c) (k : Nat) : plainW c.V (wordsK c k) = coreK c k := by
  unfold plainW
  rw [quiet_show h, words_core]
  cases c.Q <;> simp
theorem rest_core (c : Cm) (k : Nat) : restW c.V (coreK c k) = (numsK c k).map digs := by
  unfold restW coreK
  by_cases h : c.V = 13 <;> simp [h]
theorem name_core {c : Cm} (h : COk c) (k : Nat) : nameW c.V (coreK c k) = c.N := by
  unfold nameW coreK
  by_cases h13 : c.V = 13
  · rw [if_pos h13, h.n0 h13]
  · simp [h13, tx_bs]
/-- the command without its bytes -/
def bare (c : Cm) : Cm := ⟨c.V, c.N, c.F, c.U, emp, c.C, c.D, c.Q⟩
theorem bare_ok {c : Cm} (h : COk c) : COk (bare c) := ⟨h.v0, h.v1, h.q, h.n0, h.nm, h.f, h.u, fun _ => rfl, h.c8, h.d, h.c1, h.f1, h.u1, by show emp.size ≤ 64; decide, h.d1⟩
theorem build_show {c : Cm} (h : COk c) (k : Nat) : build c.V c.Q c.N (numsK c k) = bare c := by
  have hf := h.f
  have hu := h.u
  have hc8 := h.c8
  have hd := h.d
  have f1 := h.f1
  have u1 := h.u1
  have d1 := h.d1
  have c1 := h.c1
  have e : ∀ x : Int, 0 ≤ x → ((x.toNat : Nat) : Int) = x := fun x hx => by omega
  unfold build bare numsK
  cases hfull : full c.V with
  | true =>
    have hs : sized c.V = true := by
      unfold full at hfull
      unfold sized
      simp at hfull ⊢
      omega
    have hd0 : c.D = 0 := hd (by unfold full at hfull; unfold stepV; simp at hfull ⊢; omega)
    by_cases h8 : c.V = 8
    · have e8 : sized 8 = true := rfl
      simp [e8, h8, nth, e c.F f1.1, e c.U u1.1, e c.C (by have := c1 h8; omega), hd0]
    · simp [hs, h8, nth, e c.F f1.1, e c.U u1.1, hd0, hc8 h8]
  | false =>
    have hF := hf hfull
    have h8 : c.V ≠ 8 := fun e => by rw [e] at hfull; simp [full] at hfull
    cases hs : sized c.V with
    | true =>
      have h11 : c.V ≠ 11 := fun e => by rw [e] at hs; simp [sized] at hs
      have hd0 : c.D = 0 := hd (by unfold sized at hs; unfold stepV; simp at hs ⊢; omega)
      simp [hF, hu hfull h11, hc8 h8, hd0]
    | false =>
      by_cases h11 : c.V = 11
      · have hd0 : c.D = 0 := hd (by rw [h11]; rfl)
        simp [h11, nth, e c.U u1.1, hF, hc8 h8, hd0]
      · cases hst : stepV c.V with
        | true => simp [h11, nth, e c.D d1.1, hF, hc8 h8, hu hfull h11]
        | false => simp [h11, hF, hc8 h8, hu hfull h11, hd hst]
theorem size_show {c : Cm} (h : COk c) (k : Nat) (hk : sized c.V = false → k = 0) : sizeN c.V (numsK c k) = k := by
  unfold sizeN numsK
  cases hfull : full c.V with
  | true =>
    have hs : sized c.V = true := by
      unfold full at hfull
      unfold sized
      simp at hfull ⊢
      omega
    simp [hs]
  | false =>
    cases hs : sized c.V with
    | true => simp
    | false => simp [hk hs]
/-- a line is read from what it is shown as -/
theorem line_show {c : Cm} (h : COk c) : lineL c.V (wordsK c c.B.size) = some (bare c, c.B.size) := by
  have hb := h.b1
  have hk : sized c.V = false → c.B.size = 0 := fun e => by rw [h.b e]; rfl
  have hr : restW c.V (plainW c.V (wordsK c c.B.size)) = (numsK c c.B.size).map digs := by rw [plain_show h, rest_core]
  unfold lineL
  rw [hr, plain_show h, quiet_show h, name_core h, map_val, build_show h, size_show h _ hk, core_len, if_neg, if_pos ⟨hb, bare_ok h⟩]
  rintro (⟨h1, h2⟩ | h1 | h1)
  · rw [if_neg h1] at h2
    omega
  · refine h1 fun x hx => ?_
    obtain ⟨n, hn, rfl⟩ := List.mem_map.1 hx
    exact canon_digs (by have := nums_small h hb n hn; omega)
  · rw [List.length_map, want_len] at h1
    exact h1 rfl
end Go.Proofs.YtaabmkhckbndgaaGreatDoor.cm
/- Structs in memory: what the operations on whole structs do, each with a new letter for the world. -/
namespace Go.Proofs.YtaabmkhckbndgaaGreatDoor.ce
open Go.ChangeShapes Go.WideShapes Go.ChangeAt Go.RowKit
set_option linter.unusedVariables false

/-- block b is a row of cells, none frozen -/
def VBlk (w : World) (b : Nat) (t : TypeId) (vs : List Value) : Prop := w.heap[b]? = some (.cells vs.toArray t (0, 0))
theorem VBlk.cell {w : World} {b : Nat} {t : TypeId} {vs : List Value} (h : VBlk w b t vs) (j : Nat) (hj : j < vs.length) : w.cell? ⟨b, j, none⟩ = some vs[j] := by
  rw [cell_of_row _ _ _ _ _ _ h]; simp [hj]
theorem VBlk.frozen {w : World} {b : Nat} {t : TypeId} {vs : List Value} (h : VBlk w b t vs) (j : Nat) : w.frozen? ⟨b, j, none⟩ = false := frozen_of_row _ _ _ _ _ h
theorem VBlk.lt {w : World} {b : Nat} {t : TypeId} {vs : List Value} (h : VBlk w b t vs) : b < w.heap.size := (Array.getElem?_eq_some_iff.1 h).1
theorem VBlk.of {w w' : World} {b : Nat} {t : TypeId} {vs : List Value} (h : VBlk w b t vs) (e : w'.heap[b]? = w.heap[b]?) : VBlk w' b t vs := by unfold VBlk; rw [e]; exact h
theorem VBlk.below {w w' : World} {B b : Nat} {t : TypeId} {vs : List Value} (h : VBlk w b t vs) (hb : Below B w w') (hlt : b < B) : VBlk w' b t vs := h.of (hb.block b hlt)
theorem VBlk.set {w : World} {b : Nat} {t : TypeId} {vs : List Value} (h : VBlk w b t vs) (i : Nat) (x : Value) : VBlk (w.setCell ⟨b, i, none⟩ x) b t (vs.set i x) := by
  unfold VBlk
  rw [heap_setCell_same w b i _ t _ h]
  simp
theorem VBlk.there {w : World} {b : Nat} {t : TypeId} {vs : List Value} (h : VBlk w b t vs) : w.there b 0 vs.length := fun j hj =>
  ⟨by simp only [Nat.zero_add]; rw [h.cell j hj]; rfl, by simp only [Nat.zero_add]; exact h.frozen j⟩
theorem VBlk.range {w : World} {b : Nat} {t : TypeId} {vs : List Value} (h : VBlk w b t vs) : w.rangeAt b 0 vs := fun j v hv => by
  rw [cell_of_row _ _ _ _ _ _ h]; simpa using hv
theorem VBlk.drew {w : World} {b : Nat} {t : TypeId} {vs : List Value} (h : VBlk w b t vs) : VBlk w.drew b t vs := h

theorem heap_setCells (b : Nat) (t : TypeId) : ∀ (vs : List Value) (k : Nat) (w : World) (cs : List Value), w.heap[b]? = some (.cells cs.toArray t (0, 0)) → k + vs.length ≤ cs.length →
    (w.setCells b k vs).heap[b]? = some (.cells (cs.take k ++ vs ++ cs.drop (k + vs.length)).toArray t (0, 0))
  | [], k, w, cs, h, hk => by simpa [World.setCells] using h
  | v :: r, k, w, cs, h, hk => by
    have h1 := heap_setCell_same w b k cs.toArray t v h
    have hk' : k < cs.length := by simp at hk; omega
    have ih := heap_setCells b t r (k + 1) (w.setCell ⟨b, k, none⟩ v) (cs.set k v) (by rw [h1]; simp) (by simp at hk ⊢; omega)
    rw [World.setCells, ih]
    congr 3
    rw [List.take_succ_eq_append_getElem (by simpa using hk'), List.getElem_set_self, List.take_set_of_le (Nat.le_refl _), List.drop_set_of_lt (by omega)]
    simp [Nat.add_comm, Nat.add_left_comm]
theorem heap_setCells_other (b : Nat) : ∀ (vs : List Value) (k : Nat) (w : World) (j : Nat), j ≠ b → (w.setCells b k vs).heap[j]? = w.heap[j]?
  | [], _, _, _, _ => rfl
  | v :: r, k, w, j, h => by rw [World.setCells, heap_setCells_other b r (k + 1) _ j h]; exact Below.heap_setCell _ _ _ _ h
theorem meta_setCells (b : Nat) : ∀ (vs : List Value) (k : Nat) (w : World), (w.setCells b k vs).os = w.os ∧ (w.setCells b k vs).tape = w.tape ∧ (w.setCells b k vs).output = w.output ∧ (w.setCells b k vs).heap.size = w.heap.size
  | [], _, _ => ⟨rfl, rfl, rfl, rfl⟩
  | v :: r, k, w => by
    rw [World.setCells]
    have ih := meta_setCells b r (k + 1) (w.setCell ⟨b, k, none⟩ v)
    exact ⟨ih.1, ih.2.1, ih.2.2.1, by rw [ih.2.2.2]; simp⟩
theorem below_setCells {B b : Nat} (w : World) (hb : B ≤ b) (vs : List Value) (k : Nat) : Below B w (w.setCells b k vs) :=
  have m := meta_setCells b vs k w
  ⟨m.1, m.2.1, m.2.2.1, by rw [m.2.2.2]; exact Nat.le_refl _, fun j hj => heap_setCells_other b vs k w j (by omega)⟩
/-- only block b is turned -/
def Only (b : Nat) (w w' : World) : Prop := w'.heap.size = w.heap.size ∧ (∀ j, j ≠ b → w'.heap[j]? = w.heap[j]?) ∧ ∀ B, B ≤ b → Below B w w'
theorem only_setCells (w : World) (b : Nat) (vs : List Value) (k : Nat) : Only b w (w.setCells b k vs) := ⟨(meta_setCells b vs k w).2.2.2, heap_setCells_other b vs k w, fun B hB => below_setCells w hB vs k⟩

/-- of the blocks that were there only those from lo up to hi may be turned -/
structure Within (lo hi : Nat) (w w' : World) : Prop where
  os : w'.os = w.os
  tape : w'.tape = w.tape
  output : w'.output = w.output
  size : w.heap.size ≤ w'.heap.size
  block : ∀ k, k < w.heap.size → (k < lo ∨ hi ≤ k) → w'.heap[k]? = w.heap[k]?
theorem Within.refl (lo hi : Nat) (w : World) : Within lo hi w w := ⟨rfl, rfl, rfl, Nat.le_refl _, fun _ _ _ => rfl⟩
theorem Within.trans {lo hi : Nat} {a b c : World} (h : Within lo hi a b) (k : Within lo hi b c) : Within lo hi a c :=
  ⟨k.os.trans h.os, k.tape.trans h.tape, k.output.trans h.output, Nat.le_trans h.size k.size, fun j hj hn => (k.block j (Nat.lt_of_lt_of_le hj h.size) hn).trans (h.block j hj hn)⟩
theorem Within.of_below {lo hi B : Nat} {w w' : World} (h : Below B w w') (hB : w.heap.size ≤ B) : Within lo hi w w' := ⟨h.os, h.tape, h.output, h.size, fun k hk _ => h.block k (by omega)⟩
theorem Within.setCell {lo hi : Nat} {a w : World} (h : Within lo hi a w) {p : Addr} (h1 : lo ≤ p.block) (h2 : p.block < hi) (u : Value) : Within lo hi a (w.setCell p u) :=
  h.trans ⟨rfl, rfl, rfl, by simp, fun k hk hn => Below.heap_setCell _ _ _ _ (by omega)⟩
theorem Within.drew {lo hi : Nat} {a w : World} (h : Within lo hi a w) : Within lo hi a w.drew := ⟨h.os, h.tape, h.output, h.size, h.block⟩
theorem Within.wide {lo hi lo' hi' : Nat} {w w' : World} (h : Within lo hi w w') (h1 : lo' ≤ lo) (h2 : hi ≤ hi') : Within lo' hi' w w' := ⟨h.os, h.tape, h.output, h.size, fun k hk hn => h.block k hk (by omega)⟩
theorem Within.below {lo hi B : Nat} {w w' : World} (h : Within lo hi w w') (h1 : B ≤ lo) (h2 : B ≤ w.heap.size) : Below B w w' := ⟨h.os, h.tape, h.output, h.size, fun k hk => h.block k (by omega) (by omega)⟩
theorem Within.only {lo hi b : Nat} {a w w' : World} (h : Within lo hi a w) (o : Only b w w') (h1 : lo ≤ b) (h2 : b < hi) : Within lo hi a w' := by
  have b0 := o.2.2 0 (Nat.zero_le _)
  exact h.trans ⟨b0.os, b0.tape, b0.output, b0.size, fun k hk hn => o.2.1 k (by omega)⟩

theorem below_drewN {B : Nat} (w : World) (n : Nat) : Below B w (w.drewN n) := ⟨rfl, rfl, rfl, Nat.le_refl _, fun _ _ => rfl⟩

section laws
variable {P : Program} {ops : Array Oper} {rest : List Oper} {o : Oper} {a : Act} {w : World} {Q : Exit → Act → World → Prop} {K : Act → World → Prop} {E : Prop}
theorem wpList_val (hgd : o.guard = none) {v : Value} {w' : World} (hr : (execOp a.eval o).run P w = .ok (.value v) w') (h : wpList P ops Q rest (a.put o.dst v) w') : wpList P ops Q (o :: rest) a w :=
  wpList_plain hgd fun K hK => by unfold Oper.wp; rw [hr]; exact hK _ _ h
theorem step_val (hgd : o.guard = none) {v : Value} {w' : World} (hr : (execOp a.eval o).run P w = .ok (.value v) w') (h : K (a.put o.dst v) w') :
    if Region.wanted o (yielded ops a.tmps) = true then Oper.wp P o a w K Q else E := by
  have hw : Region.wanted o (yielded ops a.tmps) = true := by simp [Region.wanted, hgd]
  rw [if_pos hw]
  unfold Oper.wp
  rw [hr]
  exact h

/-- a new variable that holds a struct -/
theorem wpList_box_v (hgd : o.guard = none) (t : TypeId) (x : Operand) (ho : o.op = .box t x) (vs : List Value) (hx : a.eval x = .agg vs.toArray)
    (h : ∀ (b : Nat) (w' : World), w.heap.size ≤ b → b < w'.heap.size → Below w.heap.size w w' → VBlk w' b t vs → wpList P ops Q rest (a.put o.dst (.pointer (some ⟨b, 0, none⟩))) w') : wpList P ops Q (o :: rest) a w := by
  refine wpList_val hgd (v := .pointer (some ⟨w.heap.size, 0, none⟩)) (w' := w.alloc (.cells vs.toArray t)) ?_ (h _ _ (Nat.le_refl _) (by simp) ((Below.refl _ _).alloc (Nat.le_refl _) _) (heap_alloc_new _ _))
  unfold execOp
  simp only [ho, hx]
  rfl
theorem wpList_alloc_v (hgd : o.guard = none) (t : TypeId) (ho : o.op = .alloc t) (vs : List Value) (hz : ∀ w, (zeroValue t).run P w = .ok (.agg vs.toArray) w)
    (h : ∀ (b : Nat) (w' : World), w.heap.size ≤ b → b < w'.heap.size → Below w.heap.size w w' → VBlk w' b t vs → wpList P ops Q rest (a.put o.dst (.pointer (some ⟨b, 0, none⟩))) w') : wpList P ops Q (o :: rest) a w := by
  refine wpList_val hgd (v := .pointer (some ⟨w.heap.size, 0, none⟩)) (w' := w.alloc (.cells vs.toArray t)) ?_ (h _ _ (Nat.le_refl _) (by simp) ((Below.refl _ _).alloc (Nat.le_refl _) _) (heap_alloc_new _ _))
  unfold execOp
  simp only [ho, Instr.alloc, Sem.run_bind, hz, Result.andThen_ok]
  rfl
/-- a struct is stored into its variable -/
theorem wpList_store_v (hgd : o.guard = none) (t : TypeId) (x y : Operand) (ho : o.op = .store t x y) (b : Nat) (ys : List Value) (hx : a.eval x = .pointer (some ⟨b, 0, none⟩)) (hy : a.eval y = .agg ys.toArray)
    (hi : (P.info? t).map (·.size) = some ys.length) {t' : TypeId} {vs : List Value} (hb : VBlk w b t' vs) (hn : ys.length = vs.length) (h1 : ∀ v ∈ ys, v.oneCell' = true)
    (h : ∀ w', Only b w w' → VBlk w' b t' ys → wpList P ops Q rest (a.put o.dst undef) w') : wpList P ops Q (o :: rest) a w := by
  refine wpList_store_mid hgd t x y ho b 0 ys.toArray hx hy ?_ (by rw [hi]; simp) (all_oneCell_toArray h1) ?_
  · rw [List.size_toArray, hn]; exact hb.there
  · refine h _ (only_setCells _ _ _ _) ?_
    unfold VBlk
    rw [heap_setCells b t' _ 0 w vs hb (by simp [hn])]
    simp [hn]
/-- a struct is loaded -/
theorem wpList_load_r (hgd : o.guard = none) (t : TypeId) (x : Operand) (ho : o.op = .load t x) (b k : Nat) (vs : List Value) (hx : a.eval x = .pointer (some ⟨b, k, none⟩)) (d : TypeDesc) (hu : P.underlying t = some d) (hd : d.isRow = true)
    (hi : (P.info? t).map (·.size) = some vs.length) (hr : w.rangeAt b k vs) (h : wpList P ops Q rest (a.put o.dst (.agg vs.toArray)) w) : wpList P ops Q (o :: rest) a w :=
  wpList_load_mid hgd t x ho b k hx vs d hr hu hd hi h
end laws

theorem row_retv {fn : Func} {p : Tmp} {ty : TypeId} (h : fn.results = #[.cell p ty]) {R : Ending → World → Prop} {a : Act} {w : World} {b : Nat} {t : TypeId} {vs : List Value} {fs : Array Field}
    (hp : a.tmps.getD p undef = .pointer (some ⟨b, 0, none⟩)) (hb : VBlk w b t vs) (hu : Tryz.prog.underlying ty = some (.struct fs))
    (hi : (Tryz.prog.info? ty).map (·.size) = some vs.length) (hdf : a.defers = []) (hR : R (.returned (.agg vs.toArray)) w) : bodyPost Tryz.prog fn R .ret a w :=
  bodyPost_ret (results_cell_row h a.tmps w b t _ _ _ hp hb hu rfl (by rw [hi]; simp)) hdf hR

theorem results_ct {fn : Func} {p u : Tmp} {ty : TypeId} (h : fn.results = #[.cell p ty, .tmp u]) (tmps : Array Value) (P : Program) (w : World) :
    (results fn tmps).run P w =
      ((asAddr (tmps.getD p undef)).run P w).andThen fun a w₁ => ((loadVar ty a).run P w₁).andThen fun v w₂ => .ok (.tuple #[v, tmps.getD u undef]) w₂ := by
  simp only [results, h]
  simp [Sem.run_bind, Result.andThen]
theorem row_ct {fn : Func} {p u : Tmp} {ty : TypeId} (h : fn.results = #[.cell p ty, .tmp u]) {R : Ending → World → Prop} {a : Act} {w : World} {b : Nat} {t : TypeId} {vs : List Value} {fs : Array Field} {x : Value}
    (hp : a.tmps.getD p undef = .pointer (some ⟨b, 0, none⟩)) (hx : a.tmps.getD u undef = x) (hb : VBlk w b t vs) (hu : Tryz.prog.underlying ty = some (.struct fs))
    (hi : (Tryz.prog.info? ty).map (·.size) = some vs.length) (hdf : a.defers = []) (hR : R (.returned (.tuple #[.agg vs.toArray, x])) w) : bodyPost Tryz.prog fn R .ret a w := by
  have hl := run_loadVar_row (P := Tryz.prog) w b t ty vs.toArray (0, 0) _ hb hu rfl (by rw [hi]; simp)
  refine bodyPost_ret ?_ hdf hR
  rw [results_ct h, hp, hx]
  simp [asAddr, hl]
end Go.Proofs.YtaabmkhckbndgaaGreatDoor.ce
/- Rows in memory, of whatever things lie in k cells each: how they are read, how a call owns them, what keeps them; append. -/
namespace Go.Proofs.YtaabmkhckbndgaaGreatDoor.ro
open Go.ChangeShapes Go.WideShapes Go.ChangeAt Go.RowKit
open Go.Proofs.YtaabmkhckbndgaaGreatDoor.ce
set_option linter.unusedVariables false

/-- how a thing lies in memory: in k cells, in blocks of the type t -/
structure Enc (α : Type) where
  put : α → List Value
  k : Nat
  t : TypeId
  len : ∀ x, (put x).length = k
  one : ∀ x, ∀ v ∈ put x, v.oneCell' = true
  pos : 0 < k

section plain
variable {α : Type} (E : Enc α)
def Enc.row (xs : List α) : List Value := xs.flatMap E.put
theorem Enc.row_nil : E.row [] = [] := rfl
theorem Enc.row_cons (x : α) (xs : List α) : E.row (x :: xs) = E.put x ++ E.row xs := by simp [Enc.row]
theorem Enc.row_one' (x : α) : E.row [x] = E.put x := by simp [Enc.row]
theorem Enc.row_append (xs ys : List α) : E.row (xs ++ ys) = E.row xs ++ E.row ys := by simp [Enc.row]
theorem Enc.row_len : ∀ xs : List α, (E.row xs).length = xs.length * E.k
  | [] => by simp [Enc.row]
  | x :: r => by rw [Enc.row_cons, List.length_append, E.len, Enc.row_len r, List.length_cons, Nat.add_mul]; omega
theorem Enc.row_cells (xs : List α) : ∀ v ∈ E.row xs, v.oneCell' = true := by
  intro v hv
  obtain ⟨x, -, hx⟩ := List.mem_flatMap.1 hv
  exact E.one x v hx
theorem Enc.row_get : ∀ (xs : List α) (i j : Nat) (hi : i < xs.length), j < E.k → (E.row xs)[i * E.k + j]? = (E.put xs[i])[j]?
  | [], i, j, hi, _ => by simp at hi
  | x :: r, 0, j, hi, hj => by
    rw [Enc.row_cons, Nat.zero_mul, Nat.zero_add, List.getElem?_append_left (by rw [E.len]; exact hj)]
    rfl
  | x :: r, i + 1, j, hi, hj => by
    rw [Enc.row_cons, List.getElem?_append_right (by rw [E.len, Nat.add_mul]; omega), E.len, show (i + 1) * E.k + j - E.k = i * E.k + j by rw [Nat.add_mul]; omega]
    exact Enc.row_get r i j (by simpa using hi) hj
theorem Enc.row_take : ∀ (xs : List α) (m : Nat), (E.row xs).take (m * E.k) = E.row (xs.take m)
  | [], m => by simp [Enc.row]
  | x :: r, 0 => by simp [Enc.row]
  | x :: r, m + 1 => by
    rw [Enc.row_cons, List.take_succ_cons, Enc.row_cons, ← Enc.row_take r m, List.take_append, E.len, List.take_of_length_le (by rw [E.len, Nat.add_mul]; omega), show (m + 1) * E.k - E.k = m * E.k by rw [Nat.add_mul]; omega]
theorem Enc.row_drop (xs : List α) (m : Nat) (hm : m ≤ xs.length) : (E.row xs).drop (m * E.k) = E.row (xs.drop m) := by
  have h : E.row xs = E.row (xs.take m) ++ E.row (xs.drop m) := by rw [← Enc.row_append, List.take_append_drop]
  have hl : (E.row (xs.take m)).length = m * E.k := by rw [Enc.row_len, List.length_take, Nat.min_eq_left hm]
  rw [h, ← hl, List.drop_left]
theorem Enc.row_set : ∀ (xs : List α) (i j : Nat) (hi : i < xs.length), j < E.k → ∀ (u : Value) (y : α), E.put y = (E.put xs[i]).set j u → (E.row xs).set (i * E.k + j) u = E.row (xs.set i y)
  | [], i, j, hi, _, _, _, _ => by simp at hi
  | x :: r, 0, j, hi, hj, u, y, hy => by
    rw [List.set_cons_zero, Enc.row_cons, Enc.row_cons, Nat.zero_mul, Nat.zero_add, List.set_append_left _ _ (by rw [E.len]; exact hj), hy]
    rfl
  | x :: r, i + 1, j, hi, hj, u, y, hy => by
    rw [List.set_cons_succ, Enc.row_cons, Enc.row_cons, List.set_append_right _ _ (by rw [E.len, Nat.add_mul]; omega), E.len, show (i + 1) * E.k + j - E.k = i * E.k + j by rw [Nat.add_mul]; omega, Enc.row_set r i j (by simpa using hi) hj u y (by simpa using hy)]
theorem Enc.row_replicate (x : α) (n : Nat) (v : Value) (h : E.put x = [v]) : E.row (List.replicate n x) = List.replicate n v := by
  induction n with
  | zero => simp [Enc.row]
  | succ n ih => rw [List.replicate_succ, Enc.row_cons, ih, h, List.replicate_succ]; rfl
end plain

theorem range_of {w w' : World} {b off : Nat} {vs : List Value} (h : w.rangeAt b off vs) (e : w'.heap[b]? = w.heap[b]?) : w'.rangeAt b off vs := fun j v hv => by
  rw [World.cell?_of_block (w := w) (w' := w') (a := ⟨b, off + j, none⟩) e]; exact h j v hv
theorem range_lt {w : World} {b off : Nat} {vs : List Value} (h : w.rangeAt b off vs) (hn : vs ≠ []) : b < w.heap.size := by
  cases vs with
  | nil => exact absurd rfl hn
  | cons v r => exact World.block_lt_of_cell? w _ (h 0 v rfl)
theorem below_grown {B : Nat} {w w' : World} {row : Option Nat} (h : w.grownBy w' row) (hB : B ≤ w.heap.size) (hr : ∀ k, row = some k → B ≤ k) : Below B w w' := Below.grown (Below.refl _ w) h hB hr

variable {α : Type}
/-- the things xs are read at the slice v -/
structure Rd (E : Enc α) (w : World) (v : Value) (xs : List α) : Prop where
  fits : ∃ a cap, v = .slice a xs.length cap ∧ xs.length ≤ cap ∧ cap ≤ maxLen ∧ (xs ≠ [] → ∃ b off, a = some ⟨b, off, none⟩ ∧ b < w.heap.size ∧ w.rangeAt b off (E.row xs))
theorem Rd.grow {E : Enc α} {w w' : World} {v : Value} {xs : List α} (r : Rd E w v xs) (hb : Below w.heap.size w w') : Rd E w' v xs := by
  obtain ⟨a, cap, e, h1, h2, h3⟩ := r.fits
  refine ⟨a, cap, e, h1, h2, fun hn => ?_⟩
  obtain ⟨b, off, e2, h4, h5⟩ := h3 hn
  exact ⟨b, off, e2, Nat.lt_of_lt_of_le h4 hb.size, range_of h5 (hb.block b h4)⟩
theorem Rd.drew {E : Enc α} {w : World} {v : Value} {xs : List α} (r : Rd E w v xs) : Rd E w.drew v xs := r.grow (Below.refl _ _).drew
theorem Rd.form {E : Enc α} {w : World} {v : Value} {xs : List α} (r : Rd E w v xs) : ∃ a cap, v = .slice a xs.length cap := by
  obtain ⟨a, cap, e, -⟩ := r.fits
  exact ⟨a, cap, e⟩
theorem Rd.len {E : Enc α} {w : World} {v : Value} {xs : List α} (r : Rd E w v xs) : xs.length ≤ 9223372036854775807 := by
  obtain ⟨a, cap, e, h1, h2, h3⟩ := r.fits
  unfold maxLen at h2; omega
theorem Rd.cap {E : Enc α} {w : World} {a : Option Addr} {n cap : Nat} {xs : List α} (r : Rd E w (.slice a n cap) xs) : n = xs.length ∧ n ≤ cap ∧ cap ≤ 9223372036854775807 := by
  obtain ⟨a', cap', e, h1, h2, h3⟩ := r.fits
  cases e
  unfold maxLen at h2; exact ⟨rfl, h1, h2⟩
theorem Rd.cell {E : Enc α} {w : World} {n cap : Nat} {a : Option Addr} {xs : List α} (r : Rd E w (.slice a n cap) xs) (i j : Nat) (hi' : i < xs.length) (hj : j < E.k) :
    ∃ b off, a = some ⟨b, off, none⟩ ∧ b < w.heap.size ∧ w.cell? ⟨b, off + (i * E.k + j), none⟩ = some ((E.put xs[i])[j]'(by rw [E.len]; exact hj)) := by
  obtain ⟨a', cap', e, h1, h2, h3⟩ := r.fits
  cases e
  obtain ⟨b, off, rfl, h4, h5⟩ := h3 (by intro e; subst e; simp at hi')
  refine ⟨b, off, rfl, h4, h5 _ _ ?_⟩
  rw [E.row_get xs i j hi' hj]
  exact List.getElem?_eq_getElem _
theorem Rd.start {E : Enc α} {w : World} {n cap : Nat} {a : Option Addr} {xs : List α} (r : Rd E w (.slice a n cap) xs) (h : 1 ≤ xs.length) : ∃ b off, a = some ⟨b, off, none⟩ ∧ b < w.heap.size ∧ w.rangeAt b off (E.row xs) := by
  obtain ⟨a', cap', e, h1, h2, h3⟩ := r.fits
  cases e
  exact h3 (by intro e; subst e; simp at h)
theorem rd_zero (E : Enc α) (w : World) (a : Option Addr) (cap : Nat) (hc : cap ≤ maxLen) : Rd E w (.slice a 0 cap) [] := ⟨a, cap, rfl, Nat.zero_le _, hc, fun h => absurd rfl h⟩
theorem Rd.take {E : Enc α} {w : World} {b off n cap : Nat} {xs : List α} (r : Rd E w (.slice (some ⟨b, off, none⟩) n cap) xs) (m : Nat) (hm : m ≤ xs.length) : Rd E w (.slice (some ⟨b, off, none⟩) m cap) (xs.take m) := by
  obtain ⟨a', cap', e, h1, h2, h3⟩ := r.fits
  cases e
  have hl : (xs.take m).length = m := by rw [List.length_take]; omega
  refine ⟨_, cap, by rw [hl], by omega, h2, fun hn => ?_⟩
  have hx : xs ≠ [] := fun e => hn (by rw [e]; simp)
  obtain ⟨b', off', e2, h4, h5⟩ := h3 hx
  cases e2
  refine ⟨b, off, rfl, h4, fun j u hj => h5 j u ?_⟩
  rw [← E.row_take, List.getElem?_take] at hj
  split at hj
  · exact hj
  · cases hj
theorem Rd.drop {E : Enc α} {w : World} {b off n cap : Nat} {xs : List α} (r : Rd E w (.slice (some ⟨b, off, none⟩) n cap) xs) (m : Nat) (hm : m ≤ xs.length) : Rd E w (.slice (some ⟨b, off + m * E.k, none⟩) (n - m) (cap - m)) (xs.drop m) := by
  obtain ⟨a', cap', e, h1, h2, h3⟩ := r.fits
  cases e
  have hl : (xs.drop m).length = xs.length - m := by rw [List.length_drop]
  refine ⟨_, cap - m, by rw [hl], by omega, by omega, fun hn => ?_⟩
  have hx : xs ≠ [] := fun e => hn (by rw [e]; simp)
  obtain ⟨b', off', e2, h4, h5⟩ := h3 hx
  cases e2
  refine ⟨b, off + m * E.k, rfl, h4, fun j u hj => ?_⟩
  rw [Nat.add_assoc]
  refine h5 (m * E.k + j) u ?_
  rw [← E.row_drop xs m hm, List.getElem?_drop] at hj
  exact hj
/-- the rest of a slice: at the end of its capacity it begins where the slice does -/
theorem Rd.rest {E : Enc α} {w : World} {b off n cap : Nat} {xs : List α} (r : Rd E w (.slice (some ⟨b, off, none⟩) n cap) xs) (m : Nat) (hm : m ≤ xs.length) :
    (m < cap ∧ Hid (Rd E w (.slice (some ⟨b, off + m * E.k, none⟩) (n - m) (cap - m)) (xs.drop m))) ∨ (m = cap ∧ n = m ∧ xs.drop m = [] ∧ Hid (Rd E w (.slice (some ⟨b, off, none⟩) 0 0) (xs.drop m))) := by
  have hd := r.drop m hm
  obtain ⟨e, h1, h2⟩ := r.cap
  by_cases hc : m < cap
  · exact .inl ⟨hc, hd⟩
  · have e2 : xs.drop m = [] := List.drop_eq_nil_of_le (by omega)
    refine .inr ⟨by omega, by omega, e2, ?_⟩
    rw [e2]
    exact rd_zero E w _ 0 (Nat.zero_le _)

/-- the things xs lie in a row of their own, in a block from lo up to hi; or there are none, and there is no room -/
structure Own (E : Enc α) (w : World) (lo hi : Nat) (v : Value) (xs : List α) : Prop where
  row : (xs = [] ∧ ∃ a, v = .slice a 0 0) ∨ ∃ g cap cur, v = .slice (some ⟨g, 0, none⟩) xs.length cap ∧ (lo ≤ g ∧ g < hi) ∧ w.heap[g]? = some (.cells cur E.t (0, 0)) ∧ xs.length ≤ cap ∧ cap ≤ maxLen ∧ cur.size = cap * E.k ∧ cur.toList.take (xs.length * E.k) = E.row xs
theorem Own.keepT {E : Enc α} {w w' : World} {lo hi : Nat} {v : Value} {xs : List α} (o : Own E w lo hi v xs) (s : ∀ g cur, w.heap[g]? = some (.cells cur E.t (0, 0)) → lo ≤ g → g < hi → w'.heap[g]? = w.heap[g]?) : Own E w' lo hi v xs := by
  rcases o.row with h | ⟨g, cap, cur, e, hg, hb, h⟩
  · exact ⟨.inl h⟩
  · exact ⟨.inr ⟨g, cap, cur, e, hg, by rw [s g cur hb hg.1 hg.2]; exact hb, h⟩⟩
theorem Own.keep {E : Enc α} {w w' : World} {lo hi : Nat} {v : Value} {xs : List α} (o : Own E w lo hi v xs) (s : ∀ k, lo ≤ k → k < hi → w'.heap[k]? = w.heap[k]?) : Own E w' lo hi v xs := o.keepT fun g _ _ h1 h2 => s g h1 h2
theorem Own.grow {E : Enc α} {w w' : World} {lo hi : Nat} {v : Value} {xs : List α} (o : Own E w lo hi v xs) (hb : Below w.heap.size w w') : Own E w' lo hi v xs := o.keepT fun g cur h _ _ => hb.block g (Array.getElem?_eq_some_iff.1 h).1
theorem Own.below {E : Enc α} {w w' : World} {lo hi B : Nat} {v : Value} {xs : List α} (o : Own E w lo hi v xs) (hb : Below B w w') (hB : hi ≤ B) : Own E w' lo hi v xs := o.keep fun k _ h2 => hb.block k (by omega)
theorem Own.within {E : Enc α} {w w' : World} {lo hi l2 h2 : Nat} {v : Value} {xs : List α} (o : Own E w lo hi v xs) (hw : Within l2 h2 w w') (hd : hi ≤ l2 ∨ h2 ≤ lo) : Own E w' lo hi v xs := o.keepT fun g cur h _ _ => hw.block g (Array.getElem?_eq_some_iff.1 h).1 (by omega)
theorem Own.only {E : Enc α} {w w' : World} {lo hi b : Nat} {v : Value} {xs : List α} {t : TypeId} {vs : List Value} (o : Own E w lo hi v xs) (h : Only b w w') (hb : VBlk w b t vs) (ht : E.t ≠ t) : Own E w' lo hi v xs := o.keepT fun g cur hg _ _ => h.2.1 g fun e => by
  rw [e] at hg
  have := hg.symm.trans hb
  simp at this
  exact ht this.2
theorem Own.wide {E : Enc α} {w : World} {lo hi lo' hi' : Nat} {v : Value} {xs : List α} (o : Own E w lo hi v xs) (h1 : lo' ≤ lo) (h2 : hi ≤ hi') : Own E w lo' hi' v xs := by
  rcases o.row with h | ⟨g, cap, cur, e, hg, hb, h⟩
  · exact ⟨.inl h⟩
  · exact ⟨.inr ⟨g, cap, cur, e, ⟨by omega, by omega⟩, hb, h⟩⟩
theorem Own.top {E : Enc α} {w : World} {lo hi : Nat} {v : Value} {xs : List α} (o : Own E w lo hi v xs) : Own E w lo w.heap.size v xs := by
  rcases o.row with h | ⟨g, cap, cur, e, hg, hb, h⟩
  · exact ⟨.inl h⟩
  · exact ⟨.inr ⟨g, cap, cur, e, ⟨hg.1, (Array.getElem?_eq_some_iff.1 hb).1⟩, hb, h⟩⟩
theorem own_zero (E : Enc α) (w : World) (lo hi : Nat) (a : Option Addr) : Own E w lo hi (.slice a 0 0) [] := ⟨.inl ⟨rfl, a, rfl⟩⟩
theorem Own.rd {E : Enc α} {w : World} {lo hi : Nat} {v : Value} {xs : List α} (o : Own E w lo hi v xs) : Rd E w v xs := by
  rcases o.row with ⟨rfl, a, rfl⟩ | ⟨g, cap, cur, rfl, hg, hb, hc1, hc2, hc3, htk⟩
  · exact rd_zero E w a 0 (Nat.zero_le _)
  · refine ⟨some ⟨g, 0, none⟩, cap, rfl, hc1, hc2, fun _ => ⟨g, 0, rfl, (Array.getElem?_eq_some_iff.1 hb).1, fun j u hj => ?_⟩⟩
    rw [cell_of_row _ _ _ _ _ _ hb]
    rw [← htk, List.getElem?_take] at hj
    split at hj
    · simpa using hj
    · cases hj
theorem Own.slice {E : Enc α} {w : World} {lo hi : Nat} {v : Value} {xs : List α} (o : Own E w lo hi v xs) : ∃ a n k, v = .slice a n k := by
  obtain ⟨a, cap, e⟩ := o.rd.form
  exact ⟨a, _, cap, e⟩
theorem Own.form {E : Enc α} {w : World} {lo hi : Nat} {v : Value} {xs : List α} (o : Own E w lo hi v xs) (hn : 1 ≤ xs.length) : ∃ g cap, v = .slice (some ⟨g, 0, none⟩) xs.length cap ∧ lo ≤ g ∧ g < hi ∧ g < w.heap.size := by
  rcases o.row with ⟨rfl, -⟩ | ⟨g, cap, cur, rfl, hg, hb, -⟩
  · simp at hn
  · exact ⟨g, cap, rfl, hg.1, hg.2, (Array.getElem?_eq_some_iff.1 hb).1⟩
theorem Own.cell {E : Enc α} {w : World} {lo hi n cap : Nat} {a : Option Addr} {xs : List α} (o : Own E w lo hi (.slice a n cap) xs) (i j : Nat) (hi' : i < xs.length) (hj : j < E.k) :
    ∃ g, a = some ⟨g, 0, none⟩ ∧ (lo ≤ g ∧ g < hi) ∧ w.cell? ⟨g, i * E.k + j, none⟩ = some ((E.put xs[i])[j]'(by rw [E.len]; exact hj)) ∧ w.frozen? ⟨g, i * E.k + j, none⟩ = false := by
  obtain ⟨b, off, e, -, hc⟩ := o.rd.cell i j hi' hj
  rcases o.row with ⟨rfl, -⟩ | ⟨g, cap', cur, e', hg, hb, -⟩
  · simp at hi'
  · cases e'
    cases e
    rw [Nat.zero_add] at hc
    exact ⟨_, rfl, hg, hc, frozen_of_row _ _ _ _ _ hb⟩
theorem Own.set {E : Enc α} {w : World} {lo hi g n cap : Nat} {xs : List α} (o : Own E w lo hi (.slice (some ⟨g, 0, none⟩) n cap) xs) (i j : Nat) (hi' : i < xs.length) (hj : j < E.k) (u : Value) (y : α) (hy : E.put y = (E.put xs[i]).set j u) :
    Own E (w.setCell ⟨g, i * E.k + j, none⟩ u) lo hi (.slice (some ⟨g, 0, none⟩) n cap) (xs.set i y) := by
  rcases o.row with ⟨rfl, -⟩ | ⟨g', cap', cur, e', hg, hb, hc1, hc2, hc3, htk⟩
  · simp at hi'
  · cases e'
    refine ⟨.inr ⟨g, cap, cur.setIfInBounds (i * E.k + j) u, by rw [List.length_set], hg, heap_setCell_same _ _ _ _ _ _ hb, by rw [List.length_set]; exact hc1, hc2, by simpa using hc3, ?_⟩⟩
    rw [Array.toList_setIfInBounds, List.length_set, List.take_set, htk, E.row_set xs i j hi' hj u y hy]
theorem Own.owns {E : Enc α} {w : World} {lo hi : Nat} {v : Value} {xs : List α} (o : Own E w lo hi v xs) : (xs = [] ∧ ∃ a, v = .slice a 0 0) ∨ w.ownsRow lo E.t E.k v xs.length (E.row xs) := by
  rcases o.row with h | ⟨g, cap, cur, e, hg, hb, h1, h2, h3, h4⟩
  · exact .inl h
  · exact .inr ⟨E.row_len xs, .inr ⟨g, cap, cur, e, hg.1, hb, h1, h2, h3, h4⟩⟩
theorem own_of {E : Enc α} {w : World} {lo : Nat} {v : Value} {xs : List α} (h : w.ownsRow lo E.t E.k v xs.length (E.row xs)) : Own E w lo w.heap.size v xs := by
  rcases h.2 with ⟨e, h0⟩ | ⟨g, cap, cur, e, hg, hb, h1, h2, h3, h4⟩
  · exact ⟨.inl ⟨List.eq_nil_of_length_eq_zero h0, none, e⟩⟩
  · exact ⟨.inr ⟨g, cap, cur, e, ⟨hg, (Array.getElem?_eq_some_iff.1 hb).1⟩, hb, h1, h2, h3, h4⟩⟩

/-- what the program knows of the type -/
structure Info (E : Enc α) : Prop where
  ex : ∃ (i : TypeInfo) (z : Value), Tryz.prog.info? E.t = some i ∧ i.zero = some z ∧ i.size = E.k ∧ i.bytes ≤ 1024 ∧ z.cells.size = E.k

/-- of the blocks that were there only such of the type t from lo on may be turned -/
structure Ty (lo : Nat) (t : TypeId) (w w' : World) : Prop where
  low : Below lo w w'
  keep : ∀ (k : Nat) (cur : Array Value) (t' : TypeId) (f : Nat × Nat), w.heap[k]? = some (.cells cur t' f) → t' ≠ t → w'.heap[k]? = w.heap[k]?
theorem Ty.refl (lo : Nat) (t : TypeId) (w : World) : Ty lo t w w := ⟨Below.refl _ _, fun _ _ _ _ _ _ => rfl⟩
theorem Ty.trans {lo : Nat} {t : TypeId} {x y z : World} (h : Ty lo t x y) (k : Ty lo t y z) : Ty lo t x z := ⟨h.low.trans k.low, fun j cur t' f hj ht => (k.keep j cur t' f (by rw [h.keep j cur t' f hj ht]; exact hj) ht).trans (h.keep j cur t' f hj ht)⟩
theorem Ty.of_below {lo : Nat} {t : TypeId} {w w' : World} (h : Below w.heap.size w w') (hl : lo ≤ w.heap.size) : Ty lo t w w' := ⟨h.mono hl, fun k cur t' f hk _ => h.block k (Array.getElem?_eq_some_iff.1 hk).1⟩
theorem Ty.vblk {lo : Nat} {t t' : TypeId} {w w' : World} {b : Nat} {vs : List Value} (h : Ty lo t w w') (hb : VBlk w b t' vs) (hn : t' ≠ t) : VBlk w' b t' vs := hb.of (h.keep b _ t' _ hb hn)
theorem Ty.own {lo l2 h2 : Nat} {t : TypeId} {E : Enc α} {w w' : World} {v : Value} {xs : List α} (h : Ty lo t w w') (o : Own E w l2 h2 v xs) (hn : E.t ≠ t) : Own E w' l2 h2 v xs := o.keepT fun g cur hg _ _ => h.keep g cur E.t _ hg hn

theorem run_append_zero {P : Program} (w : World) (t ty e : TypeId) (i : TypeInfo) (ht : P.underlying t = some (.slice e)) (hi : P.info? e = some i) (base : Option Addr) (n c : Nat) (hn : n ≤ c) (b' : Option Addr) (c' : Nat) :
    (Builtin.append_ #[t, t] ty #[.slice base n c, .slice b' 0 c']).run P w = .ok (.slice base n c) w := by
  have hf : (Builtin.firstCells i.size 0 (.slice b' 0 c')).run P w = .ok #[] w := by
    cases b' with
    | none => exact run_firstCells_none w i.size 0 0 c'
    | some a => exact run_firstCells_some w i.size 0 a 0 c' [] (by simp) (fun j v hj => by simp at hj)
  cases base <;> simp [Builtin.append_, run_underlying ht, sizeOf, typeInfo, hi, Builtin.lenOf, hn, hf, storeCells]

/-- things are appended to a row that the call owns -/
theorem run_append_g {E : Enc α} (I : Info E) (w : World) (t ty : TypeId) (ht : Tryz.prog.underlying t = some (.slice E.t)) (lo hi : Nat) (v : Value) (xs : List α) (o : Own E w lo hi v xs) (hlo : lo ≤ w.heap.size) (vx : Value) (ys : List α) (r : Rd E w vx ys) (hlen : xs.length + ys.length ≤ 1073741824) :
    ∃ v' w', (Builtin.append_ #[t, t] ty #[v, vx]).run Tryz.prog w = .ok v' w' ∧ Own E w' lo w'.heap.size v' (xs ++ ys) ∧ Ty lo E.t w w' := by
  obtain ⟨i0, z, hi0, hz0, hz1, hz2, hz3⟩ := I.ex
  obtain ⟨ax, cx, rfl, hx1, hx2, hx3⟩ := r.fits
  have hby : (xs.length + ys.length) * i0.bytes ≤ 140737488355328 := Nat.le_trans (Nat.mul_le_mul hlen hz2) (by omega)
  by_cases h0 : ys = []
  · subst h0
    obtain ⟨a, cap, rfl, h1, h2, -⟩ := o.rd.fits
    exact ⟨_, w, run_append_zero w t ty E.t i0 ht hi0 a xs.length cap h1 ax cx, by simpa using o.top, Ty.refl _ _ _⟩
  · obtain ⟨b, off, rfl, hb, hr⟩ := hx3 h0
    have hnews : ∀ j u, (E.row ys)[j]? = some u → w.cell? ((⟨b, off, none⟩ : Addr).add j) = some u := fun j u hj => by rw [Addr.add_mid]; exact hr j u hj
    have hy1 : 0 < ys.length := List.length_pos_iff.2 h0
    have grown : ∀ row : Option Nat, (∀ k, row = some k → lo ≤ k ∧ ∃ cur f, w.heap[k]? = some (.cells cur E.t f)) → ∀ w', w.grownBy w' row → Ty lo E.t w w' := fun row hrow w' hg =>
      ⟨below_grown hg hlo (fun k hk => (hrow k hk).1), fun k cur t' f hk hn => hg.block k (Array.getElem?_eq_some_iff.1 hk).1 (fun e => by
        obtain ⟨-, cur', f', h'⟩ := hrow k e.symm
        have := hk.symm.trans h'
        simp at this
        exact hn this.2.1)⟩
    rcases o.owns with ⟨rfl, a, rfl⟩ | ow
    · cases a with
      | none =>
        obtain ⟨v', w', h1, h2, h3, -⟩ := run_append_own (P := Tryz.prog) w lo t ty E.t i0 z E.k i0.bytes ht hi0 hz0 hz1 rfl hz3 E.pos (.slice none 0 0) 0 [] (World.ownsRow_nil w lo E.t E.k) ⟨b, off, none⟩ ys.length cx (E.row ys) (E.row_len ys) hnews (E.row_cells ys) (by unfold maxLen; simp at hlen; omega) (by simpa using hby) hlo
        refine ⟨v', w', h1, own_of (by simpa using h2), grown _ (fun k hk => by cases hk) w' h3⟩
      | some g =>
        obtain ⟨v', w', h1, h2, h3⟩ := run_append_arg_grows (P := Tryz.prog) (w := w) t ty E.t i0 z E.k i0.bytes ht hi0 hz0 hz1 rfl hz3 E.pos g 0 0 [] (by simp) (fun j u hj => by simp at hj) ⟨b, off, none⟩ ys.length cx (E.row ys) (E.row_len ys) hnews (by omega) (by unfold maxLen; simp at hlen; omega) (by simpa using hby)
        refine ⟨v', w', h1, ?_, grown _ (fun k hk => by cases hk) w' h3⟩
        have h4 : Own E w' w.heap.size w'.heap.size v' ys := own_of (by simpa using h2)
        exact (by simpa using h4.wide hlo (Nat.le_refl _))
    · obtain ⟨v', w', h1, h2, h3, -⟩ := run_append_own (P := Tryz.prog) w lo t ty E.t i0 z E.k i0.bytes ht hi0 hz0 hz1 rfl hz3 E.pos v xs.length (E.row xs) ow ⟨b, off, none⟩ ys.length cx (E.row ys) (E.row_len ys) hnews (E.row_cells ys) (by unfold maxLen; omega) hby hlo
      rw [← E.row_append, ← List.length_append] at h2
      refine ⟨v', w', h1, own_of h2, grown _ (fun k hk => ⟨(ow.lt k hk).1, ?_⟩) w' h3⟩
      rcases ow.2 with ⟨rfl, -⟩ | ⟨g, cap, cur, rfl, -, hb', -⟩
      · cases hk
      · cases hk
        exact ⟨cur, _, hb'⟩

section laws
variable {ops : Array Oper} {rest : List Oper} {o : Oper} {a : Act} {w : World} {Q : Exit → Act → World → Prop} {K : Act → World → Prop} {X : Prop}
theorem wpList_append_g {E : Enc α} (I : Info E) (hgd : o.guard = none) (s x : Operand) (t : TypeId) (ho : o.op = .call { callee := .builtin .append, args := #[s, x], argTypes := #[t, t] }) (ht : Tryz.prog.underlying t = some (.slice E.t)) (lo hi : Nat) (v : Value) (xs : List α) (hs : a.eval s = v) (own : Own E w lo hi v xs) (hlo : lo ≤ w.heap.size) (vx : Value) (ys : List α) (hx : a.eval x = vx) (r : Rd E w vx ys) (hlen : xs.length + ys.length ≤ 1073741824)
    (h : ∀ v' w', Own E w' lo w'.heap.size v' (xs ++ ys) → Ty lo E.t w w' → wpList Tryz.prog ops Q rest (a.put o.dst v') w') : wpList Tryz.prog ops Q (o :: rest) a w := by
  obtain ⟨v', w', h1, h2, h3⟩ := run_append_g I w t o.type ht lo hi v xs own hlo vx ys r hlen
  refine wpList_val hgd (v := v') (w' := w') ?_ (h v' w' h2 h3)
  simp [execOp, ho, resolve, invoke, builtin, hs, hx, h1, Result.andThen]
theorem step_append_g {E : Enc α} (I : Info E) (hgd : o.guard = none) (s x : Operand) (t : TypeId) (ho : o.op = .call { callee := .builtin .append, args := #[s, x], argTypes := #[t, t] }) (ht : Tryz.prog.underlying t = some (.slice E.t)) (lo hi : Nat) (v : Value) (xs : List α) (hs : a.eval s = v) (own : Own E w lo hi v xs) (hlo : lo ≤ w.heap.size) (vx : Value) (ys : List α) (hx : a.eval x = vx) (r : Rd E w vx ys) (hlen : xs.length + ys.length ≤ 1073741824)
    (h : ∀ v' w', Own E w' lo w'.heap.size v' (xs ++ ys) → Ty lo E.t w w' → K (a.put o.dst v') w') : if Region.wanted o (yielded ops a.tmps) = true then Oper.wp Tryz.prog o a w K Q else X := by
  obtain ⟨v', w', h1, h2, h3⟩ := run_append_g I w t o.type ht lo hi v xs own hlo vx ys r hlen
  refine step_val hgd (v := v') (w' := w') ?_ (h v' w' h2 h3)
  simp [execOp, ho, resolve, invoke, builtin, hs, hx, h1, Result.andThen]
theorem wpList_skp (hgd : o.guard = none) {w' : World} (hr : (execOp a.eval o).run Tryz.prog w = .ok .skip w') (h : wpList Tryz.prog ops Q rest (a.put o.dst undef) w') : wpList Tryz.prog ops Q (o :: rest) a w :=
  wpList_plain hgd fun K hK => by unfold Oper.wp; rw [hr]; exact hK _ _ h
end laws
/-- one new thing lies in a block of its own -/
theorem rd_new {E : Enc α} (w : World) (x : α) (cs : Array Value) (h : E.put x = cs.toList) (f : Nat × Nat := (0, 0)) : Rd E (w.alloc (.cells cs E.t)) (.slice (some ⟨w.heap.size, 0, none⟩) 1 1) [x] := by
  refine ⟨_, 1, rfl, Nat.le_refl _, by unfold maxLen; omega, fun _ => ⟨w.heap.size, 0, rfl, by simp, fun j u hj => ?_⟩⟩
  rw [Enc.row_one', h] at hj
  rw [cell_of_row _ _ _ _ _ _ (heap_alloc_new w (.cells cs E.t))]
  simpa using hj
theorem vblk_grow {w w' : World} {b : Nat} {t : TypeId} {vs : List Value} (h : VBlk w b t vs) (hb : Below w.heap.size w w') : VBlk w' b t vs := h.of (hb.block b h.lt)
theorem vblk_only {w w' : World} {b b' : Nat} {t : TypeId} {vs : List Value} (h : VBlk w b t vs) (ho : Only b' w w') (hn : b ≠ b') : VBlk w' b t vs := h.of (ho.2.1 b hn)
theorem only_set (w : World) (b j : Nat) (u : Value) : Only b w (w.setCell ⟨b, j, none⟩ u) := only_setCells w b [u] j
end Go.Proofs.YtaabmkhckbndgaaGreatDoor.ro
/- A row that is filled from its head on, of whatever things: made, stored into, full. -/
namespace Go.Proofs.YtaabmkhckbndgaaGreatDoor.ro
open Go.ChangeShapes Go.WideShapes Go.ChangeAt Go.RowKit
open Go.Proofs.YtaabmkhckbndgaaGreatDoor.ce
set_option linter.unusedVariables false
variable {α : Type}

structure Part (E : Enc α) (w : World) (lo g n cap : Nat) (G : List α) : Prop where
  own : ∃ X, w.ownsRow lo E.t E.k (.slice (some ⟨g, 0, none⟩) n cap) n X ∧ X.take (G.length * E.k) = E.row G
theorem Part.keep {E : Enc α} {w w' : World} {lo g n cap : Nat} {G : List α} (p : Part E w lo g n cap G) (e : w'.heap[g]? = w.heap[g]?) : Part E w' lo g n cap G := by
  obtain ⟨X, hX, ht⟩ := p.own
  refine ⟨X, ⟨hX.1, ?_⟩, ht⟩
  rcases hX.2 with h | ⟨g', cap', cur, e', hg, hb, h⟩
  · exact .inl h
  · cases e'
    exact .inr ⟨g, cap, cur, rfl, hg, by rw [e]; exact hb, h⟩
theorem Part.lt {E : Enc α} {w : World} {lo g n cap : Nat} {G : List α} (p : Part E w lo g n cap G) : lo ≤ g ∧ g < w.heap.size := by
  obtain ⟨X, hX, ht⟩ := p.own
  exact hX.lt g rfl
theorem Part.full {E : Enc α} {w : World} {lo g n cap : Nat} {G : List α} (p : Part E w lo g n cap G) (hn : G.length = n) : Own E w lo w.heap.size (.slice (some ⟨g, 0, none⟩) n cap) G := by
  subst hn
  obtain ⟨X, hX, ht⟩ := p.own
  rw [List.take_of_length_le (by rw [hX.1]; exact Nat.le_refl _)] at ht
  subst ht
  exact own_of hX
section
variable {ops : Array Oper} {rest : List Oper} {o : Oper} {a : Act} {w : World} {Q : Exit → Act → World → Prop}
theorem wpList_make_p {E : Enc α} (I : Info E) (hgd : o.guard = none) (l c : Operand) (t : TypeId) (ho : o.op = .makeSlice t l c) (ht : Tryz.prog.underlying t = some (.slice E.t)) (n : Nat) (hn : n ≤ 1048576) (hl : a.eval l = .int .i64 n) (hc : a.eval c = .int .i64 n)
    (h : ∀ b w', w.heap.size ≤ b → b < w'.heap.size → Below w.heap.size w w' → Part E w' w.heap.size b n n [] → wpList Tryz.prog ops Q rest (a.put o.dst (.slice (some ⟨b, 0, none⟩) n n)) w') : wpList Tryz.prog ops Q (o :: rest) a w := by
  obtain ⟨i0, z, hi0, hz0, hz1, hz2, hz3⟩ := I.ex
  refine wpList_make_full _ hgd l c t ho w.heap.size E.t i0 z E.k ht hi0 hz0 hz1 .i64 .i64 n n n hl hc rfl rfl (by have := Nat.mul_le_mul hz2 hn; omega) (by unfold maxLen; omega) (Nat.le_refl _) ?_
  intro w1 h1 h2
  have hb : Below w.heap.size w w1 := below_grown h2 (Nat.le_refl _) (fun k hk => by cases hk)
  exact h _ w1 (Nat.le_refl _) (h1.lt _ rfl).2 hb ⟨_, h1, by simp [Enc.row]⟩
theorem wpList_store_p {E : Enc α} (hsz : (Tryz.prog.info? E.t).map (·.size) = some E.k) (hgd : o.guard = none) (x y : Operand) (ho : o.op = .store E.t x y) (lo g n cap i j0 : Nat) (G : List α) (c : α) (hx : a.eval x = .pointer (some ⟨g, j0, none⟩)) (hj0 : j0 = i * E.k) (hy : a.eval y = .agg (E.put c).toArray)
    (hp : Part E w lo g n cap G) (hi : G.length = i) (hlt : i < n) (h : ∀ w', Only g w w' → Part E w' lo g n cap (G ++ [c]) → wpList Tryz.prog ops Q rest (a.put o.dst undef) w') : wpList Tryz.prog ops Q (o :: rest) a w := by
  subst hi
  subst hj0
  obtain ⟨X, hX, ht⟩ := hp.own
  have h4 : (E.put c).length = E.k := E.len c
  have hm : (G.length + 1) * E.k = G.length * E.k + E.k := by rw [Nat.add_mul]; omega
  have hm2 : (G.length + 1) * E.k ≤ n * E.k := Nat.mul_le_mul_right _ (by omega)
  rcases hX.2 with ⟨h', _⟩ | ⟨g', cap', cur, h', hg, hb, hc1, hc2, hc3, htk⟩
  · simp at h'
  · cases h'
    have hm3 : n * E.k ≤ cap * E.k := Nat.mul_le_mul_right _ hc1
    have hcs : cur.toList.length = cur.size := Array.length_toList
    refine wpList_store_mid hgd E.t x y ho g (G.length * E.k) (E.put c).toArray hx hy (fun j hj => ⟨?_, frozen_of_row _ _ _ _ _ hb⟩) (by rw [hsz, List.size_toArray, h4]) (all_oneCell_toArray (E.one c)) (h _ (only_setCells _ _ _ _) ⟨(cur.toList.take (G.length * E.k) ++ E.put c ++ cur.toList.drop (G.length * E.k + E.k)).take (n * E.k), ⟨?_, .inr ⟨g, cap, (cur.toList.take (G.length * E.k) ++ E.put c ++ cur.toList.drop (G.length * E.k + E.k)).toArray, rfl, hg, ?_, hc1, hc2, ?_, rfl⟩⟩, ?_⟩)
    · rw [cell_of_row _ _ _ _ _ _ hb]
      have hj' : j < E.k := by rw [List.size_toArray, h4] at hj; exact hj
      simp; omega
    · simp only [List.length_take, List.length_append, List.length_drop, h4]; omega
    · have := heap_setCells g E.t (E.put c) (G.length * E.k) w cur.toList (by simpa using hb) (by omega)
      rw [h4] at this
      exact this
    · simp only [List.size_toArray, List.length_take, List.length_append, List.length_drop, h4]; omega
    · rw [E.row_append, ← ht, ← htk, List.take_take, List.take_take, List.length_append, List.length_singleton, show min ((G.length + 1) * E.k) (n * E.k) = G.length * E.k + E.k by omega, show min (G.length * E.k) (n * E.k) = G.length * E.k by omega, List.append_assoc, List.take_append, List.take_append]
      have hl : (cur.toList.take (G.length * E.k)).length = G.length * E.k := by simp; omega
      rw [hl, h4, show G.length * E.k + E.k - G.length * E.k = E.k by omega, List.take_of_length_le (l := cur.toList.take (G.length * E.k)) (by omega), List.take_of_length_le (l := E.put c) (by omega), E.row_one']
      simp
end
end Go.Proofs.YtaabmkhckbndgaaGreatDoor.ro
/- A row of whatever things that came in as an argument, read as a list. -/
namespace Go.Proofs.YtaabmkhckbndgaaGreatDoor.ro
open Go.ChangeShapes Go.WideShapes Go.ChangeAt Go.RowKit
open Go.Deep Go.Joins
open Go.Proofs.YtaabmkhckbndgaaGreatDoor.ce
set_option linter.unusedVariables false

theorem add_noneK {a : Addr} (h : a.spot = none) (j : Nat) : a.add j = ⟨a.block, a.off + j, none⟩ := by
  obtain ⟨b, o, s⟩ := a
  simp at h
  subst h
  simp [Addr.add]
/-- a row of whatever things, among the arguments -/
theorem rd_of_trodK {α : Type} [Inhabited α] (E : Enc α) (p : α → Prop) {H : Type} {enc : TypeId × Value → H} {w : World} {n : Nat} {v : Value} {T : TypeId} {x : DataW H × List MemPlace} (hT : Tryz.prog.underlying T = some (.slice E.t)) (hc : Tryz.prog.cellsOf E.t = E.k)
    (dec : ∀ m cs y, DataW.trod enc Tryz.prog w 0 (fun _ => true) true m E.t cs = some y → ∃ z, cs = E.put z ∧ p z)
    (h : DataW.trod enc Tryz.prog w 0 (fun _ => true) true n T [v] = some x) : ∃ L, Rd E w v L ∧ ∀ z ∈ L, p z := by
  have hkp := E.pos
  rcases open_slice hT h with ⟨hcs, -⟩ | ⟨a, len, cap, m, n', D, Pl, hcs, -, hl, hm, hmm, -, hrow⟩
  · obtain rfl : v = .slice none 0 0 := by simpa using hcs
    exact ⟨[], rd_zero E w none 0 (Nat.zero_le _), fun k hk => by simp at hk⟩
  · obtain rfl : v = .slice (some a) len cap := by simpa using hcs
    rw [hc] at hrow
    have hlm : len ≤ m := by rw [hmm]; simp; exact hl
    have hex : ∀ i, i < len → ∃ z : α, w.cells? 0 (a.add (i * E.k)) E.k = some (E.put z) ∧ p z := fun i hi => by
      obtain ⟨cs', h1, h2⟩ := hrow i (by omega)
      obtain ⟨z, e0, hz⟩ := dec _ _ _ h2
      rw [e0] at h1
      exact ⟨z, h1, hz⟩
    obtain ⟨F, hF⟩ := choose_lt hex
    refine ⟨(List.range len).map F, ⟨some a, cap, by simp, by simpa using hl, hm, fun hn => ?_⟩, fun k hk => ?_⟩
    rotate_left
    · obtain ⟨i, hi, rfl⟩ := List.mem_map.1 hk
      exact (hF i (by simpa using hi)).2
    have h0 : 0 < len := by
      rcases Nat.eq_zero_or_pos len with e | e
      · subst e; exact absurd rfl hn
      · exact e
    have hcell : ∀ i, i < len → ∀ j, j < E.k → w.cell? ((a.add (i * E.k)).add j) = (E.put (F i))[j]? := fun i hi j hj => by
      obtain ⟨h1, h2, h3⟩ := World.cells?_some (hF i hi).1
      exact h3 j hj
    have hsome : ∀ i, i < len → ∀ j, j < E.k → ∃ u, w.cell? ((a.add (i * E.k)).add j) = some u := fun i hi j hj => by
      rw [hcell i hi j hj, List.getElem?_eq_getElem (by rw [E.len]; exact hj)]
      exact ⟨_, rfl⟩
    have hspot : a.spot = none := by
      obtain ⟨u, hu⟩ := hsome 0 h0 0 hkp
      have h5 : ((a.add (0 * E.k)).add 0).spot = none := World.cell?_spot hu
      obtain ⟨b, o, s⟩ := a
      cases s with
      | none => rfl
      | some s => simp [Addr.add] at h5
    have hlt : a.block < w.heap.size := by
      obtain ⟨u, hu⟩ := hsome 0 h0 0 hkp
      rw [add_noneK hspot, Addr.add_mid] at hu
      exact World.block_lt_of_cell? w ⟨a.block, a.off + 0 * E.k + 0, none⟩ hu
    refine ⟨a.block, a.off, by obtain ⟨b, o, s⟩ := a; simp at hspot; subst hspot; rfl, hlt, fun k u hku => ?_⟩
    have hkl : k < len * E.k := by
      have := (List.getElem?_eq_some_iff.1 hku).1
      rw [Enc.row_len] at this
      simpa using this
    obtain ⟨i, j, rfl, hj⟩ : ∃ i j, k = i * E.k + j ∧ j < E.k := ⟨k / E.k, k % E.k, by rw [Nat.mul_comm]; exact (Nat.div_add_mod k E.k).symm, Nat.mod_lt _ hkp⟩
    have hi : i < len := by
      rcases Nat.lt_or_ge i len with q | q
      · exact q
      · have := Nat.mul_le_mul_right E.k q; omega
    have hg := E.row_get ((List.range len).map F) i j (by simpa using hi) hj
    rw [hg] at hku
    have e : ((List.range len).map F)[i]'(by simpa using hi) = F i := by simp
    have := hcell i hi j hj
    rw [add_noneK hspot, Addr.add_mid, Nat.add_assoc] at this
    rw [e, ← this] at hku
    exact hku
end Go.Proofs.YtaabmkhckbndgaaGreatDoor.ro
/- Rows of texts, of truths, of texts with truths; names, the model's and the program's. -/
namespace Go.Proofs.YtaabmkhckbndgaaGreatDoor.rg
open Go.ChangeShapes Go.WideShapes Go.ChangeAt Go.RowKit
open Go.Proofs.YtaabmkhckbndgaaGreatDoor.ce Go.Proofs.YtaabmkhckbndgaaGreatDoor.ro
set_option linter.unusedVariables false

def encS : Enc ByteArray := ⟨fun s => [.string s], 1, 9, fun _ => rfl, fun s v hv => by rw [List.mem_singleton.1 hv]; rfl, by decide⟩
def encB : Enc Bool := ⟨fun s => [.bool s], 1, 4, fun _ => rfl, fun s v hv => by rw [List.mem_singleton.1 hv]; rfl, by decide⟩
theorem infoS : Info encS := by
  have h : (Tryz.prog.info? 9).map (fun i => (i.zero, i.size, i.bytes)) = some (some (.string ⟨#[]⟩), 1, 16) := by kernel_rfl
  obtain ⟨i, hi, hz⟩ := Option.map_eq_some_iff.1 h
  simp only [Prod.mk.injEq] at hz
  exact ⟨i, _, hi, hz.1, hz.2.1, by omega, rfl⟩
theorem infoB : Info encB := by
  have h : (Tryz.prog.info? 4).map (fun i => (i.zero, i.size, i.bytes)) = some (some (.bool false), 1, 1) := by kernel_rfl
  obtain ⟨i, hi, hz⟩ := Option.map_eq_some_iff.1 h
  simp only [Prod.mk.injEq] at hz
  exact ⟨i, _, hi, hz.1, hz.2.1, by omega, rfl⟩
theorem rdS_cell {w : World} {n cap : Nat} {a : Option Addr} {xs : List ByteArray} (r : Rd encS w (.slice a n cap) xs) (i : Nat) (hi : i < xs.length) : ∃ b off, a = some ⟨b, off, none⟩ ∧ b < w.heap.size ∧ w.cell? ⟨b, off + i, none⟩ = some (.string xs[i]) := by
  obtain ⟨b, off, e, h1, h2⟩ := r.cell i 0 hi (show 0 < 1 by decide)
  exact ⟨b, off, e, h1, by simpa [encS] using h2⟩
theorem rdB_cell {w : World} {n cap : Nat} {a : Option Addr} {xs : List Bool} (r : Rd encB w (.slice a n cap) xs) (i : Nat) (hi : i < xs.length) : ∃ b off, a = some ⟨b, off, none⟩ ∧ b < w.heap.size ∧ w.cell? ⟨b, off + i, none⟩ = some (.bool xs[i]) := by
  obtain ⟨b, off, e, h1, h2⟩ := r.cell i 0 hi (show 0 < 1 by decide)
  exact ⟨b, off, e, h1, by simpa [encB] using h2⟩
theorem ownS_cell {w : World} {lo hi n cap : Nat} {a : Option Addr} {xs : List ByteArray} (o : Own encS w lo hi (.slice a n cap) xs) (i : Nat) (h : i < xs.length) : ∃ g, a = some ⟨g, 0, none⟩ ∧ (lo ≤ g ∧ g < hi) ∧ w.cell? ⟨g, i, none⟩ = some (.string xs[i]) ∧ w.frozen? ⟨g, i, none⟩ = false := by
  obtain ⟨g, e, h1, h2, h3⟩ := o.cell i 0 h (show 0 < 1 by decide)
  exact ⟨g, e, h1, by simpa [encS] using h2, by simpa [encS] using h3⟩
theorem ownB_cell {w : World} {lo hi n cap : Nat} {a : Option Addr} {xs : List Bool} (o : Own encB w lo hi (.slice a n cap) xs) (i : Nat) (h : i < xs.length) : ∃ g, a = some ⟨g, 0, none⟩ ∧ (lo ≤ g ∧ g < hi) ∧ w.cell? ⟨g, i, none⟩ = some (.bool xs[i]) ∧ w.frozen? ⟨g, i, none⟩ = false := by
  obtain ⟨g, e, h1, h2, h3⟩ := o.cell i 0 h (show 0 < 1 by decide)
  exact ⟨g, e, h1, by simpa [encB] using h2, by simpa [encB] using h3⟩
theorem ownS_set {w : World} {lo hi g n cap : Nat} {xs : List ByteArray} (o : Own encS w lo hi (.slice (some ⟨g, 0, none⟩) n cap) xs) (i : Nat) (h : i < xs.length) (x : ByteArray) : Own encS (w.setCell ⟨g, i, none⟩ (.string x)) lo hi (.slice (some ⟨g, 0, none⟩) n cap) (xs.set i x) := by
  have := o.set i 0 h (show 0 < 1 by decide) (.string x) x rfl
  simpa [encS] using this
theorem ownB_set {w : World} {lo hi g n cap : Nat} {xs : List Bool} (o : Own encB w lo hi (.slice (some ⟨g, 0, none⟩) n cap) xs) (i : Nat) (h : i < xs.length) (x : Bool) : Own encB (w.setCell ⟨g, i, none⟩ (.bool x)) lo hi (.slice (some ⟨g, 0, none⟩) n cap) (xs.set i x) := by
  have := o.set i 0 h (show 0 < 1 by decide) (.bool x) x rfl
  simpa [encB] using this
theorem hid_ex {β : Type} (x : β) : ∃ y, Hid (x = y) := ⟨x, rfl⟩
theorem bytes_inj {a b : ByteArray} (h : a.data.toList = b.data.toList) : a = b := by
  cases a; cases b; simp at h; rw [h]
theorem str_eq {a b : ByteArray} (h : a.toList = b.toList) : a = b := bytes_inj (by rw [← ByteArray.toList_eq, ← ByteArray.toList_eq]; exact h)

theorem in_is (x lo hi : Int) (y : Bool) (h : (decide (lo ≤ x) && decide (x ≤ hi)) = y) (w : World) : Calls Tryz.prog 72 #[.int .i64 x, .int .i64 lo, .int .i64 hi] w fun e w' => e = .returned (.bool y) ∧ w' = w := by
  by_cases h1 : lo ≤ x
  · by_cases h3 : x ≤ hi
    · rw [decide_eq_true h1, decide_eq_true h3] at h
      subst h
      go_enter Tryz.func72, Tryz.ntmps72
      go_wp2
      go_ret
      exact ⟨rfl, rfl⟩
    · rw [decide_eq_true h1, decide_eq_false h3] at h
      subst h
      go_enter Tryz.func72, Tryz.ntmps72
      go_wp2
      go_ret
      exact ⟨rfl, rfl⟩
  · rw [decide_eq_false h1] at h
    subst h
    go_enter Tryz.func72, Tryz.ntmps72
    go_wp2
    go_ret
    exact ⟨rfl, rfl⟩

theorem isNameByte_any (c : UInt8) (w : World) : Calls Tryz.prog 178 #[.int .u8 c.toNat] w fun e w' => e = .returned (.bool (nbB c)) ∧ w' = w := by
  obtain ⟨z, hz⟩ := hid_ex (nbB c)
  rw [hz.out]
  replace hz := hz.out
  unfold nbB at hz
  obtain ⟨n, hn⟩ : ∃ n : Int, (c.toNat : Int) = n := ⟨_, rfl⟩
  rw [hn] at hz ⊢
  clear hn
  by_cases h1 : 97 ≤ n <;> by_cases h2 : n ≤ 122 <;> by_cases h3 : 48 ≤ n <;> by_cases h4 : n ≤ 57 <;> by_cases h5 : n = 45 <;> first | omega | skip
  all_goals
    have h5b : (n == 45) = decide (n = 45) := rfl
    (first | rw [decide_eq_true h5] at h5b | rw [decide_eq_false h5] at h5b)
    (first | rw [decide_eq_true (show 97 ≤ n by omega)] at hz | rw [decide_eq_false (show ¬ 97 ≤ n by omega)] at hz)
    (first | rw [decide_eq_true (show n ≤ 122 by omega)] at hz | rw [decide_eq_false (show ¬ n ≤ 122 by omega)] at hz)
    (first | rw [decide_eq_true (show 48 ≤ n by omega)] at hz | rw [decide_eq_false (show ¬ 48 ≤ n by omega)] at hz)
    (first | rw [decide_eq_true (show n ≤ 57 by omega)] at hz | rw [decide_eq_false (show ¬ n ≤ 57 by omega)] at hz)
    rw [h5b] at hz
    subst hz
    go_enter Tryz.func178, Tryz.ntmps178
    go_wp2
    go_ret
    exact ⟨rfl, rfl⟩

theorem all_take_succ {s : ByteArray} {i : Nat} (hi : i < s.size) (h : (s.data.toList.take i).all nbB = true) : (s.data.toList.take (i + 1)).all nbB = nbB s[i] := by
  rw [List.take_succ_eq_append_getElem (by simpa using hi), List.all_append, h]
  simp
  rfl
theorem all_not {s : ByteArray} {i : Nat} (hi : i < s.size) (h : nbB s[i] = false) : nameB s = false := by
  unfold nameB
  have : s.data.toList.all nbB = false := by
    rw [List.all_eq_false]
    exact ⟨s[i], List.mem_iff_getElem.2 ⟨i, by simpa using hi, rfl⟩, by rw [h]; exact Bool.false_ne_true⟩
  rw [this]
  rfl
theorem all_yes {s : ByteArray} {i : Nat} (hi : ¬ i < s.size) (h : (s.data.toList.take i).all nbB = true) : (decide (1 ≤ (s.size : Int)) && decide ((s.size : Int) ≤ 12)) = nameB s := by
  rw [List.take_of_length_le (by simp; omega)] at h
  unfold nameB
  rw [h]
  rfl

theorem implNameOk_any (s : ByteArray) (hs : s.size ≤ 9223372036854775807) (w : World) : Calls Tryz.prog 123 #[.string s] w fun e w' => e = .returned (.bool (nameB s)) ∧ w' = w := by
  obtain ⟨z, hz⟩ := hid_ex (nameB s)
  rw [hz.out]
  by_cases h0 : s.size = 0
  · have ez : z = false := by rw [← hz.out]; unfold nameB; rw [h0]; simp
    subst ez
    have h0' : ((s.size : Int) == 0) = true := by simpa using h0
    go_enter Tryz.func123, Tryz.ntmps123
    go_wp2
    go_ret
    exact ⟨rfl, rfl⟩
  · have h0' : ((s.size : Int) == 0) = false := by simpa using h0
    by_cases h12 : 12 < (s.size : Int)
    · have ez : z = false := by rw [← hz.out]; unfold nameB; rw [decide_eq_false (show ¬ ((s.size : Int) ≤ 12) by omega)]; simp
      subst ez
      go_enter Tryz.func123, Tryz.ntmps123
      go_wp2
      go_ret
      exact ⟨rfl, rfl⟩
    · go_enter Tryz.func123, Tryz.ntmps123
      go_wp2
      go_loop [14] (fun v => ∃ i : Nat, i ≤ s.size ∧ v = .int .i64 i ∧ Hid ((s.data.toList.take i).all nbB = true)) (fun v => s.size - (intOf v).toNat)
      case atStart => exact ⟨0, by omega, rfl, rfl⟩
      case round =>
        obtain ⟨i, hi1, rfl, hA⟩ := hrel
        by_cases hlt : i < s.size
        · have hlt' : (i : Int) < (s.size : Int) := by omega
          cases hb : nbB s[i] with
          | true =>
            have hA2 : Hid ((s.data.toList.take (i + 1)).all nbB = true) := (all_take_succ hlt hA.out).trans hb
            go_wp2_with (first | (go_at_call 178; refine (isNameByte_any _ _).mono ?_; rintro e wq ⟨rfl, hq⟩; subst wq; rw [hb]) | (fail))
            go_round
            case rel => exact ⟨i + 1, by omega, by go_num, hA2⟩
            case measure => simp [intOf]; omega
          | false =>
            have ez : z = false := by rw [← hz.out]; exact all_not hlt hb
            subst ez
            go_wp2_with (first | (go_at_call 178; refine (isNameByte_any _ _).mono ?_; rintro e wq ⟨rfl, hq⟩; subst wq; rw [hb]) | (fail))
            go_ret
            exact ⟨rfl, rfl⟩
        · have hlt' : ¬ (i : Int) < (s.size : Int) := by omega
          have ez : z = true := by
            rw [← hz.out, ← all_yes hlt hA.out, decide_eq_true (show 1 ≤ (s.size : Int) by omega), decide_eq_true (show (s.size : Int) ≤ 12 by omega)]
            rfl
          subst ez
          go_wp2
          go_ret
          exact ⟨rfl, rfl⟩

theorem specNameOk_any (s : ByteArray) (hs : s.size ≤ 9223372036854775807) (w : World) : Calls Tryz.prog 73 #[.string s] w fun e w' => e = .returned (.bool (nameB s)) ∧ w' = w := by
  obtain ⟨z, hz⟩ := hid_ex (nameB s)
  rw [hz.out]
  go_enter Tryz.func73, Tryz.ntmps73
  go_wp2
  go_loop [3] (fun v => ∃ i : Nat, i ≤ s.size ∧ v = .int .i64 i ∧ Hid ((s.data.toList.take i).all nbB = true)) (fun v => s.size - (intOf v).toNat)
  case atStart => exact ⟨0, by omega, rfl, rfl⟩
  case round =>
    obtain ⟨i, hi1, rfl, hA⟩ := hrel
    by_cases hlt : i < s.size
    · have hlt' : (i : Int) < (s.size : Int) := by omega
      have hA2 := all_take_succ hlt hA.out
      have hN := all_not (s := s) hlt
      unfold nbB at hA2 hN
      obtain ⟨n, hn⟩ : ∃ n : Int, (s[i].toNat : Int) = n := ⟨_, rfl⟩
      rw [hn] at hA2 hN
      have h5b : (n == 45) = decide (n = 45) := rfl
      have h5c : (n != 45) = !decide (n = 45) := rfl
      by_cases h1 : n < 97 <;> by_cases h2 : 122 < n <;> by_cases h3 : n < 48 <;> by_cases h4 : 57 < n <;> by_cases h5 : n = 45 <;> first | omega | skip
      all_goals
        (first | rw [decide_eq_true h5] at h5b h5c | rw [decide_eq_false h5] at h5b h5c)
        (first | rw [decide_eq_true (show 97 ≤ n by omega)] at hA2 hN | rw [decide_eq_false (show ¬ 97 ≤ n by omega)] at hA2 hN)
        (first | rw [decide_eq_true (show n ≤ 122 by omega)] at hA2 hN | rw [decide_eq_false (show ¬ n ≤ 122 by omega)] at hA2 hN)
        (first | rw [decide_eq_true (show 48 ≤ n by omega)] at hA2 hN | rw [decide_eq_false (show ¬ 48 ≤ n by omega)] at hA2 hN)
        (first | rw [decide_eq_true (show n ≤ 57 by omega)] at hA2 hN | rw [decide_eq_false (show ¬ n ≤ 57 by omega)] at hA2 hN)
        rw [h5b] at hA2 hN
        first
          | (have ez : z = false := (by rw [← hz.out]; exact hN rfl)
             subst ez
             clear hA2 hN
             go_wp2
             go_ret
             exact ⟨rfl, rfl⟩)
          | (have hA3 : Hid ((s.data.toList.take (i + 1)).all nbB = true) := hA2
             clear hA2 hN
             go_wp2
             go_round
             case rel => exact ⟨i + 1, by omega, by go_num, hA3⟩
             case measure => simp [intOf]; omega)
    · have hlt' : ¬ (i : Int) < (s.size : Int) := by omega
      have hy : Hid ((decide (1 ≤ (s.size : Int)) && decide ((s.size : Int) ≤ 12)) = z) := (all_yes hlt hA.out).trans hz.out
      go_wp2_with (first | (go_at_call 72; refine (in_is _ 1 12 z hy.out _).mono ?_; rintro e wq ⟨rfl, hq⟩; subst wq) | (fail))
      go_ret
      exact ⟨rfl, rfl⟩
end Go.Proofs.YtaabmkhckbndgaaGreatDoor.rg
