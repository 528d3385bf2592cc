/- Texts laid together: Rx0 Rt0 Qx0 Hx0 SkLaws Sk1 SkMem Sk2 SkOps Sk3. -/
import Derived.Test.YtapchjkiiifhdaaRows
import Derived.WalkKit
import Derived.ProofKit
import Derived.OpenShut
import Derived.Below
import Derived.Deep.MidRow
import Derived.Deep.OwnRows
import Derived.ChangeKeysEq
import Derived.Deep.RegionHeld3
/- Mathematics of rings of names, no Go in sight: names, the place of one, right rings, who joins, is used, leaves; the hand's turn. -/
namespace Go.Proofs.Ytapchjkiiifhdaa.rg
open Go.RowKit
set_option linter.unusedVariables false

/-- a byte of a name -/
def nbB (c : UInt8) : Bool := (decide (97 ≤ (c.toNat : Int)) && decide ((c.toNat : Int) ≤ 122)) || (decide (48 ≤ (c.toNat : Int)) && decide ((c.toNat : Int) ≤ 57)) || ((c.toNat : Int) == 45)
/-- a name -/
def nameB (s : ByteArray) : Bool := s.data.toList.all nbB && (decide (1 ≤ (s.size : Int)) && decide ((s.size : Int) ≤ 12))
theorem nameB_size {s : ByteArray} (h : nameB s = true) : 1 ≤ s.size ∧ s.size ≤ 12 := by
  unfold nameB at h
  simp only [Bool.and_eq_true, decide_eq_true_eq] at h
  omega

/-- the place of a text; -1: it is not there -/
def posS (s : ByteArray) : List ByteArray → Int
  | [] => -1
  | x :: r => if x = s then 0 else if posS s r < 0 then -1 else posS s r + 1
theorem posS_cases (s : ByteArray) : ∀ N : List ByteArray, (s ∉ N ∧ posS s N = -1) ∨ ∃ i : Nat, ∃ h : i < N.length, N[i] = s ∧ s ∉ N.take i ∧ posS s N = i
  | [] => .inl ⟨by simp, rfl⟩
  | x :: r => by
    by_cases hx : x = s
    · exact .inr ⟨0, by simp, by simpa using hx, by simp, by simp [posS, hx]⟩
    · rcases posS_cases s r with ⟨h1, h2⟩ | ⟨i, hi, h1, h2, h3⟩
      · refine .inl ⟨?_, by simp [posS, hx, h2]⟩
        simp only [List.mem_cons, not_or]
        exact ⟨fun e => hx e.symm, h1⟩
      · refine .inr ⟨i + 1, by simpa using hi, by simpa using h1, ?_, ?_⟩
        · simp only [List.take_succ_cons, List.mem_cons, not_or]
          exact ⟨fun e => hx e.symm, h2⟩
        · simp only [posS, if_neg hx, h3]
          rw [if_neg (by omega)]
          omega
theorem posS_no {s : ByteArray} {N : List ByteArray} (h : s ∉ N) : posS s N = -1 := by
  rcases posS_cases s N with ⟨-, e⟩ | ⟨i, hi, e, -⟩
  · exact e
  · exact absurd (e ▸ List.getElem_mem hi) h
theorem posS_at {s : ByteArray} {N : List ByteArray} {i : Nat} (hi : i < N.length) (he : N[i] = s) (hn : s ∉ N.take i) : posS s N = i := by
  rcases posS_cases s N with ⟨h, -⟩ | ⟨j, hj, e, hnj, hp⟩
  · exact absurd (he ▸ List.getElem_mem hi) h
  · rw [hp]
    rcases Nat.lt_trichotomy i j with q | q | q
    · exact absurd (List.mem_iff_getElem.2 ⟨i, by simp; omega, by simpa using he⟩) hnj
    · rw [q]
    · exact absurd (List.mem_iff_getElem.2 ⟨j, by simp; omega, by simpa using e⟩) hn
theorem posS_bd (s : ByteArray) (N : List ByteArray) : -1 ≤ posS s N ∧ posS s N < N.length := by
  rcases posS_cases s N with ⟨-, h⟩ | ⟨i, hi, -, -, h⟩ <;> rw [h] <;> omega
theorem posS_mem {s : ByteArray} {N : List ByteArray} : s ∈ N ↔ 0 ≤ posS s N := by
  rcases posS_cases s N with ⟨h, e⟩ | ⟨i, hi, e, -, h⟩
  · rw [e]; exact ⟨fun q => absurd q h, fun q => by omega⟩
  · rw [h]; exact ⟨fun _ => by omega, fun _ => e ▸ List.getElem_mem hi⟩
/-- of the first i + 1 the last one is found at i just where it is not among those ahead of it -/
theorem posS_self {N : List ByteArray} {i : Nat} (hi : i < N.length) : posS N[i] N = i ↔ N[i] ∉ N.take i := by
  constructor
  · intro h hm
    rcases posS_cases N[i] N with ⟨q, -⟩ | ⟨j, hj, e, hn, hp⟩
    · exact q (List.getElem_mem hi)
    · have : j = i := by omega
      subst this
      exact hn hm
  · exact fun h => posS_at hi rfl h

/-- names, unlike, at most twenty -/
def NOk (N : List ByteArray) : Prop := (∀ s ∈ N, nameB s = true) ∧ N.Nodup ∧ N.length ≤ 20
instance (N : List ByteArray) : Decidable (NOk N) := by unfold NOk; exact inferInstance
def namesB (N : List ByteArray) : Bool := decide (NOk N)
/-- the first i of them are names, unlike -/
def Pre (N : List ByteArray) (i : Nat) : Prop := (∀ s ∈ N.take i, nameB s = true) ∧ (N.take i).Nodup
theorem pre_zero (N : List ByteArray) : Pre N 0 := ⟨by simp, by simp⟩
theorem pre_succ {N : List ByteArray} {i : Nat} (h : Pre N i) (hi : i < N.length) (h1 : nameB N[i] = true) (h2 : N[i] ∉ N.take i) : Pre N (i + 1) := by
  unfold Pre
  rw [List.take_succ_eq_append_getElem hi]
  refine ⟨fun s hs => ?_, ?_⟩
  · rcases List.mem_append.1 hs with q | q
    · exact h.1 s q
    · rw [List.mem_singleton.1 q]; exact h1
  · rw [List.nodup_append]
    refine ⟨h.2, by simp, fun a ha b hb e => ?_⟩
    rw [List.mem_singleton] at hb
    rw [e, hb] at ha
    exact h2 ha
theorem pre_not1 {N : List ByteArray} {i : Nat} (hi : i < N.length) (h1 : nameB N[i] = false) : namesB N = false := by
  unfold namesB
  refine decide_eq_false fun h => ?_
  have := h.1 N[i] (List.getElem_mem hi)
  rw [h1] at this
  cases this
theorem pre_not2 {N : List ByteArray} {i : Nat} (hi : i < N.length) (h2 : N[i] ∈ N.take i) : namesB N = false := by
  unfold namesB
  refine decide_eq_false fun h => ?_
  obtain ⟨j, hj, e⟩ := List.mem_iff_getElem.1 h2
  simp at hj e
  exact (List.pairwise_iff_getElem.1 h.2.1) j i (by omega) hi (by omega) e
theorem pre_all {N : List ByteArray} (h : Pre N N.length) : namesB N = decide ((N.length : Int) ≤ 20) := by
  unfold Pre at h
  rw [List.take_length] at h
  unfold namesB
  by_cases q : N.length ≤ 20
  · rw [decide_eq_true (show NOk N from ⟨h.1, h.2, q⟩), decide_eq_true (by omega)]
  · rw [decide_eq_false (show ¬ NOk N from fun z => q z.2.2), decide_eq_false (by omega)]
theorem names_long {N : List ByteArray} (h : 20 < N.length) : namesB N = false := decide_eq_false fun z => by have := z.2.2; omega

/-- a ring -/
structure Rg where
  N : List ByteArray
  U : List Bool
  A : Int
def Rg.zero : Rg := ⟨[], [], 0⟩
def atB (n : Nat) (A : Int) : Bool := decide (0 ≤ A) && decide (A < max (n : Int) 1)
def ringB (r : Rg) : Bool := namesB r.N && (r.U.length == r.N.length) && atB r.N.length r.A
structure ROk (r : Rg) : Prop where
  nm : ∀ s ∈ r.N, nameB s = true
  nd : r.N.Nodup
  le : r.N.length ≤ 20
  us : r.U.length = r.N.length
  a0 : 0 ≤ r.A
  a1 : r.A < max (r.N.length : Int) 1
theorem ringB_iff {r : Rg} : ringB r = true ↔ ROk r := by
  simp only [ringB, namesB, atB, Bool.and_eq_true, decide_eq_true_eq, beq_iff_eq]
  exact ⟨fun ⟨⟨⟨h1, h2, h3⟩, h4⟩, h5, h6⟩ => ⟨h1, h2, h3, h4, h5, h6⟩, fun ⟨h1, h2, h3, h4, h5, h6⟩ => ⟨⟨⟨h1, h2, h3⟩, h4⟩, h5, h6⟩⟩
theorem ringB_not {r : Rg} (h : ¬ ringB r = true) : ringB r = false := by simpa using h

/-- may a name join? -/
def mayB (r : Rg) (s : ByteArray) : Bool := nameB s && decide (posS s r.N < 0) && !(r.N.length == 20)
def joined (r : Rg) (s : ByteArray) : Rg := ⟨r.N ++ [s], r.U ++ [false], r.A⟩
def jnB (r : Rg) (s : ByteArray) : Bool := ringB r && mayB r s
def jnR (r : Rg) (s : ByteArray) : Rg := if ringB r = true then (if mayB r s = true then joined r s else r) else Rg.zero
def used (r : Rg) (s : ByteArray) : Rg := if 0 ≤ posS s r.N then ⟨r.N, r.U.set (posS s r.N).toNat true, r.A⟩ else r
def usR (r : Rg) (s : ByteArray) : Rg := if ringB r = true then used r s else Rg.zero
/-- without the one at a place -/
def left (r : Rg) (i : Nat) : Rg :=
  ⟨r.N.take i ++ r.N.drop (i + 1), r.U.take i ++ r.U.drop (i + 1), if (if (i : Int) < r.A then r.A - 1 else r.A) < (r.N.length : Int) - 1 then (if (i : Int) < r.A then r.A - 1 else r.A) else 0⟩
def lvB (r : Rg) (s : ByteArray) : Bool := ringB r && decide (0 ≤ posS s r.N)
def lvR (r : Rg) (s : ByteArray) : Rg := if ringB r = true then (if 0 ≤ posS s r.N then left r (posS s r.N).toNat else r) else Rg.zero

/-- the hand goes on over those that are used -/
def turn (n : Nat) : Nat → List Bool → Nat → List Bool × Nat
  | 0, U, a => (U, a)
  | f + 1, U, a => if U[a]? = some true then turn n f (U.set a false) ((a + 1) % n) else (U, a)
def turned (r : Rg) : List Bool × Nat := turn r.N.length (r.U.count true) r.U r.A.toNat
def tuR (r : Rg) : Rg := if ringB r = true then (if r.N.length = 0 then r else ⟨r.N, (turned r).1, ((turned r).2 : Int)⟩) else Rg.zero
def tuS (r : Rg) : ByteArray := if ringB r = true then (if r.N.length = 0 then ⟨#[]⟩ else (r.N[(turned r).2]?).getD ⟨#[]⟩) else ⟨#[]⟩

theorem count_set {U : List Bool} {a : Nat} (h : U[a]? = some true) : (U.set a false).count true + 1 = U.count true := by
  obtain ⟨ha, e⟩ := List.getElem?_eq_some_iff.1 h
  have h1 : U = U.take a ++ U[a] :: U.drop (a + 1) := by simp
  have h2 : U.set a false = U.take a ++ false :: U.drop (a + 1) := by rw [List.set_eq_take_append_cons_drop, if_pos ha]
  rw [h2]
  conv => rhs; rw [h1]
  rw [e]
  simp
  omega
theorem turn_step {n : Nat} {U : List Bool} {a : Nat} (h : U[a]? = some true) : turn n (U.count true) U a = turn n ((U.set a false).count true) (U.set a false) ((a + 1) % n) := by
  rw [← count_set h]
  simp only [turn, h, if_true]
theorem turn_stop {n f : Nat} {U : List Bool} {a : Nat} (h : U[a]? ≠ some true) : turn n f U a = (U, a) := by
  cases f with
  | zero => rfl
  | succ f => simp only [turn, if_neg h]
theorem left_us {r : Rg} (h : r.U.length = r.N.length) (i : Nat) : (left r i).U.length = (left r i).N.length := by unfold left; simp [h]
theorem turn_len (n : Nat) : ∀ (f : Nat) (U : List Bool) (a : Nat), (turn n f U a).1.length = U.length
  | 0, U, a => rfl
  | f + 1, U, a => by
    unfold turn
    split
    · rw [turn_len n f]; simp
    · rfl
end Go.Proofs.Ytapchjkiiifhdaa.rg
/- Mathematics for the laws of rings: what leaves, joins, and where the hand stops. -/
namespace Go.Proofs.Ytapchjkiiifhdaa.rg
open Go.RowKit
set_option linter.unusedVariables false

theorem cut_sub {α : Type} (N : List α) (i : Nat) : (N.take i ++ N.drop (i + 1)).Sublist N := by
  rw [← List.eraseIdx_eq_take_drop_succ]
  exact List.eraseIdx_sublist ..
theorem left_ok {r : Rg} (h : ROk r) {i : Nat} (hi : i < r.N.length) : ROk (left r i) := by
  have hn : (left r i).N.length + 1 = r.N.length := by simp [left]; omega
  have h0 := h.a0
  have h1 := h.a1
  have h2 := h.le
  refine ⟨fun s hs => h.nm s ((cut_sub r.N i).mem hs), h.nd.sublist (cut_sub r.N i), by omega, left_us h.us i, ?_, ?_⟩
  · show 0 ≤ (if (if (i : Int) < r.A then r.A - 1 else r.A) < (r.N.length : Int) - 1 then (if (i : Int) < r.A then r.A - 1 else r.A) else 0)
    split <;> split <;> omega
  · show (if (if (i : Int) < r.A then r.A - 1 else r.A) < (r.N.length : Int) - 1 then (if (i : Int) < r.A then r.A - 1 else r.A) else 0) < _
    split <;> split <;> omega
theorem left_gone {r : Rg} (h : ROk r) {i : Nat} (hi : i < r.N.length) : r.N[i] ∉ (left r i).N := by
  intro hm
  have hd := List.pairwise_iff_getElem.1 h.nd
  rcases List.mem_append.1 hm with q | q
  · obtain ⟨j, hj, e⟩ := List.mem_iff_getElem.1 q
    simp at hj e
    exact hd j i (by omega) hi (by omega) e
  · obtain ⟨j, hj, e⟩ := List.mem_iff_getElem.1 q
    simp at hj e
    exact hd i (i + 1 + j) hi (by omega) (by omega) e.symm
theorem left_hand {r : Rg} (h : ROk r) {i k : Nat} (hi : i < r.N.length) (hk : r.A = k) (hne : k ≠ i) : ∃ k' : Nat, (left r i).A = k' ∧ k' < (left r i).N.length ∧ (left r i).N[k']? = r.N[k]? := by
  have h1 := h.a1
  have hn : (left r i).N.length + 1 = r.N.length := by simp [left]; omega
  rcases Nat.lt_or_ge i k with q | q
  · refine ⟨k - 1, ?_, by omega, ?_⟩
    · show (if (if (i : Int) < r.A then r.A - 1 else r.A) < (r.N.length : Int) - 1 then (if (i : Int) < r.A then r.A - 1 else r.A) else 0) = _
      rw [if_pos (show (i : Int) < r.A by omega), if_pos (by omega)]
      omega
    · show (r.N.take i ++ r.N.drop (i + 1))[k - 1]? = _
      rw [List.getElem?_append_right (by simp; omega), List.getElem?_drop]
      congr 1
      simp
      omega
  · refine ⟨k, ?_, by omega, ?_⟩
    · show (if (if (i : Int) < r.A then r.A - 1 else r.A) < (r.N.length : Int) - 1 then (if (i : Int) < r.A then r.A - 1 else r.A) else 0) = _
      rw [if_neg (show ¬ (i : Int) < r.A by omega), if_pos (by omega)]
      omega
    · show (r.N.take i ++ r.N.drop (i + 1))[k]? = _
      rw [List.getElem?_append_left (by simp; omega), List.getElem?_take, if_pos (by omega)]
theorem joined_ok {r : Rg} (h : ROk r) {s : ByteArray} (hm : mayB r s = true) : ROk (joined r s) := by
  simp only [mayB, Bool.and_eq_true, decide_eq_true_eq, Bool.not_eq_true', beq_eq_false_iff_ne] at hm
  obtain ⟨⟨h1, h2⟩, h3⟩ := hm
  have hno : s ∉ r.N := fun q => by have := posS_mem.1 q; omega
  have h4 := h.le
  have h5 := h.us
  have h6 := h.a0
  have h7 := h.a1
  refine ⟨fun x hx => ?_, ?_, ?_, ?_, h6, ?_⟩
  · rcases List.mem_append.1 hx with q | q
    · exact h.nm x q
    · rw [List.mem_singleton.1 q]; exact h1
  · show (r.N ++ [s]).Nodup
    rw [List.nodup_append]
    refine ⟨h.nd, by simp, fun a ha b hb e => ?_⟩
    rw [List.mem_singleton] at hb
    rw [e, hb] at ha
    exact hno ha
  · show (r.N ++ [s]).length ≤ 20
    simp
    omega
  · show (r.U ++ [false]).length = (r.N ++ [s]).length
    simp
    omega
  · show r.A < max ((r.N ++ [s]).length : Int) 1
    simp
    omega

theorem mod2 {n x : Nat} (h : x < 2 * n) : x % n = if x < n then x else x - n := by
  split
  · exact Nat.mod_eq_of_lt (by assumption)
  · rw [Nat.mod_eq_sub_mod (by omega), Nat.mod_eq_of_lt (by omega)]
theorem mod_reach {n a j : Nat} (ha : a < n) (hj : j < n) : ∃ m, m < n ∧ (a + m) % n = j := by
  rcases Nat.lt_or_ge j a with q | q
  · exact ⟨j + n - a, by omega, by rw [mod2 (by omega), if_neg (by omega)]; omega⟩
  · exact ⟨j - a, by omega, by rw [mod2 (by omega), if_pos (by omega)]; omega⟩
theorem mod_once {n a m k : Nat} (ha : a < n) (hm : m < k) (hk : k ≤ n) (e : (a + m) % n = (a + k) % n) : k = n := by
  rw [mod2 (by omega), mod2 (by omega)] at e
  split at e <;> split at e <;> omega
/-- the hand has gone by k places -/
structure Gone (n : Nat) (U0 : List Bool) (a k : Nat) (U : List Bool) : Prop where
  le : k ≤ n
  by' : ∀ m, m < k → U0[(a + m) % n]? = some true
  iff : ∀ j, U[j]? = some true ↔ U0[j]? = some true ∧ ∀ m, m < k → (a + m) % n ≠ j
theorem turn_gone {n : Nat} {U0 : List Bool} {a : Nat} (ha : a < n) : ∀ (f : Nat) (U : List Bool) (k : Nat), f = U.count true → Gone n U0 a k U → ∃ k', Gone n U0 a k' (turn n f U ((a + k) % n)).1 ∧ (turn n f U ((a + k) % n)).2 = (a + k') % n ∧ (turn n f U ((a + k) % n)).1[(a + k') % n]? ≠ some true
  | 0, U, k, hf, g => by
    refine ⟨k, g, rfl, fun e => ?_⟩
    have := List.mem_of_getElem? e
    exact List.count_eq_zero.1 hf.symm this
  | f + 1, U, k, hf, g => by
    by_cases h : U[(a + k) % n]? = some true
    · have hk : k < n := by
        rcases Nat.lt_or_ge k n with q | q
        · exact q
        · exfalso
          have e : k = n := by have := g.le; omega
          subst e
          exact ((g.iff _).1 h).2 0 (by omega) (by simp)
      have g2 : Gone n U0 a (k + 1) (U.set ((a + k) % n) false) := by
        refine ⟨by omega, fun m hm => ?_, fun j => ?_⟩
        · rcases Nat.lt_or_ge m k with q | q
          · exact g.by' m q
          · have e : m = k := by omega
            subst e
            exact ((g.iff _).1 h).1
        · rw [List.getElem?_set]
          by_cases q : (a + k) % n = j
          · rw [if_pos q]
            refine ⟨fun z => ?_, fun z => absurd q (z.2 k (by omega))⟩
            split at z <;> cases z
          · rw [if_neg q, g.iff j]
            refine ⟨fun z => ⟨z.1, fun m hm => ?_⟩, fun z => ⟨z.1, fun m hm => z.2 m (by omega)⟩⟩
            rcases Nat.lt_or_ge m k with p | p
            · exact z.2 m p
            · have e : m = k := by omega
              subst e
              exact q
      have hc := count_set h
      obtain ⟨k', r1, r2, r3⟩ := turn_gone ha f (U.set ((a + k) % n) false) (k + 1) (by omega) g2
      have e : turn n (f + 1) U ((a + k) % n) = turn n f (U.set ((a + k) % n) false) ((a + (k + 1)) % n) := by
        simp only [turn, if_pos h]
        rw [Nat.mod_add_mod, Nat.add_assoc]
      rw [e]
      exact ⟨k', r1, r2, r3⟩
    · rw [turn_stop h]
      exact ⟨k, g, rfl, h⟩
/-- where the hand stops -/
structure Stop (r : Rg) (V : List Bool) (b : Nat) : Prop where
  lt : b < r.N.length
  len : V.length = r.N.length
  off : V[b]? = some false
  le : ∀ j : Nat, V[j]? = some true → r.U[j]? = some true
  all : r.U[b]? = some true → ∀ j : Nat, j < r.N.length → r.U[j]? = some true
  at' : r.U[b]? = some true → (b : Int) = r.A
theorem turned_stop {r : Rg} (h : ROk r) (hn : r.N.length ≠ 0) : Stop r (turned r).1 (turned r).2 := by
  have h0 := h.a0
  have h1 := h.a1
  have ha : r.A.toNat < r.N.length := by omega
  obtain ⟨k, g, e, ho⟩ := turn_gone (U0 := r.U) ha (r.U.count true) r.U 0 rfl ⟨Nat.zero_le _, fun m hm => by omega, fun j => ⟨fun z => ⟨z, fun m hm => by omega⟩, fun z => z.1⟩⟩
  rw [Nat.add_zero, Nat.mod_eq_of_lt ha] at g e ho
  have hl : (turned r).1.length = r.N.length := by rw [← h.us]; exact turn_len _ _ _ _
  have hb : (turned r).2 < r.N.length := by
    show (turn _ _ _ _).2 < _
    rw [e]
    exact Nat.mod_lt _ (by omega)
  have full : r.U[(turned r).2]? = some true → k = r.N.length := fun z => by
    have z' : r.U[(r.A.toNat + k) % r.N.length]? = some true := by rw [← e]; exact z
    by_cases q : ∃ m, m < k ∧ (r.A.toNat + m) % r.N.length = (r.A.toNat + k) % r.N.length
    · obtain ⟨m, hm, em⟩ := q
      exact mod_once ha hm g.le em
    · exact absurd ((g.iff _).2 ⟨z', fun m hm em => q ⟨m, hm, em⟩⟩) ho
  refine ⟨hb, hl, ?_, fun j hj => ((g.iff j).1 hj).1, fun z j hj => ?_, fun z => ?_⟩
  · have ho' : (turned r).1[(turned r).2]? ≠ some true := by
      show (turn _ _ _ _).1[(turn _ _ _ _).2]? ≠ _
      rw [e]
      exact ho
    rw [List.getElem?_eq_getElem (by omega)] at ho' ⊢
    cases hx : (turned r).1[(turned r).2]'(by omega) with
    | false => rfl
    | true => rw [hx] at ho'; exact absurd rfl ho'
  · have hk := full z
    obtain ⟨m, hm, em⟩ := mod_reach ha hj
    have := g.by' m (by omega)
    rw [em] at this
    exact this
  · have hk := full z
    have e2 : (turned r).2 = (r.A.toNat + k) % r.N.length := e
    rw [e2, hk, mod2 (by omega), if_neg (by omega)]
    omega
theorem turned_ok {r : Rg} (h : ROk r) {V : List Bool} {b : Nat} (s : Stop r V b) : ROk ⟨r.N, V, (b : Int)⟩ := ⟨h.nm, h.nd, h.le, s.len, by show (0 : Int) ≤ (b : Int); omega, by show (b : Int) < max (r.N.length : Int) 1; have := s.lt; omega⟩
theorem all_end {r : Rg} (h : ROk r) {V : List Bool} {b : Nat} (s : Stop r V b) {u : Bool} (hu : r.U[b]? = some u) : r.U.all id = u := by
  cases u with
  | true =>
    rw [List.all_eq_true]
    intro x hx
    obtain ⟨j, hj, e⟩ := List.mem_iff_getElem.1 hx
    have := s.all hu j (by have := h.us; omega)
    rw [List.getElem?_eq_getElem hj, e] at this
    cases this
    rfl
  | false =>
    rw [Bool.eq_false_iff]
    intro q
    rw [List.all_eq_true] at q
    have := q false (List.mem_of_getElem? hu)
    cases this
theorem all_next {U : List Bool} {i : Nat} (hi : i < U.length) : (U.take (i + 1)).all id = ((U.take i).all id && U[i]) := by
  rw [List.take_succ_eq_append_getElem hi, List.all_append]
  simp
end Go.Proofs.Ytapchjkiiifhdaa.rg
/- Mathematics of queues of names, no Go in sight: the others, who is touched, who is sampled. -/
namespace Go.Proofs.Ytapchjkiiifhdaa.rg
open Go.RowKit
set_option linter.unusedVariables false

/-- all but those that are s -/
def othersS (q : List ByteArray) (s : ByteArray) : List ByteArray := q.filter fun x => decide (x ≠ s)
theorem others_no {q : List ByteArray} {s : ByteArray} (h : s ∉ q) : othersS q s = q := by
  unfold othersS
  rw [List.filter_eq_self]
  intro x hx
  exact decide_eq_true fun e => h (e ▸ hx)
theorem others_at {q : List ByteArray} {s : ByteArray} {i : Nat} (hi : i < q.length) (hs : q[i] = s) (hn : q.Nodup) : othersS q s = q.take i ++ q.drop (i + 1) := by
  have h1 : q = q.take i ++ q[i] :: q.drop (i + 1) := by simp
  have hn2 := hn
  rw [h1, List.nodup_append, List.nodup_cons] at hn2
  obtain ⟨-, ⟨hd, -⟩, hne⟩ := hn2
  have e1 : othersS (q.take i) s = q.take i := others_no fun h => hne s h q[i] (List.mem_cons_self ..) hs.symm
  have e2 : othersS (q.drop (i + 1)) s = q.drop (i + 1) := others_no (by rw [← hs]; exact hd)
  have e3 : othersS q s = othersS (q.take i) s ++ othersS (q[i] :: q.drop (i + 1)) s := by
    unfold othersS
    rw [← List.filter_append, ← h1]
  rw [e3, e1]
  congr 1
  have : othersS (q[i] :: q.drop (i + 1)) s = othersS (q.drop (i + 1)) s := by
    unfold othersS
    rw [List.filter_cons, if_neg (by simp [hs])]
  rw [this, e2]
theorem others_cons (x : ByteArray) (q : List ByteArray) (s : ByteArray) : othersS (x :: q) s = if x = s then othersS q s else x :: othersS q s := by
  unfold othersS
  rw [List.filter_cons]
  by_cases h : x = s <;> simp [h]
theorem others_take_yes {q : List ByteArray} {s : ByteArray} {i : Nat} (hi : i < q.length) (h : q[i] = s) : othersS (q.take (i + 1)) s = othersS (q.take i) s := by
  rw [List.take_succ_eq_append_getElem hi]
  unfold othersS
  rw [List.filter_append]
  simp [h]
theorem others_take_no {q : List ByteArray} {s : ByteArray} {i : Nat} (hi : i < q.length) (h : q[i] ≠ s) : othersS (q.take (i + 1)) s = othersS (q.take i) s ++ [q[i]] := by
  rw [List.take_succ_eq_append_getElem hi]
  unfold othersS
  rw [List.filter_append]
  simp [h]
theorem others_sub (q : List ByteArray) (s : ByteArray) : (othersS q s).Sublist q := List.filter_sublist
theorem others_gone (q : List ByteArray) (s : ByteArray) : s ∉ othersS q s := by
  unfold othersS
  simp
theorem others_len (q : List ByteArray) (s : ByteArray) : (othersS q s).length ≤ q.length := (others_sub q s).length_le
theorem namesB_iff {q : List ByteArray} : namesB q = true ↔ NOk q := by unfold namesB; exact decide_eq_true_iff
theorem others_ok {q : List ByteArray} (s : ByteArray) (h : NOk q) : NOk (othersS q s) :=
  ⟨fun x hx => h.1 x ((others_sub q s).subset hx), h.2.1.sublist (others_sub q s), Nat.le_trans (others_len q s) h.2.2⟩

/-- may it be touched? -/
def mayT (q : List ByteArray) (s : ByteArray) : Bool := nameB s && !((othersS q s).length == 20)
def toB (q : List ByteArray) (s : ByteArray) : Bool := namesB q && mayT q s
def toR (q : List ByteArray) (s : ByteArray) : List ByteArray := if namesB q = true then (if mayT q s = true then othersS q s ++ [s] else othersS q s) else []
def wiR (q : List ByteArray) (s : ByteArray) : List ByteArray := if namesB q = true then othersS q s else []

/-- the model's way, of whatever list -/
def tqB (q : List ByteArray) (s : ByteArray) : Bool := if 0 ≤ posS s q then true else nameB s && !(q.length == 20)
def tqR (q : List ByteArray) (s : ByteArray) : List ByteArray :=
  if 0 ≤ posS s q then (q.take (posS s q).toNat ++ q.drop ((posS s q).toNat + 1)) ++ [s] else if (nameB s && !(q.length == 20)) = true then q ++ [s] else q
def cutR (q : List ByteArray) (s : ByteArray) : List ByteArray := if 0 ≤ posS s q then q.take (posS s q).toNat ++ q.drop ((posS s q).toNat + 1) else q
theorem cut_is {q : List ByteArray} {s : ByteArray} (h : NOk q) : cutR q s = othersS q s := by
  unfold cutR
  rcases posS_cases s q with ⟨h1, e⟩ | ⟨i, hi, h1, h2, e⟩
  · rw [e, if_neg (by omega), others_no h1]
  · rw [e, if_pos (by omega), others_at hi h1 h.2.1]
    simp
theorem tq_is {q : List ByteArray} {s : ByteArray} (h : NOk q) : tqB q s = toB q s ∧ tqR q s = toR q s := by
  unfold tqB tqR toB toR
  rw [namesB_iff.2 h, if_pos rfl, Bool.true_and]
  rcases posS_cases s q with ⟨h1, e⟩ | ⟨i, hi, h1, h2, e⟩
  · have hm : mayT q s = (nameB s && !(q.length == 20)) := by unfold mayT; rw [others_no h1]
    rw [e, if_neg (by omega), if_neg (by omega), hm, others_no h1]
    exact ⟨rfl, rfl⟩
  · have hl : (othersS q s).length + 1 = q.length := by
      rw [others_at hi h1 h.2.1]
      simp
      omega
    have hm : mayT q s = true := by
      unfold mayT
      rw [h.1 s (h1 ▸ List.getElem_mem hi)]
      have := h.2.2
      have h3 : ((othersS q s).length == 20) = false := by simp; omega
      rw [h3]
      rfl
    rw [e, if_pos (by omega), if_pos (by omega), hm, if_pos rfl, others_at hi h1 h.2.1]
    exact ⟨rfl, by simp⟩
theorem wi_is {q : List ByteArray} {s : ByteArray} (h : namesB q = true) : cutR q s = wiR q s := by
  rw [cut_is (namesB_iff.1 h)]
  unfold wiR
  rw [if_pos h]
theorem to_no {q : List ByteArray} {s : ByteArray} (h : namesB q = false) : toB q s = false ∧ toR q s = [] := by unfold toB toR; rw [h]; exact ⟨rfl, rfl⟩
theorem wi_no {q : List ByteArray} {s : ByteArray} (h : namesB q = false) : wiR q s = [] := by unfold wiR; rw [h]; rfl
theorem toR_len (q : List ByteArray) (s : ByteArray) : (toR q s).length ≤ 21 := by
  unfold toR
  split
  · rename_i h
    have h1 := (namesB_iff.1 h).2.2
    have h2 := others_len q s
    split
    · simp; omega
    · omega
  · simp
theorem wiR_len (q : List ByteArray) (s : ByteArray) : (wiR q s).length ≤ 21 := by
  unfold wiR
  split
  · rename_i h
    have h1 := (namesB_iff.1 h).2.2
    have h2 := others_len q s
    omega
  · simp
/-- who is touched stands behind the others, and it is a queue -/
theorem to_ok {q : List ByteArray} {s : ByteArray} (h : toB q s = true) : toR q s = othersS q s ++ [s] ∧ NOk (toR q s) ∧ NOk q ∧ wiR q s = othersS q s := by
  unfold toB at h
  rw [Bool.and_eq_true] at h
  obtain ⟨h1, h2⟩ := h
  have hq := namesB_iff.1 h1
  have e : toR q s = othersS q s ++ [s] := by unfold toR; rw [if_pos h1, if_pos h2]
  refine ⟨e, ?_, hq, by unfold wiR; rw [if_pos h1]⟩
  have ho := others_ok s hq
  unfold mayT at h2
  simp only [Bool.and_eq_true, Bool.not_eq_true', beq_eq_false_iff_ne] at h2
  rw [e]
  refine ⟨fun x hx => ?_, ?_, ?_⟩
  · rcases List.mem_append.1 hx with z | z
    · exact ho.1 x z
    · rw [List.mem_singleton.1 z]; exact h2.1
  · rw [List.nodup_append]
    refine ⟨ho.2.1, by simp, fun a ha b hb e => ?_⟩
    rw [List.mem_singleton.1 hb] at e
    exact others_gone q s (e ▸ ha)
  · have := ho.2.2
    rw [List.length_append, List.length_singleton]
    omega
/-- who may not be touched, of a queue: it stays -/
theorem to_stay {q : List ByteArray} {s : ByteArray} (hq : namesB q = true) (h : toB q s = false) : toR q s = q := by
  have hk := namesB_iff.1 hq
  have h2 : mayT q s = false := by unfold toB at h; rw [hq] at h; simpa using h
  unfold toR
  rw [if_pos hq, if_neg (by rw [h2]; decide)]
  refine others_no fun hm => ?_
  have hn := hk.1 s hm
  unfold mayT at h2
  rw [hn] at h2
  simp at h2
  obtain ⟨i, hi, e⟩ := List.mem_iff_getElem.1 hm
  have := hk.2.2
  have h3 := others_at hi e hk.2.1
  rw [h3] at h2
  simp at h2
  omega

/-! ### places -/
/-- the next place -/
def nxt (n p : Nat) : Nat := (7 * p + 3) % n
/-- the foremost of k places from p on, and of b -/
def mins (n : Nat) : Nat → Nat → Nat → Nat
  | 0, b, _ => b
  | k + 1, b, p => mins n k (min b p) (nxt n p)
theorem mins_le (n : Nat) : ∀ k b p, mins n k b p ≤ b
  | 0, b, p => Nat.le_refl _
  | k + 1, b, p => Nat.le_trans (mins_le n k (min b p) (nxt n p)) (Nat.min_le_left _ _)
theorem mins_more (n : Nat) : ∀ k b p, mins n (k + 1) b p ≤ mins n k b p
  | 0, b, p => Nat.min_le_left _ _
  | k + 1, b, p => by
    show mins n (k + 1) (min b p) (nxt n p) ≤ mins n k (min b p) (nxt n p)
    exact mins_more n k _ _
theorem mins_lt {n k p : Nat} (hk : 1 ≤ k) (hp : p < n) : mins n k n p < n := by
  obtain ⟨j, rfl⟩ : ∃ j, k = j + 1 := ⟨k - 1, by omega⟩
  exact Nat.lt_of_le_of_lt (mins_le n j (min n p) (nxt n p)) (by rw [Nat.min_eq_right (by omega)]; exact hp)
theorem mins_one {n p : Nat} (hp : p < n) : mins n 1 n p = p := Nat.min_eq_right (by omega)
/-- what the k-th place is -/
def plc (n p : Nat) : Nat → Nat
  | 0 => p
  | k + 1 => plc n (nxt n p) k
theorem plc_succ (n : Nat) : ∀ k p, plc n p (k + 1) = nxt n (plc n p k)
  | 0, p => rfl
  | k + 1, p => by
    show plc n (nxt n p) (k + 1) = nxt n (plc n (nxt n p) k)
    exact plc_succ n k _
theorem nxt_lt {n : Nat} (hn : 0 < n) (p : Nat) : nxt n p < n := Nat.mod_lt _ hn
theorem plc_lt {n p : Nat} (hp : p < n) : ∀ k, plc n p k < n
  | 0 => hp
  | k + 1 => by rw [plc_succ]; exact nxt_lt (by omega) _
theorem mins_succ (n : Nat) : ∀ k b p, mins n (k + 1) b p = min (mins n k b p) (plc n p k)
  | 0, b, p => rfl
  | k + 1, b, p => by
    show mins n (k + 1) (min b p) (nxt n p) = min (mins n k (min b p) (nxt n p)) (plc n (nxt n p) k)
    exact mins_succ n k _ _
/-- the places as a list -/
def plcs (n p k : Nat) : List Int := (List.range k).map fun i => (plc n p i : Int)
theorem plcs_len (n p k : Nat) : (plcs n p k).length = k := by simp [plcs]
theorem plcs_get {n p k i : Nat} (h : i < (plcs n p k).length) : (plcs n p k)[i] = (plc n p i : Int) := by simp [plcs]
theorem plcs_succ (n p k : Nat) : plcs n p (k + 1) = plcs n p k ++ [(plc n p k : Int)] := by simp [plcs, List.range_succ]
theorem mod_tm {s : Int} {n : Nat} (hs : 0 ≤ s) : s.tmod (n : Int) = ((s.toNat % n : Nat) : Int) := by
  obtain ⟨k, rfl⟩ : ∃ k : Nat, s = k := ⟨s.toNat, by omega⟩
  rw [Int.tmod_eq_emod_of_nonneg (by omega)]
  simp

/-- is it in range? -/
def saB (q : List ByteArray) (s m : Int) : Bool := namesB q && !((q.length : Int) == 0) && (decide (0 ≤ s) && decide (s ≤ 1000000)) && (decide (1 ≤ m) && decide (m ≤ 20))
def saI (q : List ByteArray) (s m : Int) : Nat := mins q.length m.toNat q.length (s.toNat % q.length)
def saS (q : List ByteArray) (s m : Int) : ByteArray := if saB q s m = true then (q[saI q s m]?).getD ⟨#[]⟩ else ⟨#[]⟩
structure SOk (q : List ByteArray) (s m : Int) : Prop where
  nk : NOk q
  n0 : 0 < q.length
  s0 : 0 ≤ s
  s1 : s ≤ 1000000
  m0 : 1 ≤ m
  m1 : m ≤ 20
theorem saB_iff {q : List ByteArray} {s m : Int} : saB q s m = true ↔ SOk q s m := by
  simp only [saB, Bool.and_eq_true, decide_eq_true_eq, Bool.not_eq_true', beq_eq_false_iff_ne, namesB_iff]
  exact ⟨fun ⟨⟨⟨h1, h2⟩, h3, h4⟩, h5, h6⟩ => ⟨h1, by omega, h3, h4, h5, h6⟩, fun ⟨h1, h2, h3, h4, h5, h6⟩ => ⟨⟨⟨h1, by omega⟩, h3, h4⟩, h5, h6⟩⟩
theorem saI_lt {q : List ByteArray} {s m : Int} (h : SOk q s m) : saI q s m < q.length := mins_lt (by have := h.m0; omega) (Nat.mod_lt _ h.n0)
theorem saS_yes {q : List ByteArray} {s m : Int} (h : SOk q s m) : saS q s m = q[saI q s m]'(saI_lt h) := by
  unfold saS
  rw [if_pos (saB_iff.2 h), List.getElem?_eq_getElem (saI_lt h)]
  rfl
theorem saS_no {q : List ByteArray} {s m : Int} (h : saB q s m = false) : saS q s m = ⟨#[]⟩ := by
  unfold saS
  rw [h]
  rfl
end Go.Proofs.Ytapchjkiiifhdaa.rg
/- Mathematics of choices (who must go), no Go in sight: the names part: a ring or a queue of names; who is seen, forgotten, who must go. The sketch stands apart. -/
namespace Go.Proofs.Ytapchjkiiifhdaa.rg
open Go.RowKit
set_option linter.unusedVariables false

/-- which way (1: a clock, 2: a queue), with a ring and a queue -/
structure Hc where
  K : Int
  R : Rg
  Q : List ByteArray
def Hc.zero : Hc := ⟨0, Rg.zero, []⟩
/-- the names part is right -/
def hcB (c : Hc) : Bool := ringB c.R && namesB c.Q && (decide (c.K = 1) && decide (c.Q.length = 0) || decide (c.K = 2) && decide (c.R.N.length = 0))
structure HOk (c : Hc) : Prop where
  r : ROk c.R
  q : NOk c.Q
  way : (c.K = 1 ∧ c.Q = []) ∨ (c.K = 2 ∧ c.R.N = [])
theorem hcB_iff {c : Hc} : hcB c = true ↔ HOk c := by
  simp only [hcB, Bool.and_eq_true, Bool.or_eq_true, decide_eq_true_eq, ringB_iff, namesB_iff, List.length_eq_zero_iff]
  exact ⟨fun ⟨⟨a, b⟩, h⟩ => ⟨a, b, h⟩, fun ⟨a, b, h⟩ => ⟨⟨a, b⟩, h⟩⟩
def namesH (c : Hc) : List ByteArray := if c.K = 2 then c.Q else c.R.N
theorem HOk.names {c : Hc} (h : HOk c) : NOk (namesH c) := by
  unfold namesH
  split
  · exact h.q
  · exact ⟨h.r.nm, h.r.nd, h.r.le⟩
theorem hnew_ok {k : Int} (h : k = 1 ∨ k = 2) : HOk ⟨k, Rg.zero, []⟩ :=
  ⟨⟨by simp [Rg.zero], by simp [Rg.zero], by simp [Rg.zero], by simp [Rg.zero], by simp [Rg.zero], by show (0 : Int) < max ((0 : Nat) : Int) 1; decide⟩, ⟨by simp, by simp, by simp⟩, h.imp (fun e => ⟨e, rfl⟩) (fun e => ⟨e, rfl⟩)⟩

/-! ### who is seen -/
def ringSee (r : Rg) (s : ByteArray) : Rg := if 0 ≤ posS s r.N then used r s else if mayB r s = true then joined r s else r
def seeH (c : Hc) (s : ByteArray) : Hc := if nameB s = true then (if c.K = 2 then ⟨c.K, c.R, tqR c.Q s⟩ else ⟨c.K, ringSee c.R s, c.Q⟩) else c
theorem used_ok {r : Rg} (h : ROk r) (s : ByteArray) : ROk (used r s) := by
  unfold used
  split
  · exact ⟨h.nm, h.nd, h.le, by show (List.set _ _ _).length = _; rw [List.length_set]; exact h.us, h.a0, h.a1⟩
  · exact h
theorem ringSee_ok {r : Rg} (h : ROk r) (s : ByteArray) : ROk (ringSee r s) := by
  unfold ringSee
  split
  · exact used_ok h s
  · split
    · exact joined_ok h (by assumption)
    · exact h
theorem toR_ok {q : List ByteArray} (h : NOk q) (s : ByteArray) : NOk (toR q s) := by
  cases hb : toB q s with
  | true => exact (to_ok hb).2.1
  | false => rw [to_stay (namesB_iff.2 h) hb]; exact h
theorem seeH_ok {c : Hc} (h : HOk c) (s : ByteArray) : HOk (seeH c s) := by
  unfold seeH
  split
  · split
    · rename_i hk
      refine ⟨h.r, ?_, .inr ⟨hk, ?_⟩⟩
      · show NOk (tqR c.Q s)
        rw [(tq_is h.q).2]
        exact toR_ok h.q s
      · rcases h.way with w | w
        · have := w.1; omega
        · exact w.2
    · rename_i hk
      refine ⟨ringSee_ok h.r s, h.q, .inl ?_⟩
      rcases h.way with w | w
      · exact w
      · exact absurd w.1 hk
  · exact h
theorem ringSee_names (r : Rg) (s : ByteArray) : (ringSee r s).N = if 0 ≤ posS s r.N then r.N else if mayB r s = true then r.N ++ [s] else r.N := by
  unfold ringSee
  split
  · unfold used
    rw [if_pos (by assumption)]
  · split <;> rfl
/-- nobody is lost where one is seen; who is seen is there, or there is no room -/
theorem seeH_says {c : Hc} (h : HOk c) {s : ByteArray} (hs : nameB s = true) : (∀ x ∈ namesH c, x ∈ namesH (seeH c s)) ∧ (s ∈ namesH (seeH c s) ∨ (namesH c).length = 20) := by
  unfold seeH
  rw [if_pos hs]
  by_cases hk : c.K = 2
  · rw [if_pos hk]
    have e : namesH ⟨c.K, c.R, tqR c.Q s⟩ = toR c.Q s := by
      unfold namesH
      rw [if_pos hk]
      exact (tq_is h.q).2
    have e2 : namesH c = c.Q := by unfold namesH; rw [if_pos hk]
    rw [e, e2]
    cases hb : toB c.Q s with
    | true =>
      rw [(to_ok hb).1]
      refine ⟨fun x hx => ?_, .inl (by simp)⟩
      by_cases hx2 : x = s
      · rw [hx2]; simp
      · exact List.mem_append_left _ (by unfold othersS; simp [hx, hx2])
    | false =>
      rw [to_stay (namesB_iff.2 h.q) hb]
      refine ⟨fun x hx => hx, ?_⟩
      by_cases hm : s ∈ c.Q
      · exact .inl hm
      · refine .inr ?_
        unfold toB at hb
        rw [namesB_iff.2 h.q] at hb
        simp only [mayT, hs, Bool.true_and, others_no hm] at hb
        simpa using hb
  · rw [if_neg hk]
    have e : namesH ⟨c.K, ringSee c.R s, c.Q⟩ = (ringSee c.R s).N := by unfold namesH; rw [if_neg hk]
    have e2 : namesH c = c.R.N := by unfold namesH; rw [if_neg hk]
    rw [e, e2, ringSee_names]
    by_cases hp : 0 ≤ posS s c.R.N
    · rw [if_pos hp]
      exact ⟨fun x hx => hx, .inl (posS_mem.2 hp)⟩
    · rw [if_neg hp]
      by_cases hm : mayB c.R s = true
      · rw [if_pos hm]
        exact ⟨fun x hx => List.mem_append_left _ hx, .inl (by simp)⟩
      · rw [if_neg hm]
        refine ⟨fun x hx => hx, .inr ?_⟩
        simp only [mayB, hs, Bool.true_and] at hm
        rw [decide_eq_true (by omega)] at hm
        simpa using hm

/-! ### who is forgotten -/
def ringForget (r : Rg) (s : ByteArray) : Rg := if 0 ≤ posS s r.N then left r (posS s r.N).toNat else r
def forgetH (c : Hc) (s : ByteArray) : Hc := if c.K = 2 then ⟨c.K, c.R, cutR c.Q s⟩ else ⟨c.K, ringForget c.R s, c.Q⟩
theorem pos_lt {s : ByteArray} {N : List ByteArray} (h : 0 ≤ posS s N) : (posS s N).toNat < N.length := by have := (posS_bd s N).2; omega
theorem pos_get {s : ByteArray} {N : List ByteArray} (h : 0 ≤ posS s N) : N[(posS s N).toNat]'(pos_lt h) = s := by
  rcases posS_cases s N with ⟨-, e⟩ | ⟨i, hi, e, -, e2⟩
  · omega
  · have : (posS s N).toNat = i := by omega
    simp only [this]
    exact e
theorem forgetH_ok {c : Hc} (h : HOk c) (s : ByteArray) : HOk (forgetH c s) ∧ s ∉ namesH (forgetH c s) := by
  unfold forgetH
  by_cases hk : c.K = 2
  · rw [if_pos hk]
    have hr : c.R.N = [] := by
      rcases h.way with w | w
      · have := w.1; omega
      · exact w.2
    have e : namesH ⟨c.K, c.R, cutR c.Q s⟩ = cutR c.Q s := by unfold namesH; rw [if_pos hk]
    rw [e]
    rw [cut_is h.q]
    exact ⟨⟨h.r, others_ok s h.q, .inr ⟨hk, hr⟩⟩, others_gone _ _⟩
  · rw [if_neg hk]
    have hq : c.K = 1 ∧ c.Q = [] := by
      rcases h.way with w | w
      · exact w
      · exact absurd w.1 hk
    have e : namesH ⟨c.K, ringForget c.R s, c.Q⟩ = (ringForget c.R s).N := by unfold namesH; rw [if_neg hk]
    rw [e]
    unfold ringForget
    by_cases hp : 0 ≤ posS s c.R.N
    · rw [if_pos hp]
      refine ⟨⟨left_ok h.r (pos_lt hp), h.q, .inl hq⟩, ?_⟩
      have := left_gone h.r (pos_lt hp)
      rw [pos_get hp] at this
      exact this
    · rw [if_neg hp]
      exact ⟨⟨h.r, h.q, .inl hq⟩, fun q => hp (posS_mem.1 q)⟩

/-! ### who must go: the clock's way -/
/-- the hand turned once -/
def tn (r : Rg) : Rg := ⟨r.N, (turned r).1, ((turned r).2 : Int)⟩
/-- one place further -/
def nx (r : Rg) : Rg := ⟨r.N, r.U, (r.A + 1) % (r.N.length : Int)⟩
/-- the name at the hand -/
def atN (r : Rg) : ByteArray := (r.N[r.A.toNat]?).getD ⟨#[]⟩
/-- turned until the name at the hand is another, at most f times more -/
def tnBut (but : ByteArray) : Nat → Rg → Rg
  | 0, r => r
  | f + 1, r => if atN r = but then tnBut but f (tn (nx r)) else r
theorem tn_ok {r : Rg} (h : ROk r) (hn : r.N.length ≠ 0) : ROk (tn r) ∧ Stop r (tn r).U (tn r).A.toNat ∧ (tn r).N = r.N := by
  have s := turned_stop h hn
  exact ⟨turned_ok h s, by show Stop r (turned r).1 ((turned r).2 : Int).toNat; rw [Int.toNat_natCast]; exact s, rfl⟩
theorem nx_ok {r : Rg} (h : ROk r) (hn : r.N.length ≠ 0) : ROk (nx r) := by
  refine ⟨h.nm, h.nd, h.le, h.us, ?_, ?_⟩
  · exact Int.emod_nonneg _ (by omega)
  · show (r.A + 1) % (r.N.length : Int) < max (r.N.length : Int) 1
    have := Int.emod_lt_of_pos (r.A + 1) (b := (r.N.length : Int)) (by omega)
    omega
theorem atN_lt {r : Rg} (h : ROk r) (hn : r.N.length ≠ 0) : r.A.toNat < r.N.length := by have := h.a0; have := h.a1; omega
theorem atN_get {r : Rg} (h : ROk r) (hn : r.N.length ≠ 0) : atN r = r.N[r.A.toNat]'(atN_lt h hn) := by
  unfold atN
  rw [List.getElem?_eq_getElem (atN_lt h hn)]
  rfl
theorem atN_mem {r : Rg} (h : ROk r) (hn : r.N.length ≠ 0) : atN r ∈ r.N := by rw [atN_get h hn]; exact List.getElem_mem _
theorem nodup_at {l : List ByteArray} (h : l.Nodup) {i j : Nat} (hi : i < l.length) (hj : j < l.length) (e : l[i] = l[j]) : i = j := by
  rcases Nat.lt_trichotomy i j with q | q | q
  · exact absurd e (List.pairwise_iff_getElem.1 h i j hi hj q)
  · exact q
  · exact absurd e.symm (List.pairwise_iff_getElem.1 h j i hj hi q)
theorem atN_inj {r r' : Rg} (h : ROk r) (h' : ROk r') (hn : r.N.length ≠ 0) (e : r'.N = r.N) (ea : atN r' = atN r) : r'.A = r.A := by
  have hn' : r'.N.length ≠ 0 := by rw [e]; exact hn
  rw [atN_get h hn, atN_get h' hn'] at ea
  have h1 := atN_lt h hn
  have h2 := atN_lt h' hn'
  rw [e] at h2
  have e3 : r.N[r'.A.toNat]'h2 = r.N[r.A.toNat]'h1 := by
    rw [← ea]
    simp only [e]
  have : r'.A.toNat = r.A.toNat := nodup_at h.nd h2 h1 e3
  have := h.a0
  have := h'.a0
  omega
/-- the mark at the hand is off where the hand has stopped -/
def offAt (r : Rg) : Prop := r.U[r.A.toNat]? = some false
theorem tn_off {r : Rg} (h : ROk r) (hn : r.N.length ≠ 0) : offAt (tn r) := (tn_ok h hn).2.1.off
theorem tn_stay {r : Rg} (h : offAt r) (h0 : 0 ≤ r.A) : tn r = r := by
  unfold tn
  have e : turned r = (r.U, r.A.toNat) := by
    unfold turned
    exact turn_stop (by unfold offAt at h; rw [h]; simp)
  rw [e]
  obtain ⟨N, U, A⟩ := r
  simp at h0
  simp
  omega
/-- who came round to the same place passed all: no mark is left -/
theorem tn_round {r : Rg} (h : ROk r) (hn : r.N.length ≠ 0) {b : Nat} (hb : b < r.N.length) (hob : r.U[b]? = some false) (ha : r.A = ((b : Int) + 1) % (r.N.length : Int)) (he : (tn r).A = (b : Int)) : ∀ j, j < r.N.length → (tn r).U[j]? = some false := by
  have hA0 := h.a0
  have haN : r.A.toNat = (b + 1) % r.N.length := by
    rw [ha]
    have : ((b : Int) + 1) % (r.N.length : Int) = (((b + 1) % r.N.length : Nat) : Int) := by simp
    rw [this, Int.toNat_natCast]
  have hlt : r.A.toNat < r.N.length := atN_lt h hn
  obtain ⟨k, g, e, ho⟩ := turn_gone (U0 := r.U) hlt (r.U.count true) r.U 0 rfl ⟨Nat.zero_le _, fun m hm => by omega, fun j => ⟨fun z => ⟨z, fun m hm => by omega⟩, fun z => z.1⟩⟩
  rw [Nat.add_zero, Nat.mod_eq_of_lt hlt] at g e ho
  have hlen : (tn r).U.length = r.N.length := by show (turned r).1.length = _; rw [← h.us]; exact turn_len _ _ _ _
  have eb : (r.A.toNat + k) % r.N.length = b := by
    have : ((turned r).2 : Int) = (b : Int) := he
    have e' : (turned r).2 = (r.A.toNat + k) % r.N.length := e
    omega
  intro j hj
  have hnt : (tn r).U[j]? ≠ some true := fun z => by
    have z2 := (g.iff j).1 z
    by_cases hjb : j = b
    · rw [hjb, hob] at z2; exact absurd z2.1 (by simp)
    · obtain ⟨m, hm, em⟩ := mod_reach hlt hj
      refine z2.2 m ?_ em
      rcases Nat.lt_or_ge m k with q | q
      · exact q
      · exfalso
        have hl : 0 < r.N.length := by omega
        have hkn := g.le
        rw [mod2 (by omega)] at em eb
        rw [mod2 (by omega)] at haN
        split at em <;> split at eb <;> split at haN <;> omega
  rw [List.getElem?_eq_getElem (by omega)] at hnt ⊢
  cases hx : (tn r).U[j]'(by omega) with
  | false => rfl
  | true => rw [hx] at hnt; exact absurd rfl hnt
/-- with two names at least, three turns do -/
theorem tnBut_done {r : Rg} (h : ROk r) (hn : 2 ≤ r.N.length) (ho : offAt r) (but : ByteArray) : ∀ f, 2 ≤ f → ROk (tnBut but f r) ∧ (tnBut but f r).N = r.N ∧ atN (tnBut but f r) ≠ but ∧ tnBut but f r = tnBut but 2 r := by
  intro f hf
  obtain ⟨f, rfl⟩ : ∃ g, f = g + 2 := ⟨f - 2, by omega⟩
  have hn0 : r.N.length ≠ 0 := by omega
  have stop : ∀ (g : Nat) (x : Rg), atN x ≠ but → tnBut but g x = x := fun g x hx => by
    cases g with
    | zero => rfl
    | succ g => simp only [tnBut, if_neg hx]
  by_cases e1 : atN r = but
  · have s1 : ∀ g, tnBut but (g + 1) r = tnBut but g (tn (nx r)) := fun g => by simp only [tnBut, if_pos e1]
    have h2 := nx_ok h hn0
    have hn2 : (nx r).N.length ≠ 0 := hn0
    obtain ⟨h3, st3, e3N⟩ := tn_ok h2 hn2
    rw [show f + 2 = (f + 1) + 1 by omega, s1, show (2 : Nat) = 1 + 1 by omega, s1]
    by_cases e2 : atN (tn (nx r)) = but
    · have hA : (tn (nx r)).A = r.A := atN_inj h h3 hn0 (by rw [e3N]; rfl) (e2.trans e1.symm)
      have hb := atN_lt h hn0
      have ha0 := h.a0
      have hall := tn_round h2 hn2 (b := r.A.toNat) hb ho (by show (r.A + 1) % (r.N.length : Int) = _; rw [Int.toNat_of_nonneg ha0]; rfl) (by rw [hA]; omega)
      have h4 := nx_ok h3 (by rw [e3N]; exact hn2)
      have h4A : (nx (tn (nx r))).A = (r.A + 1) % (r.N.length : Int) := by
        show ((tn (nx r)).A + 1) % (((tn (nx r)).N.length : Nat) : Int) = _
        rw [hA, e3N]
        rfl
      have h4l : (nx (tn (nx r))).A.toNat < r.N.length := by
        have := atN_lt h4 (by show (tn (nx r)).N.length ≠ 0; rw [e3N]; exact hn2)
        have e : (nx (tn (nx r))).N = r.N := by show (tn (nx r)).N = _; rw [e3N]; rfl
        rw [e] at this
        exact this
      have off4 : offAt (nx (tn (nx r))) := hall _ h4l
      have st : tn (nx (tn (nx r))) = nx (tn (nx r)) := tn_stay off4 h4.a0
      have hne : atN (nx (tn (nx r))) ≠ but := fun q => by
        have e5 := atN_inj h h4 hn0 (by show (tn (nx r)).N = _; rw [e3N]; rfl) (q.trans e1.symm)
        rw [h4A] at e5
        have h1 := h.a1
        by_cases q2 : r.A + 1 < (r.N.length : Int)
        · rw [Int.emod_eq_of_lt (by omega) q2] at e5; omega
        · have : r.A + 1 = (r.N.length : Int) := by omega
          rw [this, Int.emod_self] at e5
          omega
      have s2 : ∀ g, tnBut but (g + 1) (tn (nx r)) = nx (tn (nx r)) := fun g => by
        simp only [tnBut, if_pos e2]
        rw [st]
        exact stop _ _ hne
      rw [show (1 : Nat) = 0 + 1 by omega, s2, s2]
      exact ⟨h4, by show (tn (nx r)).N = _; rw [e3N]; rfl, hne, rfl⟩
    · rw [stop _ _ e2, stop _ _ e2]
      exact ⟨h3, by rw [e3N]; rfl, e2, rfl⟩
  · rw [stop _ _ e1, stop _ _ e1]
    exact ⟨h, rfl, e1, rfl⟩
end Go.Proofs.Ytapchjkiiifhdaa.rg
/- Rows of integers in memory, and what the operations on whole arrays do to them. -/
namespace Go.Proofs.Ytapchjkiiifhdaa.sk
open Go.ChangeShapes Go.WideShapes Go.ChangeAt Go.RowKit
set_option linter.unusedVariables false

/-- integers as cells -/
def ints (xs : List Int) : List Value := xs.map (Value.int .i64)
abbrev arr (xs : List Int) : Value := .agg (ints xs).toArray
theorem ints_len (xs : List Int) : (ints xs).length = xs.length := by simp [ints]
theorem ints_size (xs : List Int) : (ints xs).toArray.size = xs.length := by simp [ints]
theorem ints_get (xs : List Int) (i : Nat) : (ints xs)[i]? = xs[i]?.map (Value.int .i64) := by simp [ints]
theorem ints_one (xs : List Int) : ∀ v ∈ ints xs, v.oneCell' = true := by
  intro v hv
  obtain ⟨x, -, rfl⟩ := List.mem_map.1 hv
  rfl
theorem ints_set (xs : List Int) (i : Nat) (x : Int) : (ints xs).set i (.int .i64 x) = ints (xs.set i x) := by simp [ints, List.map_set]

/-- block b is a row of integers, not frozen -/
def Blk (w : World) (b : Nat) (t : TypeId) (xs : List Int) : Prop := w.heap[b]? = some (.cells (ints xs).toArray t (0, 0))

theorem Blk.range {w : World} {b : Nat} {t : TypeId} {xs : List Int} (h : Blk w b t xs) (o : Nat) : w.rangeAt b o (ints (xs.drop o)) := fun j v hv => by
  rw [cell_of_row _ _ _ _ _ _ h]
  rw [ints_get, List.getElem?_drop] at hv
  simpa [ints] using hv
theorem Blk.range0 {w : World} {b : Nat} {t : TypeId} {xs : List Int} (h : Blk w b t xs) : w.rangeAt b 0 (ints xs) := by
  have := h.range 0
  simpa using this
theorem Blk.there {w : World} {b : Nat} {t : TypeId} {xs : List Int} (h : Blk w b t xs) (o n : Nat) (hn : o + n ≤ xs.length) : w.there b o n := fun j hj =>
  ⟨by rw [cell_of_row _ _ _ _ _ _ h]; simp [ints]; omega, frozen_of_row _ _ _ _ _ h⟩
theorem Blk.frozen {w : World} {b : Nat} {t : TypeId} {xs : List Int} (h : Blk w b t xs) (j : Nat) : w.frozen? ⟨b, j, none⟩ = false := frozen_of_row _ _ _ _ _ h
theorem Blk.cell {w : World} {b : Nat} {t : TypeId} {xs : List Int} (h : Blk w b t xs) (j : Nat) (hj : j < xs.length) : w.cell? ⟨b, j, none⟩ = some (.int .i64 xs[j]) := by
  rw [cell_of_row _ _ _ _ _ _ h]; simp [ints, hj]
theorem Blk.lt {w : World} {b : Nat} {t : TypeId} {xs : List Int} (h : Blk w b t xs) : b < w.heap.size := (Array.getElem?_eq_some_iff.1 h).1
theorem Blk.set {w : World} {b : Nat} {t : TypeId} {xs : List Int} (h : Blk w b t xs) (i : Nat) (x : Int) : Blk (w.setCell ⟨b, i, none⟩ (.int .i64 x)) b t (xs.set i x) := by
  unfold Blk
  rw [heap_setCell_same w b i _ t _ h]
  simp [← ints_set]
theorem Blk.of {w w' : World} {b : Nat} {t : TypeId} {xs : List Int} (h : Blk w b t xs) (e : w'.heap[b]? = w.heap[b]?) : Blk w' b t xs := by
  unfold Blk; rw [e]; exact h
theorem Blk.new (w : World) (t : TypeId) (xs : List Int) : Blk (w.alloc (.cells (ints xs).toArray t)) w.heap.size t xs := heap_alloc_new _ _
theorem Blk.alloc {w : World} {b : Nat} {t : TypeId} {xs : List Int} (h : Blk w b t xs) (o : Obj) : Blk (w.alloc o) b t xs := h.of (Below.heap_alloc _ _ _ h.lt)
theorem Blk.drew {w : World} {b : Nat} {t : TypeId} {xs : List Int} (h : Blk w b t xs) : Blk w.drew b t xs := h
theorem Blk.below {w w' : World} {B b : Nat} {t : TypeId} {xs : List Int} (h : Blk w b t xs) (hb : Below B w w') (hlt : b < B) : Blk w' b t xs := h.of (hb.block b hlt)


section laws
variable {P : Program} {ops : Array Oper} {rest : List Oper} {o : Oper} {a : Act} {w : World} {Q : Exit → Act → World → Prop}

theorem wpList_val (hgd : o.guard = none) {v : Value} {w' : World} (hr : (execOp a.eval o).run P w = .ok (.value v) w') (h : wpList P ops Q rest (a.put o.dst v) w') : wpList P ops Q (o :: rest) a w :=
  wpList_plain hgd fun K hK => by unfold Oper.wp; rw [hr]; exact hK _ _ h
theorem wpList_act (hgd : o.guard = none) {w' : World} (hr : (execOp a.eval o).run P w = .ok .skip w') (h : wpList P ops Q rest (a.put o.dst undef) w') : wpList P ops Q (o :: rest) a w :=
  wpList_plain hgd fun K hK => by unfold Oper.wp; rw [hr]; exact hK _ _ h

/-- a new variable that holds an array -/
theorem wpList_box_arr (hgd : o.guard = none) (t : TypeId) (x : Operand) (ho : o.op = .box t x) (xs : List Int) (hx : a.eval x = arr xs)
    (h : ∀ (b : Nat) (w' : World), w.heap.size ≤ b → b < w'.heap.size → Below w.heap.size w w' → Blk w' b t xs → wpList P ops Q rest (a.put o.dst (.pointer (some ⟨b, 0, none⟩))) w') : wpList P ops Q (o :: rest) a w := by
  refine wpList_val hgd (v := .pointer (some ⟨w.heap.size, 0, none⟩)) (w' := w.alloc (.cells (ints xs).toArray t)) ?_ (h _ _ (Nat.le_refl _) (by simp) ((Below.refl _ _).alloc (Nat.le_refl _) _) (Blk.new _ _ _))
  unfold execOp
  simp only [ho, hx]
  rfl
/-- a new array, all zero -/
theorem wpList_alloc_arr (hgd : o.guard = none) (t : TypeId) (ho : o.op = .alloc t) (xs : List Int) (hz : ∀ w, (zeroValue t).run P w = .ok (arr xs) w)
    (h : ∀ (b : Nat) (w' : World), w.heap.size ≤ b → b < w'.heap.size → Below w.heap.size w w' → Blk w' b t xs → wpList P ops Q rest (a.put o.dst (.pointer (some ⟨b, 0, none⟩))) w') : wpList P ops Q (o :: rest) a w := by
  refine wpList_val hgd (v := .pointer (some ⟨w.heap.size, 0, none⟩)) (w' := w.alloc (.cells (ints xs).toArray t)) ?_ (h _ _ (Nat.le_refl _) (by simp) ((Below.refl _ _).alloc (Nat.le_refl _) _) (Blk.new _ _ _))
  unfold execOp
  simp only [ho, Instr.alloc, Sem.run_bind, hz, Result.andThen_ok]
  rfl

theorem ints_drop_take (xs : List Int) (k n : Nat) : ints ((xs.drop k).take n) = ((ints xs).drop k).take n := by simp [ints]
theorem range_take {w : World} {b o : Nat} {xs : List Int} (h : w.rangeAt b o (ints xs)) (n : Nat) : w.rangeAt b o (ints (xs.take n)) := fun j v hv => by
  refine h j v ?_
  simp only [ints, List.map_take] at hv
  rw [List.getElem?_take] at hv
  split at hv
  · exact hv
  · cases hv

/-- an array is loaded out of a row -/
theorem wpList_load_arr (hgd : o.guard = none) (t : TypeId) (x : Operand) (ho : o.op = .load t x) (b k n : Nat) (hx : a.eval x = .pointer (some ⟨b, k, none⟩)) (d : TypeDesc) (hu : P.underlying t = some d) (hd : d.isRow = true)
    (hi : (P.info? t).map (·.size) = some n) {t' : TypeId} {xs : List Int} (hb : Blk w b t' xs) (hn : k + n ≤ xs.length) (ys : List Int) (hys : ys = (xs.drop k).take n)
    (h : wpList P ops Q rest (a.put o.dst (arr ys)) w) : wpList P ops Q (o :: rest) a w := by
  subst hys
  exact wpList_load_mid hgd t x ho b k hx (ints ((xs.drop k).take n)) d (range_take (hb.range k) n) hu hd (by rw [hi, ints_len]; simp; omega) h

/-- what a row holds behind a store of a piece -/
def put (xs ys : List Int) (k : Nat) : List Int := xs.take k ++ ys ++ xs.drop (k + ys.length)
theorem put_len (xs ys : List Int) (k : Nat) (h : k + ys.length ≤ xs.length) : (put xs ys k).length = xs.length := by simp [put]; omega
theorem put_all (xs ys : List Int) (h : xs.length = ys.length) : put xs ys 0 = ys := by simp [put, ← h]

theorem heap_setCells (b : Nat) (t : TypeId) : ∀ (vs : List Value) (k : Nat) (w : World) (cs : List Value), w.heap[b]? = some (.cells cs.toArray t (0, 0)) → k + vs.length ≤ cs.length →
    (w.setCells b k vs).heap[b]? = some (.cells (cs.take k ++ vs ++ cs.drop (k + vs.length)).toArray t (0, 0))
  | [], k, w, cs, h, hk => by simpa [World.setCells] using h
  | v :: r, k, w, cs, h, hk => by
    have h1 := heap_setCell_same w b k cs.toArray t v h
    have hk' : k < cs.length := by simp at hk; omega
    have ih := heap_setCells b t r (k + 1) (w.setCell ⟨b, k, none⟩ v) (cs.set k v) (by rw [h1]; simp) (by simp at hk ⊢; omega)
    rw [World.setCells, ih]
    congr 3
    rw [List.take_succ_eq_append_getElem (by simpa using hk'), List.getElem_set_self, List.take_set_of_le (Nat.le_refl _), List.drop_set_of_lt (by omega)]
    simp [Nat.add_comm, Nat.add_left_comm]
theorem heap_setCells_other (b : Nat) : ∀ (vs : List Value) (k : Nat) (w : World) (j : Nat), j ≠ b → (w.setCells b k vs).heap[j]? = w.heap[j]?
  | [], _, _, _, _ => rfl
  | v :: r, k, w, j, h => by rw [World.setCells, heap_setCells_other b r (k + 1) _ j h]; exact Below.heap_setCell _ _ _ _ h
theorem meta_setCells (b : Nat) : ∀ (vs : List Value) (k : Nat) (w : World), (w.setCells b k vs).os = w.os ∧ (w.setCells b k vs).tape = w.tape ∧ (w.setCells b k vs).output = w.output ∧ (w.setCells b k vs).heap.size = w.heap.size
  | [], _, _ => ⟨rfl, rfl, rfl, rfl⟩
  | v :: r, k, w => by
    rw [World.setCells]
    have ih := meta_setCells b r (k + 1) (w.setCell ⟨b, k, none⟩ v)
    exact ⟨ih.1, ih.2.1, ih.2.2.1, by rw [ih.2.2.2]; simp⟩
theorem below_setCells {B b : Nat} (w : World) (hb : B ≤ b) (vs : List Value) (k : Nat) : Below B w (w.setCells b k vs) :=
  have m := meta_setCells b vs k w
  ⟨m.1, m.2.1, m.2.2.1, by rw [m.2.2.2]; exact Nat.le_refl _, fun j hj => heap_setCells_other b vs k w j (by omega)⟩
theorem Blk.setCells {w : World} {b : Nat} {t : TypeId} {xs : List Int} (h : Blk w b t xs) (ys : List Int) (k : Nat) (hk : k + ys.length ≤ xs.length) : Blk (w.setCells b k (ints ys)) b t (put xs ys k) := by
  unfold Blk
  rw [heap_setCells b t (ints ys) k w (ints xs) h (by simpa [ints_len] using hk)]
  simp [ints, put]

/-- only block b is turned -/
def Only (b : Nat) (w w' : World) : Prop := w'.heap.size = w.heap.size ∧ (∀ j, j ≠ b → w'.heap[j]? = w.heap[j]?) ∧ ∀ B, B ≤ b → Below B w w'
theorem only_setCells (w : World) (b : Nat) (vs : List Value) (k : Nat) : Only b w (w.setCells b k vs) := ⟨(meta_setCells b vs k w).2.2.2, heap_setCells_other b vs k w, fun B hB => below_setCells w hB vs k⟩

/-- an array is stored into a row -/
theorem wpList_store_arr (hgd : o.guard = none) (t : TypeId) (x y : Operand) (ho : o.op = .store t x y) (b k : Nat) (ys : List Int) (hx : a.eval x = .pointer (some ⟨b, k, none⟩)) (hy : a.eval y = arr ys)
    (hi : (P.info? t).map (·.size) = some ys.length) {t' : TypeId} {xs : List Int} (hb : Blk w b t' xs) (hn : k + ys.length ≤ xs.length)
    (h : ∀ w', Only b w w' → Blk w' b t' (put xs ys k) → wpList P ops Q rest (a.put o.dst undef) w') : wpList P ops Q (o :: rest) a w := by
  refine wpList_store_mid hgd t x y ho b k (ints ys).toArray hx hy ?_ (by rw [hi, ints_size]) (all_oneCell_toArray (ints_one ys)) ?_
  · rw [ints_size]; exact hb.there k ys.length hn
  · exact h _ (only_setCells _ _ _ _) (hb.setCells ys k hn)
end laws

end Go.Proofs.Ytapchjkiiifhdaa.sk
/- Contracts of the program's rows of counts, which are arrays: each answers as a plain function on lists of 16 integers; only new memory is written. -/
namespace Go.Proofs.Ytapchjkiiifhdaa.sk
open Go.ChangeShapes Go.WideShapes Go.ChangeAt Go.RowKit
set_option linter.unusedVariables false

def bnd (x : Int) : Int := min (max x 0) 15
set_option maxRecDepth 100000 in
theorem size52 : (Try.prog.info? 132).map (·.size) = some 16 := by kernel_rfl
set_option maxRecDepth 100000 in
theorem size54 : (Try.prog.info? 134).map (·.size) = some 64 := by kernel_rfl
set_option maxRecDepth 100000 in
theorem zero52 (w : World) : (zeroValue 132).run Try.prog w = .ok (arr (List.replicate 16 0)) w := Try.zeroValue132 w
set_option maxRecDepth 100000 in
theorem zero54 (w : World) : (zeroValue 134).run Try.prog w = .ok (arr (List.replicate 64 0)) w := Try.zeroValue134 w

set_option maxRecDepth 100000 in
theorem all16 {xs : List Int} (hx : xs.length = 16) : xs = (xs.drop 0).take 16 := by simp [← hx]
set_option maxRecDepth 100000 in
theorem all64 {xs : List Int} (hx : xs.length = 64) : xs = (xs.drop 0).take 64 := by simp [← hx]

section idx
variable {P : Program} {ops : Array Oper} {rest : List Oper} {o : Oper} {a : Act} {w : World} {Q : Exit → Act → World → Prop}
set_option maxRecDepth 100000 in
theorem wpList_index_int (hgd : o.guard = none) (t : TypeId) (x y : Operand) (ho : o.op = .index t x y) (xs : List Int) (i n : Nat) (hx : a.eval x = arr xs) (hy : a.eval y = .int .i64 i)
    {e : TypeId} (hu : P.underlying t = some (.array n e)) (hz : ∀ w, (sizeOf e).run P w = .ok 1 w) (ha : ∀ w, (isAgg e).run P w = .ok false w) (hi : i < n) (hn : xs.length = n) (z : Int) (hzz : Hid (xs.getD i 0 = z))
    (h : wpList P ops Q rest (a.put o.dst (.int .i64 z)) w) : wpList P ops Q (o :: rest) a w := by
  obtain rfl := hzz.out
  refine wpList_val hgd ?_ h
  have h1 : (0 : Int) ≤ (i : Int) ∧ (i : Int) < (n : Int) := by omega
  have h2 : (ints xs)[i]? = some (.int .i64 (xs.getD i 0)) := by simp [ints, List.getD_eq_getElem?_getD, hn, hi]
  unfold execOp
  simp [ho, hx, hy, Instr.index, asIntOf, run_underlying hu, part, hz, ha, h2, hi]
set_option maxRecDepth 100000 in
theorem wpList_index_arr (hgd : o.guard = none) (t : TypeId) (x y : Operand) (ho : o.op = .index t x y) (xs : List Int) (i n m : Nat) (hx : a.eval x = arr xs) (hy : a.eval y = .int .i64 i)
    {e : TypeId} (hu : P.underlying t = some (.array n e)) (hz : ∀ w, (sizeOf e).run P w = .ok m w) (ha : ∀ w, (isAgg e).run P w = .ok true w) (hi : i < n) (ys : List Int) (hys : (xs.drop (i * m)).take m = ys)
    (h : wpList P ops Q rest (a.put o.dst (arr ys)) w) : wpList P ops Q (o :: rest) a w := by
  subst hys
  refine wpList_val hgd ?_ h
  have h2 : (ints xs).toArray.extract (i * m) (i * m + m) = (ints ((xs.drop (i * m)).take m)).toArray := by
    simp [ints, List.map_drop, List.map_take]
  unfold execOp
  simp [ho, hx, hy, Instr.index, asIntOf, run_underlying hu, part, hz, ha, hi]
  simpa using h2
end idx

/-- the first i counts are done -/
def upto (f : Int → Int) (xs : List Int) (i : Nat) : List Int := (xs.take i).map f ++ xs.drop i
set_option maxRecDepth 100000 in
theorem upto_len (f : Int → Int) (xs : List Int) (i : Nat) : (upto f xs i).length = xs.length := by simp [upto]; omega
set_option maxRecDepth 100000 in
theorem upto_zero (f : Int → Int) (xs : List Int) : upto f xs 0 = xs := by simp [upto]
set_option maxRecDepth 100000 in
theorem upto_all (f : Int → Int) (xs : List Int) (i : Nat) (h : xs.length ≤ i) : upto f xs i = xs.map f := by
  simp [upto, List.take_of_length_le h, List.drop_eq_nil_of_le h]
set_option maxRecDepth 100000 in
theorem upto_step (f : Int → Int) (xs : List Int) (i : Nat) (h : i < xs.length) : (upto f xs i).set i (f (xs.getD i 0)) = upto f xs (i + 1) := by
  apply List.ext_getElem?
  intro j
  simp only [upto, List.getElem?_set, List.getElem?_append, List.length_map, List.length_take, List.length_append, List.length_drop, List.getElem?_map, List.getElem?_take, List.getElem?_drop]
  have hd : xs.getD i 0 = xs[i] := by simp [List.getD_eq_getElem?_getD, h]
  have hm : min i xs.length = i := by omega
  have hm1 : min (i + 1) xs.length = i + 1 := by omega
  rw [hm, hm1]
  by_cases e : i = j
  · subst e
    rw [if_pos rfl, if_pos (by omega), if_pos (by omega), if_pos (by omega), hd]
    simp [h]
  · rw [if_neg e]
    by_cases l : j < i
    · rw [if_pos l, if_pos l, if_pos (by omega), if_pos (by omega)]
    · rw [if_neg l, if_neg (by omega), show i + (j - i) = i + 1 + (j - (i + 1)) by omega]

set_option maxRecDepth 100000 in
theorem bnd_if (x : Int) : (if 15 < if x < 0 then 0 else x then 15 else if x < 0 then 0 else x) = bnd x := by
  unfold bnd
  split <;> split at * <;> omega
set_option maxRecDepth 100000 in
theorem row_ret {fn : Func} {p : Tmp} {ty : TypeId} (h : fn.results = #[.cell p ty]) {R : Ending → World → Prop} {a : Act} {w : World} {b : Nat} {t : TypeId} {xs : List Int} {n : Nat} {e : TypeId}
    (hp : a.tmps.getD p undef = .pointer (some ⟨b, 0, none⟩)) (hb : Blk w b t xs) (hu : Try.prog.underlying ty = some (.array n e))
    (hi : (Try.prog.info? ty).map (·.size) = some xs.length) (hdf : a.defers = []) (hR : R (.returned (arr xs)) w) : bodyPost Try.prog fn R .ret a w :=
  bodyPost_ret (results_cell_row h a.tmps w b t _ _ _ hp hb hu rfl (by rw [hi, ints_size])) hdf hR

set_option maxRecDepth 100000 in
/-- the two functions that go along a row, each count by itself -/
theorem bounded_any (xs : List Int) (hx : xs.length = 16) (w : World) :
    Calls Try.prog 185 #[arr xs] w fun e w' => e = .returned (arr (xs.map bnd)) ∧ Below w.heap.size w w' := by
  go_enter Try.func185, Try.ntmps185
  go_wp2_with (first | (refine wpList_box_arr rfl 132 _ rfl xs rfl ?_; intro b w1 hb hw1 hB1 hK1) | (refine wpList_alloc_arr rfl 132 rfl _ zero52 ?_; intro b2 w2 hb2 hw2 hB2 hK2; replace hK1 := hK1.below hB2 hw1) | (refine wpList_load_arr rfl 132 _ rfl b 0 16 rfl _ Try.underlying132 rfl size52 hK1 (by omega) xs (all16 hx) ?_))
  have hB : Below w.heap.size w w2 := hB1.trans (hB2.mono hB1.size)
  have hne : b2 ≠ b := by omega
  go_loopw [6] (fun v wr => ∃ i : Nat, i ≤ 16 ∧ v = .int .i64 i ∧ Blk wr b 132 (upto bnd xs i) ∧ Blk wr b2 132 (List.replicate 16 0) ∧ Below w.heap.size w wr) (fun v _ => 16 - (intOf v).toNat)
  case atStart => exact ⟨0, by omega, rfl, by rw [upto_zero]; exact hK1, hK2, hB⟩
  case round =>
    obtain ⟨i, hi, rfl, hb1, hb2', hBr⟩ := hrel
    by_cases hlt : i < 16
    · have hc := hb1.cell i (by rw [upto_len]; omega)
      have hf := hb1.frozen i
      obtain ⟨z, hz⟩ : ∃ z, Hid (xs.getD i 0 = z) := ⟨_, rfl⟩
      go_wp2_with (first | (refine wpList_index_int rfl 132 _ _ rfl xs i 16 rfl rfl Try.underlying132 Try.sizeOf2 Try.isAgg2 hlt hx z hz ?_))
      go_roundw
      case rel =>
        rw [bnd_if]
        refine ⟨i + 1, by omega, by go_num, ?_, hb2'.of (heap_setCell_other _ _ _ _ hne), hBr.setCell hb _⟩
        rw [← upto_step bnd xs i (by omega), hz.out]
        exact hb1.set i _
      case measure => simp [intOf]; omega
    · obtain rfl : i = 16 := by omega
      rw [upto_all _ _ _ (by omega)] at hb1
      have hlen : (xs.map bnd).length = 16 := by simp [hx]
      go_wp2_with (first | (refine wpList_load_arr rfl 132 _ rfl b 0 16 rfl _ Try.underlying132 rfl size52 hb1 (by omega) (xs.map bnd) (all16 hlen) ?_) | (refine wpList_store_arr rfl 132 _ _ rfl b2 0 (xs.map bnd) rfl rfl (by rw [hlen]; exact size52) hb2' (by rw [hlen]; simp) ?_; intro w3 hO3 hK3; rw [put_all _ _ (by rw [hlen]; simp)] at hK3))
      refine row_ret rfl rfl hK3 Try.underlying132 (by rw [hlen]; exact size52) rfl ⟨rfl, hBr.trans (hO3.2.2 _ (by omega))⟩


set_option maxRecDepth 100000 in
theorem run_eqItems_ints {P : Program} (w : World) (d : Nat) {e : TypeId} (hu : P.underlying e = some (.int .i64)) (xs ys : List Int) : ∀ (is : List Nat), (∀ i ∈ is, i < xs.length ∧ i < ys.length) →
    (Op.eqItems (d + 1) e 1 (ints xs).toArray (ints ys).toArray is).run P w = .ok (is.all fun i => xs.getD i 0 == ys.getD i 0) w
  | [], _ => by simp [Op.eqItems]
  | i :: is, h => by
    have h0 := h i (by simp)
    have ih := run_eqItems_ints w d hu xs ys is (fun j hj => h j (by simp [hj]))
    have ha : (isAgg e).run P w = .ok false w := by unfold isAgg; rw [Sem.run_bind, run_underlying hu w]; rfl
    have p1 : (part e (ints xs).toArray (i * 1)).run P w = .ok (.int .i64 (xs.getD i 0)) w := by
      simp [part, ha, ints, h0.1]
    have p2 : (part e (ints ys).toArray (i * 1)).run P w = .ok (.int .i64 (ys.getD i 0)) w := by
      simp [part, ha, ints, h0.2]
    have p3 : (Op.equalIn (d + 1) e (.int .i64 (xs.getD i 0)) (.int .i64 (ys.getD i 0))).run P w = .ok (xs.getD i 0 == ys.getD i 0) w := by
      simp [Op.equalIn, run_underlying hu]
    simp only [Op.eqItems, Sem.run_bind, p1, p2, p3, Result.andThen_ok, List.all_cons]
    cases hc : (xs.getD i 0 == ys.getD i 0)
    · simp
    · simpa [hc] using ih
set_option maxRecDepth 100000 in
theorem all_eq (xs ys : List Int) (n : Nat) (hx : xs.length = n) (hy : ys.length = n) : ((List.range n).all fun i => xs.getD i 0 == ys.getD i 0) = decide (xs = ys) := by
  rw [Bool.eq_iff_iff]
  simp only [List.all_eq_true, List.mem_range, beq_iff_eq, decide_eq_true_eq]
  constructor
  · intro h
    apply List.ext_getElem (by omega)
    intro i h1 h2
    have := h i (by omega)
    simpa [List.getD_eq_getElem?_getD, h1, h2] using this
  · rintro rfl i _; rfl
set_option maxRecDepth 100000 in
theorem cells2 : Try.prog.cellsOf 2 = 1 := by kernel_rfl
set_option maxRecDepth 100000 in
theorem equal52 (xs ys : List Int) (hx : xs.length = 16) (hy : ys.length = 16) (w : World) : (Op.equal 132 (arr xs) (arr ys)).run Try.prog w = .ok (decide (xs = ys)) w := by
  obtain ⟨i, hi⟩ := info_of_underlying Try.underlying2
  show (Op.equalIn (9999 + 1) _ _ _).run Try.prog w = _
  rw [run_equalIn_array w 9999 _ _ Try.underlying132 hi, cells2, run_eqItems_ints w 9998 Try.underlying2 xs ys _ (fun j hj => by simp at hj; omega), all_eq xs ys 16 hx hy]

set_option maxRecDepth 100000 in
theorem right_any (xs : List Int) (hx : xs.length = 16) (w : World) :
    Calls Try.prog 173 #[arr xs] w fun e w' => e = .returned (.bool (decide (xs = xs.map bnd))) ∧ Below w.heap.size w w' := by
  have heq := equal52 xs (xs.map bnd) hx (by simp [hx])
  have hu := Try.underlying132
  have hi : (Try.prog.info? 132).map (·.size) = some (ints xs).length := by rw [ints_len, hx]; exact size52
  have hl : (ints xs).length = 16 := by rw [ints_len, hx]
  have h1 := ints_one xs
  go_enter Try.func173, Try.ntmps173
  go_wp2_with (first | (refine wpList_box_arr rfl 132 _ rfl xs rfl ?_; intro b w1 hb hw1 hB1 hK1))
  refine wp_region_held_drew (S := fun w' => w'.rangeAt b 0 (ints xs) ∧ Below w.heap.size w w') (by kernel_rfl) ⟨hK1.drew.range0, hB1.drew⟩ (fun hHeld => ?_)
  refine wpAnyH_take (i := 0) (v := arr xs) rfl (by kernel_rfl) (by kernel_rfl) (by kernel_rfl) (fun _ _ _ h => h) (yieldsIf_load_mid rfl _ _ rfl b 0 rfl (ints xs) _ (fun w h => h.1) hu rfl hi) hHeld ?_
  refine wpAnyH_take (i := 1) (v := arr xs) rfl (by kernel_rfl) (by kernel_rfl) (by kernel_rfl) (fun _ _ _ h => h) (yieldsIf_load_mid rfl _ _ rfl b 0 rfl (ints xs) _ (fun w h => h.1) hu rfl hi) hHeld ?_
  refine wpAnyH_ready (rs := [2]) (by kernel_rfl) (by simp) ?_
  refine AllReadyH.cons rfl (fun K hK => ?_) AllReadyH.nil
  go_simp
  go_at_call 185
  refine (bounded_any xs hx _).mono ?_
  rintro e w2 ⟨rfl, hB2⟩
  have hS2 : w2.rangeAt b 0 (ints xs) ∧ Below w.heap.size w w2 := ⟨(hK1.drew.below hB2 hw1).range0, hHeld.2.trans (hB2.mono hB1.size)⟩
  refine hK.out _ _ hS2 (fun _ => ?_)
  refine wpAnyH_take (i := 3) (v := .bool (decide (xs = xs.map bnd))) rfl (by kernel_rfl) (by kernel_rfl) (by kernel_rfl) (fun _ _ _ h => h) (.inl ⟨rfl, fun w h => ?_⟩) hS2 ?_
  · unfold execOp
    simp [Act.eval, eqGuard, binOp, equal52 xs (xs.map bnd) hx (by simp [hx])]
  refine wpAnyH_take (i := 4) (v := .bool (decide (xs = xs.map bnd))) rfl (by kernel_rfl) (by kernel_rfl) (by kernel_rfl) (fun _ _ _ h => h) (.inl ⟨rfl, fun w h => ?_⟩) hS2 ?_
  · unfold execOp
    simp [Act.eval, Act.put]
  refine wpAnyH_done (by kernel_rfl) ?_ _
  change Exit.then _ _ Exit.normal { tmps := #[arr xs, .pointer (some ⟨b, 0, none⟩), .bool (decide (xs = xs.map bnd)), arr xs, arr xs, arr (xs.map bnd), .bool (decide (xs = xs.map bnd))], defers := [] } w2
  go_wp2
  go_ret
  exact ⟨rfl, hS2.2⟩


set_option maxRecDepth 100000 in
theorem set_lt {xs : List Int} (p : Nat) (x : Int) : (xs.set p x).length = xs.length := by simp
def raise (xs : List Int) (p : Nat) : List Int := (xs.set p (xs.getD p 0 + 1)).map bnd
set_option maxRecDepth 100000 in
theorem raise_len (xs : List Int) (p : Nat) : (raise xs p).length = xs.length := by simp [raise]
set_option maxRecDepth 100000 in
theorem raised_any (xs : List Int) (hx : xs.length = 16) (hr : ∀ x ∈ xs, 0 ≤ x ∧ x ≤ 15) (p : Nat) (hp : p < 16) (w : World) :
    Calls Try.prog 143 #[arr xs, .int .i64 p] w fun e w' => e = .returned (arr (raise xs p)) ∧ Below w.heap.size w w' := by
  have hp' : p < xs.length := by omega
  obtain ⟨z, hz0⟩ : ∃ z, xs[p] = z := ⟨_, rfl⟩
  have hz : Hid (xs[p] = z) := hz0
  clear hz0
  have hz2 : Hid (xs.getD p 0 = z) := by unfold Hid; rw [← hz.out]; simp [List.getD_eq_getElem?_getD, hp']
  have hzb : 0 ≤ z ∧ z ≤ 15 := by rw [← hz.out]; exact hr _ (List.getElem_mem hp')
  have hl1 : (xs.set p (z + 1)).length = 16 := by simp [hx]
  have hl2 : (raise xs p).length = 16 := by rw [raise_len, hx]
  have hra : Hid ((xs.set p (z + 1)).map bnd = raise xs p) := by unfold Hid raise; rw [hz2.out]
  go_enter Try.func143, Try.ntmps143
  go_wp2_with (first | (refine wpList_box_arr rfl 132 _ rfl xs rfl ?_; intro b w1 hb hw1 hB1 hK1) | (refine wpList_alloc_arr rfl 132 rfl _ zero52 ?_; intro b2 w2 hb2 hw2 hB2 hK2; replace hK1 := hK1.below hB2 hw1; have hc := hK1.cell p hp'; rw [hz.out] at hc; have hf := hK1.frozen p; have hK3 := hK1.set p (z + 1); have hne : b2 ≠ b := (by omega); have hK4 : Blk (w2.setCell ⟨b, p, none⟩ (.int .i64 (z + 1))) b2 132 _ := hK2.of (heap_setCell_other _ _ _ _ hne); clear hK1 hK2) | (refine wpList_load_arr rfl 132 _ rfl b 0 16 rfl _ Try.underlying132 rfl size52 hK3 (by omega) _ (all16 hl1) ?_) | (go_at_call 185; refine (bounded_any _ hl1 _).mono ?_; rintro e w5 ⟨he, hB5⟩; rw [hra.out] at he; subst he; replace hK4 := hK4.below hB5 (by simpa using hw2)) | (refine wpList_store_arr rfl 132 _ _ rfl b2 0 (raise xs p) rfl rfl (by rw [hl2]; exact size52) hK4 (by rw [hl2]; simp) ?_; intro w6 hO6 hK6; rw [put_all _ _ (by rw [hl2]; simp)] at hK6))
  refine row_ret rfl rfl hK6 Try.underlying132 (by rw [hl2]; exact size52) rfl ⟨rfl, ?_⟩
  have hB : Below w.heap.size w w2 := hB1.trans (hB2.mono hB1.size)
  exact ((hB.setCell hb _).trans (hB5.mono (by simpa using hB.size))).trans (hO6.2.2 _ (by omega))

def half (x : Int) : Int := x / 2
set_option maxRecDepth 100000 in
theorem halved_any (xs : List Int) (hx : xs.length = 16) (hr : ∀ x ∈ xs, 0 ≤ x ∧ x ≤ 15) (w : World) :
    Calls Try.prog 186 #[arr xs] w fun e w' => e = .returned (arr (xs.map half)) ∧ Below w.heap.size w w' := by
  go_enter Try.func186, Try.ntmps186
  go_wp2_with (first | (refine wpList_box_arr rfl 132 _ rfl xs rfl ?_; intro b w1 hb hw1 hB1 hK1) | (refine wpList_alloc_arr rfl 132 rfl _ zero52 ?_; intro b2 w2 hb2 hw2 hB2 hK2; replace hK1 := hK1.below hB2 hw1) | (refine wpList_load_arr rfl 132 _ rfl b 0 16 rfl _ Try.underlying132 rfl size52 hK1 (by omega) xs (all16 hx) ?_))
  have hB : Below w.heap.size w w2 := hB1.trans (hB2.mono hB1.size)
  have hne : b2 ≠ b := by omega
  go_loopw [6] (fun v wr => ∃ i : Nat, i ≤ 16 ∧ v = .int .i64 i ∧ Blk wr b 132 (upto half xs i) ∧ Blk wr b2 132 (List.replicate 16 0) ∧ Below w.heap.size w wr) (fun v _ => 16 - (intOf v).toNat)
  case atStart => exact ⟨0, by omega, rfl, by rw [upto_zero]; exact hK1, hK2, hB⟩
  case round =>
    obtain ⟨i, hi, rfl, hb1, hb2', hBr⟩ := hrel
    by_cases hlt : i < 16
    · have hc := hb1.cell i (by rw [upto_len]; omega)
      have hf := hb1.frozen i
      obtain ⟨z, hz⟩ : ∃ z, Hid (xs.getD i 0 = z) := ⟨_, rfl⟩
      have hzb : 0 ≤ z ∧ z ≤ 15 := by rw [← hz.out]; exact hr _ (by rw [List.getD_eq_getElem?_getD, List.getElem?_eq_getElem (by omega : i < xs.length)]; exact List.getElem_mem _)
      go_wp2_with (first | (refine wpList_index_int rfl 132 _ _ rfl xs i 16 rfl rfl Try.underlying132 Try.sizeOf2 Try.isAgg2 hlt hx z hz ?_))
      go_roundw
      case rel =>
        refine ⟨i + 1, by omega, by go_num, ?_, hb2'.of (heap_setCell_other _ _ _ _ hne), hBr.setCell hb _⟩
        rw [← upto_step half xs i (by omega), hz.out]
        exact hb1.set i _
      case measure => simp [intOf]; omega
    · obtain rfl : i = 16 := by omega
      rw [upto_all _ _ _ (by omega)] at hb1
      have hlen : (xs.map half).length = 16 := by simp [hx]
      go_wp2_with (first | (refine wpList_load_arr rfl 132 _ rfl b 0 16 rfl _ Try.underlying132 rfl size52 hb1 (by omega) (xs.map half) (all16 hlen) ?_) | (refine wpList_store_arr rfl 132 _ _ rfl b2 0 (xs.map half) rfl rfl (by rw [hlen]; exact size52) hb2' (by rw [hlen]; simp) ?_; intro w3 hO3 hK3; rw [put_all _ _ (by rw [hlen]; simp)] at hK3))
      refine row_ret rfl rfl hK3 Try.underlying132 (by rw [hlen]; exact size52) rfl ⟨rfl, hBr.trans (hO3.2.2 _ (by omega))⟩

end Go.Proofs.Ytapchjkiiifhdaa.sk
/- Slices of rows of integers in memory: how one is read, how one that a call made is owned, and what keeps them. -/
namespace Go.Proofs.Ytapchjkiiifhdaa.sk
open Go.ChangeShapes Go.WideShapes Go.ChangeAt Go.RowKit
set_option linter.unusedVariables false

/-- the blocks from lo up to hi are as they were -/
def Same (lo hi : Nat) (w w' : World) : Prop := ∀ k, lo ≤ k → k < hi → w'.heap[k]? = w.heap[k]?
theorem Same.refl (lo hi : Nat) (w : World) : Same lo hi w w := fun _ _ _ => rfl
theorem Same.trans {lo hi : Nat} {a b c : World} (h : Same lo hi a b) (k : Same lo hi b c) : Same lo hi a c := fun j h1 h2 => (k j h1 h2).trans (h j h1 h2)
theorem Same.of_below {B lo hi : Nat} {w w' : World} (h : Below B w w') (hB : hi ≤ B) : Same lo hi w w' := fun k _ h2 => h.block k (by omega)
theorem Same.mono {lo hi lo' hi' : Nat} {w w' : World} (h : Same lo hi w w') (h1 : lo ≤ lo') (h2 : hi' ≤ hi) : Same lo' hi' w w' := fun k a b => h k (by omega) (by omega)

theorem range_of {w w' : World} {b o : Nat} {cs : List Value} (h : w.rangeAt b o cs) (e : w'.heap[b]? = w.heap[b]?) : w'.rangeAt b o cs := fun j v hv => by
  rw [World.cell?_of_block (w := w) e]; exact h j v hv
theorem there_of {w w' : World} {b o n : Nat} (h : w.there b o n) (e : w'.heap[b]? = w.heap[b]?) : w'.there b o n := fun j hj => by
  rw [World.cell?_of_block (w := w) e, World.frozen?_of_block (w := w) e]; exact h j hj

/-- the numbers xs are read at address a -/
def RowR (w : World) (lo hi : Nat) (a : Option Addr) (xs : List Int) : Prop :=
  xs.length ≤ maxLen ∧ (xs = [] ∨ ∃ b off, a = some ⟨b, off, none⟩ ∧ lo ≤ b ∧ b < hi ∧ w.rangeAt b off (ints xs))
/-- the rows R are read at the slice v -/
def Rd (w : World) (lo hi : Nat) (v : Value) (R : List (List Int)) : Prop :=
  R.length ≤ maxLen ∧ ∃ a cap, v = .slice a R.length cap ∧ (R = [] ∨ ∃ b off, a = some ⟨b, off, none⟩ ∧ lo ≤ b ∧ b < hi ∧
    ∀ i (h : i < R.length), ∃ a' c', w.cell? ⟨b, off + i, none⟩ = some (.slice a' (R[i]).length c') ∧ RowR w lo hi a' R[i])

theorem RowR.keep {w w' : World} {lo hi : Nat} {a : Option Addr} {xs : List Int} (h : RowR w lo hi a xs) (s : Same lo hi w w') : RowR w' lo hi a xs := by
  obtain ⟨hl, h⟩ := h
  refine ⟨hl, ?_⟩
  rcases h with h | ⟨b, off, rfl, h1, h2, hr⟩
  · exact .inl h
  · exact .inr ⟨b, off, rfl, h1, h2, range_of hr (s b h1 h2)⟩
theorem RowR.wide {w : World} {lo hi lo' hi' : Nat} {a : Option Addr} {xs : List Int} (h : RowR w lo hi a xs) (h1 : lo' ≤ lo) (h2 : hi ≤ hi') : RowR w lo' hi' a xs := by
  obtain ⟨hl, h⟩ := h
  refine ⟨hl, ?_⟩
  rcases h with h | ⟨b, off, rfl, g1, g2, hr⟩
  · exact .inl h
  · exact .inr ⟨b, off, rfl, by omega, by omega, hr⟩
theorem Rd.keep {w w' : World} {lo hi : Nat} {v : Value} {R : List (List Int)} (h : Rd w lo hi v R) (s : Same lo hi w w') : Rd w' lo hi v R := by
  obtain ⟨hl, a, cap, rfl, h⟩ := h
  refine ⟨hl, a, cap, rfl, ?_⟩
  rcases h with h | ⟨b, off, rfl, h1, h2, hc⟩
  · exact .inl h
  · refine .inr ⟨b, off, rfl, h1, h2, fun i hi => ?_⟩
    obtain ⟨a', c', hcell, hr⟩ := hc i hi
    exact ⟨a', c', by rw [World.cell?_of_block (w := w) (s b h1 h2)]; exact hcell, hr.keep s⟩
theorem Rd.wide {w : World} {lo hi lo' hi' : Nat} {v : Value} {R : List (List Int)} (h : Rd w lo hi v R) (h1 : lo' ≤ lo) (h2 : hi ≤ hi') : Rd w lo' hi' v R := by
  obtain ⟨hl, a, cap, rfl, h⟩ := h
  refine ⟨hl, a, cap, rfl, ?_⟩
  rcases h with h | ⟨b, off, rfl, g1, g2, hc⟩
  · exact .inl h
  · refine .inr ⟨b, off, rfl, by omega, by omega, fun i hi => ?_⟩
    obtain ⟨a', c', hcell, hr⟩ := hc i hi
    exact ⟨a', c', hcell, hr.wide h1 h2⟩
theorem Rd.below {w w' : World} {lo hi B : Nat} {v : Value} {R : List (List Int)} (h : Rd w lo hi v R) (hb : Below B w w') (hB : hi ≤ B) : Rd w' lo hi v R := h.keep (.of_below hb hB)

/-- a row that may be written: it begins its block -/
def Row (w : World) (b : Nat) (xs : List Int) : Prop := b < w.heap.size ∧ w.rangeAt b 0 (ints xs) ∧ w.there b 0 xs.length
theorem Row.cell {w : World} {b : Nat} {xs : List Int} (h : Row w b xs) (i : Nat) (hi : i < xs.length) : w.cell? ⟨b, i, none⟩ = some (.int .i64 xs[i]) := by
  have := h.2.1 i (.int .i64 xs[i]) (by simp [ints, hi])
  simpa using this
theorem Row.frozen {w : World} {b : Nat} {xs : List Int} (h : Row w b xs) (i : Nat) (hi : i < xs.length) : w.frozen? ⟨b, i, none⟩ = false := by
  have := (h.2.2 i hi).2
  simpa using this
theorem Row.of {w w' : World} {b : Nat} {xs : List Int} (h : Row w b xs) (e : w'.heap[b]? = w.heap[b]?) (hs : b < w'.heap.size) : Row w' b xs := ⟨hs, range_of h.2.1 e, there_of h.2.2 e⟩
theorem lt_of_same {w w' : World} {b : Nat} (e : w'.heap[b]? = w.heap[b]?) (h : b < w.heap.size) : b < w'.heap.size := by
  rw [Array.getElem?_eq_getElem h] at e
  exact (Array.getElem?_eq_some_iff.1 e).1
theorem Row.of' {w w' : World} {b : Nat} {xs : List Int} (h : Row w b xs) (e : w'.heap[b]? = w.heap[b]?) : Row w' b xs := h.of e (lt_of_same e h.1)
theorem Blk.row {w : World} {b : Nat} {t : TypeId} {xs : List Int} (h : Blk w b t xs) : Row w b xs := ⟨h.lt, h.range0, h.there 0 _ (by omega)⟩
theorem Row.set {w : World} {b : Nat} {xs : List Int} (h : Row w b xs) (i : Nat) (hi : i < xs.length) (x : Int) : Row (w.setCell ⟨b, i, none⟩ (.int .i64 x)) b (xs.set i x) := by
  refine ⟨by simpa using h.1, fun j v hv => ?_, fun j hj => ?_⟩
  · rw [ints_get, List.getElem?_set] at hv
    simp only [Nat.zero_add]
    by_cases e : i = j
    · subst e
      rw [World.cell?_setCell_same _ _ _ (h.cell i hi)]
      simpa [hi] using hv
    · rw [World.cell?_setCell_other _ _ _ _ (by simp <;> omega)]
      rw [if_neg e] at hv
      have := h.2.1 j v (by rw [ints_get]; exact hv)
      simpa using this
  · have hj' : j < xs.length := by simpa using hj
    simp only [Nat.zero_add]
    rw [World.frozen?_setCell]
    refine ⟨?_, h.frozen j hj'⟩
    by_cases e : i = j
    · subst e; rw [World.cell?_setCell_same _ _ _ (h.cell i hi)]; rfl
    · rw [World.cell?_setCell_other _ _ _ _ (by simp <;> omega), h.cell j hj']; rfl

/-- rows that a call made: the outer row in block bo, row i in block B i, all apart -/
def OwnAt (w : World) (lo hi : Nat) (bo : Nat) (B C : Nat → Nat) (R : List (List Int)) : Prop :=
  (R ≠ [] → lo ≤ bo ∧ bo < hi) ∧ hi ≤ w.heap.size ∧ (∀ i j, i < R.length → j < R.length → i ≠ j → B i ≠ B j) ∧
  ∀ i (h : i < R.length), w.cell? ⟨bo, i, none⟩ = some (.slice (some ⟨B i, 0, none⟩) (R[i]).length (C i)) ∧ (R[i]).length ≤ maxLen ∧ lo ≤ B i ∧ B i < hi ∧ B i ≠ bo ∧ Row w (B i) R[i]
def Own (w : World) (lo hi : Nat) (v : Value) (R : List (List Int)) : Prop :=
  R.length ≤ maxLen ∧ ∃ a cap bo B C, v = .slice a R.length cap ∧ (R ≠ [] → a = some ⟨bo, 0, none⟩) ∧ OwnAt w lo hi bo B C R

theorem OwnAt.keep {w w' : World} {lo hi bo : Nat} {B C : Nat → Nat} {R : List (List Int)} (h : OwnAt w lo hi bo B C R) (s : Same lo hi w w') (hs : w.heap.size ≤ w'.heap.size) : OwnAt w' lo hi bo B C R := by
  obtain ⟨h0, h1, h2, h3⟩ := h
  refine ⟨h0, by omega, h2, fun i hi => ?_⟩
  obtain ⟨c1, c2, c3, c4, c5, c6⟩ := h3 i hi
  have hb := h0 (by intro e; subst e; simp at hi)
  exact ⟨by rw [World.cell?_of_block (w := w) (s bo hb.1 hb.2)]; exact c1, c2, c3, c4, c5, c6.of' (s _ c3 c4)⟩
theorem Own.keep {w w' : World} {lo hi : Nat} {v : Value} {R : List (List Int)} (h : Own w lo hi v R) (s : Same lo hi w w') (hs : w.heap.size ≤ w'.heap.size) : Own w' lo hi v R := by
  obtain ⟨hl, a, cap, bo, B, C, e, ha, ho⟩ := h
  exact ⟨hl, a, cap, bo, B, C, e, ha, ho.keep s hs⟩
theorem Own.below {w w' : World} {lo hi B : Nat} {v : Value} {R : List (List Int)} (h : Own w lo hi v R) (hb : Below B w w') (hB : hi ≤ B) : Own w' lo hi v R := h.keep (.of_below hb hB) hb.size
theorem Own.rd {w : World} {lo hi : Nat} {v : Value} {R : List (List Int)} (h : Own w lo hi v R) : Rd w lo hi v R := by
  obtain ⟨hl, a, cap, bo, B, C, rfl, ha, h0, h1, h2, h3⟩ := h
  refine ⟨hl, a, cap, rfl, ?_⟩
  by_cases e : R = []
  · exact .inl e
  · refine .inr ⟨bo, 0, ha e, (h0 e).1, (h0 e).2, fun i hi => ?_⟩
    obtain ⟨c1, c2, c3, c4, c5, c6⟩ := h3 i hi
    refine ⟨_, _, by simpa using c1, c2, ?_⟩
    by_cases e' : R[i] = []
    · exact .inl e'
    · exact .inr ⟨B i, 0, rfl, c3, c4, c6.2.1⟩
theorem Own.wide {w : World} {lo hi lo' hi' : Nat} {v : Value} {R : List (List Int)} (h : Own w lo hi v R) (h1 : lo' ≤ lo) (h2 : hi ≤ hi') (h3 : hi' ≤ w.heap.size) : Own w lo' hi' v R := by
  obtain ⟨hl, a, cap, bo, B, C, e, ha, g0, g1, g2, g3⟩ := h
  refine ⟨hl, a, cap, bo, B, C, e, ha, fun hn => ⟨by have := g0 hn; omega, by have := g0 hn; omega⟩, h3, g2, fun i hi => ?_⟩
  obtain ⟨c1, c2, c3, c4, c5, c6⟩ := g3 i hi
  exact ⟨c1, c2, by omega, by omega, c5, c6⟩
theorem own_nil (w : World) (lo hi : Nat) (hh : hi ≤ w.heap.size) : Own w lo hi (.slice none 0 0) [] :=
  ⟨by simp, none, 0, 0, fun _ => 0, fun _ => 0, rfl, fun h => absurd rfl h, fun h => absurd rfl h, hh, fun i j hi => by simp at hi, fun i hi => by simp at hi⟩

/-- one number of one row is written -/
theorem OwnAt.set {w : World} {lo hi bo : Nat} {B C : Nat → Nat} {R : List (List Int)} (h : OwnAt w lo hi bo B C R) (i : Nat) (hi' : i < R.length) (k : Nat) (hk : k < (R[i]).length) (x : Int) :
    OwnAt (w.setCell ⟨B i, k, none⟩ (.int .i64 x)) lo hi bo B C (R.set i ((R[i]).set k x)) := by
  obtain ⟨h0, h1, h2, h3⟩ := h
  have hne : R ≠ [] := by intro e; subst e; simp at hi'
  refine ⟨fun _ => h0 hne, by simpa using h1, fun a b ha hb => h2 a b (by simpa using ha) (by simpa using hb), fun j hj => ?_⟩
  have hj' : j < R.length := by simpa using hj
  obtain ⟨c1, c2, c3, c4, c5, c6⟩ := h3 j hj'
  obtain ⟨d1, d2, d3, d4, d5, d6⟩ := h3 i hi'
  have hcell : (w.setCell ⟨B i, k, none⟩ (.int .i64 x)).cell? ⟨bo, j, none⟩ = w.cell? ⟨bo, j, none⟩ := World.cell?_setCell_other _ _ _ _ (by simp <;> omega)
  by_cases e : i = j
  · subst e
    simp only [List.getElem_set_self, List.length_set]
    exact ⟨by rw [hcell]; exact c1, c2, c3, c4, c5, c6.set k hk x⟩
  · rw [List.getElem_set_ne e]
    exact ⟨by rw [hcell]; exact c1, c2, c3, c4, c5, c6.of (Below.heap_setCell _ _ _ _ (h2 j i hj' hi' (fun q => e q.symm))) (by simpa using c6.1)⟩
theorem OwnAt.keepOuter {w w' : World} {lo hi bo : Nat} {B C : Nat → Nat} {R : List (List Int)} (h : OwnAt w lo hi bo B C R) (s : ∀ k, lo ≤ k → k < hi → k ≠ bo → w'.heap[k]? = w.heap[k]?)
    (hc : ∀ j, j < R.length → w'.cell? ⟨bo, j, none⟩ = w.cell? ⟨bo, j, none⟩) (hs : w.heap.size ≤ w'.heap.size) : OwnAt w' lo hi bo B C R := by
  obtain ⟨h0, h1, h2, h3⟩ := h
  refine ⟨h0, by omega, h2, fun i hi => ?_⟩
  obtain ⟨c1, c2, c3, c4, c5, c6⟩ := h3 i hi
  exact ⟨by rw [hc i hi]; exact c1, c2, c3, c4, c5, c6.of' (s _ c3 c4 c5)⟩
/-- the outer row moves to another block -/
theorem OwnAt.move {w : World} {lo hi bo : Nat} {B C : Nat → Nat} {R : List (List Int)} (h : OwnAt w lo hi bo B C R) (bo' hi' : Nat) (h1 : lo ≤ bo') (h2 : bo' < hi') (h3 : hi ≤ hi') (h4 : hi' ≤ w.heap.size)
    (hn : ∀ j, j < R.length → B j ≠ bo') (hc : ∀ j (hj : j < R.length), w.cell? ⟨bo', j, none⟩ = some (.slice (some ⟨B j, 0, none⟩) (R[j]).length (C j))) : OwnAt w lo hi' bo' B C R := by
  obtain ⟨g0, g1, g2, g3⟩ := h
  refine ⟨fun _ => ⟨h1, h2⟩, h4, g2, fun i hi => ?_⟩
  obtain ⟨c1, c2, c3, c4, c5, c6⟩ := g3 i hi
  exact ⟨hc i hi, c2, c3, by omega, hn i hi, c6⟩
/-- one row more -/
theorem OwnAt.snoc {w : World} {lo hi hi' bo : Nat} {B C : Nat → Nat} {R : List (List Int)} (h : OwnAt w lo hi bo B C R) (h1 : lo ≤ bo) (h2 : bo < hi') (h3 : hi ≤ hi') (h4 : hi' ≤ w.heap.size)
    (b c : Nat) (xs : List Int) (hb : hi ≤ b) (hlo : lo ≤ b) (hb' : b < hi') (hne : b ≠ bo) (hl : xs.length ≤ maxLen) (hr : Row w b xs) (hcell : w.cell? ⟨bo, R.length, none⟩ = some (.slice (some ⟨b, 0, none⟩) xs.length c)) :
    OwnAt w lo hi' bo (fun j => if j = R.length then b else B j) (fun j => if j = R.length then c else C j) (R ++ [xs]) := by
  obtain ⟨g0, g1, g2, g3⟩ := h
  refine ⟨fun _ => ⟨h1, h2⟩, h4, fun i j hi hj hij => ?_, fun i hi => ?_⟩
  · simp only [List.length_append, List.length_cons, List.length_nil] at hi hj
    by_cases e1 : i = R.length
    · have e2 : j ≠ R.length := fun q => hij (by omega)
      have hB := (g3 j (by omega)).2.2.2.1
      simp only [e1, e2, if_true, if_false]; omega
    · by_cases e2 : j = R.length
      · have hB := (g3 i (by omega)).2.2.2.1
        simp only [e1, e2, if_true, if_false]; omega
      · simp only [e1, e2, if_false]; exact g2 i j (by omega) (by omega) hij
  · by_cases e1 : i = R.length
    · subst e1
      simp only [if_true, List.getElem_concat_length]
      exact ⟨hcell, hl, hlo, hb', hne, hr⟩
    · have hi' : i < R.length := by simp at hi; omega
      obtain ⟨c1, c2, c3, c4, c5, c6⟩ := g3 i hi'
      simp only [e1, if_false, List.getElem_append_left hi']
      exact ⟨c1, c2, c3, by omega, c5, c6⟩
theorem own_none (w : World) (lo hi bo : Nat) (B C : Nat → Nat) (hh : hi ≤ w.heap.size) : OwnAt w lo hi bo B C [] :=
  ⟨fun h => absurd rfl h, hh, fun i j hi => by simp at hi, fun i hi => by simp at hi⟩
theorem OwnAt.congr {w : World} {lo hi bo : Nat} {B C : Nat → Nat} {R R' : List (List Int)} (h : OwnAt w lo hi bo B C R) (e : R = R') : OwnAt w lo hi bo B C R' := e ▸ h

end Go.Proofs.Ytapchjkiiifhdaa.sk
/- Contracts of the program's four rows of counts as one array: halved, laid out as lists, taken from a sketch. -/
namespace Go.Proofs.Ytapchjkiiifhdaa.sk
open Go.ChangeShapes Go.WideShapes Go.ChangeAt Go.RowKit
set_option linter.unusedVariables false

set_option maxRecDepth 100000 in
theorem flat_len (m : Nat) : ∀ (R : List (List Int)), (∀ xs ∈ R, xs.length = m) → R.flatten.length = R.length * m
  | [], _ => by simp
  | x :: R, h => by
    simp only [List.flatten_cons, List.length_append, flat_len m R (fun y hy => h y (by simp [hy])), h x (by simp), List.length_cons, Nat.add_mul]
    omega
set_option maxRecDepth 100000 in
theorem flat_chunk (m : Nat) : ∀ (R : List (List Int)) (h : ∀ xs ∈ R, xs.length = m) (i : Nat) (hi : i < R.length), (R.flatten.drop (i * m)).take m = R[i]
  | x :: R, h, 0, hi => by
    have := h x (by simp)
    simp [← this]
  | x :: R, h, i + 1, hi => by
    have hx := h x (by simp)
    have ih := flat_chunk m R (fun y hy => h y (by simp [hy])) i (by simpa using hi)
    rw [List.flatten_cons, List.getElem_cons_succ, ← ih, Nat.add_mul, Nat.one_mul, Nat.add_comm, ← List.drop_drop, ← hx, List.drop_left]
set_option maxRecDepth 100000 in
theorem flat_put (m : Nat) : ∀ (R : List (List Int)) (h : ∀ xs ∈ R, xs.length = m) (i : Nat) (hi : i < R.length) (ys : List Int) (hy : ys.length = m), put R.flatten ys (i * m) = (R.set i ys).flatten
  | x :: R, h, 0, hi, ys, hy => by
    have hx := h x (by simp)
    have e : x.length = ys.length := by omega
    simp [put, ← e]
  | x :: R, h, i + 1, hi, ys, hy => by
    have hx := h x (by simp)
    have ih := flat_put m R (fun y hy => h y (by simp [hy])) i (by simpa using hi) ys hy
    have e1 : (i + 1) * m = x.length + i * m := by rw [Nat.add_mul]; omega
    rw [List.set_cons_succ, List.flatten_cons, List.flatten_cons, ← ih, e1]
    unfold put
    rw [List.take_append, List.take_of_length_le (by omega : x.length ≤ x.length + i * m), Nat.add_sub_cancel_left, List.drop_append,
      List.drop_eq_nil_of_le (by omega : x.length ≤ x.length + i * m + ys.length), show x.length + i * m + ys.length - x.length = i * m + ys.length by omega]
    simp

/-- the first i rows are done -/
def mix (T R : List (List Int)) (i : Nat) : List (List Int) := T.take i ++ R.drop i
set_option maxRecDepth 100000 in
theorem mix_zero (T R : List (List Int)) : mix T R 0 = R := by simp [mix]
set_option maxRecDepth 100000 in
theorem mix_all (T R : List (List Int)) (i : Nat) (hT : T.length ≤ i) (hR : R.length ≤ i) : mix T R i = T := by simp [mix, List.take_of_length_le hT, List.drop_eq_nil_of_le hR]
set_option maxRecDepth 100000 in
theorem mix_len (T R : List (List Int)) (i : Nat) (h : T.length = R.length) : (mix T R i).length = R.length := by simp [mix]; omega
set_option maxRecDepth 100000 in
theorem mix_mem (T R : List (List Int)) (i m : Nat) (hT : ∀ xs ∈ T, xs.length = m) (hR : ∀ xs ∈ R, xs.length = m) : ∀ xs ∈ mix T R i, xs.length = m := by
  intro xs hx
  rcases List.mem_append.1 hx with h | h
  · exact hT _ (List.mem_of_mem_take h)
  · exact hR _ (List.mem_of_mem_drop h)
set_option maxRecDepth 100000 in
theorem mix_set (T R : List (List Int)) (i : Nat) (h : T.length = R.length) (hi : i < T.length) : (mix T R i).set i T[i] = mix T R (i + 1) := by
  apply List.ext_getElem?
  intro j
  simp only [mix, List.getElem?_set, List.getElem?_append, List.length_take, List.length_append, List.length_drop, List.getElem?_take, List.getElem?_drop]
  have hm : min i T.length = i := by omega
  have hm1 : min (i + 1) T.length = i + 1 := by omega
  rw [hm, hm1]
  by_cases e : i = j
  · subst e
    rw [if_pos rfl, if_pos (by omega), if_pos (by omega), if_pos (by omega)]
    simp [hi]
  · rw [if_neg e]
    by_cases l : j < i
    · rw [if_pos l, if_pos l, if_pos (by omega), if_pos (by omega)]
    · rw [if_neg l, if_neg (by omega), show i + (j - i) = i + 1 + (j - (i + 1)) by omega]
set_option maxRecDepth 100000 in
theorem mix_get (T R : List (List Int)) (i : Nat) (h : T.length = R.length) (hi : i < R.length) (hj : i < (mix T R i).length) : (mix T R i)[i] = R[i] := by
  simp only [mix]
  rw [List.getElem_append_right (by simp; omega)]
  simp [show min i T.length = i by omega]

def Four (R : List (List Int)) : Prop := R.length = 4 ∧ ∀ xs ∈ R, xs.length = 16
set_option maxRecDepth 100000 in
theorem Four.len {R : List (List Int)} (h : Four R) : R.flatten.length = 64 := by rw [flat_len 16 R h.2, h.1]
def Small (R : List (List Int)) : Prop := ∀ xs ∈ R, ∀ x ∈ xs, 0 ≤ x ∧ x ≤ 15

set_option maxRecDepth 100000 in
theorem rowsHalved_any (R : List (List Int)) (hR : Four R) (hr : Small R) (w : World) :
    Calls Try.prog 144 #[arr R.flatten] w fun e w' => e = .returned (arr (R.map (·.map half)).flatten) ∧ Below w.heap.size w w' := by
  obtain ⟨T, hT⟩ : ∃ T, T = R.map (·.map half) := ⟨_, rfl⟩
  have hT4 : Four T := by subst hT; exact ⟨by simp [hR.1], by simp; intro xs hx; exact hR.2 xs hx⟩
  rw [← hT]
  have HT : Hid (T = R.map (·.map half)) := hT
  clear hT
  have hl := hR.len
  have hlT := hT4.len
  go_enter Try.func144, Try.ntmps144
  go_wp2_with (first | (refine wpList_box_arr rfl 134 _ rfl R.flatten rfl ?_; intro b w1 hb hw1 hB1 hK1) | (refine wpList_alloc_arr rfl 134 rfl _ zero54 ?_; intro b2 w2 hb2 hw2 hB2 hK2; replace hK1 := hK1.below hB2 hw1) | (refine wpList_load_arr rfl 134 _ rfl b 0 64 rfl _ Try.underlying134 rfl size54 hK1 (by omega) R.flatten (all64 hl) ?_))
  have hB : Below w.heap.size w w2 := hB1.trans (hB2.mono hB1.size)
  have hne : b2 ≠ b := by omega
  go_loopw [6] (fun v wr => ∃ i : Nat, i ≤ 4 ∧ v = .int .i64 i ∧ Blk wr b 134 (mix T R i).flatten ∧ Blk wr b2 134 (List.replicate 64 0) ∧ Below w.heap.size w wr) (fun v _ => 4 - (intOf v).toNat)
  case atStart => exact ⟨0, by omega, rfl, by rw [mix_zero]; exact hK1, hK2, hB⟩
  case round =>
    obtain ⟨i, hi, rfl, hb1, hb2', hBr⟩ := hrel
    by_cases hlt : i < 4
    · have hiR : i < R.length := by rw [hR.1]; exact hlt
      have hiT : i < T.length := by rw [hT4.1]; exact hlt
      obtain ⟨xs, hxs⟩ : ∃ xs, R[i] = xs := ⟨_, rfl⟩
      have hx16 : xs.length = 16 := by rw [← hxs]; exact hR.2 _ (List.getElem_mem hiR)
      have hxb : ∀ x ∈ xs, 0 ≤ x ∧ x ≤ 15 := by rw [← hxs]; exact hr _ (List.getElem_mem hiR)
      have hchunk : Hid ((R.flatten.drop (i * 16)).take 16 = xs) := by unfold Hid; rw [flat_chunk 16 R hR.2 i hiR, hxs]
      obtain ⟨ys, hys⟩ : ∃ ys, Hid (xs.map half = ys) := ⟨_, rfl⟩
      have hy16 : ys.length = 16 := by rw [← hys.out]; simp [hx16]
      have HX : Hid (R[i] = xs) := hxs
      clear hxs
      have h4 := mix_len T R i (by rw [hT4.1, hR.1])
      have hm16 := mix_mem T R i 16 hT4.2 hR.2
      have hml : (mix T R i).flatten.length = 64 := by rw [flat_len 16 _ hm16, h4, hR.1]
      have h4' : Hid ((mix T R i).length = R.length) := h4
      clear h4
      have hm16' : Hid (∀ xs ∈ mix T R i, xs.length = 16) := hm16
      clear hm16
      have hb1' := hb1
      have hb2'' := hb2'
      go_wp2_with (first | (refine wpList_index_arr rfl 134 _ _ rfl R.flatten i 4 16 rfl rfl Try.underlying134 Try.sizeOf132 Try.isAgg132 hlt xs hchunk.out ?_) | (refine wpList_alloc_arr rfl 132 rfl _ zero52 ?_; intro b3 w3 hb3 hw3 hB3 hK3; replace hb1 := hb1.below hB3 hb1.lt; replace hb2' := hb2'.below hB3 hb2'.lt) | (refine wpList_store_arr rfl 132 _ _ rfl b3 0 xs rfl rfl (by rw [hx16]; exact size52) hK3 (by rw [hx16]; simp) ?_; intro w4 hO4 hK4; rw [put_all _ _ (by rw [hx16]; simp)] at hK4) | (refine wpList_load_arr rfl 132 _ rfl b3 0 16 rfl _ Try.underlying132 rfl size52 hK4 (by omega) xs (all16 hx16) ?_) | (go_at_call 186; refine (halved_any xs hx16 hxb _).mono ?_; rintro e w5 ⟨he, hB5⟩; rw [hys.out] at he; subst he; have hb1w := (hb1.of (hO4.2.1 _ (by have := hb1'.lt; omega))).below hB5 (by have := hb1'.lt; have := hO4.1; have := hB3.size; omega); have hb2w := (hb2'.of (hO4.2.1 _ (by have := hb2''.lt; omega))).below hB5 (by have := hb2''.lt; have := hO4.1; have := hB3.size; omega)) | (refine wpList_store_arr rfl 132 _ _ rfl b (i * 16) ys rfl rfl (by rw [hy16]; exact size52) hb1w (by rw [hy16, hml]; omega) ?_; intro w6 hO6 hK6; rw [flat_put 16 _ hm16'.out i (by rw [h4'.out]; exact hiR) ys hy16] at hK6))
      go_roundw
      case rel =>
        have eT : T[i] = ys := by
          have : T[i] = (R[i]).map half := by have := HT.out; subst this; simp
          rw [this, HX.out, hys.out]
        refine ⟨i + 1, by omega, by go_num, ?_, hb2w.of (hO6.2.1 _ hne), ?_⟩
        · rw [← mix_set T R i (by rw [hT4.1, hR.1]) hiT, eT]; exact hK6
        · refine ((hBr.trans (hB3.mono hBr.size)).trans (hO4.2.2 _ (by have := hBr.size; omega))).trans ?_
          exact (hB5.mono (by have := hBr.size; have := hB3.size; have := hO4.1; omega)).trans (hO6.2.2 _ hb)
      case measure => simp [intOf]; omega
    · obtain rfl : i = 4 := by omega
      rw [mix_all _ _ _ (by rw [hT4.1]; omega) (by rw [hR.1]; omega)] at hb1
      go_wp2_with (first | (refine wpList_load_arr rfl 134 _ rfl b 0 64 rfl _ Try.underlying134 rfl size54 hb1 (by omega) T.flatten (all64 hlT) ?_) | (refine wpList_store_arr rfl 134 _ _ rfl b2 0 T.flatten rfl rfl (by rw [hlT]; exact size54) hb2' (by rw [hlT]; simp) ?_; intro w3 hO3 hK3; rw [put_all _ _ (by rw [hlT]; simp)] at hK3))
      refine row_ret rfl rfl hK3 Try.underlying134 (by rw [hlT]; exact size54) rfl ⟨rfl, hBr.trans (hO3.2.2 _ (by omega))⟩

end Go.Proofs.Ytapchjkiiifhdaa.sk
/- make and copy on rows of integers, as steps of plain regions and of regions that draw their order. -/
namespace Go.Proofs.Ytapchjkiiifhdaa.sk
open Go.ChangeShapes Go.WideShapes Go.ChangeAt Go.RowKit
set_option linter.unusedVariables false

/-- block b is a row of cells, none frozen -/
def VBlk (w : World) (b : Nat) (t : TypeId) (vs : List Value) : Prop := w.heap[b]? = some (.cells vs.toArray t (0, 0))
set_option maxRecDepth 100000 in
theorem VBlk.cell {w : World} {b : Nat} {t : TypeId} {vs : List Value} (h : VBlk w b t vs) (j : Nat) (hj : j < vs.length) : w.cell? ⟨b, j, none⟩ = some vs[j] := by
  rw [cell_of_row _ _ _ _ _ _ h]; simp [hj]
set_option maxRecDepth 100000 in
theorem VBlk.frozen {w : World} {b : Nat} {t : TypeId} {vs : List Value} (h : VBlk w b t vs) (j : Nat) : w.frozen? ⟨b, j, none⟩ = false := frozen_of_row _ _ _ _ _ h
set_option maxRecDepth 100000 in
theorem VBlk.lt {w : World} {b : Nat} {t : TypeId} {vs : List Value} (h : VBlk w b t vs) : b < w.heap.size := (Array.getElem?_eq_some_iff.1 h).1
set_option maxRecDepth 100000 in
theorem VBlk.of {w w' : World} {b : Nat} {t : TypeId} {vs : List Value} (h : VBlk w b t vs) (e : w'.heap[b]? = w.heap[b]?) : VBlk w' b t vs := by unfold VBlk; rw [e]; exact h
set_option maxRecDepth 100000 in
theorem VBlk.below {w w' : World} {B b : Nat} {t : TypeId} {vs : List Value} (h : VBlk w b t vs) (hb : Below B w w') (hlt : b < B) : VBlk w' b t vs := h.of (hb.block b hlt)
set_option maxRecDepth 100000 in
theorem VBlk.set {w : World} {b : Nat} {t : TypeId} {vs : List Value} (h : VBlk w b t vs) (i : Nat) (x : Value) : VBlk (w.setCell ⟨b, i, none⟩ x) b t (vs.set i x) := by
  unfold VBlk
  rw [heap_setCell_same w b i _ t _ h]
  simp
set_option maxRecDepth 100000 in
theorem VBlk.ints {w : World} {b : Nat} {t : TypeId} {n : Nat} (h : VBlk w b t (List.replicate n (.int .i64 0))) : Blk w b t (List.replicate n 0) := by
  unfold Blk; rw [h]; simp [sk.ints]

section ops
variable {P : Program} {ops : Array Oper} {rest : List Oper} {o : Oper} {a : Act} {w : World} {Q : Exit → Act → World → Prop} {K : Act → World → Prop} {E : Prop}

set_option maxRecDepth 100000 in
theorem step_val (hgd : o.guard = none) {v : Value} {w' : World} (hr : (execOp a.eval o).run P w = .ok (.value v) w') (h : K (a.put o.dst v) w') :
    if Region.wanted o (yielded ops a.tmps) = true then Oper.wp P o a w K Q else E := by
  have hw : Region.wanted o (yielded ops a.tmps) = true := by simp [Region.wanted, hgd]
  rw [if_pos hw]
  unfold Oper.wp
  rw [hr]
  exact h

set_option maxRecDepth 100000 in
theorem made_replicate (z : Value) (n : Nat) : madeCells #[z] n = (List.replicate n z).toArray := by
  apply Array.ext
  · simp [madeCells]
  · intro i h1 h2
    simp [madeCells, Nat.mod_one]

set_option maxRecDepth 100000 in
/-- a new row of n zero values -/
theorem exec_make (t e : TypeId) (l c : Operand) (ho : o.op = .makeSlice t l c) (z : Value) (bytes n : Nat) (ht : P.underlying t = some (.slice e)) (hinfo : (P.info? e).map (fun i => (i.zero, i.size, i.bytes)) = some (some z, 1, bytes)) (hz1 : z.cells = #[z])
    (hl : a.eval l = .int .i64 n) (hc : a.eval c = .int .i64 n) (hbytes : bytes * n ≤ 281474976710656) (h63 : n ≤ 9223372036854775807) :
    (execOp a.eval o).run P w = .ok (.value (.slice (some ⟨w.heap.size, 0, none⟩) n n)) (w.alloc (.cells (List.replicate n z).toArray e)) := by
  have hr := run_make_row' (P := P) t e z bytes ht hinfo hz1 .i64 .i64 n hbytes h63 w
  rw [made_replicate] at hr
  unfold execOp
  simp only [ho, hl, hc, Sem.run_bind, hr, Result.andThen_ok]
  rfl
set_option maxRecDepth 100000 in
theorem wpList_make (hgd : o.guard = none) (t e : TypeId) (l c : Operand) (ho : o.op = .makeSlice t l c) (z : Value) (bytes n : Nat) (ht : P.underlying t = some (.slice e)) (hinfo : (P.info? e).map (fun i => (i.zero, i.size, i.bytes)) = some (some z, 1, bytes)) (hz1 : z.cells = #[z])
    (hl : a.eval l = .int .i64 n) (hc : a.eval c = .int .i64 n) (hbytes : bytes * n ≤ 281474976710656) (h63 : n ≤ 9223372036854775807)
    (h : ∀ (b : Nat) (w' : World), w.heap.size ≤ b → b < w'.heap.size → Below w.heap.size w w' → VBlk w' b e (List.replicate n z) → wpList P ops Q rest (a.put o.dst (.slice (some ⟨b, 0, none⟩) n n)) w') : wpList P ops Q (o :: rest) a w :=
  wpList_val hgd (exec_make t e l c ho z bytes n ht hinfo hz1 hl hc hbytes h63) (h _ _ (Nat.le_refl _) (by simp) ((Below.refl _ _).alloc (Nat.le_refl _) _) (heap_alloc_new _ _))

set_option maxRecDepth 100000 in
/-- integers are copied from one row into another -/
theorem exec_copy (d s : Operand) (dT sT : TypeId) (ho : o.op = .call { callee := .builtin .copy, args := #[d, s], argTypes := #[dT, sT] }) (elem : TypeId) (hu : P.underlying dT = some (.slice elem)) (hsz : (P.info? elem).map (·.size) = some 1)
    (b k n c b' k' c' : Nat) (xs : List Int) (hn : xs.length = n) (hd : a.eval d = .slice (some ⟨b, k, none⟩) n c) (hs : a.eval s = .slice (some ⟨b', k', none⟩) n c') (hr : w.rangeAt b' k' (ints xs)) (ht : w.there b k n) :
    (execOp a.eval o).run P w = .ok (.value (goInt n)) (w.setCells b k (ints xs)) := by
  subst hn
  have hrun := run_copy_cells (P := P) w dT sT o.type elem b k xs.length c ⟨b', k', none⟩ xs.length c' (ints xs) hu hsz (by simp [ints_len]) (fun j v hv => by rw [Addr.add_mid]; exact hr j v hv)
    (fun j hj => (ht j (by simpa [ints_len] using hj)).1) (fun j hj => (ht j (by simpa [ints_len] using hj)).2) (ints_one xs)
  rw [ints_len] at hrun
  simp [execOp, ho, resolve, invoke, builtin, hd, hs, hrun, Result.andThen]
end ops

set_option maxRecDepth 100000 in
theorem info46 : (Try.prog.info? 116).map (fun i => (i.zero, i.size, i.bytes)) = some (some (.slice none 0 0), 1, 24) := by kernel_rfl
set_option maxRecDepth 100000 in
theorem info2 : (Try.prog.info? 2).map (fun i => (i.zero, i.size, i.bytes)) = some (some (.int .i64 0), 1, 8) := by kernel_rfl
set_option maxRecDepth 100000 in
theorem size2 : (Try.prog.info? 2).map (·.size) = some 1 := by kernel_rfl
set_option maxRecDepth 100000 in
theorem size46 : (Try.prog.info? 116).map (·.size) = some 1 := by kernel_rfl

end Go.Proofs.Ytapchjkiiifhdaa.sk
/- Contract of the four rows laid out as lists. -/
namespace Go.Proofs.Ytapchjkiiifhdaa.sk
open Go.ChangeShapes Go.WideShapes Go.ChangeAt Go.RowKit
set_option linter.unusedVariables false

set_option maxRecDepth 100000 in
theorem take_snoc {α : Type} (R : List α) (i : Nat) (h : i < R.length) : R.take (i + 1) = R.take i ++ [R[i]] := List.take_succ_eq_append_getElem h
set_option maxRecDepth 100000 in
theorem VBlk.there {w : World} {b : Nat} {t : TypeId} {vs : List Value} (h : VBlk w b t vs) : w.there b 0 vs.length := fun j hj =>
  ⟨by simp only [Nat.zero_add]; rw [h.cell j hj]; rfl, by simp only [Nat.zero_add]; exact h.frozen j⟩

set_option maxRecDepth 100000 in
theorem lists_any (R : List (List Int)) (hR : Four R) (w : World) :
    Calls Try.prog 129 #[arr R.flatten] w fun e w' => ∃ v, e = .returned v ∧ Own w' w.heap.size w'.heap.size v R ∧ Below w.heap.size w w' := by
  have hl := hR.len
  go_enter Try.func129, Try.ntmps129
  go_wp2_with (first | (refine wpList_box_arr rfl 134 _ rfl R.flatten rfl ?_; intro b w1 hb hw1 hB1 hK1) | (refine wpList_make rfl 26 116 _ _ rfl (.slice none 0 0) 24 4 Try.underlying26 info46 rfl rfl rfl (by omega) (by omega) ?_; intro bo w2 hbo hw2 hB2 hV2; replace hK1 := hK1.below hB2 hw1) | (refine wpList_load_arr rfl 134 _ rfl b 0 64 rfl _ Try.underlying134 rfl size54 hK1 (by omega) R.flatten (all64 hl) ?_))
  have hB : Below w.heap.size w w2 := hB1.trans (hB2.mono hB1.size)
  have hlo : w.heap.size ≤ bo := by have := hB1.size; omega
  go_loopw [8] (fun v wr => ∃ i : Nat, i ≤ 4 ∧ v = .int .i64 i ∧ bo < wr.heap.size ∧ wr.there bo 0 4 ∧ (∃ B C, OwnAt wr w.heap.size wr.heap.size bo B C (R.take i)) ∧ Below w.heap.size w wr) (fun v _ => 4 - (intOf v).toNat)
  case atStart => exact ⟨0, by omega, rfl, hw2, hV2.there, ⟨fun _ => 0, fun _ => 0, own_none _ _ _ _ _ _ (Nat.le_refl _)⟩, hB⟩
  case round =>
    obtain ⟨i, hi, rfl, hbs, hth, ⟨B, C, hown⟩, hBr⟩ := hrel
    by_cases hlt : i < 4
    · have hiR : i < R.length := by rw [hR.1]; exact hlt
      obtain ⟨xs, hxs⟩ : ∃ xs, R[i] = xs := ⟨_, rfl⟩
      have hx16 : xs.length = 16 := by rw [← hxs]; exact hR.2 _ (List.getElem_mem hiR)
      have hchunk : Hid ((R.flatten.drop (i * 16)).take 16 = xs) := by unfold Hid; rw [flat_chunk 16 R hR.2 i hiR, hxs]
      have HX : Hid (R[i] = xs) := hxs
      clear hxs
      go_wp2_with (first | (refine wpList_index_arr rfl 134 _ _ rfl R.flatten i 4 16 rfl rfl Try.underlying134 Try.sizeOf132 Try.isAgg132 hlt xs hchunk.out ?_) | (refine wpList_alloc_arr rfl 132 rfl _ zero52 ?_; intro b3 w3 hb3 hw3 hB3 hK3) | (refine wpList_store_arr rfl 132 _ _ rfl b3 0 xs rfl rfl (by rw [hx16]; exact size52) hK3 (by rw [hx16]; simp) ?_; intro w4 hO4 hK4; rw [put_all _ _ (by rw [hx16]; simp)] at hK4) | (refine wpList_make rfl 116 2 _ _ rfl (.int .i64 0) 8 16 Try.underlying116 info2 rfl rfl rfl (by omega) (by omega) ?_; intro bi w5 hbi hw5 hB5 hV5; have hth5 := there_of hth (((hB5.block bo (by have := hO4.1; have := hB3.size; omega)).trans (hO4.2.1 bo (by omega))).trans (hB3.block bo hbs)); obtain ⟨u, hu⟩ := Option.isSome_iff_exists.1 (hth5 i hlt).1; have hf := (hth5 i hlt).2; simp only [Nat.zero_add] at hu hf))
      have hs3 := hB3.size
      have hs4 := hO4.1
      have hs5 := hB5.size
      have n1 : b3 ≠ bo := by omega
      have n2 : bi ≠ bo := by omega
      have n3 : bi ≠ b3 := by omega
      obtain ⟨w6, HW6⟩ : ∃ w6, Hid (w6 = w5.setCell ⟨bo, i, none⟩ (.slice (some ⟨bi, 0, none⟩) 16 16)) := ⟨_, rfl⟩
      rw [← HW6.out]
      have c6 : w6.drew.cell? ⟨bo, i, none⟩ = some (.slice (some ⟨bi, 0, none⟩) 16 16) := by show w6.cell? _ = _; rw [HW6.out]; exact World.cell?_setCell_same _ _ _ hu
      have r6 : w6.drew.rangeAt b3 0 (ints xs) := by
        have h5 := hK4.below hB5 (by omega)
        have h6 : Blk w6.drew b3 132 xs := by show Blk w6 b3 132 xs; rw [HW6.out]; exact h5.of (Below.heap_setCell _ _ _ _ n1)
        exact h6.range0
      have k6 : Blk w6.drew bi 2 (List.replicate 16 0) := by show Blk w6 bi _ _; rw [HW6.out]; exact hV5.ints.of (Below.heap_setCell _ _ _ _ n2)
      have t6 : w6.drew.there bi 0 16 := k6.there 0 16 (by simp)
      have c7 : (w6.drew.setCells bi 0 (ints xs)).cell? ⟨bo, i, none⟩ = some (.slice (some ⟨bi, 0, none⟩) 16 16) := by
        rw [World.cell?_of_block (w := w6.drew) (heap_setCells_other bi _ _ _ bo (fun e => n2 e.symm))]; exact c6
      go_region_held3 (fun w' => w'.cell? ⟨bo, i, none⟩ = some (.slice (some ⟨bi, 0, none⟩) 16 16)) (first | assumption | exact c6 | exact c7) (first | (refine step_val rfl (exec_copy _ _ _ _ rfl 2 Try.underlying116 size2 bi 0 16 16 b3 0 16 xs hx16 rfl rfl r6 t6) ?_))
      have k7 := k6.setCells xs 0 (by simp [hx16])
      rw [put_all _ _ (by simp [hx16])] at k7
      have o7 := only_setCells w6.drew bi (ints xs) 0
      obtain ⟨w7, HW7⟩ : ∃ w7, Hid (w7 = w6.drew.setCells bi 0 (ints xs)) := ⟨_, rfl⟩
      rw [← HW7.out] at c7 k7 o7 ⊢
      clear r6 k6 t6 c6
      go_wp2
      go_roundw
      case rel =>
        have hsz : w7.heap.size = w5.heap.size := by rw [o7.1]; show w6.heap.size = _; rw [HW6.out]; simp
        have sw : ∀ k, k < wr.heap.size → k ≠ bo → w7.heap[k]? = wr.heap[k]? := fun k hk hne => by
          rw [o7.2.1 k (by omega)]
          show w6.heap[k]? = _
          rw [HW6.out, Below.heap_setCell _ _ _ _ hne, hB5.block k (by omega), hO4.2.1 k (by omega), hB3.block k hk]
        have cw : ∀ j, j ≠ i → w7.cell? ⟨bo, j, none⟩ = wr.cell? ⟨bo, j, none⟩ := fun j hj => by
          rw [World.cell?_of_block (w := w6.drew) (o7.2.1 bo (fun e => n2 e.symm))]
          show w6.cell? _ = _
          rw [HW6.out, World.cell?_setCell_other _ _ _ _ (by simp <;> omega), World.cell?_of_block (w := w4) (hB5.block bo (by omega)), World.cell?_of_block (w := w3) (hO4.2.1 bo (by omega)), World.cell?_of_block (w := wr) (hB3.block bo hbs)]
        have hlt' : (R.take i).length = i := by simp; omega
        have own1 : OwnAt w7 w.heap.size wr.heap.size bo B C (R.take i) := hown.keepOuter (fun k _ h2 h3 => sw k h2 h3) (fun j hj => cw j (by omega)) (by omega)
        have own2 := own1.snoc (hi' := w7.heap.size) hlo (by omega) (by omega) (Nat.le_refl _) bi 16 xs (by omega) (by have := hBr.size; omega) (by omega) n2 (by rw [hx16]; unfold maxLen; omega) k7.row (by rw [hlt', hx16]; exact c7)
        refine ⟨i + 1, by omega, by go_num, by omega, ?_, ⟨_, _, by rw [take_snoc R i hiR, HX.out]; exact own2⟩, ?_⟩
        · intro j hj
          have h5 := hth5 j hj
          simp only [Nat.zero_add] at h5 ⊢
          have eb : w7.frozen? ⟨bo, j, none⟩ = w6.frozen? ⟨bo, j, none⟩ := World.frozen?_of_block (w := w6) (o7.2.1 bo (fun e => n2 e.symm))
          rw [eb, HW6.out, World.frozen?_setCell]
          refine ⟨?_, h5.2⟩
          by_cases e : j = i
          · subst e; rw [c7]; rfl
          · rw [cw j e]; have := (hth j hj).1; simpa using this
        · have hBw : Below w.heap.size w w5 := ((hBr.trans (hB3.mono hBr.size)).trans (hO4.2.2 _ (by have := hBr.size; omega))).trans (hB5.mono (by have := hBr.size; omega))
          refine Below.trans (b := w6) (by rw [HW6.out]; exact hBw.setCell hlo _) (Below.trans (b := w6.drew) (Below.refl _ _).drew (o7.2.2 _ (by have := hBr.size; omega)))
      case measure => simp [intOf]; omega
    · obtain rfl : i = 4 := by omega
      rw [List.take_of_length_le (by rw [hR.1]; omega)] at hown
      go_wp2
      go_ret
      exact ⟨_, rfl, ⟨by rw [hR.1]; unfold maxLen; omega, _, _, bo, B, C, by rw [hR.1]; rfl, fun _ => rfl, hown⟩, hBr⟩

end Go.Proofs.Ytapchjkiiifhdaa.sk
