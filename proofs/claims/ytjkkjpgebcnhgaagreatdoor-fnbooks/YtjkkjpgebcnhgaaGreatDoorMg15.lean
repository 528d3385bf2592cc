/- Texts laid together: Cz0 Cz1. -/
import Derived.Test.YtjkkjpgebcnhgaaGreatDoorMg10
import Derived.Lib.ItoaNum
import Derived.Lib.AtoiTie
import Derived.Lib.ParseIntBTie
import Derived.Lib.Split
import Derived.Lib.Join
/- Mathematics of chapter 11, what stands between the library's words and ours, no Go in sight: numbers read and shown, words joined and split, a line cut off. -/
namespace Go.Proofs.YtjkkjpgebcnhgaaGreatDoor.cm
open Go.RowKit
set_option linter.unusedVariables false

/-! ### numbers -/
theorem dec_digs (n : Nat) : Lib.decDigits n = digs n := by
  induction n using Nat.strongRecOn with
  | _ n ih =>
    rw [Lib.decDigits]
    by_cases h : n < 10
    · rw [dif_pos h, digs_small h]; rfl
    · rw [dif_neg h, digs_big h, ih (n / 10) (by omega)]; rfl
/-- what a word tells as a number, and whether it is one -/
def rdF (l : List UInt8) : Int × Bool :=
  if l.head? = some 45 then (if canon l.tail = true ∧ l.tail.head? ≠ some 48 then (-(val 0 l.tail : Nat), true) else (0, false))
  else if canon l = true then ((val 0 l : Nat), true) else (0, false)
theorem rdF_yes {l : List UInt8} (h : canon l = true) : rdF l = (((val 0 l : Nat) : Int), true) := by
  unfold rdF
  rw [if_neg (fun e => by rw [canon_minus e] at h; cases h), if_pos h]
theorem canon_pos {l : List UInt8} (h : canon l = true) (h48 : l.head? ≠ some 48) : 0 < val 0 l := by
  obtain ⟨h1, h2, -, -⟩ := canon_iff.1 h
  cases l with
  | nil => simp at h2
  | cons c r =>
    have hc := isD_iff.1 (h1 c (List.mem_cons_self ..))
    have hne : c ≠ 48 := fun e => h48 (by rw [e]; rfl)
    have h0 : 0 < c.toNat - 48 := by
      have : c.toNat ≠ 48 := fun e => hne (UInt8.toNat_inj.1 e)
      omega
    rw [val_cons, Nat.zero_mul, Nat.zero_add]
    exact val_pos (h1 c (List.mem_cons_self ..)) hne _ _ h0
theorem rdF_nat {l : List UInt8} (h : (rdF l).2 = true) (h0 : 0 ≤ (rdF l).1) : canon l = true := by
  unfold rdF at h h0
  split at h
  · split at h
    · rename_i e1 e2
      rw [if_pos e1, if_pos e2] at h0
      have := canon_pos e2.1 e2.2
      simp at h0
      omega
    · cases h
  · split at h
    · assumption
    · cases h
theorem digit_isD (b : UInt8) : Lib.digitVal b = if isD b = true then some (b.toNat - 48) else none := by
  unfold Lib.digitVal
  by_cases h : 48 ≤ b.toNat ∧ b.toNat ≤ 57
  · rw [if_pos h, if_pos (isD_iff.2 h)]
  · rw [if_neg h, if_neg (fun e => h (isD_iff.1 e))]
theorem decFrom_val : ∀ (l : List UInt8) (a : Nat), Lib.decFrom a l = if l.all isD = true then some (val a l) else none
  | [], a => by simp [Lib.decFrom, val_nil]
  | c :: r, a => by
    rw [Lib.decFrom, digit_isD]
    by_cases hc : isD c = true
    · rw [if_pos hc]
      dsimp only
      rw [decFrom_val r, val_cons, List.all_cons, hc, Bool.true_and]
    · rw [if_neg hc]
      have : isD c = false := by simpa using hc
      rw [List.all_cons, this]
      simp
theorem decNat_val {l : List UInt8} : Lib.decNat l = if l ≠ [] ∧ l.all isD = true then some (val 0 l) else none := by
  unfold Lib.decNat
  cases l with
  | nil => simp
  | cons c r =>
    rw [decFrom_val]
    by_cases h : (c :: r).all isD = true
    · simp [h]
    · simp [h]
theorem all_of_canon {l : List UInt8} (h : canon l = true) : l.all isD = true ∧ l ≠ [] ∧ l.length ≤ 9 := by
  obtain ⟨h1, h2, h3, -⟩ := canon_iff.1 h
  exact ⟨List.all_eq_true.2 h1, fun e => by rw [e] at h2; simp at h2, h3⟩
theorem canon_of_digs {n : Nat} {l : List UInt8} (h : digs n = l) (h9 : l.length ≤ 9) : canon l = true := by
  rw [← h]
  refine canon_iff.2 ⟨digs_all n, by have := List.length_pos_iff.2 (digs_ne n); omega, by rw [h]; exact h9, digs_head n⟩
/-- a number that is shown again as the word is one as it is written, of at most nine digits -/
theorem num_yes {l : List UInt8} (h9 : (Lib.trimPrefix l [45]).length ≤ 9) {n : Int} (h : Lib.atoi l = some n) : rdF l = if Lib.itoa n = l then (n, true) else (0, false) := by
  cases l with
  | nil => simp [Lib.atoi] at h
  | cons b r =>
    simp only [Lib.atoi] at h
    by_cases hb : b = 45
    · subst hb
      simp only [beq_self_eq_true, if_true, decNat_val] at h
      have ht : (Lib.trimPrefix (45 :: r) [45]) = r := by simp [Lib.trimPrefix, Lib.hasPrefix]
      rw [ht] at h9
      split at h
      · rename_i e
        simp at h
        subst h
        by_cases hv : val 0 r = 0
        · have hi : Lib.itoa (-(val 0 r : Nat)) ≠ 45 :: r := by
            rw [hv]
            intro q
            simp [Lib.itoa, dec_digs, digs_small] at q
            exact absurd q.1 (by decide)
          rw [if_neg hi]
          unfold rdF
          rw [if_pos (show (45 :: r).head? = some 45 from rfl), if_neg]
          rintro ⟨q1, q2⟩
          have := canon_pos q1 q2
          simp at this
          omega
        · have hneg : (-(val 0 r : Nat) : Int) < 0 := by omega
          have hi : Lib.itoa (-(val 0 r : Nat)) = 45 :: digs (val 0 r) := by
            unfold Lib.itoa
            rw [if_pos hneg, dec_digs]
            simp
          rw [hi]
          unfold rdF
          rw [if_pos (show (45 :: r).head? = some 45 from rfl)]
          by_cases hd : digs (val 0 r) = r
          · have hc := canon_of_digs hd h9
            have h48 : (45 :: r).tail.head? ≠ some 48 := fun q => by
              have h1 := (canon_iff.1 hc).2.2.2 q
              simp only [List.tail_cons] at q
              match r, q, h1 with
              | [c], q, _ =>
                simp at q
                subst q
                exact hv (by rw [val_cons, val_nil]; rfl)
            rw [if_pos (show canon (45 :: r).tail = true ∧ (45 :: r).tail.head? ≠ some 48 from ⟨hc, h48⟩), hd, if_pos rfl]
            rfl
          · rw [if_neg (fun q => hd (digs_canon q.1)), if_neg (fun q => hd (by simpa using q))]
      · cases h
    · by_cases hp : b = 43
      · subst hp
        simp only [show ((43 : UInt8) == 45) = false from rfl, beq_self_eq_true, if_true] at h
        have hx : Lib.itoa n ≠ 43 :: r := by
          intro q
          unfold Lib.itoa at q
          split at q
          · simp at q
          · rw [dec_digs] at q
            have := digs_all n.toNat 43 (by rw [q]; simp)
            exact absurd this (by decide)
        rw [if_neg hx]
        unfold rdF
        rw [if_neg (by simp), if_neg]
        intro q
        have := (canon_iff.1 q).1 43 (by simp)
        exact absurd this (by decide)
      · have e1 : (b == 45) = false := by simpa using hb
        have e2 : (b == 43) = false := by simpa using hp
        have ht : (Lib.trimPrefix (b :: r) [45]) = b :: r := by
          have : Lib.hasPrefix (b :: r) [45] = false := by simp [Lib.hasPrefix, List.isPrefixOf]; exact fun q => hb (Eq.symm q)
          unfold Lib.trimPrefix
          rw [this]
          rfl
        rw [ht] at h9
        simp only [e1, e2, Bool.false_eq_true, if_false, decNat_val] at h
        split at h
        · rename_i e
          simp at h
          subst h
          have hi : Lib.itoa (val 0 (b :: r) : Nat) = digs (val 0 (b :: r)) := by
            unfold Lib.itoa
            rw [if_neg (by omega), dec_digs]
            simp
          rw [hi]
          unfold rdF
          rw [if_neg (by simp; exact hb)]
          by_cases hd : digs (val 0 (b :: r)) = b :: r
          · rw [if_pos (canon_of_digs hd h9), if_pos hd]
          · rw [if_neg (fun q => hd (digs_canon q)), if_neg hd]
        · cases h
theorem num_none {l : List UInt8} (h : Lib.atoi l = none) : rdF l = (0, false) := by
  cases l with
  | nil => simp [rdF, canon]
  | cons b r =>
    simp only [Lib.atoi] at h
    unfold rdF
    by_cases hb : b = 45
    · subst hb
      simp only [beq_self_eq_true, if_true, decNat_val] at h
      rw [if_pos (show (45 :: r).head? = some 45 from rfl), if_neg]
      rintro ⟨q1, -⟩
      obtain ⟨a1, a2, -⟩ := all_of_canon q1
      simp only [List.tail_cons] at a1 a2
      rw [if_pos ⟨a2, a1⟩] at h
      cases h
    · rw [if_neg (by simp; exact hb), if_neg]
      intro q
      have e1 : (b == 45) = false := by simpa using hb
      have hp : b ≠ 43 := fun e => by
        subst e
        have := (canon_iff.1 q).1 43 (by simp)
        exact absurd this (by decide)
      have e2 : (b == 43) = false := by simpa using hp
      obtain ⟨a1, a2, -⟩ := all_of_canon q
      simp only [e1, e2, Bool.false_eq_true, if_false, decNat_val] at h
      rw [if_pos ⟨a2, a1⟩] at h
      cases h
theorem num_long {l : List UInt8} (h9 : 9 < (Lib.trimPrefix l [45]).length) : rdF l = (0, false) := by
  unfold rdF
  cases l with
  | nil => simp [Lib.trimPrefix] at h9
  | cons b r =>
    by_cases hb : b = 45
    · subst hb
      have ht : (Lib.trimPrefix (45 :: r) [45]) = r := by simp [Lib.trimPrefix, Lib.hasPrefix]
      rw [ht] at h9
      rw [if_pos (show (45 :: r).head? = some 45 from rfl), if_neg]
      rintro ⟨q1, -⟩
      have := (all_of_canon q1).2.2
      simp only [List.tail_cons] at this
      omega
    · have ht : (Lib.trimPrefix (b :: r) [45]) = b :: r := by
        have : Lib.hasPrefix (b :: r) [45] = false := by simp [Lib.hasPrefix, List.isPrefixOf]; exact fun q => hb (Eq.symm q)
        unfold Lib.trimPrefix
        rw [this]
        rfl
      rw [ht] at h9
      rw [if_neg (by simp; exact hb), if_neg]
      intro q
      have := (all_of_canon q).2.2
      omega
theorem parse_short {l : List UInt8} (hl : l.length ≤ 18) : Lib.parseIntB 64 l = Lib.NumEnd.ofOption (Lib.atoi l) := by
  rw [Lib.parseIntB_64, Lib.atoiAll_short l hl]
theorem trim_len (l : List UInt8) : l.length ≤ (Lib.trimPrefix l [45]).length + 1 := by
  unfold Lib.trimPrefix
  split
  · rw [List.length_drop]; simp; omega
  · omega

end Go.Proofs.YtjkkjpgebcnhgaaGreatDoor.cm
/- Mathematics of chapter 11: how the program reads a line word by word, and that it reads what the model reads. No Go in sight. -/
namespace Go.Proofs.YtjkkjpgebcnhgaaGreatDoor.cm
open Go.RowKit
open Go.Proofs.YtjkkjpgebcnhgaaGreatDoor.rg (nameB nbB nameB_size)
set_option linter.unusedVariables false

/-- what is told of a verb: name, flags, until, bytes, cas, delta, quiet -/
def pN (v : Int) : Bool := decide (v ≠ 13)
def pU (v : Int) : Bool := full v || decide (v = 11)
def pC (v : Int) : Bool := decide (v = 8)
def pQ (v : Int) : Bool := decide (v ≠ 1) && decide (v ≠ 2)
/-- the reader: the words that are left; is something wrong? -/
structure Rs where
  l : List (List UInt8)
  x : Bool
def wordF (s : Rs) : List UInt8 × Rs := match s.l with
  | [] => ([], ⟨[], true⟩)
  | a :: r => (a, ⟨r, s.x⟩)
def nameF (t : Bool) (s : Rs) : List UInt8 × Rs := if t then wordF s else ([], s)
def numF (t : Bool) (s : Rs) : Int × Rs := if t then ((rdF (wordF s).1).1, ⟨(wordF s).2.l, (wordF s).2.x || !(rdF (wordF s).1).2⟩) else (0, s)
/-- what is read, step by step -/
def hA (v : Int) (ws : List (List UInt8)) := nameF (pN v) ⟨ws, false⟩
def hF (v : Int) (ws : List (List UInt8)) := numF (full v) (hA v ws).2
def hU (v : Int) (ws : List (List UInt8)) := numF (pU v) (hF v ws).2
def hS (v : Int) (ws : List (List UInt8)) := numF (sized v) (hU v ws).2
def hC (v : Int) (ws : List (List UInt8)) := numF (pC v) (hS v ws).2
def hD (v : Int) (ws : List (List UInt8)) := numF (stepV v) (hC v ws).2
end Go.Proofs.YtjkkjpgebcnhgaaGreatDoor.cm
