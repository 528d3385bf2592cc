/- Texts laid together: Cz0 Cz1. -/
import Derived.Test.YtaabmkhckbndgaaGreatDoorMg02
import Derived.Lib.ItoaNum
import Derived.Lib.AtoiTie
import Derived.Lib.ParseIntBTie
import Derived.Lib.Split
import Derived.Lib.Join
/- Mathematics of chapter 11, what stands between the library's words and ours, no Go in sight: numbers read and shown, words joined and split, a line cut off. -/
namespace Go.Proofs.YtaabmkhckbndgaaGreatDoor.cm
open Go.RowKit
set_option linter.unusedVariables false

/-! ### numbers -/
theorem dec_digs (n : Nat) : Lib.decDigits n = digs n := by
  induction n using Nat.strongRecOn with
  | _ n ih =>
    rw [Lib.decDigits]
    by_cases h : n < 10
    · rw [dif_pos h, digs_small h]; rfl
    · rw [dif_neg h, digs_big h, ih (n / 10) (by omega)]; rfl
/-- what a word tells as a number, and whether it is one -/
def rdF (l : List UInt8) : Int × Bool :=
  if l.head? = some 45 then (if canon l.tail = true ∧ l.tail.head? ≠ some 48 then (-(val 0 l.tail : Nat), true) else (0, false))
  else if canon l = true then ((val 0 l : Nat), true) else (0, false)
theorem rdF_yes {l : List UInt8} (h : canon l = true) : rdF l = (((val 0 l : Nat) : Int), true) := by
  unfold rdF
  rw [if_neg (fun e => by rw [canon_minus e] at h; cases h), if_pos h]
theorem canon_pos {l : List UInt8} (h : canon l = true) (h48 : l.head? ≠ some 48) : 0 < val 0 l := by
  obtain ⟨h1, h2, -, -⟩ := canon_iff.1 h
  cases l with
  | nil => simp at h2
  | cons c r =>
    have hc := isD_iff.1 (h1 c (List.mem_cons_self ..))
    have hne : c ≠ 48 := fun e => h48 (by rw [e]; rfl)
    have h0 : 0 < c.toNat - 48 := by
      have : c.toNat ≠ 48 := fun e => hne (UInt8.toNat_inj.1 e)
      omega
    rw [val_cons, Nat.zero_mul, Nat.zero_add]
    exact val_pos (h1 c (List.mem_cons_self ..)) hne _ _ h0
theorem rdF_nat {l : List UInt8} (h : (rdF l).2 = true) (h0 : 0 ≤ (rdF l).1) : canon l = true := by
  unfold rdF at h h0
  split at h
  · split at h
    · rename_i e1 e2
      rw [if_pos e1, if_pos e2] at h0
      have := canon_pos e2.1 e2.2
      simp at h0
      omega
    · cases h
  · split at h
    · assumption
    · cases h
theorem rdF_no {l : List UInt8} (h : (rdF l).2 = false) : rdF l = (0, false) ∧ canon l = false := by
  refine ⟨?_, ?_⟩
  · unfold rdF at h ⊢
    split at h
    · rename_i e1
      rw [if_pos e1]
      split at h
      · cases h
      · rename_i e2; rw [if_neg e2]
    · rename_i e1
      rw [if_neg e1]
      split at h
      · cases h
      · rename_i e2; rw [if_neg e2]
  · cases hc : canon l with
    | false => rfl
    | true => rw [rdF_yes hc] at h; cases h
theorem rdF_bd (l : List UInt8) : -1000000000 < (rdF l).1 ∧ (rdF l).1 < 1000000000 := by
  unfold rdF
  split
  · split
    · rename_i e; have := val_canon e.1; simp; omega
    · simp
  · split
    · rename_i e; have := val_canon e; simp; omega
    · simp
theorem digit_isD (b : UInt8) : Lib.digitVal b = if isD b = true then some (b.toNat - 48) else none := by
  unfold Lib.digitVal
  by_cases h : 48 ≤ b.toNat ∧ b.toNat ≤ 57
  · rw [if_pos h, if_pos (isD_iff.2 h)]
  · rw [if_neg h, if_neg (fun e => h (isD_iff.1 e))]
theorem decFrom_val : ∀ (l : List UInt8) (a : Nat), Lib.decFrom a l = if l.all isD = true then some (val a l) else none
  | [], a => by simp [Lib.decFrom, val_nil]
  | c :: r, a => by
    rw [Lib.decFrom, digit_isD]
    by_cases hc : isD c = true
    · rw [if_pos hc]
      dsimp only
      rw [decFrom_val r, val_cons, List.all_cons, hc, Bool.true_and]
    · rw [if_neg hc]
      have : isD c = false := by simpa using hc
      rw [List.all_cons, this]
      simp
theorem decNat_val {l : List UInt8} : Lib.decNat l = if l ≠ [] ∧ l.all isD = true then some (val 0 l) else none := by
  unfold Lib.decNat
  cases l with
  | nil => simp
  | cons c r =>
    rw [decFrom_val]
    by_cases h : (c :: r).all isD = true
    · simp [h]
    · simp [h]
theorem all_of_canon {l : List UInt8} (h : canon l = true) : l.all isD = true ∧ l ≠ [] ∧ l.length ≤ 9 := by
  obtain ⟨h1, h2, h3, -⟩ := canon_iff.1 h
  exact ⟨List.all_eq_true.2 h1, fun e => by rw [e] at h2; simp at h2, h3⟩
theorem canon_of_digs {n : Nat} {l : List UInt8} (h : digs n = l) (h9 : l.length ≤ 9) : canon l = true := by
  rw [← h]
  refine canon_iff.2 ⟨digs_all n, by have := List.length_pos_iff.2 (digs_ne n); omega, by rw [h]; exact h9, digs_head n⟩
/-- a number that is shown again as the word is one as it is written, of at most nine digits -/
theorem num_yes {l : List UInt8} (h9 : (Lib.trimPrefix l [45]).length ≤ 9) {n : Int} (h : Lib.atoi l = some n) : rdF l = if Lib.itoa n = l then (n, true) else (0, false) := by
  cases l with
  | nil => simp [Lib.atoi] at h
  | cons b r =>
    simp only [Lib.atoi] at h
    by_cases hb : b = 45
    · subst hb
      simp only [beq_self_eq_true, if_true, decNat_val] at h
      have ht : (Lib.trimPrefix (45 :: r) [45]) = r := by simp [Lib.trimPrefix, Lib.hasPrefix]
      rw [ht] at h9
      split at h
      · rename_i e
        simp at h
        subst h
        by_cases hv : val 0 r = 0
        · have hi : Lib.itoa (-(val 0 r : Nat)) ≠ 45 :: r := by
            rw [hv]
            intro q
            simp [Lib.itoa, dec_digs, digs_small] at q
            exact absurd q.1 (by decide)
          rw [if_neg hi]
          unfold rdF
          rw [if_pos (show (45 :: r).head? = some 45 from rfl), if_neg]
          rintro ⟨q1, q2⟩
          have := canon_pos q1 q2
          simp at this
          omega
        · have hneg : (-(val 0 r : Nat) : Int) < 0 := by omega
          have hi : Lib.itoa (-(val 0 r : Nat)) = 45 :: digs (val 0 r) := by
            unfold Lib.itoa
            rw [if_pos hneg, dec_digs]
            simp
          rw [hi]
          unfold rdF
          rw [if_pos (show (45 :: r).head? = some 45 from rfl)]
          by_cases hd : digs (val 0 r) = r
          · have hc := canon_of_digs hd h9
            have h48 : (45 :: r).tail.head? ≠ some 48 := fun q => by
              have h1 := (canon_iff.1 hc).2.2.2 q
              simp only [List.tail_cons] at q
              match r, q, h1 with
              | [c], q, _ =>
                simp at q
                subst q
                exact hv (by rw [val_cons, val_nil]; rfl)
            rw [if_pos (show canon (45 :: r).tail = true ∧ (45 :: r).tail.head? ≠ some 48 from ⟨hc, h48⟩), hd, if_pos rfl]
            rfl
          · rw [if_neg (fun q => hd (digs_canon q.1)), if_neg (fun q => hd (by simpa using q))]
      · cases h
    · by_cases hp : b = 43
      · subst hp
        simp only [show ((43 : UInt8) == 45) = false from rfl, beq_self_eq_true, if_true] at h
        have hx : Lib.itoa n ≠ 43 :: r := by
          intro q
          unfold Lib.itoa at q
          split at q
          · simp at q
          · rw [dec_digs] at q
            have := digs_all n.toNat 43 (by rw [q]; simp)
            exact absurd this (by decide)
        rw [if_neg hx]
        unfold rdF
        rw [if_neg (by simp), if_neg]
        intro q
        have := (canon_iff.1 q).1 43 (by simp)
        exact absurd this (by decide)
      · have e1 : (b == 45) = false := by simpa using hb
        have e2 : (b == 43) = false := by simpa using hp
        have ht : (Lib.trimPrefix (b :: r) [45]) = b :: r := by
          have : Lib.hasPrefix (b :: r) [45] = false := by simp [Lib.hasPrefix, List.isPrefixOf]; exact fun q => hb (Eq.symm q)
          unfold Lib.trimPrefix
          rw [this]
          rfl
        rw [ht] at h9
        simp only [e1, e2, Bool.false_eq_true, if_false, decNat_val] at h
        split at h
        · rename_i e
          simp at h
          subst h
          have hi : Lib.itoa (val 0 (b :: r) : Nat) = digs (val 0 (b :: r)) := by
            unfold Lib.itoa
            rw [if_neg (by omega), dec_digs]
            simp
          rw [hi]
          unfold rdF
          rw [if_neg (by simp; exact hb)]
          by_cases hd : digs (val 0 (b :: r)) = b :: r
          · rw [if_pos (canon_of_digs hd h9), if_pos hd]
          · rw [if_neg (fun q => hd (digs_canon q)), if_neg hd]
        · cases h
theorem num_none {l : List UInt8} (h : Lib.atoi l = none) : rdF l = (0, false) := by
  cases l with
  | nil => simp [rdF, canon]
  | cons b r =>
    simp only [Lib.atoi] at h
    unfold rdF
    by_cases hb : b = 45
    · subst hb
      simp only [beq_self_eq_true, if_true, decNat_val] at h
      rw [if_pos (show (45 :: r).head? = some 45 from rfl), if_neg]
      rintro ⟨q1, -⟩
      obtain ⟨a1, a2, -⟩ := all_of_canon q1
      simp only [List.tail_cons] at a1 a2
      rw [if_pos ⟨a2, a1⟩] at h
      cases h
    · rw [if_neg (by simp; exact hb), if_neg]
      intro q
      have e1 : (b == 45) = false := by simpa using hb
      have hp : b ≠ 43 := fun e => by
        subst e
        have := (canon_iff.1 q).1 43 (by simp)
        exact absurd this (by decide)
      have e2 : (b == 43) = false := by simpa using hp
      obtain ⟨a1, a2, -⟩ := all_of_canon q
      simp only [e1, e2, Bool.false_eq_true, if_false, decNat_val] at h
      rw [if_pos ⟨a2, a1⟩] at h
      cases h
theorem num_long {l : List UInt8} (h9 : 9 < (Lib.trimPrefix l [45]).length) : rdF l = (0, false) := by
  unfold rdF
  cases l with
  | nil => simp [Lib.trimPrefix] at h9
  | cons b r =>
    by_cases hb : b = 45
    · subst hb
      have ht : (Lib.trimPrefix (45 :: r) [45]) = r := by simp [Lib.trimPrefix, Lib.hasPrefix]
      rw [ht] at h9
      rw [if_pos (show (45 :: r).head? = some 45 from rfl), if_neg]
      rintro ⟨q1, -⟩
      have := (all_of_canon q1).2.2
      simp only [List.tail_cons] at this
      omega
    · have ht : (Lib.trimPrefix (b :: r) [45]) = b :: r := by
        have : Lib.hasPrefix (b :: r) [45] = false := by simp [Lib.hasPrefix, List.isPrefixOf]; exact fun q => hb (Eq.symm q)
        unfold Lib.trimPrefix
        rw [this]
        rfl
      rw [ht] at h9
      rw [if_neg (by simp; exact hb), if_neg]
      intro q
      have := (all_of_canon q).2.2
      omega
theorem parse_short {l : List UInt8} (hl : l.length ≤ 18) : Lib.parseIntB 64 l = Lib.NumEnd.ofOption (Lib.atoi l) := by
  rw [Lib.parseIntB_64, Lib.atoiAll_short l hl]
theorem trim_len (l : List UInt8) : l.length ≤ (Lib.trimPrefix l [45]).length + 1 := by
  unfold Lib.trimPrefix
  split
  · rw [List.length_drop]; simp; omega
  · omega

/-! ### words -/
theorem join_words : ∀ ws : List (List UInt8), Lib.join ws [32] = wordsL ws
  | [] => rfl
  | [w] => by rw [Lib.join_one]; rfl
  | w :: v :: r => by
    rw [wordsL_cons (by simp), ← join_words (v :: r), Lib.join_cons, Lib.join_cons]
    simp [Lib.joinTail]
theorem index_one (x : UInt8) : ∀ l : List UInt8, (x ∉ l ∧ Lib.index l [x] = -1) ∨ ∃ a b, l = a ++ x :: b ∧ x ∉ a ∧ Lib.index l [x] = (a.length : Int)
  | [] => .inl ⟨by simp, rfl⟩
  | c :: r => by
    by_cases h : c = x
    · subst h
      refine .inr ⟨[], r, rfl, by simp, ?_⟩
      unfold Lib.index
      rw [if_pos (by simp)]
      rfl
    · have hp : ¬ ([x].isPrefixOf (c :: r) = true) := by simp; exact fun e => h e.symm
      rcases index_one x r with ⟨h1, h2⟩ | ⟨a, b, h1, h2, h3⟩
      · refine .inl ⟨by simp; exact ⟨fun e => h e.symm, h1⟩, ?_⟩
        unfold Lib.index
        rw [if_neg hp, h2]
        rfl
      · refine .inr ⟨c :: a, b, by rw [h1]; rfl, by simp; exact ⟨fun e => h e.symm, h2⟩, ?_⟩
        unfold Lib.index
        rw [if_neg hp, h3, if_neg (by simp)]
        simp
theorem splitK_all (x : UInt8) : ∀ (n f : Nat) (l : List UInt8), l.length ≤ n → l.length < f → Lib.splitK [x] 0 (Lib.countFrom [x] f l) l = splitL x l
  | n, 0, l, _, h => by omega
  | n, f + 1, l, hn, hf => by
    unfold Lib.countFrom
    rcases index_one x l with ⟨h1, h2⟩ | ⟨a, b, h1, h2, h3⟩
    · rw [h2, split_nox l h1]
      rfl
    · have hne : ¬ ((Lib.index l [x] == -1) = true) := by rw [h3]; simp
      have hl : l.length = a.length + 1 + b.length := by rw [h1]; simp; omega
      rw [if_neg hne, Nat.add_comm 1]
      unfold Lib.splitK
      rw [if_neg hne, h3]
      have ed : l.drop ((a.length : Int).toNat + [x].length) = b := by
        rw [h1]
        simp
      have et : l.take ((a.length : Int).toNat + 0) = a := by rw [h1]; simp
      rw [ed, et, splitK_all x b.length f b (Nat.le_refl _) (by omega), h1, split_appx a b h2]
theorem split_words' (x : UInt8) (l : List UInt8) : Lib.split l [x] = splitL x l := splitK_all x l.length _ l (Nat.le_refl _) (by omega)
/-- a line cut off -/
theorem cut_line (l : List UInt8) : (10 ∉ l ∧ Lib.cut l [10] = (l, [], false)) ∨ ∃ a b, l = a ++ 10 :: b ∧ 10 ∉ a ∧ Lib.cut l [10] = (a, b, true) := by
  rcases index_one 10 l with ⟨h1, h2⟩ | ⟨a, b, h1, h2, h3⟩
  · refine .inl ⟨h1, ?_⟩
    unfold Lib.cut
    rw [h2, if_neg (by omega)]
  · refine .inr ⟨a, b, h1, h2, ?_⟩
    unfold Lib.cut
    rw [h3, if_pos (by omega), h1]
    simp
end Go.Proofs.YtaabmkhckbndgaaGreatDoor.cm
/- Mathematics of chapter 11: how the program reads a line word by word, and that it reads what the model reads. No Go in sight. -/
namespace Go.Proofs.YtaabmkhckbndgaaGreatDoor.cm
open Go.RowKit
open Go.Proofs.YtaabmkhckbndgaaGreatDoor.rg (nameB nbB nameB_size)
set_option linter.unusedVariables false

/-- what is told of a verb: name, flags, until, bytes, cas, delta, quiet -/
def pN (v : Int) : Bool := decide (v ≠ 13)
def pU (v : Int) : Bool := full v || decide (v = 11)
def pC (v : Int) : Bool := decide (v = 8)
def pQ (v : Int) : Bool := decide (v ≠ 1) && decide (v ≠ 2)
/-- the reader: the words that are left; is something wrong? -/
structure Rs where
  l : List (List UInt8)
  x : Bool
def wordF (s : Rs) : List UInt8 × Rs := match s.l with
  | [] => ([], ⟨[], true⟩)
  | a :: r => (a, ⟨r, s.x⟩)
def nameF (t : Bool) (s : Rs) : List UInt8 × Rs := if t then wordF s else ([], s)
def numF (t : Bool) (s : Rs) : Int × Rs := if t then ((rdF (wordF s).1).1, ⟨(wordF s).2.l, (wordF s).2.x || !(rdF (wordF s).1).2⟩) else (0, s)
def quietF (t : Bool) (s : Rs) : Bool × Rs := if t then (match s.l with
  | [] => (false, s)
  | a :: r => (true, ⟨r, s.x || !(a == quiet)⟩)) else (false, s)
theorem nameF_ok {t : Bool} {s : Rs} (h : (nameF t s).2.x = false) : s.x = false ∧ s.l = (if t then [(nameF t s).1] else []) ++ (nameF t s).2.l := by
  obtain ⟨l, x⟩ := s
  cases t with
  | false => exact ⟨h, rfl⟩
  | true =>
    cases l with
    | nil => simp [nameF, wordF] at h
    | cons a r => exact ⟨h, rfl⟩
theorem numF_ok {t : Bool} {s : Rs} (h : (numF t s).2.x = false) (h0 : 0 ≤ (numF t s).1) : s.x = false ∧ s.l = (if t then [digs (numF t s).1.toNat] else []) ++ (numF t s).2.l := by
  obtain ⟨l, x⟩ := s
  cases t with
  | false => exact ⟨h, rfl⟩
  | true =>
    cases l with
    | nil => simp [numF, wordF] at h
    | cons a r =>
      simp only [numF, wordF, if_true, Bool.or_eq_false_iff, Bool.not_eq_false'] at h h0
      have hc := rdF_nat h.2 h0
      refine ⟨h.1, ?_⟩
      simp only [numF, wordF, if_true, rdF_yes hc, Int.toNat_natCast, digs_canon hc]
      rfl
theorem numF_off {s : Rs} : numF false s = (0, s) := rfl
theorem quietF_ok {t : Bool} {s : Rs} (h : (quietF t s).2.x = false) (hl : (quietF t s).2.l = []) : s.x = false ∧ s.l = if (quietF t s).1 then [quiet] else [] := by
  obtain ⟨l, x⟩ := s
  cases t with
  | false => exact ⟨h, hl⟩
  | true =>
    cases l with
    | nil => exact ⟨h, rfl⟩
    | cons a r =>
      simp only [quietF, if_true, Bool.or_eq_false_iff, Bool.not_eq_false', beq_iff_eq] at h hl ⊢
      rw [hl, h.2]
      exact ⟨h.1, rfl⟩
theorem quietF_told {t : Bool} {s : Rs} (h : (quietF t s).1 = true) : t = true := by
  cases t with
  | false => exact h
  | true => rfl
/-- what is read, step by step -/
def hA (v : Int) (ws : List (List UInt8)) := nameF (pN v) ⟨ws, false⟩
def hF (v : Int) (ws : List (List UInt8)) := numF (full v) (hA v ws).2
def hU (v : Int) (ws : List (List UInt8)) := numF (pU v) (hF v ws).2
def hS (v : Int) (ws : List (List UInt8)) := numF (sized v) (hU v ws).2
def hC (v : Int) (ws : List (List UInt8)) := numF (pC v) (hS v ws).2
def hD (v : Int) (ws : List (List UInt8)) := numF (stepV v) (hC v ws).2
def hQ (v : Int) (ws : List (List UInt8)) := quietF (pQ v) (hD v ws).2
def headC (v : Int) (ws : List (List UInt8)) : Cm := ⟨v, tx (hA v ws).1, (hF v ws).1, (hU v ws).1, emp, (hC v ws).1, (hD v ws).1, (hQ v ws).1⟩
noncomputable def headOk (v : Int) (ws : List (List UInt8)) : Bool := (!(hQ v ws).2.x && (hQ v ws).2.l.isEmpty) && cmdB (headC v ws) && (decide (0 ≤ (hS v ws).1) && decide ((hS v ws).1 ≤ 64))
theorem headOk_iff {v : Int} {ws : List (List UInt8)} : headOk v ws = true ↔ (hQ v ws).2.x = false ∧ (hQ v ws).2.l = [] ∧ COk (headC v ws) ∧ 0 ≤ (hS v ws).1 ∧ (hS v ws).1 ≤ 64 := by
  unfold headOk
  simp only [Bool.and_eq_true, Bool.not_eq_true', List.isEmpty_iff, cmdB_iff, decide_eq_true_eq, and_assoc]
theorem words_key {v : Int} (h0 : 1 ≤ v) (h1 : v ≤ 13) (a : List UInt8) (f u s c d : Nat) (q : List (List UInt8)) (hs : sized v = false → s = 0) :
    (if pN v then [a] else []) ++ ((if full v then [digs f] else []) ++ ((if pU v then [digs u] else []) ++ ((if sized v then [digs s] else []) ++ ((if pC v then [digs c] else []) ++ ((if stepV v then [digs d] else []) ++ q))))) =
    (if v = 13 then [] else [a]) ++ (((if full v then [f, u] else []) ++ (if sized v then [s] else if v = 11 then [u] else if stepV v then [d] else []) ++ (if v = 8 then [c] else [])).map digs) ++ q := by
  rcases verb_cases h0 h1 with rfl | rfl | rfl | rfl | rfl | rfl | rfl | rfl | rfl | rfl | rfl | rfl | rfl <;> simp [pN, pU, pC, full, sized, stepV]
/-- what the program reads as right is what the words show -/
theorem head_ws {v : Int} (h0 : 1 ≤ v) (h1 : v ≤ 13) {ws : List (List UInt8)} (h : headOk v ws = true) : wordsK (headC v ws) (hS v ws).1.toNat = vw v :: ws := by
  obtain ⟨q1, q2, ok, s0, s1⟩ := headOk_iff.1 h
  have f0 : 0 ≤ (hF v ws).1 := ok.f1.1
  have u0 : 0 ≤ (hU v ws).1 := ok.u1.1
  have d0 : 0 ≤ (hD v ws).1 := ok.d1.1
  have c0 : 0 ≤ (hC v ws).1 := by
    by_cases e : v = 8
    · have := (ok.c1 e).1
      show 0 ≤ (headC v ws).C
      omega
    · show 0 ≤ (headC v ws).C
      rw [ok.c8 e]
      exact Int.le_refl _
  obtain ⟨a7, b7⟩ := quietF_ok (t := pQ v) (s := (hD v ws).2) q1 q2
  obtain ⟨a6, b6⟩ := numF_ok (t := stepV v) (s := (hC v ws).2) a7 d0
  obtain ⟨a5, b5⟩ := numF_ok (t := pC v) (s := (hS v ws).2) a6 c0
  obtain ⟨a4, b4⟩ := numF_ok (t := sized v) (s := (hU v ws).2) a5 s0
  obtain ⟨a3, b3⟩ := numF_ok (t := pU v) (s := (hF v ws).2) a4 u0
  obtain ⟨a2, b2⟩ := numF_ok (t := full v) (s := (hA v ws).2) a3 f0
  obtain ⟨a1, b1⟩ := nameF_ok (t := pN v) (s := ⟨ws, false⟩) a2
  have hw : ws = (if pN v then [(hA v ws).1] else []) ++ ((if full v then [digs (hF v ws).1.toNat] else []) ++ ((if pU v then [digs (hU v ws).1.toNat] else []) ++ ((if sized v then [digs (hS v ws).1.toNat] else []) ++ ((if pC v then [digs (hC v ws).1.toNat] else []) ++ ((if stepV v then [digs (hD v ws).1.toNat] else []) ++ (if (hQ v ws).1 then [quiet] else [])))))) := by
    have e6 : (hC v ws).2.l = (if stepV v then [digs (hD v ws).1.toNat] else []) ++ (if (hQ v ws).1 then [quiet] else []) := b6.trans (congrArg _ b7)
    have e5 := b5.trans (congrArg _ e6)
    have e4 := b4.trans (congrArg _ e5)
    have e3 := b3.trans (congrArg _ e4)
    have e2 := b2.trans (congrArg _ e3)
    exact b1.trans (congrArg _ e2)
  have hs : sized v = false → (hS v ws).1.toNat = 0 := fun e => by
    unfold hS
    rw [e]
    rfl
  have key := words_key h0 h1 (hA v ws).1 (hF v ws).1.toNat (hU v ws).1.toNat (hS v ws).1.toNat (hC v ws).1.toNat (hD v ws).1.toNat (if (hQ v ws).1 then [quiet] else []) hs
  rw [key] at hw
  unfold wordsK numsK
  show vw v :: (if v = 13 then [] else [bs (tx (hA v ws).1)]) ++ _ ++ _ = _
  rw [bs_tx, List.cons_append, List.cons_append]
  exact congrArg (vw v :: ·) hw.symm
theorem numF_digs {n : Nat} (h : n ≤ 1000000) (r : List (List UInt8)) : numF true ⟨digs n :: r, false⟩ = ((n : Int), ⟨r, false⟩) := by
  have hc : canon (digs n) = true := canon_digs (by omega)
  simp only [numF, wordF, if_true, rdF_yes hc, val_digs]
  rfl
/-- a word's line that is shown is read as it is shown -/
theorem head_show {c : Cm} (ok : COk c) (hb : c.B = emp) {k : Nat} (hk : k ≤ 64) (hs : sized c.V = false → k = 0) {ws : List (List UInt8)} (hw : wordsK c k = vw c.V :: ws) : headC c.V ws = c ∧ (hS c.V ws).1 = k ∧ (hQ c.V ws).2.x = false ∧ (hQ c.V ws).2.l = [] := by
  have hws : ws = (if c.V = 13 then [] else [bs c.N]) ++ (numsK c k).map digs ++ (if c.Q then [quiet] else []) := by
    unfold wordsK at hw
    simp only [List.cons_append, List.cons.injEq, true_and] at hw
    exact hw.symm
  obtain ⟨V, N, F, U, B, C, D, Q⟩ := c
  have q0 := ok.q
  have n0 := ok.n0
  have f0 := ok.f
  have u0 := ok.u
  have c8 := ok.c8
  have d0 := ok.d
  have c1 := ok.c1
  have f1 := ok.f1
  have u1 := ok.u1
  have d1 := ok.d1
  have v0 := ok.v0
  have v1 := ok.v1
  clear ok hw
  dsimp only at *
  subst hb
  have eF : (F.toNat : Int) = F := by omega
  have eU : (U.toNat : Int) = U := by omega
  have eD : (D.toNat : Int) = D := by omega
  obtain ⟨rF, hrF⟩ : ∃ f : Nat, F = f := ⟨F.toNat, eF.symm⟩
  obtain ⟨rU, hrU⟩ : ∃ f : Nat, U = f := ⟨U.toNat, eU.symm⟩
  obtain ⟨rD, hrD⟩ : ∃ f : Nat, D = f := ⟨D.toNat, eD.symm⟩
  obtain ⟨rC, hrC⟩ : ∃ f : Nat, C = f := ⟨C.toNat, by
    by_cases e : V = 8
    · have := c1 e; omega
    · rw [c8 e]; rfl⟩
  subst hrF hrU hrD hrC
  have nF := numF_digs (n := rF) (by omega)
  have nU := numF_digs (n := rU) (by omega)
  have nD := numF_digs (n := rD) (by omega)
  have nC := numF_digs (n := rC) (by
    by_cases e : V = 8
    · have := c1 e; omega
    · have := c8 e; omega)
  have nK := numF_digs (n := k) (by omega)
  subst hws
  rcases verb_cases v0 v1 with rfl | rfl | rfl | rfl | rfl | rfl | rfl | rfl | rfl | rfl | rfl | rfl | rfl
  all_goals
    simp [full, sized, stepV] at f0 u0 c8 d0 hs n0 q0
    cases Q <;> (try simp at q0) <;> simp [headC, hQ, hD, hC, hS, hU, hF, hA, numsK, full, sized, stepV, pN, pU, pC, pQ, nameF, wordF, numF_off, quietF, nF, nU, nD, nC, nK, tx_bs, tx_nil, f0, u0, c8, d0, hs, n0]
/-- the program reads a line as the model does -/
theorem head_line {v : Int} (h0 : 1 ≤ v) (h1 : v ≤ 13) (ws : List (List UInt8)) : lineL v (vw v :: ws) = if headOk v ws = true then some (headC v ws, (hS v ws).1.toNat) else none := by
  by_cases h : headOk v ws = true
  · rw [if_pos h]
    have hw := head_ws h0 h1 h
    obtain ⟨q1, q2, ok, s0, s1⟩ := headOk_iff.1 h
    obtain ⟨k, hk⟩ : ∃ k, (hS v ws).1.toNat = k := ⟨_, rfl⟩
    have hk64 : k ≤ 64 := by omega
    rw [hk] at hw ⊢
    have hs : sized v = false → k = 0 := fun e => by
      rw [← hk]
      unfold hS
      rw [e]
      rfl
    obtain ⟨c, hc⟩ : ∃ c, headC v ws = c := ⟨_, rfl⟩
    have hcV : c.V = v := by rw [← hc]; rfl
    have hcB : c.B = emp := by rw [← hc]; rfl
    rw [hc] at hw ok ⊢
    have sz : (tx (List.replicate k (0 : UInt8))).size = k := by rw [tx_size]; simp
    have ok' : COk ⟨c.V, c.N, c.F, c.U, tx (List.replicate k 0), c.C, c.D, c.Q⟩ := ⟨ok.v0, ok.v1, ok.q, ok.n0, ok.nm, ok.f, ok.u, fun e => (by
      rw [hs (by rw [← hcV]; exact e)]; rfl), ok.c8, ok.d, ok.c1, ok.f1, ok.u1, by show (tx (List.replicate k (0 : UInt8))).size ≤ 64; omega, ok.d1⟩
    have := line_show ok'
    simp only [sz] at this
    have e1 : wordsK ⟨c.V, c.N, c.F, c.U, tx (List.replicate k 0), c.C, c.D, c.Q⟩ k = wordsK c k := rfl
    rw [e1, hw, hcV] at this
    rw [this]
    refine congrArg (fun x => some (x, k)) ?_
    unfold bare
    obtain ⟨V, N, F, U, B, C, D, Q⟩ := c
    dsimp only at hcB hcV ⊢
    rw [hcB, hcV]
  · rw [if_neg h]
    cases e : lineL v (vw v :: ws) with
    | none => rfl
    | some x =>
      obtain ⟨c, k⟩ := x
      obtain ⟨b1, b2, b3, b4, b5, b6⟩ := line_is e rfl
      subst b2
      obtain ⟨a1, a2, a3, a4⟩ := head_show b1 b3 b4 b5 b6
      refine absurd (headOk_iff.2 ⟨a3, a4, by rw [a1]; exact b1, by omega, by omega⟩) h
end Go.Proofs.YtaabmkhckbndgaaGreatDoor.cm
