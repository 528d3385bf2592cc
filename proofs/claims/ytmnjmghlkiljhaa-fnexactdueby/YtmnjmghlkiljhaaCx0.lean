/- Mathematics of numbers and words in bytes, no Go in sight: numbers are read from what they are shown as, and only from that; words with blanks between them. -/
import Derived.Test.YtmnjmghlkiljhaaRx0
namespace Go.Proofs.Ytmnjmghlkiljhaa.cm
open Go.RowKit
set_option linter.unusedVariables false

/-- a digit -/
def dg (d : Nat) : UInt8 := UInt8.ofNat (48 + d)
def isD (c : UInt8) : Bool := decide (48 ≤ c.toNat) && decide (c.toNat ≤ 57)
theorem isD_iff {c : UInt8} : isD c = true ↔ 48 ≤ c.toNat ∧ c.toNat ≤ 57 := by simp [isD]
theorem dg_nat {d : Nat} (h : d < 10) : (dg d).toNat = 48 + d := by
  unfold dg
  rw [UInt8.toNat_ofNat']
  omega
theorem dg_isD {d : Nat} (h : d < 10) : isD (dg d) = true := isD_iff.2 (by rw [dg_nat h]; omega)
theorem dg_of {c : UInt8} (h : isD c = true) : dg (c.toNat - 48) = c := by
  have h2 := isD_iff.1 h
  apply UInt8.toNat_inj.1
  rw [dg_nat (by omega)]
  omega
/-- what digits tell -/
def val (a : Nat) (l : List UInt8) : Nat := l.foldl (fun b c => b * 10 + (c.toNat - 48)) a
theorem val_nil (a : Nat) : val a [] = a := by unfold val; rw [List.foldl_nil]
theorem val_cons (a : Nat) (c : UInt8) (r : List UInt8) : val a (c :: r) = val (a * 10 + (c.toNat - 48)) r := by unfold val; rw [List.foldl_cons]
theorem val_snoc (c : UInt8) (a : Nat) (l : List UInt8) : val a (l ++ [c]) = val a l * 10 + (c.toNat - 48) := by
  unfold val
  rw [List.foldl_append, List.foldl_cons, List.foldl_nil]
/-- how a number is shown -/
def digs (n : Nat) : List UInt8 := if n < 10 then [dg n] else digs (n / 10) ++ [dg (n % 10)]
termination_by n
decreasing_by omega
theorem digs_small {n : Nat} (h : n < 10) : digs n = [dg n] := by rw [digs, if_pos h]
theorem digs_big {n : Nat} (h : ¬ n < 10) : digs n = digs (n / 10) ++ [dg (n % 10)] := by rw [digs, if_neg h]
theorem val_digs (n : Nat) : val 0 (digs n) = n := by
  induction n using Nat.strongRecOn with
  | _ n ih =>
    by_cases h : n < 10
    · rw [digs_small h]
      rw [val_cons, val_nil, dg_nat h]
      omega
    · rw [digs_big h, val_snoc, ih (n / 10) (by omega), dg_nat (Nat.mod_lt _ (by omega))]
      omega
theorem digs_all (n : Nat) : ∀ c ∈ digs n, isD c = true := by
  induction n using Nat.strongRecOn with
  | _ n ih =>
    by_cases h : n < 10
    · rw [digs_small h]
      intro c hc
      rw [List.mem_singleton.1 hc]
      exact dg_isD h
    · rw [digs_big h]
      intro c hc
      rcases List.mem_append.1 hc with q | q
      · exact ih (n / 10) (by omega) c q
      · rw [List.mem_singleton.1 q]
        exact dg_isD (Nat.mod_lt _ (by omega))
theorem digs_ne (n : Nat) : digs n ≠ [] := by
  by_cases h : n < 10
  · rw [digs_small h]; simp
  · rw [digs_big h]; simp
theorem digs_len : ∀ (k n : Nat), n < 10 ^ (k + 1) → (digs n).length ≤ k + 1
  | 0, n, h => by rw [digs_small (by simpa using h)]; simp
  | k + 1, n, h => by
    by_cases h2 : n < 10
    · rw [digs_small h2]; simp
    · rw [digs_big h2, List.length_append, List.length_singleton]
      have : n / 10 < 10 ^ (k + 1) := by rw [Nat.div_lt_iff_lt_mul (by omega)]; rw [Nat.pow_succ] at h; omega
      have := digs_len k (n / 10) this
      omega
/-- the first digit is no 0, but of 0 alone -/
theorem digs_head (n : Nat) : (digs n).head? = some 48 → (digs n).length = 1 := by
  induction n using Nat.strongRecOn with
  | _ n ih =>
    by_cases h : n < 10
    · rw [digs_small h]
      intro _
      rfl
    · rw [digs_big h]
      intro hh
      have h1 : (digs (n / 10)).head? = some 48 := by
        cases hd : digs (n / 10) with
        | nil => exact absurd hd (digs_ne _)
        | cons c r => rw [hd] at hh; simpa using hh
      have h2 := ih (n / 10) (by omega) h1
      have h3 : n / 10 < 10 := Classical.byContradiction fun h4 => by
        rw [digs_big h4, List.length_append, List.length_singleton] at h2
        have := List.length_pos_iff.2 (digs_ne (n / 10 / 10))
        omega
      rw [digs_small h3] at h1
      have h5 : dg (n / 10) = 48 := by simpa using h1
      have h6 := congrArg UInt8.toNat h5
      rw [dg_nat h3] at h6
      have h7 : (48 : UInt8).toNat = 48 := rfl
      omega
/-- digits as a number is shown: one to nine of them, no 0 ahead -/
def canon (s : List UInt8) : Bool := s.all isD && decide (1 ≤ s.length) && decide (s.length ≤ 9) && !(s.head? == some 48 && decide (1 < s.length))
theorem canon_iff {s : List UInt8} : canon s = true ↔ (∀ c ∈ s, isD c = true) ∧ 1 ≤ s.length ∧ s.length ≤ 9 ∧ (s.head? = some 48 → s.length = 1) := by
  simp only [canon, Bool.and_eq_true, List.all_eq_true, decide_eq_true_eq, Bool.not_eq_true', Bool.and_eq_false_iff, beq_eq_false_iff_ne, decide_eq_false_iff_not]
  constructor
  · rintro ⟨⟨⟨h1, h2⟩, h3⟩, h4⟩
    refine ⟨h1, h2, h3, fun h => ?_⟩
    rcases h4 with q | q
    · exact absurd h q
    · omega
  · rintro ⟨h1, h2, h3, h4⟩
    refine ⟨⟨⟨h1, h2⟩, h3⟩, ?_⟩
    by_cases h : s.head? = some 48
    · have := h4 h
      exact .inr (by omega)
    · exact .inl h
theorem canon_digs {n : Nat} (h : n ≤ 999999999) : canon (digs n) = true :=
  canon_iff.2 ⟨digs_all n, by have := List.length_pos_iff.2 (digs_ne n); omega, digs_len 8 n (by omega), digs_head n⟩
theorem val_pos {c : UInt8} (hc : isD c = true) (h48 : c ≠ 48) : ∀ (l : List UInt8) (a : Nat), 0 < a → 0 < val a l
  | [], a, h => by rw [val_nil]; exact h
  | d :: r, a, h => by rw [val_cons]; exact val_pos hc h48 r _ (by omega)
theorem digs_val {c : UInt8} (hc : isD c = true) (h48 : c ≠ 48) : ∀ (n : Nat) (l : List UInt8), l.length = n → (∀ d ∈ l, isD d = true) → digs (val 0 (c :: l)) = c :: l
  | 0, l, hl, h => by
    rw [List.eq_nil_of_length_eq_zero hl]
    have h2 := isD_iff.1 hc
    rw [val_cons, val_nil, Nat.zero_mul, Nat.zero_add, digs_small (by omega), dg_of hc]
  | n + 1, l, hl, h => by
    have hne : l ≠ [] := fun e => by rw [e] at hl; simp at hl
    have e : l = l.dropLast ++ [l.getLast hne] := (List.dropLast_concat_getLast hne).symm
    have hd := isD_iff.1 (h (l.getLast hne) (List.getLast_mem hne))
    have ih := digs_val hc h48 n l.dropLast (by rw [List.length_dropLast]; omega) (fun d hd => h d (List.dropLast_subset l hd))
    have hcd := isD_iff.1 hc
    have hc0 : 0 < c.toNat - 48 := by
      have : c.toNat ≠ 48 := fun e => h48 (UInt8.toNat_inj.1 e)
      omega
    have hp : 0 < val 0 (c :: l.dropLast) := by
      rw [val_cons, Nat.zero_mul, Nat.zero_add]
      exact val_pos hc h48 _ _ hc0
    rw [e, ← List.cons_append, val_snoc, digs_big (by omega), show (val 0 (c :: l.dropLast) * 10 + ((l.getLast hne).toNat - 48)) / 10 = val 0 (c :: l.dropLast) by omega, ih, show (val 0 (c :: l.dropLast) * 10 + ((l.getLast hne).toNat - 48)) % 10 = (l.getLast hne).toNat - 48 by omega, dg_of (h (l.getLast hne) (List.getLast_mem hne))]
/-- a number is read only from what it is shown as -/
theorem digs_canon {s : List UInt8} (h : canon s = true) : digs (val 0 s) = s := by
  obtain ⟨h1, h2, h3, h4⟩ := canon_iff.1 h
  cases s with
  | nil => simp at h2
  | cons c r =>
    by_cases h48 : c = 48
    · have hl := h4 (by rw [h48]; rfl)
      have hr : r = [] := List.eq_nil_of_length_eq_zero (by simpa using hl)
      rw [hr, h48]
      have e : val 0 [48] = 0 := by rw [val_cons, val_nil]; rfl
      rw [e, digs_small (by omega)]
      rfl
    · exact digs_val (h1 c (List.mem_cons_self ..)) h48 r.length r rfl (fun d hd => h1 d (List.mem_cons_of_mem _ hd))
theorem val_lt : ∀ (l : List UInt8) (a k : Nat), (∀ c ∈ l, isD c = true) → a < 10 ^ k → val a l < 10 ^ (k + l.length)
  | [], a, k, _, h => by rw [val_nil]; simpa using h
  | c :: r, a, k, hc, h => by
    have h2 := isD_iff.1 (hc c (List.mem_cons_self ..))
    have := val_lt r (a * 10 + (c.toNat - 48)) (k + 1) (fun d hd => hc d (List.mem_cons_of_mem _ hd)) (by rw [Nat.pow_succ]; omega)
    rw [val_cons, List.length_cons, show k + (r.length + 1) = k + 1 + r.length by omega]
    exact this
theorem val_canon {s : List UInt8} (h : canon s = true) : val 0 s ≤ 999999999 := by
  obtain ⟨h1, h2, h3, -⟩ := canon_iff.1 h
  have := val_lt s 0 0 h1 (by decide)
  have h9 : (10 : Nat) ^ (0 + s.length) ≤ 10 ^ 9 := Nat.pow_le_pow_right (by decide) (by omega)
  omega

/-! ### words -/
def splitL (x : UInt8) : List UInt8 → List (List UInt8)
  | [] => [[]]
  | c :: r => if c = x then [] :: splitL x r else match splitL x r with
    | [] => [[c]]
    | w :: ws => (c :: w) :: ws
theorem splitL_ne (x : UInt8) : ∀ s, splitL x s ≠ []
  | [] => by simp [splitL]
  | c :: r => by
    unfold splitL
    split
    · simp
    · split <;> simp
theorem splitL_yes {x c : UInt8} (h : c = x) (r : List UInt8) : splitL x (c :: r) = [] :: splitL x r := by simp [splitL, h]
theorem splitL_no {x c : UInt8} (h : c ≠ x) {r w : List UInt8} {ws : List (List UInt8)} (e : splitL x r = w :: ws) : splitL x (c :: r) = (c :: w) :: ws := by simp [splitL, h, e]
def wordsL : List (List UInt8) → List UInt8
  | [] => []
  | [w] => w
  | w :: v :: ws => w ++ 32 :: wordsL (v :: ws)
theorem wordsL_cons {w : List UInt8} {ws : List (List UInt8)} (h : ws ≠ []) : wordsL (w :: ws) = w ++ 32 :: wordsL ws := by
  cases ws with
  | nil => exact absurd rfl h
  | cons v r => rfl
theorem words_split : ∀ s : List UInt8, wordsL (splitL 32 s) = s
  | [] => rfl
  | c :: r => by
    have ih := words_split r
    by_cases h : c = 32
    · rw [splitL_yes h, wordsL_cons (splitL_ne _ _), ih, h]
      rfl
    · cases e : splitL 32 r with
      | nil => exact absurd e (splitL_ne _ _)
      | cons w ws =>
        rw [splitL_no h e]
        rw [e] at ih
        rw [← ih]
        cases ws with
        | nil => rfl
        | cons v r => rfl
theorem split_nob : ∀ (w : List UInt8), 32 ∉ w → splitL 32 w = [w]
  | [], _ => rfl
  | c :: r, h => by
    simp only [List.mem_cons, not_or] at h
    exact splitL_no (fun e => h.1 e.symm) (split_nob r h.2)
theorem split_app : ∀ (w s : List UInt8), 32 ∉ w → splitL 32 (w ++ 32 :: s) = w :: splitL 32 s
  | [], s, _ => splitL_yes rfl s
  | c :: r, s, h => by
    simp only [List.mem_cons, not_or] at h
    exact splitL_no (fun e => h.1 e.symm) (split_app r s h.2)
theorem split_words : ∀ (ws : List (List UInt8)), ws ≠ [] → (∀ w ∈ ws, 32 ∉ w) → splitL 32 (wordsL ws) = ws
  | [], h, _ => absurd rfl h
  | [w], _, h => split_nob w (h w (by simp))
  | w :: v :: ws, _, h => by
    rw [wordsL_cons (by simp), split_app _ _ (h w (by simp)), split_words (v :: ws) (by simp) (fun x hx => h x (List.mem_cons_of_mem _ hx))]
theorem wordsL_mem {x : UInt8} : ∀ (ws : List (List UInt8)), x ∈ wordsL ws → x = 32 ∨ ∃ w ∈ ws, x ∈ w
  | [], h => by simp [wordsL] at h
  | [w], h => .inr ⟨w, by simp, h⟩
  | w :: v :: ws, h => by
    rw [wordsL_cons (by simp)] at h
    rcases List.mem_append.1 h with q | q
    · exact .inr ⟨w, by simp, q⟩
    · rcases List.mem_cons.1 q with q | q
      · exact .inl q
      · rcases wordsL_mem (v :: ws) q with z | ⟨u, hu, hx⟩
        · exact .inl z
        · exact .inr ⟨u, List.mem_cons_of_mem _ hu, hx⟩
theorem wordsL_len : ∀ (ws : List (List UInt8)) (m : Nat), (∀ w ∈ ws, w.length ≤ m) → (wordsL ws).length ≤ ws.length * (m + 1)
  | [], m, _ => by simp [wordsL]
  | [w], m, h => by have := h w (by simp); simp [wordsL]; omega
  | w :: v :: ws, m, h => by
    have h1 := h w (by simp)
    have h2 := wordsL_len (v :: ws) m (fun x hx => h x (List.mem_cons_of_mem _ hx))
    rw [wordsL_cons (by simp), List.length_append, List.length_cons, List.length_cons, Nat.add_mul]
    omega
end Go.Proofs.Ytmnjmghlkiljhaa.cm
