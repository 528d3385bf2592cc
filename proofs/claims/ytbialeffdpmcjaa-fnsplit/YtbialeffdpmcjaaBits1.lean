/- Plain facts on bits in the other order: turned twice it is the number, bit by bit; the keys of a door, of its parent and of what it holds. No Go in sight. -/
import Derived.Test.YtbialeffdpmcjaaPlain1
namespace Go.Proofs.Ytbialeffdpmcjaa
open Go.RowKit

theorem p2 (k : Nat) : (2 : Int) ^ (k + 1) = 2 * 2 ^ k := by rw [Int.pow_succ]; omega

theorem half_div (x : Int) (k : Nat) : x / 2 ^ (k + 1) = x / 2 / 2 ^ k := by
  rw [p2, Int.ediv_ediv_of_nonneg (by omega)]

theorem rv_bit (n : Int) (k i : Nat) (h : i < k) : rv n k / 2 ^ (k - 1 - i) % 2 = n / 2 ^ i % 2 := by
  induction k with
  | zero => omega
  | succ k ih =>
    by_cases e : i = k
    · subst e
      have : i + 1 - 1 - i = 0 := by omega
      rw [this]
      simp only [rv]
      simp
    · have hk : k + 1 - 1 - i = (k - 1 - i) + 1 := by omega
      rw [hk, half_div]
      have : rv n (k + 1) / 2 = rv n k := by simp only [rv]; omega
      rw [this]
      exact ih (by omega)

theorem same_bits (k : Nat) : ∀ a b : Int, 0 ≤ a → a < 2 ^ k → 0 ≤ b → b < 2 ^ k → (∀ i, i < k → a / 2 ^ i % 2 = b / 2 ^ i % 2) → a = b := by
  induction k with
  | zero => intro a b h1 h2 h3 h4 _; simp at h2 h4; omega
  | succ k ih =>
    intro a b h1 h2 h3 h4 h
    rw [p2] at h2 h4
    have h0 := h 0 (by omega)
    simp at h0
    have := ih (a / 2) (b / 2) (by omega) (by omega) (by omega) (by omega) (fun i hi => by
      have := h (i + 1) (by omega)
      rw [half_div, half_div] at this
      exact this)
    omega

theorem rv_rv (n : Int) (k : Nat) (h0 : 0 ≤ n) (h1 : n < 2 ^ k) : rv (rv n k) k = n := by
  have b := rv_bd (rv n k) k
  refine same_bits k _ _ b.1 b.2 h0 h1 fun i hi => ?_
  have e1 := rv_bit (rv n k) k (k - 1 - i) (by omega)
  have e2 := rv_bit n k i hi
  have : k - 1 - (k - 1 - i) = i := by omega
  rw [this] at e1
  rw [e1, e2]

theorem rv_low (s : Nat) : ∀ (h : Int) (k : Nat), k ≤ s → rv (h % 2 ^ s) k = rv h k := by
  intro h k
  induction k with
  | zero => intro _; rfl
  | succ k ih =>
    intro hk
    simp only [rv]
    rw [ih (by omega)]
    congr 1
    -- bit k of h and of h modulo 2^s
    obtain ⟨j, rfl⟩ : ∃ j, s = k + (j + 1) := ⟨s - k - 1, by omega⟩
    have hp := pow_pos k
    have e : h = 2 ^ (k + (j + 1)) * (h / 2 ^ (k + (j + 1))) + h % 2 ^ (k + (j + 1)) := (Int.mul_ediv_add_emod h _).symm
    have e2 : h / 2 ^ k = h % 2 ^ (k + (j + 1)) / 2 ^ k + 2 * (2 ^ j * (h / 2 ^ (k + (j + 1)))) := by
      conv => lhs; rw [e]
      rw [Int.pow_add, p2, Int.mul_assoc, Int.add_comm, Int.add_mul_ediv_left _ _ (by omega), Int.mul_assoc]
    rw [e2]
    omega

theorem rv_split (h : Int) (s j : Nat) : rv h (s + j) = 2 ^ j * rv h s + rv (h / 2 ^ s) j := by
  induction j with
  | zero => simp [rv]
  | succ j ih =>
    have e : s + (j + 1) = (s + j) + 1 := by omega
    rw [e]
    simp only [rv]
    rw [ih, p2]
    have hp := pow_pos s
    have : h / 2 ^ (s + j) = h / 2 ^ s / 2 ^ j := by rw [Int.pow_add, Int.ediv_ediv_of_nonneg (by omega)]
    rw [this, Int.mul_add, Int.mul_assoc]
    omega

theorem rv_zero (k : Nat) : rv 0 k = 0 := by
  induction k with
  | zero => rfl
  | succ k ih => simp [rv, ih]

/-- what a door holds stands behind it, and ahead of the next one -/
theorem rv_door (h : Int) (s : Nat) (hs : s ≤ 15) : rv (h % 2 ^ s) 15 ≤ rv h 15 ∧ rv h 15 < rv (h % 2 ^ s) 15 + 2 ^ (15 - s) := by
  have e1 := rv_split h s (15 - s)
  have e2 := rv_split (h % 2 ^ s) s (15 - s)
  have hp := pow_pos s
  have es : s + (15 - s) = 15 := by omega
  rw [es] at e1 e2
  rw [rv_low s h s (Nat.le_refl _), Int.ediv_eq_zero_of_lt (Int.emod_nonneg _ (by omega)) (Int.emod_lt_of_pos _ (by omega)), rv_zero] at e2
  have b := rv_bd (h / 2 ^ s) (15 - s)
  omega

/-! ### the parent of a door -/
/-- the greatest power of two that is no more than b, looked for from t on, at most k doublings -/
def topFrom (b : Int) : Nat → Int → Int
  | 0, t => t
  | k + 1, t => if 2 * t ≤ b then topFrom b k (2 * t) else t
def parent (b : Int) : Int := if 1 ≤ b ∧ b ≤ 32767 then b - topFrom b 15 1 else -1

theorem topFrom_pow (b : Int) (k : Nat) : ∀ e : Nat, (2 : Int) ^ e ≤ b → b < 2 ^ (e + k + 1) → ∃ i, i ≤ e + k ∧ topFrom b k (2 ^ e) = 2 ^ i ∧ (2 : Int) ^ i ≤ b ∧ b < 2 ^ (i + 1) := by
  induction k with
  | zero => intro e h1 h2; exact ⟨e, by omega, rfl, h1, h2⟩
  | succ k ih =>
    intro e h1 h2
    simp only [topFrom]
    by_cases h : 2 * (2 : Int) ^ e ≤ b
    · rw [if_pos h, ← p2]
      obtain ⟨i, hi, r⟩ := ih (e + 1) (by rw [p2]; exact h) (by rw [show e + 1 + k + 1 = e + (k + 1) + 1 by omega]; exact h2)
      exact ⟨i, by omega, r⟩
    · rw [if_neg h]
      exact ⟨e, by omega, rfl, h1, by rw [p2]; omega⟩

/-- with one bit more, above all others -/
theorem rv_top (q : Int) (t j : Nat) (h0 : 0 ≤ q) (h1 : q < 2 ^ t) : rv (q + 2 ^ t) (t + (j + 1)) = rv q (t + (j + 1)) + 2 ^ j := by
  have hp := pow_pos t
  have a := rv_split (q + 2 ^ t) t (j + 1)
  have b := rv_split q t (j + 1)
  have e1 : rv (q + 2 ^ t) t = rv q t := by
    rw [← rv_low t (q + 2 ^ t) t (Nat.le_refl _), Int.add_emod_right, rv_low t q t (Nat.le_refl _)]
  have e2 : (q + 2 ^ t) / 2 ^ t = 1 := by
    have := Int.add_mul_ediv_right q 1 (show (2 : Int) ^ t ≠ 0 by omega)
    rw [Int.one_mul] at this
    rw [this, Int.ediv_eq_zero_of_lt h0 h1]; rfl
  have e3 : rv 1 (j + 1) = 2 ^ j := by
    clear a b e1 e2 h1 h0 hp
    have hs := rv_split 1 1 j
    have h0 : (1 : Int) / 2 ^ 1 = 0 := by decide
    have h1 : rv 1 1 = 1 := by decide
    rw [h0, rv_zero, h1] at hs
    rw [show j + 1 = 1 + j by omega, hs]
    omega
  rw [e1, e2, e3] at a
  rw [Int.ediv_eq_zero_of_lt h0 h1, rv_zero] at b
  omega

theorem parent_less (b : Int) (h1 : 1 ≤ b) (h2 : b ≤ 32767) : 0 ≤ parent b ∧ parent b < b ∧ rv (parent b) 15 < rv b 15 := by
  obtain ⟨i, hi, e, h3, h4⟩ := topFrom_pow b 15 0 (by simpa using h1) (by simp; omega)
  rw [p2] at h4
  have hp := pow_pos i
  have hi14 : i ≤ 14 := by
    by_cases h : i ≤ 14
    · exact h
    · exfalso
      have : (2 : Nat) ^ 15 ≤ 2 ^ i := Nat.pow_le_pow_right (by decide) (by omega)
      have e : ((2 ^ i : Nat) : Int) = (2 : Int) ^ i := by simp
      omega
  have hq : parent b = b - 2 ^ i := by
    unfold parent
    rw [if_pos ⟨h1, h2⟩]
    have : topFrom b 15 1 = 2 ^ i := by simpa using e
    rw [this]
  have hj := pow_pos (14 - i)
  have ht := rv_top (b - 2 ^ i) i (14 - i) (by omega) (by omega)
  rw [show i + (14 - i + 1) = 15 by omega, show b - 2 ^ i + 2 ^ i = b by omega] at ht
  rw [hq]
  exact ⟨by omega, by omega, by omega⟩
end Go.Proofs.Ytbialeffdpmcjaa
