/- Plain facts on numbers for chapter 1 (bits): the lowest k bits of a number in the other order, its bounds, the greatest power of two. No Go in sight. -/
import Derived.WalkKit
namespace Go.Proofs.Ytbialeffdpmcjaa
open Go.RowKit

/-- the lowest k bits of n, in the other order -/
def rv (n : Int) : Nat → Int
  | 0 => 0
  | k + 1 => 2 * rv n k + n / 2 ^ k % 2

theorem rv_bd (n : Int) (k : Nat) : 0 ≤ rv n k ∧ rv n k < 2 ^ k := by
  induction k with
  | zero => simp [rv]
  | succ k ih =>
    have hp : (2 : Int) ^ (k + 1) = 2 * 2 ^ k := by rw [Int.pow_succ]; omega
    simp only [rv]
    rw [hp]
    omega

theorem pow_le16 (k : Nat) (h : k ≤ 16) : (2 : Int) ^ k ≤ 65536 := by
  have : (2 : Nat) ^ k ≤ 2 ^ 16 := Nat.pow_le_pow_right (by decide) h
  have e : ((2 ^ k : Nat) : Int) = (2 : Int) ^ k := by simp
  omega

theorem pow_pos (k : Nat) : (1 : Int) ≤ 2 ^ k := by
  have : 0 < (2 : Nat) ^ k := Nat.two_pow_pos k
  have e : ((2 ^ k : Nat) : Int) = (2 : Int) ^ k := by simp
  omega

theorem rv_16 (n : Int) (k : Nat) (h : k ≤ 16) : 0 ≤ rv n k ∧ rv n k ≤ 65535 := by
  have a := rv_bd n k
  have b := pow_le16 k h
  omega

theorem wraps_i64 (n : Int) (h₀ : 0 ≤ n) (h₁ : n < 2 ^ 63) : IntKind.i64.wrap n = n := by rw [IntKind.wrap_i64]; omega

theorem and1_i64 (x : Int) (h₀ : 0 ≤ x) (h₁ : x ≤ 9223372036854775807) : bits .and .i64 x 1 = x % 2 :=
  bits_mask .i64 63 (by decide) wraps_i64 1 (by decide) x h₀ (by omega)

theorem or_even_i64 (x y : Int) (h₀ : 0 ≤ x) (h₁ : x % 2 = 0) (h₂ : x ≤ 9223372036854775807) (h₃ : 0 ≤ y) (h₄ : y ≤ 1) : bits .or .i64 x y = x + y :=
  bits_join .i64 63 (by decide) wraps_i64 1 x y h₀ (by omega) (by omega) h₃ (by omega) (by omega)

/-- what Turned answers -/
def turn (n b : Int) : Int := if 1 ≤ b ∧ b ≤ 16 ∧ 0 ≤ n ∧ n < 2 ^ b.toNat then rv n b.toNat else -1

end Go.Proofs.Ytbialeffdpmcjaa
