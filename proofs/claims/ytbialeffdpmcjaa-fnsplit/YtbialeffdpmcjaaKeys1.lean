/- Plain facts on the keys of doors and things, as the laws ask them. No Go in sight (but for what ItemKey, MarkKey and ParentOf answer). -/
import Derived.Test.YtbialeffdpmcjaaTurn1
import Derived.Test.YtbialeffdpmcjaaBits1
namespace Go.Proofs.Ytbialeffdpmcjaa
open Go.RowKit

theorem keyB_yes (n l : Int) (h0 : 0 ≤ n) (h1 : n ≤ 32767) : keyB n l = 2 * rv n 15 + l := by unfold keyB; rw [if_pos ⟨h0, h1⟩]
theorem keyB_no (n l : Int) (h : ¬ (0 ≤ n ∧ n ≤ 32767)) : keyB n l = -1 := by unfold keyB; rw [if_neg h]
theorem rv15 (n : Int) : 0 ≤ rv n 15 ∧ rv n 15 ≤ 32767 := by have := rv_bd n 15; omega

theorem parent_facts (b : Int) : parent b < 0 ∨ (0 ≤ parent b ∧ parent b < b ∧ keyB (parent b) 0 < keyB b 0 ∧ 0 ≤ keyB b 0 ∧ (keyB b 0 % 2 != 0) = false) := by
  by_cases h : 1 ≤ b ∧ b ≤ 32767
  · right
    obtain ⟨a1, a2, a3⟩ := parent_less b h.1 h.2
    have r := rv15 b
    rw [keyB_yes b 0 (by omega) h.2, keyB_yes (parent b) 0 a1 (by omega)]
    refine ⟨a1, a2, by omega, by omega, ?_⟩
    have : (2 * rv b 15 + 0) % 2 = 0 := by omega
    rw [this]; rfl
  · left
    unfold parent
    rw [if_neg h]; omega

theorem key_door (h : Int) (s : Nat) (z : Int) (hz : z = 2 ^ s) (hs : s ≤ 15) (h0 : 0 ≤ h) (h1 : h ≤ 32767) :
    keyB (h % z) 0 < keyB h 1 ∧ keyB h 1 < keyB (h % z) 0 + 65536 / z ∧ 0 ≤ keyB (h % z) 0 ∧ keyB (h % z) 0 ≤ 65535 ∧ 0 ≤ 65536 / z ∧ 65536 / z ≤ 65536 := by
  subst hz
  have hp := pow_pos s
  have d := rv_door h s hs
  have m0 := Int.emod_nonneg h (show (2 : Int) ^ s ≠ 0 by omega)
  have m1 : h % 2 ^ s ≤ h := by
    have e := Int.mul_ediv_add_emod h (2 ^ s)
    have g := Int.mul_nonneg (show (0 : Int) ≤ 2 ^ s by omega) (Int.ediv_nonneg h0 (show (0 : Int) ≤ 2 ^ s by omega))
    omega
  have r := rv15 (h % 2 ^ s)
  have e : (65536 : Int) / 2 ^ s = 2 * 2 ^ (15 - s) := by
    have : (65536 : Int) = 2 ^ s * (2 * 2 ^ (15 - s)) := by
      rw [← p2, ← Int.pow_add, show s + (15 - s + 1) = 16 by omega]; decide
    rw [this, Int.mul_ediv_cancel_left _ (by omega)]
  have hq := pow_pos (15 - s)
  have hq2 : (2 : Int) ^ (15 - s) ≤ 32768 := by
    have : (2 : Nat) ^ (15 - s) ≤ 2 ^ 15 := Nat.pow_le_pow_right (by decide) (by omega)
    have e : ((2 ^ (15 - s) : Nat) : Int) = (2 : Int) ^ (15 - s) := by simp
    omega
  rw [e, keyB_yes h 1 h0 h1, keyB_yes (h % 2 ^ s) 0 m0 (by omega)]
  omega
end Go.Proofs.Ytbialeffdpmcjaa
