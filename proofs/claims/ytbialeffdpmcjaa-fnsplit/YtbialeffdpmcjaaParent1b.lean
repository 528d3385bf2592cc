/- Contracts of ParentOf, the model's and the program's: each answers as a plain function on integers, and the world stays. -/
import Derived.Test.YtbialeffdpmcjaaRows
import Derived.WalkKit
import Derived.ProofKit
import Derived.OpenShut
import Derived.Test.YtbialeffdpmcjaaTurn1
import Derived.Test.YtbialeffdpmcjaaBits1
namespace Go.Proofs.Ytbialeffdpmcjaa
open Go.ChangeShapes Go.WideShapes Go.ChangeAt Go.RowKit
set_option linter.unusedVariables false

/-! ### the door that a door was split from -/
theorem topFrom_stop (b t : Int) (k : Nat) (h : ¬ 2 * t ≤ b) : topFrom b k t = t := by
  cases k with
  | zero => rfl
  | succ k => simp only [topFrom]; rw [if_neg h]
theorem topFrom_go (b t : Int) (k : Nat) (h : 2 * t ≤ b) : topFrom b (k + 1) t = topFrom b k (2 * t) := by
  simp only [topFrom]; rw [if_pos h]
theorem topFrom_bd (b : Int) (k : Nat) (t : Int) (h0 : 1 ≤ t) (h1 : t ≤ b) : 1 ≤ topFrom b k t ∧ topFrom b k t ≤ b := by
  induction k generalizing t with
  | zero => exact ⟨h0, h1⟩
  | succ k ih =>
    simp only [topFrom]
    split
    · exact ih _ (by omega) (by omega)
    · exact ⟨h0, h1⟩

theorem specParentOf_no (b : Int) (h : b < 1 ∨ 32767 < b) (w : World) :
    Calls Try.prog 82 #[.int .i64 b] w fun e w' => e = .returned (.int .i64 (-1)) ∧ w' = w := by
  rcases h with h | h
  · go_enter Try.func82, Try.ntmps82
    go_wp2
    go_ret
    exact ⟨rfl, rfl⟩
  · have h' : 1 ≤ b := by omega
    have e1 : decide (b ≤ 32767) = false := by simp; omega
    go_enter Try.func82, Try.ntmps82
    go_wp2
    go_ret
    exact ⟨rfl, rfl⟩

theorem pow_next (t : Int) (k : Nat) (h : t * 2 ^ (k + 1) = 32768) : (2 * t) * 2 ^ k = 32768 := by
  rw [← h, Int.pow_succ, Int.mul_comm (2 ^ k) 2, ← Int.mul_assoc, Int.mul_comm 2 t]

theorem specParentOf_yes (b : Int) (h1 : 1 ≤ b) (h2 : b ≤ 32767) (w : World) :
    Calls Try.prog 82 #[.int .i64 b] w fun e w' => e = .returned (.int .i64 (b - topFrom b 15 1)) ∧ w' = w := by
  have e1 : decide (b ≤ 32767) = true := by simp; omega
  go_enter Try.func82, Try.ntmps82
  go_wp2
  clear e1
  go_loop [3] (fun o => ∃ (k : Nat) (t : Int), o = .int .i64 t ∧ 1 ≤ t ∧ t ≤ b ∧ Hid (t * 2 ^ k = 32768) ∧ Hid (topFrom b k t = topFrom b 15 1)) (fun o => (b - intOf o).toNat)
  case atStart => exact ⟨15, 1, rfl, by omega, by omega, (show (1 : Int) * 2 ^ 15 = 32768 by decide), rfl⟩
  case round =>
    obtain ⟨k, t, rfl, ht, hb, hp, hf⟩ := hrel
    by_cases hlt : 2 * t ≤ b
    · obtain ⟨k, rfl⟩ : ∃ j, k = j + 1 := by
        cases k with
        | zero => exfalso; have := hp.out; simp at this; omega
        | succ k => exact ⟨k, rfl⟩
      go_wp2
      go_round
      case rel => exact ⟨k, 2 * t, rfl, by omega, by omega, pow_next t k hp.out, by rw [← hf.out, topFrom_go _ _ _ hlt]; exact rfl⟩
      case measure => simp [intOf]; omega
    · go_wp2
      go_ret
      exact ⟨ret_int (by rw [← hf.out, topFrom_stop _ _ _ (by omega)]), rfl⟩

theorem specParentOf_any (b : Int) (w : World) :
    Calls Try.prog 82 #[.int .i64 b] w fun e w' => e = .returned (.int .i64 (parent b)) ∧ w' = w := by
  unfold parent
  by_cases h : 1 ≤ b ∧ b ≤ 32767
  · rw [if_pos h]; exact specParentOf_yes b h.1 h.2 w
  · rw [if_neg h]; exact specParentOf_no b (by omega) w

theorem highest (b : Int) (h1 : 1 ≤ b) (h2 : b ≤ 32767) (w : World) :
    Calls Try.prog 75 #[.int .i64 b] w fun e w' => e = .returned (.int .i64 (topFrom b 15 1)) ∧ w' = w := by
  go_enter Try.func75, Try.ntmps75
  go_wp2
  go_loop [3] (fun o => ∃ (k : Nat) (t : Int), o = .int .i64 t ∧ 1 ≤ t ∧ t ≤ b ∧ Hid (t * 2 ^ k = 32768) ∧ Hid (topFrom b k t = topFrom b 15 1)) (fun o => (b - intOf o).toNat)
  case atStart => exact ⟨15, 1, rfl, by omega, by omega, (show (1 : Int) * 2 ^ 15 = 32768 by decide), rfl⟩
  case round =>
    obtain ⟨k, t, rfl, ht, hb, hp, hf⟩ := hrel
    by_cases hlt : 2 * t ≤ b
    · obtain ⟨k, rfl⟩ : ∃ j, k = j + 1 := by
        cases k with
        | zero => exfalso; have := hp.out; simp at this; omega
        | succ k => exact ⟨k, rfl⟩
      go_wp2
      go_round
      case rel => exact ⟨k, 2 * t, by go_num, by omega, by omega, pow_next t k hp.out, by rw [← hf.out, topFrom_go _ _ _ hlt]; exact rfl⟩
      case measure => simp [intOf]; omega
    · go_wp2
      go_ret
      exact ⟨ret_int (by rw [← hf.out, topFrom_stop _ _ _ (by omega)]), rfl⟩

theorem implParentOf_no (b : Int) (h : b < 1 ∨ 32767 < b) (w : World) :
    Calls Try.prog 93 #[.int .i64 b] w fun e w' => e = .returned (.int .i64 (-1)) ∧ w' = w := by
  rcases h with h | h
  · go_enter Try.func93, Try.ntmps93
    go_wp2
    go_ret
    exact ⟨rfl, rfl⟩
  · have h' : 1 ≤ b := by omega
    have e1 : decide (b < 32768) = false := by simp; omega
    go_enter Try.func93, Try.ntmps93
    go_wp2
    go_ret
    exact ⟨rfl, rfl⟩

theorem implParentOf_yes (b : Int) (h1 : 1 ≤ b) (h2 : b ≤ 32767) (w : World) :
    Calls Try.prog 93 #[.int .i64 b] w fun e w' => e = .returned (.int .i64 (b - topFrom b 15 1)) ∧ w' = w := by
  have e1 : decide (b < 32768) = true := by simp; omega
  have ht := topFrom_bd b 15 1 (by omega) h1
  go_enter Try.func93, Try.ntmps93
  go_wp2_with (first | (go_at_call 75; refine (highest _ h1 h2 _).mono ?_; rintro e w' ⟨rfl, rfl⟩) | go_in)
  go_ret
  exact ⟨rfl, rfl⟩

theorem implParentOf_any (b : Int) (w : World) :
    Calls Try.prog 93 #[.int .i64 b] w fun e w' => e = .returned (.int .i64 (parent b)) ∧ w' = w := by
  unfold parent
  by_cases h : 1 ≤ b ∧ b ≤ 32767
  · rw [if_pos h]; exact implParentOf_yes b h.1 h.2 w
  · rw [if_neg h]; exact implParentOf_no b (by omega) w
end Go.Proofs.Ytbialeffdpmcjaa
