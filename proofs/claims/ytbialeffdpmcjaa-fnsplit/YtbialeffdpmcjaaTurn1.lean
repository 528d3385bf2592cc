/- Contracts of chapter 1's functions, the model's and the program's: each answers as a plain function on integers, and the world stays. -/
import Derived.Test.YtbialeffdpmcjaaRows
import Derived.WalkKit
import Derived.ProofKit
import Derived.OpenShut
import Derived.Test.YtbialeffdpmcjaaPlain1
namespace Go.Proofs.Ytbialeffdpmcjaa
open Go.ChangeShapes Go.WideShapes Go.ChangeAt Go.RowKit
set_option linter.unusedVariables false

theorem ret_int {k : IntKind} {a b : Int} (h : a = b) : Ending.returned (.int k a) = .returned (.int k b) := by rw [h]

theorem turn_no {n b : Int} (h : ¬ (1 ≤ b ∧ b ≤ 16 ∧ 0 ≤ n ∧ n < 2 ^ b.toNat)) : turn n b = -1 := by unfold turn; rw [if_neg h]

theorem specTurned_low (n b : Int) (h : b < 1) (w : World) :
    Calls Try.prog 43 #[.int .i64 n, .int .i64 b] w fun e w' => e = .returned (.int .i64 (-1)) ∧ w' = w := by
  go_enter Try.func43, Try.ntmps43
  go_wp2
  go_ret
  exact ⟨rfl, rfl⟩

theorem specTurned_high (n b : Int) (h : 16 < b) (w : World) :
    Calls Try.prog 43 #[.int .i64 n, .int .i64 b] w fun e w' => e = .returned (.int .i64 (-1)) ∧ w' = w := by
  go_enter Try.func43, Try.ntmps43
  go_wp2
  go_ret
  exact ⟨rfl, rfl⟩

theorem specTurned_neg (n b : Int) (h1 : 1 ≤ b) (h2 : b ≤ 16) (h3 : n < 0) (w : World) :
    Calls Try.prog 43 #[.int .i64 n, .int .i64 b] w fun e w' => e = .returned (.int .i64 (-1)) ∧ w' = w := by
  go_enter Try.func43, Try.ntmps43
  go_wp2
  go_ret
  exact ⟨rfl, rfl⟩

theorem wr_pow (b : Int) (h1 : 1 ≤ b) (h2 : b ≤ 16) : wrap64 (2 ^ b.toNat) = 2 ^ b.toNat := by
  have h := pow_le16 b.toNat (by omega)
  have g := pow_pos b.toNat
  exact IntWalk.wrap64_in _ ⟨by omega, by omega⟩
theorem wr_pow1 (b : Int) (h1 : 1 ≤ b) (h2 : b ≤ 16) : wrap64 (wrap64 (2 ^ b.toNat) - 1) = 2 ^ b.toNat - 1 := by
  have h := pow_le16 b.toNat (by omega)
  have g := pow_pos b.toNat
  rw [wr_pow b h1 h2]
  exact IntWalk.wrap64_in _ ⟨by omega, by omega⟩

theorem specTurned_big (n b : Int) (h1 : 1 ≤ b) (h2 : b ≤ 16) (h3 : 0 ≤ n) (h4 : 2 ^ b.toNat ≤ n) (w : World) :
    Calls Try.prog 43 #[.int .i64 n, .int .i64 b] w fun e w' => e = .returned (.int .i64 (-1)) ∧ w' = w := by
  have e1 := wr_pow1 b h1 h2
  have e2 : (!decide (n ≤ wrap64 (wrap64 (2 ^ b.toNat) - 1))) = true := by rw [e1]; simp; omega
  clear e1
  go_enter Try.func43, Try.ntmps43
  go_wp2
  go_ret
  exact ⟨rfl, rfl⟩

theorem div_bd (n : Int) (k : Nat) (h0 : 0 ≤ n) : 0 ≤ n / 2 ^ k ∧ n / 2 ^ k ≤ n := by
  have hp := pow_pos k
  exact ⟨Int.ediv_nonneg h0 (by omega), Int.ediv_le_self _ h0⟩
theorem rv_step (n : Int) (k : Nat) (h0 : 0 ≤ n) (h1 : n ≤ 9223372036854775807) (h2 : 0 ≤ rv n k) (h3 : rv n k ≤ 65535) :
    bits BinOp.or IntKind.i64 (rv n k * 2) (bits BinOp.and IntKind.i64 (n / 2 ^ k) 1) = rv n (k + 1) := by
  have hd := div_bd n k h0
  rw [and1_i64 _ hd.1 (by omega), or_even_i64 _ _ (by omega) (by omega) (by omega) (by omega) (by omega)]
  simp only [rv]
  omega

theorem specTurned_yes (n b : Int) (h1 : 1 ≤ b) (h2 : b ≤ 16) (h3 : 0 ≤ n) (h4 : n < 2 ^ b.toNat) (w : World) :
    Calls Try.prog 43 #[.int .i64 n, .int .i64 b] w fun e w' => e = .returned (.int .i64 (rv n b.toNat)) ∧ w' = w := by
  have e1 := wr_pow1 b h1 h2
  have hp := pow_le16 b.toNat (by omega)
  have e2 : (!decide (n ≤ wrap64 (wrap64 (2 ^ b.toNat) - 1))) = false := by rw [e1]; simp; omega
  have hn : n ≤ 65535 := by omega
  clear e1 h4 hp
  go_enter Try.func43, Try.ntmps43
  go_wp2
  clear e2
  go_loop [5, 6] (fun o i => ∃ k : Nat, (k : Int) ≤ b ∧ i = .int .i64 k ∧ o = .int .i64 (rv n k)) (fun _ i => b.toNat - (intOf i).toNat)
  case atStart => exact ⟨0, by omega, rfl, rfl⟩
  case round =>
    obtain ⟨k, hk, rfl, rfl⟩ := hrel
    have hb := rv_16 n k (by omega)
    by_cases hlt : (k : Int) < b
    · go_wp2
      go_round
      case rel => exact ⟨k + 1, by omega, by go_num, congrArg _ (rv_step n k h3 (by omega) hb.1 (by omega))⟩
      case measure => simp [intOf]; omega
    · go_wp2
      go_ret
      exact ⟨ret_int (by rw [show k = b.toNat by omega]), rfl⟩

theorem specTurned_any (n b : Int) (w : World) :
    Calls Try.prog 43 #[.int .i64 n, .int .i64 b] w fun e w' => e = .returned (.int .i64 (turn n b)) ∧ w' = w := by
  unfold turn
  by_cases h1 : b < 1
  · rw [if_neg (by omega)]; exact specTurned_low n b h1 w
  by_cases h2 : 16 < b
  · rw [if_neg (by omega)]; exact specTurned_high n b h2 w
  by_cases h3 : n < 0
  · rw [if_neg (by omega)]; exact specTurned_neg n b (by omega) (by omega) h3 w
  by_cases h4 : n < 2 ^ b.toNat
  · rw [if_pos ⟨by omega, by omega, by omega, h4⟩]; exact specTurned_yes n b (by omega) (by omega) (by omega) h4 w
  · rw [if_neg (by omega)]; exact specTurned_big n b (by omega) (by omega) (by omega) (by omega) w

/-! ### the program's -/
theorem implTurned_low (n b : Int) (h : b < 1) (w : World) :
    Calls Try.prog 90 #[.int .i64 n, .int .i64 b] w fun e w' => e = .returned (.int .i64 (-1)) ∧ w' = w := by
  go_enter Try.func90, Try.ntmps90
  go_wp2
  go_ret
  exact ⟨rfl, rfl⟩

theorem implTurned_high (n b : Int) (h : 16 < b) (w : World) :
    Calls Try.prog 90 #[.int .i64 n, .int .i64 b] w fun e w' => e = .returned (.int .i64 (-1)) ∧ w' = w := by
  go_enter Try.func90, Try.ntmps90
  go_wp2
  go_ret
  exact ⟨rfl, rfl⟩

theorem implTurned_neg (n b : Int) (h1 : 1 ≤ b) (h2 : b ≤ 16) (h3 : n < 0) (w : World) :
    Calls Try.prog 90 #[.int .i64 n, .int .i64 b] w fun e w' => e = .returned (.int .i64 (-1)) ∧ w' = w := by
  go_enter Try.func90, Try.ntmps90
  go_wp2
  go_ret
  exact ⟨rfl, rfl⟩

theorem rv_step2 (n : Int) (k : Nat) (h0 : 0 ≤ n) (h1 : n ≤ 9223372036854775807) (h2 : 0 ≤ rv n k) (h3 : rv n k ≤ 65535) :
    wrap64 (2 * rv n k + bits BinOp.and IntKind.i64 (n / 2 ^ k) 1) = rv n (k + 1) := by
  have hd := div_bd n k h0
  rw [and1_i64 _ hd.1 (by omega)]
  simp only [rv]
  exact IntWalk.wrap64_in _ ⟨by omega, by omega⟩

theorem gathered_bits (n b : Int) (h1 : 1 ≤ b) (h2 : b ≤ 16) (h3 : 0 ≤ n) (hn : n ≤ 65535) (w : World) :
    Calls Try.prog 97 #[.int .i64 b, .func (.func 80) #[.int .i64 n] #[]] w fun e w' => e = .returned (.int .i64 (rv n b.toNat)) ∧ w' = w := by
  go_enter Try.func97, Try.ntmps97
  go_wp2
  go_loop [5, 8] (fun o i => ∃ k : Nat, (k : Int) ≤ b ∧ i = .int .i64 k ∧ o = .int .i64 (rv n k)) (fun _ i => b.toNat - (intOf i).toNat)
  case atStart => exact ⟨0, by omega, rfl, rfl⟩
  case round =>
    obtain ⟨k, hk, rfl, rfl⟩ := hrel
    have hb := rv_16 n k (by omega)
    by_cases hlt : (k : Int) < b
    · go_wp2
      go_round
      case rel => exact ⟨k + 1, by omega, by go_num, congrArg _ (rv_step2 n k h3 (by omega) hb.1 (by omega))⟩
      case measure => simp [intOf]; omega
    · go_wp2
      go_ret
      exact ⟨ret_int (by rw [show k = b.toNat by omega]), rfl⟩

theorem implTurned_yes (n b : Int) (h1 : 1 ≤ b) (h2 : b ≤ 16) (h3 : 0 ≤ n) (h4 : n < 2 ^ b.toNat) (w : World) :
    Calls Try.prog 90 #[.int .i64 n, .int .i64 b] w fun e w' => e = .returned (.int .i64 (rv n b.toNat)) ∧ w' = w := by
  have hmf : ∀ (fn : Fn) (first cap : Array Value) (w : World), (Instr.makeFunc fn first cap).run Try.prog w = .ok (.func fn first cap) w := fun _ _ _ _ => rfl
  have e1 := wr_pow b h1 h2
  have hp := pow_le16 b.toNat (by omega)
  have hn : n ≤ 65535 := by omega
  go_enter Try.func90, Try.ntmps90
  go_wp2_with (first | (go_at_call 97; refine (gathered_bits _ _ h1 h2 h3 hn _).mono ?_; rintro e w' ⟨rfl, rfl⟩) | go_in)
  go_ret
  exact ⟨rfl, rfl⟩

theorem implTurned_big (n b : Int) (h1 : 1 ≤ b) (h2 : b ≤ 16) (h3 : 0 ≤ n) (h4 : 2 ^ b.toNat ≤ n) (w : World) :
    Calls Try.prog 90 #[.int .i64 n, .int .i64 b] w fun e w' => e = .returned (.int .i64 (-1)) ∧ w' = w := by
  have e1 := wr_pow b h1 h2
  have e3 : decide (n < 2 ^ b.toNat) = false := by simp; omega
  go_enter Try.func90, Try.ntmps90
  go_wp2
  go_ret
  exact ⟨rfl, rfl⟩

theorem implTurned_any (n b : Int) (w : World) :
    Calls Try.prog 90 #[.int .i64 n, .int .i64 b] w fun e w' => e = .returned (.int .i64 (turn n b)) ∧ w' = w := by
  unfold turn
  by_cases h1 : b < 1
  · rw [if_neg (by omega)]; exact implTurned_low n b h1 w
  by_cases h2 : 16 < b
  · rw [if_neg (by omega)]; exact implTurned_high n b h2 w
  by_cases h3 : n < 0
  · rw [if_neg (by omega)]; exact implTurned_neg n b (by omega) (by omega) h3 w
  by_cases h4 : n < 2 ^ b.toNat
  · rw [if_pos ⟨by omega, by omega, by omega, h4⟩]; exact implTurned_yes n b (by omega) (by omega) (by omega) h4 w
  · rw [if_neg (by omega)]; exact implTurned_big n b (by omega) (by omega) (by omega) (by omega) w

/-! ### the keys -/
/-- what ItemKey and MarkKey answer, by the last bit -/
def keyB (n last : Int) : Int := if 0 ≤ n ∧ n ≤ 32767 then 2 * rv n 15 + last else -1

theorem turn15 (n : Int) (h0 : 0 ≤ n) (h1 : n ≤ 32767) : turn n 15 = rv n 15 := by
  unfold turn
  rw [if_pos ⟨by omega, by omega, h0, by show n < 2 ^ (15 : Nat); omega⟩]; rfl
theorem turn15_no (n : Int) (h : ¬ (0 ≤ n ∧ n ≤ 32767)) : turn n 15 = -1 := by
  apply turn_no
  rintro ⟨-, -, a, b⟩
  exact h ⟨a, by have : n < 2 ^ (15 : Nat) := b; omega⟩

theorem fifteen_yes (n : Int) (h0 : 0 ≤ n) (h1 : n ≤ 32767) (w : World) :
    Calls Try.prog 58 #[.int .i64 n] w fun e w' => e = .returned (.bool true) ∧ w' = w := by
  go_enter Try.func58, Try.ntmps58
  go_wp2
  go_ret
  exact ⟨by simp, rfl⟩
theorem fifteen_no (n : Int) (h : n < 0 ∨ 32767 < n) (w : World) :
    Calls Try.prog 58 #[.int .i64 n] w fun e w' => e = .returned (.bool false) ∧ w' = w := by
  rcases h with h | h
  · go_enter Try.func58, Try.ntmps58
    go_wp2
    go_ret
    exact ⟨rfl, rfl⟩
  · have h' : 0 ≤ n := by omega
    go_enter Try.func58, Try.ntmps58
    go_wp2
    go_ret
    exact ⟨by simp; omega, rfl⟩

theorem specItemKey_any (n : Int) (w : World) :
    Calls Try.prog 60 #[.int .i64 n] w fun e w' => e = .returned (.int .i64 (keyB n 1)) ∧ w' = w := by
  unfold keyB
  by_cases h : 0 ≤ n ∧ n ≤ 32767
  · rw [if_pos h]
    obtain ⟨h0, h1⟩ := h
    have ht := rv_16 n 15 (by decide)
    have e1 := turn15 n h0 h1
    go_enter Try.func60, Try.ntmps60
    go_wp2_with (first | (go_at_call 43; refine (specTurned_any _ _ _).mono ?_; rintro e w' ⟨rfl, rfl⟩) | (go_at_call 58; refine (fifteen_yes _ h0 h1 _).mono ?_; rintro e w' ⟨rfl, rfl⟩))
    go_ret
    exact ⟨rfl, rfl⟩
  · rw [if_neg h]
    have h1 : n < 0 ∨ 32767 < n := by omega
    clear h
    go_enter Try.func60, Try.ntmps60
    go_wp2_with (go_at_call 58; refine (fifteen_no _ h1 _).mono ?_; rintro e w' ⟨rfl, rfl⟩)
    go_ret
    exact ⟨rfl, rfl⟩

theorem specMarkKey_any (n : Int) (w : World) :
    Calls Try.prog 42 #[.int .i64 n] w fun e w' => e = .returned (.int .i64 (keyB n 0)) ∧ w' = w := by
  unfold keyB
  by_cases h : 0 ≤ n ∧ n ≤ 32767
  · rw [if_pos h]
    obtain ⟨h0, h1⟩ := h
    have ht := rv_16 n 15 (by decide)
    have e1 := turn15 n h0 h1
    go_enter Try.func42, Try.ntmps42
    go_wp2_with (first | (go_at_call 43; refine (specTurned_any _ _ _).mono ?_; rintro e w' ⟨rfl, rfl⟩) | (go_at_call 58; refine (fifteen_yes _ h0 h1 _).mono ?_; rintro e w' ⟨rfl, rfl⟩))
    go_ret
    exact ⟨ret_int (by omega), rfl⟩
  · rw [if_neg h]
    have h1 : n < 0 ∨ 32767 < n := by omega
    clear h
    go_enter Try.func42, Try.ntmps42
    go_wp2_with (go_at_call 58; refine (fifteen_no _ h1 _).mono ?_; rintro e w' ⟨rfl, rfl⟩)
    go_ret
    exact ⟨rfl, rfl⟩

theorem implItemKey_any (n : Int) (w : World) :
    Calls Try.prog 64 #[.int .i64 n] w fun e w' => e = .returned (.int .i64 (keyB n 1)) ∧ w' = w := by
  unfold keyB
  by_cases h : 0 ≤ n ∧ n ≤ 32767
  · rw [if_pos h]
    obtain ⟨h0, h1⟩ := h
    have ht := rv_16 n 15 (by decide)
    have e1 := turn15 n h0 h1
    go_enter Try.func64, Try.ntmps64
    go_wp2_with (first | (go_at_call 90; refine (implTurned_any _ _ _).mono ?_; rintro e w' ⟨rfl, rfl⟩) | go_in)
    go_ret
    exact ⟨ret_int (by omega), rfl⟩
  · rw [if_neg h]
    have e1 := turn15_no n h
    clear h
    go_enter Try.func64, Try.ntmps64
    go_wp2_with (first | (go_at_call 90; refine (implTurned_any _ _ _).mono ?_; rintro e w' ⟨rfl, rfl⟩) | go_in)
    go_ret
    exact ⟨rfl, rfl⟩

theorem implMarkKey_any (n : Int) (w : World) :
    Calls Try.prog 50 #[.int .i64 n] w fun e w' => e = .returned (.int .i64 (keyB n 0)) ∧ w' = w := by
  unfold keyB
  by_cases h : 0 ≤ n ∧ n ≤ 32767
  · rw [if_pos h]
    obtain ⟨h0, h1⟩ := h
    have ht := rv_16 n 15 (by decide)
    have e1 := turn15 n h0 h1
    go_enter Try.func50, Try.ntmps50
    go_wp2_with (first | (go_at_call 90; refine (implTurned_any _ _ _).mono ?_; rintro e w' ⟨rfl, rfl⟩) | go_in)
    go_ret
    exact ⟨ret_int (by omega), rfl⟩
  · rw [if_neg h]
    have e1 := turn15_no n h
    clear h
    go_enter Try.func50, Try.ntmps50
    go_wp2_with (first | (go_at_call 90; refine (implTurned_any _ _ _).mono ?_; rintro e w' ⟨rfl, rfl⟩) | go_in)
    go_ret
    exact ⟨rfl, rfl⟩

end Go.Proofs.Ytbialeffdpmcjaa
