/- Contracts of Hash, the model's and the program's: each answers as a plain fold over the bytes, and the world stays. -/
import Derived.Test.YtgdoclaifnnpgaaRows
import Derived.WalkKit
import Derived.ProofKit
import Derived.OpenShut
import Derived.Test.YtgdoclaifnnpgaaPlain1
namespace Go.Proofs.Ytgdoclaifnnpgaa.hash
open Go.ChangeShapes Go.WideShapes Go.ChangeAt Go.RowKit
set_option linter.unusedVariables false

theorem ret_int {k : IntKind} {a b : Int} (h : a = b) : Ending.returned (.int k a) = .returned (.int k b) := by rw [h]
def step (h : Int) (c : UInt8) : Int := (257 * h + c.toNat + 1) % 65521
def run (l : List UInt8) : Int := l.foldl step 5
theorem run_snoc (l : List UInt8) (c : UInt8) : run (l ++ [c]) = (257 * run l + c.toNat + 1) % 65521 := by
  unfold run; rw [List.foldl_append]; rfl
theorem run_bd (l : List UInt8) : 0 ≤ run l ∧ run l ≤ 65520 := by
  rcases l.eq_nil_or_concat with h | ⟨l', c, h⟩
  · subst h; decide
  · subst h; rw [List.concat_eq_append, run_snoc]; omega
theorem take_snoc (s : ByteArray) (k : Nat) (h : k < s.size) : s.data.toList.take (k + 1) = s.data.toList.take k ++ [s[k]] := by
  rw [List.take_succ_eq_append_getElem (by simpa using h)]; rfl
def hashOf (s : ByteArray) : Int := run s.data.toList % 32768
theorem hashOf_bd (s : ByteArray) : 0 ≤ hashOf s ∧ hashOf s ≤ 32767 := by
  unfold hashOf
  have := run_bd s.data.toList
  omega
theorem u8_le (c : UInt8) : (c.toNat : Int) ≤ 255 := by have := c.toNat_lt; omega

theorem spec_any (s : ByteArray) (w : World) (hs : s.size ≤ maxLen) :
    Calls Try.prog 39 #[.string s] w fun e w' => e = .returned (.int .i64 (hashOf s)) ∧ w' = w := by
  unfold maxLen at hs
  go_enter Try.func39, Try.ntmps39
  go_wp2
  go_loop [3, 4] (fun o i => ∃ k : Nat, k ≤ s.size ∧ i = .int .i64 k ∧ o = .int .i64 (run (s.data.toList.take k))) (fun _ i => s.size - (intOf i).toNat)
  case atStart => exact ⟨0, Nat.zero_le _, rfl, rfl⟩
  case round =>
    obtain ⟨k, hk, rfl, rfl⟩ := hrel
    have hb := run_bd (s.data.toList.take k)
    by_cases hlt : k < s.size
    · have HS : Hid (run (s.data.toList.take (k + 1)) = (257 * run (s.data.toList.take k) + s[k].toNat + 1) % 65521) := by
        rw [take_snoc s k hlt, run_snoc]; rfl
      have hc := u8_le s[k]
      go_wp2
      go_round
      case rel => exact ⟨k + 1, by omega, by go_num, by rw [HS.out]⟩
      case measure => simp [intOf]; omega
    · go_wp2
      go_ret
      exact ⟨ret_int (by unfold hashOf; rw [List.take_of_length_le (by simp; omega)]), rfl⟩

theorem impl_any (s : ByteArray) (w : World) (hs : s.size ≤ maxLen) :
    Calls Try.prog 40 #[.string s] w fun e w' => e = .returned (.int .i64 (hashOf s)) ∧ w' = w := by
  unfold maxLen at hs
  go_enter Try.func40, Try.ntmps40
  go_wp2
  go_loop [3, 7] (fun o i => ∃ k : Nat, k ≤ s.size ∧ i = .int .i64 k ∧ o = .int .i64 (run (s.data.toList.take k))) (fun _ i => s.size - (intOf i).toNat)
  case atStart => exact ⟨0, Nat.zero_le _, rfl, rfl⟩
  case round =>
    obtain ⟨k, hk, rfl, rfl⟩ := hrel
    have hb := run_bd (s.data.toList.take k)
    by_cases hlt : k < s.size
    · have HS : Hid (run (s.data.toList.take (k + 1)) = (257 * run (s.data.toList.take k) + s[k].toNat + 1) % 65521) := by
        rw [take_snoc s k hlt, run_snoc]; rfl
      have hc := u8_le s[k]
      go_wp2
      go_round
      case rel => exact ⟨k + 1, by omega, by go_num, by rw [HS.out]⟩
      case measure => simp [intOf]; omega
    · go_wp2
      go_ret
      exact ⟨ret_int (by unfold hashOf; rw [List.take_of_length_le (by simp; omega)]), rfl⟩

end Go.Proofs.Ytgdoclaifnnpgaa.hash
