/- Contract of the laws' helper hasText, where the text is not there. -/
import Derived.Test.YtlakpibiojdgeaaRs1
namespace Go.Proofs.Ytlakpibiojdgeaa.rg
open Go.ChangeShapes Go.WideShapes Go.ChangeAt Go.RowKit
open Go.Proofs.Ytlakpibiojdgeaa.ce Go.Proofs.Ytlakpibiojdgeaa.ro
set_option linter.unusedVariables false

theorem hasText_no (N : List ByteArray) (s : ByteArray) (v : Value) (w : World) (r : Rd encS w v N) (hs : s ∉ N) :
    Calls Try.prog 26 #[v, .string s] w fun e w' => e = .returned (.bool false) ∧ w' = w := by
  have hl := r.len
  obtain ⟨a, cap, rfl⟩ := r.form
  have R : Hid (Rd encS w (.slice a N.length cap) N) := r
  have HS : Hid (s ∉ N) := hs
  clear r hs
  go_enter Try.func26, Try.ntmps26
  go_wp2
  go_loop [5] (fun p => ∃ i : Nat, i ≤ N.length ∧ p = .int .i64 i) (fun p => N.length - (intOf p).toNat)
  case atStart => exact ⟨0, by omega, rfl⟩
  case round =>
    obtain ⟨i, hi1, rfl⟩ := hrel
    by_cases hlt : i < N.length
    · obtain ⟨b, off, rfl, hb, d0⟩ := rdS_cell R.out i hlt
      have hlt' : (i : Int) < (N.length : Int) := by omega
      have hne : N[i] ≠ s := fun e => HS.out (e ▸ List.getElem_mem hlt)
      obtain ⟨z, hz⟩ := hid_ex (N[i])
      rw [hz.out] at d0 hne
      have hbe : (z.toList == s.toList) = false := by simpa using fun e => hne (str_eq e)
      clear hne
      go_wp2
      go_round
      case rel => exact ⟨i + 1, by omega, by go_num⟩
      case measure => simp [intOf]; omega
    · have hlt' : ¬ (i : Int) < (N.length : Int) := by omega
      go_wp2
      go_ret
      exact ⟨rfl, rfl⟩
end Go.Proofs.Ytlakpibiojdgeaa.rg
