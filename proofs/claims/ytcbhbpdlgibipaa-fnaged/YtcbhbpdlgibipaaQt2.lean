/- The laws' helper hasText. -/
import Derived.Test.YtcbhbpdlgibipaaRs1
import Derived.Lib.SmallJoins
import Derived.Deep.Slices
namespace Go.Proofs.Ytcbhbpdlgibipaa.rg
open Go.ChangeShapes Go.WideShapes Go.ChangeAt Go.RowKit
open Go.Deep Go.Joins
open Go.Proofs.Ytcbhbpdlgibipaa.ce Go.Proofs.Ytcbhbpdlgibipaa.ro
set_option linter.unusedVariables false

theorem hasText_is (N : List ByteArray) (s : ByteArray) (v : Value) (y : Bool) (hy : Hid (y = true ↔ s ∈ N)) (w : World) (r : Rd encS w v N) :
    Calls Try.prog 31 #[v, .string s] w fun e w' => e = .returned (.bool y) ∧ w' = w := by
  have hl := r.len
  obtain ⟨a, cap, rfl⟩ := r.form
  have R : Hid (Rd encS w (.slice a N.length cap) N) := r
  clear r
  go_enter Try.func31, Try.ntmps31
  go_wp2
  go_loop [5] (fun p => ∃ i : Nat, i ≤ N.length ∧ p = .int .i64 i ∧ Hid (∀ j (h : j < N.length), j < i → N[j] ≠ s)) (fun p => N.length - (intOf p).toNat)
  case atStart => exact ⟨0, by omega, rfl, fun j h hj => by omega⟩
  case round =>
    obtain ⟨i, hi1, rfl, hno⟩ := hrel
    by_cases hlt : i < N.length
    · obtain ⟨b, off, rfl, hb, d0⟩ := rdS_cell R.out i hlt
      have hlt' : (i : Int) < (N.length : Int) := by omega
      by_cases he : N[i] = s
      · have ey : y = true := hy.out.2 (he ▸ List.getElem_mem hlt)
        rw [he] at d0
        have hbe : (s.toList == s.toList) = true := by simp
        subst ey
        clear he
        go_wp2
        go_ret
        exact ⟨rfl, rfl⟩
      · have hno2 : Hid (∀ j (h : j < N.length), j < i + 1 → N[j] ≠ s) := fun j h hj => by
          by_cases q : j = i
          · subst q; exact he
          · exact hno.out j h (by omega)
        obtain ⟨z, hz⟩ := hid_ex (N[i])
        rw [hz.out] at d0 he
        have hbe : (z.toList == s.toList) = false := by simpa using fun e => he (str_eq e)
        clear he
        go_wp2
        go_round
        case rel => exact ⟨i + 1, by omega, by go_num, hno2⟩
        case measure => simp [intOf]; omega
    · have hlt' : ¬ (i : Int) < (N.length : Int) := by omega
      have ey : y = false := by
        cases y with
        | false => rfl
        | true =>
          obtain ⟨j, hj, e⟩ := List.mem_iff_getElem.1 (hy.out.1 rfl)
          exact absurd e (hno.out j hj (by omega))
      subst ey
      go_wp2
      go_ret
      exact ⟨rfl, rfl⟩
end Go.Proofs.Ytcbhbpdlgibipaa.rg
