/- Contracts: is a reply right, the program's, of whatever kind. -/
import Derived.Test.YtefmndjoailemaaDoorRk3
import Derived.Test.YtefmndjoailemaaDoorRk4
import Derived.Test.YtefmndjoailemaaDoorRk5
namespace Go.Proofs.YtefmndjoailemaaDoor.cm
open Go.ChangeShapes Go.WideShapes Go.ChangeAt Go.RowKit
open Go.Proofs.YtefmndjoailemaaDoor.ce Go.Proofs.YtefmndjoailemaaDoor.ro Go.Proofs.YtefmndjoailemaaDoor.rg
set_option linter.unusedVariables false

theorem implReplyOk_any (K : Int) (N : ByteArray) (F : Int) (B : ByteArray) (C M : Int) (y : Bool) (hy : Hid (repB ⟨K, N, F, B, C, M⟩ = y)) (hN : N.size ≤ 9223372036854775807) (hB : B.size ≤ 9223372036854775807) (w : World) :
    Calls Tryd.prog 27 #[.agg #[.int .i64 K, .string N, .int .i64 F, .string B, .int .i64 C, .int .i64 M]] w fun e w' => e = .returned (.bool y) ∧ Below w.heap.size w w' := by
  cases hin : (decide (1 ≤ K) && decide (K ≤ 12)) with
  | false =>
    have hy2 : false = y := by rw [← hy.out]; exact (rep_out (r := ⟨K, N, F, B, C, M⟩) hin).symm
    subst hy2
    exact okI_out K N F B C M hin w
  | true =>
    have hk : 1 ≤ K ∧ K ≤ 12 := by simpa using hin
    by_cases k5 : K = 5
    · subst k5
      exact okI_val N F B C M y (by have := hy.out; rw [rep_val] at this; exact this) hN hB w
    · by_cases k6 : K = 6
      · subst k6
        exact okI_num N F B C M y (by have := hy.out; rw [rep_num] at this; exact this) w
      · exact okI_bare K N F B C M y (by have := hy.out; rw [rep_bare hk.1 hk.2 k5 k6] at this; exact this) hin (by simpa using k5) (by simpa using k6) w
end Go.Proofs.YtefmndjoailemaaDoor.cm
