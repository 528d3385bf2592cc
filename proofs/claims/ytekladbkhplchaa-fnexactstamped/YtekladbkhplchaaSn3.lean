/- strings.Compare; the closure that withItem hands on. -/
import Derived.Test.YtekladbkhplchaaSn2
import Derived.Lib.Bytealg
import Derived.Lib.SmallJoins
namespace Go.Proofs.Ytekladbkhplchaa.rg
open Go.ChangeShapes Go.WideShapes Go.ChangeAt Go.RowKit
open Go.Deep Go.Joins
open Go.Proofs.Ytekladbkhplchaa.ce Go.Proofs.Ytekladbkhplchaa.ro
set_option linter.unusedVariables false

def cmpS (a b : ByteArray) : Int := Lib.compareBytes a.data.toList b.data.toList
set_option maxRecDepth 100000 in
theorem cmpString_any (a b : ByteArray) (w : World) : Calls Try.prog 84 #[.string a, .string b] w fun e w' => e = .returned (.int .i64 (cmpS a b)) ∧ w' = w := by
  unfold cmpS
  go_enter Try.func84, Try.ntmps84
  go_wp2
  rw [run_callFunc_extern Try.func93 (by kernel_rfl) (by kernel_rfl) (by kernel_rfl) (e := Extern.BytealgCompare.compare) (by kernel_rfl), Lib.run_compareString]
  simp only [Result.andThen]
  rw [Oper.upon_value]
  go_wp2
  go_ret
  exact ⟨rfl, rfl⟩
theorem compare_any (a b : ByteArray) (w : World) : Calls Try.prog 67 #[.string a, .string b] w fun e w' => e = .returned (.int .i64 (cmpS a b)) ∧ w' = w := by
  go_enter Try.func67, Try.ntmps67
  go_wp2_with (first | (go_at_call 84; refine (cmpString_any _ _ _).mono ?_; rintro e wq ⟨rfl, hq⟩; subst wq) | (fail))
  go_ret
  exact ⟨rfl, rfl⟩
theorem wi1_any (N B s : ByteArray) (F C U : Int) (w : World) : Calls Try.prog 66 #[.agg #[.string N, .int .i64 F, .string B, .int .i64 C, .int .i64 U], .string s] w fun e w' => e = .returned (.int .i64 (cmpS N s)) ∧ Below w.heap.size w w' := by
  go_enter Try.func66, Try.ntmps66
  go_wp2_with (first | (refine wpList_box_v rfl 35 _ rfl [.string N, .int .i64 F, .string B, .int .i64 C, .int .i64 U] rfl ?_; intro b2 w1 hb2 hw2 hB1 V1; obtain ⟨c0, c1, c2, c3, c4⟩ := cells5 V1) | (go_at_call 67; refine (compare_any _ _ _).mono ?_; rintro e wq ⟨rfl, hq⟩; subst wq) | (fail))
  go_ret
  exact ⟨rfl, hB1⟩
theorem cmp_less : ∀ l m : List UInt8, Lib.compareBytes l m < 0 ↔ Op.bytesLess l m = true
  | [], [] => by simp [Lib.compareBytes, Op.bytesLess]
  | [], _ :: _ => by simp [Lib.compareBytes, Op.bytesLess]
  | _ :: _, [] => by simp [Lib.compareBytes, Op.bytesLess]
  | a :: l, b :: m => by
    have ih := cmp_less l m
    unfold Lib.compareBytes Op.bytesLess
    by_cases h1 : a < b
    · simp [h1]
    · by_cases h2 : b < a
      · simp [h1, h2]
        try (intro e; exact absurd (e ▸ h2) (by simp))
      · have e : a = b := by
          have h1' := UInt8.not_lt.1 h1
          have h2' := UInt8.not_lt.1 h2
          exact UInt8.le_antisymm h2' h1'
        subst e
        simpa using ih
end Go.Proofs.Ytekladbkhplchaa.rg
