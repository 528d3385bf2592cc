/- Small facts on how many numbers a sketch holds. -/
import Derived.Test.YtgdoclaifnnpgaaLw3
namespace Go.Proofs.Ytgdoclaifnnpgaa.sk
open Go.ChangeShapes Go.WideShapes Go.ChangeAt Go.RowKit
set_option linter.unusedVariables false
theorem Four.modest {R : List (List Int)} (h : Four R) : Modest R := ⟨by rw [h.1]; omega, fun xs hx => by rw [h.2 xs hx]; omega⟩
theorem zeros_modest : Modest zeros := zeros_four.modest
theorem addedR_modest (R : List (List Int)) (adds : Int) (key : ByteArray) : Modest (addedR R adds key) := by
  unfold addedR
  split
  · rename_i h
    split
    · exact (halfR_four (addR_four h.four)).modest
    · exact (addR_four h.four).modest
  · exact ⟨by simp, fun xs hx => by simp at hx⟩
end Go.Proofs.Ytgdoclaifnnpgaa.sk
