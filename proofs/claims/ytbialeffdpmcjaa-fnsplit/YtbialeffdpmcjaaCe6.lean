/- Contracts: Swapped and Struck on a row of one's own, by the model (l3Swap, l3Strike). -/
import Derived.Test.YtbialeffdpmcjaaCe5
namespace Go.Proofs.Ytbialeffdpmcjaa.ce
open Go.ChangeShapes Go.WideShapes Go.ChangeAt Go.RowKit
set_option linter.unusedVariables false

def swapOk (H : List C) (p next to : Int) : Prop := stands H p next ∧ leads H (nth H p).key to
instance (H : List C) (p next to : Int) : Decidable (swapOk H p next to) := by unfold swapOk; infer_instance
def swapH (H : List C) (p to : Int) : List C := H.set p.toNat { nth H p with next := to }
def swap1 (H : List C) (p next to : Int) : List C := if swapOk H p next to then swapH H p to else H
def strikeOk (H : List C) (p next : Int) : Prop := p ≠ 0 ∧ stands H p next
instance (H : List C) (p next : Int) : Decidable (strikeOk H p next) := by unfold strikeOk; infer_instance
def strikeH (H : List C) (p : Int) : List C := H.set p.toNat { nth H p with gone := true }
def strike1 (H : List C) (p next : Int) : List C := if strikeOk H p next then strikeH H p else H
theorem swapH_len (H : List C) (p to : Int) : (swapH H p to).length = H.length := by simp [swapH]
theorem strikeH_len (H : List C) (p : Int) : (strikeH H p).length = H.length := by simp [strikeH]
theorem swap1_len (H : List C) (p next to : Int) : (swap1 H p next to).length = H.length := by unfold swap1; split <;> simp [swapH_len]
theorem strike1_len (H : List C) (p next : Int) : (strike1 H p next).length = H.length := by unfold strike1; split <;> simp [strikeH_len]

theorem swap_no {H : List C} {p next to : Int} (h : ¬ swapOk H p next to) : decide (swapOk H p next to) = false ∧ swap1 H p next to = H := ⟨decide_eq_false h, if_neg h⟩
theorem swap_yes {H : List C} {p next to : Int} (h : swapOk H p next to) : decide (swapOk H p next to) = true ∧ swap1 H p next to = swapH H p to := ⟨decide_eq_true h, if_pos h⟩
theorem strike_no {H : List C} {p next : Int} (h : ¬ strikeOk H p next) : decide (strikeOk H p next) = false ∧ strike1 H p next = H := ⟨decide_eq_false h, if_neg h⟩
theorem strike_yes {H : List C} {p next : Int} (h : strikeOk H p next) : decide (strikeOk H p next) = true ∧ strike1 H p next = strikeH H p := ⟨decide_eq_true h, if_pos h⟩

end Go.Proofs.Ytbialeffdpmcjaa.ce
