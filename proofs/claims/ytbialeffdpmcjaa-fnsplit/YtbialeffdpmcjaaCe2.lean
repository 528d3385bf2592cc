/- Contracts: what a heap of cells is, by the program and by the model. -/
import Derived.Test.YtbialeffdpmcjaaCe1
namespace Go.Proofs.Ytbialeffdpmcjaa.ce
open Go.ChangeShapes Go.WideShapes Go.ChangeAt Go.RowKit
set_option linter.unusedVariables false

def right (h : List C) (c : C) : Prop := (1 ≤ c.key ∧ c.key ≤ 65535) ∧ leads h c.key c.next
instance (h : List C) (c : C) : Decidable (right h c) := by unfold right; infer_instance
def first (h : List C) : Prop := (nth h 0).key = 0 ∧ (nth h 0).gone = false ∧ leads h (nth h 0).key (nth h 0).next
instance (h : List C) : Decidable (first h) := by unfold first; infer_instance
def heapOk (h : List C) : Prop := (1 ≤ h.length ∧ h.length ≤ 40) ∧ first h ∧ ∀ c ∈ h.drop 1, right h c
instance (h : List C) : Decidable (heapOk h) := by unfold heapOk; infer_instance
/-- a cell that stands as it was told -/
def stands (h : List C) (p next : Int) : Prop := has h p ∧ (nth h p).gone = false ∧ (nth h p).next = next
instance (h : List C) (p next : Int) : Decidable (stands h p next) := by unfold stands; infer_instance

end Go.Proofs.Ytbialeffdpmcjaa.ce
