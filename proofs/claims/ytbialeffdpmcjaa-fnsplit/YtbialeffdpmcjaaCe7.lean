/- Contracts: NewHeap, Fresh, Swapped and Struck, by the program and by the model. -/
import Derived.Test.YtbialeffdpmcjaaCe6
namespace Go.Proofs.Ytbialeffdpmcjaa.ce
open Go.ChangeShapes Go.WideShapes Go.ChangeAt Go.RowKit
set_option linter.unusedVariables false

def c0 : C := ⟨0, 0, -1, false⟩
def cell (key value next : Int) : C := ⟨key, value, next, false⟩
def freshOk (H : List C) (key value next : Int) : Prop := heapOk (H ++ [cell key value next])
instance (H : List C) (key value next : Int) : Decidable (freshOk H key value next) := by unfold freshOk; infer_instance
def freshH (H : List C) (key value next : Int) : List C := if heapOk H then (if freshOk H key value next then H ++ [cell key value next] else H) else []
def freshN (H : List C) (key value next : Int) : Int := if heapOk H then (if freshOk H key value next then (H.length : Int) else -1) else -1
def swappedH (H : List C) (p next to : Int) : List C := if heapOk H then swap1 H p next to else []
def swappedB (H : List C) (p next to : Int) : Bool := if heapOk H then decide (swapOk H p next to) else false
def struckH (H : List C) (p next : Int) : List C := if heapOk H then strike1 H p next else []
def struckB (H : List C) (p next : Int) : Bool := if heapOk H then decide (strikeOk H p next) else false

theorem snoc_len (H : List C) (c : C) : (H ++ [c]).length = H.length + 1 := by simp
end Go.Proofs.Ytbialeffdpmcjaa.ce
