/- Contracts of the laws' helpers on cells: sizes, copies, comparisons, marks. -/
import Derived.Test.YtbialeffdpmcjaaCe7
namespace Go.Proofs.Ytbialeffdpmcjaa.ce
open Go.ChangeShapes Go.WideShapes Go.ChangeAt Go.RowKit
set_option linter.unusedVariables false

def mark (k : Int) : C := ⟨k, k + 1, k + 1 + 1, (k + 1 + 1 + 1) % 3 == 0⟩
def marks (k : Int) (n : Nat) : List C := (List.range n).map fun j : Nat => mark (k + 4 * (j : Int))
theorem marks_len (k : Int) (n : Nat) : (marks k n).length = n := by simp [marks]
theorem marks_succ (k : Int) (n : Nat) : marks k (n + 1) = marks k n ++ [mark (k + 4 * (n : Int))] := by simp [marks, List.range_succ]
theorem marks_get (k : Int) (n i : Nat) (h : i < (marks k n).length) : (marks k n)[i] = mark (k + 4 * (i : Int)) := by simp [marks]
end Go.Proofs.Ytbialeffdpmcjaa.ce
