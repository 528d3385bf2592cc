/- Contracts of the model's helpers on texts: a number is shown. -/
import Derived.Test.YtpngnblfkijkhaaCy0
import Derived.Test.YtpngnblfkijkhaaRs2
import Derived.Deep.LoopGhost
namespace Go.Proofs.Ytpngnblfkijkhaa.cm
open Go.ChangeShapes Go.WideShapes Go.ChangeAt Go.RowKit
open Go.Proofs.Ytpngnblfkijkhaa.ce Go.Proofs.Ytpngnblfkijkhaa.ro Go.Proofs.Ytpngnblfkijkhaa.rg
set_option linter.unusedVariables false

theorem dig_tx (d : Nat) : dig d = tx [dg d] := rfl
theorem tx_nonempty {l : List UInt8} (h : l ≠ []) : (tx l).toList ≠ [] := by rw [bs_toList, bs_tx]; exact h
theorem dig_len {n q : Nat} {l : List UInt8} (h : Dig n q l) : l.length ≤ (digs n).length := by
  by_cases e : l = []
  · rw [e]; exact Nat.zero_le _
  · rw [h.on e, List.length_append]; omega
end Go.Proofs.Ytpngnblfkijkhaa.cm
