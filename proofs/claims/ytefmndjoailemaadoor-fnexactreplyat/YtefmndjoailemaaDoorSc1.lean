/- Contracts: how a command is shown, the program's. -/
import Derived.Test.YtefmndjoailemaaDoorEv1
import Derived.Deep.DeepCutAuto
import Derived.Deep.RegionHeld3
import Derived.BigQuiet
namespace Go.Proofs.YtefmndjoailemaaDoor.cm
open Go.ChangeShapes Go.WideShapes Go.ChangeAt Go.RowKit
open Go.Deep Go.Joins
open Go.Proofs.YtefmndjoailemaaDoor.ce Go.Proofs.YtefmndjoailemaaDoor.ro Go.Proofs.YtefmndjoailemaaDoor.rg
set_option linter.unusedVariables false

/-- what adding a word may change: the variable b, and rows of texts from lo on -/
structure Ad (lo b : Nat) (w w' : World) : Prop where
  low : Below lo w w'
  keep : ∀ (k : Nat) (cur : Array Value) (t' : TypeId) (f : Nat × Nat), w.heap[k]? = some (.cells cur t' f) → t' ≠ 9 → k ≠ b → w'.heap[k]? = w.heap[k]?
theorem Ad.vblk {lo b b' : Nat} {w w' : World} {t : TypeId} {vs : List Value} (h : Ad lo b w w') (hb : VBlk w b' t vs) (ht : t ≠ 9) (hn : b' ≠ b) : VBlk w' b' t vs := hb.of (h.keep b' _ t _ hb ht hn)
end Go.Proofs.YtefmndjoailemaaDoor.cm
