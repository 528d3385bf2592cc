/-
  No cell of these rows narrows 'for every input' (looked for: loops, veiled, ifaces, maps, wideKeys, modest, calm, conditions, laid).
  DERIVED. THE GIVEN ROWS OF THIS SEAT. 9 by the template 'for every input the law returns true; each argument reads behind the call as it read before'; 0 by the template 'total and deterministic' (their statements: YtbialeffdpmcjaaTotals.lean).
  GIVEN WITH THE SEED: the statements are not yours to turn. If you find one false, say at which input.
  Laid BY PROGRAM, IN A SANDBOX (cutbox-rows.mjs): the forced cells as the released guide's own fill.sh prints them over the translation 03c9e17bb755b9fb… (all of the seat's roots in one cut). By AI agents, Wed Nov 11 2026. No macro, syntax, notation, axiom, sorry.
-/
import Derived.Test.YtbialeffdpmcjaaChecked
import GoSem.Claim
import GoSem.ClaimJoined
import GoSem.ClaimMapViews
import Derived.JoinedTies
import Derived.KernelRfl
namespace Go.Proofs.Ytbialeffdpmcjaa
/- THE CELL 'sum', in the pinned program and in every row, IS THE sha256 OF THE DUMP (.gsa) THAT YtbialeffdpmcjaaProg.lean LOADS. Nothing in Lean hashes anything: it is a label: what it is worth is what the hold of that sum in a sandbox is worth. -/
noncomputable def Try.pinned : Pinned := { name := "ytbialeffdpmcjaa", sum := "03c9e17bb755b9fb0c68a669b23cd880b3bb08479f5b75f0436131c2388d8d32", checked := Try.checked }
namespace Rows
def none {H : Type} : Left H := { results := [], args := [] }

/-- 'laws.FnExactSplitOk': WHATEVER THE INPUT: true; the input reads as it did. -/
def fnExactSplitOkSpec : ChangeSpec := { name := "fnExactSplitOk", fn := fun _ => fun
  | [d] => { results := [.lit (.bool true)], args := [d] }
  | _ => none }
def fnExactSplitOkRow : OpenClaim := { program := "ytbialeffdpmcjaa", sum := "03c9e17bb755b9fb0c68a669b23cd880b3bb08479f5b75f0436131c2388d8d32", func := "loop.example/g00401/laws.FnExactSplitOk", spec := "fnExactSplitOk", unfollowed := true, recurses := true, apart := false }
def FnExactSplitOkSaid : Prop := fnExactSplitOkRow.holds Try.pinned (OpenSpec.ofChange fnExactSplitOkSpec)

/-- ITS FALSE NEIGHBOUR: 'it returns false'. Refute it at one input. -/
def fnExactSplitOkWrong : ChangeSpec := { name := "fnExactSplitOk", fn := fun _ => fun
  | [d] => { results := [.lit (.bool false)], args := [d] }
  | _ => none }
def FnExactSplitOkWrongFalsely : Prop := fnExactSplitOkRow.holds Try.pinned (OpenSpec.ofChange fnExactSplitOkWrong)

/-- 'laws.FnExactNewSplit': WHATEVER THE INPUT: true; the input reads as it did. -/
def fnExactNewSplitSpec : ChangeSpec := { name := "fnExactNewSplit", fn := fun _ => fun
  | [] => { results := [.lit (.bool true)], args := [] }
  | _ => none }
def fnExactNewSplitRow : OpenClaim := { program := "ytbialeffdpmcjaa", sum := "03c9e17bb755b9fb0c68a669b23cd880b3bb08479f5b75f0436131c2388d8d32", func := "loop.example/g00401/laws.FnExactNewSplit", spec := "fnExactNewSplit", unfollowed := true, recurses := true, apart := false }
def FnExactNewSplitSaid : Prop := fnExactNewSplitRow.holds Try.pinned (OpenSpec.ofChange fnExactNewSplitSpec)

/-- ITS FALSE NEIGHBOUR: 'it returns false'. Refute it at one input. -/
def fnExactNewSplitWrong : ChangeSpec := { name := "fnExactNewSplit", fn := fun _ => fun
  | [] => { results := [.lit (.bool false)], args := [] }
  | _ => none }
def FnExactNewSplitWrongFalsely : Prop := fnExactNewSplitRow.holds Try.pinned (OpenSpec.ofChange fnExactNewSplitWrong)

/-- 'laws.FnExactOpened': WHATEVER THE INPUT: true; the input reads as it did. -/
def fnExactOpenedSpec : ChangeSpec := { name := "fnExactOpened", fn := fun _ => fun
  | [d1, d2] => { results := [.lit (.bool true)], args := [d1, d2] }
  | _ => none }
def fnExactOpenedRow : OpenClaim := { program := "ytbialeffdpmcjaa", sum := "03c9e17bb755b9fb0c68a669b23cd880b3bb08479f5b75f0436131c2388d8d32", func := "loop.example/g00401/laws.FnExactOpened", spec := "fnExactOpened", unfollowed := true, recurses := true, apart := false }
def FnExactOpenedSaid : Prop := fnExactOpenedRow.holds Try.pinned (OpenSpec.ofChange fnExactOpenedSpec)

/-- ITS FALSE NEIGHBOUR: 'it returns false'. Refute it at one input. -/
def fnExactOpenedWrong : ChangeSpec := { name := "fnExactOpened", fn := fun _ => fun
  | [d1, d2] => { results := [.lit (.bool false)], args := [d1, d2] }
  | _ => none }
def FnExactOpenedWrongFalsely : Prop := fnExactOpenedRow.holds Try.pinned (OpenSpec.ofChange fnExactOpenedWrong)

/-- 'laws.FnExactStored': WHATEVER THE INPUT: true; the input reads as it did. -/
def fnExactStoredSpec : ChangeSpec := { name := "fnExactStored", fn := fun _ => fun
  | [d1, d2] => { results := [.lit (.bool true)], args := [d1, d2] }
  | _ => none }
def fnExactStoredRow : OpenClaim := { program := "ytbialeffdpmcjaa", sum := "03c9e17bb755b9fb0c68a669b23cd880b3bb08479f5b75f0436131c2388d8d32", func := "loop.example/g00401/laws.FnExactStored", spec := "fnExactStored", unfollowed := true, recurses := true, apart := false }
def FnExactStoredSaid : Prop := fnExactStoredRow.holds Try.pinned (OpenSpec.ofChange fnExactStoredSpec)

/-- ITS FALSE NEIGHBOUR: 'it returns false'. Refute it at one input. -/
def fnExactStoredWrong : ChangeSpec := { name := "fnExactStored", fn := fun _ => fun
  | [d1, d2] => { results := [.lit (.bool false)], args := [d1, d2] }
  | _ => none }
def FnExactStoredWrongFalsely : Prop := fnExactStoredRow.holds Try.pinned (OpenSpec.ofChange fnExactStoredWrong)

/-- 'laws.FnExactDoubled': WHATEVER THE INPUT: true; the input reads as it did. -/
def fnExactDoubledSpec : ChangeSpec := { name := "fnExactDoubled", fn := fun _ => fun
  | [d] => { results := [.lit (.bool true)], args := [d] }
  | _ => none }
def fnExactDoubledRow : OpenClaim := { program := "ytbialeffdpmcjaa", sum := "03c9e17bb755b9fb0c68a669b23cd880b3bb08479f5b75f0436131c2388d8d32", func := "loop.example/g00401/laws.FnExactDoubled", spec := "fnExactDoubled", unfollowed := true, recurses := true, apart := false }
def FnExactDoubledSaid : Prop := fnExactDoubledRow.holds Try.pinned (OpenSpec.ofChange fnExactDoubledSpec)

/-- ITS FALSE NEIGHBOUR: 'it returns false'. Refute it at one input. -/
def fnExactDoubledWrong : ChangeSpec := { name := "fnExactDoubled", fn := fun _ => fun
  | [d] => { results := [.lit (.bool false)], args := [d] }
  | _ => none }
def FnExactDoubledWrongFalsely : Prop := fnExactDoubledRow.holds Try.pinned (OpenSpec.ofChange fnExactDoubledWrong)

/-- 'laws.FnExactBehind': WHATEVER THE INPUT: true; the input reads as it did. -/
def fnExactBehindSpec : ChangeSpec := { name := "fnExactBehind", fn := fun _ => fun
  | [d1, d2] => { results := [.lit (.bool true)], args := [d1, d2] }
  | _ => none }
def fnExactBehindRow : OpenClaim := { program := "ytbialeffdpmcjaa", sum := "03c9e17bb755b9fb0c68a669b23cd880b3bb08479f5b75f0436131c2388d8d32", func := "loop.example/g00401/laws.FnExactBehind", spec := "fnExactBehind", unfollowed := true, recurses := true, apart := false }
def FnExactBehindSaid : Prop := fnExactBehindRow.holds Try.pinned (OpenSpec.ofChange fnExactBehindSpec)

/-- ITS FALSE NEIGHBOUR: 'it returns false'. Refute it at one input. -/
def fnExactBehindWrong : ChangeSpec := { name := "fnExactBehind", fn := fun _ => fun
  | [d1, d2] => { results := [.lit (.bool false)], args := [d1, d2] }
  | _ => none }
def FnExactBehindWrongFalsely : Prop := fnExactBehindRow.holds Try.pinned (OpenSpec.ofChange fnExactBehindWrong)

/-- 'laws.FnExactPassed': WHATEVER THE INPUT: true; the input reads as it did. -/
def fnExactPassedSpec : ChangeSpec := { name := "fnExactPassed", fn := fun _ => fun
  | [d1, d2] => { results := [.lit (.bool true)], args := [d1, d2] }
  | _ => none }
def fnExactPassedRow : OpenClaim := { program := "ytbialeffdpmcjaa", sum := "03c9e17bb755b9fb0c68a669b23cd880b3bb08479f5b75f0436131c2388d8d32", func := "loop.example/g00401/laws.FnExactPassed", spec := "fnExactPassed", unfollowed := true, recurses := true, apart := false }
def FnExactPassedSaid : Prop := fnExactPassedRow.holds Try.pinned (OpenSpec.ofChange fnExactPassedSpec)

/-- ITS FALSE NEIGHBOUR: 'it returns false'. Refute it at one input. -/
def fnExactPassedWrong : ChangeSpec := { name := "fnExactPassed", fn := fun _ => fun
  | [d1, d2] => { results := [.lit (.bool false)], args := [d1, d2] }
  | _ => none }
def FnExactPassedWrongFalsely : Prop := fnExactPassedRow.holds Try.pinned (OpenSpec.ofChange fnExactPassedWrong)

/-- 'laws.FnSplit': WHATEVER THE INPUT: true; the input reads as it did. -/
def fnSplitSpec : ChangeSpec := { name := "fnSplit", fn := fun _ => fun
  | [d] => { results := [.lit (.bool true)], args := [d] }
  | _ => none }
def fnSplitRow : OpenClaim := { program := "ytbialeffdpmcjaa", sum := "03c9e17bb755b9fb0c68a669b23cd880b3bb08479f5b75f0436131c2388d8d32", func := "loop.example/g00401/laws.FnSplit", spec := "fnSplit", unfollowed := true, recurses := true, apart := false }
def FnSplitSaid : Prop := fnSplitRow.holds Try.pinned (OpenSpec.ofChange fnSplitSpec)

/-- ITS FALSE NEIGHBOUR: 'it returns false'. Refute it at one input. -/
def fnSplitWrong : ChangeSpec := { name := "fnSplit", fn := fun _ => fun
  | [d] => { results := [.lit (.bool false)], args := [d] }
  | _ => none }
def FnSplitWrongFalsely : Prop := fnSplitRow.holds Try.pinned (OpenSpec.ofChange fnSplitWrong)

/-- 'laws.FnDoubled': WHATEVER THE INPUT: true; the input reads as it did. -/
def fnDoubledSpec : ChangeSpec := { name := "fnDoubled", fn := fun _ => fun
  | [d] => { results := [.lit (.bool true)], args := [d] }
  | _ => none }
def fnDoubledRow : OpenClaim := { program := "ytbialeffdpmcjaa", sum := "03c9e17bb755b9fb0c68a669b23cd880b3bb08479f5b75f0436131c2388d8d32", func := "loop.example/g00401/laws.FnDoubled", spec := "fnDoubled", unfollowed := true, recurses := true, apart := false }
def FnDoubledSaid : Prop := fnDoubledRow.holds Try.pinned (OpenSpec.ofChange fnDoubledSpec)

/-- ITS FALSE NEIGHBOUR: 'it returns false'. Refute it at one input. -/
def fnDoubledWrong : ChangeSpec := { name := "fnDoubled", fn := fun _ => fun
  | [d] => { results := [.lit (.bool false)], args := [d] }
  | _ => none }
def FnDoubledWrongFalsely : Prop := fnDoubledRow.holds Try.pinned (OpenSpec.ofChange fnDoubledWrong)

/- THE SECOND FORM. 'bulk': how many values and letters a reading holds, each counted each time it is reached (what is shared counts as often as it is met; a slice's spare places count too). A statement '..UptoSaid' is the law's where the arguments, and the package variables that the reading takes, are together of bulk at most 1048576: NARROWER than '..Said'. Prove '..Said' where nothing that the law and all that it calls make is longer than what came in: it says more and counts as full. Else prove '..UptoSaid'. A law counts once. -/
mutual
def uptoBulk {H : Type} : DataW H → Nat
  | .lit (.string bytes) => bytes.length + 1
  | .lit _ => 1
  | .nil => 1
  | .ptr d => uptoBulk d + 1
  | .slice elems spare => uptoBulkAll elems + uptoBulkAll spare + 1
  | .agg parts => uptoBulkAll parts + 1
  | .iface _ d => uptoBulk d + 1
  | .map entries => uptoBulkEntries entries + 1
  | .held _ => 1
def uptoBulkAll {H : Type} : List (DataW H) → Nat
  | [] => 0
  | d :: r => uptoBulk d + uptoBulkAll r
def uptoBulkEntries {H : Type} : List (Lit × DataW H) → Nat
  | [] => 0
  | x :: r => uptoBulkEntry x + uptoBulkEntries r
def uptoBulkEntry {H : Type} : Lit × DataW H → Nat
  | (.string bytes, d) => bytes.length + uptoBulk d + 1
  | (_, d) => uptoBulk d + 1
 end
def uptoSmall : (H : Type) → List (DataW H) → Bool := fun _ ds => decide (uptoBulkAll ds ≤ 1048576)
def OpenSpec.upto (s : _root_.Go.ChangeSpec) : _root_.Go.OpenSpec := { _root_.Go.OpenSpec.ofChange s with cond := some uptoSmall }

/-- 'laws.FnExactSplitOk', WHERE WHAT IT READS IS OF BULK AT MOST 1048576: true; the input reads as it did. -/
def fnExactSplitOkUptoRow : OpenClaim := { program := "ytbialeffdpmcjaa", sum := "03c9e17bb755b9fb0c68a669b23cd880b3bb08479f5b75f0436131c2388d8d32", func := "loop.example/g00401/laws.FnExactSplitOk", spec := "fnExactSplitOk", unfollowed := true, recurses := true, apart := false, narrowed := true }
def FnExactSplitOkUptoSaid : Prop := fnExactSplitOkUptoRow.holds Try.pinned (OpenSpec.upto fnExactSplitOkSpec)

/-- 'laws.FnExactNewSplit', WHERE WHAT IT READS IS OF BULK AT MOST 1048576: true; the input reads as it did. -/
def fnExactNewSplitUptoRow : OpenClaim := { program := "ytbialeffdpmcjaa", sum := "03c9e17bb755b9fb0c68a669b23cd880b3bb08479f5b75f0436131c2388d8d32", func := "loop.example/g00401/laws.FnExactNewSplit", spec := "fnExactNewSplit", unfollowed := true, recurses := true, apart := false, narrowed := true }
def FnExactNewSplitUptoSaid : Prop := fnExactNewSplitUptoRow.holds Try.pinned (OpenSpec.upto fnExactNewSplitSpec)

/-- 'laws.FnExactOpened', WHERE WHAT IT READS IS OF BULK AT MOST 1048576: true; the input reads as it did. -/
def fnExactOpenedUptoRow : OpenClaim := { program := "ytbialeffdpmcjaa", sum := "03c9e17bb755b9fb0c68a669b23cd880b3bb08479f5b75f0436131c2388d8d32", func := "loop.example/g00401/laws.FnExactOpened", spec := "fnExactOpened", unfollowed := true, recurses := true, apart := false, narrowed := true }
def FnExactOpenedUptoSaid : Prop := fnExactOpenedUptoRow.holds Try.pinned (OpenSpec.upto fnExactOpenedSpec)

/-- 'laws.FnExactStored', WHERE WHAT IT READS IS OF BULK AT MOST 1048576: true; the input reads as it did. -/
def fnExactStoredUptoRow : OpenClaim := { program := "ytbialeffdpmcjaa", sum := "03c9e17bb755b9fb0c68a669b23cd880b3bb08479f5b75f0436131c2388d8d32", func := "loop.example/g00401/laws.FnExactStored", spec := "fnExactStored", unfollowed := true, recurses := true, apart := false, narrowed := true }
def FnExactStoredUptoSaid : Prop := fnExactStoredUptoRow.holds Try.pinned (OpenSpec.upto fnExactStoredSpec)

/-- 'laws.FnExactDoubled', WHERE WHAT IT READS IS OF BULK AT MOST 1048576: true; the input reads as it did. -/
def fnExactDoubledUptoRow : OpenClaim := { program := "ytbialeffdpmcjaa", sum := "03c9e17bb755b9fb0c68a669b23cd880b3bb08479f5b75f0436131c2388d8d32", func := "loop.example/g00401/laws.FnExactDoubled", spec := "fnExactDoubled", unfollowed := true, recurses := true, apart := false, narrowed := true }
def FnExactDoubledUptoSaid : Prop := fnExactDoubledUptoRow.holds Try.pinned (OpenSpec.upto fnExactDoubledSpec)

/-- 'laws.FnExactBehind', WHERE WHAT IT READS IS OF BULK AT MOST 1048576: true; the input reads as it did. -/
def fnExactBehindUptoRow : OpenClaim := { program := "ytbialeffdpmcjaa", sum := "03c9e17bb755b9fb0c68a669b23cd880b3bb08479f5b75f0436131c2388d8d32", func := "loop.example/g00401/laws.FnExactBehind", spec := "fnExactBehind", unfollowed := true, recurses := true, apart := false, narrowed := true }
def FnExactBehindUptoSaid : Prop := fnExactBehindUptoRow.holds Try.pinned (OpenSpec.upto fnExactBehindSpec)

/-- 'laws.FnExactPassed', WHERE WHAT IT READS IS OF BULK AT MOST 1048576: true; the input reads as it did. -/
def fnExactPassedUptoRow : OpenClaim := { program := "ytbialeffdpmcjaa", sum := "03c9e17bb755b9fb0c68a669b23cd880b3bb08479f5b75f0436131c2388d8d32", func := "loop.example/g00401/laws.FnExactPassed", spec := "fnExactPassed", unfollowed := true, recurses := true, apart := false, narrowed := true }
def FnExactPassedUptoSaid : Prop := fnExactPassedUptoRow.holds Try.pinned (OpenSpec.upto fnExactPassedSpec)

/-- 'laws.FnSplit', WHERE WHAT IT READS IS OF BULK AT MOST 1048576: true; the input reads as it did. -/
def fnSplitUptoRow : OpenClaim := { program := "ytbialeffdpmcjaa", sum := "03c9e17bb755b9fb0c68a669b23cd880b3bb08479f5b75f0436131c2388d8d32", func := "loop.example/g00401/laws.FnSplit", spec := "fnSplit", unfollowed := true, recurses := true, apart := false, narrowed := true }
def FnSplitUptoSaid : Prop := fnSplitUptoRow.holds Try.pinned (OpenSpec.upto fnSplitSpec)

/-- 'laws.FnDoubled', WHERE WHAT IT READS IS OF BULK AT MOST 1048576: true; the input reads as it did. -/
def fnDoubledUptoRow : OpenClaim := { program := "ytbialeffdpmcjaa", sum := "03c9e17bb755b9fb0c68a669b23cd880b3bb08479f5b75f0436131c2388d8d32", func := "loop.example/g00401/laws.FnDoubled", spec := "fnDoubled", unfollowed := true, recurses := true, apart := false, narrowed := true }
def FnDoubledUptoSaid : Prop := fnDoubledUptoRow.holds Try.pinned (OpenSpec.upto fnDoubledSpec)

end Rows
end Go.Proofs.Ytbialeffdpmcjaa
