/-
  No cell of these rows narrows 'for every input' (looked for: loops, veiled, ifaces, maps, wideKeys, modest, calm, conditions, laid).
  DERIVED. THE GIVEN ROWS OF THIS SEAT. 7 by the template 'for every input the law returns true; each argument reads behind the call as it read before'; 0 by the template 'total and deterministic' (their statements: YtgdoclaifnnpgaaTotals.lean).
  GIVEN WITH THE SEED: the statements are not yours to turn. If you find one false, say at which input.
  Laid BY PROGRAM, IN A SANDBOX (cutbox-rows.mjs): the forced cells as the released guide's own fill.sh prints them over the translation 5d5d88bd0025701c… (all of the seat's roots in one cut). By AI agents, Wed Nov 11 2026. No macro, syntax, notation, axiom, sorry.
-/
import Derived.Test.YtgdoclaifnnpgaaChecked
import GoSem.Claim
import GoSem.ClaimJoined
import GoSem.ClaimMapViews
import Derived.JoinedTies
import Derived.KernelRfl
namespace Go.Proofs.Ytgdoclaifnnpgaa
/- THE CELL 'sum', in the pinned program and in every row, IS THE sha256 OF THE DUMP (.gsa) THAT YtgdoclaifnnpgaaProg.lean LOADS. Nothing in Lean hashes anything: it is a label: what it is worth is what the hold of that sum in a sandbox is worth. -/
noncomputable def Try.pinned : Pinned := { name := "ytgdoclaifnnpgaa", sum := "5d5d88bd0025701cf02861d3cf0671177a093f642b3a73cfdf9a6176c31da8ff", checked := Try.checked }
namespace Rows
def none {H : Type} : Left H := { results := [], args := [] }

/-- 'laws.FnExactSketchOk': WHATEVER THE INPUT: true; the input reads as it did. -/
def fnExactSketchOkSpec : ChangeSpec := { name := "fnExactSketchOk", fn := fun _ => fun
  | [d] => { results := [.lit (.bool true)], args := [d] }
  | _ => none }
def fnExactSketchOkRow : OpenClaim := { program := "ytgdoclaifnnpgaa", sum := "5d5d88bd0025701cf02861d3cf0671177a093f642b3a73cfdf9a6176c31da8ff", func := "loop.example/g00401/laws.FnExactSketchOk", spec := "fnExactSketchOk", apart := false }
def FnExactSketchOkSaid : Prop := fnExactSketchOkRow.holds Try.pinned (OpenSpec.ofChange fnExactSketchOkSpec)

/-- ITS FALSE NEIGHBOUR: 'it returns false'. Refute it at one input. -/
def fnExactSketchOkWrong : ChangeSpec := { name := "fnExactSketchOk", fn := fun _ => fun
  | [d] => { results := [.lit (.bool false)], args := [d] }
  | _ => none }
def FnExactSketchOkWrongFalsely : Prop := fnExactSketchOkRow.holds Try.pinned (OpenSpec.ofChange fnExactSketchOkWrong)

/-- 'laws.FnExactNewSketch': WHATEVER THE INPUT: true; the input reads as it did. -/
def fnExactNewSketchSpec : ChangeSpec := { name := "fnExactNewSketch", fn := fun _ => fun
  | [] => { results := [.lit (.bool true)], args := [] }
  | _ => none }
def fnExactNewSketchRow : OpenClaim := { program := "ytgdoclaifnnpgaa", sum := "5d5d88bd0025701cf02861d3cf0671177a093f642b3a73cfdf9a6176c31da8ff", func := "loop.example/g00401/laws.FnExactNewSketch", spec := "fnExactNewSketch", apart := false }
def FnExactNewSketchSaid : Prop := fnExactNewSketchRow.holds Try.pinned (OpenSpec.ofChange fnExactNewSketchSpec)

/-- ITS FALSE NEIGHBOUR: 'it returns false'. Refute it at one input. -/
def fnExactNewSketchWrong : ChangeSpec := { name := "fnExactNewSketch", fn := fun _ => fun
  | [] => { results := [.lit (.bool false)], args := [] }
  | _ => none }
def FnExactNewSketchWrongFalsely : Prop := fnExactNewSketchRow.holds Try.pinned (OpenSpec.ofChange fnExactNewSketchWrong)

/-- 'laws.FnExactPlaceOf': WHATEVER THE INPUT: true; the input reads as it did. -/
def fnExactPlaceOfSpec : ChangeSpec := { name := "fnExactPlaceOf", fn := fun _ => fun
  | [d1, d2] => { results := [.lit (.bool true)], args := [d1, d2] }
  | _ => none }
def fnExactPlaceOfRow : OpenClaim := { program := "ytgdoclaifnnpgaa", sum := "5d5d88bd0025701cf02861d3cf0671177a093f642b3a73cfdf9a6176c31da8ff", func := "loop.example/g00401/laws.FnExactPlaceOf", spec := "fnExactPlaceOf", apart := false }
def FnExactPlaceOfSaid : Prop := fnExactPlaceOfRow.holds Try.pinned (OpenSpec.ofChange fnExactPlaceOfSpec)

/-- ITS FALSE NEIGHBOUR: 'it returns false'. Refute it at one input. -/
def fnExactPlaceOfWrong : ChangeSpec := { name := "fnExactPlaceOf", fn := fun _ => fun
  | [d1, d2] => { results := [.lit (.bool false)], args := [d1, d2] }
  | _ => none }
def FnExactPlaceOfWrongFalsely : Prop := fnExactPlaceOfRow.holds Try.pinned (OpenSpec.ofChange fnExactPlaceOfWrong)

/-- 'laws.FnExactAdded': WHATEVER THE INPUT: true; the input reads as it did. -/
def fnExactAddedSpec : ChangeSpec := { name := "fnExactAdded", fn := fun _ => fun
  | [d1, d2] => { results := [.lit (.bool true)], args := [d1, d2] }
  | _ => none }
def fnExactAddedRow : OpenClaim := { program := "ytgdoclaifnnpgaa", sum := "5d5d88bd0025701cf02861d3cf0671177a093f642b3a73cfdf9a6176c31da8ff", func := "loop.example/g00401/laws.FnExactAdded", spec := "fnExactAdded", apart := false }
def FnExactAddedSaid : Prop := fnExactAddedRow.holds Try.pinned (OpenSpec.ofChange fnExactAddedSpec)

/-- ITS FALSE NEIGHBOUR: 'it returns false'. Refute it at one input. -/
def fnExactAddedWrong : ChangeSpec := { name := "fnExactAdded", fn := fun _ => fun
  | [d1, d2] => { results := [.lit (.bool false)], args := [d1, d2] }
  | _ => none }
def FnExactAddedWrongFalsely : Prop := fnExactAddedRow.holds Try.pinned (OpenSpec.ofChange fnExactAddedWrong)

/-- 'laws.FnExactEstimate': WHATEVER THE INPUT: true; the input reads as it did. -/
def fnExactEstimateSpec : ChangeSpec := { name := "fnExactEstimate", fn := fun _ => fun
  | [d1, d2] => { results := [.lit (.bool true)], args := [d1, d2] }
  | _ => none }
def fnExactEstimateRow : OpenClaim := { program := "ytgdoclaifnnpgaa", sum := "5d5d88bd0025701cf02861d3cf0671177a093f642b3a73cfdf9a6176c31da8ff", func := "loop.example/g00401/laws.FnExactEstimate", spec := "fnExactEstimate", apart := false }
def FnExactEstimateSaid : Prop := fnExactEstimateRow.holds Try.pinned (OpenSpec.ofChange fnExactEstimateSpec)

/-- ITS FALSE NEIGHBOUR: 'it returns false'. Refute it at one input. -/
def fnExactEstimateWrong : ChangeSpec := { name := "fnExactEstimate", fn := fun _ => fun
  | [d1, d2] => { results := [.lit (.bool false)], args := [d1, d2] }
  | _ => none }
def FnExactEstimateWrongFalsely : Prop := fnExactEstimateRow.holds Try.pinned (OpenSpec.ofChange fnExactEstimateWrong)

/-- 'laws.FnSketch': WHATEVER THE INPUT: true; the input reads as it did. -/
def fnSketchSpec : ChangeSpec := { name := "fnSketch", fn := fun _ => fun
  | [d] => { results := [.lit (.bool true)], args := [d] }
  | _ => none }
def fnSketchRow : OpenClaim := { program := "ytgdoclaifnnpgaa", sum := "5d5d88bd0025701cf02861d3cf0671177a093f642b3a73cfdf9a6176c31da8ff", func := "loop.example/g00401/laws.FnSketch", spec := "fnSketch", apart := false }
def FnSketchSaid : Prop := fnSketchRow.holds Try.pinned (OpenSpec.ofChange fnSketchSpec)

/-- ITS FALSE NEIGHBOUR: 'it returns false'. Refute it at one input. -/
def fnSketchWrong : ChangeSpec := { name := "fnSketch", fn := fun _ => fun
  | [d] => { results := [.lit (.bool false)], args := [d] }
  | _ => none }
def FnSketchWrongFalsely : Prop := fnSketchRow.holds Try.pinned (OpenSpec.ofChange fnSketchWrong)

/-- 'laws.FnCounted': WHATEVER THE INPUT: true; the input reads as it did. -/
def fnCountedSpec : ChangeSpec := { name := "fnCounted", fn := fun _ => fun
  | [d] => { results := [.lit (.bool true)], args := [d] }
  | _ => none }
def fnCountedRow : OpenClaim := { program := "ytgdoclaifnnpgaa", sum := "5d5d88bd0025701cf02861d3cf0671177a093f642b3a73cfdf9a6176c31da8ff", func := "loop.example/g00401/laws.FnCounted", spec := "fnCounted", apart := false }
def FnCountedSaid : Prop := fnCountedRow.holds Try.pinned (OpenSpec.ofChange fnCountedSpec)

/-- ITS FALSE NEIGHBOUR: 'it returns false'. Refute it at one input. -/
def fnCountedWrong : ChangeSpec := { name := "fnCounted", fn := fun _ => fun
  | [d] => { results := [.lit (.bool false)], args := [d] }
  | _ => none }
def FnCountedWrongFalsely : Prop := fnCountedRow.holds Try.pinned (OpenSpec.ofChange fnCountedWrong)

/- THE SECOND FORM. 'bulk': how many values and letters a reading holds, each counted each time it is reached (what is shared counts as often as it is met; a slice's spare places count too). A statement '..UptoSaid' is the law's where the arguments, and the package variables that the reading takes, are together of bulk at most 1048576: NARROWER than '..Said'. Prove '..Said' where nothing that the law and all that it calls make is longer than what came in: it says more and counts as full. Else prove '..UptoSaid'. A law counts once. -/
mutual
def uptoBulk {H : Type} : DataW H → Nat
  | .lit (.string bytes) => bytes.length + 1
  | .lit _ => 1
  | .nil => 1
  | .ptr d => uptoBulk d + 1
  | .slice elems spare => uptoBulkAll elems + uptoBulkAll spare + 1
  | .agg parts => uptoBulkAll parts + 1
  | .iface _ d => uptoBulk d + 1
  | .map entries => uptoBulkEntries entries + 1
  | .held _ => 1
def uptoBulkAll {H : Type} : List (DataW H) → Nat
  | [] => 0
  | d :: r => uptoBulk d + uptoBulkAll r
def uptoBulkEntries {H : Type} : List (Lit × DataW H) → Nat
  | [] => 0
  | x :: r => uptoBulkEntry x + uptoBulkEntries r
def uptoBulkEntry {H : Type} : Lit × DataW H → Nat
  | (.string bytes, d) => bytes.length + uptoBulk d + 1
  | (_, d) => uptoBulk d + 1
 end
def uptoSmall : (H : Type) → List (DataW H) → Bool := fun _ ds => decide (uptoBulkAll ds ≤ 1048576)
def OpenSpec.upto (s : _root_.Go.ChangeSpec) : _root_.Go.OpenSpec := { _root_.Go.OpenSpec.ofChange s with cond := some uptoSmall }

/-- 'laws.FnExactSketchOk', WHERE WHAT IT READS IS OF BULK AT MOST 1048576: true; the input reads as it did. -/
def fnExactSketchOkUptoRow : OpenClaim := { program := "ytgdoclaifnnpgaa", sum := "5d5d88bd0025701cf02861d3cf0671177a093f642b3a73cfdf9a6176c31da8ff", func := "loop.example/g00401/laws.FnExactSketchOk", spec := "fnExactSketchOk", apart := false, narrowed := true }
def FnExactSketchOkUptoSaid : Prop := fnExactSketchOkUptoRow.holds Try.pinned (OpenSpec.upto fnExactSketchOkSpec)

/-- 'laws.FnExactNewSketch', WHERE WHAT IT READS IS OF BULK AT MOST 1048576: true; the input reads as it did. -/
def fnExactNewSketchUptoRow : OpenClaim := { program := "ytgdoclaifnnpgaa", sum := "5d5d88bd0025701cf02861d3cf0671177a093f642b3a73cfdf9a6176c31da8ff", func := "loop.example/g00401/laws.FnExactNewSketch", spec := "fnExactNewSketch", apart := false, narrowed := true }
def FnExactNewSketchUptoSaid : Prop := fnExactNewSketchUptoRow.holds Try.pinned (OpenSpec.upto fnExactNewSketchSpec)

/-- 'laws.FnExactPlaceOf', WHERE WHAT IT READS IS OF BULK AT MOST 1048576: true; the input reads as it did. -/
def fnExactPlaceOfUptoRow : OpenClaim := { program := "ytgdoclaifnnpgaa", sum := "5d5d88bd0025701cf02861d3cf0671177a093f642b3a73cfdf9a6176c31da8ff", func := "loop.example/g00401/laws.FnExactPlaceOf", spec := "fnExactPlaceOf", apart := false, narrowed := true }
def FnExactPlaceOfUptoSaid : Prop := fnExactPlaceOfUptoRow.holds Try.pinned (OpenSpec.upto fnExactPlaceOfSpec)

/-- 'laws.FnExactAdded', WHERE WHAT IT READS IS OF BULK AT MOST 1048576: true; the input reads as it did. -/
def fnExactAddedUptoRow : OpenClaim := { program := "ytgdoclaifnnpgaa", sum := "5d5d88bd0025701cf02861d3cf0671177a093f642b3a73cfdf9a6176c31da8ff", func := "loop.example/g00401/laws.FnExactAdded", spec := "fnExactAdded", apart := false, narrowed := true }
def FnExactAddedUptoSaid : Prop := fnExactAddedUptoRow.holds Try.pinned (OpenSpec.upto fnExactAddedSpec)

/-- 'laws.FnExactEstimate', WHERE WHAT IT READS IS OF BULK AT MOST 1048576: true; the input reads as it did. -/
def fnExactEstimateUptoRow : OpenClaim := { program := "ytgdoclaifnnpgaa", sum := "5d5d88bd0025701cf02861d3cf0671177a093f642b3a73cfdf9a6176c31da8ff", func := "loop.example/g00401/laws.FnExactEstimate", spec := "fnExactEstimate", apart := false, narrowed := true }
def FnExactEstimateUptoSaid : Prop := fnExactEstimateUptoRow.holds Try.pinned (OpenSpec.upto fnExactEstimateSpec)

/-- 'laws.FnSketch', WHERE WHAT IT READS IS OF BULK AT MOST 1048576: true; the input reads as it did. -/
def fnSketchUptoRow : OpenClaim := { program := "ytgdoclaifnnpgaa", sum := "5d5d88bd0025701cf02861d3cf0671177a093f642b3a73cfdf9a6176c31da8ff", func := "loop.example/g00401/laws.FnSketch", spec := "fnSketch", apart := false, narrowed := true }
def FnSketchUptoSaid : Prop := fnSketchUptoRow.holds Try.pinned (OpenSpec.upto fnSketchSpec)

/-- 'laws.FnCounted', WHERE WHAT IT READS IS OF BULK AT MOST 1048576: true; the input reads as it did. -/
def fnCountedUptoRow : OpenClaim := { program := "ytgdoclaifnnpgaa", sum := "5d5d88bd0025701cf02861d3cf0671177a093f642b3a73cfdf9a6176c31da8ff", func := "loop.example/g00401/laws.FnCounted", spec := "fnCounted", apart := false, narrowed := true }
def FnCountedUptoSaid : Prop := fnCountedUptoRow.holds Try.pinned (OpenSpec.upto fnCountedSpec)

end Rows
end Go.Proofs.Ytgdoclaifnnpgaa
