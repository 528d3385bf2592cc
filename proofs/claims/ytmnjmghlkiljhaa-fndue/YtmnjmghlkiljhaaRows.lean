/-
  No cell of these rows narrows 'for every input' (looked for: loops, veiled, ifaces, maps, wideKeys, modest, calm, conditions, laid).
  DERIVED. THE GIVEN ROWS OF THIS SEAT. 4 by the template 'for every input the law returns true; each argument reads behind the call as it read before'; 0 by the template 'total and deterministic' (their statements: YtmnjmghlkiljhaaTotals.lean).
  GIVEN WITH THE SEED: the statements are not yours to turn. If you find one false, say at which input.
  Laid BY PROGRAM, IN A SANDBOX (cutbox-rows.mjs): the forced cells as the released guide's own fill.sh prints them over the translation ecd855ac171e15f1… (all of the seat's roots in one cut). By AI agents, Wed Nov 11 2026. No macro, syntax, notation, axiom, sorry.
-/
import Derived.Test.YtmnjmghlkiljhaaChecked
import GoSem.Claim
import GoSem.ClaimJoined
import GoSem.ClaimMapViews
import Derived.JoinedTies
import Derived.KernelRfl
namespace Go.Proofs.Ytmnjmghlkiljhaa
/- THE CELL 'sum', in the pinned program and in every row, IS THE sha256 OF THE DUMP (.gsa) THAT YtmnjmghlkiljhaaProg.lean LOADS. Nothing in Lean hashes anything: it is a label: what it is worth is what the hold of that sum in a sandbox is worth. -/
noncomputable def Try.pinned : Pinned := { name := "ytmnjmghlkiljhaa", sum := "ecd855ac171e15f163d1c85a2a33e29579fd69f466400a15f2fa15bb9d4218d5", checked := Try.checked }
namespace Rows
def none {H : Type} : Left H := { results := [], args := [] }

/-- 'laws.FnChoices': WHATEVER THE INPUT: true; the input reads as it did. -/
def fnChoicesSpec : ChangeSpec := { name := "fnChoices", fn := fun _ => fun
  | [d] => { results := [.lit (.bool true)], args := [d] }
  | _ => none }
def fnChoicesRow : OpenClaim := { program := "ytmnjmghlkiljhaa", sum := "ecd855ac171e15f163d1c85a2a33e29579fd69f466400a15f2fa15bb9d4218d5", func := "loop.example/g00401/laws.FnChoices", spec := "fnChoices", apart := false }
def FnChoicesSaid : Prop := fnChoicesRow.holds Try.pinned (OpenSpec.ofChange fnChoicesSpec)

/-- ITS FALSE NEIGHBOUR: 'it returns false'. Refute it at one input. -/
def fnChoicesWrong : ChangeSpec := { name := "fnChoices", fn := fun _ => fun
  | [d] => { results := [.lit (.bool false)], args := [d] }
  | _ => none }
def FnChoicesWrongFalsely : Prop := fnChoicesRow.holds Try.pinned (OpenSpec.ofChange fnChoicesWrong)

/-- 'laws.FnDue': WHATEVER THE INPUT: true; the input reads as it did. -/
def fnDueSpec : ChangeSpec := { name := "fnDue", fn := fun _ => fun
  | [d] => { results := [.lit (.bool true)], args := [d] }
  | _ => none }
def fnDueRow : OpenClaim := { program := "ytmnjmghlkiljhaa", sum := "ecd855ac171e15f163d1c85a2a33e29579fd69f466400a15f2fa15bb9d4218d5", func := "loop.example/g00401/laws.FnDue", spec := "fnDue", unfollowed := true, recurses := true, apart := false }
def FnDueSaid : Prop := fnDueRow.holds Try.pinned (OpenSpec.ofChange fnDueSpec)

/-- ITS FALSE NEIGHBOUR: 'it returns false'. Refute it at one input. -/
def fnDueWrong : ChangeSpec := { name := "fnDue", fn := fun _ => fun
  | [d] => { results := [.lit (.bool false)], args := [d] }
  | _ => none }
def FnDueWrongFalsely : Prop := fnDueRow.holds Try.pinned (OpenSpec.ofChange fnDueWrong)

/-- 'laws.FnExactDueBy': WHATEVER THE INPUT: true; the input reads as it did. -/
def fnExactDueBySpec : ChangeSpec := { name := "fnExactDueBy", fn := fun _ => fun
  | [d1, d2] => { results := [.lit (.bool true)], args := [d1, d2] }
  | _ => none }
def fnExactDueByRow : OpenClaim := { program := "ytmnjmghlkiljhaa", sum := "ecd855ac171e15f163d1c85a2a33e29579fd69f466400a15f2fa15bb9d4218d5", func := "loop.example/g00401/laws.FnExactDueBy", spec := "fnExactDueBy", unfollowed := true, recurses := true, apart := false }
def FnExactDueBySaid : Prop := fnExactDueByRow.holds Try.pinned (OpenSpec.ofChange fnExactDueBySpec)

/-- ITS FALSE NEIGHBOUR: 'it returns false'. Refute it at one input. -/
def fnExactDueByWrong : ChangeSpec := { name := "fnExactDueBy", fn := fun _ => fun
  | [d1, d2] => { results := [.lit (.bool false)], args := [d1, d2] }
  | _ => none }
def FnExactDueByWrongFalsely : Prop := fnExactDueByRow.holds Try.pinned (OpenSpec.ofChange fnExactDueByWrong)

/-- 'laws.FnExactSoonestOf': WHATEVER THE INPUT: true; the input reads as it did. -/
def fnExactSoonestOfSpec : ChangeSpec := { name := "fnExactSoonestOf", fn := fun _ => fun
  | [d] => { results := [.lit (.bool true)], args := [d] }
  | _ => none }
def fnExactSoonestOfRow : OpenClaim := { program := "ytmnjmghlkiljhaa", sum := "ecd855ac171e15f163d1c85a2a33e29579fd69f466400a15f2fa15bb9d4218d5", func := "loop.example/g00401/laws.FnExactSoonestOf", spec := "fnExactSoonestOf", unfollowed := true, recurses := true, apart := false }
def FnExactSoonestOfSaid : Prop := fnExactSoonestOfRow.holds Try.pinned (OpenSpec.ofChange fnExactSoonestOfSpec)

/-- ITS FALSE NEIGHBOUR: 'it returns false'. Refute it at one input. -/
def fnExactSoonestOfWrong : ChangeSpec := { name := "fnExactSoonestOf", fn := fun _ => fun
  | [d] => { results := [.lit (.bool false)], args := [d] }
  | _ => none }
def FnExactSoonestOfWrongFalsely : Prop := fnExactSoonestOfRow.holds Try.pinned (OpenSpec.ofChange fnExactSoonestOfWrong)

/- THE SECOND FORM. 'bulk': how many values and letters a reading holds, each counted each time it is reached (what is shared counts as often as it is met; a slice's spare places count too). A statement '..UptoSaid' is the law's where the arguments, and the package variables that the reading takes, are together of bulk at most 1048576: NARROWER than '..Said'. Prove '..Said' where nothing that the law and all that it calls make is longer than what came in: it says more and counts as full. Else prove '..UptoSaid'. A law counts once. -/
mutual
def uptoBulk {H : Type} : DataW H → Nat
  | .lit (.string bytes) => bytes.length + 1
  | .lit _ => 1
  | .nil => 1
  | .ptr d => uptoBulk d + 1
  | .slice elems spare => uptoBulkAll elems + uptoBulkAll spare + 1
  | .agg parts => uptoBulkAll parts + 1
  | .iface _ d => uptoBulk d + 1
  | .map entries => uptoBulkEntries entries + 1
  | .held _ => 1
def uptoBulkAll {H : Type} : List (DataW H) → Nat
  | [] => 0
  | d :: r => uptoBulk d + uptoBulkAll r
def uptoBulkEntries {H : Type} : List (Lit × DataW H) → Nat
  | [] => 0
  | x :: r => uptoBulkEntry x + uptoBulkEntries r
def uptoBulkEntry {H : Type} : Lit × DataW H → Nat
  | (.string bytes, d) => bytes.length + uptoBulk d + 1
  | (_, d) => uptoBulk d + 1
 end
def uptoSmall : (H : Type) → List (DataW H) → Bool := fun _ ds => decide (uptoBulkAll ds ≤ 1048576)
def OpenSpec.upto (s : _root_.Go.ChangeSpec) : _root_.Go.OpenSpec := { _root_.Go.OpenSpec.ofChange s with cond := some uptoSmall }

/-- 'laws.FnChoices', WHERE WHAT IT READS IS OF BULK AT MOST 1048576: true; the input reads as it did. -/
def fnChoicesUptoRow : OpenClaim := { program := "ytmnjmghlkiljhaa", sum := "ecd855ac171e15f163d1c85a2a33e29579fd69f466400a15f2fa15bb9d4218d5", func := "loop.example/g00401/laws.FnChoices", spec := "fnChoices", apart := false, narrowed := true }
def FnChoicesUptoSaid : Prop := fnChoicesUptoRow.holds Try.pinned (OpenSpec.upto fnChoicesSpec)

/-- 'laws.FnDue', WHERE WHAT IT READS IS OF BULK AT MOST 1048576: true; the input reads as it did. -/
def fnDueUptoRow : OpenClaim := { program := "ytmnjmghlkiljhaa", sum := "ecd855ac171e15f163d1c85a2a33e29579fd69f466400a15f2fa15bb9d4218d5", func := "loop.example/g00401/laws.FnDue", spec := "fnDue", unfollowed := true, recurses := true, apart := false, narrowed := true }
def FnDueUptoSaid : Prop := fnDueUptoRow.holds Try.pinned (OpenSpec.upto fnDueSpec)

/-- 'laws.FnExactDueBy', WHERE WHAT IT READS IS OF BULK AT MOST 1048576: true; the input reads as it did. -/
def fnExactDueByUptoRow : OpenClaim := { program := "ytmnjmghlkiljhaa", sum := "ecd855ac171e15f163d1c85a2a33e29579fd69f466400a15f2fa15bb9d4218d5", func := "loop.example/g00401/laws.FnExactDueBy", spec := "fnExactDueBy", unfollowed := true, recurses := true, apart := false, narrowed := true }
def FnExactDueByUptoSaid : Prop := fnExactDueByUptoRow.holds Try.pinned (OpenSpec.upto fnExactDueBySpec)

/-- 'laws.FnExactSoonestOf', WHERE WHAT IT READS IS OF BULK AT MOST 1048576: true; the input reads as it did. -/
def fnExactSoonestOfUptoRow : OpenClaim := { program := "ytmnjmghlkiljhaa", sum := "ecd855ac171e15f163d1c85a2a33e29579fd69f466400a15f2fa15bb9d4218d5", func := "loop.example/g00401/laws.FnExactSoonestOf", spec := "fnExactSoonestOf", unfollowed := true, recurses := true, apart := false, narrowed := true }
def FnExactSoonestOfUptoSaid : Prop := fnExactSoonestOfUptoRow.holds Try.pinned (OpenSpec.upto fnExactSoonestOfSpec)

end Rows
end Go.Proofs.Ytmnjmghlkiljhaa
