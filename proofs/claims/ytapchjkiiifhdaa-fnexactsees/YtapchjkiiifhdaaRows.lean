/-
  No cell of these rows narrows 'for every input' (looked for: loops, veiled, ifaces, maps, wideKeys, modest, calm, conditions, laid).
  DERIVED. THE GIVEN ROWS OF THIS SEAT. 11 by the template 'for every input the law returns true; each argument reads behind the call as it read before'; 0 by the template 'total and deterministic' (their statements: YtapchjkiiifhdaaTotals.lean).
  GIVEN WITH THE SEED: the statements are not yours to turn. If you find one false, say at which input.
  Laid BY PROGRAM, IN A SANDBOX (cutbox-rows.mjs): the forced cells as the released guide's own fill.sh prints them over the translation 055588273a0d68fb… (all of the seat's roots in one cut). By AI agents, Wed Nov 11 2026. No macro, syntax, notation, axiom, sorry.
-/
import Derived.Test.YtapchjkiiifhdaaChecked
import GoSem.Claim
import GoSem.ClaimJoined
import GoSem.ClaimMapViews
import Derived.JoinedTies
import Derived.KernelRfl
namespace Go.Proofs.Ytapchjkiiifhdaa
/- THE CELL 'sum', in the pinned program and in every row, IS THE sha256 OF THE DUMP (.gsa) THAT YtapchjkiiifhdaaProg.lean LOADS. Nothing in Lean hashes anything: it is a label: what it is worth is what the hold of that sum in a sandbox is worth. -/
noncomputable def Try.pinned : Pinned := { name := "ytapchjkiiifhdaa", sum := "055588273a0d68fbd75771a85e3f46c7a30e6ab41c488034b62dc72d480d924c", checked := Try.checked }
namespace Rows
def none {H : Type} : Left H := { results := [], args := [] }

/-- 'laws.FnExactChoiceOk': WHATEVER THE INPUT: true; the input reads as it did. -/
def fnExactChoiceOkSpec : ChangeSpec := { name := "fnExactChoiceOk", fn := fun _ => fun
  | [d] => { results := [.lit (.bool true)], args := [d] }
  | _ => none }
def fnExactChoiceOkRow : OpenClaim := { program := "ytapchjkiiifhdaa", sum := "055588273a0d68fbd75771a85e3f46c7a30e6ab41c488034b62dc72d480d924c", func := "loop.example/g00401/laws.FnExactChoiceOk", spec := "fnExactChoiceOk", apart := false }
def FnExactChoiceOkSaid : Prop := fnExactChoiceOkRow.holds Try.pinned (OpenSpec.ofChange fnExactChoiceOkSpec)

/-- ITS FALSE NEIGHBOUR: 'it returns false'. Refute it at one input. -/
def fnExactChoiceOkWrong : ChangeSpec := { name := "fnExactChoiceOk", fn := fun _ => fun
  | [d] => { results := [.lit (.bool false)], args := [d] }
  | _ => none }
def FnExactChoiceOkWrongFalsely : Prop := fnExactChoiceOkRow.holds Try.pinned (OpenSpec.ofChange fnExactChoiceOkWrong)

/-- 'laws.FnExactNewChoice': WHATEVER THE INPUT: true; the input reads as it did. -/
def fnExactNewChoiceSpec : ChangeSpec := { name := "fnExactNewChoice", fn := fun _ => fun
  | [d] => { results := [.lit (.bool true)], args := [d] }
  | _ => none }
def fnExactNewChoiceRow : OpenClaim := { program := "ytapchjkiiifhdaa", sum := "055588273a0d68fbd75771a85e3f46c7a30e6ab41c488034b62dc72d480d924c", func := "loop.example/g00401/laws.FnExactNewChoice", spec := "fnExactNewChoice", apart := false }
def FnExactNewChoiceSaid : Prop := fnExactNewChoiceRow.holds Try.pinned (OpenSpec.ofChange fnExactNewChoiceSpec)

/-- ITS FALSE NEIGHBOUR: 'it returns false'. Refute it at one input. -/
def fnExactNewChoiceWrong : ChangeSpec := { name := "fnExactNewChoice", fn := fun _ => fun
  | [d] => { results := [.lit (.bool false)], args := [d] }
  | _ => none }
def FnExactNewChoiceWrongFalsely : Prop := fnExactNewChoiceRow.holds Try.pinned (OpenSpec.ofChange fnExactNewChoiceWrong)

/-- 'laws.FnExactSees': WHATEVER THE INPUT: true; the input reads as it did. -/
def fnExactSeesSpec : ChangeSpec := { name := "fnExactSees", fn := fun _ => fun
  | [d1, d2] => { results := [.lit (.bool true)], args := [d1, d2] }
  | _ => none }
def fnExactSeesRow : OpenClaim := { program := "ytapchjkiiifhdaa", sum := "055588273a0d68fbd75771a85e3f46c7a30e6ab41c488034b62dc72d480d924c", func := "loop.example/g00401/laws.FnExactSees", spec := "fnExactSees", apart := false }
def FnExactSeesSaid : Prop := fnExactSeesRow.holds Try.pinned (OpenSpec.ofChange fnExactSeesSpec)

/-- ITS FALSE NEIGHBOUR: 'it returns false'. Refute it at one input. -/
def fnExactSeesWrong : ChangeSpec := { name := "fnExactSees", fn := fun _ => fun
  | [d1, d2] => { results := [.lit (.bool false)], args := [d1, d2] }
  | _ => none }
def FnExactSeesWrongFalsely : Prop := fnExactSeesRow.holds Try.pinned (OpenSpec.ofChange fnExactSeesWrong)

/-- 'laws.FnExactForgets': WHATEVER THE INPUT: true; the input reads as it did. -/
def fnExactForgetsSpec : ChangeSpec := { name := "fnExactForgets", fn := fun _ => fun
  | [d1, d2] => { results := [.lit (.bool true)], args := [d1, d2] }
  | _ => none }
def fnExactForgetsRow : OpenClaim := { program := "ytapchjkiiifhdaa", sum := "055588273a0d68fbd75771a85e3f46c7a30e6ab41c488034b62dc72d480d924c", func := "loop.example/g00401/laws.FnExactForgets", spec := "fnExactForgets", apart := false }
def FnExactForgetsSaid : Prop := fnExactForgetsRow.holds Try.pinned (OpenSpec.ofChange fnExactForgetsSpec)

/-- ITS FALSE NEIGHBOUR: 'it returns false'. Refute it at one input. -/
def fnExactForgetsWrong : ChangeSpec := { name := "fnExactForgets", fn := fun _ => fun
  | [d1, d2] => { results := [.lit (.bool false)], args := [d1, d2] }
  | _ => none }
def FnExactForgetsWrongFalsely : Prop := fnExactForgetsRow.holds Try.pinned (OpenSpec.ofChange fnExactForgetsWrong)

/-- 'laws.FnExactNamesOf': WHATEVER THE INPUT: true; the input reads as it did. -/
def fnExactNamesOfSpec : ChangeSpec := { name := "fnExactNamesOf", fn := fun _ => fun
  | [d] => { results := [.lit (.bool true)], args := [d] }
  | _ => none }
def fnExactNamesOfRow : OpenClaim := { program := "ytapchjkiiifhdaa", sum := "055588273a0d68fbd75771a85e3f46c7a30e6ab41c488034b62dc72d480d924c", func := "loop.example/g00401/laws.FnExactNamesOf", spec := "fnExactNamesOf", apart := false }
def FnExactNamesOfSaid : Prop := fnExactNamesOfRow.holds Try.pinned (OpenSpec.ofChange fnExactNamesOfSpec)

/-- ITS FALSE NEIGHBOUR: 'it returns false'. Refute it at one input. -/
def fnExactNamesOfWrong : ChangeSpec := { name := "fnExactNamesOf", fn := fun _ => fun
  | [d] => { results := [.lit (.bool false)], args := [d] }
  | _ => none }
def FnExactNamesOfWrongFalsely : Prop := fnExactNamesOfRow.holds Try.pinned (OpenSpec.ofChange fnExactNamesOfWrong)

/-- 'laws.FnExactVictim': WHATEVER THE INPUT: true; the input reads as it did. -/
def fnExactVictimSpec : ChangeSpec := { name := "fnExactVictim", fn := fun _ => fun
  | [d1, d2, d3] => { results := [.lit (.bool true)], args := [d1, d2, d3] }
  | _ => none }
def fnExactVictimRow : OpenClaim := { program := "ytapchjkiiifhdaa", sum := "055588273a0d68fbd75771a85e3f46c7a30e6ab41c488034b62dc72d480d924c", func := "loop.example/g00401/laws.FnExactVictim", spec := "fnExactVictim", apart := false }
def FnExactVictimSaid : Prop := fnExactVictimRow.holds Try.pinned (OpenSpec.ofChange fnExactVictimSpec)

/-- ITS FALSE NEIGHBOUR: 'it returns false'. Refute it at one input. -/
def fnExactVictimWrong : ChangeSpec := { name := "fnExactVictim", fn := fun _ => fun
  | [d1, d2, d3] => { results := [.lit (.bool false)], args := [d1, d2, d3] }
  | _ => none }
def FnExactVictimWrongFalsely : Prop := fnExactVictimRow.holds Try.pinned (OpenSpec.ofChange fnExactVictimWrong)

/-- 'laws.FnExactWorth': WHATEVER THE INPUT: true; the input reads as it did. -/
def fnExactWorthSpec : ChangeSpec := { name := "fnExactWorth", fn := fun _ => fun
  | [d1, d2, d3] => { results := [.lit (.bool true)], args := [d1, d2, d3] }
  | _ => none }
def fnExactWorthRow : OpenClaim := { program := "ytapchjkiiifhdaa", sum := "055588273a0d68fbd75771a85e3f46c7a30e6ab41c488034b62dc72d480d924c", func := "loop.example/g00401/laws.FnExactWorth", spec := "fnExactWorth", apart := false }
def FnExactWorthSaid : Prop := fnExactWorthRow.holds Try.pinned (OpenSpec.ofChange fnExactWorthSpec)

/-- ITS FALSE NEIGHBOUR: 'it returns false'. Refute it at one input. -/
def fnExactWorthWrong : ChangeSpec := { name := "fnExactWorth", fn := fun _ => fun
  | [d1, d2, d3] => { results := [.lit (.bool false)], args := [d1, d2, d3] }
  | _ => none }
def FnExactWorthWrongFalsely : Prop := fnExactWorthRow.holds Try.pinned (OpenSpec.ofChange fnExactWorthWrong)

/-- 'laws.FnDue': WHATEVER THE INPUT: true; the input reads as it did. -/
def fnDueSpec : ChangeSpec := { name := "fnDue", fn := fun _ => fun
  | [d] => { results := [.lit (.bool true)], args := [d] }
  | _ => none }
def fnDueRow : OpenClaim := { program := "ytapchjkiiifhdaa", sum := "055588273a0d68fbd75771a85e3f46c7a30e6ab41c488034b62dc72d480d924c", func := "loop.example/g00401/laws.FnDue", spec := "fnDue", unfollowed := true, recurses := true, apart := false }
def FnDueSaid : Prop := fnDueRow.holds Try.pinned (OpenSpec.ofChange fnDueSpec)

/-- ITS FALSE NEIGHBOUR: 'it returns false'. Refute it at one input. -/
def fnDueWrong : ChangeSpec := { name := "fnDue", fn := fun _ => fun
  | [d] => { results := [.lit (.bool false)], args := [d] }
  | _ => none }
def FnDueWrongFalsely : Prop := fnDueRow.holds Try.pinned (OpenSpec.ofChange fnDueWrong)

/-- 'laws.FnExactDueBy': WHATEVER THE INPUT: true; the input reads as it did. -/
def fnExactDueBySpec : ChangeSpec := { name := "fnExactDueBy", fn := fun _ => fun
  | [d1, d2] => { results := [.lit (.bool true)], args := [d1, d2] }
  | _ => none }
def fnExactDueByRow : OpenClaim := { program := "ytapchjkiiifhdaa", sum := "055588273a0d68fbd75771a85e3f46c7a30e6ab41c488034b62dc72d480d924c", func := "loop.example/g00401/laws.FnExactDueBy", spec := "fnExactDueBy", unfollowed := true, recurses := true, apart := false }
def FnExactDueBySaid : Prop := fnExactDueByRow.holds Try.pinned (OpenSpec.ofChange fnExactDueBySpec)

/-- ITS FALSE NEIGHBOUR: 'it returns false'. Refute it at one input. -/
def fnExactDueByWrong : ChangeSpec := { name := "fnExactDueBy", fn := fun _ => fun
  | [d1, d2] => { results := [.lit (.bool false)], args := [d1, d2] }
  | _ => none }
def FnExactDueByWrongFalsely : Prop := fnExactDueByRow.holds Try.pinned (OpenSpec.ofChange fnExactDueByWrong)

/-- 'laws.FnExactSoonestOf': WHATEVER THE INPUT: true; the input reads as it did. -/
def fnExactSoonestOfSpec : ChangeSpec := { name := "fnExactSoonestOf", fn := fun _ => fun
  | [d] => { results := [.lit (.bool true)], args := [d] }
  | _ => none }
def fnExactSoonestOfRow : OpenClaim := { program := "ytapchjkiiifhdaa", sum := "055588273a0d68fbd75771a85e3f46c7a30e6ab41c488034b62dc72d480d924c", func := "loop.example/g00401/laws.FnExactSoonestOf", spec := "fnExactSoonestOf", unfollowed := true, recurses := true, apart := false }
def FnExactSoonestOfSaid : Prop := fnExactSoonestOfRow.holds Try.pinned (OpenSpec.ofChange fnExactSoonestOfSpec)

/-- ITS FALSE NEIGHBOUR: 'it returns false'. Refute it at one input. -/
def fnExactSoonestOfWrong : ChangeSpec := { name := "fnExactSoonestOf", fn := fun _ => fun
  | [d] => { results := [.lit (.bool false)], args := [d] }
  | _ => none }
def FnExactSoonestOfWrongFalsely : Prop := fnExactSoonestOfRow.holds Try.pinned (OpenSpec.ofChange fnExactSoonestOfWrong)

/-- 'laws.FnChoices': WHATEVER THE INPUT: true; the input reads as it did. -/
def fnChoicesSpec : ChangeSpec := { name := "fnChoices", fn := fun _ => fun
  | [d] => { results := [.lit (.bool true)], args := [d] }
  | _ => none }
def fnChoicesRow : OpenClaim := { program := "ytapchjkiiifhdaa", sum := "055588273a0d68fbd75771a85e3f46c7a30e6ab41c488034b62dc72d480d924c", func := "loop.example/g00401/laws.FnChoices", spec := "fnChoices", apart := false }
def FnChoicesSaid : Prop := fnChoicesRow.holds Try.pinned (OpenSpec.ofChange fnChoicesSpec)

/-- ITS FALSE NEIGHBOUR: 'it returns false'. Refute it at one input. -/
def fnChoicesWrong : ChangeSpec := { name := "fnChoices", fn := fun _ => fun
  | [d] => { results := [.lit (.bool false)], args := [d] }
  | _ => none }
def FnChoicesWrongFalsely : Prop := fnChoicesRow.holds Try.pinned (OpenSpec.ofChange fnChoicesWrong)

/- THE SECOND FORM. 'bulk': how many values and letters a reading holds, each counted each time it is reached (what is shared counts as often as it is met; a slice's spare places count too). A statement '..UptoSaid' is the law's where the arguments, and the package variables that the reading takes, are together of bulk at most 1048576: NARROWER than '..Said'. Prove '..Said' where nothing that the law and all that it calls make is longer than what came in: it says more and counts as full. Else prove '..UptoSaid'. A law counts once. -/
mutual
def uptoBulk {H : Type} : DataW H → Nat
  | .lit (.string bytes) => bytes.length + 1
  | .lit _ => 1
  | .nil => 1
  | .ptr d => uptoBulk d + 1
  | .slice elems spare => uptoBulkAll elems + uptoBulkAll spare + 1
  | .agg parts => uptoBulkAll parts + 1
  | .iface _ d => uptoBulk d + 1
  | .map entries => uptoBulkEntries entries + 1
  | .held _ => 1
def uptoBulkAll {H : Type} : List (DataW H) → Nat
  | [] => 0
  | d :: r => uptoBulk d + uptoBulkAll r
def uptoBulkEntries {H : Type} : List (Lit × DataW H) → Nat
  | [] => 0
  | x :: r => uptoBulkEntry x + uptoBulkEntries r
def uptoBulkEntry {H : Type} : Lit × DataW H → Nat
  | (.string bytes, d) => bytes.length + uptoBulk d + 1
  | (_, d) => uptoBulk d + 1
 end
def uptoSmall : (H : Type) → List (DataW H) → Bool := fun _ ds => decide (uptoBulkAll ds ≤ 1048576)
def OpenSpec.upto (s : _root_.Go.ChangeSpec) : _root_.Go.OpenSpec := { _root_.Go.OpenSpec.ofChange s with cond := some uptoSmall }

/-- 'laws.FnExactChoiceOk', WHERE WHAT IT READS IS OF BULK AT MOST 1048576: true; the input reads as it did. -/
def fnExactChoiceOkUptoRow : OpenClaim := { program := "ytapchjkiiifhdaa", sum := "055588273a0d68fbd75771a85e3f46c7a30e6ab41c488034b62dc72d480d924c", func := "loop.example/g00401/laws.FnExactChoiceOk", spec := "fnExactChoiceOk", apart := false, narrowed := true }
def FnExactChoiceOkUptoSaid : Prop := fnExactChoiceOkUptoRow.holds Try.pinned (OpenSpec.upto fnExactChoiceOkSpec)

/-- 'laws.FnExactNewChoice', WHERE WHAT IT READS IS OF BULK AT MOST 1048576: true; the input reads as it did. -/
def fnExactNewChoiceUptoRow : OpenClaim := { program := "ytapchjkiiifhdaa", sum := "055588273a0d68fbd75771a85e3f46c7a30e6ab41c488034b62dc72d480d924c", func := "loop.example/g00401/laws.FnExactNewChoice", spec := "fnExactNewChoice", apart := false, narrowed := true }
def FnExactNewChoiceUptoSaid : Prop := fnExactNewChoiceUptoRow.holds Try.pinned (OpenSpec.upto fnExactNewChoiceSpec)

/-- 'laws.FnExactSees', WHERE WHAT IT READS IS OF BULK AT MOST 1048576: true; the input reads as it did. -/
def fnExactSeesUptoRow : OpenClaim := { program := "ytapchjkiiifhdaa", sum := "055588273a0d68fbd75771a85e3f46c7a30e6ab41c488034b62dc72d480d924c", func := "loop.example/g00401/laws.FnExactSees", spec := "fnExactSees", apart := false, narrowed := true }
def FnExactSeesUptoSaid : Prop := fnExactSeesUptoRow.holds Try.pinned (OpenSpec.upto fnExactSeesSpec)

/-- 'laws.FnExactForgets', WHERE WHAT IT READS IS OF BULK AT MOST 1048576: true; the input reads as it did. -/
def fnExactForgetsUptoRow : OpenClaim := { program := "ytapchjkiiifhdaa", sum := "055588273a0d68fbd75771a85e3f46c7a30e6ab41c488034b62dc72d480d924c", func := "loop.example/g00401/laws.FnExactForgets", spec := "fnExactForgets", apart := false, narrowed := true }
def FnExactForgetsUptoSaid : Prop := fnExactForgetsUptoRow.holds Try.pinned (OpenSpec.upto fnExactForgetsSpec)

/-- 'laws.FnExactNamesOf', WHERE WHAT IT READS IS OF BULK AT MOST 1048576: true; the input reads as it did. -/
def fnExactNamesOfUptoRow : OpenClaim := { program := "ytapchjkiiifhdaa", sum := "055588273a0d68fbd75771a85e3f46c7a30e6ab41c488034b62dc72d480d924c", func := "loop.example/g00401/laws.FnExactNamesOf", spec := "fnExactNamesOf", apart := false, narrowed := true }
def FnExactNamesOfUptoSaid : Prop := fnExactNamesOfUptoRow.holds Try.pinned (OpenSpec.upto fnExactNamesOfSpec)

/-- 'laws.FnExactVictim', WHERE WHAT IT READS IS OF BULK AT MOST 1048576: true; the input reads as it did. -/
def fnExactVictimUptoRow : OpenClaim := { program := "ytapchjkiiifhdaa", sum := "055588273a0d68fbd75771a85e3f46c7a30e6ab41c488034b62dc72d480d924c", func := "loop.example/g00401/laws.FnExactVictim", spec := "fnExactVictim", apart := false, narrowed := true }
def FnExactVictimUptoSaid : Prop := fnExactVictimUptoRow.holds Try.pinned (OpenSpec.upto fnExactVictimSpec)

/-- 'laws.FnExactWorth', WHERE WHAT IT READS IS OF BULK AT MOST 1048576: true; the input reads as it did. -/
def fnExactWorthUptoRow : OpenClaim := { program := "ytapchjkiiifhdaa", sum := "055588273a0d68fbd75771a85e3f46c7a30e6ab41c488034b62dc72d480d924c", func := "loop.example/g00401/laws.FnExactWorth", spec := "fnExactWorth", apart := false, narrowed := true }
def FnExactWorthUptoSaid : Prop := fnExactWorthUptoRow.holds Try.pinned (OpenSpec.upto fnExactWorthSpec)

/-- 'laws.FnDue', WHERE WHAT IT READS IS OF BULK AT MOST 1048576: true; the input reads as it did. -/
def fnDueUptoRow : OpenClaim := { program := "ytapchjkiiifhdaa", sum := "055588273a0d68fbd75771a85e3f46c7a30e6ab41c488034b62dc72d480d924c", func := "loop.example/g00401/laws.FnDue", spec := "fnDue", unfollowed := true, recurses := true, apart := false, narrowed := true }
def FnDueUptoSaid : Prop := fnDueUptoRow.holds Try.pinned (OpenSpec.upto fnDueSpec)

/-- 'laws.FnExactDueBy', WHERE WHAT IT READS IS OF BULK AT MOST 1048576: true; the input reads as it did. -/
def fnExactDueByUptoRow : OpenClaim := { program := "ytapchjkiiifhdaa", sum := "055588273a0d68fbd75771a85e3f46c7a30e6ab41c488034b62dc72d480d924c", func := "loop.example/g00401/laws.FnExactDueBy", spec := "fnExactDueBy", unfollowed := true, recurses := true, apart := false, narrowed := true }
def FnExactDueByUptoSaid : Prop := fnExactDueByUptoRow.holds Try.pinned (OpenSpec.upto fnExactDueBySpec)

/-- 'laws.FnExactSoonestOf', WHERE WHAT IT READS IS OF BULK AT MOST 1048576: true; the input reads as it did. -/
def fnExactSoonestOfUptoRow : OpenClaim := { program := "ytapchjkiiifhdaa", sum := "055588273a0d68fbd75771a85e3f46c7a30e6ab41c488034b62dc72d480d924c", func := "loop.example/g00401/laws.FnExactSoonestOf", spec := "fnExactSoonestOf", unfollowed := true, recurses := true, apart := false, narrowed := true }
def FnExactSoonestOfUptoSaid : Prop := fnExactSoonestOfUptoRow.holds Try.pinned (OpenSpec.upto fnExactSoonestOfSpec)

/-- 'laws.FnChoices', WHERE WHAT IT READS IS OF BULK AT MOST 1048576: true; the input reads as it did. -/
def fnChoicesUptoRow : OpenClaim := { program := "ytapchjkiiifhdaa", sum := "055588273a0d68fbd75771a85e3f46c7a30e6ab41c488034b62dc72d480d924c", func := "loop.example/g00401/laws.FnChoices", spec := "fnChoices", apart := false, narrowed := true }
def FnChoicesUptoSaid : Prop := fnChoicesUptoRow.holds Try.pinned (OpenSpec.upto fnChoicesSpec)

end Rows
end Go.Proofs.Ytapchjkiiifhdaa
