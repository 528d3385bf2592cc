/-
  No cell of these rows narrows 'for every input' (looked for: loops, veiled, ifaces, maps, wideKeys, modest, calm, conditions, laid).
  DERIVED. THE GIVEN ROWS OF THIS SEAT. 8 by the template 'for every input the law returns true; each argument reads behind the call as it read before'; 0 by the template 'total and deterministic' (their statements: YthjkhghlhjndmaaTotals.lean).
  GIVEN WITH THE SEED: the statements are not yours to turn. If you find one false, say at which input.
  Laid BY PROGRAM, IN A SANDBOX (cutbox-rows.mjs): the forced cells as the released guide's own fill.sh prints them over the translation d5c5f6c910a056ef… (all of the seat's roots in one cut). By AI agents, Wed Nov 11 2026. No macro, syntax, notation, axiom, sorry.
-/
import Derived.Test.YthjkhghlhjndmaaChecked
import GoSem.Claim
import GoSem.ClaimJoined
import GoSem.ClaimMapViews
import Derived.JoinedTies
import Derived.KernelRfl
namespace Go.Proofs.Ythjkhghlhjndmaa
/- THE CELL 'sum', in the pinned program and in every row, IS THE sha256 OF THE DUMP (.gsa) THAT YthjkhghlhjndmaaProg.lean LOADS. Nothing in Lean hashes anything: it is a label: what it is worth is what the hold of that sum in a sandbox is worth. -/
noncomputable def Try.pinned : Pinned := { name := "ythjkhghlhjndmaa", sum := "d5c5f6c910a056ef2d470f6f5c7d14f56414f4ba580be5a6e51c1d54429724b2", checked := Try.checked }
namespace Rows
def none {H : Type} : Left H := { results := [], args := [] }

/-- 'laws.FnExactCrewOk': WHATEVER THE INPUT: true; the input reads as it did. -/
def fnExactCrewOkSpec : ChangeSpec := { name := "fnExactCrewOk", fn := fun _ => fun
  | [d] => { results := [.lit (.bool true)], args := [d] }
  | _ => none }
def fnExactCrewOkRow : OpenClaim := { program := "ythjkhghlhjndmaa", sum := "d5c5f6c910a056ef2d470f6f5c7d14f56414f4ba580be5a6e51c1d54429724b2", func := "loop.example/g00401/laws.FnExactCrewOk", spec := "fnExactCrewOk", unfollowed := true, recurses := true, apart := false }
def FnExactCrewOkSaid : Prop := fnExactCrewOkRow.holds Try.pinned (OpenSpec.ofChange fnExactCrewOkSpec)

/-- ITS FALSE NEIGHBOUR: 'it returns false'. Refute it at one input. -/
def fnExactCrewOkWrong : ChangeSpec := { name := "fnExactCrewOk", fn := fun _ => fun
  | [d] => { results := [.lit (.bool false)], args := [d] }
  | _ => none }
def FnExactCrewOkWrongFalsely : Prop := fnExactCrewOkRow.holds Try.pinned (OpenSpec.ofChange fnExactCrewOkWrong)

/-- 'laws.FnExactNewCrew': WHATEVER THE INPUT: true; the input reads as it did. -/
def fnExactNewCrewSpec : ChangeSpec := { name := "fnExactNewCrew", fn := fun _ => fun
  | [d] => { results := [.lit (.bool true)], args := [d] }
  | _ => none }
def fnExactNewCrewRow : OpenClaim := { program := "ythjkhghlhjndmaa", sum := "d5c5f6c910a056ef2d470f6f5c7d14f56414f4ba580be5a6e51c1d54429724b2", func := "loop.example/g00401/laws.FnExactNewCrew", spec := "fnExactNewCrew", unfollowed := true, recurses := true, apart := false }
def FnExactNewCrewSaid : Prop := fnExactNewCrewRow.holds Try.pinned (OpenSpec.ofChange fnExactNewCrewSpec)

/-- ITS FALSE NEIGHBOUR: 'it returns false'. Refute it at one input. -/
def fnExactNewCrewWrong : ChangeSpec := { name := "fnExactNewCrew", fn := fun _ => fun
  | [d] => { results := [.lit (.bool false)], args := [d] }
  | _ => none }
def FnExactNewCrewWrongFalsely : Prop := fnExactNewCrewRow.holds Try.pinned (OpenSpec.ofChange fnExactNewCrewWrong)

/-- 'laws.FnExactPicked': WHATEVER THE INPUT: true; the input reads as it did. -/
def fnExactPickedSpec : ChangeSpec := { name := "fnExactPicked", fn := fun _ => fun
  | [d1, d2] => { results := [.lit (.bool true)], args := [d1, d2] }
  | _ => none }
def fnExactPickedRow : OpenClaim := { program := "ythjkhghlhjndmaa", sum := "d5c5f6c910a056ef2d470f6f5c7d14f56414f4ba580be5a6e51c1d54429724b2", func := "loop.example/g00401/laws.FnExactPicked", spec := "fnExactPicked", unfollowed := true, recurses := true, apart := false }
def FnExactPickedSaid : Prop := fnExactPickedRow.holds Try.pinned (OpenSpec.ofChange fnExactPickedSpec)

/-- ITS FALSE NEIGHBOUR: 'it returns false'. Refute it at one input. -/
def fnExactPickedWrong : ChangeSpec := { name := "fnExactPicked", fn := fun _ => fun
  | [d1, d2] => { results := [.lit (.bool false)], args := [d1, d2] }
  | _ => none }
def FnExactPickedWrongFalsely : Prop := fnExactPickedRow.holds Try.pinned (OpenSpec.ofChange fnExactPickedWrong)

/-- 'laws.FnExactRan': WHATEVER THE INPUT: true; the input reads as it did. -/
def fnExactRanSpec : ChangeSpec := { name := "fnExactRan", fn := fun _ => fun
  | [d1, d2] => { results := [.lit (.bool true)], args := [d1, d2] }
  | _ => none }
def fnExactRanRow : OpenClaim := { program := "ythjkhghlhjndmaa", sum := "d5c5f6c910a056ef2d470f6f5c7d14f56414f4ba580be5a6e51c1d54429724b2", func := "loop.example/g00401/laws.FnExactRan", spec := "fnExactRan", unfollowed := true, recurses := true, apart := false }
def FnExactRanSaid : Prop := fnExactRanRow.holds Try.pinned (OpenSpec.ofChange fnExactRanSpec)

/-- ITS FALSE NEIGHBOUR: 'it returns false'. Refute it at one input. -/
def fnExactRanWrong : ChangeSpec := { name := "fnExactRan", fn := fun _ => fun
  | [d1, d2] => { results := [.lit (.bool false)], args := [d1, d2] }
  | _ => none }
def FnExactRanWrongFalsely : Prop := fnExactRanRow.holds Try.pinned (OpenSpec.ofChange fnExactRanWrong)

/-- 'laws.FnExactAllDone': WHATEVER THE INPUT: true; the input reads as it did. -/
def fnExactAllDoneSpec : ChangeSpec := { name := "fnExactAllDone", fn := fun _ => fun
  | [d] => { results := [.lit (.bool true)], args := [d] }
  | _ => none }
def fnExactAllDoneRow : OpenClaim := { program := "ythjkhghlhjndmaa", sum := "d5c5f6c910a056ef2d470f6f5c7d14f56414f4ba580be5a6e51c1d54429724b2", func := "loop.example/g00401/laws.FnExactAllDone", spec := "fnExactAllDone", unfollowed := true, recurses := true, apart := false }
def FnExactAllDoneSaid : Prop := fnExactAllDoneRow.holds Try.pinned (OpenSpec.ofChange fnExactAllDoneSpec)

/-- ITS FALSE NEIGHBOUR: 'it returns false'. Refute it at one input. -/
def fnExactAllDoneWrong : ChangeSpec := { name := "fnExactAllDone", fn := fun _ => fun
  | [d] => { results := [.lit (.bool false)], args := [d] }
  | _ => none }
def FnExactAllDoneWrongFalsely : Prop := fnExactAllDoneRow.holds Try.pinned (OpenSpec.ofChange fnExactAllDoneWrong)

/-- 'laws.FnCrews': WHATEVER THE INPUT: true; the input reads as it did. -/
def fnCrewsSpec : ChangeSpec := { name := "fnCrews", fn := fun _ => fun
  | [d] => { results := [.lit (.bool true)], args := [d] }
  | _ => none }
def fnCrewsRow : OpenClaim := { program := "ythjkhghlhjndmaa", sum := "d5c5f6c910a056ef2d470f6f5c7d14f56414f4ba580be5a6e51c1d54429724b2", func := "loop.example/g00401/laws.FnCrews", spec := "fnCrews", unfollowed := true, recurses := true, apart := false }
def FnCrewsSaid : Prop := fnCrewsRow.holds Try.pinned (OpenSpec.ofChange fnCrewsSpec)

/-- ITS FALSE NEIGHBOUR: 'it returns false'. Refute it at one input. -/
def fnCrewsWrong : ChangeSpec := { name := "fnCrews", fn := fun _ => fun
  | [d] => { results := [.lit (.bool false)], args := [d] }
  | _ => none }
def FnCrewsWrongFalsely : Prop := fnCrewsRow.holds Try.pinned (OpenSpec.ofChange fnCrewsWrong)

/-- 'laws.FnOneMoment': WHATEVER THE INPUT: true; the input reads as it did. -/
def fnOneMomentSpec : ChangeSpec := { name := "fnOneMoment", fn := fun _ => fun
  | [d] => { results := [.lit (.bool true)], args := [d] }
  | _ => none }
def fnOneMomentRow : OpenClaim := { program := "ythjkhghlhjndmaa", sum := "d5c5f6c910a056ef2d470f6f5c7d14f56414f4ba580be5a6e51c1d54429724b2", func := "loop.example/g00401/laws.FnOneMoment", spec := "fnOneMoment", unfollowed := true, recurses := true, apart := false }
def FnOneMomentSaid : Prop := fnOneMomentRow.holds Try.pinned (OpenSpec.ofChange fnOneMomentSpec)

/-- ITS FALSE NEIGHBOUR: 'it returns false'. Refute it at one input. -/
def fnOneMomentWrong : ChangeSpec := { name := "fnOneMoment", fn := fun _ => fun
  | [d] => { results := [.lit (.bool false)], args := [d] }
  | _ => none }
def FnOneMomentWrongFalsely : Prop := fnOneMomentRow.holds Try.pinned (OpenSpec.ofChange fnOneMomentWrong)

/-- 'laws.FnRan': WHATEVER THE INPUT: true; the input reads as it did. -/
def fnRanSpec : ChangeSpec := { name := "fnRan", fn := fun _ => fun
  | [d] => { results := [.lit (.bool true)], args := [d] }
  | _ => none }
def fnRanRow : OpenClaim := { program := "ythjkhghlhjndmaa", sum := "d5c5f6c910a056ef2d470f6f5c7d14f56414f4ba580be5a6e51c1d54429724b2", func := "loop.example/g00401/laws.FnRan", spec := "fnRan", unfollowed := true, recurses := true, apart := false }
def FnRanSaid : Prop := fnRanRow.holds Try.pinned (OpenSpec.ofChange fnRanSpec)

/-- ITS FALSE NEIGHBOUR: 'it returns false'. Refute it at one input. -/
def fnRanWrong : ChangeSpec := { name := "fnRan", fn := fun _ => fun
  | [d] => { results := [.lit (.bool false)], args := [d] }
  | _ => none }
def FnRanWrongFalsely : Prop := fnRanRow.holds Try.pinned (OpenSpec.ofChange fnRanWrong)

/- THE SECOND FORM. 'bulk': how many values and letters a reading holds, each counted each time it is reached (what is shared counts as often as it is met; a slice's spare places count too). A statement '..UptoSaid' is the law's where the arguments, and the package variables that the reading takes, are together of bulk at most 1048576: NARROWER than '..Said'. Prove '..Said' where nothing that the law and all that it calls make is longer than what came in: it says more and counts as full. Else prove '..UptoSaid'. A law counts once. -/
mutual
def uptoBulk {H : Type} : DataW H → Nat
  | .lit (.string bytes) => bytes.length + 1
  | .lit _ => 1
  | .nil => 1
  | .ptr d => uptoBulk d + 1
  | .slice elems spare => uptoBulkAll elems + uptoBulkAll spare + 1
  | .agg parts => uptoBulkAll parts + 1
  | .iface _ d => uptoBulk d + 1
  | .map entries => uptoBulkEntries entries + 1
  | .held _ => 1
def uptoBulkAll {H : Type} : List (DataW H) → Nat
  | [] => 0
  | d :: r => uptoBulk d + uptoBulkAll r
def uptoBulkEntries {H : Type} : List (Lit × DataW H) → Nat
  | [] => 0
  | x :: r => uptoBulkEntry x + uptoBulkEntries r
def uptoBulkEntry {H : Type} : Lit × DataW H → Nat
  | (.string bytes, d) => bytes.length + uptoBulk d + 1
  | (_, d) => uptoBulk d + 1
 end
def uptoSmall : (H : Type) → List (DataW H) → Bool := fun _ ds => decide (uptoBulkAll ds ≤ 1048576)
def OpenSpec.upto (s : _root_.Go.ChangeSpec) : _root_.Go.OpenSpec := { _root_.Go.OpenSpec.ofChange s with cond := some uptoSmall }

/-- 'laws.FnExactCrewOk', WHERE WHAT IT READS IS OF BULK AT MOST 1048576: true; the input reads as it did. -/
def fnExactCrewOkUptoRow : OpenClaim := { program := "ythjkhghlhjndmaa", sum := "d5c5f6c910a056ef2d470f6f5c7d14f56414f4ba580be5a6e51c1d54429724b2", func := "loop.example/g00401/laws.FnExactCrewOk", spec := "fnExactCrewOk", unfollowed := true, recurses := true, apart := false, narrowed := true }
def FnExactCrewOkUptoSaid : Prop := fnExactCrewOkUptoRow.holds Try.pinned (OpenSpec.upto fnExactCrewOkSpec)

/-- 'laws.FnExactNewCrew', WHERE WHAT IT READS IS OF BULK AT MOST 1048576: true; the input reads as it did. -/
def fnExactNewCrewUptoRow : OpenClaim := { program := "ythjkhghlhjndmaa", sum := "d5c5f6c910a056ef2d470f6f5c7d14f56414f4ba580be5a6e51c1d54429724b2", func := "loop.example/g00401/laws.FnExactNewCrew", spec := "fnExactNewCrew", unfollowed := true, recurses := true, apart := false, narrowed := true }
def FnExactNewCrewUptoSaid : Prop := fnExactNewCrewUptoRow.holds Try.pinned (OpenSpec.upto fnExactNewCrewSpec)

/-- 'laws.FnExactPicked', WHERE WHAT IT READS IS OF BULK AT MOST 1048576: true; the input reads as it did. -/
def fnExactPickedUptoRow : OpenClaim := { program := "ythjkhghlhjndmaa", sum := "d5c5f6c910a056ef2d470f6f5c7d14f56414f4ba580be5a6e51c1d54429724b2", func := "loop.example/g00401/laws.FnExactPicked", spec := "fnExactPicked", unfollowed := true, recurses := true, apart := false, narrowed := true }
def FnExactPickedUptoSaid : Prop := fnExactPickedUptoRow.holds Try.pinned (OpenSpec.upto fnExactPickedSpec)

/-- 'laws.FnExactRan', WHERE WHAT IT READS IS OF BULK AT MOST 1048576: true; the input reads as it did. -/
def fnExactRanUptoRow : OpenClaim := { program := "ythjkhghlhjndmaa", sum := "d5c5f6c910a056ef2d470f6f5c7d14f56414f4ba580be5a6e51c1d54429724b2", func := "loop.example/g00401/laws.FnExactRan", spec := "fnExactRan", unfollowed := true, recurses := true, apart := false, narrowed := true }
def FnExactRanUptoSaid : Prop := fnExactRanUptoRow.holds Try.pinned (OpenSpec.upto fnExactRanSpec)

/-- 'laws.FnExactAllDone', WHERE WHAT IT READS IS OF BULK AT MOST 1048576: true; the input reads as it did. -/
def fnExactAllDoneUptoRow : OpenClaim := { program := "ythjkhghlhjndmaa", sum := "d5c5f6c910a056ef2d470f6f5c7d14f56414f4ba580be5a6e51c1d54429724b2", func := "loop.example/g00401/laws.FnExactAllDone", spec := "fnExactAllDone", unfollowed := true, recurses := true, apart := false, narrowed := true }
def FnExactAllDoneUptoSaid : Prop := fnExactAllDoneUptoRow.holds Try.pinned (OpenSpec.upto fnExactAllDoneSpec)

/-- 'laws.FnCrews', WHERE WHAT IT READS IS OF BULK AT MOST 1048576: true; the input reads as it did. -/
def fnCrewsUptoRow : OpenClaim := { program := "ythjkhghlhjndmaa", sum := "d5c5f6c910a056ef2d470f6f5c7d14f56414f4ba580be5a6e51c1d54429724b2", func := "loop.example/g00401/laws.FnCrews", spec := "fnCrews", unfollowed := true, recurses := true, apart := false, narrowed := true }
def FnCrewsUptoSaid : Prop := fnCrewsUptoRow.holds Try.pinned (OpenSpec.upto fnCrewsSpec)

/-- 'laws.FnOneMoment', WHERE WHAT IT READS IS OF BULK AT MOST 1048576: true; the input reads as it did. -/
def fnOneMomentUptoRow : OpenClaim := { program := "ythjkhghlhjndmaa", sum := "d5c5f6c910a056ef2d470f6f5c7d14f56414f4ba580be5a6e51c1d54429724b2", func := "loop.example/g00401/laws.FnOneMoment", spec := "fnOneMoment", unfollowed := true, recurses := true, apart := false, narrowed := true }
def FnOneMomentUptoSaid : Prop := fnOneMomentUptoRow.holds Try.pinned (OpenSpec.upto fnOneMomentSpec)

/-- 'laws.FnRan', WHERE WHAT IT READS IS OF BULK AT MOST 1048576: true; the input reads as it did. -/
def fnRanUptoRow : OpenClaim := { program := "ythjkhghlhjndmaa", sum := "d5c5f6c910a056ef2d470f6f5c7d14f56414f4ba580be5a6e51c1d54429724b2", func := "loop.example/g00401/laws.FnRan", spec := "fnRan", unfollowed := true, recurses := true, apart := false, narrowed := true }
def FnRanUptoSaid : Prop := fnRanUptoRow.holds Try.pinned (OpenSpec.upto fnRanSpec)

end Rows
end Go.Proofs.Ythjkhghlhjndmaa
