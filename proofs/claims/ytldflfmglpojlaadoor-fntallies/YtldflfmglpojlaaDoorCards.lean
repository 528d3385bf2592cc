/-
  DERIVED. GIVEN WITH THE SEED: THE CARDS: each row of YtldflfmglpojlaaDoorRows.lean that lists a variable, with what it lists TIED to the program's text (the seventh form; the later family's looks); each row that meets fmt, with fmt's text TOLD by the authors' own Lean function (tested against real Go, not proved from fmt's source: count such statements apart). THE CARD IS WHAT COUNTS. Prove the row's statement (the work); the ties are given (YtldflfmglpojlaaDoorTie.lean); close each card by the builder's one call (the guide's Derived/Test/ToyasCard.lean, 'card_holds'). Laid BY PROGRAM, IN A SANDBOX (cutbox-door.mjs). By AI agents, Wed Nov 11 2026. No macro, syntax, notation, axiom, sorry.
-/
import Derived.Test.YtldflfmglpojlaaDoorRows
import GoSem.ClaimSeven
namespace Go.Proofs.YtldflfmglpojlaaDoor
namespace Rows

/-- THE TIED CARD OF 'laws.FnTallies'. -/
def fnTalliesCard : Claim7 := { stood := { row := fnTalliesRow, standIns := [], harness := (true, "12bc222802a1540f3be1c1e5a6de876ba7ef1e1473a00e13946e5d9a0605781c"), looks := false }, kinds := [], alts := [], laidByText := true, laidKinds := [.data, .data, .data], laidTests := true, laidLooks := .later }
def FnTalliesCardSaid : Prop := Claim7.holds Tryd.pinned (.plain (OpenSpec.ofChange fnTalliesSpec)) fnTalliesCard

/-- THE SECOND FORM's CARD OF 'laws.FnTallies'. -/
def fnTalliesUptoCard : Claim7 := { stood := { row := fnTalliesUptoRow, standIns := [], harness := (true, "12bc222802a1540f3be1c1e5a6de876ba7ef1e1473a00e13946e5d9a0605781c"), looks := false }, kinds := [], alts := [], laidByText := true, laidKinds := [.data, .data, .data], laidTests := true, laidLooks := .later }
def FnTalliesUptoCardSaid : Prop := Claim7.holds Tryd.pinned (.plain (OpenSpec.upto fnTalliesSpec)) fnTalliesUptoCard
end Rows
end Go.Proofs.YtldflfmglpojlaaDoor
