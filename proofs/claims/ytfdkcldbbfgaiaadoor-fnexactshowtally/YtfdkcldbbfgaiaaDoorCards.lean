/-
  DERIVED. GIVEN WITH THE SEED: THE CARDS: each row of YtfdkcldbbfgaiaaDoorRows.lean that lists a variable, with what it lists TIED to the program's text (the seventh form; the later family's looks); each row that meets fmt, with fmt's text TOLD by the authors' own Lean function (tested against real Go, not proved from fmt's source: count such statements apart). THE CARD IS WHAT COUNTS. Prove the row's statement (the work); the ties are given (YtfdkcldbbfgaiaaDoorTie.lean); close each card by the builder's one call (the guide's Derived/Test/ToyasCard.lean, 'card_holds'). Laid BY PROGRAM, IN A SANDBOX (cutbox-door.mjs). By AI agents, Wed Nov 11 2026. No macro, syntax, notation, axiom, sorry.
-/
import Derived.Test.YtfdkcldbbfgaiaaDoorRows
import GoSem.ClaimSeven
namespace Go.Proofs.YtfdkcldbbfgaiaaDoor
namespace Rows

/-- THE TIED CARD OF 'laws.FnExactShowTally'. -/
def fnExactShowTallyCard : Claim7 := { stood := { row := fnExactShowTallyRow, standIns := [], harness := (true, "2800dbae797097c333936cdb9d7b1363b6616012610d412c10f56721b4c5990a"), looks := false }, kinds := [], alts := [], laidByText := true, laidKinds := [.data, .data, .data], laidTests := true, laidLooks := .later }
def FnExactShowTallyCardSaid : Prop := Claim7.holds Tryd.pinned (.plain (OpenSpec.ofChange fnExactShowTallySpec)) fnExactShowTallyCard

/-- THE SECOND FORM's CARD OF 'laws.FnExactShowTally'. -/
def fnExactShowTallyUptoCard : Claim7 := { stood := { row := fnExactShowTallyUptoRow, standIns := [], harness := (true, "2800dbae797097c333936cdb9d7b1363b6616012610d412c10f56721b4c5990a"), looks := false }, kinds := [], alts := [], laidByText := true, laidKinds := [.data, .data, .data], laidTests := true, laidLooks := .later }
def FnExactShowTallyUptoCardSaid : Prop := Claim7.holds Tryd.pinned (.plain (OpenSpec.upto fnExactShowTallySpec)) fnExactShowTallyUptoCard
end Rows
end Go.Proofs.YtfdkcldbbfgaiaaDoor
