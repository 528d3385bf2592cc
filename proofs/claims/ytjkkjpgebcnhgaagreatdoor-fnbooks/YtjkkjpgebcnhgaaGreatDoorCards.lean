/-
  DERIVED. GIVEN WITH THE SEED: THE CARDS: each row of YtjkkjpgebcnhgaaGreatDoorRows.lean that lists a variable, with what it lists TIED to the program's text (the seventh form; the later family's looks); each row that meets fmt, with fmt's text TOLD by the authors' own Lean function (tested against real Go, not proved from fmt's source: count such statements apart). THE CARD IS WHAT COUNTS. Prove the row's statement (the work); the ties are given (YtjkkjpgebcnhgaaGreatDoorTie.lean); close each card by the builder's one call (the guide's Derived/Test/ToyasCard.lean, 'card_holds'). Laid BY PROGRAM, IN A SANDBOX (cutbox-door.mjs). By AI agents, Wed Nov 11 2026. No macro, syntax, notation, axiom, sorry.
-/
import Derived.Test.YtjkkjpgebcnhgaaGreatDoorRows
import GoSem.ClaimSeven
namespace Go.Proofs.YtjkkjpgebcnhgaaGreatDoor
namespace Rows

/-- THE TIED CARD OF 'laws.FnExactDidBook'. -/
def fnExactDidBookCard : Claim7 := { stood := { row := fnExactDidBookRow, standIns := [], harness := (true, "e4b314b4c90e7dbd3d95248bd36d962aec443acc99c2ad869c9fcda91764fd3a"), looks := true }, kinds := [], alts := [], laidByText := true, laidKinds := [.data, .data, .data, .sentinel, .sentinel], laidTests := true, laidLooks := .later }
def FnExactDidBookCardSaid : Prop := Claim7.holds Tryz.pinned (.plain (OpenSpec.ofChange fnExactDidBookSpec)) fnExactDidBookCard

/-- THE TIED CARD OF 'laws.FnBooks'. -/
def fnBooksCard : Claim7 := { stood := { row := fnBooksRow, standIns := [], harness := (true, "e4b314b4c90e7dbd3d95248bd36d962aec443acc99c2ad869c9fcda91764fd3a"), looks := true }, kinds := [], alts := [], laidByText := true, laidKinds := [.data, .data, .data, .sentinel, .sentinel], laidTests := true, laidLooks := .later }
def FnBooksCardSaid : Prop := Claim7.holds Tryz.pinned (.plain (OpenSpec.ofChange fnBooksSpec)) fnBooksCard

/-- THE TIED CARD OF 'laws.FnCas'. -/
def fnCasCard : Claim7 := { stood := { row := fnCasRow, standIns := [], harness := (true, "e4b314b4c90e7dbd3d95248bd36d962aec443acc99c2ad869c9fcda91764fd3a"), looks := true }, kinds := [], alts := [], laidByText := true, laidKinds := [.data, .data, .data, .sentinel, .sentinel], laidTests := true, laidLooks := .later }
def FnCasCardSaid : Prop := Claim7.holds Tryz.pinned (.plain (OpenSpec.ofChange fnCasSpec)) fnCasCard

/-- THE SECOND FORM's CARD OF 'laws.FnExactDidBook'. -/
def fnExactDidBookUptoCard : Claim7 := { stood := { row := fnExactDidBookUptoRow, standIns := [], harness := (true, "e4b314b4c90e7dbd3d95248bd36d962aec443acc99c2ad869c9fcda91764fd3a"), looks := true }, kinds := [], alts := [], laidByText := true, laidKinds := [.data, .data, .data, .sentinel, .sentinel], laidTests := true, laidLooks := .later }
def FnExactDidBookUptoCardSaid : Prop := Claim7.holds Tryz.pinned (.plain (OpenSpec.upto fnExactDidBookSpec)) fnExactDidBookUptoCard

/-- THE SECOND FORM's CARD OF 'laws.FnBooks'. -/
def fnBooksUptoCard : Claim7 := { stood := { row := fnBooksUptoRow, standIns := [], harness := (true, "e4b314b4c90e7dbd3d95248bd36d962aec443acc99c2ad869c9fcda91764fd3a"), looks := true }, kinds := [], alts := [], laidByText := true, laidKinds := [.data, .data, .data, .sentinel, .sentinel], laidTests := true, laidLooks := .later }
def FnBooksUptoCardSaid : Prop := Claim7.holds Tryz.pinned (.plain (OpenSpec.upto fnBooksSpec)) fnBooksUptoCard

/-- THE SECOND FORM's CARD OF 'laws.FnCas'. -/
def fnCasUptoCard : Claim7 := { stood := { row := fnCasUptoRow, standIns := [], harness := (true, "e4b314b4c90e7dbd3d95248bd36d962aec443acc99c2ad869c9fcda91764fd3a"), looks := true }, kinds := [], alts := [], laidByText := true, laidKinds := [.data, .data, .data, .sentinel, .sentinel], laidTests := true, laidLooks := .later }
def FnCasUptoCardSaid : Prop := Claim7.holds Tryz.pinned (.plain (OpenSpec.upto fnCasSpec)) fnCasUptoCard
end Rows
end Go.Proofs.YtjkkjpgebcnhgaaGreatDoor
