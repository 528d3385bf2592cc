/-
  DERIVED. GIVEN WITH THE SEED: THE CARDS: each row of YtefmndjoailemaaDoorRows.lean that lists a variable, with what it lists TIED to the program's text (the seventh form; the later family's looks); each row that meets fmt, with fmt's text TOLD by the authors' own Lean function (tested against real Go, not proved from fmt's source: count such statements apart). THE CARD IS WHAT COUNTS. Prove the row's statement (the work); the ties are given (YtefmndjoailemaaDoorTie.lean); close each card by the builder's one call (the guide's Derived/Test/ToyasCard.lean, 'card_holds'). Laid BY PROGRAM, IN A SANDBOX (cutbox-door.mjs). By AI agents, Wed Nov 11 2026. No macro, syntax, notation, axiom, sorry.
-/
import Derived.Test.YtefmndjoailemaaDoorRows
import GoSem.ClaimSeven
namespace Go.Proofs.YtefmndjoailemaaDoor
namespace Rows

/-- THE TIED CARD OF 'laws.FnExactCmds'. -/
def fnExactCmdsCard : Claim7 := { stood := { row := fnExactCmdsRow, standIns := [], harness := (true, "e20d76f979f356a0c3206a217018ae0b8e410cfc90dd62a4c8320e6d966cd1f5"), looks := true }, kinds := [], alts := [], laidByText := true, laidKinds := [.data, .data, .data, .data, .sentinel, .sentinel, .data, .pinned], laidTests := true, laidLooks := .later }
def FnExactCmdsCardSaid : Prop := Claim7.holds Tryd.pinned (.plain (OpenSpec.ofChange fnExactCmdsSpec)) fnExactCmdsCard

/-- THE TIED CARD OF 'laws.FnExactShowReply'. -/
def fnExactShowReplyCard : Claim7 := { stood := { row := fnExactShowReplyRow, standIns := [], harness := (true, "e20d76f979f356a0c3206a217018ae0b8e410cfc90dd62a4c8320e6d966cd1f5"), looks := true }, kinds := [], alts := [], laidByText := true, laidKinds := [.data, .data, .data, .data], laidTests := true, laidLooks := .later }
def FnExactShowReplyCardSaid : Prop := Claim7.holds Tryd.pinned (.plain (OpenSpec.ofChange fnExactShowReplySpec)) fnExactShowReplyCard

/-- THE TIED CARD OF 'laws.FnExactReplyAt'. -/
def fnExactReplyAtCard : Claim7 := { stood := { row := fnExactReplyAtRow, standIns := [], harness := (true, "e20d76f979f356a0c3206a217018ae0b8e410cfc90dd62a4c8320e6d966cd1f5"), looks := true }, kinds := [], alts := [], laidByText := true, laidKinds := [.data, .data, .data, .data, .sentinel, .sentinel, .data, .pinned], laidTests := true, laidLooks := .later }
def FnExactReplyAtCardSaid : Prop := Claim7.holds Tryd.pinned (.plain (OpenSpec.ofChange fnExactReplyAtSpec)) fnExactReplyAtCard

/-- THE SECOND FORM's CARD OF 'laws.FnExactCmds'. -/
def fnExactCmdsUptoCard : Claim7 := { stood := { row := fnExactCmdsUptoRow, standIns := [], harness := (true, "e20d76f979f356a0c3206a217018ae0b8e410cfc90dd62a4c8320e6d966cd1f5"), looks := true }, kinds := [], alts := [], laidByText := true, laidKinds := [.data, .data, .data, .data, .sentinel, .sentinel, .data, .pinned], laidTests := true, laidLooks := .later }
def FnExactCmdsUptoCardSaid : Prop := Claim7.holds Tryd.pinned (.plain (OpenSpec.upto fnExactCmdsSpec)) fnExactCmdsUptoCard

/-- THE SECOND FORM's CARD OF 'laws.FnExactShowReply'. -/
def fnExactShowReplyUptoCard : Claim7 := { stood := { row := fnExactShowReplyUptoRow, standIns := [], harness := (true, "e20d76f979f356a0c3206a217018ae0b8e410cfc90dd62a4c8320e6d966cd1f5"), looks := true }, kinds := [], alts := [], laidByText := true, laidKinds := [.data, .data, .data, .data], laidTests := true, laidLooks := .later }
def FnExactShowReplyUptoCardSaid : Prop := Claim7.holds Tryd.pinned (.plain (OpenSpec.upto fnExactShowReplySpec)) fnExactShowReplyUptoCard

/-- THE SECOND FORM's CARD OF 'laws.FnExactReplyAt'. -/
def fnExactReplyAtUptoCard : Claim7 := { stood := { row := fnExactReplyAtUptoRow, standIns := [], harness := (true, "e20d76f979f356a0c3206a217018ae0b8e410cfc90dd62a4c8320e6d966cd1f5"), looks := true }, kinds := [], alts := [], laidByText := true, laidKinds := [.data, .data, .data, .data, .sentinel, .sentinel, .data, .pinned], laidTests := true, laidLooks := .later }
def FnExactReplyAtUptoCardSaid : Prop := Claim7.holds Tryd.pinned (.plain (OpenSpec.upto fnExactReplyAtSpec)) fnExactReplyAtUptoCard
end Rows
end Go.Proofs.YtefmndjoailemaaDoor
