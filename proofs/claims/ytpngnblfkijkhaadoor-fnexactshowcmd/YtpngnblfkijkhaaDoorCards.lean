/-
  DERIVED. GIVEN WITH THE SEED: THE CARDS: each row of YtpngnblfkijkhaaDoorRows.lean that lists a variable, with what it lists TIED to the program's text (the seventh form; the later family's looks); each row that meets fmt, with fmt's text TOLD by the authors' own Lean function (tested against real Go, not proved from fmt's source: count such statements apart). THE CARD IS WHAT COUNTS. Prove the row's statement (the work); the ties are given (YtpngnblfkijkhaaDoorTie.lean); close each card by the builder's one call (the guide's Derived/Test/ToyasCard.lean, 'card_holds'). Laid BY PROGRAM, IN A SANDBOX (cutbox-door.mjs). By AI agents, Wed Nov 11 2026. No macro, syntax, notation, axiom, sorry.
-/
import Derived.Test.YtpngnblfkijkhaaDoorRows
import GoSem.ClaimSeven
namespace Go.Proofs.YtpngnblfkijkhaaDoor
namespace Rows

/-- THE TIED CARD OF 'laws.FnExactShowCmd'. -/
def fnExactShowCmdCard : Claim7 := { stood := { row := fnExactShowCmdRow, standIns := [], harness := (true, "fecd1ecc3d2e718f97387d90f4d5a17753e16dc40987526c4ca923de6fa3ed4f"), looks := true }, kinds := [], alts := [], laidByText := true, laidKinds := [.data, .data, .data, .data], laidTests := true, laidLooks := .later }
def FnExactShowCmdCardSaid : Prop := Claim7.holds Tryd.pinned (.plain (OpenSpec.ofChange fnExactShowCmdSpec)) fnExactShowCmdCard

/-- THE TIED CARD OF 'laws.FnExactCmdAt'. -/
def fnExactCmdAtCard : Claim7 := { stood := { row := fnExactCmdAtRow, standIns := [], harness := (true, "fecd1ecc3d2e718f97387d90f4d5a17753e16dc40987526c4ca923de6fa3ed4f"), looks := true }, kinds := [], alts := [], laidByText := true, laidKinds := [.data, .data, .data, .data, .sentinel, .sentinel, .data, .pinned], laidTests := true, laidLooks := .later }
def FnExactCmdAtCardSaid : Prop := Claim7.holds Tryd.pinned (.plain (OpenSpec.ofChange fnExactCmdAtSpec)) fnExactCmdAtCard

/-- THE TIED CARD OF 'laws.FnExactCmds'. -/
def fnExactCmdsCard : Claim7 := { stood := { row := fnExactCmdsRow, standIns := [], harness := (true, "fecd1ecc3d2e718f97387d90f4d5a17753e16dc40987526c4ca923de6fa3ed4f"), looks := true }, kinds := [], alts := [], laidByText := true, laidKinds := [.data, .data, .data, .data, .sentinel, .sentinel, .data, .pinned], laidTests := true, laidLooks := .later }
def FnExactCmdsCardSaid : Prop := Claim7.holds Tryd.pinned (.plain (OpenSpec.ofChange fnExactCmdsSpec)) fnExactCmdsCard

/-- THE SECOND FORM's CARD OF 'laws.FnExactShowCmd'. -/
def fnExactShowCmdUptoCard : Claim7 := { stood := { row := fnExactShowCmdUptoRow, standIns := [], harness := (true, "fecd1ecc3d2e718f97387d90f4d5a17753e16dc40987526c4ca923de6fa3ed4f"), looks := true }, kinds := [], alts := [], laidByText := true, laidKinds := [.data, .data, .data, .data], laidTests := true, laidLooks := .later }
def FnExactShowCmdUptoCardSaid : Prop := Claim7.holds Tryd.pinned (.plain (OpenSpec.upto fnExactShowCmdSpec)) fnExactShowCmdUptoCard

/-- THE SECOND FORM's CARD OF 'laws.FnExactCmdAt'. -/
def fnExactCmdAtUptoCard : Claim7 := { stood := { row := fnExactCmdAtUptoRow, standIns := [], harness := (true, "fecd1ecc3d2e718f97387d90f4d5a17753e16dc40987526c4ca923de6fa3ed4f"), looks := true }, kinds := [], alts := [], laidByText := true, laidKinds := [.data, .data, .data, .data, .sentinel, .sentinel, .data, .pinned], laidTests := true, laidLooks := .later }
def FnExactCmdAtUptoCardSaid : Prop := Claim7.holds Tryd.pinned (.plain (OpenSpec.upto fnExactCmdAtSpec)) fnExactCmdAtUptoCard

/-- THE SECOND FORM's CARD OF 'laws.FnExactCmds'. -/
def fnExactCmdsUptoCard : Claim7 := { stood := { row := fnExactCmdsUptoRow, standIns := [], harness := (true, "fecd1ecc3d2e718f97387d90f4d5a17753e16dc40987526c4ca923de6fa3ed4f"), looks := true }, kinds := [], alts := [], laidByText := true, laidKinds := [.data, .data, .data, .data, .sentinel, .sentinel, .data, .pinned], laidTests := true, laidLooks := .later }
def FnExactCmdsUptoCardSaid : Prop := Claim7.holds Tryd.pinned (.plain (OpenSpec.upto fnExactCmdsSpec)) fnExactCmdsUptoCard
end Rows
end Go.Proofs.YtpngnblfkijkhaaDoor
