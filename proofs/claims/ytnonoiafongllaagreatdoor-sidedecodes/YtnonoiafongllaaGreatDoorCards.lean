/-
  DERIVED. GIVEN WITH THE SEED: THE CARDS: each row of YtnonoiafongllaaGreatDoorRows.lean that lists a variable, with what it lists TIED to the program's text (the seventh form; the later family's looks); each row that meets fmt, with fmt's text TOLD by the authors' own Lean function (tested against real Go, not proved from fmt's source: count such statements apart). THE CARD IS WHAT COUNTS. Prove the row's statement (the work); the ties are given (YtnonoiafongllaaGreatDoorTie.lean); close each card by the builder's one call (the guide's Derived/Test/ToyasCard.lean, 'card_holds'). Laid BY PROGRAM, IN A SANDBOX (cutbox-door.mjs). By AI agents, Wed Nov 11 2026. No macro, syntax, notation, axiom, sorry.
-/
import Derived.Test.YtnonoiafongllaaGreatDoorRows
import GoSem.ClaimSeven
namespace Go.Proofs.YtnonoiafongllaaGreatDoor
namespace Rows

/-- THE TIED CARD OF 'tidegaugelaw3.SideEncodes'. -/
def sideEncodesCard : Claim7 := { stood := { row := sideEncodesRow, standIns := [], harness := (true, "e3f1ba3bf39a242ad1e5b16d5ba9a6f0e9738961f3b80469b599ba3715e8fd9d"), looks := true }, kinds := [], alts := [], goes := true, laidByText := true, laidKinds := [.data, .handle, .sentinel, .sentinel, .sentinel, .sentinel, .sentinel, .sentinel, .sentinel, .sentinel, .sentinel, .sentinel, .sentinel, .wider], laidTests := true, laidLooks := .later }
def SideEncodesCardSaid : Prop := Claim7.holds Tryz.pinned (.plain (OpenSpec.ofChange sideEncodesSpec)) sideEncodesCard

/-- THE TIED CARD OF 'tidegaugelaw3.SideDecodes'. -/
def sideDecodesCard : Claim7 := { stood := { row := sideDecodesRow, standIns := [], harness := (true, "e3f1ba3bf39a242ad1e5b16d5ba9a6f0e9738961f3b80469b599ba3715e8fd9d"), looks := true }, kinds := [], alts := [], goes := true, laidByText := true, laidKinds := [.data, .handle, .sentinel, .sentinel, .sentinel, .sentinel, .sentinel, .sentinel, .sentinel, .sentinel, .sentinel, .sentinel, .sentinel, .wider], laidTests := true, laidLooks := .later }
def SideDecodesCardSaid : Prop := Claim7.holds Tryz.pinned (.plain (OpenSpec.ofChange sideDecodesSpec)) sideDecodesCard

/-- THE SECOND FORM's CARD OF 'tidegaugelaw3.SideEncodes'. -/
def sideEncodesUptoCard : Claim7 := { stood := { row := sideEncodesUptoRow, standIns := [], harness := (true, "e3f1ba3bf39a242ad1e5b16d5ba9a6f0e9738961f3b80469b599ba3715e8fd9d"), looks := true }, kinds := [], alts := [], goes := true, laidByText := true, laidKinds := [.data, .handle, .sentinel, .sentinel, .sentinel, .sentinel, .sentinel, .sentinel, .sentinel, .sentinel, .sentinel, .sentinel, .sentinel, .wider], laidTests := true, laidLooks := .later }
def SideEncodesUptoCardSaid : Prop := Claim7.holds Tryz.pinned (.plain (OpenSpec.upto sideEncodesSpec)) sideEncodesUptoCard

/-- THE SECOND FORM's CARD OF 'tidegaugelaw3.SideDecodes'. -/
def sideDecodesUptoCard : Claim7 := { stood := { row := sideDecodesUptoRow, standIns := [], harness := (true, "e3f1ba3bf39a242ad1e5b16d5ba9a6f0e9738961f3b80469b599ba3715e8fd9d"), looks := true }, kinds := [], alts := [], goes := true, laidByText := true, laidKinds := [.data, .handle, .sentinel, .sentinel, .sentinel, .sentinel, .sentinel, .sentinel, .sentinel, .sentinel, .sentinel, .sentinel, .sentinel, .wider], laidTests := true, laidLooks := .later }
def SideDecodesUptoCardSaid : Prop := Claim7.holds Tryz.pinned (.plain (OpenSpec.upto sideDecodesSpec)) sideDecodesUptoCard
end Rows
end Go.Proofs.YtnonoiafongllaaGreatDoor
