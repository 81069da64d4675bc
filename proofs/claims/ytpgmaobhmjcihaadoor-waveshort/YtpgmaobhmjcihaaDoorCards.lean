/-
  DERIVED. GIVEN WITH THE SEED: THE CARDS: each row of YtpgmaobhmjcihaaDoorRows.lean that lists a variable, with what it lists TIED to the program's text (the seventh form; the later family's looks); each row that meets fmt, with fmt's text TOLD by the authors' own Lean function (tested against real Go, not proved from fmt's source: count such statements apart). THE CARD IS WHAT COUNTS. Prove the row's statement (the work); the ties are given (YtpgmaobhmjcihaaDoorTie.lean); close each card by the builder's one call (the guide's Derived/Test/ToyasCard.lean, 'card_holds'). Laid BY PROGRAM, IN A SANDBOX (cutbox-door.mjs). By AI agents, Wed Nov 11 2026. No macro, syntax, notation, axiom, sorry.
-/
import Derived.Test.YtpgmaobhmjcihaaDoorRows
import GoSem.ClaimSeven
namespace Go.Proofs.YtpgmaobhmjcihaaDoor
namespace Rows

/-- THE TIED CARD OF 'tidegaugelaw1.Names'. -/
def namesCard : Claim7 := { stood := { row := namesRow, standIns := [], harness := (true, "4a4b320785a45890bc2b7fd94f6e86c10e6a888787fe76e66725768ee7a555ca"), looks := true }, kinds := [], alts := [], laidByText := true, laidKinds := [.handle, .sentinel, .sentinel, .sentinel, .sentinel, .sentinel, .sentinel, .sentinel, .sentinel, .sentinel, .sentinel, .sentinel], laidTests := true, laidLooks := .later }
def NamesCardSaid : Prop := Claim7.holds Tryd.pinned (.plain (OpenSpec.ofChange namesSpec)) namesCard

/-- THE TIED CARD OF 'tidegaugelaw1.BitsRows'. -/
def bitsRowsCard : Claim7 := { stood := { row := bitsRowsRow, standIns := [], harness := (true, "4a4b320785a45890bc2b7fd94f6e86c10e6a888787fe76e66725768ee7a555ca"), looks := true }, kinds := [], alts := [], laidByText := true, laidKinds := [.handle, .sentinel, .sentinel, .sentinel, .sentinel, .sentinel, .sentinel, .sentinel, .sentinel, .sentinel, .sentinel, .sentinel], laidTests := true, laidLooks := .later }
def BitsRowsCardSaid : Prop := Claim7.holds Tryd.pinned (.plain (OpenSpec.ofChange bitsRowsSpec)) bitsRowsCard

/-- THE TIED CARD OF 'tidegaugelaw1.WaveNumbers'. -/
def waveNumbersCard : Claim7 := { stood := { row := waveNumbersRow, standIns := [], harness := (true, "4a4b320785a45890bc2b7fd94f6e86c10e6a888787fe76e66725768ee7a555ca"), looks := true }, kinds := [], alts := [], laidByText := true, laidKinds := [.handle, .sentinel, .sentinel, .sentinel, .sentinel, .sentinel, .sentinel, .sentinel, .sentinel, .sentinel, .sentinel, .sentinel, .wider], laidTests := true, laidLooks := .later }
def WaveNumbersCardSaid : Prop := Claim7.holds Tryd.pinned (.plain (OpenSpec.ofChange waveNumbersSpec)) waveNumbersCard

/-- THE TIED CARD OF 'tidegaugelaw1.WaveReads'. -/
def waveReadsCard : Claim7 := { stood := { row := waveReadsRow, standIns := [], harness := (true, "4a4b320785a45890bc2b7fd94f6e86c10e6a888787fe76e66725768ee7a555ca"), looks := true }, kinds := [], alts := [], laidByText := true, laidKinds := [.handle, .sentinel, .sentinel, .sentinel, .sentinel, .sentinel, .sentinel, .sentinel, .sentinel, .sentinel, .sentinel, .sentinel, .wider], laidTests := true, laidLooks := .later }
def WaveReadsCardSaid : Prop := Claim7.holds Tryd.pinned (.plain (OpenSpec.ofChange waveReadsSpec)) waveReadsCard

/-- THE TIED CARD OF 'tidegaugelaw1.WaveShort'. -/
def waveShortCard : Claim7 := { stood := { row := waveShortRow, standIns := [], harness := (true, "4a4b320785a45890bc2b7fd94f6e86c10e6a888787fe76e66725768ee7a555ca"), looks := true }, kinds := [], alts := [], laidByText := true, laidKinds := [.sentinel, .sentinel, .sentinel, .wider], laidTests := true, laidLooks := .later }
def WaveShortCardSaid : Prop := Claim7.holds Tryd.pinned (.plain (OpenSpec.ofChange waveShortSpec)) waveShortCard

/-- THE SECOND FORM's CARD OF 'tidegaugelaw1.Names'. -/
def namesUptoCard : Claim7 := { stood := { row := namesUptoRow, standIns := [], harness := (true, "4a4b320785a45890bc2b7fd94f6e86c10e6a888787fe76e66725768ee7a555ca"), looks := true }, kinds := [], alts := [], laidByText := true, laidKinds := [.handle, .sentinel, .sentinel, .sentinel, .sentinel, .sentinel, .sentinel, .sentinel, .sentinel, .sentinel, .sentinel, .sentinel], laidTests := true, laidLooks := .later }
def NamesUptoCardSaid : Prop := Claim7.holds Tryd.pinned (.plain (OpenSpec.upto namesSpec)) namesUptoCard

/-- THE SECOND FORM's CARD OF 'tidegaugelaw1.BitsRows'. -/
def bitsRowsUptoCard : Claim7 := { stood := { row := bitsRowsUptoRow, standIns := [], harness := (true, "4a4b320785a45890bc2b7fd94f6e86c10e6a888787fe76e66725768ee7a555ca"), looks := true }, kinds := [], alts := [], laidByText := true, laidKinds := [.handle, .sentinel, .sentinel, .sentinel, .sentinel, .sentinel, .sentinel, .sentinel, .sentinel, .sentinel, .sentinel, .sentinel], laidTests := true, laidLooks := .later }
def BitsRowsUptoCardSaid : Prop := Claim7.holds Tryd.pinned (.plain (OpenSpec.upto bitsRowsSpec)) bitsRowsUptoCard

/-- THE SECOND FORM's CARD OF 'tidegaugelaw1.WaveNumbers'. -/
def waveNumbersUptoCard : Claim7 := { stood := { row := waveNumbersUptoRow, standIns := [], harness := (true, "4a4b320785a45890bc2b7fd94f6e86c10e6a888787fe76e66725768ee7a555ca"), looks := true }, kinds := [], alts := [], laidByText := true, laidKinds := [.handle, .sentinel, .sentinel, .sentinel, .sentinel, .sentinel, .sentinel, .sentinel, .sentinel, .sentinel, .sentinel, .sentinel, .wider], laidTests := true, laidLooks := .later }
def WaveNumbersUptoCardSaid : Prop := Claim7.holds Tryd.pinned (.plain (OpenSpec.upto waveNumbersSpec)) waveNumbersUptoCard

/-- THE SECOND FORM's CARD OF 'tidegaugelaw1.WaveReads'. -/
def waveReadsUptoCard : Claim7 := { stood := { row := waveReadsUptoRow, standIns := [], harness := (true, "4a4b320785a45890bc2b7fd94f6e86c10e6a888787fe76e66725768ee7a555ca"), looks := true }, kinds := [], alts := [], laidByText := true, laidKinds := [.handle, .sentinel, .sentinel, .sentinel, .sentinel, .sentinel, .sentinel, .sentinel, .sentinel, .sentinel, .sentinel, .sentinel, .wider], laidTests := true, laidLooks := .later }
def WaveReadsUptoCardSaid : Prop := Claim7.holds Tryd.pinned (.plain (OpenSpec.upto waveReadsSpec)) waveReadsUptoCard

/-- THE SECOND FORM's CARD OF 'tidegaugelaw1.WaveShort'. -/
def waveShortUptoCard : Claim7 := { stood := { row := waveShortUptoRow, standIns := [], harness := (true, "4a4b320785a45890bc2b7fd94f6e86c10e6a888787fe76e66725768ee7a555ca"), looks := true }, kinds := [], alts := [], laidByText := true, laidKinds := [.sentinel, .sentinel, .sentinel, .wider], laidTests := true, laidLooks := .later }
def WaveShortUptoCardSaid : Prop := Claim7.holds Tryd.pinned (.plain (OpenSpec.upto waveShortSpec)) waveShortUptoCard
end Rows
end Go.Proofs.YtpgmaobhmjcihaaDoor
