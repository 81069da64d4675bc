/-
  DERIVED. GIVEN WITH THE SEED: THE CARDS: each row of YtgdflopgdlpimaaGreatDoorRows.lean that lists a variable, with what it lists TIED to the program's text (the seventh form; the later family's looks); each row that meets fmt, with fmt's text TOLD by the authors' own Lean function (tested against real Go, not proved from fmt's source: count such statements apart). THE CARD IS WHAT COUNTS. Prove the row's statement (the work); the ties are given (YtgdflopgdlpimaaGreatDoorTie.lean); close each card by the builder's one call (the guide's Derived/Test/ToyasCard.lean, 'card_holds'). Laid BY PROGRAM, IN A SANDBOX (cutbox-door.mjs). By AI agents, Wed Nov 11 2026. No macro, syntax, notation, axiom, sorry.
-/
import Derived.Test.YtgdflopgdlpimaaGreatDoorRows
import GoSem.ClaimSeven
namespace Go.Proofs.YtgdflopgdlpimaaGreatDoor
namespace Rows

/-- THE TIED CARD OF 'tidegaugelaw1.ChunkCodes'. -/
def chunkCodesCard : Claim7 := { stood := { row := chunkCodesRow, standIns := [], harness := (true, "e83e03a3f8e5c36ff643634a5d25ef8bee25c52d47db4d9ea0ca27538f0d24b2"), looks := true }, kinds := [], alts := [], laidByText := true, laidKinds := [.data, .handle, .sentinel, .sentinel, .sentinel, .sentinel, .sentinel, .sentinel, .sentinel, .sentinel, .sentinel, .sentinel, .sentinel, .wider], laidTests := true, laidLooks := .later }
def ChunkCodesCardSaid : Prop := Claim7.holds Tryz.pinned (.plain (OpenSpec.ofChange chunkCodesSpec)) chunkCodesCard

/-- THE TIED CARD OF 'tidegaugelaw1.ChunkReads'. -/
def chunkReadsCard : Claim7 := { stood := { row := chunkReadsRow, standIns := [], harness := (true, "e83e03a3f8e5c36ff643634a5d25ef8bee25c52d47db4d9ea0ca27538f0d24b2"), looks := true }, kinds := [], alts := [], laidByText := true, laidKinds := [.data, .handle, .sentinel, .sentinel, .sentinel, .sentinel, .sentinel, .sentinel, .sentinel, .sentinel, .sentinel, .sentinel, .sentinel, .wider], laidTests := true, laidLooks := .later }
def ChunkReadsCardSaid : Prop := Claim7.holds Tryz.pinned (.plain (OpenSpec.ofChange chunkReadsSpec)) chunkReadsCard

/-- THE SECOND FORM's CARD OF 'tidegaugelaw1.ChunkCodes'. -/
def chunkCodesUptoCard : Claim7 := { stood := { row := chunkCodesUptoRow, standIns := [], harness := (true, "e83e03a3f8e5c36ff643634a5d25ef8bee25c52d47db4d9ea0ca27538f0d24b2"), looks := true }, kinds := [], alts := [], laidByText := true, laidKinds := [.data, .handle, .sentinel, .sentinel, .sentinel, .sentinel, .sentinel, .sentinel, .sentinel, .sentinel, .sentinel, .sentinel, .sentinel, .wider], laidTests := true, laidLooks := .later }
def ChunkCodesUptoCardSaid : Prop := Claim7.holds Tryz.pinned (.plain (OpenSpec.upto chunkCodesSpec)) chunkCodesUptoCard

/-- THE SECOND FORM's CARD OF 'tidegaugelaw1.ChunkReads'. -/
def chunkReadsUptoCard : Claim7 := { stood := { row := chunkReadsUptoRow, standIns := [], harness := (true, "e83e03a3f8e5c36ff643634a5d25ef8bee25c52d47db4d9ea0ca27538f0d24b2"), looks := true }, kinds := [], alts := [], laidByText := true, laidKinds := [.data, .handle, .sentinel, .sentinel, .sentinel, .sentinel, .sentinel, .sentinel, .sentinel, .sentinel, .sentinel, .sentinel, .sentinel, .wider], laidTests := true, laidLooks := .later }
def ChunkReadsUptoCardSaid : Prop := Claim7.holds Tryz.pinned (.plain (OpenSpec.upto chunkReadsSpec)) chunkReadsUptoCard
end Rows
end Go.Proofs.YtgdflopgdlpimaaGreatDoor
