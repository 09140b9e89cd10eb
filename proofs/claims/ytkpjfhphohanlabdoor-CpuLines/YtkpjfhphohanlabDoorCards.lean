/-
  DERIVED. GIVEN WITH THE SEED: THE CARDS: each row of YtkpjfhphohanlabDoorRows.lean that lists a variable, with what it lists TIED to the program's text (the seventh form; the later family's looks); each row that meets fmt, with fmt's text TOLD by the authors' own Lean function (tested against real Go, not proved from fmt's source: count such statements apart). THE CARD IS WHAT COUNTS. Prove the row's statement (the work); the ties are given (YtkpjfhphohanlabDoorTie.lean); close each card by the builder's one call (the guide's Derived/Test/ToyasCard.lean, 'card_holds'). Laid BY PROGRAM, IN A SANDBOX (cutbox-door.mjs). By AI agents, Wed Nov 11 2026. No macro, syntax, notation, axiom, sorry.
-/
import Derived.Test.YtkpjfhphohanlabDoorRows
import GoSem.ClaimSeven
namespace Go.Proofs.YtkpjfhphohanlabDoor
namespace Rows

/-- THE TIED CARD OF 'anchoritelaw13.CpuLines'. -/
def cpuLinesCard : Claim7 := { stood := { row := cpuLinesRow, standIns := [], harness := (true, "ea7429866f5b89fce1e00b9cbc98edb055342909b9c1ed7c19ad30ab2e07ea31"), looks := true }, kinds := [], alts := [], laidByText := true, laidKinds := [.data, .data, .data, .sentinel, .sentinel, .data], laidTests := true, laidLooks := .later }
def CpuLinesCardSaid : Prop := Claim7.holds Tryd.pinned (.plain (OpenSpec.ofChange cpuLinesSpec)) cpuLinesCard

/-- THE SECOND FORM's CARD OF 'anchoritelaw13.CpuLines'. -/
def cpuLinesUptoCard : Claim7 := { stood := { row := cpuLinesUptoRow, standIns := [], harness := (true, "ea7429866f5b89fce1e00b9cbc98edb055342909b9c1ed7c19ad30ab2e07ea31"), looks := true }, kinds := [], alts := [], laidByText := true, laidKinds := [.data, .data, .data, .sentinel, .sentinel, .data], laidTests := true, laidLooks := .later }
def CpuLinesUptoCardSaid : Prop := Claim7.holds Tryd.pinned (.plain (OpenSpec.upto cpuLinesSpec)) cpuLinesUptoCard
end Rows
end Go.Proofs.YtkpjfhphohanlabDoor
