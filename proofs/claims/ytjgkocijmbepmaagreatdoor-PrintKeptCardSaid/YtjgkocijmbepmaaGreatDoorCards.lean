/-
  DERIVED. GIVEN WITH THE SEED: THE CARDS: each row of YtjgkocijmbepmaaGreatDoorRows.lean that lists a variable, with what it lists TIED to the program's text (the seventh form; the later family's looks); each row that meets fmt, with fmt's text TOLD by the authors' own Lean function (tested against real Go, not proved from fmt's source: count such statements apart). THE CARD IS WHAT COUNTS. Prove the row's statement (the work); the ties are given (YtjgkocijmbepmaaGreatDoorTie.lean); close each card by the builder's one call (the guide's Derived/Test/ToyasCard.lean, 'card_holds'). Laid BY PROGRAM, IN A SANDBOX (cutbox-door.mjs). By AI agents, Wed Nov 11 2026. No macro, syntax, notation, axiom, sorry.
-/
import Derived.Test.YtjgkocijmbepmaaGreatDoorRows
import GoSem.ClaimSeven
namespace Go.Proofs.YtjgkocijmbepmaaGreatDoor
namespace Rows

/-- THE TIED CARD OF 'splicerylaw07.PrintKept'. -/
def printKeptCard : Claim7 := { stood := { row := printKeptRow, standIns := [], harness := (true, "0b4e13f47a3fece7220a664c79f2c4b9a4dc40ec7e9dbec82e2ced0ae2a656c1"), looks := true }, kinds := [], alts := [], laidByText := true, laidKinds := [.data, .data, .data, .sentinel, .sentinel, .data, .data, .data], laidTests := true, laidLooks := .later }
def PrintKeptCardSaid : Prop := Claim7.holds Tryz.pinned (.plain (OpenSpec.ofChange printKeptSpec)) printKeptCard

/-- THE SECOND FORM's CARD OF 'splicerylaw07.PrintKept'. -/
def printKeptUptoCard : Claim7 := { stood := { row := printKeptUptoRow, standIns := [], harness := (true, "0b4e13f47a3fece7220a664c79f2c4b9a4dc40ec7e9dbec82e2ced0ae2a656c1"), looks := true }, kinds := [], alts := [], laidByText := true, laidKinds := [.data, .data, .data, .sentinel, .sentinel, .data, .data, .data], laidTests := true, laidLooks := .later }
def PrintKeptUptoCardSaid : Prop := Claim7.holds Tryz.pinned (.plain (OpenSpec.upto printKeptSpec)) printKeptUptoCard
end Rows
end Go.Proofs.YtjgkocijmbepmaaGreatDoor
