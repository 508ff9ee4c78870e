/-
  DERIVED. GIVEN WITH THE SEED: THE CARDS: each row of YtgndpcoplkhhgaaGreatDoorRows.lean that lists a variable, with what it lists TIED to the program's text (the seventh form; the later family's looks); each row that meets fmt, with fmt's text TOLD by the authors' own Lean function (tested against real Go, not proved from fmt's source: count such statements apart). THE CARD IS WHAT COUNTS. Prove the row's statement (the work); the ties are given (YtgndpcoplkhhgaaGreatDoorTie.lean); close each card by the builder's one call (the guide's Derived/Test/ToyasCard.lean, 'card_holds'). Laid BY PROGRAM, IN A SANDBOX (cutbox-door.mjs). By AI agents, Wed Nov 11 2026. No macro, syntax, notation, axiom, sorry.
-/
import Derived.Test.YtgndpcoplkhhgaaGreatDoorRows
import GoSem.ClaimSeven
namespace Go.Proofs.YtgndpcoplkhhgaaGreatDoor
namespace Rows

/-- THE TIED CARD OF 'turnstilelaw09.IrThreads'. -/
def irThreadsCard : Claim7 := { stood := { row := irThreadsRow, standIns := [], harness := (true, "bf89c2cc73939e54f6b89e0defcb1f68a6ebe015f8d83b800d6340742c40a175"), looks := true }, kinds := [], alts := [], laidByText := true, laidKinds := [.data, .data, .data, .data, .sentinel, .sentinel, .pinned], laidTests := true, laidLooks := .later }
def IrThreadsCardSaid : Prop := Claim7.holds Tryz.pinned (.plain (OpenSpec.ofChange irThreadsSpec)) irThreadsCard

/-- THE SECOND FORM's CARD OF 'turnstilelaw09.IrThreads'. -/
def irThreadsUptoCard : Claim7 := { stood := { row := irThreadsUptoRow, standIns := [], harness := (true, "bf89c2cc73939e54f6b89e0defcb1f68a6ebe015f8d83b800d6340742c40a175"), looks := true }, kinds := [], alts := [], laidByText := true, laidKinds := [.data, .data, .data, .data, .sentinel, .sentinel, .pinned], laidTests := true, laidLooks := .later }
def IrThreadsUptoCardSaid : Prop := Claim7.holds Tryz.pinned (.plain (OpenSpec.upto irThreadsSpec)) irThreadsUptoCard
end Rows
end Go.Proofs.YtgndpcoplkhhgaaGreatDoor
