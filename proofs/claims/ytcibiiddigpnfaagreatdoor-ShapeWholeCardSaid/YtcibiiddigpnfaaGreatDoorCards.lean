/-
  DERIVED. GIVEN WITH THE SEED: THE CARDS: each row of YtcibiiddigpnfaaGreatDoorRows.lean that lists a variable, with what it lists TIED to the program's text (the seventh form; the later family's looks); each row that meets fmt, with fmt's text TOLD by the authors' own Lean function (tested against real Go, not proved from fmt's source: count such statements apart). THE CARD IS WHAT COUNTS. Prove the row's statement (the work); the ties are given (YtcibiiddigpnfaaGreatDoorTie.lean); close each card by the builder's one call (the guide's Derived/Test/ToyasCard.lean, 'card_holds'). Laid BY PROGRAM, IN A SANDBOX (cutbox-door.mjs). By AI agents, Wed Nov 11 2026. No macro, syntax, notation, axiom, sorry.
-/
import Derived.Test.YtcibiiddigpnfaaGreatDoorRows
import GoSem.ClaimSeven
namespace Go.Proofs.YtcibiiddigpnfaaGreatDoor
namespace Rows

/-- THE TIED CARD OF 'turnstilelaw05.TypesLess'. -/
def typesLessCard : Claim7 := { stood := { row := typesLessRow, standIns := [], harness := (true, "c6410e7586f95eea76ebe1bb5cd78c8a97b801314c9215a33dc045aa4d28ab86"), looks := true }, kinds := [], alts := [], laidByText := true, laidKinds := [.data, .data, .data], laidTests := true, laidLooks := .later }
def TypesLessCardSaid : Prop := Claim7.holds Tryz.pinned (.plain (OpenSpec.ofChange typesLessSpec)) typesLessCard

/-- THE TIED CARD OF 'turnstilelaw07.ShapeTells'. -/
def shapeTellsCard : Claim7 := { stood := { row := shapeTellsRow, standIns := [], harness := (true, "c6410e7586f95eea76ebe1bb5cd78c8a97b801314c9215a33dc045aa4d28ab86"), looks := true }, kinds := [], alts := [], laidByText := true, laidKinds := [.data, .data, .data], laidTests := true, laidLooks := .later }
def ShapeTellsCardSaid : Prop := Claim7.holds Tryz.pinned (.plain (OpenSpec.ofChange shapeTellsSpec)) shapeTellsCard

/-- THE TIED CARD OF 'turnstilelaw07.ShapeWhole'. -/
def shapeWholeCard : Claim7 := { stood := { row := shapeWholeRow, standIns := [], harness := (true, "c6410e7586f95eea76ebe1bb5cd78c8a97b801314c9215a33dc045aa4d28ab86"), looks := true }, kinds := [], alts := [], laidByText := true, laidKinds := [.data, .data, .data], laidTests := true, laidLooks := .later }
def ShapeWholeCardSaid : Prop := Claim7.holds Tryz.pinned (.plain (OpenSpec.ofChange shapeWholeSpec)) shapeWholeCard

/-- THE SECOND FORM's CARD OF 'turnstilelaw05.TypesLess'. -/
def typesLessUptoCard : Claim7 := { stood := { row := typesLessUptoRow, standIns := [], harness := (true, "c6410e7586f95eea76ebe1bb5cd78c8a97b801314c9215a33dc045aa4d28ab86"), looks := true }, kinds := [], alts := [], laidByText := true, laidKinds := [.data, .data, .data], laidTests := true, laidLooks := .later }
def TypesLessUptoCardSaid : Prop := Claim7.holds Tryz.pinned (.plain (OpenSpec.upto typesLessSpec)) typesLessUptoCard

/-- THE SECOND FORM's CARD OF 'turnstilelaw07.ShapeTells'. -/
def shapeTellsUptoCard : Claim7 := { stood := { row := shapeTellsUptoRow, standIns := [], harness := (true, "c6410e7586f95eea76ebe1bb5cd78c8a97b801314c9215a33dc045aa4d28ab86"), looks := true }, kinds := [], alts := [], laidByText := true, laidKinds := [.data, .data, .data], laidTests := true, laidLooks := .later }
def ShapeTellsUptoCardSaid : Prop := Claim7.holds Tryz.pinned (.plain (OpenSpec.upto shapeTellsSpec)) shapeTellsUptoCard

/-- THE SECOND FORM's CARD OF 'turnstilelaw07.ShapeWhole'. -/
def shapeWholeUptoCard : Claim7 := { stood := { row := shapeWholeUptoRow, standIns := [], harness := (true, "c6410e7586f95eea76ebe1bb5cd78c8a97b801314c9215a33dc045aa4d28ab86"), looks := true }, kinds := [], alts := [], laidByText := true, laidKinds := [.data, .data, .data], laidTests := true, laidLooks := .later }
def ShapeWholeUptoCardSaid : Prop := Claim7.holds Tryz.pinned (.plain (OpenSpec.upto shapeWholeSpec)) shapeWholeUptoCard
end Rows
end Go.Proofs.YtcibiiddigpnfaaGreatDoor
