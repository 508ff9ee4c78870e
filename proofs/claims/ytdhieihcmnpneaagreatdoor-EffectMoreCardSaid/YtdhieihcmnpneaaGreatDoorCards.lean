/-
  DERIVED. GIVEN WITH THE SEED: THE CARDS: each row of YtdhieihcmnpneaaGreatDoorRows.lean that lists a variable, with what it lists TIED to the program's text (the seventh form; the later family's looks); each row that meets fmt, with fmt's text TOLD by the authors' own Lean function (tested against real Go, not proved from fmt's source: count such statements apart). THE CARD IS WHAT COUNTS. Prove the row's statement (the work); the ties are given (YtdhieihcmnpneaaGreatDoorTie.lean); close each card by the builder's one call (the guide's Derived/Test/ToyasCard.lean, 'card_holds'). Laid BY PROGRAM, IN A SANDBOX (cutbox-door.mjs). By AI agents, Wed Nov 11 2026. No macro, syntax, notation, axiom, sorry.
-/
import Derived.Test.YtdhieihcmnpneaaGreatDoorRows
import GoSem.ClaimSeven
namespace Go.Proofs.YtdhieihcmnpneaaGreatDoor
namespace Rows

/-- THE TIED CARD OF 'turnstilelaw06.EffectMore'. -/
def effectMoreCard : Claim7 := { stood := { row := effectMoreRow, standIns := [], harness := (true, "bda64cb6ba5af6fc0fed8686e1b5625ee13ce8540b4813b3395133ffe43ca2b9"), looks := true }, kinds := [], alts := [], laidByText := true, laidKinds := [.data, .data, .data], laidTests := true, laidLooks := .later }
def EffectMoreCardSaid : Prop := Claim7.holds Tryz.pinned (.plain (OpenSpec.ofChange effectMoreSpec)) effectMoreCard

/-- THE SECOND FORM's CARD OF 'turnstilelaw06.EffectMore'. -/
def effectMoreUptoCard : Claim7 := { stood := { row := effectMoreUptoRow, standIns := [], harness := (true, "bda64cb6ba5af6fc0fed8686e1b5625ee13ce8540b4813b3395133ffe43ca2b9"), looks := true }, kinds := [], alts := [], laidByText := true, laidKinds := [.data, .data, .data], laidTests := true, laidLooks := .later }
def EffectMoreUptoCardSaid : Prop := Claim7.holds Tryz.pinned (.plain (OpenSpec.upto effectMoreSpec)) effectMoreUptoCard
end Rows
end Go.Proofs.YtdhieihcmnpneaaGreatDoor
