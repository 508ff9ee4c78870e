/-
  DERIVED. GIVEN WITH THE SEED: THE CARDS: each row of YtlboinokdhmacaaGreatDoorRows.lean that lists a variable, with what it lists TIED to the program's text (the seventh form; the later family's looks); each row that meets fmt, with fmt's text TOLD by the authors' own Lean function (tested against real Go, not proved from fmt's source: count such statements apart). THE CARD IS WHAT COUNTS. Prove the row's statement (the work); the ties are given (YtlboinokdhmacaaGreatDoorTie.lean); close each card by the builder's one call (the guide's Derived/Test/ToyasCard.lean, 'card_holds'). Laid BY PROGRAM, IN A SANDBOX (cutbox-door.mjs). By AI agents, Wed Nov 11 2026. No macro, syntax, notation, axiom, sorry.
-/
import Derived.Test.YtlboinokdhmacaaGreatDoorRows
import GoSem.ClaimSeven
namespace Go.Proofs.YtlboinokdhmacaaGreatDoor
namespace Rows

/-- THE TIED CARD OF 'turnstilelaw10.WalkRuns'. -/
def walkRunsCard : Claim7 := { stood := { row := walkRunsRow, standIns := [], harness := (true, "b2ffa56ec405244f8c140626cfe8ea1977e08944e4cf3487542053a045ae7c0f"), looks := false }, kinds := [], alts := [], laidByText := true, laidKinds := [.data, .data, .data], laidTests := true, laidLooks := .later }
def WalkRunsCardSaid : Prop := Claim7.holds Tryz.pinned (.plain (OpenSpec.ofChange walkRunsSpec)) walkRunsCard

/-- THE SECOND FORM's CARD OF 'turnstilelaw10.WalkRuns'. -/
def walkRunsUptoCard : Claim7 := { stood := { row := walkRunsUptoRow, standIns := [], harness := (true, "b2ffa56ec405244f8c140626cfe8ea1977e08944e4cf3487542053a045ae7c0f"), looks := false }, kinds := [], alts := [], laidByText := true, laidKinds := [.data, .data, .data], laidTests := true, laidLooks := .later }
def WalkRunsUptoCardSaid : Prop := Claim7.holds Tryz.pinned (.plain (OpenSpec.upto walkRunsSpec)) walkRunsUptoCard
end Rows
end Go.Proofs.YtlboinokdhmacaaGreatDoor
