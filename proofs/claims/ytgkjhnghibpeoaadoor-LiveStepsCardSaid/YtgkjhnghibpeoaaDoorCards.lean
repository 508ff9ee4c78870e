/-
  DERIVED. GIVEN WITH THE SEED: THE CARDS: each row of YtgkjhnghibpeoaaDoorRows.lean that lists a variable, with what it lists TIED to the program's text (the seventh form; the later family's looks); each row that meets fmt, with fmt's text TOLD by the authors' own Lean function (tested against real Go, not proved from fmt's source: count such statements apart). THE CARD IS WHAT COUNTS. Prove the row's statement (the work); the ties are given (YtgkjhnghibpeoaaDoorTie.lean); close each card by the builder's one call (the guide's Derived/Test/ToyasCard.lean, 'card_holds'). Laid BY PROGRAM, IN A SANDBOX (cutbox-door.mjs). By AI agents, Wed Nov 11 2026. No macro, syntax, notation, axiom, sorry.
-/
import Derived.Test.YtgkjhnghibpeoaaDoorRows
import GoSem.ClaimSeven
namespace Go.Proofs.YtgkjhnghibpeoaaDoor
namespace Rows

/-- THE TIED CARD OF 'turnstilelaw13.LiveSteps'. -/
def liveStepsCard : Claim7 := { stood := { row := liveStepsRow, standIns := [], harness := (true, "9f6ac772e55643c15bccf8d758d8d62133511e5c7259a90d46a05a0ba6776235"), looks := false }, kinds := [], alts := [], laidByText := true, laidKinds := [.data], laidTests := true, laidLooks := .later }
def LiveStepsCardSaid : Prop := Claim7.holds Tryd.pinned (.plain (OpenSpec.ofChange liveStepsSpec)) liveStepsCard

/-- THE TIED CARD OF 'turnstilelaw13.LiveAsked'. -/
def liveAskedCard : Claim7 := { stood := { row := liveAskedRow, standIns := [], harness := (true, "9f6ac772e55643c15bccf8d758d8d62133511e5c7259a90d46a05a0ba6776235"), looks := false }, kinds := [], alts := [], laidByText := true, laidKinds := [.data], laidTests := true, laidLooks := .later }
def LiveAskedCardSaid : Prop := Claim7.holds Tryd.pinned (.plain (OpenSpec.ofChange liveAskedSpec)) liveAskedCard

/-- THE SECOND FORM's CARD OF 'turnstilelaw13.LiveSteps'. -/
def liveStepsUptoCard : Claim7 := { stood := { row := liveStepsUptoRow, standIns := [], harness := (true, "9f6ac772e55643c15bccf8d758d8d62133511e5c7259a90d46a05a0ba6776235"), looks := false }, kinds := [], alts := [], laidByText := true, laidKinds := [.data], laidTests := true, laidLooks := .later }
def LiveStepsUptoCardSaid : Prop := Claim7.holds Tryd.pinned (.plain (OpenSpec.upto liveStepsSpec)) liveStepsUptoCard

/-- THE SECOND FORM's CARD OF 'turnstilelaw13.LiveAsked'. -/
def liveAskedUptoCard : Claim7 := { stood := { row := liveAskedUptoRow, standIns := [], harness := (true, "9f6ac772e55643c15bccf8d758d8d62133511e5c7259a90d46a05a0ba6776235"), looks := false }, kinds := [], alts := [], laidByText := true, laidKinds := [.data], laidTests := true, laidLooks := .later }
def LiveAskedUptoCardSaid : Prop := Claim7.holds Tryd.pinned (.plain (OpenSpec.upto liveAskedSpec)) liveAskedUptoCard
end Rows
end Go.Proofs.YtgkjhnghibpeoaaDoor
