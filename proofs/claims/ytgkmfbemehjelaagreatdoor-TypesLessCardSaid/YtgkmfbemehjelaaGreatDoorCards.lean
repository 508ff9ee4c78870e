/-
  DERIVED. GIVEN WITH THE SEED: THE CARDS: each row of YtgkmfbemehjelaaGreatDoorRows.lean that lists a variable, with what it lists TIED to the program's text (the seventh form; the later family's looks); each row that meets fmt, with fmt's text TOLD by the authors' own Lean function (tested against real Go, not proved from fmt's source: count such statements apart). THE CARD IS WHAT COUNTS. Prove the row's statement (the work); the ties are given (YtgkmfbemehjelaaGreatDoorTie.lean); close each card by the builder's one call (the guide's Derived/Test/ToyasCard.lean, 'card_holds'). Laid BY PROGRAM, IN A SANDBOX (cutbox-door.mjs). By AI agents, Wed Nov 11 2026. No macro, syntax, notation, axiom, sorry.
-/
import Derived.Test.YtgkmfbemehjelaaGreatDoorRows
import GoSem.ClaimSeven
namespace Go.Proofs.YtgkmfbemehjelaaGreatDoor
namespace Rows

/-- THE TIED CARD OF 'turnstilelaw05.TypesChecks'. -/
def typesChecksCard : Claim7 := { stood := { row := typesChecksRow, standIns := [], harness := (true, "66d0229233c7270b447ae605e300f8453aff020b98d7f2ed45f89aae3f5c6cee"), looks := true }, kinds := [], alts := [], laidByText := true, laidKinds := [.data, .data, .data], laidTests := true, laidLooks := .later }
def TypesChecksCardSaid : Prop := Claim7.holds Tryz.pinned (.plain (OpenSpec.ofChange typesChecksSpec)) typesChecksCard

/-- THE TIED CARD OF 'turnstilelaw05.TypesLess'. -/
def typesLessCard : Claim7 := { stood := { row := typesLessRow, standIns := [], harness := (true, "66d0229233c7270b447ae605e300f8453aff020b98d7f2ed45f89aae3f5c6cee"), looks := true }, kinds := [], alts := [], laidByText := true, laidKinds := [.data, .data, .data], laidTests := true, laidLooks := .later }
def TypesLessCardSaid : Prop := Claim7.holds Tryz.pinned (.plain (OpenSpec.ofChange typesLessSpec)) typesLessCard

/-- THE TIED CARD OF 'turnstilelaw05.TypesFirst'. -/
def typesFirstCard : Claim7 := { stood := { row := typesFirstRow, standIns := [], harness := (true, "66d0229233c7270b447ae605e300f8453aff020b98d7f2ed45f89aae3f5c6cee"), looks := true }, kinds := [], alts := [], laidByText := true, laidKinds := [.data, .data, .data], laidTests := true, laidLooks := .later }
def TypesFirstCardSaid : Prop := Claim7.holds Tryz.pinned (.plain (OpenSpec.ofChange typesFirstSpec)) typesFirstCard

/-- THE TIED CARD OF 'turnstilelaw06.EffectChecks'. -/
def effectChecksCard : Claim7 := { stood := { row := effectChecksRow, standIns := [], harness := (true, "66d0229233c7270b447ae605e300f8453aff020b98d7f2ed45f89aae3f5c6cee"), looks := true }, kinds := [], alts := [], laidByText := true, laidKinds := [.data, .data, .data], laidTests := true, laidLooks := .later }
def EffectChecksCardSaid : Prop := Claim7.holds Tryz.pinned (.plain (OpenSpec.ofChange effectChecksSpec)) effectChecksCard

/-- THE TIED CARD OF 'turnstilelaw06.EffectMore'. -/
def effectMoreCard : Claim7 := { stood := { row := effectMoreRow, standIns := [], harness := (true, "66d0229233c7270b447ae605e300f8453aff020b98d7f2ed45f89aae3f5c6cee"), looks := true }, kinds := [], alts := [], laidByText := true, laidKinds := [.data, .data, .data], laidTests := true, laidLooks := .later }
def EffectMoreCardSaid : Prop := Claim7.holds Tryz.pinned (.plain (OpenSpec.ofChange effectMoreSpec)) effectMoreCard

/-- THE SECOND FORM's CARD OF 'turnstilelaw05.TypesChecks'. -/
def typesChecksUptoCard : Claim7 := { stood := { row := typesChecksUptoRow, standIns := [], harness := (true, "66d0229233c7270b447ae605e300f8453aff020b98d7f2ed45f89aae3f5c6cee"), looks := true }, kinds := [], alts := [], laidByText := true, laidKinds := [.data, .data, .data], laidTests := true, laidLooks := .later }
def TypesChecksUptoCardSaid : Prop := Claim7.holds Tryz.pinned (.plain (OpenSpec.upto typesChecksSpec)) typesChecksUptoCard

/-- THE SECOND FORM's CARD OF 'turnstilelaw05.TypesLess'. -/
def typesLessUptoCard : Claim7 := { stood := { row := typesLessUptoRow, standIns := [], harness := (true, "66d0229233c7270b447ae605e300f8453aff020b98d7f2ed45f89aae3f5c6cee"), looks := true }, kinds := [], alts := [], laidByText := true, laidKinds := [.data, .data, .data], laidTests := true, laidLooks := .later }
def TypesLessUptoCardSaid : Prop := Claim7.holds Tryz.pinned (.plain (OpenSpec.upto typesLessSpec)) typesLessUptoCard

/-- THE SECOND FORM's CARD OF 'turnstilelaw05.TypesFirst'. -/
def typesFirstUptoCard : Claim7 := { stood := { row := typesFirstUptoRow, standIns := [], harness := (true, "66d0229233c7270b447ae605e300f8453aff020b98d7f2ed45f89aae3f5c6cee"), looks := true }, kinds := [], alts := [], laidByText := true, laidKinds := [.data, .data, .data], laidTests := true, laidLooks := .later }
def TypesFirstUptoCardSaid : Prop := Claim7.holds Tryz.pinned (.plain (OpenSpec.upto typesFirstSpec)) typesFirstUptoCard

/-- THE SECOND FORM's CARD OF 'turnstilelaw06.EffectChecks'. -/
def effectChecksUptoCard : Claim7 := { stood := { row := effectChecksUptoRow, standIns := [], harness := (true, "66d0229233c7270b447ae605e300f8453aff020b98d7f2ed45f89aae3f5c6cee"), looks := true }, kinds := [], alts := [], laidByText := true, laidKinds := [.data, .data, .data], laidTests := true, laidLooks := .later }
def EffectChecksUptoCardSaid : Prop := Claim7.holds Tryz.pinned (.plain (OpenSpec.upto effectChecksSpec)) effectChecksUptoCard

/-- THE SECOND FORM's CARD OF 'turnstilelaw06.EffectMore'. -/
def effectMoreUptoCard : Claim7 := { stood := { row := effectMoreUptoRow, standIns := [], harness := (true, "66d0229233c7270b447ae605e300f8453aff020b98d7f2ed45f89aae3f5c6cee"), looks := true }, kinds := [], alts := [], laidByText := true, laidKinds := [.data, .data, .data], laidTests := true, laidLooks := .later }
def EffectMoreUptoCardSaid : Prop := Claim7.holds Tryz.pinned (.plain (OpenSpec.upto effectMoreSpec)) effectMoreUptoCard
end Rows
end Go.Proofs.YtgkmfbemehjelaaGreatDoor
