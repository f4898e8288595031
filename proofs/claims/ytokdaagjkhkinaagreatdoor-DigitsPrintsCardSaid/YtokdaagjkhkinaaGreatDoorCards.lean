/-
  DERIVED. GIVEN WITH THE SEED: THE CARDS: each row of YtokdaagjkhkinaaGreatDoorRows.lean that lists a variable, with what it lists TIED to the program's text (the seventh form; the later family's looks); each row that meets fmt, with fmt's text TOLD by the authors' own Lean function (tested against real Go, not proved from fmt's source: count such statements apart). THE CARD IS WHAT COUNTS. Prove the row's statement (the work); the ties are given (YtokdaagjkhkinaaGreatDoorTie.lean); close each card by the builder's one call (the guide's Derived/Test/ToyasCard.lean, 'card_holds'). Laid BY PROGRAM, IN A SANDBOX (cutbox-door.mjs). By AI agents, Wed Nov 11 2026. No macro, syntax, notation, axiom, sorry.
-/
import Derived.Test.YtokdaagjkhkinaaGreatDoorRows
import GoSem.ClaimSeven
namespace Go.Proofs.YtokdaagjkhkinaaGreatDoor
namespace Rows

/-- THE TIED CARD OF 'scrimlaw05.DigitsPrints'. -/
def digitsPrintsCard : Claim7 := { stood := { row := digitsPrintsRow, standIns := [], harness := (true, "3bc7490511c93cd836913697980ec71bb0338da2773b56263cf4ee5c6bcfe1b9"), looks := false }, kinds := [], alts := [], laidByText := true, laidKinds := [.data, .pinned], laidTests := true, laidLooks := .later }
def DigitsPrintsCardSaid : Prop := Claim7.holds Tryz.pinned (.plain (OpenSpec.ofChange digitsPrintsSpec)) digitsPrintsCard

/-- THE TIED CARD OF 'scrimlaw05.DigitsParses'. -/
def digitsParsesCard : Claim7 := { stood := { row := digitsParsesRow, standIns := [], harness := (true, "3bc7490511c93cd836913697980ec71bb0338da2773b56263cf4ee5c6bcfe1b9"), looks := false }, kinds := [], alts := [], laidByText := true, laidKinds := [.data, .pinned], laidTests := true, laidLooks := .later }
def DigitsParsesCardSaid : Prop := Claim7.holds Tryz.pinned (.plain (OpenSpec.ofChange digitsParsesSpec)) digitsParsesCard

/-- THE TIED CARD OF 'scrimlaw05.DigitsPoint'. -/
def digitsPointCard : Claim7 := { stood := { row := digitsPointRow, standIns := [], harness := (true, "3bc7490511c93cd836913697980ec71bb0338da2773b56263cf4ee5c6bcfe1b9"), looks := false }, kinds := [], alts := [], laidByText := true, laidKinds := [.data, .pinned], laidTests := true, laidLooks := .later }
def DigitsPointCardSaid : Prop := Claim7.holds Tryz.pinned (.plain (OpenSpec.ofChange digitsPointSpec)) digitsPointCard

/-- THE SECOND FORM's CARD OF 'scrimlaw05.DigitsPrints'. -/
def digitsPrintsUptoCard : Claim7 := { stood := { row := digitsPrintsUptoRow, standIns := [], harness := (true, "3bc7490511c93cd836913697980ec71bb0338da2773b56263cf4ee5c6bcfe1b9"), looks := false }, kinds := [], alts := [], laidByText := true, laidKinds := [.data, .pinned], laidTests := true, laidLooks := .later }
def DigitsPrintsUptoCardSaid : Prop := Claim7.holds Tryz.pinned (.plain (OpenSpec.upto digitsPrintsSpec)) digitsPrintsUptoCard

/-- THE SECOND FORM's CARD OF 'scrimlaw05.DigitsParses'. -/
def digitsParsesUptoCard : Claim7 := { stood := { row := digitsParsesUptoRow, standIns := [], harness := (true, "3bc7490511c93cd836913697980ec71bb0338da2773b56263cf4ee5c6bcfe1b9"), looks := false }, kinds := [], alts := [], laidByText := true, laidKinds := [.data, .pinned], laidTests := true, laidLooks := .later }
def DigitsParsesUptoCardSaid : Prop := Claim7.holds Tryz.pinned (.plain (OpenSpec.upto digitsParsesSpec)) digitsParsesUptoCard

/-- THE SECOND FORM's CARD OF 'scrimlaw05.DigitsPoint'. -/
def digitsPointUptoCard : Claim7 := { stood := { row := digitsPointUptoRow, standIns := [], harness := (true, "3bc7490511c93cd836913697980ec71bb0338da2773b56263cf4ee5c6bcfe1b9"), looks := false }, kinds := [], alts := [], laidByText := true, laidKinds := [.data, .pinned], laidTests := true, laidLooks := .later }
def DigitsPointUptoCardSaid : Prop := Claim7.holds Tryz.pinned (.plain (OpenSpec.upto digitsPointSpec)) digitsPointUptoCard
end Rows
end Go.Proofs.YtokdaagjkhkinaaGreatDoor
