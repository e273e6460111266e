/-
  DERIVED. GIVEN WITH THE SEED: THE CARDS: each row of YtnmhoahkmampkaaDoorRows.lean that lists a variable, with what it lists TIED to the program's text (the seventh form; the later family's looks); each row that meets fmt, with fmt's text TOLD by the authors' own Lean function (tested against real Go, not proved from fmt's source: count such statements apart). THE CARD IS WHAT COUNTS. Prove the row's statement (the work); the ties are given (YtnmhoahkmampkaaDoorTie.lean); close each card by the builder's one call (the guide's Derived/Test/ToyasCard.lean, 'card_holds'). Laid BY PROGRAM, IN A SANDBOX (cutbox-door.mjs). By AI agents, Wed Nov 11 2026. No macro, syntax, notation, axiom, sorry.
-/
import Derived.Test.YtnmhoahkmampkaaDoorRows
import GoSem.ClaimSeven
namespace Go.Proofs.YtnmhoahkmampkaaDoor
namespace Rows

/-- THE TIED CARD OF 'swagelaw5.VerifyForms'. -/
def verifyFormsCard : Claim7 := { stood := { row := verifyFormsRow, standIns := [], harness := (true, "40da2d16cb8ddcb59ff9715e7f027a4318c6af9b6c28cd85eb6285048dfd96d7"), looks := true }, kinds := [], alts := [], laidByText := true, laidKinds := [.data, .data, .data, .handle, .sentinel, .sentinel], laidTests := true, laidLooks := .later }
def VerifyFormsCardSaid : Prop := Claim7.holds Tryd.pinned (.plain (OpenSpec.ofChange verifyFormsSpec)) verifyFormsCard

/-- THE TIED CARD OF 'swagelaw5.VerifyHeights'. -/
def verifyHeightsCard : Claim7 := { stood := { row := verifyHeightsRow, standIns := [], harness := (true, "40da2d16cb8ddcb59ff9715e7f027a4318c6af9b6c28cd85eb6285048dfd96d7"), looks := true }, kinds := [], alts := [], laidByText := true, laidKinds := [.data, .data, .data, .handle, .sentinel, .sentinel], laidTests := true, laidLooks := .later }
def VerifyHeightsCardSaid : Prop := Claim7.holds Tryd.pinned (.plain (OpenSpec.ofChange verifyHeightsSpec)) verifyHeightsCard

/-- THE SECOND FORM's CARD OF 'swagelaw5.VerifyForms'. -/
def verifyFormsUptoCard : Claim7 := { stood := { row := verifyFormsUptoRow, standIns := [], harness := (true, "40da2d16cb8ddcb59ff9715e7f027a4318c6af9b6c28cd85eb6285048dfd96d7"), looks := true }, kinds := [], alts := [], laidByText := true, laidKinds := [.data, .data, .data, .handle, .sentinel, .sentinel], laidTests := true, laidLooks := .later }
def VerifyFormsUptoCardSaid : Prop := Claim7.holds Tryd.pinned (.plain (OpenSpec.upto verifyFormsSpec)) verifyFormsUptoCard

/-- THE SECOND FORM's CARD OF 'swagelaw5.VerifyHeights'. -/
def verifyHeightsUptoCard : Claim7 := { stood := { row := verifyHeightsUptoRow, standIns := [], harness := (true, "40da2d16cb8ddcb59ff9715e7f027a4318c6af9b6c28cd85eb6285048dfd96d7"), looks := true }, kinds := [], alts := [], laidByText := true, laidKinds := [.data, .data, .data, .handle, .sentinel, .sentinel], laidTests := true, laidLooks := .later }
def VerifyHeightsUptoCardSaid : Prop := Claim7.holds Tryd.pinned (.plain (OpenSpec.upto verifyHeightsSpec)) verifyHeightsUptoCard
end Rows
end Go.Proofs.YtnmhoahkmampkaaDoor
