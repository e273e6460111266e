/-
  DERIVED. GIVEN WITH THE SEED: THE CARDS: each row of YtcngmkbgcfhmdaaGreatDoorRows.lean that lists a variable, with what it lists TIED to the program's text (the seventh form; the later family's looks); each row that meets fmt, with fmt's text TOLD by the authors' own Lean function (tested against real Go, not proved from fmt's source: count such statements apart). THE CARD IS WHAT COUNTS. Prove the row's statement (the work); the ties are given (YtcngmkbgcfhmdaaGreatDoorTie.lean); close each card by the builder's one call (the guide's Derived/Test/ToyasCard.lean, 'card_holds'). Laid BY PROGRAM, IN A SANDBOX (cutbox-door.mjs). By AI agents, Wed Nov 11 2026. No macro, syntax, notation, axiom, sorry.
-/
import Derived.Test.YtcngmkbgcfhmdaaGreatDoorRows
import GoSem.ClaimSeven
namespace Go.Proofs.YtcngmkbgcfhmdaaGreatDoor
namespace Rows

/-- THE TIED CARD OF 'swagelaw7.Steps'. -/
def stepsCard : Claim7 := { stood := { row := stepsRow, standIns := [], harness := (true, "8ce2f962c952337db57778753e74d555c467eb37702223c817e647a3aea5e81b"), looks := true }, kinds := [], alts := [], laidByText := true, laidKinds := [.data, .data, .data, .handle, .sentinel, .sentinel], laidTests := true, laidLooks := .later }
def StepsCardSaid : Prop := Claim7.holds Tryz.pinned (.plain (OpenSpec.ofChange stepsSpec)) stepsCard

/-- THE TIED CARD OF 'swagelaw7.StepKinds'. -/
def stepKindsCard : Claim7 := { stood := { row := stepKindsRow, standIns := [], harness := (true, "8ce2f962c952337db57778753e74d555c467eb37702223c817e647a3aea5e81b"), looks := true }, kinds := [], alts := [], laidByText := true, laidKinds := [.data, .data, .data, .handle, .sentinel, .sentinel], laidTests := true, laidLooks := .later }
def StepKindsCardSaid : Prop := Claim7.holds Tryz.pinned (.plain (OpenSpec.ofChange stepKindsSpec)) stepKindsCard

/-- THE TIED CARD OF 'swagelaw8.Evals'. -/
def evalsCard : Claim7 := { stood := { row := evalsRow, standIns := [], harness := (true, "8ce2f962c952337db57778753e74d555c467eb37702223c817e647a3aea5e81b"), looks := true }, kinds := [], alts := [], laidByText := true, laidKinds := [.data, .data, .data, .handle, .sentinel, .sentinel], laidTests := true, laidLooks := .later }
def EvalsCardSaid : Prop := Claim7.holds Tryz.pinned (.plain (OpenSpec.ofChange evalsSpec)) evalsCard

/-- THE SECOND FORM's CARD OF 'swagelaw7.Steps'. -/
def stepsUptoCard : Claim7 := { stood := { row := stepsUptoRow, standIns := [], harness := (true, "8ce2f962c952337db57778753e74d555c467eb37702223c817e647a3aea5e81b"), looks := true }, kinds := [], alts := [], laidByText := true, laidKinds := [.data, .data, .data, .handle, .sentinel, .sentinel], laidTests := true, laidLooks := .later }
def StepsUptoCardSaid : Prop := Claim7.holds Tryz.pinned (.plain (OpenSpec.upto stepsSpec)) stepsUptoCard

/-- THE SECOND FORM's CARD OF 'swagelaw7.StepKinds'. -/
def stepKindsUptoCard : Claim7 := { stood := { row := stepKindsUptoRow, standIns := [], harness := (true, "8ce2f962c952337db57778753e74d555c467eb37702223c817e647a3aea5e81b"), looks := true }, kinds := [], alts := [], laidByText := true, laidKinds := [.data, .data, .data, .handle, .sentinel, .sentinel], laidTests := true, laidLooks := .later }
def StepKindsUptoCardSaid : Prop := Claim7.holds Tryz.pinned (.plain (OpenSpec.upto stepKindsSpec)) stepKindsUptoCard

/-- THE SECOND FORM's CARD OF 'swagelaw8.Evals'. -/
def evalsUptoCard : Claim7 := { stood := { row := evalsUptoRow, standIns := [], harness := (true, "8ce2f962c952337db57778753e74d555c467eb37702223c817e647a3aea5e81b"), looks := true }, kinds := [], alts := [], laidByText := true, laidKinds := [.data, .data, .data, .handle, .sentinel, .sentinel], laidTests := true, laidLooks := .later }
def EvalsUptoCardSaid : Prop := Claim7.holds Tryz.pinned (.plain (OpenSpec.upto evalsSpec)) evalsUptoCard
end Rows
end Go.Proofs.YtcngmkbgcfhmdaaGreatDoor
