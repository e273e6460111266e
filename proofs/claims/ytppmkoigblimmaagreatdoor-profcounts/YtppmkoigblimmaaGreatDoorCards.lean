/-
  DERIVED. GIVEN WITH THE SEED: THE CARDS: each row of YtppmkoigblimmaaGreatDoorRows.lean that lists a variable, with what it lists TIED to the program's text (the seventh form; the later family's looks); each row that meets fmt, with fmt's text TOLD by the authors' own Lean function (tested against real Go, not proved from fmt's source: count such statements apart). THE CARD IS WHAT COUNTS. Prove the row's statement (the work); the ties are given (YtppmkoigblimmaaGreatDoorTie.lean); close each card by the builder's one call (the guide's Derived/Test/ToyasCard.lean, 'card_holds'). Laid BY PROGRAM, IN A SANDBOX (cutbox-door.mjs). By AI agents, Wed Nov 11 2026. No macro, syntax, notation, axiom, sorry.
-/
import Derived.Test.YtppmkoigblimmaaGreatDoorRows
import GoSem.ClaimSeven
namespace Go.Proofs.YtppmkoigblimmaaGreatDoor
namespace Rows

/-- THE TIED CARD OF 'swagelaw9.Profs'. -/
def profsCard : Claim7 := { stood := { row := profsRow, standIns := [], harness := (true, "812bda82e1a40458e8dfd141f08c207631568d80ebc24ad44e2f48ba26e3f76f"), looks := true }, kinds := [], alts := [], laidByText := true, laidKinds := [.data, .data, .data, .handle, .sentinel, .sentinel], laidTests := true, laidLooks := .later }
def ProfsCardSaid : Prop := Claim7.holds Tryz.pinned (.plain (OpenSpec.ofChange profsSpec)) profsCard

/-- THE TIED CARD OF 'swagelaw9.ProfCounts'. -/
def profCountsCard : Claim7 := { stood := { row := profCountsRow, standIns := [], harness := (true, "812bda82e1a40458e8dfd141f08c207631568d80ebc24ad44e2f48ba26e3f76f"), looks := true }, kinds := [], alts := [], laidByText := true, laidKinds := [.data, .data, .data, .handle, .sentinel, .sentinel], laidTests := true, laidLooks := .later }
def ProfCountsCardSaid : Prop := Claim7.holds Tryz.pinned (.plain (OpenSpec.ofChange profCountsSpec)) profCountsCard

/-- THE TIED CARD OF 'swagelaw9.ProfForms'. -/
def profFormsCard : Claim7 := { stood := { row := profFormsRow, standIns := [], harness := (true, "812bda82e1a40458e8dfd141f08c207631568d80ebc24ad44e2f48ba26e3f76f"), looks := true }, kinds := [], alts := [], laidByText := true, laidKinds := [.data, .data, .data, .handle, .sentinel, .sentinel], laidTests := true, laidLooks := .later }
def ProfFormsCardSaid : Prop := Claim7.holds Tryz.pinned (.plain (OpenSpec.ofChange profFormsSpec)) profFormsCard

/-- THE TIED CARD OF 'swagelaw9.ProfFull'. -/
def profFullCard : Claim7 := { stood := { row := profFullRow, standIns := [], harness := (true, "812bda82e1a40458e8dfd141f08c207631568d80ebc24ad44e2f48ba26e3f76f"), looks := true }, kinds := [], alts := [], laidByText := true, laidKinds := [.data, .data, .data, .handle, .sentinel, .sentinel], laidTests := true, laidLooks := .later }
def ProfFullCardSaid : Prop := Claim7.holds Tryz.pinned (.plain (OpenSpec.ofChange profFullSpec)) profFullCard

/-- THE SECOND FORM's CARD OF 'swagelaw9.Profs'. -/
def profsUptoCard : Claim7 := { stood := { row := profsUptoRow, standIns := [], harness := (true, "812bda82e1a40458e8dfd141f08c207631568d80ebc24ad44e2f48ba26e3f76f"), looks := true }, kinds := [], alts := [], laidByText := true, laidKinds := [.data, .data, .data, .handle, .sentinel, .sentinel], laidTests := true, laidLooks := .later }
def ProfsUptoCardSaid : Prop := Claim7.holds Tryz.pinned (.plain (OpenSpec.upto profsSpec)) profsUptoCard

/-- THE SECOND FORM's CARD OF 'swagelaw9.ProfCounts'. -/
def profCountsUptoCard : Claim7 := { stood := { row := profCountsUptoRow, standIns := [], harness := (true, "812bda82e1a40458e8dfd141f08c207631568d80ebc24ad44e2f48ba26e3f76f"), looks := true }, kinds := [], alts := [], laidByText := true, laidKinds := [.data, .data, .data, .handle, .sentinel, .sentinel], laidTests := true, laidLooks := .later }
def ProfCountsUptoCardSaid : Prop := Claim7.holds Tryz.pinned (.plain (OpenSpec.upto profCountsSpec)) profCountsUptoCard

/-- THE SECOND FORM's CARD OF 'swagelaw9.ProfForms'. -/
def profFormsUptoCard : Claim7 := { stood := { row := profFormsUptoRow, standIns := [], harness := (true, "812bda82e1a40458e8dfd141f08c207631568d80ebc24ad44e2f48ba26e3f76f"), looks := true }, kinds := [], alts := [], laidByText := true, laidKinds := [.data, .data, .data, .handle, .sentinel, .sentinel], laidTests := true, laidLooks := .later }
def ProfFormsUptoCardSaid : Prop := Claim7.holds Tryz.pinned (.plain (OpenSpec.upto profFormsSpec)) profFormsUptoCard

/-- THE SECOND FORM's CARD OF 'swagelaw9.ProfFull'. -/
def profFullUptoCard : Claim7 := { stood := { row := profFullUptoRow, standIns := [], harness := (true, "812bda82e1a40458e8dfd141f08c207631568d80ebc24ad44e2f48ba26e3f76f"), looks := true }, kinds := [], alts := [], laidByText := true, laidKinds := [.data, .data, .data, .handle, .sentinel, .sentinel], laidTests := true, laidLooks := .later }
def ProfFullUptoCardSaid : Prop := Claim7.holds Tryz.pinned (.plain (OpenSpec.upto profFullSpec)) profFullUptoCard
end Rows
end Go.Proofs.YtppmkoigblimmaaGreatDoor
