/-
  DERIVED. GIVEN WITH THE SEED: THE CARDS: each row of YtfnfbebkeoilfaaGreatDoorRows.lean that lists a variable, with what it lists TIED to the program's text (the seventh form; the later family's looks); each row that meets fmt, with fmt's text TOLD by the authors' own Lean function (tested against real Go, not proved from fmt's source: count such statements apart). THE CARD IS WHAT COUNTS. Prove the row's statement (the work); the ties are given (YtfnfbebkeoilfaaGreatDoorTie.lean); close each card by the builder's one call (the guide's Derived/Test/ToyasCard.lean, 'card_holds'). Laid BY PROGRAM, IN A SANDBOX (cutbox-door.mjs). By AI agents, Wed Nov 11 2026. No macro, syntax, notation, axiom, sorry.
-/
import Derived.Test.YtfnfbebkeoilfaaGreatDoorRows
import GoSem.ClaimSeven
namespace Go.Proofs.YtfnfbebkeoilfaaGreatDoor
namespace Rows

/-- THE TIED CARD OF 'swagelaw10.Irs'. -/
def irsCard : Claim7 := { stood := { row := irsRow, standIns := [], harness := (true, "af14792d463d770b1eecd619858a17615b4fc506b811793aef6635ab7fdea3b6"), looks := true }, kinds := [], alts := [], laidByText := true, laidKinds := [.data, .data, .data, .handle, .sentinel, .sentinel], laidTests := true, laidLooks := .later }
def IrsCardSaid : Prop := Claim7.holds Tryz.pinned (.plain (OpenSpec.ofChange irsSpec)) irsCard

/-- THE TIED CARD OF 'swagelaw10.IrForms'. -/
def irFormsCard : Claim7 := { stood := { row := irFormsRow, standIns := [], harness := (true, "af14792d463d770b1eecd619858a17615b4fc506b811793aef6635ab7fdea3b6"), looks := true }, kinds := [], alts := [], laidByText := true, laidKinds := [.data, .data, .data, .handle, .sentinel, .sentinel], laidTests := true, laidLooks := .later }
def IrFormsCardSaid : Prop := Claim7.holds Tryz.pinned (.plain (OpenSpec.ofChange irFormsSpec)) irFormsCard

/-- THE TIED CARD OF 'swagelaw10.IrLeads'. -/
def irLeadsCard : Claim7 := { stood := { row := irLeadsRow, standIns := [], harness := (true, "af14792d463d770b1eecd619858a17615b4fc506b811793aef6635ab7fdea3b6"), looks := true }, kinds := [], alts := [], laidByText := true, laidKinds := [.data, .data, .data, .handle, .sentinel, .sentinel], laidTests := true, laidLooks := .later }
def IrLeadsCardSaid : Prop := Claim7.holds Tryz.pinned (.plain (OpenSpec.ofChange irLeadsSpec)) irLeadsCard

/-- THE SECOND FORM's CARD OF 'swagelaw10.Irs'. -/
def irsUptoCard : Claim7 := { stood := { row := irsUptoRow, standIns := [], harness := (true, "af14792d463d770b1eecd619858a17615b4fc506b811793aef6635ab7fdea3b6"), looks := true }, kinds := [], alts := [], laidByText := true, laidKinds := [.data, .data, .data, .handle, .sentinel, .sentinel], laidTests := true, laidLooks := .later }
def IrsUptoCardSaid : Prop := Claim7.holds Tryz.pinned (.plain (OpenSpec.upto irsSpec)) irsUptoCard

/-- THE SECOND FORM's CARD OF 'swagelaw10.IrForms'. -/
def irFormsUptoCard : Claim7 := { stood := { row := irFormsUptoRow, standIns := [], harness := (true, "af14792d463d770b1eecd619858a17615b4fc506b811793aef6635ab7fdea3b6"), looks := true }, kinds := [], alts := [], laidByText := true, laidKinds := [.data, .data, .data, .handle, .sentinel, .sentinel], laidTests := true, laidLooks := .later }
def IrFormsUptoCardSaid : Prop := Claim7.holds Tryz.pinned (.plain (OpenSpec.upto irFormsSpec)) irFormsUptoCard

/-- THE SECOND FORM's CARD OF 'swagelaw10.IrLeads'. -/
def irLeadsUptoCard : Claim7 := { stood := { row := irLeadsUptoRow, standIns := [], harness := (true, "af14792d463d770b1eecd619858a17615b4fc506b811793aef6635ab7fdea3b6"), looks := true }, kinds := [], alts := [], laidByText := true, laidKinds := [.data, .data, .data, .handle, .sentinel, .sentinel], laidTests := true, laidLooks := .later }
def IrLeadsUptoCardSaid : Prop := Claim7.holds Tryz.pinned (.plain (OpenSpec.upto irLeadsSpec)) irLeadsUptoCard
end Rows
end Go.Proofs.YtfnfbebkeoilfaaGreatDoor
