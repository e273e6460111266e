/-
  DERIVED. GIVEN WITH THE SEED: THE CARDS: each row of YtdaloaflmnimaaaGreatDoorRows.lean that lists a variable, with what it lists TIED to the program's text (the seventh form; the later family's looks); each row that meets fmt, with fmt's text TOLD by the authors' own Lean function (tested against real Go, not proved from fmt's source: count such statements apart). THE CARD IS WHAT COUNTS. Prove the row's statement (the work); the ties are given (YtdaloaflmnimaaaGreatDoorTie.lean); close each card by the builder's one call (the guide's Derived/Test/ToyasCard.lean, 'card_holds'). Laid BY PROGRAM, IN A SANDBOX (cutbox-door.mjs). By AI agents, Wed Nov 11 2026. No macro, syntax, notation, axiom, sorry.
-/
import Derived.Test.YtdaloaflmnimaaaGreatDoorRows
import GoSem.ClaimSeven
namespace Go.Proofs.YtdaloaflmnimaaaGreatDoor
namespace Rows

/-- THE TIED CARD OF 'swagelaw6.Frames'. -/
def framesCard : Claim7 := { stood := { row := framesRow, standIns := [], harness := (true, "4f61182ebcd5d6da87617d114aceb11345d3fb13a72f1a65358a96d1375ec51d"), looks := true }, kinds := [], alts := [], laidByText := true, laidKinds := [.data, .data, .data, .handle, .sentinel, .sentinel], laidTests := true, laidLooks := .later }
def FramesCardSaid : Prop := Claim7.holds Tryz.pinned (.plain (OpenSpec.ofChange framesSpec)) framesCard

/-- THE TIED CARD OF 'swagelaw6.FrameStarts'. -/
def frameStartsCard : Claim7 := { stood := { row := frameStartsRow, standIns := [], harness := (true, "4f61182ebcd5d6da87617d114aceb11345d3fb13a72f1a65358a96d1375ec51d"), looks := true }, kinds := [], alts := [], laidByText := true, laidKinds := [.data, .data, .data, .handle, .sentinel, .sentinel], laidTests := true, laidLooks := .later }
def FrameStartsCardSaid : Prop := Claim7.holds Tryz.pinned (.plain (OpenSpec.ofChange frameStartsSpec)) frameStartsCard

/-- THE TIED CARD OF 'swagelaw6.FrameForms'. -/
def frameFormsCard : Claim7 := { stood := { row := frameFormsRow, standIns := [], harness := (true, "4f61182ebcd5d6da87617d114aceb11345d3fb13a72f1a65358a96d1375ec51d"), looks := true }, kinds := [], alts := [], laidByText := true, laidKinds := [.data, .data, .data, .handle, .sentinel, .sentinel], laidTests := true, laidLooks := .later }
def FrameFormsCardSaid : Prop := Claim7.holds Tryz.pinned (.plain (OpenSpec.ofChange frameFormsSpec)) frameFormsCard

/-- THE TIED CARD OF 'swagelaw6.FrameOver'. -/
def frameOverCard : Claim7 := { stood := { row := frameOverRow, standIns := [], harness := (true, "4f61182ebcd5d6da87617d114aceb11345d3fb13a72f1a65358a96d1375ec51d"), looks := true }, kinds := [], alts := [], laidByText := true, laidKinds := [.data, .data, .data, .handle, .sentinel, .sentinel], laidTests := true, laidLooks := .later }
def FrameOverCardSaid : Prop := Claim7.holds Tryz.pinned (.plain (OpenSpec.ofChange frameOverSpec)) frameOverCard

/-- THE TIED CARD OF 'swagelaw6.FrameDeep'. -/
def frameDeepCard : Claim7 := { stood := { row := frameDeepRow, standIns := [], harness := (true, "4f61182ebcd5d6da87617d114aceb11345d3fb13a72f1a65358a96d1375ec51d"), looks := true }, kinds := [], alts := [], laidByText := true, laidKinds := [.data, .data, .data, .handle, .sentinel, .sentinel], laidTests := true, laidLooks := .later }
def FrameDeepCardSaid : Prop := Claim7.holds Tryz.pinned (.plain (OpenSpec.ofChange frameDeepSpec)) frameDeepCard

/-- THE SECOND FORM's CARD OF 'swagelaw6.Frames'. -/
def framesUptoCard : Claim7 := { stood := { row := framesUptoRow, standIns := [], harness := (true, "4f61182ebcd5d6da87617d114aceb11345d3fb13a72f1a65358a96d1375ec51d"), looks := true }, kinds := [], alts := [], laidByText := true, laidKinds := [.data, .data, .data, .handle, .sentinel, .sentinel], laidTests := true, laidLooks := .later }
def FramesUptoCardSaid : Prop := Claim7.holds Tryz.pinned (.plain (OpenSpec.upto framesSpec)) framesUptoCard

/-- THE SECOND FORM's CARD OF 'swagelaw6.FrameStarts'. -/
def frameStartsUptoCard : Claim7 := { stood := { row := frameStartsUptoRow, standIns := [], harness := (true, "4f61182ebcd5d6da87617d114aceb11345d3fb13a72f1a65358a96d1375ec51d"), looks := true }, kinds := [], alts := [], laidByText := true, laidKinds := [.data, .data, .data, .handle, .sentinel, .sentinel], laidTests := true, laidLooks := .later }
def FrameStartsUptoCardSaid : Prop := Claim7.holds Tryz.pinned (.plain (OpenSpec.upto frameStartsSpec)) frameStartsUptoCard

/-- THE SECOND FORM's CARD OF 'swagelaw6.FrameForms'. -/
def frameFormsUptoCard : Claim7 := { stood := { row := frameFormsUptoRow, standIns := [], harness := (true, "4f61182ebcd5d6da87617d114aceb11345d3fb13a72f1a65358a96d1375ec51d"), looks := true }, kinds := [], alts := [], laidByText := true, laidKinds := [.data, .data, .data, .handle, .sentinel, .sentinel], laidTests := true, laidLooks := .later }
def FrameFormsUptoCardSaid : Prop := Claim7.holds Tryz.pinned (.plain (OpenSpec.upto frameFormsSpec)) frameFormsUptoCard

/-- THE SECOND FORM's CARD OF 'swagelaw6.FrameOver'. -/
def frameOverUptoCard : Claim7 := { stood := { row := frameOverUptoRow, standIns := [], harness := (true, "4f61182ebcd5d6da87617d114aceb11345d3fb13a72f1a65358a96d1375ec51d"), looks := true }, kinds := [], alts := [], laidByText := true, laidKinds := [.data, .data, .data, .handle, .sentinel, .sentinel], laidTests := true, laidLooks := .later }
def FrameOverUptoCardSaid : Prop := Claim7.holds Tryz.pinned (.plain (OpenSpec.upto frameOverSpec)) frameOverUptoCard

/-- THE SECOND FORM's CARD OF 'swagelaw6.FrameDeep'. -/
def frameDeepUptoCard : Claim7 := { stood := { row := frameDeepUptoRow, standIns := [], harness := (true, "4f61182ebcd5d6da87617d114aceb11345d3fb13a72f1a65358a96d1375ec51d"), looks := true }, kinds := [], alts := [], laidByText := true, laidKinds := [.data, .data, .data, .handle, .sentinel, .sentinel], laidTests := true, laidLooks := .later }
def FrameDeepUptoCardSaid : Prop := Claim7.holds Tryz.pinned (.plain (OpenSpec.upto frameDeepSpec)) frameDeepUptoCard
end Rows
end Go.Proofs.YtdaloaflmnimaaaGreatDoor
